import Derived.Test.YtffajooegiempaaGreatDoorK21
set_option maxRecDepth 100000
set_option maxHeartbeats 6400000
namespace Go.Proofs.YtffajooegiempaaGreatDoor
open Go.RowKit Go.Proofs.Tryz
variable {C:Nat->Int}
def vz(f t:Nat):List Int:=(C5 f).set t 0
def YV(a l:List Int)(k:Int):List Int:=[AK a 0+k*AK l 0,AK a 1+k*AK l 1,AK a 2+k*AK l 2,AK a 3+k*AK l 3]
def Fh(f t:Nat)(star:Bool)(l:List Int):List Int:=if AK (C5 f) t≠0/\star=false then YV (vz f t) l (AK (C5 f) t)else vz f t
def Zc(f t:Nat)(star:Bool)(num:Int):Int:=if AK (C5 f) t=0 then 0 else if star=true then 999 else AK (C5 f) t*num
def pn(g n:Int):Int:=if g=NB then NB else g+n
def Kv(C:Nat->Int)(u:St)(f:Nat):Int:=pn (IS C (Fh f u.var.toNat u.star u.sg)) (Zc f u.var.toNat u.star u.num)
def aB(f t:Nat):Bool:=
 (decide (AK (C5 f) t=0)&& !decide (C6 t (fs f))&& !decide (C6 t (ss f))&&decide (Ar (vz f t)=f))||
 (decide (f<8)&&decide (C6 t (fs f))&&decide (Ar (vz f t)= -1)&&z4 (vz f t)&&decide (AK (C5 f) t=if fs f=2*t then 1 else -1))||
 (decide (8<=f)&&decide (C6 t (fs f))&& !decide (C6 t (ss f))&&decide (Ar (vz f t)=ss f)&&decide (AK (C5 f) t=if fs f=2*t then 1 else -1))||
 (decide (8<=f)&&decide (C6 t (ss f))&& !decide (C6 t (fs f))&&decide (Ar (vz f t)=fs f)&&decide (AK (C5 f) t=if ss f=2*t then 1 else -1))
theorem WS:∀t:Nat,t<4->∀f,f<32->aB f t=true:=by decide +kernel
theorem W5(C:Nat->Int){j:Nat}(hj:j<8):mo C j j=bd C j:=by
 obtain⟨e1,e2⟩:=Eo j hj;unfold mo bd;rw[e1,e2]
theorem IT{l:List Int}{f:Nat}(h:Ar l=(f:Int)):IS C l=bd C f:=by
 unfold IS;rw[h,bA (by omega),bK]
theorem Np{l:List Int}(h:Ar l= -1)(hz:z4 l=true):IS C l=0:=by
 unfold IS;rw[h,a_ (by decide),bA hz]
theorem Wp(C:Nat->Int){t:Nat}(p:t<4){lo hi:Int}(A: -999<=lo/\lo<=999)(v: -999<=hi/\hi<=999){f:Nat}(o:f<32):
  bd (FI C t lo hi) f=pn (IS C (vz f t)) (if AK (C5 f) t=0 then 0 else if AK (C5 f) t=1 then hi else -lo):=by
 have D:=D5 f o;have E:=D7 f o;have T:=WS t p f o;unfold aB at T;simp only[cV,cA,Bool.not_eq_true',cD,decide_eq_false_iff_not]at T;have B:∀i,C6 t i->uF C t lo hi i=(if i=2*t then hi else -lo)/\(-999<=uF C t lo hi i/\uF C t lo hi i<=999):=by
  intro i q;unfold uF;by_cases z:i=2*t
  .rw[bA z,bA z];exact⟨rfl,v⟩
  .rw[a_ z,a_ z,bA (q.resolve_left z)];exact⟨rfl,by omega⟩
 rcases T with((⟨⟨⟨k,w⟩,K⟩,hn⟩|⟨⟨⟨⟨s,w⟩,hn⟩,hz⟩,k⟩)|⟨⟨⟨⟨s,w⟩,K⟩,hn⟩,k⟩)|⟨⟨⟨⟨s,w⟩,K⟩,hn⟩,k⟩
 .rw[IT hn,bA k];have e:bd (FI C t lo hi) f=bd C f:=by
   unfold bd;rw[Dx C p A v D E];unfold Po;rw[a_ w,a_ K]
  rw[e];unfold pn;by_cases q:bd C f=NB
  .rw[bA q,q]
  .rw[a_ q,Int.add_zero]
 .obtain⟨e1,e2⟩:=Eo f s;rw[Np hn hz];have J:FI C t lo hi (f*8+f)=if f=2*t then 2*hi else 2* -lo:=by
   rw[Dx C p A v s s];unfold Po;rw[e1]at w;rw[bA w,bA w,bA rfl]
  have e:bd (FI C t lo hi) f=if fs f=2*t then hi else -lo:=by
   unfold bd;rw[e1,e2,J];by_cases z:f=2*t
   .rw[bA z,bA z,bA ⟨rfl,by unfold NB;omega⟩];have:=EF (x:=2*hi) (by omega);omega
   .rw[a_ z,a_ z,bA ⟨rfl,by unfold NB;omega⟩];have:=EF (x:=2* -lo) (by omega);omega
  rw[e,k];unfold pn;rw[a_ (show¬(0:Int)=NB by decide)];by_cases z:fs f=2*t
  .rw[bA z,bA z,a_ (by omega),bA rfl,Int.zero_add]
  .rw[a_ z,a_ z,a_ (by omega),a_ (by omega),Int.zero_add]
 .rw[IT hn];have e:bd (FI C t lo hi) f=pl (uF C t lo hi (fs f)) (bd C (ss f)):=by
   unfold bd;rw[Dx C p A v D E,a_ (λz=>G7 f o s z.1)];unfold Po;rw[bA w,a_ K,W5 C E];rfl
  obtain⟨M,u2⟩:=B _ w;rw[e,M,k];unfold pn pl;by_cases q:bd C (ss f)=NB
  .rw[bA (.inr q),bA q]
  .rw[a_ q,a_ (λz=>z.elim (λy=>by rw[<-M]at y;unfold NB at y;omega) q)];by_cases z:fs f=2*t
   .rw[bA z,bA z,a_ (by omega),bA rfl,Int.add_comm]
   .rw[a_ z,a_ z,a_ (by omega),a_ (by omega),Int.add_comm]
 .rw[IT hn];have e:bd (FI C t lo hi) f=pl (uF C t lo hi (ss f)) (bd C (fs f)):=by
   unfold bd;rw[Dx C p A v D E,a_ (λz=>G7 f o s z.1)];unfold Po;rw[a_ K,bA w,W5 C D];rfl
  obtain⟨M,u2⟩:=B _ w;rw[e,M,k];unfold pn pl;by_cases q:bd C (fs f)=NB
  .rw[bA (.inr q),bA q]
  .rw[a_ q,a_ (λz=>z.elim (λy=>by rw[<-M]at y;unfold NB at y;omega) q)];by_cases z:ss f=2*t
   .rw[bA z,bA z,a_ (by omega),bA rfl,Int.add_comm]
   .rw[a_ z,a_ z,a_ (by omega),a_ (by omega),Int.add_comm]
def kk(t i:Nat):Int:=if i=2*t then 1 else if i=2*t+1 then -1 else 0
theorem Oh(t:Nat)(n:Int)(i:Nat):BK t n i=kk t i*n:=by
 unfold BK kk;split
 .omega
 .split<;>omega
def Pu(t m f:Nat):List Int:=if AK (C5 f) t≠0 then YV (vz f t) (C5 m) (AK (C5 f) t)else vz f t
def aC(t m f:Nat):Bool:=
 (decide (f<8)&&decide (Ar (Pu t m f)=Ak t m f)&&decide (kk t f=AK (C5 f) t))||
 (decide (8<=f)&&decide (kk t (fs f)+kk t (ss f)=AK (C5 f) t)&&
  ((decide (Ak t m (ss f)=Ak t m (fs f))&&decide (Ar (Pu t m f)= -1)&& !z4 (Pu t m f)&&decide (Ar (CH (Pu t m f))=Ak t m (fs f)))||
   (decide (Ak t m (ss f)=opp (Ak t m (fs f)))&&decide (Ar (Pu t m f)= -1)&&z4 (Pu t m f))||
   (decide (Ak t m (ss f)≠Ak t m (fs f))&&decide (Ak t m (ss f)≠opp (Ak t m (fs f)))&&decide (Ar (Pu t m f)=nf (Ak t m (fs f)) (Ak t m (ss f))))))
theorem WW:∀t:Nat,t<4->∀m,m<8->∀f,f<32->aC t m f=true:=by decide +kernel
theorem ZT(h:TC C)(hb:Bd 56000 C){t m:Nat}(p:t<4)(r:m<8){n:Int}(hn: -999<=n/\n<=999){f:Nat}(o:f<32):
  bd (DO C t m n 64) f=pn (IS C (Pu t m f)) (AK (C5 f) t*n):=by
 have D:=D5 f o;have E:=D7 f o;have S:=Cv (t:=t) r D;have o2:=Cv (t:=t) r E;have T:=WW t p m r f o;unfold aC at T;simp only[cV,cA,Bool.not_eq_true',cD]at T;have I:Bd 60000 C:=hb.mono (by decide);have r1:=Cm (t:=t) hn (fs f);have r2:=Cm (t:=t) hn (ss f);have P:=N6 (I (Ak t m (fs f)*8+Ak t m (ss f)) (by omega)) (a:=BK t n (fs f)+BK t n (ss f)) ⟨by omega,by omega⟩;unfold bd;rw[Hd C t m n D E];rcases T with⟨⟨s,O⟩,k⟩|⟨⟨s,k⟩,T⟩
 .obtain⟨e1,e2⟩:=Eo f s;rw[IT O,<-k];rw[e1,e2]at P|-;rw[Oh]at P|-;have L:=h.lo (Cv (t:=t) r s);unfold pn;by_cases q:C (Ak t m f*8+Ak t m f)=NB
  .rw[P.1 q,a_ (λz=>z.2 rfl),bA (L.1 q)]
  .obtain⟨U,X⟩:=P.2 q;obtain⟨Q,R⟩:=L.2 q;rw[bA ⟨rfl,X⟩,a_ R,U,<-Q];have:=EF (x:=2*bd C (Ak t m f)+(kk t f*n+kk t f*n)) (by omega);omega
 .have N:=G7 f o s;rw[a_ (λz=>N z.1)];have Y:BK t n (fs f)+BK t n (ss f)=AK (C5 f) t*n:=by rw[Oh,Oh,<-k,Int.add_mul]
  rw[Y]at P|-;unfold pn;rcases T with(⟨⟨⟨F,G⟩,H⟩,q4⟩|⟨⟨F,G⟩,H⟩)|⟨⟨F,G⟩,H⟩
  .have L:=h.lo S;have Z:IS C (Pu t m f)=if bd C (Ak t m (fs f))=NB then NB else 2*bd C (Ak t m (fs f)):=by
    unfold IS;rw[G,a_ (by decide),H,a_ (by decide),q4,bK]
   rw[Z];rw[F]at P|-;by_cases q:C (Ak t m (fs f)*8+Ak t m (fs f))=NB
   .rw[P.1 q,bA (L.1 q),bA rfl]
   .obtain⟨U,X⟩:=P.2 q;obtain⟨Q,R⟩:=L.2 q;have:=(I (Ak t m (fs f)*8+Ak t m (fs f)) (by omega)).resolve_left q;rw[a_ R,a_ (by unfold NB;omega),U,Q]
  .rw[Np G H,a_ (by decide)];have z:C (Ak t m (fs f)*8+Ak t m (ss f))=0:=by rw[F];exact h.zero _ S
   rw[(P.2 (by rw[z];decide)).1,z]
  .rw[IT H,IC h.sym S o2 (λz=>F z.symm) G];by_cases q:C (Ak t m (fs f)*8+Ak t m (ss f))=NB
   .rw[P.1 q,bA q]
   .rw[(P.2 q).1,a_ q]
def ZF(l:List Int):Bool:=decide (1<nz l)||(decide (l=[0,0,0,0])&&decide (CF l=opp (C4 l)))||(List.range 8).any λf=>decide (l=C5 f)&&decide (CF l=f)&&decide (CF l≠opp (C4 l))
theorem Ts:(OO.all λa=>OO.all λb=>OO.all λc=>OO.all λd=>ZF [a,b,c,d])=true:=by decide +kernel
theorem Tt{l:List Int}(hl:l.length=4)(h:∀i, -1<=AK l i/\AK l i<=1)(h1:nz l<=1):(l=[0,0,0,0]/\CF l=opp (C4 l))\/∃f,f<8/\l=C5 f/\CF l=f/\CF l≠opp (C4 l):=by
 obtain⟨a,b,c,d,rfl⟩:=C0 hl;have t:=Ts;simp only[List.all_eq_true]at t;have V:=t a (Ca (h 0)) b (Ca (h 1)) c (Ca (h 2)) d (Ca (h 3));unfold ZF at V;simp only[cV,cA,cD,List.any_eq_true,List.mem_range]at V;rcases V with(q|q)|⟨f,o,⟨F,G⟩,H⟩
 .omega
 .exact .inl q
 .exact .inr ⟨f,o,F,G,H⟩
theorem Uw(f t:Nat)(k:Int):f<32->t<4->YV (vz f t) [0,0,0,0] k=vz f t:=by
 intro o p;have hz:∀i:Nat,i<4->AK [0,0,0,0] i=(0:Int):=by decide
 unfold YV;rw[hz 0 (by omega),hz 1 (by omega),hz 2 (by omega),hz 3 (by omega)];simp only[Int.mul_zero,Int.add_zero];exact(show∀t:Nat,t<4->∀f,f<32->[AK (vz f t) 0,AK (vz f t) 1,AK (vz f t) 2,AK (vz f t) 3]=vz f t by decide +kernel) t p f o
theorem Wy:∀t:Nat,t<4->∀f,f<32->AK (C5 f) t=0\/AK (C5 f) t=1\/AK (C5 f) t= -1:=by decide +kernel
theorem S0:∀t:Nat,t<4->∀f,f<32->Ky (vz f t)=true/\(vz f t).length=4/\∀i,i<4-> -2<=AK (vz f t) i/\AK (vz f t) i<=2:=by decide +kernel
theorem Xa:∀t:Nat,t<4->∀m,m<8->∀f,f<32->Ky (Pu t m f)=true/\(Pu t m f).length=4/\∀i,i<4-> -2<=AK (Pu t m f) i/\AK (Pu t m f) i<=2:=by decide +kernel
theorem NK(f t:Nat)(l:List Int):Fh f t true l=vz f t:=a_ (λz=>by cases z.2)
theorem NJ{f t:Nat}(o:f<32)(p:t<4):Fh f t false [0,0,0,0]=vz f t:=by
 unfold Fh;split
 .exact Uw f t _ o p
 .rfl
theorem QE(f t m:Nat):Fh f t false (C5 m)=Pu t m f:=by
 unfold Fh Pu;by_cases q:AK (C5 f) t≠0
 .rw[bA ⟨q,rfl⟩,bA q]
 .rw[a_ (λz=>q z.1),a_ q]
theorem VS(h:TC C)(hb:Bd 56000 C){x:Ds}{u:St}(hc:OX x u)(B:SI u)(O:0<=u.var/\u.var<=3)(h1:nz u.sg<=1){f:Nat}(o:f<32):bd (JF C x) f=Kv C u f:=by
 obtain⟨_,c1,c2,c3,c4⟩:=hc;have n:=B.num;unfold JF Kv;rw[<-c1,<-c2,<-c3,<-c4];have p:u.var.toNat<4:=by omega
 have hk:=Wy _ p f o;generalize u.var.toNat=t at *;unfold Zc;cases hs:u.star with
 |true=>
  rw[bA rfl,NK,Wp C p ⟨by omega,by omega⟩ ⟨by omega,by omega⟩ o,bA rfl]
  congr 1
  by_cases q:AK (C5 f) t=0
  .rw[bA q,bA q]
  .rw[a_ q,a_ q];split<;>omega
 |false=>
  rw[a_ (show¬(false=true) by decide),a_ (show¬(false=true) by decide)];rcases Tt B.len B.sg h1 with⟨e1,e2⟩|⟨m,r,e1,e2,W⟩
  .rw[bA e2,e1,NJ o p,Wp C p ⟨by omega,by omega⟩ ⟨by omega,by omega⟩ o]
   congr 1
   by_cases q:AK (C5 f) t=0
   .rw[bA q,bA q]
   .rw[a_ q,a_ q];rcases hk with z|z|z
    .exact absurd z q
    .rw[z,bA rfl];omega
    .rw[z,a_ (by decide)];omega
  .rw[a_ W,e2,ZT h hb p r ⟨by omega,by omega⟩ o];rw[e1,QE]
   congr 1
   by_cases q:AK (C5 f) t=0
   .rw[bA q,q];omega
   .rw[a_ q]
theorem XZ{u:St}(B:SI u)(O:0<=u.var/\u.var<=3)(h1:nz u.sg<=1){f:Nat}(o:f<32):Ky (Fh f u.var.toNat u.star u.sg)=true/\(Fh f u.var.toNat u.star u.sg).length=4/\∀i,i<4-> -2<=AK (Fh f u.var.toNat u.star u.sg) i/\AK (Fh f u.var.toNat u.star u.sg) i<=2:=by
 have p:u.var.toNat<4:=by omega
 generalize u.var.toNat=t at *;cases hs:u.star with
 |true=>rw[NK];exact S0 t p f o
 |false=>
  rcases Tt B.len B.sg h1 with⟨e1,e2⟩|⟨m,r,e1,e2,W⟩
  .rw[e1,NJ o p];exact S0 t p f o
  .rw[e1,QE];exact Xa t p m r f o
variable {w:World}
def LD(a l:List Int)(k:Int):Nat->List Int
 |0=>a
 |j+1=>(LD a l k j).set j (AK a j+k*AK l j)
theorem Qy(a l:List Int)(k:Int)(ha:a.length=4):∀j,j<=4->(LD a l k j).length=4/\∀i,j<=i->(LD a l k j).getD i 0=AK a i
 |0,_=>⟨ha,λ_ _=>rfl⟩
 |j+1,L=>by
  obtain⟨h1,h2⟩:=Qy a l k ha j (by omega);refine⟨by rw[LD,b8];exact h1,λi hi=>?_⟩;rw[LD,<-h2 i (by omega)];simp[List.getD,show¬j=i by omega]
theorem X8(a l:List Int)(k:Int)(ha:a.length=4):LD a l k 4=YV a l k:=by
 obtain⟨x,y,z,t,rfl⟩:=C0 ha;rfl
def ZV(w:World)(R:Nat->Int):Ending->World->Prop:=λe w'=>dc w w'/\∃g,e=.returned (.slice (some ⟨g,0,none⟩) 32 32)/\w.heap.size<=g/\At w' g (ic (rl R)) tNk
theorem PY(hS:Sm C)(uv:Value)(u:St)(hu:SI u)(hv:0<=u.var/\u.var<=3)(h1:nz u.sg<=1)(hr:AQ w uv (Bl C))(p q:Nat)(hp:p<w.heap.size)
  (x1:w.cell? ⟨p,1,none⟩=some (.int .i64 u.var)) (x2:w.cell? ⟨p,2,none⟩=some (.bool u.star)) (x3:w.cell? ⟨p,3,none⟩=some (.slice (some ⟨q,0,none⟩) 4 4)) (x4:w.cell? ⟨p,4,none⟩=some (.int .i64 u.num)) (hq:At w q (ic u.sg) tNk):
  Calls prog 60 #[uv,.pointer (some ⟨p,0,none⟩)] w (ZV w (Kv C u)):=by
 have aL:∀w,(Instr.makeSlice 32 (.int .i64 32) (.int .i64 32)).run prog w=.ok (.slice (some ⟨w.heap.size,0,none⟩) 32 32) (w.alloc (.cells (ic (rl λ_=>0)) tNk)):=λ_=>by kernel_rfl
 obtain⟨t,ax⟩:∃t:Nat,u.var=(t:Int):=⟨u.var.toNat,by omega⟩
 have ak:u.var.toNat=t:=by omega
 have aj:t<4:=by omega
 have a4:(t:Int)<4:=by omega
 rw[ax]at x1;have T:Hid (∀f,f<32->(Fh f t u.star u.sg).length=4/\(∀i,i<4-> -2<=AK (Fh f t u.star u.sg) i/\AK (Fh f t u.star u.sg) i<=2)/\Ky (Fh f t u.star u.sg)=true):=λf hf=>by
  have:=XZ hu hv h1 hf;rw[ak]at this;exact⟨this.2.1,this.2.2,this.1⟩
 have aA:Hid (∀f,Kv C u f=pn (IS C (Fh f t u.star u.sg)) (Zc f t u.star u.num)):=λf=>by unfold Kv;rw[ak]
 have ab:Hid (∀D b l,At D b (ic l) tNk/\dc w D->l.length=4->(∀i,i<4-> -2<=AK l i/\AK l i<=2)->Ky l=true->Calls prog 97 #[uv,.slice (some ⟨b,0,none⟩) 4 4] D λe w'=>e=.returned (.int .i64 (IS C l))/\dc D w'):=λD b l ay h4 hl hc=>
  OH C uv _ l h4 hl hc hS (hr.keep ay.2) (AQ.at_ ay.1 h4 (bB _) (λi hi=>Aa _ _ (by omega)))
 have ac:Hid (∀f,f<32-> -400000000000000000<=IS C (Fh f t u.star u.sg)/\IS C (Fh f t u.star u.sg)<=3000000000000):=by
  intro f hf;have N:=(T.out f hf).2.2;unfold Ky at N;unfold IS;split
  .have d:Ar (Fh f t u.star u.sg)<32:=by
    simp only[cV,cA,cD]at N;omega
   have:=Jv hS (show(Ar (Fh f t u.star u.sg)).toNat<32 by omega);omega
  .split
   .omega
   .rename_i h1 h2;have d:Ar (CH (Fh f t u.star u.sg))<32:=by
     have aH:z4 (Fh f t u.star u.sg)=false:=by simpa using h2
     rw[aH]at N;simp only[cV,cA,cD]at N;rcases N with(h|h)|h
     .omega
     .cases h.2
     .exact h.2
    have:=Jv hS (show(Ar (CH (Fh f t u.star u.sg))).toNat<32 by omega);split
    .unfold NB;omega
    .omega
 have aB:Hid (∀f,f<32->AK (C5 f) t=0\/AK (C5 f) t=1\/AK (C5 f) t= -1):=Wy t aj;have am:Hid (∀f,f<32->(C5 f).length=4):=(show∀f:Nat,f<32->(C5 f).length=4 by decide)
 obtain⟨n1,n2⟩:=hu.num;have aO:=hu.sg;have ap:Hid (At w q (ic u.sg) tNk/\u.sg.length=4):=⟨hq,hu.len⟩
 have aw:=hq.lt;have HX:Hid (∀D,dc w D->(D.cell? ⟨p,1,none⟩=some (.int .i64 (t:Int))/\D.cell? ⟨p,2,none⟩=some (.bool u.star)/\D.cell? ⟨p,3,none⟩=some (.slice (some ⟨q,0,none⟩) 4 4)/\D.cell? ⟨p,4,none⟩=some (.int .i64 u.num))/\p<D.heap.size):=λD hb=>
  ⟨⟨(hb.cell (p:=⟨p,1,none⟩) hp).trans x1,(hb.cell (p:=⟨p,2,none⟩) hp).trans x2,(hb.cell (p:=⟨p,3,none⟩) hp).trans x3,(hb.cell (p:=⟨p,4,none⟩) hp).trans x4⟩,bM hp hb.size⟩
 have aa:Hid (At (w.alloc (.cells (ic (rl λ_=>0)) tNk)) w.heap.size (ic (rl λ_=>0)) tNk/\dc w (w.alloc (.cells (ic (rl λ_=>0)) tNk))):=⟨At.new _ _ _,(bC _ _).alloc (bB _) _⟩
 obtain⟨zl,Q⟩:∃zl,zl=ic (rl λ_=>0):=⟨_,rfl⟩
 rw[<-Q]at aL;obtain⟨Z,hZ⟩:∃Z:Nat->Int,Z=λ_=>0:=⟨_,rfl⟩
 rw[<-Q]at aa;have S:Hid (At (w.alloc (.cells zl tNk)) w.heap.size (ic (rl Z)) tNk/\dc w (w.alloc (.cells zl tNk))):=by rw[hZ,<-Q];exact aa.out
 obtain⟨ao,ca,rfl, -, -⟩:=hr;clear Q hZ aa hq hS hu hv h1 ak ax x1 x2 x3 x4;go_enter func60,ntmps60;go_wp2_with fail;go_loopw [6] (λfv wr=>∃(f:Nat)(R:Nat->Int),f<=32/\fv=.int .i64 f/\Hid (At wr w.heap.size (ic (rl R)) tNk/\(∀j,j<f->R j=Kv C u j)/\dc w wr)) (λfv _=>32-(intOf fv).toNat);case atStart=>exact⟨0,Z,by omega,rfl,S.out.1,λj L=>absurd L (by omega),S.out.2⟩
 case round=>
  obtain⟨f,R,hf,rfl,B⟩:=hrel;by_cases d:f<32
  .have aU:(f:Int)<32:=by omega
   have av:=Pa (w:=wr) f d;have s:=(show Hid (_/\_/\_)from T.out f d)
   obtain⟨nn,ah⟩:∃nn,nn=Zc f t u.star u.num:=⟨_,rfl⟩
   have P:Hid (Kv C u f=pn (IS C (Fh f t u.star u.sg)) nn):=by rw[ah];exact aA.out f
   have G:Hid (nn=if AK (C5 f) t=0 then 0 else if u.star=true then 999 else AK (C5 f) t*u.num):=ah;have F:Hid (Fh f t u.star u.sg=if AK (C5 f) t≠0/\u.star=false then YV (vz f t) u.sg (AK (C5 f) t)else vz f t):=rfl;clear ah;go_wp2_with fail;refine av.mono ?_;rintro e K ⟨rfl,H,ae⟩;obtain⟨m,ad⟩:∃m,m=wr.heap.size:=⟨_,rfl⟩
   rw[<-ad]at H|-;have aT:w.heap.size<m:=by rw[ad];exact B.out.1.lt
   have H2:Hid (At K m (ic (C5 f)) tNk/\At K w.heap.size (ic (rl R)) tNk/\dc w K):=⟨H,At.keep B.out.1 ae B.out.1.lt,B.out.2.2.trans (ae.mono B.out.2.2.size)⟩
   have ck:K.cell? ⟨m,t,none⟩=some (.int .i64 (AK (C5 f) t)):=by rw[H.cell];exact Aa _ _ (by rw[am.out f d];exact aj)
   have aS:=H.free;have aQ:=H.lt;obtain⟨⟨y1,y2,y3,y4⟩,a1⟩:=HX.out K H2.out.2.2;have a0:p≠m:=by omega
   have af:=aB.out f d;clear av H ae ad;generalize hk:AK (C5 f) t=k at *;have E:Hid (At (K.setCell ⟨m,t,none⟩ (.int .i64 0)) m (ic (vz f t)) tNk/\At (K.setCell ⟨m,t,none⟩ (.int .i64 0)) w.heap.size (ic (rl R)) tNk/\dc w (K.setCell ⟨m,t,none⟩ (.int .i64 0))):=by
    refine⟨?_,H2.out.2.1.other _ _ (by omega),H2.out.2.2.setCell (by show w.heap.size<=m;omega) _⟩;unfold vz;rw[<-Be];exact H2.out.1.put t _
   by_cases Y:k=0
   .subst Y;have I:nn=0:=by rw[G.out,bA rfl]
    subst I;have V:Hid (Fh f t u.star u.sg=vz f t):=by show _=_;rw[F.out,a_ (λz=>z.1 rfl)]
    have H4:Hid (At (K.setCell ⟨m,t,none⟩ (.int .i64 0)) m (ic (Fh f t u.star u.sg)) tNk/\dc w (K.setCell ⟨m,t,none⟩ (.int .i64 0))):=by rw[V.out];exact⟨E.out.1,E.out.2.2⟩
    clear V F G;have v:=ab.out _ m (Fh f t u.star u.sg) H4.out s.out.1 s.out.2.1 s.out.2.2;go_wp2_with fail;refine v.mono ?_;rintro e O ⟨rfl,r⟩;have n:Hid (At O w.heap.size (ic (rl R)) tNk/\dc w O):=⟨At.keep E.out.2.1 r (At.lt E.out.2.1),(E.out.2.2).trans (r.mono (E.out.2.2).size)⟩
    have aq:=n.out.1.free;have W:=n.out.1.lt;obtain⟨x7,az⟩:∃x,O.cell? ⟨w.heap.size,f,none⟩=some x:=⟨_,DK n.out.1 d⟩
    clear r v;obtain⟨g1,g2⟩:=ac.out f d;have U:Hid (Kv C u f=pn (IS C (Fh f t u.star u.sg)) 0):=P.out;generalize IS C (Fh f t u.star u.sg)=gg at *;by_cases M:gg=1000000
    .subst M;have o:Hid (Kv C u f=1000000):=by show _=_;rw[U.out];rfl
     go_wp2_with fail;go_roundw
     case rel=>exact⟨f+1,Bw R f 1000000,by omega,by go_num,by rw[<-EE,<-Be];exact n.out.1.put f _,λj L=>by
      by_cases e:j=f
      .rw[e,CV,o.out]
      .rw[BO _ _ e];exact B.out.2.1 j (by omega),n.out.2.setCell (bB _) _⟩
     case measure=>simp[intOf];omega
    .have ar:(gg != 1000000)=true:=by rw[cI];exact M
     have o:Hid (Kv C u f=gg):=by show _=_;rw[U.out];exact(a_ M).trans (by omega)
     go_wp2_with fail;go_roundw
     case rel=>exact⟨f+1,Bw (Bw R f 1000000) f (gg),by omega,by go_num,by rw[<-EE,<-EE,<-Be,<-Be];exact(n.out.1.put f _).put f _,λj L=>by
      by_cases e:j=f
      .rw[e,CV,o.out]
      .rw[BO _ _ e,BO _ _ e];exact B.out.2.1 j (by omega),(n.out.2.setCell (bB _) _).setCell (bB _) _⟩
     case measure=>simp[intOf];omega
   .have aW:(k != 0)=true:=by rw[cI];exact Y
    have aK: -1<=k/\k<=1:=by omega
    obtain⟨aX,aY⟩:=aK;cases J:u.star with
    |true=>
     have I:nn=999:=by rw[G.out,a_ Y,bA J]
     subst I;have V:Hid (Fh f t u.star u.sg=vz f t):=by show _=_;rw[F.out,a_ (λz=>by rw[J]at z;cases z.2)]
     have H4:Hid (At (K.setCell ⟨m,t,none⟩ (.int .i64 0)) m (ic (Fh f t u.star u.sg)) tNk/\dc w (K.setCell ⟨m,t,none⟩ (.int .i64 0))):=by rw[V.out];exact⟨E.out.1,E.out.2.2⟩
     rw[J]at y2;clear V F G Y;have v:=ab.out _ m (Fh f t u.star u.sg) H4.out s.out.1 s.out.2.1 s.out.2.2;go_wp2_with fail;refine v.mono ?_;rintro e O ⟨rfl,r⟩;have n:Hid (At O w.heap.size (ic (rl R)) tNk/\dc w O):=⟨At.keep E.out.2.1 r (At.lt E.out.2.1),(E.out.2.2).trans (r.mono (E.out.2.2).size)⟩
     have aq:=n.out.1.free;have W:=n.out.1.lt;obtain⟨x7,az⟩:∃x,O.cell? ⟨w.heap.size,f,none⟩=some x:=⟨_,DK n.out.1 d⟩
     clear r v;obtain⟨g1,g2⟩:=ac.out f d;have U:Hid (Kv C u f=pn (IS C (Fh f t u.star u.sg)) 999):=P.out;generalize IS C (Fh f t u.star u.sg)=gg at *;by_cases M:gg=1000000
     .subst M;have o:Hid (Kv C u f=1000000):=by show _=_;rw[U.out];rfl
      go_wp2_with fail;go_roundw
      case rel=>exact⟨f+1,Bw R f 1000000,by omega,by go_num,by rw[<-EE,<-Be];exact n.out.1.put f _,λj L=>by
       by_cases e:j=f
       .rw[e,CV,o.out]
       .rw[BO _ _ e];exact B.out.2.1 j (by omega),n.out.2.setCell (bB _) _⟩
      case measure=>simp[intOf];omega
     .have ar:(gg != 1000000)=true:=by rw[cI];exact M
      have o:Hid (Kv C u f=gg+999):=by show _=_;rw[U.out];exact(a_ M).trans (by omega)
      go_wp2_with fail;go_roundw
      case rel=>exact⟨f+1,Bw (Bw R f 1000000) f (gg+999),by omega,by go_num,by rw[<-EE,<-EE,<-Be,<-Be];exact(n.out.1.put f _).put f _,λj L=>by
       by_cases e:j=f
       .rw[e,CV,o.out]
       .rw[BO _ _ e,BO _ _ e];exact B.out.2.1 j (by omega),(n.out.2.setCell (bB _) _).setCell (bB _) _⟩
      case measure=>simp[intOf];omega
    |false=>
     have I:nn=k*u.num:=by rw[G.out,a_ Y,J,a_ (by decide)]
     have V:Hid (Fh f t u.star u.sg=YV (vz f t) u.sg k):=by show _=_;rw[F.out,bA ⟨Y,J⟩]
     have aJ: -99<=k*u.num/\k*u.num<=99:=by
      rcases af with z|z|z
      .exact absurd z Y
      .rw[z];omega
      .rw[z];omega
     obtain⟨a5,a6⟩:=aJ;have aC:Hid (nn=k*u.num):=I;rw[J]at y2;have al:(vz f t).length=4:=by unfold vz;rw[b8];exact am.out f d
     have aE:=(show Hid (∀j,j<=4->_)from Qy (vz f t) u.sg k al)
     have aD:Hid (LD (vz f t) u.sg k 4=Fh f t u.star u.sg):=by show _=_;rw[X8 _ _ _ al,V.out]
     have aG:Hid (∀i,i<4-> -1<=AK (vz f t) i/\AK (vz f t) i<=1):=(show∀t:Nat,t<4->∀f,f<32->∀i,i<4-> -1<=AK (vz f t) i/\AK (vz f t) i<=1 by decide +kernel) t aj f d;obtain⟨w3,aP⟩:∃w3,w3=K.setCell ⟨m,t,none⟩ (.int .i64 0):=⟨_,rfl⟩
     have X:∀z:Int, -1<=z->z<=1-> -1<=k*z/\k*z<=1:=by
      intro z z1 z2;rcases af with y|y|y
      .exact absurd y Y
      .rw[y];omega
      .rw[y];omega
     have an:Hid (∀z:Int, -1<=z->z<=1-> -1<=k*z/\k*z<=1):=X;clear I V F G af al X aP;go_wp2_with fail;go_loopw [10] (λjv wx=>∃(j:Nat),j<=4/\jv=.int .i64 j/\Hid (At wx m (ic (LD (vz f t) u.sg k j)) tNk/\At wx w.heap.size (ic (rl R)) tNk/\dc w wx)) (λjv _=>4-(intOf jv).toNat);case atStart=>exact⟨0,by omega,rfl,E.out⟩
     case round=>
      obtain⟨j,L,rfl,A⟩:=hrel;by_cases ag:j<4
      .have aV:(j:Int)<4:=by omega
       obtain⟨w8,rfl⟩:∃w8,w8=wr:=⟨_,rfl⟩
       have ca:w8.cell? ⟨m,j,none⟩=some (.int .i64 (AK (vz f t) j)):=by
        obtain⟨q1,q2⟩:=aE.out j L;rw[A.out.1.cell,Aa _ _ (by omega),q2 j (bB _)]
       have cb:w8.cell? ⟨q,j,none⟩=some (.int .i64 (AK u.sg j)):=by
        rw[A.out.2.2.cell (p:=⟨q,j,none⟩) aw,ap.out.1.cell];exact Aa _ _ (by rw[ap.out.2];exact ag)
       obtain⟨⟨z1,z2,z3,bd⟩,aR⟩:=HX.out w8 A.out.2.2;have cf:=A.out.1.free;have aZ:=A.out.1.lt;have a2:q<w8.heap.size:=bM aw A.out.2.2.size;have aM:=aG.out j ag;have ai:=aO j;have aN:=an.out _ ai.1 ai.2;obtain⟨a7,a8⟩:=aM;obtain⟨a9,ba⟩:=ai;obtain⟨bb,bc⟩:=aN;have HP:Hid (LD (vz f t) u.sg k (j+1)=(LD (vz f t) u.sg k j).set j (AK (vz f t) j+k*AK u.sg j)):=rfl;have a3:q≠m:=by omega
       generalize AK (vz f t) j=a at *;generalize AK u.sg j=c at *;go_wp2_with fail;go_region;all_goals
        go_wp2_with fail;go_roundw;case rel=>
         refine⟨j+1,by omega,by go_num,?_,?_,?_⟩
         .rw[HP.out,<-Be];exact At.drewN (A.out.1.put j _) 1
         .exact At.drewN (A.out.2.1.other _ _ (by omega)) 1
         .exact bD (A.out.2.2.setCell (by show w.heap.size<=m;omega) _) 1
        case measure=>simp[intOf];omega
      .have aI:j=4:=by omega
       subst aI;have H4:Hid (At wr m (ic (Fh f t u.star u.sg)) tNk/\dc w wr):=by rw[<-aD.out];exact⟨A.out.1,A.out.2.2⟩
       rw[aC.out]at P;clear ag;have v:=ab.out _ m (Fh f t u.star u.sg) H4.out s.out.1 s.out.2.1 s.out.2.2;go_wp2_with fail;refine v.mono ?_;rintro e O ⟨rfl,r⟩;have n:Hid (At O w.heap.size (ic (rl R)) tNk/\dc w O):=⟨At.keep A.out.2.1 r (At.lt A.out.2.1),(A.out.2.2).trans (r.mono (A.out.2.2).size)⟩
       have aq:=n.out.1.free;have W:=n.out.1.lt;obtain⟨x7,az⟩:∃x,O.cell? ⟨w.heap.size,f,none⟩=some x:=⟨_,DK n.out.1 d⟩
       clear r v;obtain⟨g1,g2⟩:=ac.out f d;have U:Hid (Kv C u f=pn (IS C (Fh f t u.star u.sg)) (k*u.num)):=P.out;generalize IS C (Fh f t u.star u.sg)=gg at *;by_cases M:gg=1000000
       .subst M;have o:Hid (Kv C u f=1000000):=by show _=_;rw[U.out];rfl
        go_wp2_with fail;go_roundw
        case rel=>exact⟨f+1,Bw R f 1000000,by omega,by go_num,by rw[<-EE,<-Be];exact n.out.1.put f _,λj L=>by
         by_cases e:j=f
         .rw[e,CV,o.out]
         .rw[BO _ _ e];exact B.out.2.1 j (by omega),n.out.2.setCell (bB _) _⟩
        case measure=>simp[intOf];omega
       .have ar:(gg != 1000000)=true:=by rw[cI];exact M
        have o:Hid (Kv C u f=gg+k*u.num):=by show _=_;rw[U.out];exact(a_ M).trans (by omega)
        go_wp2_with fail;go_roundw
        case rel=>exact⟨f+1,Bw (Bw R f 1000000) f (gg+k*u.num),by omega,by go_num,by rw[<-EE,<-EE,<-Be,<-Be];exact(n.out.1.put f _).put f _,λj L=>by
         by_cases e:j=f
         .rw[e,CV,o.out]
         .rw[BO _ _ e,BO _ _ e];exact B.out.2.1 j (by omega),(n.out.2.setCell (bB _) _).setCell (bB _) _⟩
        case measure=>simp[intOf];omega
  .have au:f=32:=by omega
   subst au;have aF:Hid (rl R=rl (Kv C u)):=by
    show _=_;unfold rl;exact cW λj L=>B.out.2.1 j (by simpa using L)
   go_wp2_with fail;go_ret;exact⟨B.out.2.2,w.heap.size,rfl,bB _,by rw[<-aF.out];exact B.out.1⟩
theorem KW(u:Value)(l:List Int)(X:l.length=32)(Z:AQ w u l){M:Nat->Int}(H:P7 M (λf=>l.getD f 0))(G:∀k,k<64-> -20000000000<=M k)(hR:∀f,f<32-> -20000000000<=l.getD f 0)
  (hem:By (Aj M) 8=true->EO (λf=>l.getD f 0) 1=none):Calls prog 59 #[u] w (BF w (By (Aj M) 8) (Aj M)):=by
 refine(KU u l X Z (λn R h=>H.nov G hR hem h)).mono ?_;rintro e w' ⟨hb,⟨rfl,n,hn⟩|⟨g,n,R,R',rfl,hg,F,h1,h2⟩⟩
 .refine⟨hb,.inl ⟨?_,rfl⟩⟩;cases he:By (Aj M) 8 with
  |true=>rfl
  |false=>
   obtain⟨R',e,_⟩:=H.some he n;rw[hn]at e;cases e
 .obtain⟨h3,h4⟩:=H.done h1 h2;refine⟨hb,.inr ⟨h3,g,rfl,hg,?_⟩⟩;rw[<-It h4];exact F
structure TQ(C:Nat->Int):Prop where
 tc:TC C
 top:Bd 56000 C
 lo:∀k,k<64-> -20000000000+5<=C k
theorem TQ.sm(h:TQ C):Sm C:=λk hk=>by
 have:=h.lo k hk;have:=h.tc.hi k hk;unfold NB at this;omega
theorem TQ.bd_lo(h:TQ C){f:Nat}(d:f<32): -20000000000<=bd C f:=by
 have:=QG (M:=C) (L:=20000000000-5) (by decide) (λa F=>by have:=h.lo a F;omega) d;omega
theorem CP(C:Nat->Int){f:Nat}(d:f<32):(Bl C).getD f 0=bd C f:=Gh C f d
theorem P7.congr{M R R':Nat->Int}(h:P7 M R)(e:∀f,f<32->R' f=R f):P7 M R':=by
 refine⟨h.raw,λf d=>by rw[e f d];exact h.hi f d,⟨λi hi q=>?_,λi j hi W h1 h2 q=>?_,h.un.zer⟩,λf d=>by rw[e f d];exact h.ab f d⟩
 .rw[e i (by omega)];exact h.un.dia i hi q
 .rw[e _ (DN i hi j W h2).1];exact h.un.off i j hi W h1 h2 q
theorem BF.bd_eq{e:Bool}{M N:Nat->Int}(h:∀f,f<32->bd M f=bd N f){x:Ending}{w':World}(hs:BF w e M x w'):BF w e N x w':=by
 have e1:Bl M=Bl N:=by
  unfold Bl;exact cW λf d=>h f (by simpa using d)
 unfold BF at *;rw[<-e1];exact hs
theorem PZ(h:TC C)(hb:Bd 60000 C)(G:∀k,k<64-> -20000000000+5<=C k)(u:Value)(Z:AQ w u (Bl C)):Calls prog 59 #[u] w (BF w false C):=by
 have H:P7 C (λf=>(Bl C).getD f 0):=(h.doc hb).congr (λf d=>CP C d);refine(KW u (Bl C) (BJ C) Z H (λk hk=>by have:=G k hk;omega) (λf d=>?_) (λq=>?_)).mono ?_
 .rw[CP C d];have:=QG (M:=C) (L:=20000000000-5) (by decide) (λa F=>by have:=G a F;omega) d;omega
 .rw[h.sharp_con]at q;cases q
 .intro x w' hx;rw[h.sharp_con]at hx;exact hx.bd_eq (λf d=>h.sharp_bd_eq d)
theorem Ep(_h:TC C){l:List Int}(X:l.length=4)(hv:∀i, -1<=AK l i/\AK l i<=1)(h1:1<=nz l)(h2:nz l<=2):∃f:Nat,f<32/\Ar l=(f:Int)/\FC C l=bd C f/\CF l=fs f/\C4 l=ss f:=by
 have t:=Q_ X hv;unfold WP at t;rw[bT (by omega:¬2<nz l),Bool.false_or,a_ (by omega)]at t;simp only[cA,cD]at t;refine⟨(Ar l).toNat,by omega,by omega,?_,t.1.2,t.2⟩;unfold FC;rw[t.1.2,t.2];rfl
theorem ZK(h:TQ C)(u v:Value)(l:List Int)(X:l.length=4)(hv:∀i, -1<=AK l i/\AK l i<=1)(h1:1<=nz l)(h2:nz l<=2)(n:Int)(hn: -1000<=n/\n<=1000)(Z:AQ w u (Bl C))(hr:AQ w v l):
  Calls prog 61 #[u,v,.int .i64 n] w (BF w (GJ false C l n) (E5 false C l n)):=by
 have az:∀w,(Instr.makeSlice 32 (.int .i64 32) (.int .i64 32)).run prog w=.ok (.slice (some ⟨w.heap.size,0,none⟩) 32 32) (w.alloc (.cells (List.replicate 32 (Value.int .i64 0)).toArray tNk)):=λ_=>by kernel_rfl
 obtain⟨f,d,ak,ah,am,an⟩:=Ep h.tc X hv h1 h2;have hS:Ko false C l n=decide (bd C f<=n):=by unfold Ko;rw[ah];simp
 have V:=BJ C;have ad:Hid (∀p,dc w p->Calls prog 98 #[v] p λe w'=>e=.returned (.int .i64 (f:Int))/\dc p w'):=λp hb=>by
  have:=Fd v l X (hr.keep hb) (λi hi=>by have:=hv i;omega);rw[ak]at this;exact this
 obtain⟨ao,cap,rfl,af,h0⟩:=Z;obtain⟨b,off,rfl,ay,hc⟩:=h0 (by omega);obtain⟨cur,B⟩:∃cur,cur=List.replicate 32 (Value.int .i64 0):=⟨_,rfl⟩
 have K:Hid (dc w (w.alloc (.cells cur.toArray tNk))):=(bC _ _).alloc (bB _) _;have J:Hid (At (w.alloc (.cells cur.toArray tNk)) w.heap.size cur.toArray tNk):=At.new _ _ _;have ar:cur.length=32:=by rw[B];simp
 rw[<-B]at az;obtain⟨p,av,ae,Q⟩:∃p,(Builtin.copy_ #[32,32] tNk #[.slice (some ⟨w.heap.size,0,none⟩) 32 32,.slice (some ⟨b,off,none⟩) 32 cap]).run prog (w.alloc (.cells cur.toArray tNk))=.ok (.int .i64 32) p/\At p w.heap.size (ic (Bl C)) tNk/\dc w p:=by
  have Y:((Bl C).map (Value.int .i64)).length=32:=by rw[List.length_map];exact V
  have:=run_copy_row (P:=prog) (w.alloc (.cells cur.toArray tNk)) 32 32 tNk tNk w.heap.size 0 32 32 ⟨b,off,none⟩ 32 cap cur.toArray tNk ((Bl C).map (Value.int .i64)) underlying32 (by kernel_rfl) J.out (by rw[Y];simp) (by
   intro j v W;have aG:j<32:=by
    rcases bW j 32 with h'|h'
    .exact h'
    .rw[bO (by omega)]at W;cases W
   have e1:(⟨b,off,none⟩:Addr).add j=⟨b,off+j,none⟩:=by unfold Addr.add;split<;>simp_all
   rw[e1,K.out.cell (by exact ay)];have:=hc j (by omega);simp[List.getElem?_map,bP (show j<(Bl C).length by omega)]at W;rw[<-W];simpa[List.getD,show j<(Bl C).length by omega]using this) (by simp only[List.size_toArray];omega) (by
   intro u Z;obtain⟨x,_,rfl⟩:=List.mem_map.1 Z
   rfl)
  have e2:goInt ((Bl C).map (Value.int .i64)).length=.int .i64 32:=by rw[Y];rfl
  rw[e2]at this;refine⟨_,this,?_,below_setRow K.out (bB _) _⟩;have h2:=setRow_heap (w.alloc (.cells cur.toArray tNk)) w.heap.size cur.toArray (cur.toArray.toList.take 0++(Bl C).map (Value.int .i64)++cur.toArray.toList.drop (0+((Bl C).map (Value.int .i64)).length)).toArray tNk (0,0) J.out;have e3:(cur.toArray.toList.take 0++(Bl C).map (Value.int .i64)++cur.toArray.toList.drop (0+((Bl C).map (Value.int .i64)).length)).toArray=ic (Bl C):=by
   rw[Y];unfold ic;rw[List.drop_of_length_le (by simp;omega)];simp
  rw[e3]at h2;unfold At;rw[<-h2,e3]
 have H1:Hid (At p w.heap.size (ic (Bl C)) tNk/\dc w p):=⟨ae,Q⟩
 have al:=ad.out p Q;have aF:(f:Int)<32:=by omega
 have aw:=Jv h.sm d;obtain⟨f1,f2⟩:=aw;obtain⟨n1,n2⟩:=hn;have r:Hid (TQ C):=h;have HS:Hid (Ko false C l n=decide (bd C f<=n)):=hS;have O:Hid (lm C (CF l) (C4 l) n=sb C f n):=by show _=_;rw[am,an];rfl
 have o:Hid (GJ false C l n=(if Ko false C l n=true then false else By (Aj (lm C (CF l) (C4 l) n)) 8)/\E5 false C l n=if Ko false C l n=true then C else Aj (lm C (CF l) (C4 l) n)):=⟨rfl,rfl⟩
 have aq:Hid (∀s,At s w.heap.size (ic (Bl C)) tNk->s.cell? ⟨w.heap.size,f,none⟩=some (.int .i64 (bd C f))):=λs F=>by
  rw[F.cell,Aa _ _ (by rw[V];exact d),CP C d]
 obtain⟨va,vn,vc,rfl⟩:∃a n c,v=.slice a n c:=by obtain⟨a,c,rfl, -, -⟩:=hr;exact⟨_,_,_,rfl⟩
 rw[V];clear h X hv h1 h2 hr ak ah am an hS h0 hc af J K ar B ae Q ad;go_enter func61,ntmps61;go_wp2_with fail;refine al.mono ?_;rintro e s ⟨rfl,S⟩;have E:Hid (At s w.heap.size (ic (Bl C)) tNk/\dc w s):=⟨At.keep H1.out.1 S H1.out.1.lt,H1.out.2.trans (S.mono H1.out.2.size)⟩
 have cx:=aq.out s E.out.1;have cf:=E.out.1.free;have aD:=E.out.1.lt;have aE:Hid (∀x,x=bd C f->bd C f=x):=λx e=>e.symm;clear S al H1 av;obtain⟨bf,U⟩:∃bf,bf=bd C f:=⟨_,rfl⟩
 rw[<-U]at cx f1 f2 HS;have aa:Hid (bf=bd C f):=U;clear U;by_cases q:n<bf
 .have HE:Hid (GJ false C l n=By (Aj (sb C f n)) 8/\E5 false C l n=Aj (sb C f n)):=by
   show _/\_;rw[o.out.1,o.out.2,HS.out,bT (by omega),O.out];exact⟨rfl,rfl⟩
  have ag:∀I,At I w.heap.size (ic ((Bl C).set f n)) tNk->Calls prog 59 #[.slice (some ⟨w.heap.size,0,none⟩) 32 32] I (BF I (By (Aj (sb C f n)) 8) (Aj (sb C f n))):=by
   intro I F;have ai:((Bl C).set f n).length=32:=by rw[b8];exact BJ C
   have m:∀g,g<32->((Bl C).set f n).getD g 0=Hq C f n g:=by
    intro g hg;unfold Hq;by_cases e:g=f
    .rw[bA e,e];simp[List.getD,BJ,d]
    .rw[a_ e,<-CP C hg];simp[List.getD,Ne.symm e]
   have H:P7 (sb C f n) (λg=>((Bl C).set f n).getD g 0):=(Pp r.out.tc (r.out.top.mono (by decide)) d n2).congr m;have aj:n≠NB:=by unfold NB;omega
   refine KW _ _ ai (AQ.at_ F ai (bB _) (λi hi=>Aa _ _ (by omega))) H (λk hk=>?_) (λg hg=>?_) (λhe=>?_)
   .rw[show k=k/8*8+k%8 by omega,EZ C d aj (by omega) (by omega)];have:=r.out.lo (k/8*8+k%8) (by omega);split
    .split<;>omega
    .omega
   .rw[m g hg];unfold Hq;split
    .omega
    .exact r.out.bd_lo hg
   .have e0:=UY r.out.tc (r.out.top.mono (by decide)) d n2 (by rw[<-aa.out];omega) he;have hR:∀f',f'<32->Hq C f n f'<=NB:=(Pp r.out.tc (r.out.top.mono (by decide)) d n2).hi;cases e1:EO (λg=>((Bl C).set f n).getD g 0) 1 with
    |none=>rfl
    |some R1=>
     exfalso;obtain⟨ap,aB,aC⟩:=Tk f d;have hr:=Hm H.hi (n:=0) (R1:=λg=>((Bl C).set f n).getD g 0) rfl e1;have r1:((Bl C).set f n).getD f 0=n:=by rw[m f d];exact bA rfl
     have r2:((Bl C).set f n).getD (Jh f) 0=bd C (Jh f):=by rw[m _ ap];exact a_ aC
     have au:bd C (Jh f)=NB\/0<=n+bd C (Jh f):=by
      by_cases z:bd C (Jh f)=NB
      .exact .inl z
      .right
       have:=hr.zer f (Jh f) d ap aB (by show((Bl C).set f n).getD f 0≠NB;rw[r1];exact aj) (by show((Bl C).set f n).getD (Jh f) 0≠NB;rw[r2];exact z);have D:0<=((Bl C).set f n).getD f 0+((Bl C).set f n).getD (Jh f) 0:=this;rw[r1,r2]at D;exact D
     obtain⟨vv,aA,ax⟩:=r.out.tc.low d (by rw[<-aa.out];omega) au;have:=(Pn aA d n2 ax).sharp.some;rw[he]at this;cases this
  have ac:Hid (∀I,At I w.heap.size (ic ((Bl C).set f n)) tNk->Calls prog 59 #[.slice (some ⟨w.heap.size,0,none⟩) 32 32] I (BF I (By (Aj (sb C f n)) 8) (Aj (sb C f n)))):=ag;have H3:Hid (At (s.setCell ⟨w.heap.size,f,none⟩ (.int .i64 n)) w.heap.size (ic ((Bl C).set f n)) tNk/\dc w (s.setCell ⟨w.heap.size,f,none⟩ (.int .i64 n))):=by
   refine⟨?_,E.out.2.setCell (bB _) _⟩;rw[<-Be];exact E.out.1.put f _
  have A:=ac.out _ H3.out.1;clear ag ac HS o O;go_wp2_with fail;refine A.mono ?_;intro x w5 hx;obtain⟨y,rfl,a,nn,c,rfl⟩:=hx.val;have HX:Hid (BF (s.setCell ⟨w.heap.size,f,none⟩ (.int .i64 n)) (By (Aj (sb C f n)) 8) (Aj (sb C f n)) (.returned (.slice a nn c)) w5):=hx;clear hx A;go_wp2_with fail;go_ret;rw[HE.out.1,HE.out.2];obtain⟨T,h5⟩:=HX.out;refine⟨H3.out.2.trans (T.mono H3.out.2.size),?_⟩;rcases h5 with⟨e1,e2⟩|⟨e1,g,e2,e3,e4⟩
  .exact .inl ⟨e1,e2⟩
  .exact .inr ⟨e1,g,e2,cN H3.out.2.size e3,e4⟩
 .have HE:Hid (GJ false C l n=false/\E5 false C l n=C):=by
   show _/\_;rw[o.out.1,o.out.2,HS.out,cC (by omega)];exact⟨rfl,rfl⟩
  have A:=PZ (w:=s) r.out.tc (r.out.top.mono (by decide)) r.out.lo (.slice (some ⟨w.heap.size,0,none⟩) 32 32) (AQ.at_ E.out.1 (BJ C) (bB _) (λi hi=>Aa _ _ (by rw[BJ];exact hi)));clear HS o O;go_wp2_with fail;refine A.mono ?_;intro x w5 hx;obtain⟨y,rfl,a,nn,c,rfl⟩:=hx.val;have HX:Hid (BF s false C (.returned (.slice a nn c)) w5):=hx;clear hx A;go_wp2_with fail;go_ret;rw[HE.out.1,HE.out.2];obtain⟨T,h5⟩:=HX.out;refine⟨E.out.2.trans (T.mono E.out.2.size),?_⟩;rcases h5 with⟨e1,e2⟩|⟨e1,g,e2,e3,e4⟩
  .exact .inl ⟨e1,e2⟩
  .exact .inr ⟨e1,g,e2,cN E.out.2.size e3,e4⟩
end Go.Proofs.YtffajooegiempaaGreatDoor
