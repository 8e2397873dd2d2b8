import Derived.Test.YtffajooegiempaaGreatDoorK33
set_option maxRecDepth 100000
set_option maxHeartbeats 6400000
namespace Go.Proofs.YtffajooegiempaaGreatDoor
open Go.RowKit Go.Proofs.Tryz
variable {B2:Nat}{w:World}{r:Nat}{m:Rd}
theorem UE{b q:Nat}{iv:Value}{k:Wk}(h:Ax B2 w r b q m iv k)(hS:Zo m.st)(hL:k.inp.length<=1073741824)(h0:0<=k.pt)(h1:k.pt<m.st.length)(L:(m.st.getD k.pt.toNat AY).kind=61):
  Calls prog 71 #[.pointer (some ⟨b,0,none⟩),.pointer (some ⟨r,0,none⟩)] w λe w'=>e=.returned (.tuple #[])/\LJ B2 w r b q m (CZ m.st k) w':=by
 obtain⟨p,hp⟩:∃p:Nat,k.pt=p:=⟨k.pt.toNat,by omega⟩
 have T:p<m.st.length:=by omega
 have ax:(p:Int)<(m.st.length:Int):=by omega
 obtain⟨g,cap,X,Y,hs⟩:=h.rd.stmt p T;have z:m.st.getD p AY∈m.st:=bR (AZ.gets T);have P:=hS.sgl _ z;obtain⟨av,aw⟩:=hS.num _ z;obtain⟨aA,aB,U⟩:=hS.gd _ z;obtain⟨b0,W,b2,b3,Z⟩:=h.cells;rw[hp]at W;have qf:=h.vt.free;have G:∀i,i<4->w.cell? ⟨q,i,none⟩=some (.int .i64 (AB k.v i)):=λi hi=>by rw[h.vt.cell,Aa _ _ (by have:=h.len;omega)];rfl
 have v0:=G 0 (by omega);have v1:=G 1 (by omega);have v2:=G 2 (by omega);have v3:=G 3 (by omega);have ao:b≠q:=h.at_.ne h.vt (by decide);have ay:q≠b:=Ne.symm ao;have au:=h.at_.lt;have az:=h.vt.lt;have ah:Hid (XG w B2 r p m.st.length (m.st.getD p AY) g cap X Y):=hs;obtain⟨r1,gp,c0,c1,c2,c3,c4,sg,lr,lg,lX,lY⟩:=hs;have V:Hid (Ax B2 w r b q m iv k):=h;have F:Hid (∀c,(∃n0,c=w.drewN n0)->∀n,Calls prog 106 #[.slice (some ⟨Y,0,none⟩) 4 4,.slice (some ⟨q,0,none⟩) 4 4] (c.drewN n) λe w'=>e=.returned (.int .i64 (Af (m.st.getD p AY).sg k.v 4))/\∃j,w'=(c.drewN n).drewN j):=by
  rintro c ⟨n0,rfl⟩ n;exact W9 _ _ Y q (λi=>Gy _ i U) V.out.v _ ((sg.drewN n0).drewN n) ((V.out.vt.drewN n0).drewN n) P V.out.len
 have ae:=Ct (λi=>Gy (m.st.getD p AY).sg i U) h.v 4;have ab:Hid (∀C k' c N,Ax B2 c r b q m C k'->Calls prog 23 #[.pointer (some ⟨r,0,none⟩),.int .i64 (p:Int),.int .i64 N] c λe w'=>e=.returned (.int .i64 (BZ m.st p N))/\∃j,w'=c.drewN j/\Hid (Ax B2 w' r b q m C k')):=λC k' c N h1=>(Qq h1 hS.len p T N).mono λe w' ⟨he,j,hj⟩=>⟨he,j,hj,by subst hj;exact h1.drewN j⟩
 have ai:Hid (∀c,Ax B2 c r b q m iv k->Calls prog 107 #[.pointer (some ⟨b,0,none⟩)] c λe w'=>e=.returned (.int .i64 (k.inp.headD 0))/\LJ B2 c r b q m ⟨k.st,k.pt,k.v,k.inp.tail⟩ w'):=λc h1=>UF h1 hL;have R:Hid (CZ m.st k=Ke m.st p (m.st.getD p AY) k):=by show CZ m.st k=_;unfold CZ;rw[hp,bK]
 clear h hS sg U z P G;rw[hp,bK]at L;generalize m.st.getD p AY=u at *;unfold Ke at R;obtain⟨A,H⟩:∃A:Nat,u.var=A:=⟨u.var.toNat,by omega⟩
 have ap:A<4:=by omega
 have HV:Hid (∀c C (k':Wk) x, -999<=x->x<=999->Ax B2 c r b q m C k'->Ax B2 (c.setCell ⟨q,A,none⟩ (.int .i64 x)) r b q m C ⟨k'.st,k'.pt,k'.v.set A x,k'.inp⟩):=λ_ _ _ x x0 x1 h=>h.setV A ap x x0 x1;generalize Af u.sg k.v 4=sm at *;have e1: -3996<=sm:=by omega
 have e2:sm<=3996:=by omega
 have hw:IntKind.i64.wrap (sm+u.num)=sm+u.num:=by rw[cS];omega
 clear ae;have B:Hid (_=_):=R.out.trans (bA L);rw[L]at c0;clear R L;cases K:u.star
 .rw[K]at c2 B;have t:Hid (_=_):=B.out.trans (a_ (by decide));clear B K;by_cases hov:999<sm+u.num\/sm+u.num< -999
  .have O:Hid (_=_):=t.out.trans (bA hov);clear t;clear H;rcases hov with hov|hov;all_goals
    go_enter func71,ntmps71;go_wp2_with fail;go_quiet (fail);obtain⟨c,d⟩:∃c,c=w.drewN nq:=⟨_,rfl⟩
    rw[<-d];have Q:∀a,c.cell? a=w.cell? a:=λa=>by rw[d];rfl
    have k2:∀a,c.frozen? a=w.frozen? a:=λa=>by rw[d];rfl
    rw[<-Q]at r1 gp c0 c1 c2 c3 c4 b0 W b2 b3 v0 v1 v2 v3;have ac:∀i,c.frozen? ⟨b,i,none⟩=false:=λi=>(k2 _).trans (Z i);have ag:∀i,c.frozen? ⟨q,i,none⟩=false:=λi=>(k2 _).trans (qf i);have l:Hid (Ax B2 c r b q m iv k):=by rw[d];exact V.out.drewN _
    have D:Hid (Below B2 w c):=by rw[d];exact bD (bC _ _) _
    have f:=F.out c ⟨_,d⟩;have E:Hid (∀n,Calls prog 106 #[.slice (some ⟨Y,0,none⟩) 4 4,.slice (some ⟨q,0,none⟩) 4 4] (c.drewN n) λe w'=>e=.returned (.int .i64 sm)/\∃j,w'=(c.drewN n).drewN j):=f;clear Q k2 d f Z qf;go_wp2_with fail;go_quiet (first|(go_at_call 106;refine cF (E.out _)));go_wp2_with fail;try simp only[Exit.inBlock,Exit.then]
    refine bJ (cK rfl _ _ _) rfl ?_;exact⟨rfl,iv,by rw[O.out];exact(l.out.drewN _).set 0 _ rfl rfl (l.out.drewN _).inp,(bD D.out _).setCell l.out.gb _⟩
  .have O:Hid (_=_):=t.out.trans (a_ hov);have aC:¬999<sm+u.num:=λe=>hov (.inl e);have aD:¬sm+u.num< -999:=λe=>hov (.inr e);clear t hov;rw[H,bK]at O;rcases(show A=0/\u.var=0\/A=1/\u.var=1\/A=2/\u.var=2\/A=3/\u.var=3 by omega)with⟨rfl,hv⟩|⟨rfl,hv⟩|⟨rfl,hv⟩|⟨rfl,hv⟩;all_goals
    rw[hv]at c1;clear hv H;go_enter func71,ntmps71;go_wp2_with fail;go_quiet (fail);obtain⟨c,d⟩:∃c,c=w.drewN nq:=⟨_,rfl⟩
    rw[<-d];have Q:∀a,c.cell? a=w.cell? a:=λa=>by rw[d];rfl
    have k2:∀a,c.frozen? a=w.frozen? a:=λa=>by rw[d];rfl
    rw[<-Q]at r1 gp c0 c1 c2 c3 c4 b0 W b2 b3 v0 v1 v2 v3;have ac:∀i,c.frozen? ⟨b,i,none⟩=false:=λi=>(k2 _).trans (Z i);have ag:∀i,c.frozen? ⟨q,i,none⟩=false:=λi=>(k2 _).trans (qf i);have l:Hid (Ax B2 c r b q m iv k):=by rw[d];exact V.out.drewN _
    have D:Hid (Below B2 w c):=by rw[d];exact bD (bC _ _) _
    have f:=F.out c ⟨_,d⟩;have E:Hid (∀n,Calls prog 106 #[.slice (some ⟨Y,0,none⟩) 4 4,.slice (some ⟨q,0,none⟩) 4 4] (c.drewN n) λe w'=>e=.returned (.int .i64 sm)/\∃j,w'=(c.drewN n).drewN j):=f;clear Q k2 d f Z qf;go_wp2_with fail;go_quiet (first|(go_at_call 106;refine cF (E.out _)));go_wp2_with fail;go_region;all_goals
     go_wp2_with fail;refine(ab.out _ _ _ _ (HV.out _ _ _ _ (by omega) (by omega) (l.out.drewN (nq+1)))).mono ?_;rintro e w2 ⟨rfl,j,rfl,y⟩;obtain⟨aj,ak,al,am,an⟩:=y.out.cells;clear b0 W b2 b3;go_wp2_with fail;try simp only[Exit.inBlock,Exit.then]
     refine bJ (cK rfl _ _ _) rfl ?_;refine⟨rfl,iv,?_,?_⟩
     .rw[O.out];exact y.out.set 1 _ rfl rfl y.out.inp
     .exact(bD ((bD D.out (nq+1)).setCell l.out.gq _) j).setCell l.out.gb _
 .rw[K]at c2 B;have t:Hid (_=_):=B.out.trans (bA rfl);clear B K;generalize k.inp.headD 0=hd at *;have HC:(999<hd/\CN hd=999)\/(¬999<hd/\hd< -999/\CN hd= -999)\/(¬999<hd/\¬hd< -999/\CN hd=hd):=by
   unfold CN;by_cases M:999<hd
   .exact .inl ⟨M,bA M⟩
   .by_cases q2:hd< -999
    .exact .inr (.inl ⟨M,q2,by rw[a_ M,bA q2]⟩)
    .exact .inr (.inr ⟨M,q2,by rw[a_ M,a_ q2]⟩)
  have O:Hid (_=_):=t.out;rw[H,bK]at O;clear t;rcases(show A=0/\u.var=0\/A=1/\u.var=1\/A=2/\u.var=2\/A=3/\u.var=3 by omega)with⟨rfl,hv⟩|⟨rfl,hv⟩|⟨rfl,hv⟩|⟨rfl,hv⟩;all_goals
   clear H;rcases HC with⟨M,I⟩|⟨M,q2,I⟩|⟨M,q2,I⟩;all_goals
    rw[I]at O;clear I;go_enter func71,ntmps71;go_wp2_with fail;go_quiet (fail);obtain⟨c,d⟩:∃c,c=w.drewN nq:=⟨_,rfl⟩
    rw[<-d];have Q:∀a,c.cell? a=w.cell? a:=λa=>by rw[d];rfl
    have k2:∀a,c.frozen? a=w.frozen? a:=λa=>by rw[d];rfl
    rw[<-Q]at r1 gp c0 c1 c2 c3 c4 b0 W b2 b3 v0 v1 v2 v3;have ac:∀i,c.frozen? ⟨b,i,none⟩=false:=λi=>(k2 _).trans (Z i);have ag:∀i,c.frozen? ⟨q,i,none⟩=false:=λi=>(k2 _).trans (qf i);have l:Hid (Ax B2 c r b q m iv k):=by rw[d];exact V.out.drewN _
    have D:Hid (Below B2 w c):=by rw[d];exact bD (bC _ _) _
    have f:=F.out c ⟨_,d⟩;have E:Hid (∀n,Calls prog 106 #[.slice (some ⟨Y,0,none⟩) 4 4,.slice (some ⟨q,0,none⟩) 4 4] (c.drewN n) λe w'=>e=.returned (.int .i64 sm)/\∃j,w'=(c.drewN n).drewN j):=f;clear Q k2 d f Z qf;go_wp2_with fail;go_quiet (first|(go_at_call 106;refine cF (E.out _)));go_wp2_with fail;refine(ai.out _ (l.out.drewN _)).mono ?_;rintro e w2 ⟨rfl,af,s,ad⟩;have S:Hid (Ax B2 w2 r b q m af ⟨k.st,k.pt,k.v,k.inp.tail⟩):=s;have aa:Hid (Below B2 w w2):=(bD D.out nq).trans ad;have J:=ah.out.keep aa.out;have x0:=J.c0;have x1:=J.c1;have x4:=J.c4;obtain⟨y0,y1,y2,y3,yf⟩:=s.cells;simp only at y0 y1 y2 y3;rw[hp]at y1;have aE:=s.vt.free;have o:∀i,i<4->w2.cell? ⟨q,i,none⟩=some (.int .i64 (AB k.v i)):=λi hi=>by rw[s.vt.cell,Aa _ _ (by have:=s.len;simp only at this|-;omega)];rfl
    have z0:=o 0 (by omega);have z1:=o 1 (by omega);have z2:=o 2 (by omega);have z3:=o 3 (by omega);have aq:=s.at_.lt;have ar:=s.vt.lt;clear J s ad o r1 gp c0 c1 c2 c3 c4 b0 W b2 b3 v0 v1 v2 v3;rw[hv]at x1;clear hv;go_wp2_with fail;go_region;all_goals
     go_wp2_with fail;refine(ab.out _ _ _ _ (HV.out _ _ _ _ (by omega) (by omega) (S.out.drewN 1))).mono ?_;rintro e w3 ⟨rfl,j,rfl,y⟩;obtain⟨aj,ak,al,am,an⟩:=y.out.cells;clear y0 y1 y2 y3;go_wp2_with fail;try simp only[Exit.inBlock,Exit.then]
     refine bJ (cK rfl _ _ _) rfl ?_;refine⟨rfl,af,?_,?_⟩
     .rw[O.out];exact y.out.set 1 _ rfl rfl y.out.inp
     .exact(bD ((bD aa.out 1).setCell S.out.gq _) j).setCell S.out.gb _
theorem WG{b q:Nat}{iv:Value}{k:Wk}(h:Ax B2 w r b q m iv k)(hS:Zo m.st)(hL:k.inp.length<=1073741824)(h0:0<=k.pt)(h1:k.pt<m.st.length)(ac:(m.st.getD k.pt.toNat AY).kind≠61):
  Calls prog 71 #[.pointer (some ⟨b,0,none⟩),.pointer (some ⟨r,0,none⟩)] w λe w'=>e=.returned (.tuple #[])/\LJ B2 w r b q m (CZ m.st k) w':=by
 obtain⟨p,hp⟩:∃p:Nat,k.pt=p:=⟨k.pt.toNat,by omega⟩
 have ap:p<m.st.length:=by omega
 have aD:(p:Int)<(m.st.length:Int):=by omega
 obtain⟨g,cap,X,Y,hs⟩:=h.rd.stmt p ap;have J:m.st.getD p AY∈m.st:=bR (AZ.gets ap);have ag:=hS.sgl _ J;obtain⟨aB,aC⟩:=hS.num _ J;obtain⟨aG,aH,aq⟩:=hS.gd _ J;obtain⟨Q,M,R,b3,N⟩:=h.cells;rw[hp]at M;have O:=h.vt.free;have T:∀i,i<4->w.cell? ⟨q,i,none⟩=some (.int .i64 (AB k.v i)):=λi hi=>by rw[h.vt.cell,Aa _ _ (by have:=h.len;omega)];rfl
 have v0:=T 0 (by omega);have v1:=T 1 (by omega);have v2:=T 2 (by omega);have v3:=T 3 (by omega);have ax:b≠q:=h.at_.ne h.vt (by decide);have aE:q≠b:=Ne.symm ax;have aA:=h.at_.lt;have aF:=h.vt.lt;have ai:Hid (XG w B2 r p m.st.length (m.st.getD p AY) g cap X Y):=hs;obtain⟨r1,gp,c0,c1,c2,c3,c4,sg,lr,lg,lX,lY⟩:=hs;have Z:Hid (Ax B2 w r b q m iv k):=h;have D:Hid (∀d,(∃n0,d=w.drewN n0)->∀n,Calls prog 106 #[.slice (some ⟨Y,0,none⟩) 4 4,.slice (some ⟨q,0,none⟩) 4 4] (d.drewN n) λe w'=>e=.returned (.int .i64 (Af (m.st.getD p AY).sg k.v 4))/\∃j,w'=(d.drewN n).drewN j):=by
  rintro d ⟨n0,rfl⟩ n;exact W9 _ _ Y q (λi=>Gy _ i aq) Z.out.v _ ((sg.drewN n0).drewN n) ((Z.out.vt.drewN n0).drewN n) ag Z.out.len
 have ar:=Ct (λi=>Gy (m.st.getD p AY).sg i aq) h.v 4;have W:Hid (∀au k' d ad,Ax B2 d r b q m au k'->Calls prog 23 #[.pointer (some ⟨r,0,none⟩),.int .i64 (p:Int),.int .i64 ad] d λe w'=>e=.returned (.int .i64 (BZ m.st p ad))/\∃j,w'=d.drewN j):=λau k' d ad h1=>Qq h1 hS.len p ap ad;have aj:Hid (∀d,Ax B2 d r b q m iv k->Calls prog 107 #[.pointer (some ⟨b,0,none⟩)] d λe w'=>e=.returned (.int .i64 (k.inp.headD 0))/\LJ B2 d r b q m ⟨k.st,k.pt,k.v,k.inp.tail⟩ w'):=λd h1=>UF h1 hL;have ah:Hid (CZ m.st k=Ke m.st p (m.st.getD p AY) k):=by show CZ m.st k=_;unfold CZ;rw[hp,bK]
 clear h hS sg aq J ag T;rw[hp,bK]at ac;generalize m.st.getD p AY=u at *;unfold Ke at ah;generalize Af u.sg k.v 4=sm at *;have e1: -3996<=sm:=by omega
 have e2:sm<=3996:=by omega
 have hw:IntKind.i64.wrap (sm+u.num)=sm+u.num:=by rw[cS];omega
 clear ar;have K:Hid (_=_):=ah.out.trans (a_ ac);have av:(u.kind==61)=false:=by simpa using ac
 clear ah ac;cases ab:u.star
 .rw[ab]at c2 K;have E:Hid (_=_):=K.out.trans (a_ (by decide));clear K ab;by_cases aa:sm<=u.num
  .have P:Hid (CZ m.st k=⟨k.st,BZ m.st p 0,k.v,k.inp⟩):=E.out.trans (bA aa);have ay:decide (sm<=u.num)=true:=by simpa using aa
   clear E;go_enter func71,ntmps71;go_wp2_with fail;go_quiet (fail);obtain⟨d,c⟩:∃d,d=w.drewN nq:=⟨_,rfl⟩
   rw[<-c];have I:∀a,d.cell? a=w.cell? a:=λa=>by rw[c];rfl
   have k2:∀a,d.frozen? a=w.frozen? a:=λa=>by rw[c];rfl
   rw[<-I]at r1 gp c0 c1 c2 c3 c4 Q M R b3 v0 v1 v2 v3;have S:∀i,d.frozen? ⟨b,i,none⟩=false:=λi=>(k2 _).trans (N i);have U:∀i,d.frozen? ⟨q,i,none⟩=false:=λi=>(k2 _).trans (O i);have s:Hid (Ax B2 d r b q m iv k):=by rw[c];exact Z.out.drewN _
   have z:Hid (Below B2 w d):=by rw[c];exact bD (bC _ _) _
   have f:=D.out d ⟨_,c⟩;have A:Hid (∀n,Calls prog 106 #[.slice (some ⟨Y,0,none⟩) 4 4,.slice (some ⟨q,0,none⟩) 4 4] (d.drewN n) λe w'=>e=.returned (.int .i64 sm)/\∃j,w'=(d.drewN n).drewN j):=f;clear I k2 c f N O;go_wp2_with fail;go_quiet (first|(go_at_call 106;refine cF (A.out _)));go_wp2_with fail;refine(W.out _ _ _ _ (s.out.drewN _)).mono ?_;rintro e L ⟨rfl,j,rfl⟩;have t:Hid (Ax B2 _ r b q m iv k):=s.out.drewN (nq+j);obtain⟨ak,al,am,an,ao⟩:=t.out.cells;clear Q M R b3;go_wp2_with fail
   go_end0
   refine⟨rfl,iv,?_,?_⟩
   .rw[P.out];exact t.out.set (k':=⟨k.st,BZ m.st p 0,k.v,k.inp⟩) 1 _ rfl rfl t.out.inp
   .exact(bD z.out (nq+j)).setCell (by exact s.out.gb) _
  .have F:Hid (_=_):=E.out.trans (a_ aa);have ay:decide (sm<=u.num)=false:=by simpa using aa
   clear E;by_cases y:u.kind=33
   .have P:Hid (CZ m.st k=⟨3,k.pt,k.v,k.inp⟩):=F.out.trans (bA y);rw[y]at c0;clear F y av;go_enter func71,ntmps71;go_wp2_with fail;go_quiet (fail);obtain⟨d,c⟩:∃d,d=w.drewN nq:=⟨_,rfl⟩
    rw[<-c];have I:∀a,d.cell? a=w.cell? a:=λa=>by rw[c];rfl
    have k2:∀a,d.frozen? a=w.frozen? a:=λa=>by rw[c];rfl
    rw[<-I]at r1 gp c0 c1 c2 c3 c4 Q M R b3 v0 v1 v2 v3;have S:∀i,d.frozen? ⟨b,i,none⟩=false:=λi=>(k2 _).trans (N i);have U:∀i,d.frozen? ⟨q,i,none⟩=false:=λi=>(k2 _).trans (O i);have s:Hid (Ax B2 d r b q m iv k):=by rw[c];exact Z.out.drewN _
    have z:Hid (Below B2 w d):=by rw[c];exact bD (bC _ _) _
    have f:=D.out d ⟨_,c⟩;have A:Hid (∀n,Calls prog 106 #[.slice (some ⟨Y,0,none⟩) 4 4,.slice (some ⟨q,0,none⟩) 4 4] (d.drewN n) λe w'=>e=.returned (.int .i64 sm)/\∃j,w'=(d.drewN n).drewN j):=f;clear I k2 c f N O;go_wp2_with fail;go_quiet (first|(go_at_call 106;refine cF (A.out _)));go_wp2_with fail
    go_end0
    exact⟨rfl,iv,by rw[P.out];exact(s.out.drewN _).set 0 _ rfl rfl (s.out.drewN _).inp,(bD z.out _).setCell s.out.gb _⟩
   .have P:Hid (CZ m.st k=⟨k.st,BZ m.st p 1,k.v,k.inp⟩):=F.out.trans (a_ y);have az:(u.kind==33)=false:=by simpa using y
    clear F y;go_enter func71,ntmps71;go_wp2_with fail;go_quiet (fail);obtain⟨d,c⟩:∃d,d=w.drewN nq:=⟨_,rfl⟩
    rw[<-c];have I:∀a,d.cell? a=w.cell? a:=λa=>by rw[c];rfl
    have k2:∀a,d.frozen? a=w.frozen? a:=λa=>by rw[c];rfl
    rw[<-I]at r1 gp c0 c1 c2 c3 c4 Q M R b3 v0 v1 v2 v3;have S:∀i,d.frozen? ⟨b,i,none⟩=false:=λi=>(k2 _).trans (N i);have U:∀i,d.frozen? ⟨q,i,none⟩=false:=λi=>(k2 _).trans (O i);have s:Hid (Ax B2 d r b q m iv k):=by rw[c];exact Z.out.drewN _
    have z:Hid (Below B2 w d):=by rw[c];exact bD (bC _ _) _
    have f:=D.out d ⟨_,c⟩;have A:Hid (∀n,Calls prog 106 #[.slice (some ⟨Y,0,none⟩) 4 4,.slice (some ⟨q,0,none⟩) 4 4] (d.drewN n) λe w'=>e=.returned (.int .i64 sm)/\∃j,w'=(d.drewN n).drewN j):=f;clear I k2 c f N O;go_wp2_with fail;go_quiet (first|(go_at_call 106;refine cF (A.out _)));go_wp2_with fail;refine(W.out _ _ _ _ (s.out.drewN _)).mono ?_;rintro e L ⟨rfl,j,rfl⟩;have t:Hid (Ax B2 _ r b q m iv k):=s.out.drewN (nq+j);obtain⟨ak,al,am,an,ao⟩:=t.out.cells;clear Q M R b3;go_wp2_with fail
    go_end0
    refine⟨rfl,iv,?_,?_⟩
    .rw[P.out];exact t.out.set (k':=⟨k.st,BZ m.st p 1,k.v,k.inp⟩) 1 _ rfl rfl t.out.inp
    .exact(bD z.out (nq+j)).setCell (by exact s.out.gb) _
 .rw[ab]at c2 K;have E:Hid (_=_):=K.out.trans (bA rfl);clear K ab;generalize k.inp.headD 0=hd at *;by_cases hz:hd=0
  .have F:Hid (_=_):=E.out.trans (a_ (λe=>e hz));subst hz;clear E;by_cases y:u.kind=33
   .have P:Hid (CZ m.st k=⟨3,k.pt,k.v,k.inp.tail⟩):=F.out.trans (bA y);clear F;go_enter func71,ntmps71;go_wp2_with fail;go_quiet (fail);obtain⟨d,c⟩:∃d,d=w.drewN nq:=⟨_,rfl⟩
    rw[<-c];have I:∀a,d.cell? a=w.cell? a:=λa=>by rw[c];rfl
    have k2:∀a,d.frozen? a=w.frozen? a:=λa=>by rw[c];rfl
    rw[<-I]at r1 gp c0 c1 c2 c3 c4 Q M R b3 v0 v1 v2 v3;have S:∀i,d.frozen? ⟨b,i,none⟩=false:=λi=>(k2 _).trans (N i);have U:∀i,d.frozen? ⟨q,i,none⟩=false:=λi=>(k2 _).trans (O i);have s:Hid (Ax B2 d r b q m iv k):=by rw[c];exact Z.out.drewN _
    have z:Hid (Below B2 w d):=by rw[c];exact bD (bC _ _) _
    have f:=D.out d ⟨_,c⟩;have A:Hid (∀n,Calls prog 106 #[.slice (some ⟨Y,0,none⟩) 4 4,.slice (some ⟨q,0,none⟩) 4 4] (d.drewN n) λe w'=>e=.returned (.int .i64 sm)/\∃j,w'=(d.drewN n).drewN j):=f;clear I k2 c f N O;go_wp2_with fail;go_quiet (first|(go_at_call 106;refine cF (A.out _)));go_wp2_with fail;refine(aj.out _ (s.out.drewN _)).mono ?_;rintro e L ⟨rfl,C,o,H⟩;have B:Hid (Ax B2 L r b q m C ⟨k.st,k.pt,k.v,k.inp.tail⟩):=o;have G:Hid (Below B2 w L):=(bD z.out nq).trans H;have x:=ai.out.keep G.out;have x0:=x.c0;have x1:=x.c1;have x4:=x.c4;obtain⟨y0,V,y2,y3,yf⟩:=o.cells;simp only at y0 V y2 y3;rw[hp]at V;have aw:=o.vt.free;have l:∀i,i<4->L.cell? ⟨q,i,none⟩=some (.int .i64 (AB k.v i)):=λi hi=>by rw[o.vt.cell,Aa _ _ (by have:=o.len;simp only at this|-;omega)];rfl
    have z0:=l 0 (by omega);have z1:=l 1 (by omega);have z2:=l 2 (by omega);have z3:=l 3 (by omega);have ae:=o.at_.lt;have af:=o.vt.lt;clear x o H l r1 gp c0 c1 c2 c3 c4 Q M R b3 v0 v1 v2 v3;rw[y]at x0;clear y av;go_wp2_with fail
    go_end0
    exact⟨rfl,C,by rw[P.out];exact B.out.set 0 _ rfl rfl B.out.inp,G.out.setCell B.out.gb _⟩
   .have P:Hid (CZ m.st k=⟨k.st,BZ m.st p 1,k.v,k.inp.tail⟩):=F.out.trans (a_ y);have az:(u.kind==33)=false:=by simpa using y
    clear F y;go_enter func71,ntmps71;go_wp2_with fail;go_quiet (fail);obtain⟨d,c⟩:∃d,d=w.drewN nq:=⟨_,rfl⟩
    rw[<-c];have I:∀a,d.cell? a=w.cell? a:=λa=>by rw[c];rfl
    have k2:∀a,d.frozen? a=w.frozen? a:=λa=>by rw[c];rfl
    rw[<-I]at r1 gp c0 c1 c2 c3 c4 Q M R b3 v0 v1 v2 v3;have S:∀i,d.frozen? ⟨b,i,none⟩=false:=λi=>(k2 _).trans (N i);have U:∀i,d.frozen? ⟨q,i,none⟩=false:=λi=>(k2 _).trans (O i);have s:Hid (Ax B2 d r b q m iv k):=by rw[c];exact Z.out.drewN _
    have z:Hid (Below B2 w d):=by rw[c];exact bD (bC _ _) _
    have f:=D.out d ⟨_,c⟩;have A:Hid (∀n,Calls prog 106 #[.slice (some ⟨Y,0,none⟩) 4 4,.slice (some ⟨q,0,none⟩) 4 4] (d.drewN n) λe w'=>e=.returned (.int .i64 sm)/\∃j,w'=(d.drewN n).drewN j):=f;clear I k2 c f N O;go_wp2_with fail;go_quiet (first|(go_at_call 106;refine cF (A.out _)));go_wp2_with fail;refine(aj.out _ (s.out.drewN _)).mono ?_;rintro e L ⟨rfl,C,o,H⟩;have B:Hid (Ax B2 L r b q m C ⟨k.st,k.pt,k.v,k.inp.tail⟩):=o;have G:Hid (Below B2 w L):=(bD z.out nq).trans H;have x:=ai.out.keep G.out;have x0:=x.c0;have x1:=x.c1;have x4:=x.c4;obtain⟨y0,V,y2,y3,yf⟩:=o.cells;simp only at y0 V y2 y3;rw[hp]at V;have aw:=o.vt.free;have l:∀i,i<4->L.cell? ⟨q,i,none⟩=some (.int .i64 (AB k.v i)):=λi hi=>by rw[o.vt.cell,Aa _ _ (by have:=o.len;simp only at this|-;omega)];rfl
    have z0:=l 0 (by omega);have z1:=l 1 (by omega);have z2:=l 2 (by omega);have z3:=l 3 (by omega);have ae:=o.at_.lt;have af:=o.vt.lt;clear x o H l r1 gp c0 c1 c2 c3 c4 Q M R b3 v0 v1 v2 v3;go_wp2_with fail;refine(W.out _ _ _ _ B.out).mono ?_;rintro e w3 ⟨rfl,j,rfl⟩;have t:Hid (Ax B2 _ r b q m C _):=B.out.drewN j;obtain⟨ak,al,am,an,ao⟩:=t.out.cells;clear y0 V y2 y3;go_wp2_with fail
    go_end0
    refine⟨rfl,C,?_,?_⟩
    .rw[P.out];exact t.out.set (k':=⟨k.st,BZ m.st p 1,k.v,k.inp.tail⟩) 1 _ rfl rfl t.out.inp
    .exact(bD G.out j).setCell (by exact B.out.gb) _
  .have P:Hid (CZ m.st k=⟨k.st,BZ m.st p 0,k.v,k.inp.tail⟩):=E.out.trans (bA hz);have aI:(hd != 0)=true:=by rw[cI];exact hz
   clear E;go_enter func71,ntmps71;go_wp2_with fail;go_quiet (fail);obtain⟨d,c⟩:∃d,d=w.drewN nq:=⟨_,rfl⟩
   rw[<-c];have I:∀a,d.cell? a=w.cell? a:=λa=>by rw[c];rfl
   have k2:∀a,d.frozen? a=w.frozen? a:=λa=>by rw[c];rfl
   rw[<-I]at r1 gp c0 c1 c2 c3 c4 Q M R b3 v0 v1 v2 v3;have S:∀i,d.frozen? ⟨b,i,none⟩=false:=λi=>(k2 _).trans (N i);have U:∀i,d.frozen? ⟨q,i,none⟩=false:=λi=>(k2 _).trans (O i);have s:Hid (Ax B2 d r b q m iv k):=by rw[c];exact Z.out.drewN _
   have z:Hid (Below B2 w d):=by rw[c];exact bD (bC _ _) _
   have f:=D.out d ⟨_,c⟩;have A:Hid (∀n,Calls prog 106 #[.slice (some ⟨Y,0,none⟩) 4 4,.slice (some ⟨q,0,none⟩) 4 4] (d.drewN n) λe w'=>e=.returned (.int .i64 sm)/\∃j,w'=(d.drewN n).drewN j):=f;clear I k2 c f N O;go_wp2_with fail;go_quiet (first|(go_at_call 106;refine cF (A.out _)));go_wp2_with fail;refine(aj.out _ (s.out.drewN _)).mono ?_;rintro e L ⟨rfl,C,o,H⟩;have B:Hid (Ax B2 L r b q m C ⟨k.st,k.pt,k.v,k.inp.tail⟩):=o;have G:Hid (Below B2 w L):=(bD z.out nq).trans H;have x:=ai.out.keep G.out;have x0:=x.c0;have x1:=x.c1;have x4:=x.c4;obtain⟨y0,V,y2,y3,yf⟩:=o.cells;simp only at y0 V y2 y3;rw[hp]at V;have aw:=o.vt.free;have l:∀i,i<4->L.cell? ⟨q,i,none⟩=some (.int .i64 (AB k.v i)):=λi hi=>by rw[o.vt.cell,Aa _ _ (by have:=o.len;simp only at this|-;omega)];rfl
   have z0:=l 0 (by omega);have z1:=l 1 (by omega);have z2:=l 2 (by omega);have z3:=l 3 (by omega);have ae:=o.at_.lt;have af:=o.vt.lt;clear x o H l r1 gp c0 c1 c2 c3 c4 Q M R b3 v0 v1 v2 v3;go_wp2_with fail;refine(W.out _ _ _ _ B.out).mono ?_;rintro e w3 ⟨rfl,j,rfl⟩;have t:Hid (Ax B2 _ r b q m C _):=B.out.drewN j;obtain⟨ak,al,am,an,ao⟩:=t.out.cells;clear y0 V y2 y3;go_wp2_with fail
   go_end0
   refine⟨rfl,C,?_,?_⟩
   .rw[P.out];exact t.out.set (k':=⟨k.st,BZ m.st p 0,k.v,k.inp.tail⟩) 1 _ rfl rfl t.out.inp
   .exact(bD G.out j).setCell (by exact B.out.gb) _
variable {F:List Ds}{S:List St}{L:List Int}
def Mq(S:List St):Nat->Wk->Wk
 |0,k=>k
 |n+1,k=>if k.st=0/\k.pt<S.length then Mq S n (CZ S k)else k
structure Jq(n:Nat)(L:List Int)(s:Ms)(k:Wk):Prop where
 pt:s.pt=k.pt
 v:s.v=k.v
 inp:k.inp=L.drop s.used
 st:s.st=if k.pt=n then 1 else k.st
 lo:0<=k.pt
 hi:k.pt<=n
theorem TV(L:List Int)(u:Nat):(Iy L u).1=(L.drop u).headD 0/\L.drop (Iy L u).2=(L.drop u).tail:=by
 unfold Iy;split
 .rename_i h;rw[List.drop_eq_getElem_cons h];simp[List.getD,h]
 .rename_i h;rw[List.drop_of_length_le (by omega)];simp
theorem Rf{p:Nat}(q:Bj F S)(w:F.length<=20)(r:p<F.length)(g:Int)(E:0<=g)(G:g<DE (S.getD p AY)){s:Ms}{k:Wk}(hs:s.pt=p)(m:s.st=0)(o:s.v=k.v)(hi:k.inp=L.drop s.used)(hk:k.st=0)(t:k.pt=BZ S p g):
  Jq F.length L (Dl F s g) k:=by
 have hn:=FX q w p r g;rw[a_ (by omega)]at hn;unfold Dl;rw[hs,hn,bA rfl];have c:=Du (F:=F) p g (by rw[hn]);rw[hn]at c;exact⟨t.symm,o,hi,by show(if BZ S p g=F.length then 1 else s.st)=_;rw[t,m,hk],by rw[t];exact c.1,by rw[t];exact c.2⟩
theorem Lz(q:Bj F S)(w:F.length<=20){s:Ms}{k:Wk}(h:Jq F.length L s k)(m:s.st=0)(d:k.st=0)(y:k.pt<F.length):Jq F.length L (GG F L s) (CZ S k):=by
 obtain⟨p,r⟩:∃p:Nat,k.pt=p:=⟨k.pt.toNat,by have:=h.lo;omega⟩
 have D:p<F.length:=by omega
 have B:=q.1.len;have hx:F[p]?=some (F.getD p (AC 0 0)):=KE D;have N:S[p]?=some (S.getD p AY):=by rw[bG,bP (by omega)];rfl
 obtain⟨c1,c2,c3,c4,c5⟩:=q.1.cor p _ _ hx N;have a:s.pt=p:=by rw[h.pt,r]
 have c:=TV L s.used;have b:=λ(g:Int) (E:0<=g) (G:g<DE (S.getD p AY)) (s':Ms) (k':Wk)=>Rf (L:=L) (s:=s') (k:=k') q w D g E G;unfold GG CZ;rw[a_ (by omega),a,r,bK];generalize F.getD p (AC 0 0)=x at *;generalize S.getD p AY=u at *;have z:¬(p:Int)=(F.length:Int):=by omega
 have ks:(if(p:Int)=(F.length:Int)then(1:Int)else 0)=0:=a_ z;unfold Ke;by_cases I:x.kind=0
 .have l:u.kind=61:=by rw[c1,I];rfl
  have H:DE u=1:=by unfold DE;rw[bA (.inl l)]
  rw[bA I,bA l];unfold IB;rw[c3,c2,c4,c5];cases A:x.any
  .have o:Dz L x s=(Af x.sg s.v 4+x.num,s.used):=by unfold Dz;rw[A];rfl
   rw[o,a_ (show¬false=true by decide),<-h.v];simp only;split
   .exact⟨by rw[a,r],rfl,h.inp,by show(2:Int)=if k.pt=_ then _ else _;rw[r,a_ z],by show 0<=k.pt;omega,by show k.pt<=_;omega⟩
   .exact b 0 (by omega) (by omega) _ _ a m rfl h.inp d rfl
  .have o:Dz L x s=(CN (k.inp.headD 0),(Iy L s.used).2):=by unfold Dz;rw[A,bA rfl,c.1,<-h.inp]
   have aa:=LQ (k.inp.headD 0);rw[o,bA (show true=true from rfl)];simp only;rw[a_ (show¬(999<CN (k.inp.headD 0)\/CN (k.inp.headD 0)< -999) by omega)];exact b 0 (by omega) (by omega) _ _ a m (by rw[<-h.v]) (by show k.inp.tail=_;rw[h.inp,<-c.2]) d rfl
 have l:u.kind≠61:=by
  rw[c1];unfold Fr;rw[a_ I];split
  .decide
  .split<;>decide
 rw[a_ I,a_ l];by_cases J:x.kind=1
 .have f:u.kind=33:=by rw[c1,J];rfl
  have H:DE u=1:=by unfold DE;rw[bA (.inr f)]
  rw[bA J];unfold Kw;rw[c3,c4,c5];cases A:x.any
  .have o:Cj L x s=(decide (Af x.sg s.v 4<=x.num),s.used):=by unfold Cj;rw[A];rfl
   rw[o,a_ (show¬false=true by decide),<-h.v];by_cases i:Af x.sg s.v 4<=x.num
   .simp only[cD];rw[bA i,bA i];exact b 0 (by omega) (by omega) _ _ a m rfl h.inp d rfl
   .simp only[cD];rw[a_ i,a_ i,bA f];exact⟨by rw[a,r],rfl,h.inp,by show(3:Int)=if k.pt=_ then _ else _;rw[r,a_ z],by show 0<=k.pt;omega,by show k.pt<=_;omega⟩
  .have o:Cj L x s=(k.inp.headD 0 != 0,(Iy L s.used).2):=by unfold Cj;rw[A,bA rfl,c.1,<-h.inp]
   rw[o,bA (show true=true from rfl)];by_cases hz:k.inp.headD 0=0
   .simp only[cI];rw[a_ (λe=>e hz),a_ (λe=>e hz),bA f];exact⟨by rw[a,r],h.v,by show k.inp.tail=_;rw[h.inp,<-c.2],by show(3:Int)=if k.pt=_ then _ else _;rw[r,a_ z],by show 0<=k.pt;omega,by show k.pt<=_;omega⟩
   .simp only[cI];rw[bA hz,bA hz];exact b 0 (by omega) (by omega) _ _ a m h.v (by show k.inp.tail=_;rw[h.inp,<-c.2]) d rfl
 .have f:u.kind≠33:=by
   rw[c1];unfold Fr;rw[a_ I,a_ J];split<;>decide
  have H:DE u=2:=by unfold DE;rw[a_ (λe=>e.elim l f)]
  rw[a_ J];unfold Jz;rw[c3,c4,c5];cases A:x.any
  .have o:Cj L x s=(decide (Af x.sg s.v 4<=x.num),s.used):=by unfold Cj;rw[A];rfl
   rw[o,a_ (show¬false=true by decide),<-h.v];by_cases i:Af x.sg s.v 4<=x.num
   .simp only[cD];rw[bA i,bA i];exact b 0 (by omega) (by omega) _ _ a m rfl h.inp d rfl
   .simp only[cD];rw[a_ i,a_ i,a_ f];exact b 1 (by omega) (by omega) _ _ a m rfl h.inp d rfl
  .have o:Cj L x s=(k.inp.headD 0 != 0,(Iy L s.used).2):=by unfold Cj;rw[A,bA rfl,c.1,<-h.inp]
   rw[o,bA (show true=true from rfl)];by_cases hz:k.inp.headD 0=0
   .simp only[cI];rw[a_ (λe=>e hz),a_ (λe=>e hz),a_ f];exact b 1 (by omega) (by omega) _ _ a m h.v (by show k.inp.tail=_;rw[h.inp,<-c.2]) d rfl
   .simp only[cI];rw[bA hz,bA hz];exact b 0 (by omega) (by omega) _ _ a m h.v (by show k.inp.tail=_;rw[h.inp,<-c.2]) d rfl
theorem Rw(q:Bj F S)(w:F.length<=20):∀(n:Nat){s:Ms}{k:Wk},Jq F.length L s k->Jq F.length L (Ka F L n s) (Mq S n k):=by
 intro n;have B:=q.1.len;induction n with
 |zero=>intro s k h;exact h
 |succ n ih=>
  intro s k h;have hs:=h.st;have C:=h.lo;have K:=h.hi;rw[Ka,Mq];by_cases m:s.st=0
  .have y:k.pt<F.length:=by
    rcases Int.lt_or_eq_of_le K with e|e
    .exact e
    .rw[bA e]at hs;omega
   rw[a_ (by omega)]at hs;rw[bA m,bA ⟨by omega,by omega⟩];exact ih (Lz q w h m (by omega) y)
  .rw[a_ m,a_ (λe=>m (by rw[hs,a_ (by omega)];exact e.1))];exact h
def G4(S:List St)(L:List Int)(j:Int):Wk:=Mq S (min j.toNat 2000) ⟨0,0,[0,0,0,0],L⟩
theorem RU(q:Bj F S)(w:F.length<=20)(L:List Int)(j:Int):Jq F.length L (EM F L j) (G4 S L j):=
 Rw q w _ ⟨rfl,rfl,rfl,rfl,bN _,by show(0:Int)<=_;omega⟩
theorem Um(S:List St)(k:Wk):(CZ S k).inp.length<=k.inp.length:=by
 have M:k.inp.tail.length<=k.inp.length:=by simp
 unfold CZ Ke;split
 .split
  .exact M
  .split<;>exact bB _
 .split
  .split
   .exact M
   .split<;>exact M
  .split
   .exact bB _
   .split<;>exact bB _
theorem WL(q:Bj F S)(w:F.length<=20){k:Wk}(d:k.st=0)(C:0<=k.pt)(y:k.pt<F.length):0<=(CZ S k).pt/\(CZ S k).pt<=F.length:=by
 have h:Jq F.length k.inp ⟨0,0,k.pt,k.v⟩ k:=⟨rfl,rfl,rfl,by show(0:Int)=_;rw[a_ (by omega),d],C,by omega⟩
 have:=Lz q w h rfl d y;exact⟨this.lo,this.hi⟩
def NH(w:World)(l:List Int)(L:List Int)(g:Int):Ending->World->Prop:=λe w'=>dc w w'/\
 ((AV l=none/\e=.returned (.tuple #[.int .i64 0,.int .i64 0,.slice none 0 0,.int .i64 1]))\/
  ∃m,AV l=some m/\∃q,e=.returned (.tuple #[.int .i64 (if(G4 m.st L g).pt=m.st.length then 1 else(G4 m.st L g).st),.int .i64 (G4 m.st L g).pt,.slice (some ⟨q,0,none⟩) 4 4,.int .i64 0])/\w.heap.size<=q/\At w' q (ic (G4 m.st L g).v) tN/\(G4 m.st L g).v.length=4)
theorem P5{r T:Nat}{m:Rd}{iv:Value}{L:List Int}(h:SG T w r m)(hB:T<=w.heap.size)(hi:Ir w T iv L)(o:World)
  (hw2:o=(w.alloc (.cells #[.int .i64 0,.int .i64 0,.int .i64 0,.int .i64 0] tN)).alloc (.cells #[.int .i64 0,.int .i64 0,.slice (some ⟨w.heap.size,0,none⟩) 4 4,iv] tW)):Ax T o r (w.heap.size+1) w.heap.size m iv ⟨0,0,[0,0,0,0],L⟩/\Below T w o:=by
 have hb:dc w o:=by rw[hw2];exact((bC _ _).alloc (bB _) _).alloc (by simp) _
 have J:=hb.mono hB;refine⟨⟨h.keep J,?_,?_,hi.keep J,rfl,λi=>?_,by omega,hB⟩,J⟩
 .rw[hw2];have:=At.new (w.alloc (.cells #[.int .i64 0,.int .i64 0,.int .i64 0,.int .i64 0] tN)) #[.int .i64 0,.int .i64 0,.slice (some ⟨w.heap.size,0,none⟩) 4 4,iv] tW;rw[show(w.alloc (.cells #[.int .i64 0,.int .i64 0,.int .i64 0,.int .i64 0] tN)).heap.size=w.heap.size+1 by simp]at this;exact this
 .rw[hw2];exact(At.new w #[.int .i64 0,.int .i64 0,.int .i64 0,.int .i64 0] tN).alloc _
 .have:AB [0,0,0,0] i=0:=by
   unfold AB
   match i with
   |0|1|2|3=>rfl
   |n+4=>rfl
  show -999<=AB [0,0,0,0] i/\AB [0,0,0,0] i<=999;omega
theorem SG.slen{r T:Nat}{m:Rd}(h:SG T w r m):∃ao cap,w.cell? ⟨r,1,none⟩=some (.slice ao m.st.length cap)/\r<T:=by
 obtain⟨B,vs,vo,P,Q,O,h1,h2⟩:=h.rep;obtain⟨ao,cap,hv⟩:=h1.slen';exact⟨ao,cap,by rw[<-hv];exact h1.rdc.2.1,h2⟩
theorem WH(s:ByteArray)(iv:Value)(L:List Int)(g:Int)(hm:s.size<=maxLen)(hi:Ir w w.heap.size iv L)(hL:L.length<=1073741824):
  Calls prog 32 #[.string s,iv,.int .i64 g] w (NH w (AA s) L g):=by
 have hs:=Ey s w hm;cases V:AV (AA s)with
 |none=>
  have Z:Hid (AV (AA s)=none):=V;have h1:=EQ V;generalize Bv (AA s)=x at *;obtain⟨a,b,c⟩:=x;have h2:b=1:=h1;subst h2;simp only[FK]at hs;clear hm V h1 hi;go_enter func32,ntmps32;go_wp2_with fail;refine hs.mono ?_;rintro e U ⟨rfl,hb⟩;go_wp2_with fail;try simp only[Exit.inBlock,Exit.then]
  refine bJ (Bs rfl _ _ _) rfl ?_;exact⟨hb,.inl ⟨Z.out,rfl⟩⟩
 |some m=>
  rw[(Au V).2.2.2]at hs;simp only[FK]at hs;have Z:Hid (AV (AA s)=some m):=V;have hr:=λw=>Gx V w;obtain⟨F,hW⟩:∃F,Bj F m.st:=by
   rcases BU s (by rw[<-AR];exact(Au V).1)with⟨_,e⟩|⟨m',_,e,hW⟩
   .rw[V]at e;cases e
   .rw[V]at e;cases e;exact⟨_,hW⟩
  have HW:Hid (Bj F m.st):=hW;obtain⟨au,ok⟩:=Qz V;have ak:Hid (Zo m.st):=⟨ok.len,ok.sgl,ok.nums,au⟩
  have aq:F.length=m.st.length:=hW.1.len;have ac:Hid (F.length=m.st.length):=aq;have ax:m.st.length<=20:=ok.len;have aO:∀w,(Instr.makeSlice 32 (.int .i64 4) (.int .i64 4)).run prog w=.ok (.slice (some ⟨w.heap.size,0,none⟩) 4 4) (w.alloc (.cells #[.int .i64 0,.int .i64 0,.int .i64 0,.int .i64 0] tN)):=λ_=>by kernel_rfl
  have HI:Hid (Ir w w.heap.size iv L):=hi;obtain⟨ia,az,rfl, -, -⟩:=hi;obtain⟨N,hN⟩:∃N:Nat,N=min g.toNat 2000:=⟨_,rfl⟩
  have aa:Hid (G4 m.st L g=Mq m.st N ⟨0,0,[0,0,0,0],L⟩):=by show G4 _ _ _=_;rw[hN];rfl
  have aK:N<=2000:=by omega
  have aL:0<N->(N:Int)<=g:=by omega
  have aM:N<2000->g<=N:=by omega
  have al:Hid (∀T U r b q S k,Ax T U r b q m S k->k.inp.length<=1073741824->0<=k.pt->k.pt<m.st.length->Calls prog 71 #[.pointer (some ⟨b,0,none⟩),.pointer (some ⟨r,0,none⟩)] U λe w'=>e=.returned (.tuple #[])/\LJ T U r b q m (CZ m.st k) w'):=by
   intro T U r b q S k h1 h2 h3 h4;by_cases aB:(m.st.getD k.pt.toNat AY).kind=61
   .exact UE h1 ak.out h2 h3 h4 aB
   .exact WG h1 ak.out h2 h3 h4 aB
  clear hN hW V hm au ok aq;obtain⟨fin,ae⟩:∃fin,G4 m.st L g=fin:=⟨_,rfl⟩
  rw[ae]at aa;have t:Hid (G4 m.st L g=fin):=ae;clear ae;go_enter func32,ntmps32;go_wp2_with fail;refine hs.mono ?_;rintro e U ⟨rfl,hb⟩;have ah:Hid (dc w U):=hb;clear hb hs;go_wp2_with fail;refine(hr _).mono ?_;rintro e o ⟨n,rfl,J,aG,vs,vo,P,Q,O,X⟩;have aF:=ah.out.size;have aQ:=J.size;have aP:U.heap.size<o.heap.size:=X.rd.lt;have I:Hid (dc w o):=ah.out.trans (J.mono aF);have aE:Hid (SG o.heap.size o U.heap.size m):=⟨_,o,_,_,_,_,_,X,bB _,bC _ _⟩
  have aC:Hid (Ir o o.heap.size (.slice ia L.length az) L):=by
   obtain⟨ao,cap,hv,hc,h0⟩:=HI.out.keep I.out;exact⟨ao,cap,hv,hc,λhn=>by obtain⟨b,off,q1,q2,q3⟩:=h0 hn;exact⟨b,off,q1,by omega,q3⟩⟩
  have ap:=P5 aE.out (bB _) aC.out _ rfl;have an:Hid (_/\_):=ap;clear J hr ap X;go_wp2_with fail;go_loopw [17] (λi wr=>∃(j:Nat)(S:Value)(k:Wk),j<=N/\i=.int .i64 j/\Hid (Ax o.heap.size wr U.heap.size (o.heap.size+1) o.heap.size m S k/\dc o wr/\0<=k.pt/\k.pt<=m.st.length/\k.inp.length<=1073741824/\fin=Mq m.st (N-j) k)) (λi _=>N-(intOf i).toNat);case atStart=>exact⟨0,_,_,bY _,rfl,an.out.1,an.out.2,bN _,by show(0:Int)<=_;omega,hL,aa.out⟩
  case round=>
   obtain⟨j,S,k,hj,rfl,z⟩:=hrel;obtain⟨b0,b1,b2,b3,bf⟩:=z.out.1.cells;obtain⟨ao,cap,r1, -⟩:=z.out.1.rd.slen;have M:=z.out.1.at_.lt;have aI:=z.out.2.1.size;obtain⟨W,aH⟩:0<=k.pt/\k.pt<=m.st.length:=⟨z.out.2.2.1,z.out.2.2.2.1⟩
   by_cases K:j<N/\k.st=0/\k.pt<m.st.length
   .obtain⟨aN,D,C⟩:=K;have av:(j:Int)<g:=by omega
    have aw:(j:Int)<2000:=by omega
    have ag:=al.out _ _ _ _ _ _ _ z.out.1 z.out.2.2.2.2.1 W C;have HN:Hid (fin=Mq m.st (N-(j+1)) (CZ m.st k)):=by
     show fin=_;rw[z.out.2.2.2.2.2,show N-j=(N-(j+1))+1 by omega,Mq,bA ⟨D,C⟩]
    have ai:Hid (0<=(CZ m.st k).pt/\(CZ m.st k).pt<=m.st.length):=by
     have:=WL HW.out (by rw[ac.out];exact ax) D W (by rw[ac.out];exact C);rw[ac.out]at this;exact this
    have aD:Hid ((CZ m.st k).inp.length<=1073741824):=cN (Um m.st k) z.out.2.2.2.2.1;rw[D]at b0;clear D;go_wp2_with fail;go_quiet (fail);obtain⟨y,f⟩:∃y,y=wr.drewN nq:=⟨_,rfl⟩
    rw[<-f];have aj:Hid (Ax o.heap.size y U.heap.size (o.heap.size+1) o.heap.size m S k/\dc o y):=by rw[f];exact⟨z.out.1.drewN _,bD z.out.2.1 _⟩
    have ab:=al.out _ _ _ _ _ _ _ aj.out.1 z.out.2.2.2.2.1 W C;clear f ag;go_wp2_with fail;refine ab.mono ?_;rintro e w6 ⟨rfl,aA,ay,ar⟩;have am:Hid (Ax o.heap.size w6 U.heap.size (o.heap.size+1) o.heap.size m aA (CZ m.st k)/\dc o w6):=⟨ay,aj.out.2.trans ar⟩
    clear ay ar ab;go_wp2_with fail;go_roundw;case rel=>exact⟨j+1,aA,_,by omega,by go_num,am.out.1,am.out.2,ai.out.1,ai.out.2,aD.out,HN.out⟩
    case measure=>simp[intOf];omega
   .have p:Hid (fin=k):=by
     show fin=k;rw[z.out.2.2.2.2.2];cases hq:N-j with
     |zero=>rfl
     |succ q=>rw[Mq,a_ (λe=>K ⟨by omega,e.1,e.2⟩)]
    by_cases av:(j:Int)<g
    .by_cases aw:(j:Int)<2000
     .by_cases D:k.st=0
      .have C:¬k.pt<m.st.length:=λe=>K ⟨by omega,D,e⟩;have hd:decide (k.pt<(m.st.length:Int))=false:=by simpa using C
       rw[D]at b0;have aJ:Hid (k.st=0):=D;have d:k.pt=m.st.length:=by omega
       clear K D C;go_wp2_with fail;go_quiet (fail);obtain⟨y,f⟩:∃y,y=wr.drewN nq:=⟨_,rfl⟩
       rw[<-f];have Y:∀a,y.cell? a=wr.cell? a:=λa=>by rw[f];rfl
       have k2:∀a,y.frozen? a=wr.frozen? a:=λa=>by rw[f];rfl
       rw[<-Y]at r1 b0 b1 b2;have ad:∀i,y.frozen? ⟨o.heap.size+1,i,none⟩=false:=λi=>(k2 _).trans (bf i);have H:Hid (At y o.heap.size (ic k.v) tN):=by rw[f];exact z.out.1.vt.drewN _
       have E:Hid (dc o y):=by rw[f];exact bD z.out.2.1 _
       have af:o.heap.size+1<y.heap.size:=by rw[f];exact M
       have G:Hid (k.v.length=4):=z.out.1.len;have A:o.heap.size≠o.heap.size+1:=by omega
       clear Y k2 f bf;have R:(k.pt==(m.st.length:Int))=true:=by rw[beq_iff_eq];exact d
       have u:Hid ((if k.pt=m.st.length then(1:Int)else k.st)=1):=bA d;clear d;go_wp2_with fail;go_quiet (fail);go_wp2_with fail;go_quiet (fail);go_wp2_with fail;try simp only[Exit.inBlock,Exit.then]
       refine bJ (Bs rfl _ _ _) rfl ?_;refine⟨?_,.inr ⟨m,Z.out,o.heap.size,?_,by omega,?_,?_⟩⟩
       .exact bD (((bD (I.out.trans (E.out.mono (by omega))) _)).setCell (by show w.heap.size<=o.heap.size+1;omega) _) _
       .rw[t.out,p.out,u.out];rfl
       .rw[t.out,p.out];exact((H.out.drewN _).other 0 _ A).drewN _
       .rw[t.out,p.out];exact G.out
      .have aR:(k.st==0)=false:=by simpa using D
       clear K D;go_wp2_with fail;go_quiet (fail);obtain⟨y,f⟩:∃y,y=wr.drewN nq:=⟨_,rfl⟩
       rw[<-f];have Y:∀a,y.cell? a=wr.cell? a:=λa=>by rw[f];rfl
       have k2:∀a,y.frozen? a=wr.frozen? a:=λa=>by rw[f];rfl
       rw[<-Y]at r1 b0 b1 b2;have ad:∀i,y.frozen? ⟨o.heap.size+1,i,none⟩=false:=λi=>(k2 _).trans (bf i);have H:Hid (At y o.heap.size (ic k.v) tN):=by rw[f];exact z.out.1.vt.drewN _
       have E:Hid (dc o y):=by rw[f];exact bD z.out.2.1 _
       have af:o.heap.size+1<y.heap.size:=by rw[f];exact M
       have G:Hid (k.v.length=4):=z.out.1.len;have A:o.heap.size≠o.heap.size+1:=by omega
       clear Y k2 f bf;by_cases d:k.pt=m.st.length
       .have R:(k.pt==(m.st.length:Int))=true:=by rw[beq_iff_eq];exact d
        have u:Hid ((if k.pt=m.st.length then(1:Int)else k.st)=1):=bA d;clear d;go_wp2_with fail;go_quiet (fail);go_wp2_with fail;go_quiet (fail);go_wp2_with fail;try simp only[Exit.inBlock,Exit.then]
        refine bJ (Bs rfl _ _ _) rfl ?_;refine⟨?_,.inr ⟨m,Z.out,o.heap.size,?_,by omega,?_,?_⟩⟩
        .exact bD (((bD (I.out.trans (E.out.mono (by omega))) _)).setCell (by show w.heap.size<=o.heap.size+1;omega) _) _
        .rw[t.out,p.out,u.out];rfl
        .rw[t.out,p.out];exact((H.out.drewN _).other 0 _ A).drewN _
        .rw[t.out,p.out];exact G.out
       .have R:(k.pt==(m.st.length:Int))=false:=by rw[b9];exact d
        have u:Hid ((if k.pt=m.st.length then(1:Int)else k.st)=k.st):=a_ d;clear d;go_wp2_with fail;go_quiet (fail);go_wp2_with fail;go_quiet (fail);go_wp2_with fail;try simp only[Exit.inBlock,Exit.then]
        refine bJ (Bs rfl _ _ _) rfl ?_;refine⟨?_,.inr ⟨m,Z.out,o.heap.size,?_,by omega,?_,?_⟩⟩
        .exact bD (bD (I.out.trans (E.out.mono (by omega))) _) _
        .rw[t.out,p.out,u.out];rfl
        .rw[t.out,p.out];exact H.out
        .rw[t.out,p.out];exact G.out
     .have hd:decide ((j:Int)<2000)=false:=by simpa using aw
      clear K;go_wp2_with fail;go_quiet (fail);obtain⟨y,f⟩:∃y,y=wr.drewN nq:=⟨_,rfl⟩
      rw[<-f];have Y:∀a,y.cell? a=wr.cell? a:=λa=>by rw[f];rfl
      have k2:∀a,y.frozen? a=wr.frozen? a:=λa=>by rw[f];rfl
      rw[<-Y]at r1 b0 b1 b2;have ad:∀i,y.frozen? ⟨o.heap.size+1,i,none⟩=false:=λi=>(k2 _).trans (bf i);have H:Hid (At y o.heap.size (ic k.v) tN):=by rw[f];exact z.out.1.vt.drewN _
      have E:Hid (dc o y):=by rw[f];exact bD z.out.2.1 _
      have af:o.heap.size+1<y.heap.size:=by rw[f];exact M
      have G:Hid (k.v.length=4):=z.out.1.len;have A:o.heap.size≠o.heap.size+1:=by omega
      clear Y k2 f bf;by_cases d:k.pt=m.st.length
      .have R:(k.pt==(m.st.length:Int))=true:=by rw[beq_iff_eq];exact d
       have u:Hid ((if k.pt=m.st.length then(1:Int)else k.st)=1):=bA d;clear d;go_wp2_with fail;go_quiet (fail);go_wp2_with fail;go_quiet (fail);go_wp2_with fail;try simp only[Exit.inBlock,Exit.then]
       refine bJ (Bs rfl _ _ _) rfl ?_;refine⟨?_,.inr ⟨m,Z.out,o.heap.size,?_,by omega,?_,?_⟩⟩
       .exact bD (((bD (I.out.trans (E.out.mono (by omega))) _)).setCell (by show w.heap.size<=o.heap.size+1;omega) _) _
       .rw[t.out,p.out,u.out];rfl
       .rw[t.out,p.out];exact((H.out.drewN _).other 0 _ A).drewN _
       .rw[t.out,p.out];exact G.out
      .have R:(k.pt==(m.st.length:Int))=false:=by rw[b9];exact d
       have u:Hid ((if k.pt=m.st.length then(1:Int)else k.st)=k.st):=a_ d;clear d;go_wp2_with fail;go_quiet (fail);go_wp2_with fail;go_quiet (fail);go_wp2_with fail;try simp only[Exit.inBlock,Exit.then]
       refine bJ (Bs rfl _ _ _) rfl ?_;refine⟨?_,.inr ⟨m,Z.out,o.heap.size,?_,by omega,?_,?_⟩⟩
       .exact bD (bD (I.out.trans (E.out.mono (by omega))) _) _
       .rw[t.out,p.out,u.out];rfl
       .rw[t.out,p.out];exact H.out
       .rw[t.out,p.out];exact G.out
    .have hd:decide ((j:Int)<g)=false:=by simpa using av
     clear K;go_wp2_with fail;go_quiet (fail);obtain⟨y,f⟩:∃y,y=wr.drewN nq:=⟨_,rfl⟩
     rw[<-f];have Y:∀a,y.cell? a=wr.cell? a:=λa=>by rw[f];rfl
     have k2:∀a,y.frozen? a=wr.frozen? a:=λa=>by rw[f];rfl
     rw[<-Y]at r1 b0 b1 b2;have ad:∀i,y.frozen? ⟨o.heap.size+1,i,none⟩=false:=λi=>(k2 _).trans (bf i);have H:Hid (At y o.heap.size (ic k.v) tN):=by rw[f];exact z.out.1.vt.drewN _
     have E:Hid (dc o y):=by rw[f];exact bD z.out.2.1 _
     have af:o.heap.size+1<y.heap.size:=by rw[f];exact M
     have G:Hid (k.v.length=4):=z.out.1.len;have A:o.heap.size≠o.heap.size+1:=by omega
     clear Y k2 f bf;by_cases d:k.pt=m.st.length
     .have R:(k.pt==(m.st.length:Int))=true:=by rw[beq_iff_eq];exact d
      have u:Hid ((if k.pt=m.st.length then(1:Int)else k.st)=1):=bA d;clear d;go_wp2_with fail;go_quiet (fail);go_wp2_with fail;go_quiet (fail);go_wp2_with fail;try simp only[Exit.inBlock,Exit.then]
      refine bJ (Bs rfl _ _ _) rfl ?_;refine⟨?_,.inr ⟨m,Z.out,o.heap.size,?_,by omega,?_,?_⟩⟩
      .exact bD (((bD (I.out.trans (E.out.mono (by omega))) _)).setCell (by show w.heap.size<=o.heap.size+1;omega) _) _
      .rw[t.out,p.out,u.out];rfl
      .rw[t.out,p.out];exact((H.out.drewN _).other 0 _ A).drewN _
      .rw[t.out,p.out];exact G.out
     .have R:(k.pt==(m.st.length:Int))=false:=by rw[b9];exact d
      have u:Hid ((if k.pt=m.st.length then(1:Int)else k.st)=k.st):=a_ d;clear d;go_wp2_with fail;go_quiet (fail);go_wp2_with fail;go_quiet (fail);go_wp2_with fail;try simp only[Exit.inBlock,Exit.then]
      refine bJ (Bs rfl _ _ _) rfl ?_;refine⟨?_,.inr ⟨m,Z.out,o.heap.size,?_,by omega,?_,?_⟩⟩
      .exact bD (bD (I.out.trans (E.out.mono (by omega))) _) _
      .rw[t.out,p.out,u.out];rfl
      .rw[t.out,p.out];exact H.out
      .rw[t.out,p.out];exact G.out
end Go.Proofs.YtffajooegiempaaGreatDoor
