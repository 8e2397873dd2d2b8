import Derived.Test.YtffajooegiempaaGreatDoorK28
set_option maxRecDepth 100000
set_option maxHeartbeats 6400000
namespace Go.Proofs.YtffajooegiempaaGreatDoor
open Go.RowKit Go.Proofs.Tryz
variable {w:World}{m:Nat}{pv iv:Value}{L:List Int}{s:Ms}{F:List Ds}
theorem RF(h:At w m (Cf pv iv s) tM)(u:U_ w m pv F)(I:F.length<=20)(p:Int):
  Calls prog 104 #[.pointer (some ⟨m,0,none⟩),.int .i64 p] w λe w'=>e=.returned (.tuple #[])/\Cy m w pv iv (FU F.length s p) w':=by
 obtain⟨c0,c1,c2,c3,c4,c5,O,P,c8,Q⟩:=EB h;obtain⟨N,cap,rfl, -⟩:=u;have l:=h.lt;have q:Hid (At w m _ tM):=h;by_cases n:p=F.length
 .have i:Hid (FU F.length s p=⟨s.used,1,p,s.v⟩):=by show FU _ _ _=_;unfold FU;rw[bA n]
  have hb:(p==(F.length:Int))=true:=by rw[beq_iff_eq];exact n
  clear h n;go_enter func104,ntmps104;go_wp2_with fail;refine(J7 _ F.length cap _ I).mono ?_;rintro e y ⟨rfl,o,rfl⟩;go_wp2_with fail
  go_end0
  refine⟨rfl,?_,?_⟩
  .rw[i.out];exact((q.out.put 4 (.int .i64 p)).put 3 (.int .i64 1)).alloc o
  .exact(((BC.refl m w).setCell _ _).setCell _ _).alloc _
 .have i:Hid (FU F.length s p=⟨s.used,s.st,p,s.v⟩):=by show FU _ _ _=_;unfold FU;rw[a_ n]
  have hb:(p==(F.length:Int))=false:=by rw[b9];exact n
  clear h n;go_enter func104,ntmps104;go_wp2_with fail;refine(J7 _ F.length cap _ I).mono ?_;rintro e y ⟨rfl,o,rfl⟩;go_wp2_with fail
  go_end0
  refine⟨rfl,?_,?_⟩
  .rw[i.out];exact(q.out.put 4 (.int .i64 p)).alloc o
  .exact((BC.refl m w).setCell _ _).alloc _
structure OZ(F:List Ds):Prop where
 len:F.length<=20
 par:∀(k:Nat)(x:Ds),F[k]?=some x-> -1<=x.parent/\x.parent<(k:Int)
 ds:∀(k:Nat)(x:Ds),F[k]?=some x->GI x
theorem M9(h:At w m (Cf pv iv s) tM)(u:U_ w m pv F)(G:OZ F)(h0:0<=s.pt)(h1:s.pt<F.length)(a:Int):
  Calls prog 150 #[.pointer (some ⟨m,0,none⟩),.int .i64 a] w λe w'=>e=.returned (.tuple #[])/\Cy m w pv iv (Dl F s a) w':=by
 obtain⟨c0,c1,c2,c3,c4,c5,O,P,c8,Q⟩:=EB h;have K:Hid (U_ w m pv F):=u;obtain⟨N,cap,E,H⟩:=u;obtain⟨g,rfl,aa,f⟩:=H (by omega);have l:=h.lt;have q:Hid (At w m _ tM):=h;have B:Hid (OZ F):=G;have M:Hid (Cc w g F):=f;obtain⟨k,hk⟩:∃k:Nat,s.pt=k:=⟨s.pt.toNat,by omega⟩
 have D:k<F.length:=by omega
 have C:Hid (∀d,dc w d->Calls prog 68 #[.agg #[.slice (some ⟨g,0,none⟩) F.length cap],.int .i64 (k:Int),.int .i64 a] d λe w'=>e=.returned (.tuple #[.int .i64 (Ap F k a).1,.int .i64 (Ap F k a).2])/\Hid (dc w w')):=by
  intro d b;refine(Gj (M.out.keep b) B.out.len B.out.par k D a).mono ?_;rintro e y ⟨rfl,j⟩;exact⟨rfl,b.trans (j.mono b.size)⟩
 have c:Hid (Dl F s a=if(Ap F k a).2=0 then FU F.length s (Ap F k a).1 else s):=by show Dl F s a=_;unfold Dl;rw[hk]
 have A:Hid (∀d p,dc w d->Calls prog 104 #[.pointer (some ⟨m,0,none⟩),.int .i64 p] d λe w'=>e=.returned (.tuple #[])/\Cy m d pv iv (FU F.length s p) w'):=by
  intro d p b;exact RF (q.out.keep b l) (K.out.keep (b.mono (by omega))) B.out.len p
 rw[E]at c0;rw[hk]at c4;generalize Ap F k a=nx at *;obtain⟨R,J⟩:=nx;simp only at c C;clear h f H G;by_cases hz:J=0
 .subst hz;have i:Hid (Dl F s a=FU F.length s R):=c.out.trans (bA rfl);clear c;go_enter func150,ntmps150;go_wp2_with fail;go_region_with (go_at_call 68;refine(C.out _ (by first|exact bC _ _|exact(bC _ _).drew)).mono ?_;rintro e d ⟨rfl,r⟩);all_goals
   go_wp2_with fail;refine(A.out _ _ r.out).mono ?_;rintro e y ⟨rfl,t,j⟩;have z:Hid (At y m _ tM):=t;clear t;go_wp2_with fail
   go_end0
   exact⟨rfl,by rw[i.out];exact z.out,(BC.of r.out m).trans j⟩
 .have ab:(J==0)=false:=by simpa using hz
  have i:Hid (Dl F s a=s):=c.out.trans (a_ hz);clear c;go_enter func150,ntmps150;go_wp2_with fail;go_region_with (go_at_call 68;refine(C.out _ (by first|exact bC _ _|exact(bC _ _).drew)).mono ?_;rintro e d ⟨rfl,r⟩);all_goals
   go_wp2_with fail
   go_end0
   exact⟨rfl,by rw[i.out];exact q.out.keep r.out l,BC.of r.out m⟩
structure E4(w:World)(m:Nat)(pv iv:Value)(F:List Ds)(L:List Int)(s:Ms):Prop where
 at_:At w m (Cf pv iv s) tM
 prog:U_ w m pv F
 inp:Ir w m iv L
 ok:Dm L s
theorem E4.next(h:E4 w m pv iv F L s){w':World}{U:Ms}(R:At w' m (Cf pv iv U) tM)(G:BC m w w')(hk:Dm L U):E4 w' m pv iv F L U:=
 have hb:Below m w w':=G.below (bB _) (Nat.le_of_lt h.at_.lt)
 ⟨R,h.prog.keep hb,h.inp.keep hb,hk⟩
theorem E4.same(h:E4 w m pv iv F L s){w':World}(G:dc w w'):E4 w' m pv iv F L s:=
 have hb:Below m w w':=G.mono (Nat.le_of_lt h.at_.lt)
 ⟨h.at_.keep G h.at_.lt,h.prog.keep hb,h.inp.keep hb,h.ok⟩
theorem RO(w:World)(x:Ds):At (w.alloc (.cells #[.int .i64 x.kind,.int .i64 x.target,.bool x.any,.int .i64 (AB x.sg 0),.int .i64 (AB x.sg 1),.int .i64 (AB x.sg 2),.int .i64 (AB x.sg 3),.int .i64 x.num,.int .i64 x.parent,.int .i64 x.block] BB)) w.heap.size (AD x) BB:=At.new _ _ _
theorem PD(pv iv:Value)(s:Ms)(hl:s.v.length=4)(t:Nat)(I:t<4)(y:Int)(u:Nat):(Cf pv iv ⟨u,s.st,s.pt,s.v⟩).setIfInBounds (5+t) (.int .i64 y)=Cf pv iv ⟨u,s.st,s.pt,s.v.set t y⟩:=by
 unfold Cf;simp only[GY _ _ _ _ (show t<s.v.length by omega)];rcases(show t=0\/t=1\/t=2\/t=3 by omega)with rfl|rfl|rfl|rfl<;>rfl
theorem U7(x:Ds)(hx:GI x)(h:E4 w m pv iv F L s)(V:OZ F)(Z:L.length<=9223372036854775807)(Y:0<=s.pt)(h1:s.pt<F.length):
  Calls Tryz.prog 131 #[.pointer (some ⟨m,0,none⟩),B0 x] w λe w'=>e=.returned (.tuple #[])/\Cy m w pv iv (IB F L x s) w':=by
 have aa:=h.at_.lt;have C:Hid (E4 w m pv iv F L s):=h;have X:Hid (GI x):=hx;have W:Hid (OZ F):=V;have D:Hid (∀o,dc w (w.alloc o)):=λo=>(bC _ _).alloc (bB _) _;obtain⟨kd,tg,g,sg,k,l,j⟩:=x;have E:Hid (∀o,Calls Tryz.prog 149 #[.pointer (some ⟨m,0,none⟩),B0 ⟨kd,tg,g,sg,k,l,j⟩] (w.alloc o) λe w'=>e=.returned (.int .i64 (Dz L ⟨kd,tg,g,sg,k,l,j⟩ s).1)/\Hid (Cy m (w.alloc o) pv iv ⟨(Dz L ⟨kd,tg,g,sg,k,l,j⟩ s).2,s.st,s.pt,s.v⟩ w')):=λo=>
  have Q:=C.out.same (D.out o)
  Wh ⟨kd,tg,g,sg,k,l,j⟩ X.out Q.at_ Q.inp Q.ok Z
 have O:Hid ((Dz L ⟨kd,tg,g,sg,k,l,j⟩ s).2<=L.length):=JD h.ok;have n:Hid (IB F L ⟨kd,tg,g,sg,k,l,j⟩ s=if 999<(Dz L ⟨kd,tg,g,sg,k,l,j⟩ s).1\/(Dz L ⟨kd,tg,g,sg,k,l,j⟩ s).1< -999 then⟨(Dz L ⟨kd,tg,g,sg,k,l,j⟩ s).2,2,s.pt,s.v⟩else Dl F ⟨(Dz L ⟨kd,tg,g,sg,k,l,j⟩ s).2,s.st,s.pt,s.v.set tg.toNat (Dz L ⟨kd,tg,g,sg,k,l,j⟩ s).1⟩ 0):=rfl;have d:=(show Hid (At _ _ _ _)from RO w ⟨kd,tg,g,sg,k,l,j⟩)
 have I:=hx.tg;unfold B0 at *;simp only at I d E|-;generalize Dz L ⟨kd,tg,g,sg,k,l,j⟩ s=y at *;obtain⟨y,u⟩:=y;simp only at n E O;clear h V hx;obtain⟨ab,ac⟩:=I;by_cases hov:999<y\/y< -999
 .have p:Hid (_=_):=n.out.trans (bA hov);have hd:(decide (999<y)||decide (y< -999))=true:=by simpa using hov
  clear n;rcases hov with hov|hov;all_goals
   go_enter func131,ntmps131;go_wp2_with fail;refine(E.out _).mono ?_;rintro e c ⟨rfl,a⟩;obtain⟨c0,c1,c2,c3,c4,c5,K,M,c8,N⟩:=EB a.out.1;have A:=a.out.1.lt;go_wp2_with fail;try simp only[Exit.inBlock,Exit.then]
   refine bJ (cK rfl _ _ _) rfl ?_;exact⟨rfl,by rw[p.out];exact a.out.1.put 3 _,((BC.of (D.out _) m).trans a.out.2).setCell _ _⟩
 .have f:Hid (_=_):=n.out.trans (a_ hov);have ad:¬999<y:=λe=>hov (.inl e);have ae:¬y< -999:=λe=>hov (.inr e);clear n hov;have q:Hid (∀(t:Nat),t<4->∀c,E4 c m pv iv F L ⟨u,s.st,s.pt,s.v⟩->∀B,B=(c.setCell ⟨m,5+t,none⟩ (.int .i64 y)).drew->Calls Tryz.prog 150 #[.pointer (some ⟨m,0,none⟩),.int .i64 0] B λe w'=>e=.returned (.tuple #[])/\Hid (Cy m c pv iv (Dl F ⟨u,s.st,s.pt,s.v.set t y⟩ 0) w')):=by
   intro t I c H B J;have z:=H.at_.put (5+t) (.int .i64 y);rw[PD pv iv s C.out.ok.len t I y u]at z;have z:At B m (Cf pv iv ⟨u,s.st,s.pt,s.v.set t y⟩) tM:=by rw[J];exact z
   have G:BC m c B:=by rw[J];exact((BC.refl m c).setCell (5+t) (.int .i64 y)).drewN 1
   have T:Dm L ⟨u,s.st,s.pt,s.v.set t y⟩:=by
    refine⟨by simp only[b8];exact C.out.ok.len,λi=>?_,O.out⟩;have hl:=C.out.ok.len;simp only;rw[GY _ _ _ _ (by omega)];split
    .omega
    .exact C.out.ok.v i
   have h2:=H.next z G T;refine(M9 h2.at_ h2.prog W.out Y h1 0).mono ?_;rintro e w3 ⟨rfl,R,S⟩;exact⟨rfl,R,G.trans S⟩
  have r:Hid (∀o c,Cy m (w.alloc o) pv iv ⟨u,s.st,s.pt,s.v⟩ c->E4 c m pv iv F L ⟨u,s.st,s.pt,s.v⟩):=λo c a=>(C.out.same (D.out o)).next a.1 a.2 ⟨C.out.ok.len,C.out.ok.v,O.out⟩;rcases(show tg=0\/tg=1\/tg=2\/tg=3 by omega)with rfl|rfl|rfl|rfl
  .have p:Hid (IB F L ⟨kd,0,g,sg,k,l,j⟩ s=Dl F ⟨u,s.st,s.pt,s.v.set 0 y⟩ 0):=f.out;clear f;go_enter func131,ntmps131;go_wp2_with fail;refine(E.out _).mono ?_;rintro e c ⟨rfl,a⟩;obtain⟨c0,c1,c2,c3,c4,c5,K,M,c8,N⟩:=EB a.out.1;have A:=a.out.1.lt;have P:c.cell? ⟨w.heap.size,1,none⟩=some (.int .i64 0):=by
    rw[a.out.2.cell (by simp) (by omega)];exact d.out.cell 1
   go_wp2_with fail;go_region;all_goals
    go_wp2_with fail;refine(q.out 0 (by omega) c (r.out _ _ a.out) _ rfl).mono ?_;rintro e B ⟨rfl,b⟩;go_wp2_with fail
    go_end0
    exact⟨rfl,by rw[p.out];exact b.out.1,((BC.of (D.out _) m).trans a.out.2).trans b.out.2⟩
  .have p:Hid (IB F L ⟨kd,1,g,sg,k,l,j⟩ s=Dl F ⟨u,s.st,s.pt,s.v.set 1 y⟩ 0):=f.out;clear f;go_enter func131,ntmps131;go_wp2_with fail;refine(E.out _).mono ?_;rintro e c ⟨rfl,a⟩;obtain⟨c0,c1,c2,c3,c4,c5,K,M,c8,N⟩:=EB a.out.1;have A:=a.out.1.lt;have P:c.cell? ⟨w.heap.size,1,none⟩=some (.int .i64 1):=by
    rw[a.out.2.cell (by simp) (by omega)];exact d.out.cell 1
   go_wp2_with fail;go_region;all_goals
    go_wp2_with fail;refine(q.out 1 (by omega) c (r.out _ _ a.out) _ rfl).mono ?_;rintro e B ⟨rfl,b⟩;go_wp2_with fail
    go_end0
    exact⟨rfl,by rw[p.out];exact b.out.1,((BC.of (D.out _) m).trans a.out.2).trans b.out.2⟩
  .have p:Hid (IB F L ⟨kd,2,g,sg,k,l,j⟩ s=Dl F ⟨u,s.st,s.pt,s.v.set 2 y⟩ 0):=f.out;clear f;go_enter func131,ntmps131;go_wp2_with fail;refine(E.out _).mono ?_;rintro e c ⟨rfl,a⟩;obtain⟨c0,c1,c2,c3,c4,c5,K,M,c8,N⟩:=EB a.out.1;have A:=a.out.1.lt;have P:c.cell? ⟨w.heap.size,1,none⟩=some (.int .i64 2):=by
    rw[a.out.2.cell (by simp) (by omega)];exact d.out.cell 1
   go_wp2_with fail;go_region;all_goals
    go_wp2_with fail;refine(q.out 2 (by omega) c (r.out _ _ a.out) _ rfl).mono ?_;rintro e B ⟨rfl,b⟩;go_wp2_with fail
    go_end0
    exact⟨rfl,by rw[p.out];exact b.out.1,((BC.of (D.out _) m).trans a.out.2).trans b.out.2⟩
  .have p:Hid (IB F L ⟨kd,3,g,sg,k,l,j⟩ s=Dl F ⟨u,s.st,s.pt,s.v.set 3 y⟩ 0):=f.out;clear f;go_enter func131,ntmps131;go_wp2_with fail;refine(E.out _).mono ?_;rintro e c ⟨rfl,a⟩;obtain⟨c0,c1,c2,c3,c4,c5,K,M,c8,N⟩:=EB a.out.1;have A:=a.out.1.lt;have P:c.cell? ⟨w.heap.size,1,none⟩=some (.int .i64 3):=by
    rw[a.out.2.cell (by simp) (by omega)];exact d.out.cell 1
   go_wp2_with fail;go_region;all_goals
    go_wp2_with fail;refine(q.out 3 (by omega) c (r.out _ _ a.out) _ rfl).mono ?_;rintro e B ⟨rfl,b⟩;go_wp2_with fail
    go_end0
    exact⟨rfl,by rw[p.out];exact b.out.1,((BC.of (D.out _) m).trans a.out.2).trans b.out.2⟩
theorem U6(x:Ds)(hx:GI x)(h:E4 w m pv iv F L s)(r:OZ F)(B:L.length<=9223372036854775807)(A:0<=s.pt)(h1:s.pt<F.length):
  Calls prog 132 #[.pointer (some ⟨m,0,none⟩),B0 x] w λe w'=>e=.returned (.tuple #[])/\Cy m w pv iv (Kw F L x s) w':=by
 have D:=h.at_.lt;have i:Hid (E4 w m pv iv F L s):=h;have z:Hid (GI x):=hx;have t:Hid (OZ F):=r;have j:Hid (∀o,dc w (w.alloc o)):=λo=>(bC _ _).alloc (bB _) _;have l:Hid (∀o,Calls prog 151 #[.pointer (some ⟨m,0,none⟩),B0 x] (w.alloc o) λe w'=>e=.returned (.bool (Cj L x s).1)/\Hid (Cy m (w.alloc o) pv iv ⟨(Cj L x s).2,s.st,s.pt,s.v⟩ w')):=λo=>
  have n:=i.out.same (j.out o)
  RG x z.out n.at_ n.inp n.ok B
 have q:Hid ((Cj L x s).2<=L.length):=FV h.ok;have a:Hid (Kw F L x s=if(Cj L x s).1=true then Dl F ⟨(Cj L x s).2,s.st,s.pt,s.v⟩ 0 else⟨(Cj L x s).2,3,s.pt,s.v⟩):=rfl;unfold B0 at *;generalize Cj L x s=y at *;obtain⟨y,u⟩:=y;simp only at a l q;clear h r hx;cases y
 .have k:Hid (_=_):=a.out.trans (a_ (by decide));clear a;go_enter func132,ntmps132;go_wp2_with fail;refine(l.out _).mono ?_;rintro e f ⟨rfl,c⟩;obtain⟨c0,c1,c2,c3,c4,c5,c6,c7,c8,cf⟩:=EB c.out.1;have aa:=c.out.1.lt;go_wp2_with fail;try simp only[Exit.inBlock,Exit.then]
  refine bJ (cK rfl _ _ _) rfl ?_;exact⟨rfl,by rw[k.out];exact c.out.1.put 3 _,((BC.of (j.out _) m).trans c.out.2).setCell _ _⟩
 .have k:Hid (_=_):=a.out.trans (bA rfl);clear a;have g:Hid (∀o f (b:Int),Cy m (w.alloc o) pv iv ⟨u,s.st,s.pt,s.v⟩ f->Calls prog 150 #[.pointer (some ⟨m,0,none⟩),.int .i64 b] f λe w'=>e=.returned (.tuple #[])/\Hid (Cy m w pv iv (Dl F ⟨u,s.st,s.pt,s.v⟩ b) w')):=by
   intro o f b c;have h2:=(i.out.same (j.out o)).next c.1 c.2 ⟨i.out.ok.len,i.out.ok.v,q.out⟩;refine(M9 h2.at_ h2.prog t.out A h1 b).mono ?_;rintro e G ⟨rfl,C,p⟩;exact⟨rfl,C,((BC.of (j.out o) m).trans c.2).trans p⟩
  go_enter func132,ntmps132;go_wp2_with fail;refine(l.out _).mono ?_;rintro e f ⟨rfl,c⟩;go_wp2_with fail;refine(g.out _ _ 0 c.out).mono ?_;rintro e E ⟨rfl,d⟩;go_wp2_with fail
  go_end0
  exact⟨rfl,by rw[k.out];exact d.out.1,d.out.2⟩
theorem U8(x:Ds)(hx:GI x)(h:E4 w m pv iv F L s)(r:OZ F)(B:L.length<=9223372036854775807)(A:0<=s.pt)(h1:s.pt<F.length):
  Calls prog 133 #[.pointer (some ⟨m,0,none⟩),B0 x] w λe w'=>e=.returned (.tuple #[])/\Cy m w pv iv (Jz F L x s) w':=by
 have D:=h.at_.lt;have i:Hid (E4 w m pv iv F L s):=h;have z:Hid (GI x):=hx;have t:Hid (OZ F):=r;have j:Hid (∀o,dc w (w.alloc o)):=λo=>(bC _ _).alloc (bB _) _;have l:Hid (∀o,Calls prog 151 #[.pointer (some ⟨m,0,none⟩),B0 x] (w.alloc o) λe w'=>e=.returned (.bool (Cj L x s).1)/\Hid (Cy m (w.alloc o) pv iv ⟨(Cj L x s).2,s.st,s.pt,s.v⟩ w')):=λo=>
  have n:=i.out.same (j.out o)
  RG x z.out n.at_ n.inp n.ok B
 have q:Hid ((Cj L x s).2<=L.length):=FV h.ok;have a:Hid (Jz F L x s=Dl F ⟨(Cj L x s).2,s.st,s.pt,s.v⟩ (if(Cj L x s).1=true then 0 else 1)):=rfl;unfold B0 at *;generalize Cj L x s=y at *;obtain⟨y,u⟩:=y;simp only at a l q;clear h r hx;have g:Hid (∀o f (b:Int),Cy m (w.alloc o) pv iv ⟨u,s.st,s.pt,s.v⟩ f->Calls prog 150 #[.pointer (some ⟨m,0,none⟩),.int .i64 b] f λe w'=>e=.returned (.tuple #[])/\Hid (Cy m w pv iv (Dl F ⟨u,s.st,s.pt,s.v⟩ b) w')):=by
  intro o f b c;have h2:=(i.out.same (j.out o)).next c.1 c.2 ⟨i.out.ok.len,i.out.ok.v,q.out⟩;refine(M9 h2.at_ h2.prog t.out A h1 b).mono ?_;rintro e G ⟨rfl,C,p⟩;exact⟨rfl,C,((BC.of (j.out o) m).trans c.2).trans p⟩
 cases y
 .have k:Hid (Jz F L x s=Dl F ⟨u,s.st,s.pt,s.v⟩ 1):=a.out;clear a;go_enter func133,ntmps133;go_wp2_with fail;refine(l.out _).mono ?_;rintro e f ⟨rfl,c⟩;go_wp2_with fail;refine(g.out _ _ 1 c.out).mono ?_;rintro e E ⟨rfl,d⟩;go_wp2_with fail
  go_end0
  exact⟨rfl,by rw[k.out];exact d.out.1,d.out.2⟩
 .have k:Hid (Jz F L x s=Dl F ⟨u,s.st,s.pt,s.v⟩ 0):=a.out;clear a;go_enter func133,ntmps133;go_wp2_with fail;refine(l.out _).mono ?_;rintro e f ⟨rfl,c⟩;go_wp2_with fail;refine(g.out _ _ 0 c.out).mono ?_;rintro e E ⟨rfl,d⟩;go_wp2_with fail
  go_end0
  exact⟨rfl,by rw[k.out];exact d.out.1,d.out.2⟩
theorem ME{w c:World}(h:dc w c)(V W X Y v4 Z v6 v7 v8 v9:Value):dc w ((((((((((c.setCell ⟨w.heap.size,0,none⟩ V).setCell ⟨w.heap.size,1,none⟩ W).setCell ⟨w.heap.size,2,none⟩ X).setCell ⟨w.heap.size,3,none⟩ Y).setCell ⟨w.heap.size,4,none⟩ v4).setCell ⟨w.heap.size,5,none⟩ Z).setCell ⟨w.heap.size,6,none⟩ v6).setCell ⟨w.heap.size,7,none⟩ v7).setCell ⟨w.heap.size,8,none⟩ v8).setCell ⟨w.heap.size,9,none⟩ v9):=(bH (p:=⟨w.heap.size,9,none⟩) (bH (p:=⟨w.heap.size,8,none⟩) (bH (p:=⟨w.heap.size,7,none⟩) (bH (p:=⟨w.heap.size,6,none⟩) (bH (p:=⟨w.heap.size,5,none⟩) (bH (p:=⟨w.heap.size,4,none⟩) (bH (p:=⟨w.heap.size,3,none⟩) (bH (p:=⟨w.heap.size,2,none⟩) (bH (p:=⟨w.heap.size,1,none⟩) (bH (p:=⟨w.heap.size,0,none⟩) h (bB w.heap.size) V) (bB w.heap.size) W) (bB w.heap.size) X) (bB w.heap.size) Y) (bB w.heap.size) v4) (bB w.heap.size) Z) (bB w.heap.size) v6) (bB w.heap.size) v7) (bB w.heap.size) v8) (bB w.heap.size) v9)
theorem YZ(h:E4 w m pv iv F L s)(R:OZ F)(S:L.length<=9223372036854775807)(Q:0<=s.pt)(h1:s.pt<F.length):
  Calls prog 105 #[.pointer (some ⟨m,0,none⟩)] w λe w'=>e=.returned (.tuple #[])/\Cy m w pv iv (GG F L s) w':=by
 obtain⟨c0,c1,c2,c3,c4,c5,c6,c7,c8,cf⟩:=EB h.at_;have l:=h.at_.lt;have O:Hid (E4 w m pv iv F L s):=h;have N:Hid (OZ F):=R;obtain⟨ao,cap,T,U⟩:=h.prog;obtain⟨g,rfl,ab,o⟩:=U (by omega);obtain⟨k,hk⟩:∃k:Nat,s.pt=k:=⟨s.pt.toNat,by omega⟩
 have t:k<F.length:=by omega
 have ae:(k:Int)<(F.length:Int):=by omega
 have f:Hid (∀c,dc w c->Calls prog 81 #[.agg #[.slice (some ⟨g,0,none⟩) F.length cap],.int .i64 (k:Int)] c λe w'=>e=.returned (.tuple #[B0 (F.getD k (AC 0 0)),.int .i64 0])/\dc w w'):=λc hb=>(Fm (o.keep hb) k t).mono λe w' h=>⟨h.1,hb.trans (h.2.mono hb.size)⟩
 have d:Calls prog 81 #[.agg #[.slice (some ⟨g,0,none⟩) F.length cap],.int .i64 (k:Int)] (w.alloc (.cells #[.int .i64 0,.int .i64 0,.bool false,.int .i64 0,.int .i64 0,.int .i64 0,.int .i64 0,.int .i64 0,.int .i64 0,.int .i64 0] BB)).drew λe w'=>e=.returned (.tuple #[B0 (F.getD k (AC 0 0)),.int .i64 0])/\Hid (dc w w'/\At w' w.heap.size #[.int .i64 0,.int .i64 0,.bool false,.int .i64 0,.int .i64 0,.int .i64 0,.int .i64 0,.int .i64 0,.int .i64 0,.int .i64 0] BB):=by
  have hb:dc w (w.alloc (.cells #[.int .i64 0,.int .i64 0,.bool false,.int .i64 0,.int .i64 0,.int .i64 0,.int .i64 0,.int .i64 0,.int .i64 0,.int .i64 0] BB)).drew:=((bC _ _).alloc (bB _) _).drew;refine(Fm (o.keep hb) k t).mono ?_;rintro e w' ⟨rfl,h⟩;exact⟨rfl,hb.trans (h.mono hb.size),At.keep (w:=(w.alloc (.cells #[.int .i64 0,.int .i64 0,.bool false,.int .i64 0,.int .i64 0,.int .i64 0,.int .i64 0,.int .i64 0,.int .i64 0,.int .i64 0] BB)).drew) (At.new w _ _) h (by show w.heap.size<(w.heap.push _).size;simp)⟩
 have P:Hid (GI (F.getD k (AC 0 0))):=R.ds k _ (KE t);have j:Hid (GG F L s=if(F.getD k (AC 0 0)).kind=0 then IB F L (F.getD k (AC 0 0)) s else if(F.getD k (AC 0 0)).kind=1 then Kw F L (F.getD k (AC 0 0)) s else Jz F L (F.getD k (AC 0 0)) s):=by
  show GG F L s=_;unfold GG;rw[a_ (by omega),hk,bK]
 have aa:¬(F.length:Int)<=(k:Int):=by omega
 have ad:¬(k:Int)<0:=by omega
 rw[T]at c0;rw[hk]at c4;generalize F.getD k (AC 0 0)=x at *;have ac:g<w.heap.size:=by omega
 clear h o U R c1 c2 c3 c5 c6 c7 c8;by_cases r:x.kind=0
 .have v:Hid (_=_):=j.out.trans (bA r);clear j;have q:Hid (∀c,dc w c->Calls prog 131 #[.pointer (some ⟨m,0,none⟩),B0 x] c λe w'=>e=.returned (.tuple #[])/\Hid (Cy m w pv iv (IB F L x s) w')):=by
   intro c hb;refine(U7 x P.out (O.out.same hb) N.out S Q h1).mono ?_;rintro e B ⟨rfl,y,A⟩;exact⟨rfl,y,(BC.of hb m).trans A⟩
  unfold B0 at q f d;rw[r]at f d q;clear r;go_enter func105,ntmps105;go_wp2_with fail
  go_region_with (go_at_call 81;first
   |(refine(f.out _ (by exact(bC _ _).drew)).mono ?_
     rintro e c ⟨rfl,b⟩;have a:Hid (dc w c):=b;have n:m<c.heap.size:=bM l a.out.size
     clear b)
   |(refine d.mono ?_
     rintro e c ⟨rfl,b⟩;have a:Hid (dc w c):=b.out.1;have n:m<c.heap.size:=bM l a.out.size;have hz:=b.out.2;have z:w.heap.size<c.heap.size:=hz.lt;have C:=hz.cell 0;have D:=hz.cell 1;have E:=hz.cell 2;have G:=hz.cell 3;have z4:=hz.cell 4;have H:=hz.cell 5;have I:=hz.cell 6;have J:=hz.cell 7;have K:=hz.cell 8;have M:=hz.cell 9;have zf:=hz.free;simp at C D E G z4 H I J K M
     clear b hz))
  all_goals
   go_wp2_with fail;refine(q.out _ (by with_reducible (first|exact a.out.alloc a.out.size _|exact ME a.out _ _ _ _ _ _ _ _ _ _))).mono ?_;rintro e B ⟨rfl,i⟩;go_wp2_with fail
   go_end0
   exact⟨rfl,by rw[v.out];exact i.out.1,i.out.2⟩
 by_cases u:x.kind=1
 .have v:Hid (_=_):=(j.out.trans (a_ r)).trans (bA u);clear j;have q:Hid (∀c,dc w c->Calls prog 132 #[.pointer (some ⟨m,0,none⟩),B0 x] c λe w'=>e=.returned (.tuple #[])/\Hid (Cy m w pv iv (Kw F L x s) w')):=by
   intro c hb;refine(U6 x P.out (O.out.same hb) N.out S Q h1).mono ?_;rintro e B ⟨rfl,y,A⟩;exact⟨rfl,y,(BC.of hb m).trans A⟩
  unfold B0 at q f d;rw[u]at f d q;clear r u;go_enter func105,ntmps105;go_wp2_with fail
  go_region_with (go_at_call 81;first
   |(refine(f.out _ (by exact(bC _ _).drew)).mono ?_
     rintro e c ⟨rfl,b⟩;have a:Hid (dc w c):=b;have n:m<c.heap.size:=bM l a.out.size
     clear b)
   |(refine d.mono ?_
     rintro e c ⟨rfl,b⟩;have a:Hid (dc w c):=b.out.1;have n:m<c.heap.size:=bM l a.out.size;have hz:=b.out.2;have z:w.heap.size<c.heap.size:=hz.lt;have C:=hz.cell 0;have D:=hz.cell 1;have E:=hz.cell 2;have G:=hz.cell 3;have z4:=hz.cell 4;have H:=hz.cell 5;have I:=hz.cell 6;have J:=hz.cell 7;have K:=hz.cell 8;have M:=hz.cell 9;have zf:=hz.free;simp at C D E G z4 H I J K M
     clear b hz))
  all_goals
   go_wp2_with fail;refine(q.out _ (by with_reducible (first|exact a.out.alloc a.out.size _|exact ME a.out _ _ _ _ _ _ _ _ _ _))).mono ?_;rintro e B ⟨rfl,i⟩;go_wp2_with fail
   go_end0
   exact⟨rfl,by rw[v.out];exact i.out.1,i.out.2⟩
 .have v:Hid (_=_):=(j.out.trans (a_ r)).trans (a_ u);clear j;have q:Hid (∀c,dc w c->Calls prog 133 #[.pointer (some ⟨m,0,none⟩),B0 x] c λe w'=>e=.returned (.tuple #[])/\Hid (Cy m w pv iv (Jz F L x s) w')):=by
   intro c hb;refine(U8 x P.out (O.out.same hb) N.out S Q h1).mono ?_;rintro e B ⟨rfl,y,A⟩;exact⟨rfl,y,(BC.of hb m).trans A⟩
  unfold B0 at q f d;have q0:(x.kind==0)=false:=by simpa using r
  have q1:(x.kind==1)=false:=by simpa using u
  clear r u;go_enter func105,ntmps105;go_wp2_with fail
  go_region_with (go_at_call 81;first
   |(refine(f.out _ (by exact(bC _ _).drew)).mono ?_
     rintro e c ⟨rfl,b⟩;have a:Hid (dc w c):=b;have n:m<c.heap.size:=bM l a.out.size
     clear b)
   |(refine d.mono ?_
     rintro e c ⟨rfl,b⟩;have a:Hid (dc w c):=b.out.1;have n:m<c.heap.size:=bM l a.out.size;have hz:=b.out.2;have z:w.heap.size<c.heap.size:=hz.lt;have C:=hz.cell 0;have D:=hz.cell 1;have E:=hz.cell 2;have G:=hz.cell 3;have z4:=hz.cell 4;have H:=hz.cell 5;have I:=hz.cell 6;have J:=hz.cell 7;have K:=hz.cell 8;have M:=hz.cell 9;have zf:=hz.free;simp at C D E G z4 H I J K M
     clear b hz))
  all_goals
   go_wp2_with fail;refine(q.out _ (by with_reducible (first|exact a.out.alloc a.out.size _|exact ME a.out _ _ _ _ _ _ _ _ _ _))).mono ?_;rintro e B ⟨rfl,i⟩;go_wp2_with fail
   go_end0
   exact⟨rfl,by rw[v.out];exact i.out.1,i.out.2⟩
theorem Tryz.infoN:(Tryz.prog.info? tN).map (λi=>(i.zero,i.size,i.bytes))=some (some (.int .i64 0),1,8):=by kernel_rfl
def VN(w:World)(f:Ms):Ending->World->Prop:=λe w'=>∃g c,e=.returned (.tuple #[.int .i64 f.st,.int .i64 f.pt,.slice (some ⟨g,0,none⟩) 4 4])/\w.heap.size<=g/\At w' g c tN/\c.size=4/\c.toList=[.int .i64 (AB f.v 0),.int .i64 (AB f.v 1),.int .i64 (AB f.v 2),.int .i64 (AB f.v 3)]/\dc w w'
theorem PF{pv iv:Value}{o:Obj}(hp:U_ w w.heap.size pv F)(hi:Ir w w.heap.size iv L):E4 ((w.alloc o).alloc (.cells (Cf pv iv ⟨0,0,0,[0,0,0,0]⟩) tM)) (w.heap.size+1) pv iv F L ⟨0,0,0,[0,0,0,0]⟩:=by
 have hb:dc w ((w.alloc o).alloc (.cells (Cf pv iv ⟨0,0,0,[0,0,0,0]⟩) tM)):=((bC _ _).alloc (bB _) _).alloc (by simp) _;refine⟨?_,?_,?_,⟨rfl,λi=>?_,bY _⟩⟩
 .have:=At.new (w.alloc o) (Cf pv iv ⟨0,0,0,[0,0,0,0]⟩) tM;simpa using this
 .obtain⟨ao,cap,hv,h0⟩:=hp.keep hb;exact⟨ao,cap,hv,λhn=>by obtain⟨g,h1,h2,h3⟩:=h0 hn;exact⟨g,h1,by omega,h3⟩⟩
 .obtain⟨ao,cap,hv,hc,h0⟩:=hi.keep hb;exact⟨ao,cap,hv,hc,λhn=>by obtain⟨b,off,h1,h2,h3⟩:=h0 hn;exact⟨b,off,h1,by omega,h3⟩⟩
 .have:AB [0,0,0,0] i=0:=by
   unfold AB
   match i with
   |0|1|2|3=>rfl
   |n+4=>rfl
  show -999<=AB [0,0,0,0] i/\AB [0,0,0,0] i<=999;omega
theorem Za{pv iv:Value}(hp:U_ w w.heap.size pv F)(hi:Ir w w.heap.size iv L)(hF:OZ F)(hL:L.length<=9223372036854775807)(h:Int):
  Calls prog 70 #[.agg #[pv],iv,.int .i64 h] w (VN w (EM F L h)):=by
 obtain⟨i0,G,ay,I,az⟩:=c_ Tryz.infoN;have au:∀w,(Instr.makeSlice 32 (.int .i64 0) (.int .i64 4)).run prog w=.ok (.slice (some ⟨w.heap.size,0,none⟩) 0 4) (w.alloc (.cells #[.int .i64 0,.int .i64 0,.int .i64 0,.int .i64 0] tN)):=λ_=>by kernel_rfl
 have H:∀(a b c d:Int)(w:World),(Instr.index 117 (.agg #[.int .i64 a,.int .i64 b,.int .i64 c,.int .i64 d]) (.int .i64 0)).run prog w=.ok (.int .i64 a) w/\(Instr.index 117 (.agg #[.int .i64 a,.int .i64 b,.int .i64 c,.int .i64 d]) (.int .i64 1)).run prog w=.ok (.int .i64 b) w/\(Instr.index 117 (.agg #[.int .i64 a,.int .i64 b,.int .i64 c,.int .i64 d]) (.int .i64 2)).run prog w=.ok (.int .i64 c) w/\(Instr.index 117 (.agg #[.int .i64 a,.int .i64 b,.int .i64 c,.int .i64 d]) (.int .i64 3)).run prog w=.ok (.int .i64 d) w:=λ_ _ _ _ _=>⟨by kernel_rfl,by kernel_rfl,by kernel_rfl,by kernel_rfl⟩
 have ah:Hid (∀o,E4 ((w.alloc o).alloc (.cells (Cf pv iv ⟨0,0,0,[0,0,0,0]⟩) tM)) (w.heap.size+1) pv iv F L ⟨0,0,0,[0,0,0,0]⟩):=λo=>PF hp hi;have ag:Hid (∀o o',dc w ((w.alloc o).alloc o')):=λo o'=>((bC _ _).alloc (bB _) _).alloc (by simp) _;have HF:Hid (OZ F):=hF;have U:Hid (∀o J,J=(w.alloc o).alloc (.cells (Cf pv iv ⟨0,0,0,[0,0,0,0]⟩) tM)->Calls prog 104 #[.pointer (some ⟨w.heap.size+1,0,none⟩),.int .i64 0] J λe K=>e=.returned (.tuple #[])/\Hid (E4 K (w.heap.size+1) pv iv F L (FU F.length ⟨0,0,0,[0,0,0,0]⟩ 0)/\dc w K)):=by
  intro o J ad;have h1:=ah.out o;rw[<-ad]at h1;have hb:=ag.out o (.cells (Cf pv iv ⟨0,0,0,[0,0,0,0]⟩) tM);rw[<-ad]at hb;refine(RF h1.at_ h1.prog HF.out.len 0).mono ?_;rintro e K ⟨rfl,ha,ho⟩;exact⟨rfl,h1.next ha ho ⟨h1.ok.len,h1.ok.v,h1.ok.used⟩,hb.trans (ho.below (by omega) hb.size)⟩
 have HS:Hid (∀J s,E4 J (w.heap.size+1) pv iv F L s->Of F s->s.st=0->Calls prog 105 #[.pointer (some ⟨w.heap.size+1,0,none⟩)] J λe K=>e=.returned (.tuple #[])/\Hid (E4 K (w.heap.size+1) pv iv F L (GG F L s)/\BC (w.heap.size+1) J K)):=by
  intro J s h1 hr hs;obtain⟨q0,q1⟩:=hr hs;refine(YZ h1 HF.out hL q0 q1).mono ?_;rintro e K ⟨rfl,ha,ho⟩;exact⟨rfl,h1.next ha ho (h1.ok.stp HF.out.ds),ho⟩
 obtain⟨N,hN⟩:∃N:Nat,N=min h.toNat 2000:=⟨_,rfl⟩
 have W:Hid (EM F L h=Ka F L N (FU F.length ⟨0,0,0,[0,0,0,0]⟩ 0)):=by show EM F L h=_;rw[hN];rfl
 have am:N<=2000:=by omega
 have an:0<N->(N:Int)<=h:=by omega
 have ap:N<2000->h<=N:=by omega
 obtain⟨pa,af,rfl, -⟩:=hp;obtain⟨ia,ae,rfl, -, -⟩:=hi;clear hN hF;generalize EM F L h=fin at *;unfold Cf at U;go_enter func70,ntmps70;go_wp2_with fail;refine(U.out _ _ rfl).mono ?_;rintro e K ⟨rfl,Z⟩;go_wp2_with fail;go_loopw [10] (λi wr=>∃(j:Nat)(s:Ms),j<=N/\i=.int .i64 j/\Hid (E4 wr (w.heap.size+1) (.slice pa F.length af) (.slice ia L.length ae) F L s/\dc w wr/\Of F s/\fin=Ka F L (N-j) s)) (λi _=>N-(intOf i).toNat);case atStart=>exact⟨0,_,bY _,rfl,Z.out.1,Z.out.2,Of.ent _ (by omega) (by omega),W.out⟩
 case round=>
  obtain⟨j,s,hj,rfl,A⟩:=hrel;obtain⟨c0,c1,c2,c3,c4,c5,c6,c7,c8,cf⟩:=EB A.out.1.at_;have Y:=A.out.1.at_.lt;have ac:=A.out.2.1.size;by_cases E:j<N/\s.st=0
  .obtain⟨ar,C⟩:=E;rw[C]at c3;have O:(j:Int)<h:=by omega
   have X:(j:Int)<2000:=by omega
   have P:=HS.out wr s A.out.1 A.out.2.2.1 C;have HN:Hid (fin=Ka F L (N-(j+1)) (GG F L s)):=by
    show fin=_;rw[A.out.2.2.2,show N-j=(N-(j+1))+1 by omega,Ka,bA C]
   clear c0 c1 c2 c4 c5 c6 c7 c8;go_wp2_with fail;refine P.mono ?_;rintro e w3 ⟨rfl,aa⟩;go_wp2_with fail;go_roundw;case rel=>exact⟨j+1,_,by omega,by go_num,aa.out.1,A.out.2.1.trans (aa.out.2.below (by omega) ac),A.out.2.2.1.stp,HN.out⟩
   case measure=>simp[intOf];omega
  .have V:Hid (fin=s):=by
    show fin=s;rw[A.out.2.2.2];cases hq:N-j with
    |zero=>rfl
    |succ q=>rw[Ka,a_ (λe=>E ⟨by omega,e⟩)]
   obtain⟨y,rfl⟩:∃y,y=wr:=⟨_,rfl⟩
   have z:=Y;have al:Hid (At y (w.heap.size+1) _ tM):=A.out.1.at_;have M:Hid (dc w y):=A.out.2.1;have B:=World.ownsRow_made (base:=y.heap.size) (e:=tN) (size:=1) y #[.int .i64 0,.int .i64 0,.int .i64 0,.int .i64 0] 4 (bB _) (by decide) rfl;have ai:Hid (World.ownsRow _ _ _ _ _ _ _):=B;clear B;have HD:(¬(j:Int)<h)\/((j:Int)<h/\¬(j:Int)<2000)\/((j:Int)<h/\(j:Int)<2000/\(s.st==0)=false):=by
    by_cases a:(j:Int)<h
    .by_cases b:(j:Int)<2000
     .have C:s.st≠0:=λe=>E ⟨by omega,e⟩;exact .inr (.inr ⟨a,b,by simpa using C⟩)
     .exact .inr (.inl ⟨a,b⟩)
    .exact .inl a
   clear E;rcases HD with O|⟨O,X⟩|⟨O,X,aw⟩;all_goals
    go_wp2_with fail;go_loopw [11,36] (λsl i wr=>∃(q:Nat),q<=4/\i=.int .i64 q/\sl=.slice (some ⟨y.heap.size,0,none⟩) q 4/\Hid (wr.ownsRow y.heap.size tN 1 (.slice (some ⟨y.heap.size,0,none⟩) q 4) q ([.int .i64 (AB s.v 0),.int .i64 (AB s.v 1),.int .i64 (AB s.v 2),.int .i64 (AB s.v 3)].take q)/\dc y wr)) (λ_ i _=>4-(intOf i).toNat);case atStart=>exact⟨0,by omega,rfl,rfl,ai.out,(bC _ _).alloc (bB _) _⟩
    case round=>
     obtain⟨q,hq,rfl,rfl,r⟩:=hrel;rcases(show q=0\/q=1\/q=2\/q=3\/q=4 by omega)with rfl|rfl|rfl|rfl|rfl
     .have b2:wr.cell? ⟨w.heap.size+1,3,none⟩=some (.int .i64 s.st):=(r.out.2.cell (by exact z)).trans c3;obtain⟨Q,R,S,T⟩:=H (AB s.v 0) (AB s.v 1) (AB s.v 2) (AB s.v 3) wr;have y0:(Instr.index 117 (.agg #[.int .i64 (AB s.v 0),.int .i64 (AB s.v 1),.int .i64 (AB s.v 2),.int .i64 (AB s.v 3)]) (.int .i64 ((0:Nat):Int))).run prog wr=.ok (.int .i64 (AB s.v 0)) wr:=Q;have y1:(Instr.index 117 (.agg #[.int .i64 (AB s.v 0),.int .i64 (AB s.v 1),.int .i64 (AB s.v 2),.int .i64 (AB s.v 3)]) (.int .i64 ((1:Nat):Int))).run prog wr=.ok (.int .i64 (AB s.v 1)) wr:=R;have y2:(Instr.index 117 (.agg #[.int .i64 (AB s.v 0),.int .i64 (AB s.v 1),.int .i64 (AB s.v 2),.int .i64 (AB s.v 3)]) (.int .i64 ((2:Nat):Int))).run prog wr=.ok (.int .i64 (AB s.v 2)) wr:=S;have y3:(Instr.index 117 (.agg #[.int .i64 (AB s.v 0),.int .i64 (AB s.v 1),.int .i64 (AB s.v 2),.int .i64 (AB s.v 3)]) (.int .i64 ((3:Nat):Int))).run prog wr=.ok (.int .i64 (AB s.v 3)) wr:=T;go_wp2_with (at_builtin;refine cj _ rfl (.tmp 39) (.tmp 41) 32 rfl y.heap.size tN i0 1 underlying32 G I y.heap.size 0 4 _ rfl (r.out.1.alloc _) ⟨wr.heap.size,0,none⟩ 1 1 [.int .i64 (AB s.v 0)] rfl rfl (by intro t u x;match t,x with|0,x=>simp at x;subst x;exact bL _ _ _ _ rfl) (by intro u D;simp at D;subst D;rfl) (by omega) ?_;intro w5 p m);go_roundw;case rel=>exact⟨0+1,by omega,rfl,rfl,p,(r.out.2.alloc r.out.2.size _).grown m (by have:=r.out.2.size;simp;omega) (λk hk=>by cases hk;exact bB _)⟩
      case measure=>simp[intOf]
     .have b2:wr.cell? ⟨w.heap.size+1,3,none⟩=some (.int .i64 s.st):=(r.out.2.cell (by exact z)).trans c3;obtain⟨Q,R,S,T⟩:=H (AB s.v 0) (AB s.v 1) (AB s.v 2) (AB s.v 3) wr;have y0:(Instr.index 117 (.agg #[.int .i64 (AB s.v 0),.int .i64 (AB s.v 1),.int .i64 (AB s.v 2),.int .i64 (AB s.v 3)]) (.int .i64 ((0:Nat):Int))).run prog wr=.ok (.int .i64 (AB s.v 0)) wr:=Q;have y1:(Instr.index 117 (.agg #[.int .i64 (AB s.v 0),.int .i64 (AB s.v 1),.int .i64 (AB s.v 2),.int .i64 (AB s.v 3)]) (.int .i64 ((1:Nat):Int))).run prog wr=.ok (.int .i64 (AB s.v 1)) wr:=R;have y2:(Instr.index 117 (.agg #[.int .i64 (AB s.v 0),.int .i64 (AB s.v 1),.int .i64 (AB s.v 2),.int .i64 (AB s.v 3)]) (.int .i64 ((2:Nat):Int))).run prog wr=.ok (.int .i64 (AB s.v 2)) wr:=S;have y3:(Instr.index 117 (.agg #[.int .i64 (AB s.v 0),.int .i64 (AB s.v 1),.int .i64 (AB s.v 2),.int .i64 (AB s.v 3)]) (.int .i64 ((3:Nat):Int))).run prog wr=.ok (.int .i64 (AB s.v 3)) wr:=T;go_wp2_with (at_builtin;refine cj _ rfl (.tmp 39) (.tmp 41) 32 rfl y.heap.size tN i0 1 underlying32 G I y.heap.size 1 4 _ rfl (r.out.1.alloc _) ⟨wr.heap.size,0,none⟩ 1 1 [.int .i64 (AB s.v 1)] rfl rfl (by intro t u x;match t,x with|0,x=>simp at x;subst x;exact bL _ _ _ _ rfl) (by intro u D;simp at D;subst D;rfl) (by omega) ?_;intro w5 p m);go_roundw;case rel=>exact⟨1+1,by omega,rfl,rfl,p,(r.out.2.alloc r.out.2.size _).grown m (by have:=r.out.2.size;simp;omega) (λk hk=>by cases hk;exact bB _)⟩
      case measure=>simp[intOf]
     .have b2:wr.cell? ⟨w.heap.size+1,3,none⟩=some (.int .i64 s.st):=(r.out.2.cell (by exact z)).trans c3;obtain⟨Q,R,S,T⟩:=H (AB s.v 0) (AB s.v 1) (AB s.v 2) (AB s.v 3) wr;have y0:(Instr.index 117 (.agg #[.int .i64 (AB s.v 0),.int .i64 (AB s.v 1),.int .i64 (AB s.v 2),.int .i64 (AB s.v 3)]) (.int .i64 ((0:Nat):Int))).run prog wr=.ok (.int .i64 (AB s.v 0)) wr:=Q;have y1:(Instr.index 117 (.agg #[.int .i64 (AB s.v 0),.int .i64 (AB s.v 1),.int .i64 (AB s.v 2),.int .i64 (AB s.v 3)]) (.int .i64 ((1:Nat):Int))).run prog wr=.ok (.int .i64 (AB s.v 1)) wr:=R;have y2:(Instr.index 117 (.agg #[.int .i64 (AB s.v 0),.int .i64 (AB s.v 1),.int .i64 (AB s.v 2),.int .i64 (AB s.v 3)]) (.int .i64 ((2:Nat):Int))).run prog wr=.ok (.int .i64 (AB s.v 2)) wr:=S;have y3:(Instr.index 117 (.agg #[.int .i64 (AB s.v 0),.int .i64 (AB s.v 1),.int .i64 (AB s.v 2),.int .i64 (AB s.v 3)]) (.int .i64 ((3:Nat):Int))).run prog wr=.ok (.int .i64 (AB s.v 3)) wr:=T;go_wp2_with (at_builtin;refine cj _ rfl (.tmp 39) (.tmp 41) 32 rfl y.heap.size tN i0 1 underlying32 G I y.heap.size 2 4 _ rfl (r.out.1.alloc _) ⟨wr.heap.size,0,none⟩ 1 1 [.int .i64 (AB s.v 2)] rfl rfl (by intro t u x;match t,x with|0,x=>simp at x;subst x;exact bL _ _ _ _ rfl) (by intro u D;simp at D;subst D;rfl) (by omega) ?_;intro w5 p m);go_roundw;case rel=>exact⟨2+1,by omega,rfl,rfl,p,(r.out.2.alloc r.out.2.size _).grown m (by have:=r.out.2.size;simp;omega) (λk hk=>by cases hk;exact bB _)⟩
      case measure=>simp[intOf]
     .have b2:wr.cell? ⟨w.heap.size+1,3,none⟩=some (.int .i64 s.st):=(r.out.2.cell (by exact z)).trans c3;obtain⟨Q,R,S,T⟩:=H (AB s.v 0) (AB s.v 1) (AB s.v 2) (AB s.v 3) wr;have y0:(Instr.index 117 (.agg #[.int .i64 (AB s.v 0),.int .i64 (AB s.v 1),.int .i64 (AB s.v 2),.int .i64 (AB s.v 3)]) (.int .i64 ((0:Nat):Int))).run prog wr=.ok (.int .i64 (AB s.v 0)) wr:=Q;have y1:(Instr.index 117 (.agg #[.int .i64 (AB s.v 0),.int .i64 (AB s.v 1),.int .i64 (AB s.v 2),.int .i64 (AB s.v 3)]) (.int .i64 ((1:Nat):Int))).run prog wr=.ok (.int .i64 (AB s.v 1)) wr:=R;have y2:(Instr.index 117 (.agg #[.int .i64 (AB s.v 0),.int .i64 (AB s.v 1),.int .i64 (AB s.v 2),.int .i64 (AB s.v 3)]) (.int .i64 ((2:Nat):Int))).run prog wr=.ok (.int .i64 (AB s.v 2)) wr:=S;have y3:(Instr.index 117 (.agg #[.int .i64 (AB s.v 0),.int .i64 (AB s.v 1),.int .i64 (AB s.v 2),.int .i64 (AB s.v 3)]) (.int .i64 ((3:Nat):Int))).run prog wr=.ok (.int .i64 (AB s.v 3)) wr:=T;go_wp2_with (at_builtin;refine cj _ rfl (.tmp 39) (.tmp 41) 32 rfl y.heap.size tN i0 1 underlying32 G I y.heap.size 3 4 _ rfl (r.out.1.alloc _) ⟨wr.heap.size,0,none⟩ 1 1 [.int .i64 (AB s.v 3)] rfl rfl (by intro t u x;match t,x with|0,x=>simp at x;subst x;exact bL _ _ _ _ rfl) (by intro u D;simp at D;subst D;rfl) (by omega) ?_;intro w5 p m);go_roundw;case rel=>exact⟨3+1,by omega,rfl,rfl,p,(r.out.2.alloc r.out.2.size _).grown m (by have:=r.out.2.size;simp;omega) (λk hk=>by cases hk;exact bB _)⟩
      case measure=>simp[intOf]
     .have b3:wr.cell? ⟨w.heap.size+1,3,none⟩=some (.int .i64 s.st):=(r.out.2.cell (by exact z)).trans c3;have b4:wr.cell? ⟨w.heap.size+1,4,none⟩=some (.int .i64 s.pt):=(r.out.2.cell (by exact z)).trans c4;go_wp2_with fail;go_quiet (fail);go_wp2_with fail
      go_ret3
      obtain⟨⟨_,ab⟩,aj⟩:=r.out;rcases ab with⟨e,_⟩|⟨g,cap,cur,e,hg,hh,av,aq,ax,ak⟩
      .cases e
      .cases e
       refine⟨_,cur,by rw[V.out];rfl,M.out.size,At.drewN hh _,by omega,?_,bD (M.out.trans (aj.mono M.out.size)) _⟩;rw[V.out];rw[<-cG (l:=cur.toList) (i:=4*1) (by simp;omega),ak];rfl
end Go.Proofs.YtffajooegiempaaGreatDoor
namespace Go.Proofs.YtffajooegiempaaGreatDoor
open Go.RowKit Go.Proofs.Tryz
variable {B:Nat}{w w':World}{r:Nat}{m:Rd}{vs vo:Value}{P Q O:Nat->Nat}
theorem AZ.follows(h:AZ B w r m vs vo P Q O)(hl:m.st.length<=20)(n:Nat):∀i,i<m.st.length->i<n->
  Calls prog 62 #[.pointer (some ⟨r,0,none⟩),.int .i64 (i:Int)] w λe w'=>e=.returned (.int .i64 (Bx m.st n i))/\w'=w:=by
 induction n with
 |zero=>intro i _ hi;omega
 |succ n ih=>
  intro i hi ac;obtain⟨g,cap,F,y,_⟩:=h.row (by omega);obtain⟨Y,r1,Z,r3,r4,r5,rf⟩:=h.rdc;rw[F]at r1;have p:∀j,j<m.st.length->w.cell? ⟨g,j,none⟩=some (.pointer (some ⟨P j,0,none⟩)):=y;have t:=λj (C:j<m.st.length)=>h.stc j _ (AZ.gets C);have N:=λj (h1:j<m.st.length) (h2:j<n)=>ih j h1 h2;have V:Hid (∀j,j<m.st.length->j<n->Calls prog 62 #[.pointer (some ⟨r,0,none⟩),.int .i64 (j:Int)] w λe w'=>e=.returned (.int .i64 (Bx m.st n j))/\w'=w):=N;have G:Hid (∀j,j<m.st.length->w.cell? ⟨g,j,none⟩=some (.pointer (some ⟨P j,0,none⟩))):=p;have H:Hid (∀j,j<m.st.length->w.cell? ⟨P j,0,none⟩=some (.int .u8 (m.st.getD j AY).kind)/\w.cell? ⟨P j,5,none⟩=some (.int .i64 (m.st.getD j AY).mid)/\w.cell? ⟨P j,6,none⟩=some (.int .i64 (m.st.getD j AY).fin)):=λj C=>⟨(t j C).1,(t j C).2.2.2.2.2.1,(t j C).2.2.2.2.2.2.1⟩
  have A:Hid (Bx m.st (n+1) i=if Ay m.st i i<0 then((m.st.getD i AY).fin:Int)else if(m.st.getD i AY).fin<G6 (m.st.getD (Ay m.st i i).toNat AY) i then((m.st.getD i AY).fin:Int)else if(m.st.getD (Ay m.st i i).toNat AY).kind=64 then Ay m.st i i else Bx m.st n (Ay m.st i i).toNat):=by
   show Bx _ _ _=_;rw[Bx]
  have ab:(i:Int)<(m.st.length:Int):=by omega
  clear h ih y t N p F Y Z r3 r4 r5 rf;go_enter func62,ntmps62;go_wp2_with fail
  go_loop [5,6] (λq k=>∃j:Nat,j<=i/\k=.int .i64 j/\q=.int .i64 (Ay m.st i j)) (λ_ k=>i-(intOf k).toNat)
  case atStart=>exact⟨0,bY _,rfl,rfl⟩
  case round=>
   obtain⟨j,C,rfl,rfl⟩:=hrel;by_cases ae:j<i
   .have E:j<m.st.length:=by omega
    have ad:(j:Int)<(m.st.length:Int):=by omega
    have W:=G.out j E;obtain⟨-, -,k2⟩:=H.out j E;have M:Hid (Ay m.st i (j+1)=if i<(m.st.getD j AY).fin then(j:Int)else Ay m.st i j):=rfl;generalize Ay m.st i j=lo at *;generalize(m.st.getD j AY).fin=fi at *;by_cases R:i<fi
    .have J:(i:Int)<(fi:Int):=by omega
     go_wp2_with fail
     go_round
     case rel=>exact⟨j+1,by omega,by go_num,by rw[M.out,bA R]⟩
     case measure=>simp[intOf];omega
    .have J:¬(i:Int)<(fi:Int):=by omega
     go_wp2_with fail
     go_round
     case rel=>exact⟨j+1,by omega,by go_num,by rw[M.out,a_ R]⟩
     case measure=>simp[intOf];omega
   .have K:j=i:=by omega
    subst K;have W:=G.out j hi;obtain⟨-, -,k2⟩:=H.out j hi;obtain⟨l0,X⟩:=Nw m.st j j;by_cases f:Ay m.st j j<0
    .have d:Hid (Bx m.st (n+1) j=((m.st.getD j AY).fin:Int)):=A.out.trans (bA f);clear A;generalize Ay m.st j j=lo at *;generalize(m.st.getD j AY).fin=fi at *;go_wp2_with fail;go_ret;exact⟨by rw[d.out];rfl,rfl⟩
    .obtain⟨q,S⟩:∃q:Nat,Ay m.st j j=q:=⟨(Ay m.st j j).toNat,by omega⟩
     rw[S]at X f A|-;have z:q<m.st.length:=by omega
     have ag:(q:Int)<(m.st.length:Int):=by omega
     have k3:=G.out q z;obtain⟨T,s5,s6⟩:=H.out q z;simp only[bK]at A;have a:Hid (Bx m.st (n+1) j=if(m.st.getD j AY).fin<G6 (m.st.getD q AY) j then((m.st.getD j AY).fin:Int)else if(m.st.getD q AY).kind=64 then(q:Int)else Bx m.st n q):=A.out.trans (a_ f);have s:=V.out q z (by omega);clear A f S;have l:Hid (G6 (m.st.getD q AY) j=if(m.st.getD q AY).kind=63/\j<(m.st.getD q AY).mid then(m.st.getD q AY).mid else(m.st.getD q AY).fin):=rfl;generalize m.st.getD q AY=u at *;generalize(m.st.getD j AY).fin=fi at *;have af:¬(q:Int)<0:=by omega
     by_cases c:u.kind=63
     .rw[c]at T;by_cases x:j<u.mid
      .have L:(j:Int)<(u.mid:Int):=by omega
       have v:G6 u j=u.mid:=l.out.trans (bA ⟨c,x⟩);rw[v,c]at a;clear l v c;by_cases b:fi<u.mid
       .have D:(fi:Int)<(u.mid:Int):=by omega
        have d:Hid (_=_):=a.out.trans (bA b);clear a;go_wp2_with fail;go_ret;exact⟨by rw[d.out];rfl,rfl⟩
       .have D:¬(fi:Int)<(u.mid:Int):=by omega
        have d:Hid (_=_):=(a.out.trans (a_ b)).trans (a_ (by decide));clear a;go_wp2_with fail;refine s.mono ?_;rintro e U ⟨rfl,rfl⟩;go_wp2_with fail;go_ret;exact⟨by rw[d.out];rfl,rfl⟩
      .have L:¬(j:Int)<(u.mid:Int):=by omega
       have v:G6 u j=u.fin:=l.out.trans (a_ (λe=>x e.2));rw[v,c]at a;clear l v c;by_cases b:fi<u.fin
       .have D:(fi:Int)<(u.fin:Int):=by omega
        have d:Hid (_=_):=a.out.trans (bA b);clear a;go_wp2_with fail;go_ret;exact⟨by rw[d.out];rfl,rfl⟩
       .have D:¬(fi:Int)<(u.fin:Int):=by omega
        have d:Hid (_=_):=(a.out.trans (a_ b)).trans (a_ (by decide));clear a;go_wp2_with fail;refine s.mono ?_;rintro e U ⟨rfl,rfl⟩;go_wp2_with fail;go_ret;exact⟨by rw[d.out];rfl,rfl⟩
     .have I:(u.kind==63)=false:=by simpa using c
      have v:G6 u j=u.fin:=l.out.trans (a_ (λe=>c e.1));rw[v]at a;clear l v c;by_cases b:fi<u.fin
      .have D:(fi:Int)<(u.fin:Int):=by omega
       have d:Hid (_=_):=a.out.trans (bA b);clear a;go_wp2_with fail;go_ret;exact⟨by rw[d.out];rfl,rfl⟩
      .have D:¬(fi:Int)<(u.fin:Int):=by omega
       by_cases o:u.kind=64
       .have d:Hid (_=_):=(a.out.trans (a_ b)).trans (bA o);rw[o]at T;clear I o;clear a;go_wp2_with fail;go_ret;exact⟨by rw[d.out];rfl,rfl⟩
       .have aa:(u.kind==64)=false:=by simpa using o
        have d:Hid (_=_):=(a.out.trans (a_ b)).trans (a_ o);clear o;clear a;go_wp2_with fail;refine s.mono ?_;rintro e U ⟨rfl,rfl⟩;go_wp2_with fail;go_ret;exact⟨by rw[d.out];rfl,rfl⟩
end Go.Proofs.YtffajooegiempaaGreatDoor
