import Derived.Test.YtffajooegiempaaGreatDoorK25
import Derived.Great.BuildSlice
set_option maxRecDepth 100000
set_option maxHeartbeats 6400000
namespace Go.Proofs.YtffajooegiempaaGreatDoor
open Go.RowKit Go.Proofs.Tryz
variable {s g:Nat}{w w':World}{pv:Value}{P:SS}{F:List Ds}
def PK(w:World)(s g:Nat)(pv:Value)(F:List Ds):Prop:=∃C cap,pv=.slice C F.length cap/\(F.length≠0->∃A,C=some ⟨A,0,none⟩/\A≠s/\A≠g/\Cc w A F)
theorem PK.on(h:PK w s g pv F)(t:D4 s g w w'):PK w' s g pv F:=by
 obtain⟨C,cap,hv,h0⟩:=h;refine⟨C,cap,hv,λhn=>?_⟩;obtain⟨A,h1,h2,h3,h4⟩:=h0 hn;refine⟨A,h1,h2,h3,bM h4.1 t.size,λj x hx=>?_⟩;have hc:∀o,w'.cell? ⟨A,o,none⟩=w.cell? ⟨A,o,none⟩:=λo=>t.cell h4.1 h2 h3 o;have:=h4.2 j x hx;simp only[hc];exact this
theorem PK.keep(h:PK w s g pv F)(hb:dc w w'):PK w' s g pv F:=h.on (D4.of hb (bB _) s g)
structure FB(w wr:World)(s g u v:Nat)(pv:Value)(F:List Ds)(e:Bool)(M:Nat->Int)(x:Ds)(P:SS):Prop where
 oa:AL wr u e M
 da:At wr v (AD x) BB
 st:Dg wr s g pv P
 pk:PK wr s g pv F
 on:D4 s g w wr
theorem FB.keep{wr w':World}{u v:Nat}{e:Bool}{M:Nat->Int}{x:Ds}(h:FB w wr s g u v pv F e M x P)(hb:dc wr w'):FB w w' s g u v pv F e M x P:=
 ⟨At.keep h.oa hb (At.lt h.oa),h.da.keep hb h.da.lt,h.st.keep hb,h.pk.keep hb,h.on.trans (D4.of hb (bB _) s g)⟩
theorem FB.step{wr w':World}{u v:Nat}{e:Bool}{M:Nat->Int}{x:Ds}{P':SS}(h:FB w wr s g u v pv F e M x P)(t:D4 s g wr w')(hs:Dg w' s g pv P')(h5:u≠s/\u≠g)(h6:v≠s/\v≠g):FB w w' s g u v pv F e M x P':=
 ⟨t.at_ h.oa h5.1 h5.2,t.at_ h.da h6.1 h6.2,hs,h.pk.on t,h.on.trans t⟩
theorem UT(h:Dg w s g pv P)(hK:PK w s g pv F)(hl:F.length<=20)(G:∀(k:Nat)(x:Ds),F[k]?=some x-> -1<=x.parent/\x.parent<(k:Int))(k:Nat)(e:Bool)(M:Nat->Int)
  (hx:k<F.length->OY (F.getD k (AC 0 0))/\0<=(F.getD k (AC 0 0)).target/\(F.getD k (AC 0 0)).target<4) (hM:∀j,j<64-> -20000000000<=M j/\M j<=1000000) (hS:e=false->Sh M):
  Calls prog 86 #[.pointer (some ⟨s,0,none⟩),.int .i64 (k:Int),.agg (oc e M)] w λx w'=>x=.returned (.tuple #[])/\Dg w' s g pv (Dp F k e M P)/\D4 s g w w':=by
 have b:dc w (w.alloc (.cells (oc e M) tO)):=(bC _ _).alloc (bB _) _;have aw:=h.sa.lt;have ap:=h.glt;have z:Hid (Dg (w.alloc (.cells (oc e M) tO)) s g pv P/\AL (w.alloc (.cells (oc e M) tO)) w.heap.size e M/\dc w (w.alloc (.cells (oc e M) tO))/\PK (w.alloc (.cells (oc e M) tO)) s g pv F):=⟨h.keep b,At.new _ _ _,b,hK.keep b⟩
 have cp:(w.alloc (.cells (oc e M) tO)).cell? ⟨s,0,none⟩=some pv:=z.out.1.sa.cell 0;obtain⟨C,cap,J,r⟩:=id hK;by_cases hk:k<F.length
 case neg=>
  have Q:Hid (Dp F k e M P=P):=a_ hk;have p:Hid (∀a,Calls prog 81 #[.agg #[pv],.int .i64 (k:Int)] a λx w'=>x=.returned (.tuple #[B0 EI,.int .i64 2])/\dc a w'):=λa=>by rw[J];exact IJ C F.length hl (k:Int) (.inr (by omega))
  unfold B0 EI AC at p;clear r J hK h b hx hM hS;go_enter func86,ntmps86;go_wp2_with fail;refine(p.out _).mono ?_;rintro x L ⟨rfl,f⟩;have d:Hid (Dg L s g pv P/\dc w L):=⟨z.out.1.keep f,z.out.2.2.1.trans (f.mono (by simp))⟩
  clear f;go_wp2_with fail;try simp only[Exit.inBlock,Exit.then]
  refine bJ (cK rfl _ _ _) rfl ?_;exact⟨rfl,by rw[Q.out];exact d.out.1.keep ((bC _ _).alloc (bB _) _),D4.of (d.out.2.alloc d.out.2.size _) (bB _) _ _⟩
 obtain⟨A,af,am,an,hP⟩:=r (by omega);have hx:=hx hk;have p:Hid (∀a,PK a s g pv F->Calls prog 81 #[.agg #[pv],.int .i64 (k:Int)] a λe w'=>e=.returned (.tuple #[B0 (F.getD k (AC 0 0)),.int .i64 0])/\dc a w'):=λa hp=>by
  obtain⟨C,cap,e1,h2⟩:=hp;obtain⟨g1,e2,_,_,h3⟩:=h2 (by omega);rw[e1,e2];exact Fm h3 k hk
 have R:Hid (∀a (c:Nat),(c:Int)<Ae (F.getD k (AC 0 0)).kind->PK a s g pv F->Calls prog 68 #[.agg #[pv],.int .i64 (k:Int),.int .i64 (c:Int)] a λe w'=>e=.returned (.tuple #[.int .i64 (Ap F k c).1,.int .i64 0])/\dc a w'):=λa c hw hp=>by
  obtain⟨C,cap,e1,h2⟩:=hp;obtain⟨g1,e2,_,_,h3⟩:=h2 (by omega);rw[e1,e2];have:=Gj (cap:=cap) h3 hl G k hk (c:Int);unfold Pw at this;rw[Fv F k hk c hw]at this;exact this
 have I:Hid (∀a,Calls prog 82 #[B0 (F.getD k (AC 0 0)),.agg (oc e M)] a λx w'=>x=.returned (.bool (DF e M (F.getD k (AC 0 0))))/\dc a w'):=λa=>O1 _ hx.1 (λj hj=>by have:=hM j hj;omega);have S:Hid (∀a (c:Nat),Calls prog 80 #[B0 (F.getD k (AC 0 0)),.int .i64 (c:Int),.agg (oc e M)] a λx w'=>x=.returned (.agg (oc (CA e M (F.getD k (AC 0 0)) c) (CE e M (F.getD k (AC 0 0)) c)))/\dc a w'):=λa c=>O0 _ hx.1 hx.2 (c:Int) hM hS;have aa:Hid (∀a P pt e M,Dg a s g pv P->Calls prog 53 #[.pointer (some ⟨s,0,none⟩),.int .i64 pt,.agg (oc e M)] a λx w'=>x=.returned (.tuple #[])/\Dg w' s g pv (DR P pt e M)/\D4 s g a w'):=λa P pt e M h=>Q4 h pt e M;have O:Hid (Dp F k e M P=if DF e M (F.getD k (AC 0 0))=true then GH F k e M P (Ae (F.getD k (AC 0 0)).kind).toNat else P):=bA hk;have ae:Hid (∀i:Nat,GH F k e M P (i+1)=DR (GH F k e M P i) (Ap F k i).1 (CA e M (F.getD k (AC 0 0)) i) (CE e M (F.getD k (AC 0 0)) i)):=λi=>rfl;have ac:Hid (GH F k e M P 0=P):=rfl;clear hP hl G hx hM hS hK h r b af J;generalize GH F k e M P=ws at *;generalize F.getD k (AC 0 0)=x at *;have ak:=D1 x.kind;obtain⟨n,hn⟩:∃n:Nat,Ae x.kind=(n:Int):=⟨(Ae x.kind).toNat,by omega⟩
 have HW:Hid (∀a,Calls prog 111 #[B0 x] a λe w'=>e=.returned (.int .i64 (n:Int))/\dc a w'):=λa=>by
  rw[<-hn];exact(MM _ _ _ _ _ _ _ _ _ _ a).mono λe w' ⟨h1,o,h2⟩=>⟨h1,by rw[h2];exact(bC _ _).alloc (bB _) _⟩
 rw[hn]at O R;rw[bK]at O;unfold B0 at p I S HW;have ar:n<=2:=by omega
 clear ak hn;have hz:=Bn;go_enter func86,ntmps86;go_wp2_with fail;refine(p.out _ z.out.2.2.2).mono ?_;rintro y a ⟨rfl,b⟩;have au:w.heap.size+1<=a.heap.size:=by have:=b.size;simpa using this
 have d:Hid (FB w (a.alloc (.cells (AD x) BB)) s g w.heap.size a.heap.size pv F e M x P):=by
  have hB:dc w a:=z.out.2.2.1.trans (b.mono (by simp));have f:dc a (a.alloc (.cells (AD x) BB)):=(bC _ _).alloc (bB _) _;have t:AL a w.heap.size e M:=At.keep z.out.2.1 b (by simp);exact⟨At.keep t f (At.lt t),At.new _ _ _,(z.out.1.keep b).keep f,(z.out.2.2.2.keep b).keep f,D4.of (hB.trans (f.mono hB.size)) (bB _) s g⟩
 clear b z cp;obtain⟨L,aj⟩:∃L,L=a.alloc (.cells (AD x) BB):=⟨_,rfl⟩
 have y0:(a.alloc (.cells (AD x) BB)).cell? ⟨a.heap.size,0,none⟩=some (.int .i64 x.kind):=(d.out.da).cell 0;have y1:(a.alloc (.cells (AD x) BB)).cell? ⟨a.heap.size,1,none⟩=some (.int .i64 x.target):=(d.out.da).cell 1;have y2:(a.alloc (.cells (AD x) BB)).cell? ⟨a.heap.size,2,none⟩=some (.bool x.any):=(d.out.da).cell 2;have y3:(a.alloc (.cells (AD x) BB)).cell? ⟨a.heap.size,3,none⟩=some (.int .i64 (AB x.sg 0)):=(d.out.da).cell 3;have y4:(a.alloc (.cells (AD x) BB)).cell? ⟨a.heap.size,4,none⟩=some (.int .i64 (AB x.sg 1)):=(d.out.da).cell 4;have y5:(a.alloc (.cells (AD x) BB)).cell? ⟨a.heap.size,5,none⟩=some (.int .i64 (AB x.sg 2)):=(d.out.da).cell 5;have y6:(a.alloc (.cells (AD x) BB)).cell? ⟨a.heap.size,6,none⟩=some (.int .i64 (AB x.sg 3)):=(d.out.da).cell 6;have y7:(a.alloc (.cells (AD x) BB)).cell? ⟨a.heap.size,7,none⟩=some (.int .i64 x.num):=(d.out.da).cell 7;have y8:(a.alloc (.cells (AD x) BB)).cell? ⟨a.heap.size,8,none⟩=some (.int .i64 x.parent):=(d.out.da).cell 8;have y9:(a.alloc (.cells (AD x) BB)).cell? ⟨a.heap.size,9,none⟩=some (.int .i64 x.block):=(d.out.da).cell 9;go_wp2_with (refine AH rfl (.tmp 5) rfl rfl d.out.oa ?_);refine(I.out _).mono ?_;rintro y w3 ⟨rfl,U⟩;have T:(w.heap.size≠s/\w.heap.size≠g)/\(a.heap.size≠s/\a.heap.size≠g):=⟨⟨by omega,by omega⟩,⟨by omega,by omega⟩⟩
 have H3:Hid (FB w w3 s g w.heap.size a.heap.size pv F e M x P):=d.out.keep U;have N:Hid ((w.heap.size≠s/\w.heap.size≠g)/\(a.heap.size≠s/\a.heap.size≠g)):=T;clear U I y0 y1 y2 y3 y4 y5 y6 y7 y8 y9 d aj L T;cases B:DF e M x with
 |false=>
  have Q:Hid (Dp F k e M P=P):=by show _=_;rw[O.out,a_ (by rw[B];decide)]
  clear B;go_wp2_with fail;try simp only[Exit.inBlock,Exit.then]
  refine bJ (cK rfl _ _ _) rfl ?_;exact⟨rfl,by rw[Q.out];exact H3.out.st,H3.out.on⟩
 |true=>
  have Q:Hid (Dp F k e M P=ws n):=by show _=_;rw[O.out,bA B]
  clear B O;go_wp2_with fail;go_loopw [8] (λiv wr=>∃i:Nat,i<=n/\iv=.int .i64 (i:Int)/\Hid (FB w wr s g w.heap.size a.heap.size pv F e M x (ws i))) (λiv _=>n-(intOf iv).toNat);case atStart=>exact⟨0,by omega,rfl,by rw[ac.out];exact H3.out⟩
  case round=>
   obtain⟨i,hi,rfl,m⟩:=hrel;have y0:wr.cell? ⟨a.heap.size,0,none⟩=some (.int .i64 x.kind):=(m.out.da).cell 0;have y1:wr.cell? ⟨a.heap.size,1,none⟩=some (.int .i64 x.target):=(m.out.da).cell 1;have y2:wr.cell? ⟨a.heap.size,2,none⟩=some (.bool x.any):=(m.out.da).cell 2;have y3:wr.cell? ⟨a.heap.size,3,none⟩=some (.int .i64 (AB x.sg 0)):=(m.out.da).cell 3;have y4:wr.cell? ⟨a.heap.size,4,none⟩=some (.int .i64 (AB x.sg 1)):=(m.out.da).cell 4;have y5:wr.cell? ⟨a.heap.size,5,none⟩=some (.int .i64 (AB x.sg 2)):=(m.out.da).cell 5;have y6:wr.cell? ⟨a.heap.size,6,none⟩=some (.int .i64 (AB x.sg 3)):=(m.out.da).cell 6;have y7:wr.cell? ⟨a.heap.size,7,none⟩=some (.int .i64 x.num):=(m.out.da).cell 7;have y8:wr.cell? ⟨a.heap.size,8,none⟩=some (.int .i64 x.parent):=(m.out.da).cell 8;have y9:wr.cell? ⟨a.heap.size,9,none⟩=some (.int .i64 x.block):=(m.out.da).cell 9;have ai:=m.out.da.lt;go_wp2_with fail;refine(HW.out wr).mono ?_;rintro y w5 ⟨rfl,V⟩;have K:Hid (FB w w5 s g w.heap.size a.heap.size pv F e M x (ws i)):=m.out.keep V;clear V y0 y1 y2 y3 y4 y5 y6 y7 y8 y9 ai;by_cases aq:i<n
   .have ah:(i:Int)<(n:Int):=by omega
    have c3:w5.cell? ⟨s,0,none⟩=some pv:=K.out.st.sa.cell 0;have l3:=K.out.st.sa.lt;have Z:=R.out w5 i ah K.out.pk;have ad:Hid (ws (i+1)=DR (ws i) (Ap F k i).1 (CA e M x i) (CE e M x i)):=ae.out i;generalize(Ap F k i).1=q at *;have ab:Hid _:=λa=>S.out a i;generalize CA e M x i=e4 at *;generalize CE e M x i=M4 at *;go_wp2_with fail;refine Z.mono ?_;rintro y w6 ⟨rfl,W⟩;have l:Hid (FB w w6 s g w.heap.size a.heap.size pv F e M x (ws i)):=K.out.keep W;clear W Z c3 l3;have y0:w6.cell? ⟨a.heap.size,0,none⟩=some (.int .i64 x.kind):=(l.out.da).cell 0;have y1:w6.cell? ⟨a.heap.size,1,none⟩=some (.int .i64 x.target):=(l.out.da).cell 1;have y2:w6.cell? ⟨a.heap.size,2,none⟩=some (.bool x.any):=(l.out.da).cell 2;have y3:w6.cell? ⟨a.heap.size,3,none⟩=some (.int .i64 (AB x.sg 0)):=(l.out.da).cell 3;have y4:w6.cell? ⟨a.heap.size,4,none⟩=some (.int .i64 (AB x.sg 1)):=(l.out.da).cell 4;have y5:w6.cell? ⟨a.heap.size,5,none⟩=some (.int .i64 (AB x.sg 2)):=(l.out.da).cell 5;have y6:w6.cell? ⟨a.heap.size,6,none⟩=some (.int .i64 (AB x.sg 3)):=(l.out.da).cell 6;have y7:w6.cell? ⟨a.heap.size,7,none⟩=some (.int .i64 x.num):=(l.out.da).cell 7;have y8:w6.cell? ⟨a.heap.size,8,none⟩=some (.int .i64 x.parent):=(l.out.da).cell 8;have y9:w6.cell? ⟨a.heap.size,9,none⟩=some (.int .i64 x.block):=(l.out.da).cell 9;go_wp2_with (refine AH rfl (.tmp 5) rfl rfl l.out.oa ?_);refine(ab.out w6).mono ?_;rintro y w7 ⟨rfl,X⟩;obtain⟨w8,al,D,Y,av⟩:=Bb w7 e4 M4;have H8:Hid (AL w8 w7.heap.size e4 M4/\FB w w8 s g w.heap.size a.heap.size pv F e M x (ws i)):=⟨D,(l.out.keep X).keep Y⟩
    clear X D Y y0 y1 y2 y3 y4 y5 y6 y7 y8 y9;go_wp2_with (refine AH rfl (.tmp 11) rfl rfl H8.out.1 ?_);refine(aa.out w8 (ws i) q e4 M4 H8.out.2.st).mono ?_;rintro y w9 ⟨rfl,H,E⟩;have H9:Hid (FB w w9 s g w.heap.size a.heap.size pv F e M x (ws (i+1))):=H8.out.2.step E (by rw[ad.out];exact H) N.out.1 N.out.2;clear H E;go_wp2_with fail;go_roundw;case rel=>exact⟨i+1,by omega,by go_num,H9.out⟩
    case measure=>simp[intOf];omega
   .have ag:i=n:=by omega
    subst ag;go_wp2_with fail
    go_end0
    exact⟨rfl,by rw[Q.out];exact K.out.st,K.out.on⟩
def Er(p:Pl):Array Value:=(Fy p).toArray
theorem Es(p:Pl):(Er p).size=66:=by simp[Er,FF]
theorem Qx(p:Pl):∀v,v∈Fy p->v.oneCell'=true:=by
 intro v J;unfold Fy at J;rcases cY.1 J with q|q
 .exact Hr p.e p.M v q
 .rw[List.mem_singleton.1 q];rfl
theorem Qw(w:World):(zeroValue 128).run prog w=.ok (.agg (Er ⟨false,λ_=>0,false⟩)) w:=by kernel_rfl
theorem WA:∃H,Tryz.prog.info? 128=some H/\H.size=66:=by
 obtain⟨H,hi,u,l,an⟩:=c_ (P:=prog) (e:=128) (z:=.agg (Er ⟨false,λ_=>0,false⟩)) (size:=66) (bytes:=528) (by kernel_rfl);exact⟨H,hi,l⟩
theorem Qv(p:Pl):(Tryz.prog.info? 128).map (·.size)=some (Fy p).length:=by
 obtain⟨H,hi,l⟩:=WA;simp[hi,l,FF]
theorem N4(a:World)(p:Pl):∃b,(storeCells ⟨a.heap.size,0,none⟩ (Fy p)).run prog (a.alloc (.cells (Er ⟨false,λ_=>0,false⟩) OR))=.ok () b/\At b a.heap.size (Er p) OR/\dc a b/\a.heap.size<b.heap.size:=by
 have h0:At (a.alloc (.cells (Er ⟨false,λ_=>0,false⟩) OR)) a.heap.size (Er ⟨false,λ_=>0,false⟩) OR:=At.new _ _ _;have hr:=run_storeCells_at prog a.heap.size 0 OR (Fy p) 0 (Er ⟨false,λ_=>0,false⟩) _ h0 (by rw[FF,Es];omega) (Qx p);have h1:=setRow_heap _ a.heap.size (Er ⟨false,λ_=>0,false⟩) ((Er ⟨false,λ_=>0,false⟩).toList.take (0+0)++Fy p++(Er ⟨false,λ_=>0,false⟩).toList.drop (0+0+(Fy p).length)).toArray OR (0,0) h0;have e1:((Er ⟨false,λ_=>0,false⟩).toList.take (0+0)++Fy p++(Er ⟨false,λ_=>0,false⟩).toList.drop (0+0+(Fy p).length)).toArray=Er p:=by
  rw[List.drop_of_length_le (by rw[FF];simp[Es])];simp[Er]
 rw[e1]at h1;refine⟨_,hr,by rw[e1];exact h1,?_,?_⟩
 .have c:BC a.heap.size (a.alloc (.cells (Er ⟨false,λ_=>0,false⟩) OR)) ((a.alloc (.cells (Er ⟨false,λ_=>0,false⟩) OR)).setRow a.heap.size ((Er ⟨false,λ_=>0,false⟩).toList.take (0+0)++Fy p++(Er ⟨false,λ_=>0,false⟩).toList.drop (0+0+(Fy p).length)).toArray):=⟨rfl,rfl,rfl,by simp[World.setRow],λk _ hk=>setRow_other _ _ k _ (λe=>hk e)⟩
  exact((bC _ _).alloc (bB _) _).trans (c.below (bB _) (by simp))
 .simp[World.setRow]
def Ym(p:Pl):Prop:=(∀j,j<64-> -20000000000<=p.M j/\p.M j<=1000000)/\(p.e=false->Sh p.M)
theorem Ry(h:Dg w s g pv P)(ad:P.1.length<=21)(hK:PK w s g pv F)(hl:F.length<=20)(D:∀(k:Nat)(x:Ds),F[k]?=some x-> -1<=x.parent/\x.parent<(k:Int))
  (hx:∀k,k<F.length->OY (F.getD k (AC 0 0))/\0<=(F.getD k (AC 0 0)).target/\(F.getD k (AC 0 0)).target<4) (hR:∀k,k<P.1.length->Ym ((C3 F P k).1.getD k p0)):
  Calls prog 54 #[.pointer (some ⟨s,0,none⟩)] w λx w'=>x=.returned (.tuple #[])/\Dg w' s g pv (C3 F P P.1.length)/\D4 s g w w':=by
 obtain⟨I,u⟩:∃I:Pl,I=⟨false,λ_=>0,false⟩:=⟨_,rfl⟩
 have hz:∀w,(zeroValue 128).run prog w=.ok (.agg (Er I)) w:=by rw[u];exact Qw
 have S:Hid (∀(a:World)(p:Pl),∃b,(storeCells ⟨a.heap.size,0,none⟩ (Fy p)).run prog (a.alloc (.cells (Er I) 128))=.ok () b/\At b a.heap.size (Er p) OR/\dc a b/\a.heap.size<b.heap.size):=by rw[u];exact N4
 have ao:(Er I).size=66:=Es I;have ap:¬Er I=#[]:=λh=>by have:=congrArg Array.size h;rw[Es]at this;simp at this
 clear u;have R:Hid (∀a Z k e M,Dg a s g pv Z->PK a s g pv F->Ym ⟨e,M,false⟩->Calls prog 86 #[.pointer (some ⟨s,0,none⟩),.int .i64 ((k:Nat):Int),.agg (oc e M)] a λx w'=>x=.returned (.tuple #[])/\Dg w' s g pv (Dp F k e M Z)/\D4 s g a w'):=λa Z k e M h1 h2 h3=>UT h1 h2 hl D k e M (hx k) h3.1 h3.2;have HR:Hid (∀k,k<P.1.length->Ym ⟨((C3 F P k).1.getD k p0).e,((C3 F P k).1.getD k p0).M,false⟩):=λk hk=>hR k hk;have G:Hid (∀i,(C3 F P i).1.length=P.1.length):=λi=>DD F P i;have V:Hid (∀i:Nat,C3 F P (i+1)=if((C3 F P i).1.getD i p0).wt=true then Dp F i ((C3 F P i).1.getD i p0).e ((C3 F P i).1.getD i p0).M ((C3 F P i).1.set i ⟨((C3 F P i).1.getD i p0).e,((C3 F P i).1.getD i p0).M,false⟩,(C3 F P i).2)else C3 F P i):=λi=>rfl;have H0:Hid (Dg (w.setCell ⟨s,2,none⟩ (.bool false)) s g pv (C3 F P 0)/\PK (w.setCell ⟨s,2,none⟩ (.bool false)) s g pv F/\D4 s g w (w.setCell ⟨s,2,none⟩ (.bool false))):=by
  have c:=(D4.refl s g w).setCell (q:=s) (.inl rfl) 2 (.bool false);exact⟨h.setG false,hK.on c,c⟩
 have al:=h.sa.lt;have ag:=h.glt;have aj:=h.ne;have cg:w.cell? ⟨s,2,none⟩=some (.bool P.2):=h.sa.cell 2;have cf:=h.sa.free;have Y:Hid (∀a,D4 s g w a->w.heap.size<=a.heap.size):=λa h1=>h1.size;clear h hK hR hx D;generalize P.1.length=n at *;generalize C3 F P=rs at *;go_enter func54,ntmps54;go_wp2_with fail;go_loopw [2] (λiv wr=>∃i:Nat,i<=n/\iv=.int .i64 (i:Int)/\Hid (Dg wr s g pv (rs i)/\PK wr s g pv F/\D4 s g w wr)) (λiv _=>n-(intOf iv).toNat);case atStart=>exact⟨0,by omega,rfl,H0.out⟩
 case round=>
  obtain⟨i,hi,rfl,y⟩:=hrel;have c1:wr.cell? ⟨s,1,none⟩=some (.slice (some ⟨g,0,none⟩) n 21):=by
   have:=y.out.1.sa.cell 1;rw[this];show some (Value.slice (some ⟨g,0,none⟩) (rs i).1.length 21)=_;rw[G.out i]
  have am:=Y.out wr y.out.2.2;by_cases L:i<n
  .have ai:(i:Int)<(n:Int):=by omega
   have ah:(0:Int)<=(i:Int):=Int.natCast_nonneg _;have t:i<(rs i).1.length:=by rw[G.out i];exact L
   have A:Hid (wr.rangeAt g (i*66) (Fy ((rs i).1.getD i p0))):=y.out.1.row t;have o:=V.out i;have o:Hid (rs (i+1)=if((rs i).1.getD i p0).wt=true then Dp F i ((rs i).1.getD i p0).e ((rs i).1.getD i p0).M ((rs i).1.set i ⟨((rs i).1.getD i p0).e,((rs i).1.getD i p0).M,false⟩,(rs i).2)else rs i):=o;have W:Hid (Ym ⟨((rs i).1.getD i p0).e,((rs i).1.getD i p0).M,false⟩):=HR.out i L;have X:Hid (∀a,Dg a s g pv (rs i)->Dg (a.setCell ⟨g,i*66+65,none⟩ (.bool false)) s g pv ((rs i).1.set i ⟨((rs i).1.getD i p0).e,((rs i).1.getD i p0).M,false⟩,(rs i).2)):=λa h1=>h1.setW t false;have O:Hid (∀a,Dg a s g pv (rs i)->a.cell? ⟨s,1,none⟩=some (.slice (some ⟨g,0,none⟩) n 21)/\a.cell? ⟨g,i*66+65,none⟩=some (.bool ((rs i).1.getD i p0).wt)/\a.frozen? ⟨g,i*66+65,none⟩=false):=λa h1=>by
    obtain⟨C,hC,_⟩:=h1.ga;refine⟨?_,(h1.pl i 65 t (by omega)).trans (Ht _),hC.free _⟩;rw[h1.sa.cell 1];show some (Value.slice (some ⟨g,0,none⟩) (rs i).1.length 21)=_;rw[G.out i]
   have N:=Qv ((rs i).1.getD i p0);obtain⟨b,ae,B,r,ak⟩:=S.out wr ((rs i).1.getD i p0);have m:Hid (Dg b s g pv (rs i)/\PK b s g pv F/\D4 s g w b/\At b wr.heap.size (Er ((rs i).1.getD i p0)) OR):=⟨y.out.1.keep r,y.out.2.1.keep r,y.out.2.2.trans (D4.of r (bB _) s g),B⟩
   clear B r t;generalize(rs i).1.getD i p0=p at *;have cw:b.cell? ⟨wr.heap.size,65,none⟩=some (.bool p.wt):=by
    rw[m.out.2.2.2.cell];show(Fy p).toArray[65]?=_;rw[List.getElem?_toArray];exact Ht p
   have U:Hid (∀a,At a wr.heap.size (Er p) OR->a.rangeAt wr.heap.size 0 (oc p.e p.M).toList):=λa h1 j v J=>by
    have hj:j<65:=by
     rcases bW j 65 with q|q
     .exact q
     .rw[bO (by simp[Am];omega)]at J;cases J
    rw[cU,h1.cell];show(Fy p).toArray[j]?=_;rw[List.getElem?_toArray,I6 p hj,<-cP];exact J
   have ac:(Tryz.prog.info? 90).map (·.size)=some (oc p.e p.M).toList.length:=by
    obtain⟨H,hi,l⟩:=KM;have aa:Tryz.prog.info? 90=some H:=hi;simp[aa,l,Am]
   obtain⟨d1,d2,d3⟩:=O.out b m.out.1;have af:g<b.heap.size:=m.out.1.glt;cases d:p.wt with
   |false=>
    have Q:Hid (rs (i+1)=rs i):=o.out.trans (a_ (by rw[d];decide));rw[d]at cw;clear d;go_wp2_with (refine wpList_load_mid rfl 128 (.tmp 21) rfl g (i*66) rfl (Fy p) _ A.out underlying128 rfl N ?_);go_roundw;case rel=>exact⟨i+1,by omega,by go_num,by rw[Q.out];exact m.out.1,m.out.2.1,m.out.2.2.1⟩
    case measure=>simp[intOf];omega
   |true=>
    have Q:Hid (rs (i+1)=Dp F i p.e p.M ((rs i).1.set i ⟨p.e,p.M,false⟩,(rs i).2)):=o.out.trans (bA d);have K:Hid (Dg (b.setCell ⟨g,i*66+65,none⟩ (.bool false)) s g pv ((rs i).1.set i ⟨p.e,p.M,false⟩,(rs i).2)/\PK (b.setCell ⟨g,i*66+65,none⟩ (.bool false)) s g pv F/\D4 s g w (b.setCell ⟨g,i*66+65,none⟩ (.bool false))/\At (b.setCell ⟨g,i*66+65,none⟩ (.bool false)) wr.heap.size (Er p) OR):=by
     have c:=(D4.refl s g b).setCell (q:=g) (.inr rfl) (i*66+65) (.bool false);exact⟨X.out b m.out.1,m.out.2.1.on c,m.out.2.2.1.trans c,m.out.2.2.2.other _ _ (by omega)⟩
    have T:Hid ((b.setCell ⟨g,i*66+65,none⟩ (.bool false)).rangeAt wr.heap.size 0 (oc p.e p.M).toList):=U.out _ K.out.2.2.2;rw[d]at cw d2;clear d;go_wp2_with (first|refine wpList_load_mid rfl 128 (.tmp 21) rfl g (i*66) rfl (Fy p) _ A.out underlying128 rfl N ?_|refine wpList_load_mid rfl 90 (.tmp 34) rfl wr.heap.size 0 rfl (oc p.e p.M).toList _ T.out underlying90 rfl ac ?_);refine(R.out _ _ i p.e p.M K.out.1 K.out.2.1 W.out).mono ?_;rintro x w4 ⟨rfl,E,f⟩;have H4:Hid (Dg w4 s g pv (rs (i+1))/\PK w4 s g pv F/\D4 s g w w4):=⟨by rw[Q.out];exact E,K.out.2.1.on f,K.out.2.2.1.trans f⟩
    clear E f;go_wp2_with fail;go_roundw;case rel=>exact⟨i+1,by omega,by go_num,H4.out⟩
    case measure=>simp[intOf];omega
  .have ab:i=n:=by omega
   subst ab;go_wp2_with fail
   go_end0
   exact⟨rfl,y.out.1,y.out.2.2⟩
theorem Iq{P:Program}{c:Array Oper}{b:List Oper}{o:Oper}{a:Act}{Q:Exit->Act->World->Prop}(M:o.guard=none)(t:TypeId)(f:Array (Nat×Operand))(N:o.op=.build t f)(p:Array Value)
  (hc:P.built t (f.map λ(i,x)=>(i,a.eval x)).toList=some p) (h:wpList P c Q b (a.put o.dst (.agg p)) w):wpList P c Q (o::b) a w:=
 wpList_build M t f N (by rw[hc];rfl) (by rw[hc];exact h)
theorem Xw:Tryz.prog.built 90 [(0,.bool true)]=some (oc true λ_=>0):=by kernel_rfl
theorem ZC:Tryz.prog.built 128 [(0,.agg (oc true λ_=>0))]=some (Er p0):=by kernel_rfl
theorem Vz:Instr.fill (λi=>some (i*66,66)) ((Array.range (1*66)).map ((Value.agg (Er ⟨false,λ_=>0,false⟩)).cells[·%(Value.agg (Er ⟨false,λ_=>0,false⟩)).cells.size]!)) [(0,.agg (Er p0))]=some (Er p0):=by kernel_rfl
theorem KQ:∃y,Tryz.prog.info? 128=some y/\y.zero=some (.agg (Er ⟨false,λ_=>0,false⟩))/\y.size=66/\y.bytes=528:=c_ (P:=prog) (e:=128) (z:=.agg (Er ⟨false,λ_=>0,false⟩)) (size:=66) (bytes:=528) (by kernel_rfl)
theorem OW{c:Array Oper}{b:List Oper}{o:Oper}{a:Act}{Q:Exit->Act->World->Prop}(M:o.guard=none)(x:Operand)(N:o.op=.buildSlice 83 1 #[(0,x)])(hx:a.eval x=.agg (Er p0))
  (h:wpList prog c Q b (a.put o.dst (.slice (some ⟨w.heap.size,0,none⟩) 1 1)) (w.alloc (.cells (Er p0) 128))):wpList prog c Q (o::b) a w:=by
 obtain⟨y,hi,s,d,B⟩:=KQ;refine wpList_buildSlice M 83 128 1 _ N (Er p0) y _ underlying83 hi s (by rw[d];decide) (by rw[d];decide) ?_ h;rw[d];have:=Vz;simpa[hx]using this
theorem Rj:∃J:Array Value,J.size=21*66/\∀w,(Instr.makeSlice 83 (.int .i64 0) (.int .i64 21)).run prog w=.ok (.slice (some ⟨w.heap.size,0,none⟩) 0 21) (w.alloc (.cells J 128)):=by
 obtain⟨y,hi,s,d,B⟩:=KQ;refine⟨madeCells (Value.agg (Er ⟨false,λ_=>0,false⟩)).cells (21*66),by rw[size_madeCells],λw=>?_⟩;have:=run_make (P:=prog) w 83 128 y _ underlying83 hi s .i64 .i64 0 21 (by omega) (by omega) (by rw[B];omega) (by omega);rw[this,d];rfl
def GN(n:Nat):List Value:=(List.replicate n (Fy p0)).flatten
theorem Gn(n:Nat):(GN n).length=n*66:=by
 induction n with
 |zero=>rfl
 |succ n ih=>simp only[GN,List.replicate_succ,List.flatten_cons,cn]at ih|-;rw[ih,FF];omega
theorem KC(n:Nat):GN (n+1)=GN n++Fy p0:=by
 simp[GN,List.replicate_succ']
theorem RW(n i k:Nat)(hi:i<n)(hk:k<66):(GN n)[i*66+k]?=(Fy p0)[k]?:=by
 induction n with
 |zero=>cases hi
 |succ n ih=>
  rw[KC];rcases bW i n with q|q
  .rw[bU (by rw[Gn];omega)];exact ih q
  .rw[List.getElem?_append_right (by rw[Gn];omega),Gn]
   congr 1
   omega
def VL(w:World)(g n:Nat):Prop:=(∃C,At w g C OR/\n*66<=C.size)/\∀i k,i<n->k<66->w.cell? ⟨g,i*66+k,none⟩=(Fy p0)[k]?
theorem X1{base g n:Nat}(hn:1<=n)(h:w.ownsRow base 128 66 (.slice (some ⟨g,0,none⟩) n 21) n (GN n)):VL w g n:=by
 refine⟨?_,λi k hi hk=>?_⟩
 .rcases h.2 with⟨e,_⟩|⟨g',cap,cur,e,_,hh,af,ac,ah,aa⟩
  .cases e
  .cases e
   refine⟨cur,hh,?_⟩;have h2:=congrArg List.length aa;rw[Gn]at h2;simp at h2;omega
 .have e:=RW n i k hi hk;have hs:k<(Fy p0).length:=by rw[FF];exact hk
  rw[bP hs]at e|-;have:=h.cells (g:=g) rfl (i*66+k) _ e;rw[Dn]at this;exact this
theorem Pj(T:Option Addr)(n cap:Nat)(hn:n<=20):Calls prog 51 #[.agg #[.slice T n cap]] w λx w'=>∃g,x=.returned (.slice (some ⟨g,0,none⟩) (n+1) 21)/\w.heap.size<=g/\VL w' g (n+1)/\dc w w':=by
 obtain⟨D,l⟩:∃D,D=oc true λ_=>0:=⟨_,rfl⟩
 obtain⟨v,m⟩:∃v,v=Er p0:=⟨_,rfl⟩
 obtain⟨c2,r⟩:∃c2,c2=Fy p0:=⟨_,rfl⟩
 have U:Hid (Tryz.prog.built 90 [(0,.bool true)]=some D):=by rw[l];exact Xw
 have V:Hid (Tryz.prog.built 128 [(0,.agg D)]=some v):=by rw[l,m];exact ZC
 have z1:Tryz.zeroCells90.setIfInBounds 0 (.bool true)=D:=by rw[l];kernel_rfl
 have z2:Array.foldl (λcs (x:Value×Nat)=>cs.setIfInBounds x.snd x.fst) Tryz.zeroCells128 D.zipIdx 0 65=v:=by rw[l,m];kernel_rfl
 have z3:D.size=65:=by rw[l];exact Am _ _
 have z4:v.size=66:=by rw[m];exact Es _
 have L:Hid (∀{w:World}{c:Array Oper}{b:List Oper}{o:Oper}{a:Act}{Q:Exit->Act->World->Prop}(_:o.guard=none)(x:Operand)(_:o.op=.buildSlice 83 1 #[(0,x)])(_:a.eval x=.agg v)
  (_:wpList prog c Q b (a.put o.dst (.slice (some ⟨w.heap.size,0,none⟩) 1 1)) (w.alloc (.cells v 128))),wpList prog c Q (o::b) a w):=by rw[m];exact λM x N hx h=>OW M x N hx h
 have G:Hid (v.toList=c2/\c2.length=66/\∀u∈c2,u.oneCell'=true):=⟨by rw[m,r];simp[Er],by rw[r];exact FF _,by rw[r];exact Qx p0⟩
 have HZ:Hid (∀i,GN (i+1)=GN i++c2):=by rw[r];exact KC
 clear l m r;obtain⟨y,hi,s,d,B⟩:=KQ;clear s B;obtain⟨J,R,ae⟩:=Rj;have E:Hid (∀S,Calls prog 67 #[.agg #[.slice T n cap]] S λe w'=>e=.returned (.int .i64 (n:Int))/\dc S w'):=λS=>(J7 T n cap S hn).mono λe w' ⟨h1,o,h2⟩=>⟨h1,by rw[h2];exact(bC _ _).alloc (bB _) _⟩
 obtain⟨pv,O⟩:∃pv,pv=Value.slice T n cap:=⟨_,rfl⟩
 rw[<-O]at E|-;clear O;have H0:Hid (At (w.alloc (.cells #[pv] JP)) w.heap.size #[pv] JP/\dc w (w.alloc (.cells #[pv] JP))):=⟨At.new _ _ _,(bC _ _).alloc (bB _) _⟩
 have W:Hid (((w.alloc (.cells #[pv] JP)).alloc (.cells J 128)).ownsRow (w.heap.size+1) 128 66 (.slice (some ⟨w.heap.size+1,0,none⟩) 0 21) 0 []):=by
  have:=World.ownsRow_made (e:=128) (w.alloc (.cells #[pv] JP)) J 21 (bB _) (by decide) R;show World.ownsRow _ _ _ _ _ _ _;simpa using this
 have H1:Hid (At ((w.alloc (.cells #[pv] JP)).alloc (.cells J 128)) w.heap.size #[pv] JP/\dc w ((w.alloc (.cells #[pv] JP)).alloc (.cells J 128))):=⟨At.allocH H0.out.1 _,H0.out.2.alloc (by simp) _⟩
 clear R;go_enter func51,ntmps51;go_wp2_with fail;go_loopw [3,4] (λcv iv wr=>∃i:Nat,i<=n+1/\iv=.int .i64 (i:Int)/\cv=.slice (some ⟨w.heap.size+1,0,none⟩) i 21/\Hid (wr.ownsRow (w.heap.size+1) 128 66 (.slice (some ⟨w.heap.size+1,0,none⟩) i 21) i (GN i)/\At wr w.heap.size #[pv] JP/\dc w wr)) (λ_ iv _=>n+1-(intOf iv).toNat);case atStart=>exact⟨0,by omega,rfl,rfl,W.out,H1.out⟩
 case round=>
  obtain⟨i,ab,rfl,rfl,H⟩:=hrel;have c0:wr.cell? ⟨w.heap.size,0,none⟩=some pv:=H.out.2.1.cell 0;go_wp2_with fail;refine(E.out wr).mono ?_;rintro x K ⟨rfl,A⟩;have F:Hid (K.ownsRow (w.heap.size+1) 128 66 (.slice (some ⟨w.heap.size+1,0,none⟩) i 21) i (GN i)/\At K w.heap.size #[pv] JP/\dc w K):=⟨Bm H.out.1 (λk hk=>A.block k (H.out.1.lt k hk).2),H.out.2.1.keep A H.out.2.1.lt,H.out.2.2.trans (A.mono H.out.2.2.size)⟩
  clear A c0;have ag:w.heap.size+1<K.heap.size:=(F.out.1.lt (w.heap.size+1) rfl).2;by_cases ad:i<=n
  .have Z:(i:Int)<=(n:Int):=by omega
   go_wp2_with (first|refine Iq rfl 90 _ rfl D U.out ?_|refine Iq rfl 128 _ rfl v V.out ?_|refine L.out rfl (.tmp 14) rfl rfl ?_|(at_builtin;refine cj _ rfl (.tmp 12) (.tmp 15) 83 rfl (w.heap.size+1) 128 y 66 underlying83 hi d (w.heap.size+1) i 21 _ rfl (F.out.1.alloc _) ⟨K.heap.size,0,none⟩ 1 1 c2 rfl (by rw[G.out.2.1]) (by intro t u ht;rw[Dn];exact(bL _ _ _ _ rfl).trans (by rw[<-cP,G.out.1];exact ht)) G.out.2.2 (by omega) ?_;intro w5 I j));go_roundw;case rel=>
    refine⟨i+1,by omega,by go_num,rfl,by rw[HZ.out];exact I,?_,(F.out.2.2.alloc F.out.2.2.size _).grown j (by simp;omega) (λk hk=>by cases hk;omega)⟩;have X:=((bC (w.heap.size+1) K).alloc (by omega) (.cells v 128)).grown j (by simp;omega) (λk hk=>by cases hk;exact bB _);exact F.out.2.1.keep X (by omega)
   case measure=>simp[intOf];omega
  .have Y:i=n+1:=by omega
   subst Y;have Z:¬((n+1:Nat):Int)<=(n:Int):=by omega
   go_wp2_with fail;go_ret;exact⟨_,rfl,by omega,X1 (by omega) F.out.1,F.out.2.2⟩
def JL(p:Pl):Option (List Int):=if p.e=true then none else some (Bl p.M)
theorem PB{base G n:Nat}{X:List Value}{L:List (Option (List Int))}(hn:L.length=n)(hr:w.ownsRow base 32 1 (.slice (some ⟨G,0,none⟩) n 21) n X)(h:NA w (G+1) G X L)(H:n<=21):CX w (.slice (some ⟨G,0,none⟩) n 21) L:=by
 subst hn;refine⟨_,21,rfl,H,λ_=>⟨G,0,rfl,(hr.lt G rfl).2,λi hi=>?_⟩⟩;have an:X[i]?=some (X.getD i (.bool false)):=by simp[List.getD,show i<X.length by rw[h.len];exact hi]
 have hc:=hr.cells (g:=G) rfl i _ an;rw[Dn]at hc;refine⟨_,by rw[cU];exact hc,?_⟩;have hp:=h.each i hi;cases e:L.getD i none with
 |none=>rw[e]at hp;exact hp
 |some l=>
  rw[e]at hp;obtain⟨q,hq,m,ha,hl⟩:=hp;rw[m];exact⟨AQ.at_ ha hl (bB _) (λj hj=>Aa _ _ (by omega)),_,_,_,rfl⟩
theorem WK(hG:Cr w)(h:Dg w s g pv P)(H:P.1.length<=21)(hR:∀k,k<P.1.length->Sm (P.1.getD k p0).M):
  Calls prog 55 #[.pointer (some ⟨s,0,none⟩)] w λx w'=>∃ao cap,x=.returned (.slice ao P.1.length cap)/\CX w' (.slice ao P.1.length cap) (P.1.map JL)/\dc w w':=by
 obtain⟨O,N⟩:∃O:Pl,O=⟨false,λ_=>0,false⟩:=⟨_,rfl⟩
 have hz:∀w,(zeroValue 128).run prog w=.ok (.agg (Er O)) w:=by rw[N];exact Qw
 have af:Hid (∀(b:World)(p:Pl),∃r,(storeCells ⟨b.heap.size,0,none⟩ (Fy p)).run prog (b.alloc (.cells (Er O) 128))=.ok () r/\At r b.heap.size (Er p) OR/\dc b r/\b.heap.size<r.heap.size):=by rw[N];exact N4
 have aI:(Er O).size=66:=Es O;have aJ:¬Er O=#[]:=λh=>by have:=congrArg Array.size h;rw[Es]at this;simp at this
 clear N;have aF:∀w,(Instr.makeSlice 54 (.int .i64 0) (.int .i64 21)).run prog w=.ok (.slice (some ⟨w.heap.size,0,none⟩) 0 21) (w.alloc (.cells (List.replicate 21 (Value.slice none 0 0)).toArray 32)):=λ_=>by kernel_rfl
 obtain⟨i0,aa, -,E, -⟩:=c_ (P:=prog) (e:=32) (z:=.slice none 0 0) (size:=1) (bytes:=24) (by kernel_rfl);have ai:Hid ((w.alloc (.cells (List.replicate 21 (Value.slice none 0 0)).toArray 32)).ownsRow w.heap.size 32 1 (.slice (some ⟨w.heap.size,0,none⟩) 0 21) 0 []):=World.ownsRow_made w _ 21 (bB _) (by decide) rfl;generalize(List.replicate 21 (Value.slice none 0 0)).toArray=zs at *;have S:Hid (dc w (w.alloc (.cells zs 32))):=(bC _ _).alloc (bB _) _;have ag:Hid (∀b k,dc w b->k<P.1.length->Calls prog 74 #[.agg (oc (P.1.getD k p0).e (P.1.getD k p0).M)] b (BF b (P.1.getD k p0).e (P.1.getD k p0).M)):=λb k hb hk=>MZ (hG.keep hb hG.size) (hR k hk);have Z:Hid (Dg w s g pv P):=h;have am:Hid (∀i,i<P.1.length->(P.1.map JL).take (i+1)=(P.1.map JL).take i++[JL (P.1.getD i p0)]):=λi hi=>by
  rw[List.take_add_one]
  congr 1
  simp[List.getD,hi]
 have W:Hid (∀i,i<=P.1.length->((P.1.map JL).take i).length=i):=λi hi=>by simp;omega
 have R:Hid ((P.1.map JL).take P.1.length=P.1.map JL):=cG (by simp);have aH:=h.sa.lt;have aC:=h.glt;have c1:(w.alloc (.cells zs 32)).cell? ⟨s,1,none⟩=some (.slice (some ⟨g,0,none⟩) P.1.length 21):=(Z.out.keep S.out).sa.cell 1;have ak:Hid (∀b k,dc w b->k<P.1.length->b.rangeAt g (k*66) (Fy (P.1.getD k p0))):=λb k hb hk=>(Z.out.keep hb).row hk;clear h hG hR;generalize P.1.map JL=LL at *;go_enter func55,ntmps55;go_wp2_with fail;go_loopw [3,13] (λcv iv wr=>∃(i:Nat)(X:List Value),i<=P.1.length/\iv=.int .i64 (i:Int)/\cv=.slice (some ⟨w.heap.size,0,none⟩) i 21/\Hid (wr.ownsRow w.heap.size 32 1 (.slice (some ⟨w.heap.size,0,none⟩) i 21) i X/\dc w wr/\w.heap.size<wr.heap.size/\NA wr (w.heap.size+1) w.heap.size X (LL.take i))) (λ_ iv _=>P.1.length-(intOf iv).toNat);case atStart=>exact⟨0,[],by omega,rfl,rfl,ai.out,S.out,by simp,⟨rfl,λi hi=>absurd hi (by simp),λi hi=>absurd hi (by simp),λi j a hi=>absurd hi (by simp)⟩⟩
 case round=>
  obtain⟨i,X,ab,rfl,rfl,C⟩:=hrel;have aK:=C.out.2.2.1;by_cases J:i<P.1.length
  .have aD:(i:Int)<(P.1.length:Int):=by omega
   have ay:(0:Int)<=(i:Int):=Int.natCast_nonneg _;have Y:Hid (wr.rangeAt g (i*66) (Fy (P.1.getD i p0))):=ak.out wr i C.out.2.1 J;have al:Hid (LL.take (i+1)=LL.take i++[JL (P.1.getD i p0)]):=am.out i J;have V:Hid (∀b,dc w b->Calls prog 74 #[.agg (oc (P.1.getD i p0).e (P.1.getD i p0).M)] b (BF b (P.1.getD i p0).e (P.1.getD i p0).M)):=λb hb=>ag.out b i hb J;have aE:=W.out i ab;generalize P.1.getD i p0=p at *;have aw:=Qv p;obtain⟨r,az,B,I,aG⟩:=af.out wr p;have H2:Hid (At r wr.heap.size (Er p) OR/\dc wr r):=⟨B,I⟩
   have ah:Hid (r.rangeAt wr.heap.size 0 (oc p.e p.M).toList):=λj v m=>by
    have hj:j<65:=by
     rcases bW j 65 with q|q
     .exact q
     .rw[bO (by simp[Am];omega)]at m;cases m
    rw[cU,B.cell];show(Fy p).toArray[j]?=_;rw[List.getElem?_toArray,I6 p hj,<-cP];exact m
   have av:(Tryz.prog.info? 90).map (·.size)=some (oc p.e p.M).toList.length:=by
    obtain⟨i0,hi,E⟩:=KM;have ar:Tryz.prog.info? 90=some i0:=hi;simp[ar,E,Am]
   have ad:=V.out r (C.out.2.1.trans (I.mono (by omega)));clear B I;go_wp2_with (first|refine wpList_load_mid rfl 128 (.tmp 15) rfl g (i*66) rfl (Fy p) _ Y.out underlying128 rfl aw ?_|refine wpList_load_mid rfl 90 (.tmp 17) rfl wr.heap.size 0 rfl (oc p.e p.M).toList _ ah.out underlying90 rfl av ?_);refine ad.mono ?_;intro y o hy;have aj:∃v4,y=.returned v4/\PV o r.heap.size v4 (JL p):=by
    rcases hy.2 with⟨he,m⟩|⟨he,gq,m,aq,ha⟩
    .exact⟨_,m,by unfold JL;rw[bA he];exact(rfl:_=_)⟩
    .exact⟨_,m,by unfold JL;rw[a_ (by rw[he];decide)];exact⟨gq,aq,rfl,ha,BJ _⟩⟩
   obtain⟨v4,rfl,K⟩:=aj;have f:dc wr o:=H2.out.2.trans (hy.1.mono (by omega));have aA:r.heap.size<=o.heap.size:=hy.1.size;have Q:Hid (o.ownsRow w.heap.size 32 1 (.slice (some ⟨w.heap.size,0,none⟩) i 21) i X/\dc w o/\NA o (w.heap.size+1) w.heap.size (X++[v4]) (LL.take i++[JL p])):=by
    have hL:=C.out.2.2.2;refine⟨Bm C.out.1 (λk hk=>f.block k (C.out.1.lt k hk).2),C.out.2.1.trans (f.mono (by omega)),?_⟩;exact(hL.same (w':=o) (λk hk _ _=>f.block k hk)).snoc K (by omega) (by omega) (λj hj k hk=>by have:=((hL.each j hj).lt k hk).2;omega)
   have T:Hid (∀A,(o.alloc (.cells #[v4] 32)).grownBy A (some w.heap.size)->A.ownsRow w.heap.size 32 1 (.slice (some ⟨w.heap.size,0,none⟩) (i+1) 21) (i+1) (X++[v4])->
     A.ownsRow w.heap.size 32 1 (.slice (some ⟨w.heap.size,0,none⟩) (i+1) 21) (i+1) (X++[v4])/\dc w A/\w.heap.size<A.heap.size/\NA A (w.heap.size+1) w.heap.size (X++[v4]) (LL.take (i+1))):=by
    intro A hg ho;have ap:∀k,k<o.heap.size->k≠w.heap.size->A.heap[k]?=o.heap[k]?:=λk hk ae=>(hg.block k (by simp;omega) (by intro e;have:=bV e;omega)).trans (heap_alloc_old _ _ hk);have ax:=hg.size;rw[al.out];refine⟨ho,(Q.out.2.1.alloc Q.out.2.1.size _).grown hg (by simp;omega) (λk hk=>by cases hk;exact bB _),by simp at ax;omega,Q.out.2.2.same (λk hk _ ae=>ap k hk ae)⟩
   have HV:Hid (PV o r.heap.size v4 (JL p)):=K;clear K hy ad f;generalize JL p=oo at *;cases oo with
   |none=>
    have m:v4=.slice none 0 0:=HV.out;subst m;go_wp2_with (at_builtin;refine cj _ rfl (.tmp 20) (.tmp 22) 54 rfl w.heap.size 32 i0 1 underlying54 aa E w.heap.size i 21 _ rfl (Q.out.1.alloc _) ⟨o.heap.size,0,none⟩ 1 1 [Value.slice none 0 0] rfl rfl (by intro t u D;match t,D with|0,D=>simp at D;subst D;exact bL _ _ _ _ rfl) (by intro u hu;simp at hu;subst hu;rfl) (by omega) ?_;intro A d c);go_roundw;case rel=>exact⟨i+1,X++[Value.slice none 0 0],by omega,by go_num,rfl,T.out A c d⟩
    case measure=>simp[intOf];omega
   |some l=>
    obtain⟨g3,aB,m, -, -⟩:=HV.out;subst m;go_wp2_with (at_builtin;refine cj _ rfl (.tmp 20) (.tmp 22) 54 rfl w.heap.size 32 i0 1 underlying54 aa E w.heap.size i 21 _ rfl (Q.out.1.alloc _) ⟨o.heap.size,0,none⟩ 1 1 [Value.slice (some ⟨g3,0,none⟩) 32 32] rfl rfl (by intro t u D;match t,D with|0,D=>simp at D;subst D;exact bL _ _ _ _ rfl) (by intro u hu;simp at hu;subst hu;rfl) (by omega) ?_;intro A d c);go_roundw;case rel=>exact⟨i+1,X++[Value.slice (some ⟨g3,0,none⟩) 32 32],by omega,by go_num,rfl,T.out A c d⟩
    case measure=>simp[intOf];omega
  .have au:i=P.1.length:=by omega
   subst au;have U:Hid (CX wr (.slice (some ⟨w.heap.size,0,none⟩) P.1.length 21) LL):=by
    have hL:=C.out.2.2.2;have ac:=W.out P.1.length (bB _);rw[R.out]at hL ac;exact PB ac C.out.1 hL H
   go_wp2_with fail;go_ret;exact⟨_,_,rfl,U.out,C.out.2.1⟩
end Go.Proofs.YtffajooegiempaaGreatDoor
namespace Go.Proofs.YtffajooegiempaaGreatDoor
open Go.RowKit Go.Proofs.Tryz
structure Ms where
 used:Nat
 st:Int
 pt:Int
 v:List Int
def CN(n:Int):Int:=if 999<n then 999 else if n< -999 then -999 else n
def Af(a b:List Int):Nat->Int
 |0=>0
 |j+1=>Af a b j+AB a j*AB b j
def Iy(L:List Int)(u:Nat):Int×Nat:=if u<L.length then(L.getD u 0,u+1)else(0,u)
def Dz(L:List Int)(x:Ds)(s:Ms):Int×Nat:=if x.any=true then(CN (Iy L s.used).1,(Iy L s.used).2)else(Af x.sg s.v 4+x.num,s.used)
def Cj(L:List Int)(x:Ds)(s:Ms):Bool×Nat:=if x.any=true then((Iy L s.used).1 != 0,(Iy L s.used).2)else(decide (Af x.sg s.v 4<=x.num),s.used)
def FU(n:Nat)(s:Ms)(p:Int):Ms:=⟨s.used,if p=n then 1 else s.st,p,s.v⟩
def Dl(F:List Ds)(s:Ms)(c:Int):Ms:=if(Ap F s.pt c).2=0 then FU F.length s (Ap F s.pt c).1 else s
def IB(F:List Ds)(L:List Int)(x:Ds)(s:Ms):Ms:=
 if 999<(Dz L x s).1\/(Dz L x s).1< -999 then⟨(Dz L x s).2,2,s.pt,s.v⟩else Dl F ⟨(Dz L x s).2,s.st,s.pt,s.v.set x.target.toNat (Dz L x s).1⟩ 0
def Kw(F:List Ds)(L:List Int)(x:Ds)(s:Ms):Ms:=
 if(Cj L x s).1=true then Dl F ⟨(Cj L x s).2,s.st,s.pt,s.v⟩ 0 else⟨(Cj L x s).2,3,s.pt,s.v⟩
def Jz(F:List Ds)(L:List Int)(x:Ds)(s:Ms):Ms:=Dl F ⟨(Cj L x s).2,s.st,s.pt,s.v⟩ (if(Cj L x s).1=true then 0 else 1)
def GG(F:List Ds)(L:List Int)(s:Ms):Ms:=
 if s.pt<0\/(F.length:Int)<=s.pt then s else
  if(F.getD s.pt.toNat (AC 0 0)).kind=0 then IB F L (F.getD s.pt.toNat (AC 0 0)) s
  else if(F.getD s.pt.toNat (AC 0 0)).kind=1 then Kw F L (F.getD s.pt.toNat (AC 0 0)) s
  else Jz F L (F.getD s.pt.toNat (AC 0 0)) s
def Ka(F:List Ds)(L:List Int):Nat->Ms->Ms
 |0,s=>s
 |n+1,s=>if s.st=0 then Ka F L n (GG F L s)else s
structure GI(x:Ds):Prop where
 len:x.sg.length=4
 sg:∀i, -1<=AB x.sg i/\AB x.sg i<=1
 num: -99<=x.num/\x.num<=99
 tg:0<=x.target/\x.target<=3
structure Dm(L:List Int)(s:Ms):Prop where
 len:s.v.length=4
 v:∀i, -999<=AB s.v i/\AB s.v i<=999
 used:s.used<=L.length
theorem Fu(a b:Int)(h0: -1<=a)(h1:a<=1)(h2: -999<=b)(h3:b<=999): -999<=a*b/\a*b<=999:=by
 rcases(show a= -1\/a=0\/a=1 by omega)with rfl|rfl|rfl<;>omega
theorem Ct{a b:List Int}(d:∀i, -1<=AB a i/\AB a i<=1)(hb:∀i, -999<=AB b i/\AB b i<=999):∀j:Nat, -(999*(j:Int))<=Af a b j/\Af a b j<=999*(j:Int):=by
 intro j;induction j with
 |zero=>simp[Af]
 |succ j ih=>
  have:=Fu (AB a j) (AB b j) (d j).1 (d j).2 (hb j).1 (hb j).2;unfold Af;omega
theorem Nq{L:List Int}{u:Nat}(h:u<=L.length):(Iy L u).2<=L.length:=by
 unfold Iy;split<;>simp<;>omega
theorem LQ(n:Int): -999<=CN n/\CN n<=999:=by
 unfold CN;split
 .omega
 .split<;>omega
theorem GY(l:List Int)(i j:Nat)(x:Int)(hi:i<l.length):AB (l.set i x) j=if j=i then x else AB l j:=by
 unfold AB;rw[bG,cH];by_cases e:i=j
 .subst e;simp[hi]
 .rw[a_ e,a_ (Ne.symm e),bG]
variable {F:List Ds}{L:List Int}{s:Ms}{x:Ds}
theorem Dm.lea(h:Dm L s)(c:Int):Dm L (Dl F s c):=by
 unfold Dl;split
 .exact⟨h.len,h.v,h.used⟩
 .exact h
theorem JD(h:Dm L s):(Dz L x s).2<=L.length:=by
 unfold Dz;split
 .exact Nq h.used
 .exact h.used
theorem FV(h:Dm L s):(Cj L x s).2<=L.length:=by
 unfold Cj;split
 .exact Nq h.used
 .exact h.used
theorem Dm.asg(h:Dm L s)(hx:GI x):Dm L (IB F L x s):=by
 unfold IB;split
 .exact⟨h.len,h.v,JD h⟩
 .rename_i hn;refine Dm.lea ⟨?_,?_,?_⟩ 0
  .simp only[b8];exact h.len
  .intro i;have:=hx.tg;have hl:=h.len;rw[GY _ _ _ _ (by omega)];split
   .omega
   .exact h.v i
  .exact JD h
theorem Dm.ast(h:Dm L s):Dm L (Kw F L x s):=by
 unfold Kw;split
 .exact Dm.lea (s:=⟨(Cj L x s).2,s.st,s.pt,s.v⟩) ⟨h.len,h.v,FV h⟩ 0
 .exact⟨h.len,h.v,FV h⟩
theorem Dm.bra(h:Dm L s):Dm L (Jz F L x s):=Dm.lea (s:=⟨(Cj L x s).2,s.st,s.pt,s.v⟩) ⟨h.len,h.v,FV h⟩ _
theorem Dm.stp(h:Dm L s)(f:∀(k:Nat)(x:Ds),F[k]?=some x->GI x):Dm L (GG F L s):=by
 unfold GG;split
 .exact h
 .rename_i hn;have hk:s.pt.toNat<F.length:=by omega
  have hx:GI (F.getD s.pt.toNat (AC 0 0)):=f s.pt.toNat _ (by rw[bG,bP hk];rfl);split
  .exact h.asg hx
  split
  .exact h.ast
  .exact h.bra
theorem O3(p b fr:Int):∀(l:List Ds)(i:Nat),CR p b fr l i= -1\/((i:Int)<=CR p b fr l i/\CR p b fr l i<((i+l.length:Nat):Int)):=by
 intro l;induction l with
 |nil=>intro i;exact .inl rfl
 |cons y l ih=>
  intro i;rw[CR];split
  .right;simp only[db];omega
  .rcases ih (i+1)with h|h
   .exact .inl h
   .right;simp only[db];omega
theorem Ld(p b fr:Int)(h:Bu F p b fr≠ -1):0<=Bu F p b fr/\Bu F p b fr<F.length:=by
 rcases O3 p b fr F 0 with e|e
 .exact absurd e h
 .unfold Bu;omega
theorem KD:∀(n:Nat)(pt:Int),0<=BX F n pt/\BX F n pt<=F.length:=by
 intro n;induction n with
 |zero=>intro pt;unfold BX;omega
 |succ n ih=>
  intro pt;rw[BX];split
  .omega
  split
  .rename_i h;have:=Ld _ _ _ h;omega
  split
  .rename_i h;unfold DU at h;simp only[cA,cD]at h;omega
  .exact ih _
theorem Du(pt a:Int)(h:(Ap F pt a).2=0):0<=(Ap F pt a).1/\(Ap F pt a).1<=F.length:=by
 unfold Ap at h|-;by_cases h1:pt<0\/(F.length:Int)<=pt
 .rw[bA h1]at h;simp at h
 rw[a_ h1]at h|-;by_cases h2:a<0\/Ae (F.getD pt.toNat (AC 0 0)).kind<=a
 .rw[bA h2]at h;simp at h
 rw[a_ h2]at h|-;split
 .exact KD _ _
 split
 .rename_i h3;have:=Ld _ _ _ h3;simp only;omega
 split
 .simp only;omega
 .exact KD _ _
def Of(F:List Ds)(s:Ms):Prop:=s.st=0->0<=s.pt/\s.pt<F.length
theorem Of.ent(p:Int)(h0:0<=p)(h1:p<=F.length):Of F (FU F.length s p):=by
 intro h;unfold FU at h|-;simp only at h|-;split at h
 .cases h
 .omega
theorem Of.lea(h:Of F s)(a:Int):Of F (Dl F s a):=by
 unfold Dl;split
 .rename_i e;have:=Du s.pt a e;exact Of.ent _ this.1 this.2
 .exact h
theorem Of.stp(h:Of F s):Of F (GG F L s):=by
 unfold GG;split
 .exact h
 split
 .unfold IB;split
  .exact λe=>absurd e (by decide:¬(2:Int)=0)
  .refine Of.lea ?_ 0;exact h
 split
 .unfold Kw;split
  .refine Of.lea ?_ 0;exact h
  .exact λe=>absurd e (by decide:¬(3:Int)=0)
 .unfold Jz;refine Of.lea ?_ _;exact h
def EM(F:List Ds)(L:List Int)(c:Int):Ms:=Ka F L (min c.toNat 2000) (FU F.length ⟨0,0,0,[0,0,0,0]⟩ 0)
structure DQ(x:Ds):Prop where
 g:OY x
 len:x.sg.length=4
 tg:0<=x.target/\x.target<4
 kd:x.kind=0\/x.kind=1\/x.kind=2\/x.kind=3
 nz2:nz x.sg<=2
 fa:x.kind=0->nz x.sg<=1
 fc:x.kind≠0->x.any=true\/1<=nz x.sg
theorem JI{l:List Int}{m:Rd}{F:List Ds}(hp:AV l=some m)(U:Bj F m.st){k:Nat}(hk:k<F.length):DQ (F.getD k (AC 0 0)):=by
 have T:=EV hp U hk;have A:=Gb hp (show k<m.st.length by have:=U.1.len;omega);have I:=O8 T.2;obtain⟨-,c1,c2,c3,c4⟩:=id T.2;refine⟨T.1,by rw[<-c3];exact A.g.len,by rw[<-c1];exact⟨A.var.1,by have:=A.var.2;omega⟩,?_,by rw[<-c3];exact A.g.nz,λh=>by rw[<-c3];exact A.fq.1 (I.1 h),λh=>by rw[<-c3,<-c2];exact A.fq.2 (λz=>h (I.2 z))⟩;obtain⟨x,u,a0,c0,g,hx,hu,ab,ha,ae,ac,hC,hs,hr,af⟩:=U.at_ k hk;rw[CO hx];obtain⟨x',u',O,ah,_,_,_,_,Z⟩:=hs;rw[hx]at O;cases O
 rcases Z with⟨J,_⟩|⟨Y,_⟩|⟨X,_⟩
 .rcases J with e|e
  .exact .inl e
  .exact .inr (.inl e)
 .exact .inr (.inr (.inr Y))
 .exact .inr (.inr (.inl X))
def S1(s i:Nat):Int:=if s/2=i then(if s%2=0 then 1 else -1)else 0
def WO(l:List Int):Bool:=decide (2<nz l)||((List.range 4).all λi=>decide (AK l i=if CF l=C4 l then S1 (CF l) i else S1 (CF l) i+S1 (C4 l) i))&&(decide (1<nz l)||decide (CF l=C4 l)||decide (CF l=opp (C4 l)))
theorem Uq:(OO.all λa=>OO.all λb=>OO.all λc=>OO.all λd=>WO [a,b,c,d])=true:=by decide +kernel
theorem Q9{l:List Int}(C:l.length=4)(h:∀i, -1<=AK l i/\AK l i<=1):WO l=true:=by
 obtain⟨a,b,c,d,rfl⟩:=C0 C;have t:=Uq;simp only[List.all_eq_true]at t;exact t a (Ca (h 0)) b (Ca (h 1)) c (Ca (h 2)) d (Ca (h 3))
theorem Tu{l:List Int}(C:l.length=4)(h:∀i, -1<=AK l i/\AK l i<=1)(h1:nz l<=1):CF l=C4 l\/CF l=opp (C4 l):=by
 have t:=Q9 C h;unfold WO at t;rw[bT (by omega:¬2<nz l),Bool.false_or,cA,bT (by omega:¬1<nz l),Bool.false_or,cV]at t;exact t.2.imp ce ce
variable {M:Nat->Int}{v:List Int}
end Go.Proofs.YtffajooegiempaaGreatDoor
