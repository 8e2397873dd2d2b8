import Derived.Test.YtffajooegiempaaGreatDoorJ26
import Derived.Great.BuildSlice
set_option maxRecDepth 100000
set_option maxHeartbeats 6400000
namespace Go.Proofs.YtffajooegiempaaGreatDoor
open Go.RowKit
variable {s g:Nat}{w w':World}{pv:Value}{P:SS}{F:List Ds}
def PK(w:World)(s g:Nat)(pv:Value)(F:List Ds):Prop:=∃ao cap,pv=.slice ao F.length cap/\(F.length≠0->∃g0,ao=some ⟨g0,0,none⟩/\g0≠s/\g0≠g/\Cc w g0 F)
theorem PK.on(h:PK w s g pv F)(ho:D4 s g w w'):PK w' s g pv F:=by
 obtain⟨ao,cap,hv,h0⟩:=h;refine⟨ao,cap,hv,λhn=>?_⟩;obtain⟨g0,h1,h2,h3,h4⟩:=h0 hn;refine⟨g0,h1,h2,h3,Nat.lt_of_lt_of_le h4.1 ho.size,λj x hx=>?_⟩;have hc:∀o,w'.cell? ⟨g0,o,none⟩=w.cell? ⟨g0,o,none⟩:=λo=>ho.cell h4.1 h2 h3 o;have:=h4.2 j x hx;simp only[hc];exact this
theorem PK.keep(h:PK w s g pv F)(hb:Below w.heap.size w w'):PK w' s g pv F:=h.on (D4.of hb (Nat.le_refl _) s g)
structure FB(w wr:World)(s g B5 B6:Nat)(pv:Value)(F:List Ds)(e:Bool)(M:Nat->Int)(x:Ds)(P:SS):Prop where
 oa:AL wr B5 e M
 da:At wr B6 (AD x) BB
 st:Dg wr s g pv P
 pk:PK wr s g pv F
 on:D4 s g w wr
theorem FB.keep{wr w':World}{B5 B6:Nat}{e:Bool}{M:Nat->Int}{x:Ds}(h:FB w wr s g B5 B6 pv F e M x P)(hb:Below wr.heap.size wr w'):FB w w' s g B5 B6 pv F e M x P:=
 ⟨At.keep h.oa hb (At.lt h.oa),h.da.keep hb h.da.lt,h.st.keep hb,h.pk.keep hb,h.on.trans (D4.of hb (Nat.le_refl _) s g)⟩
theorem FB.step{wr w':World}{B5 B6:Nat}{e:Bool}{M:Nat->Int}{x:Ds}{P':SS}(h:FB w wr s g B5 B6 pv F e M x P)(ho:D4 s g wr w')(hs:Dg w' s g pv P')(h5:B5≠s/\B5≠g)(h6:B6≠s/\B6≠g):FB w w' s g B5 B6 pv F e M x P':=
 ⟨ho.at_ h.oa h5.1 h5.2,ho.at_ h.da h6.1 h6.2,hs,h.pk.on ho,h.on.trans ho⟩
theorem UT(h:Dg w s g pv P)(hK:PK w s g pv F)(hl:F.length<=20)(hpar:∀(k:Nat)(x:Ds),F[k]?=some x-> -1<=x.parent/\x.parent<(k:Int))(k:Nat)(e:Bool)(M:Nat->Int)
  (hx:k<F.length->OY (F.getD k (AC 0 0))/\0<=(F.getD k (AC 0 0)).target/\(F.getD k (AC 0 0)).target<4) (hM:∀j,j<64-> -20000000000<=M j/\M j<=1000000) (hS:e=false->Sh M):
  Calls Tryz.prog 86 #[.pointer (some ⟨s,0,none⟩),.int .i64 (k:Int),.agg (oc e M)] w λx w'=>x=.returned (.tuple #[])/\Dg w' s g pv (Dp F k e M P)/\D4 s g w w':=by
 have hb1:Below w.heap.size w (w.alloc (.cells (oc e M) tO)):=(Below.refl _ _).alloc (Nat.le_refl _) _;have hsl:=h.sa.lt;have hgl:=h.glt;have H1:Hid (Dg (w.alloc (.cells (oc e M) tO)) s g pv P/\AL (w.alloc (.cells (oc e M) tO)) w.heap.size e M/\Below w.heap.size w (w.alloc (.cells (oc e M) tO))/\PK (w.alloc (.cells (oc e M) tO)) s g pv F):=⟨h.keep hb1,At.new _ _ _,hb1,hK.keep hb1⟩
 have cp:(w.alloc (.cells (oc e M) tO)).cell? ⟨s,0,none⟩=some pv:=H1.out.1.sa.cell 0;obtain⟨ao,cap,hpv,hrow⟩:=id hK;by_cases hk:k<F.length
 case neg=>
  have HE:Hid (Dp F k e M P=P):=if_neg hk;have HAt:Hid (∀w1,Calls Tryz.prog 81 #[.agg #[pv],.int .i64 (k:Int)] w1 λx w'=>x=.returned (.tuple #[B0 EI,.int .i64 2])/\Below w1.heap.size w1 w'):=λw1=>by rw[hpv];exact IJ ao F.length hl (k:Int) (.inr (by omega))
  unfold B0 EI AC at HAt;clear hrow hpv hK h hb1 hx hM hS;go_enter Tryz.func86,Tryz.ntmps86;go_wp2_with fail;refine(HAt.out _).mono ?_;rintro x w2 ⟨rfl,hb2⟩;have H2:Hid (Dg w2 s g pv P/\Below w.heap.size w w2):=⟨H1.out.1.keep hb2,H1.out.2.2.1.trans (hb2.mono (by simp))⟩
  clear hb2;go_wp2_with fail;try simp only[Exit.inBlock,Exit.then]
  refine bodyPost_ret (results_none rfl _ _ _) rfl ?_;exact⟨rfl,by rw[HE.out];exact H2.out.1.keep ((Below.refl _ _).alloc (Nat.le_refl _) _),D4.of (H2.out.2.alloc H2.out.2.size _) (Nat.le_refl _) _ _⟩
 obtain⟨g0,hao,hg1,hg2,hP⟩:=hrow (by omega);have hx:=hx hk;have HAt:Hid (∀w1,PK w1 s g pv F->Calls Tryz.prog 81 #[.agg #[pv],.int .i64 (k:Int)] w1 λe w'=>e=.returned (.tuple #[B0 (F.getD k (AC 0 0)),.int .i64 0])/\Below w1.heap.size w1 w'):=λw1 hp=>by
  obtain⟨ao,cap,e1,h2⟩:=hp;obtain⟨g1,e2,_,_,h3⟩:=h2 (by omega);rw[e1,e2];exact Fm h3 k hk
 have HNx:Hid (∀w1 (way:Nat),(way:Int)<Ae (F.getD k (AC 0 0)).kind->PK w1 s g pv F->Calls Tryz.prog 68 #[.agg #[pv],.int .i64 (k:Int),.int .i64 (way:Int)] w1 λe w'=>e=.returned (.tuple #[.int .i64 (Ap F k way).1,.int .i64 0])/\Below w1.heap.size w1 w'):=λw1 way hw hp=>by
  obtain⟨ao,cap,e1,h2⟩:=hp;obtain⟨g1,e2,_,_,h3⟩:=h2 (by omega);rw[e1,e2];have:=Gj (cap:=cap) h3 hl hpar k hk (way:Int);unfold Pw at this;rw[Fv F k hk way hw]at this;exact this
 have HSf:Hid (∀w1,Calls Tryz.prog 82 #[B0 (F.getD k (AC 0 0)),.agg (oc e M)] w1 λx w'=>x=.returned (.bool (DF e M (F.getD k (AC 0 0))))/\Below w1.heap.size w1 w'):=λw1=>O1 _ hx.1 (λj hj=>by have:=hM j hj;omega);have HPo:Hid (∀w1 (way:Nat),Calls Tryz.prog 80 #[B0 (F.getD k (AC 0 0)),.int .i64 (way:Int),.agg (oc e M)] w1 λx w'=>x=.returned (.agg (oc (CA e M (F.getD k (AC 0 0)) way) (CE e M (F.getD k (AC 0 0)) way)))/\Below w1.heap.size w1 w'):=λw1 way=>O0 _ hx.1 hx.2 (way:Int) hM hS;have HCl:Hid (∀w1 P pt e M,Dg w1 s g pv P->Calls Tryz.prog 53 #[.pointer (some ⟨s,0,none⟩),.int .i64 pt,.agg (oc e M)] w1 λx w'=>x=.returned (.tuple #[])/\Dg w' s g pv (DR P pt e M)/\D4 s g w1 w'):=λw1 P pt e M h=>Q4 h pt e M;have HC:Hid (Dp F k e M P=if DF e M (F.getD k (AC 0 0))=true then GH F k e M P (Ae (F.getD k (AC 0 0)).kind).toNat else P):=if_pos hk;have HWs:Hid (∀i:Nat,GH F k e M P (i+1)=DR (GH F k e M P i) (Ap F k i).1 (CA e M (F.getD k (AC 0 0)) i) (CE e M (F.getD k (AC 0 0)) i)):=λi=>rfl;have HW0:Hid (GH F k e M P 0=P):=rfl;clear hP hl hpar hx hM hS hK h hrow hb1 hao hpv;generalize GH F k e M P=ws at *;generalize F.getD k (AC 0 0)=x at *;have hwr:=D1 x.kind;obtain⟨n,hn⟩:∃n:Nat,Ae x.kind=(n:Int):=⟨(Ae x.kind).toNat,by omega⟩
 have HW:Hid (∀w1,Calls Tryz.prog 111 #[B0 x] w1 λe w'=>e=.returned (.int .i64 (n:Int))/\Below w1.heap.size w1 w'):=λw1=>by
  rw[<-hn];exact(MM _ _ _ _ _ _ _ _ _ _ w1).mono λe w' ⟨h1,o,h2⟩=>⟨h1,by rw[h2];exact(Below.refl _ _).alloc (Nat.le_refl _) _⟩
 rw[hn]at HC HNx;rw[Int.toNat_natCast]at HC;unfold B0 at HAt HSf HPo HW;have hn2:n<=2:=by omega
 clear hwr hn;have hz:=Bn;go_enter Tryz.func86,Tryz.ntmps86;go_wp2_with fail;refine(HAt.out _ H1.out.2.2.2).mono ?_;rintro y w1 ⟨rfl,hb1⟩;have hs1:w.heap.size+1<=w1.heap.size:=by have:=hb1.size;simpa using this
 have H2:Hid (FB w (w1.alloc (.cells (AD x) BB)) s g w.heap.size w1.heap.size pv F e M x P):=by
  have hB:Below w.heap.size w w1:=H1.out.2.2.1.trans (hb1.mono (by simp));have hb2:Below w1.heap.size w1 (w1.alloc (.cells (AD x) BB)):=(Below.refl _ _).alloc (Nat.le_refl _) _;have ho:AL w1 w.heap.size e M:=At.keep H1.out.2.1 hb1 (by simp);exact⟨At.keep ho hb2 (At.lt ho),At.new _ _ _,(H1.out.1.keep hb1).keep hb2,(H1.out.2.2.2.keep hb1).keep hb2,D4.of (hB.trans (hb2.mono hB.size)) (Nat.le_refl _) s g⟩
 clear hb1 H1 cp;obtain⟨w2,hw2⟩:∃w2,w2=w1.alloc (.cells (AD x) BB):=⟨_,rfl⟩
 have y0:(w1.alloc (.cells (AD x) BB)).cell? ⟨w1.heap.size,0,none⟩=some (.int .i64 x.kind):=(H2.out.da).cell 0;have y1:(w1.alloc (.cells (AD x) BB)).cell? ⟨w1.heap.size,1,none⟩=some (.int .i64 x.target):=(H2.out.da).cell 1;have y2:(w1.alloc (.cells (AD x) BB)).cell? ⟨w1.heap.size,2,none⟩=some (.bool x.any):=(H2.out.da).cell 2;have y3:(w1.alloc (.cells (AD x) BB)).cell? ⟨w1.heap.size,3,none⟩=some (.int .i64 (AB x.sg 0)):=(H2.out.da).cell 3;have y4:(w1.alloc (.cells (AD x) BB)).cell? ⟨w1.heap.size,4,none⟩=some (.int .i64 (AB x.sg 1)):=(H2.out.da).cell 4;have y5:(w1.alloc (.cells (AD x) BB)).cell? ⟨w1.heap.size,5,none⟩=some (.int .i64 (AB x.sg 2)):=(H2.out.da).cell 5;have y6:(w1.alloc (.cells (AD x) BB)).cell? ⟨w1.heap.size,6,none⟩=some (.int .i64 (AB x.sg 3)):=(H2.out.da).cell 6;have y7:(w1.alloc (.cells (AD x) BB)).cell? ⟨w1.heap.size,7,none⟩=some (.int .i64 x.num):=(H2.out.da).cell 7;have y8:(w1.alloc (.cells (AD x) BB)).cell? ⟨w1.heap.size,8,none⟩=some (.int .i64 x.parent):=(H2.out.da).cell 8;have y9:(w1.alloc (.cells (AD x) BB)).cell? ⟨w1.heap.size,9,none⟩=some (.int .i64 x.block):=(H2.out.da).cell 9;go_wp2_with (refine AH rfl (.tmp 5) rfl rfl H2.out.oa ?_);refine(HSf.out _).mono ?_;rintro y w3 ⟨rfl,hb3⟩;have h56:(w.heap.size≠s/\w.heap.size≠g)/\(w1.heap.size≠s/\w1.heap.size≠g):=⟨⟨by omega,by omega⟩,⟨by omega,by omega⟩⟩
 have H3:Hid (FB w w3 s g w.heap.size w1.heap.size pv F e M x P):=H2.out.keep hb3;have H56:Hid ((w.heap.size≠s/\w.heap.size≠g)/\(w1.heap.size≠s/\w1.heap.size≠g)):=h56;clear hb3 HSf y0 y1 y2 y3 y4 y5 y6 y7 y8 y9 H2 hw2 w2 h56;cases hsf:DF e M x with
 |false=>
  have HE:Hid (Dp F k e M P=P):=by show _=_;rw[HC.out,if_neg (by rw[hsf];decide)]
  clear hsf;go_wp2_with fail;try simp only[Exit.inBlock,Exit.then]
  refine bodyPost_ret (results_none rfl _ _ _) rfl ?_;exact⟨rfl,by rw[HE.out];exact H3.out.st,H3.out.on⟩
 |true=>
  have HE:Hid (Dp F k e M P=ws n):=by show _=_;rw[HC.out,if_pos hsf]
  clear hsf HC;go_wp2_with fail;go_loopw [8] (λiv wr=>∃i:Nat,i<=n/\iv=.int .i64 (i:Int)/\Hid (FB w wr s g w.heap.size w1.heap.size pv F e M x (ws i))) (λiv _=>n-(intOf iv).toNat);case atStart=>exact⟨0,by omega,rfl,by rw[HW0.out];exact H3.out⟩
  case round=>
   obtain⟨i,hi,rfl,HR⟩:=hrel;have y0:wr.cell? ⟨w1.heap.size,0,none⟩=some (.int .i64 x.kind):=(HR.out.da).cell 0;have y1:wr.cell? ⟨w1.heap.size,1,none⟩=some (.int .i64 x.target):=(HR.out.da).cell 1;have y2:wr.cell? ⟨w1.heap.size,2,none⟩=some (.bool x.any):=(HR.out.da).cell 2;have y3:wr.cell? ⟨w1.heap.size,3,none⟩=some (.int .i64 (AB x.sg 0)):=(HR.out.da).cell 3;have y4:wr.cell? ⟨w1.heap.size,4,none⟩=some (.int .i64 (AB x.sg 1)):=(HR.out.da).cell 4;have y5:wr.cell? ⟨w1.heap.size,5,none⟩=some (.int .i64 (AB x.sg 2)):=(HR.out.da).cell 5;have y6:wr.cell? ⟨w1.heap.size,6,none⟩=some (.int .i64 (AB x.sg 3)):=(HR.out.da).cell 6;have y7:wr.cell? ⟨w1.heap.size,7,none⟩=some (.int .i64 x.num):=(HR.out.da).cell 7;have y8:wr.cell? ⟨w1.heap.size,8,none⟩=some (.int .i64 x.parent):=(HR.out.da).cell 8;have y9:wr.cell? ⟨w1.heap.size,9,none⟩=some (.int .i64 x.block):=(HR.out.da).cell 9;have hl7:=HR.out.da.lt;go_wp2_with fail;refine(HW.out wr).mono ?_;rintro y w5 ⟨rfl,hb5⟩;have H5:Hid (FB w w5 s g w.heap.size w1.heap.size pv F e M x (ws i)):=HR.out.keep hb5;clear hb5 y0 y1 y2 y3 y4 y5 y6 y7 y8 y9 hl7;by_cases hin:i<n
   ·have hii:(i:Int)<(n:Int):=by omega
    have c3:w5.cell? ⟨s,0,none⟩=some pv:=H5.out.st.sa.cell 0;have l3:=H5.out.st.sa.lt;have hnx:=HNx.out w5 i hii H5.out.pk;have HWi:Hid (ws (i+1)=DR (ws i) (Ap F k i).1 (CA e M x i) (CE e M x i)):=HWs.out i;generalize(Ap F k i).1=q at *;have HPi:Hid _:=λw1=>HPo.out w1 i;generalize CA e M x i=e4 at *;generalize CE e M x i=M4 at *;go_wp2_with fail;refine hnx.mono ?_;rintro y w6 ⟨rfl,hb6⟩;have H6:Hid (FB w w6 s g w.heap.size w1.heap.size pv F e M x (ws i)):=H5.out.keep hb6;clear hb6 hnx c3 l3;have y0:w6.cell? ⟨w1.heap.size,0,none⟩=some (.int .i64 x.kind):=(H6.out.da).cell 0;have y1:w6.cell? ⟨w1.heap.size,1,none⟩=some (.int .i64 x.target):=(H6.out.da).cell 1;have y2:w6.cell? ⟨w1.heap.size,2,none⟩=some (.bool x.any):=(H6.out.da).cell 2;have y3:w6.cell? ⟨w1.heap.size,3,none⟩=some (.int .i64 (AB x.sg 0)):=(H6.out.da).cell 3;have y4:w6.cell? ⟨w1.heap.size,4,none⟩=some (.int .i64 (AB x.sg 1)):=(H6.out.da).cell 4;have y5:w6.cell? ⟨w1.heap.size,5,none⟩=some (.int .i64 (AB x.sg 2)):=(H6.out.da).cell 5;have y6:w6.cell? ⟨w1.heap.size,6,none⟩=some (.int .i64 (AB x.sg 3)):=(H6.out.da).cell 6;have y7:w6.cell? ⟨w1.heap.size,7,none⟩=some (.int .i64 x.num):=(H6.out.da).cell 7;have y8:w6.cell? ⟨w1.heap.size,8,none⟩=some (.int .i64 x.parent):=(H6.out.da).cell 8;have y9:w6.cell? ⟨w1.heap.size,9,none⟩=some (.int .i64 x.block):=(H6.out.da).cell 9;go_wp2_with (refine AH rfl (.tmp 5) rfl rfl H6.out.oa ?_);refine(HPi.out w6).mono ?_;rintro y w7 ⟨rfl,hb7⟩;obtain⟨w8,hst8,hat8,hb8,hs8⟩:=Bb w7 e4 M4;have H8:Hid (AL w8 w7.heap.size e4 M4/\FB w w8 s g w.heap.size w1.heap.size pv F e M x (ws i)):=⟨hat8,(H6.out.keep hb7).keep hb8⟩
    clear hb7 hat8 hb8 y0 y1 y2 y3 y4 y5 y6 y7 y8 y9;go_wp2_with (refine AH rfl (.tmp 11) rfl rfl H8.out.1 ?_);refine(HCl.out w8 (ws i) q e4 M4 H8.out.2.st).mono ?_;rintro y w9 ⟨rfl,hst9,hon9⟩;have H9:Hid (FB w w9 s g w.heap.size w1.heap.size pv F e M x (ws (i+1))):=H8.out.2.step hon9 (by rw[HWi.out];exact hst9) H56.out.1 H56.out.2;clear hst9 hon9;go_wp2_with fail;go_roundw;case rel=>exact⟨i+1,by omega,by go_num,H9.out⟩
    case measure=>simp[intOf];omega
   ·have hie:i=n:=by omega
    subst hie;go_wp2_with fail
    go_end0
    exact⟨rfl,by rw[HE.out];exact H5.out.st,H5.out.on⟩
def Er(p:Pl):Array Value:=(Fy p).toArray
theorem Es(p:Pl):(Er p).size=66:=by simp[Er,FF]
theorem Qx(p:Pl):∀v,v∈Fy p->v.oneCell'=true:=by
 intro v hv;unfold Fy at hv;rcases List.mem_append.1 hv with q|q
 ·exact Hr p.e p.M v q
 ·rw[List.mem_singleton.1 q];rfl
theorem Qw(w:World):(zeroValue 128).run Tryz.prog w=.ok (.agg (Er ⟨false,λ_=>0,false⟩)) w:=by kernel_rfl
theorem WA:∃i0,Tryz.prog.info? 128=some i0/\i0.size=66:=by
 obtain⟨i0,hi,hz0,hz1,hz2⟩:=info_parts (P:=Tryz.prog) (e:=128) (z:=.agg (Er ⟨false,λ_=>0,false⟩)) (size:=66) (bytes:=528) (by kernel_rfl);exact⟨i0,hi,hz1⟩
theorem Qv(p:Pl):(Tryz.prog.info? 128).map (·.size)=some (Fy p).length:=by
 obtain⟨i0,hi,hz1⟩:=WA;simp[hi,hz1,FF]
theorem N4(w1:World)(p:Pl):∃w2,(storeCells ⟨w1.heap.size,0,none⟩ (Fy p)).run Tryz.prog (w1.alloc (.cells (Er ⟨false,λ_=>0,false⟩) OR))=.ok () w2/\At w2 w1.heap.size (Er p) OR/\Below w1.heap.size w1 w2/\w1.heap.size<w2.heap.size:=by
 have h0:At (w1.alloc (.cells (Er ⟨false,λ_=>0,false⟩) OR)) w1.heap.size (Er ⟨false,λ_=>0,false⟩) OR:=At.new _ _ _;have hr:=run_storeCells_at Tryz.prog w1.heap.size 0 OR (Fy p) 0 (Er ⟨false,λ_=>0,false⟩) _ h0 (by rw[FF,Es];omega) (Qx p);have h1:=setRow_heap _ w1.heap.size (Er ⟨false,λ_=>0,false⟩) ((Er ⟨false,λ_=>0,false⟩).toList.take (0+0)++Fy p++(Er ⟨false,λ_=>0,false⟩).toList.drop (0+0+(Fy p).length)).toArray OR (0,0) h0;have e1:((Er ⟨false,λ_=>0,false⟩).toList.take (0+0)++Fy p++(Er ⟨false,λ_=>0,false⟩).toList.drop (0+0+(Fy p).length)).toArray=Er p:=by
  rw[List.drop_of_length_le (by rw[FF];simp[Es])];simp[Er]
 rw[e1]at h1;refine⟨_,hr,by rw[e1];exact h1,?_,?_⟩
 ·have hon:BC w1.heap.size (w1.alloc (.cells (Er ⟨false,λ_=>0,false⟩) OR)) ((w1.alloc (.cells (Er ⟨false,λ_=>0,false⟩) OR)).setRow w1.heap.size ((Er ⟨false,λ_=>0,false⟩).toList.take (0+0)++Fy p++(Er ⟨false,λ_=>0,false⟩).toList.drop (0+0+(Fy p).length)).toArray):=⟨rfl,rfl,rfl,by simp[World.setRow],λk _ hk=>setRow_other _ _ k _ (λe=>hk e)⟩
  exact((Below.refl _ _).alloc (Nat.le_refl _) _).trans (hon.below (Nat.le_refl _) (by simp))
 ·simp[World.setRow]
def Ym(p:Pl):Prop:=(∀j,j<64-> -20000000000<=p.M j/\p.M j<=1000000)/\(p.e=false->Sh p.M)
theorem Ry(h:Dg w s g pv P)(hP21:P.1.length<=21)(hK:PK w s g pv F)(hl:F.length<=20)(hpar:∀(k:Nat)(x:Ds),F[k]?=some x-> -1<=x.parent/\x.parent<(k:Int))
  (hx:∀k,k<F.length->OY (F.getD k (AC 0 0))/\0<=(F.getD k (AC 0 0)).target/\(F.getD k (AC 0 0)).target<4) (hR:∀k,k<P.1.length->Ym ((C3 F P k).1.getD k p0)):
  Calls Tryz.prog 54 #[.pointer (some ⟨s,0,none⟩)] w λx w'=>x=.returned (.tuple #[])/\Dg w' s g pv (C3 F P P.1.length)/\D4 s g w w':=by
 obtain⟨z0,hz0⟩:∃z0:Pl,z0=⟨false,λ_=>0,false⟩:=⟨_,rfl⟩
 have hz:∀w,(zeroValue 128).run Tryz.prog w=.ok (.agg (Er z0)) w:=by rw[hz0];exact Qw
 have HFr:Hid (∀(w1:World)(p:Pl),∃w2,(storeCells ⟨w1.heap.size,0,none⟩ (Fy p)).run Tryz.prog (w1.alloc (.cells (Er z0) 128))=.ok () w2/\At w2 w1.heap.size (Er p) OR/\Below w1.heap.size w1 w2/\w1.heap.size<w2.heap.size):=by rw[hz0];exact N4
 have hz3:(Er z0).size=66:=Es z0;have hz4:¬Er z0=#[]:=λh=>by have:=congrArg Array.size h;rw[Es]at this;simp at this
 clear hz0;have HFo:Hid (∀w1 P' k e M,Dg w1 s g pv P'->PK w1 s g pv F->Ym ⟨e,M,false⟩->Calls Tryz.prog 86 #[.pointer (some ⟨s,0,none⟩),.int .i64 ((k:Nat):Int),.agg (oc e M)] w1 λx w'=>x=.returned (.tuple #[])/\Dg w' s g pv (Dp F k e M P')/\D4 s g w1 w'):=λw1 P' k e M h1 h2 h3=>UT h1 h2 hl hpar k e M (hx k) h3.1 h3.2;have HR:Hid (∀k,k<P.1.length->Ym ⟨((C3 F P k).1.getD k p0).e,((C3 F P k).1.getD k p0).M,false⟩):=λk hk=>hR k hk;have HLn:Hid (∀i,(C3 F P i).1.length=P.1.length):=λi=>DD F P i;have HPn:Hid (∀i:Nat,C3 F P (i+1)=if((C3 F P i).1.getD i p0).wt=true then Dp F i ((C3 F P i).1.getD i p0).e ((C3 F P i).1.getD i p0).M ((C3 F P i).1.set i ⟨((C3 F P i).1.getD i p0).e,((C3 F P i).1.getD i p0).M,false⟩,(C3 F P i).2)else C3 F P i):=λi=>rfl;have H0:Hid (Dg (w.setCell ⟨s,2,none⟩ (.bool false)) s g pv (C3 F P 0)/\PK (w.setCell ⟨s,2,none⟩ (.bool false)) s g pv F/\D4 s g w (w.setCell ⟨s,2,none⟩ (.bool false))):=by
  have hon:=(D4.refl s g w).setCell (q:=s) (.inl rfl) 2 (.bool false);exact⟨h.setG false,hK.on hon,hon⟩
 have hsl:=h.sa.lt;have hgl:=h.glt;have hne:=h.ne;have cg:w.cell? ⟨s,2,none⟩=some (.bool P.2):=h.sa.cell 2;have cf:=h.sa.free;have HSz:Hid (∀w1,D4 s g w w1->w.heap.size<=w1.heap.size):=λw1 h1=>h1.size;clear h hK hR hx hpar;generalize P.1.length=n at *;generalize C3 F P=rs at *;go_enter Tryz.func54,Tryz.ntmps54;go_wp2_with fail;go_loopw [2] (λiv wr=>∃i:Nat,i<=n/\iv=.int .i64 (i:Int)/\Hid (Dg wr s g pv (rs i)/\PK wr s g pv F/\D4 s g w wr)) (λiv _=>n-(intOf iv).toNat);case atStart=>exact⟨0,by omega,rfl,H0.out⟩
 case round=>
  obtain⟨i,hi,rfl,HQ⟩:=hrel;have c1:wr.cell? ⟨s,1,none⟩=some (.slice (some ⟨g,0,none⟩) n 21):=by
   have:=HQ.out.1.sa.cell 1;rw[this];show some (Value.slice (some ⟨g,0,none⟩) (rs i).1.length 21)=_;rw[HLn.out i]
  have hsz:=HSz.out wr HQ.out.2.2;by_cases hin:i<n
  ·have hii:(i:Int)<(n:Int):=by omega
   have hi0:(0:Int)<=(i:Int):=Int.natCast_nonneg _;have hil:i<(rs i).1.length:=by rw[HLn.out i];exact hin
   have HRow:Hid (wr.rangeAt g (i*66) (Fy ((rs i).1.getD i p0))):=HQ.out.1.row hil;have HPi:=HPn.out i;have HPi:Hid (rs (i+1)=if((rs i).1.getD i p0).wt=true then Dp F i ((rs i).1.getD i p0).e ((rs i).1.getD i p0).M ((rs i).1.set i ⟨((rs i).1.getD i p0).e,((rs i).1.getD i p0).M,false⟩,(rs i).2)else rs i):=HPi;have HRi:Hid (Ym ⟨((rs i).1.getD i p0).e,((rs i).1.getD i p0).M,false⟩):=HR.out i hin;have HSW:Hid (∀w1,Dg w1 s g pv (rs i)->Dg (w1.setCell ⟨g,i*66+65,none⟩ (.bool false)) s g pv ((rs i).1.set i ⟨((rs i).1.getD i p0).e,((rs i).1.getD i p0).M,false⟩,(rs i).2)):=λw1 h1=>h1.setW hil false;have HCw:Hid (∀w1,Dg w1 s g pv (rs i)->w1.cell? ⟨s,1,none⟩=some (.slice (some ⟨g,0,none⟩) n 21)/\w1.cell? ⟨g,i*66+65,none⟩=some (.bool ((rs i).1.getD i p0).wt)/\w1.frozen? ⟨g,i*66+65,none⟩=false):=λw1 h1=>by
    obtain⟨C,hC,_⟩:=h1.ga;refine⟨?_,(h1.pl i 65 hil (by omega)).trans (Ht _),hC.free _⟩;rw[h1.sa.cell 1];show some (Value.slice (some ⟨g,0,none⟩) (rs i).1.length 21)=_;rw[HLn.out i]
   have hps:=Qv ((rs i).1.getD i p0);obtain⟨w2,hst2,hat2,hb2,hs2⟩:=HFr.out wr ((rs i).1.getD i p0);have H2:Hid (Dg w2 s g pv (rs i)/\PK w2 s g pv F/\D4 s g w w2/\At w2 wr.heap.size (Er ((rs i).1.getD i p0)) OR):=⟨HQ.out.1.keep hb2,HQ.out.2.1.keep hb2,HQ.out.2.2.trans (D4.of hb2 (Nat.le_refl _) s g),hat2⟩
   clear hat2 hb2 hil;generalize(rs i).1.getD i p0=p at *;have cw:w2.cell? ⟨wr.heap.size,65,none⟩=some (.bool p.wt):=by
    rw[H2.out.2.2.2.cell];show(Fy p).toArray[65]?=_;rw[List.getElem?_toArray];exact Ht p
   have HOc:Hid (∀w1,At w1 wr.heap.size (Er p) OR->w1.rangeAt wr.heap.size 0 (oc p.e p.M).toList):=λw1 h1 j v hv=>by
    have hj:j<65:=by
     rcases Nat.lt_or_ge j 65 with q|q
     ·exact q
     ·rw[List.getElem?_eq_none (by simp[Am];omega)]at hv;cases hv
    rw[Nat.zero_add,h1.cell];show(Fy p).toArray[j]?=_;rw[List.getElem?_toArray,I6 p hj,<-Array.getElem?_toList];exact hv
   have hlo:(Tryz.prog.info? 90).map (·.size)=some (oc p.e p.M).toList.length:=by
    obtain⟨i0,hi,hz1⟩:=KM;have hi':Tryz.prog.info? 90=some i0:=hi;simp[hi',hz1,Am]
   obtain⟨d1,d2,d3⟩:=HCw.out w2 H2.out.1;have hg2:g<w2.heap.size:=H2.out.1.glt;cases hwt:p.wt with
   |false=>
    have HE:Hid (rs (i+1)=rs i):=HPi.out.trans (if_neg (by rw[hwt];decide));rw[hwt]at cw;clear hwt;go_wp2_with (refine wpList_load_mid rfl 128 (.tmp 21) rfl g (i*66) rfl (Fy p) _ HRow.out Tryz.underlying128 rfl hps ?_);go_roundw;case rel=>exact⟨i+1,by omega,by go_num,by rw[HE.out];exact H2.out.1,H2.out.2.1,H2.out.2.2.1⟩
    case measure=>simp[intOf];omega
   |true=>
    have HE:Hid (rs (i+1)=Dp F i p.e p.M ((rs i).1.set i ⟨p.e,p.M,false⟩,(rs i).2)):=HPi.out.trans (if_pos hwt);have H3:Hid (Dg (w2.setCell ⟨g,i*66+65,none⟩ (.bool false)) s g pv ((rs i).1.set i ⟨p.e,p.M,false⟩,(rs i).2)/\PK (w2.setCell ⟨g,i*66+65,none⟩ (.bool false)) s g pv F/\D4 s g w (w2.setCell ⟨g,i*66+65,none⟩ (.bool false))/\At (w2.setCell ⟨g,i*66+65,none⟩ (.bool false)) wr.heap.size (Er p) OR):=by
     have hon:=(D4.refl s g w2).setCell (q:=g) (.inr rfl) (i*66+65) (.bool false);exact⟨HSW.out w2 H2.out.1,H2.out.2.1.on hon,H2.out.2.2.1.trans hon,H2.out.2.2.2.other _ _ (by omega)⟩
    have HO3:Hid ((w2.setCell ⟨g,i*66+65,none⟩ (.bool false)).rangeAt wr.heap.size 0 (oc p.e p.M).toList):=HOc.out _ H3.out.2.2.2;rw[hwt]at cw d2;clear hwt;go_wp2_with (first|refine wpList_load_mid rfl 128 (.tmp 21) rfl g (i*66) rfl (Fy p) _ HRow.out Tryz.underlying128 rfl hps ?_|refine wpList_load_mid rfl 90 (.tmp 34) rfl wr.heap.size 0 rfl (oc p.e p.M).toList _ HO3.out Tryz.underlying90 rfl hlo ?_);refine(HFo.out _ _ i p.e p.M H3.out.1 H3.out.2.1 HRi.out).mono ?_;rintro x w4 ⟨rfl,hst4,hon4⟩;have H4:Hid (Dg w4 s g pv (rs (i+1))/\PK w4 s g pv F/\D4 s g w w4):=⟨by rw[HE.out];exact hst4,H3.out.2.1.on hon4,H3.out.2.2.1.trans hon4⟩
    clear hst4 hon4;go_wp2_with fail;go_roundw;case rel=>exact⟨i+1,by omega,by go_num,H4.out⟩
    case measure=>simp[intOf];omega
  ·have hie:i=n:=by omega
   subst hie;go_wp2_with fail
   go_end0
   exact⟨rfl,HQ.out.1,HQ.out.2.2⟩
end Go.Proofs.YtffajooegiempaaGreatDoor
namespace Go.Proofs.YtffajooegiempaaGreatDoor
open Go.RowKit
variable {w:World}
theorem Iq{P:Program}{ops:Array Oper}{rest:List Oper}{o:Oper}{a:Act}{Q:Exit->Act->World->Prop}(hg:o.guard=none)(t:TypeId)(parts:Array (Nat×Operand))(ho:o.op=.build t parts)(cells:Array Value)
  (hc:P.built t (parts.map λ(i,x)=>(i,a.eval x)).toList=some cells) (h:wpList P ops Q rest (a.put o.dst (.agg cells)) w):wpList P ops Q (o::rest) a w:=
 wpList_build hg t parts ho (by rw[hc];rfl) (by rw[hc];exact h)
theorem Xw:Tryz.prog.built 90 [(0,.bool true)]=some (oc true λ_=>0):=by kernel_rfl
theorem ZC:Tryz.prog.built 128 [(0,.agg (oc true λ_=>0))]=some (Er p0):=by kernel_rfl
theorem Vz:Instr.fill (λi=>some (i*66,66)) ((Array.range (1*66)).map ((Value.agg (Er ⟨false,λ_=>0,false⟩)).cells[·%(Value.agg (Er ⟨false,λ_=>0,false⟩)).cells.size]!)) [(0,.agg (Er p0))]=some (Er p0):=by kernel_rfl
theorem KQ:∃i0,Tryz.prog.info? 128=some i0/\i0.zero=some (.agg (Er ⟨false,λ_=>0,false⟩))/\i0.size=66/\i0.bytes=528:=info_parts (P:=Tryz.prog) (e:=128) (z:=.agg (Er ⟨false,λ_=>0,false⟩)) (size:=66) (bytes:=528) (by kernel_rfl)
theorem OW{ops:Array Oper}{rest:List Oper}{o:Oper}{a:Act}{Q:Exit->Act->World->Prop}(hg:o.guard=none)(x:Operand)(ho:o.op=.buildSlice 83 1 #[(0,x)])(hx:a.eval x=.agg (Er p0))
  (h:wpList Tryz.prog ops Q rest (a.put o.dst (.slice (some ⟨w.heap.size,0,none⟩) 1 1)) (w.alloc (.cells (Er p0) 128))):wpList Tryz.prog ops Q (o::rest) a w:=by
 obtain⟨i0,hi,hz0,hz1,hz2⟩:=KQ;refine wpList_buildSlice hg 83 128 1 _ ho (Er p0) i0 _ Tryz.underlying83 hi hz0 (by rw[hz1];decide) (by rw[hz1];decide) ?_ h;rw[hz1];have:=Vz;simpa[hx]using this
theorem Rj:∃zs:Array Value,zs.size=21*66/\∀w,(Instr.makeSlice 83 (.int .i64 0) (.int .i64 21)).run Tryz.prog w=.ok (.slice (some ⟨w.heap.size,0,none⟩) 0 21) (w.alloc (.cells zs 128)):=by
 obtain⟨i0,hi,hz0,hz1,hz2⟩:=KQ;refine⟨madeCells (Value.agg (Er ⟨false,λ_=>0,false⟩)).cells (21*66),by rw[size_madeCells],λw=>?_⟩;have:=run_make (P:=Tryz.prog) w 83 128 i0 _ Tryz.underlying83 hi hz0 .i64 .i64 0 21 (by omega) (by omega) (by rw[hz2];omega) (by omega);rw[this,hz1];rfl
def GN(n:Nat):List Value:=(List.replicate n (Fy p0)).flatten
theorem Gn(n:Nat):(GN n).length=n*66:=by
 induction n with
 |zero=>rfl
 |succ n ih=>simp only[GN,List.replicate_succ,List.flatten_cons,List.length_append]at ih|-;rw[ih,FF];omega
theorem KC(n:Nat):GN (n+1)=GN n++Fy p0:=by
 simp[GN,List.replicate_succ']
theorem RW(n i k:Nat)(hi:i<n)(hk:k<66):(GN n)[i*66+k]?=(Fy p0)[k]?:=by
 induction n with
 |zero=>cases hi
 |succ n ih=>
  rw[KC];rcases Nat.lt_or_ge i n with q|q
  ·rw[List.getElem?_append_left (by rw[Gn];omega)];exact ih q
  ·rw[List.getElem?_append_right (by rw[Gn];omega),Gn]
   congr 1
   omega
def VL(w:World)(g n:Nat):Prop:=(∃C,At w g C OR/\n*66<=C.size)/\∀i k,i<n->k<66->w.cell? ⟨g,i*66+k,none⟩=(Fy p0)[k]?
theorem X1{base g n:Nat}(hn:1<=n)(h:w.ownsRow base 128 66 (.slice (some ⟨g,0,none⟩) n 21) n (GN n)):VL w g n:=by
 refine⟨?_,λi k hi hk=>?_⟩
 ·rcases h.2 with⟨e,_⟩|⟨g',cap,cur,e,_,hh,hn4,hc4,hsz,htk⟩
  ·cases e
  ·cases e
   refine⟨cur,hh,?_⟩;have h2:=congrArg List.length htk;rw[Gn]at h2;simp at h2;omega
 ·have e:=RW n i k hi hk;have hs:k<(Fy p0).length:=by rw[FF];exact hk
  rw[List.getElem?_eq_getElem hs]at e|-;have:=h.cells (g:=g) rfl (i*66+k) _ e;rw[Dn]at this;exact this
theorem Pj(ao:Option Addr)(n cap:Nat)(hn:n<=20):Calls Tryz.prog 51 #[.agg #[.slice ao n cap]] w λx w'=>∃g,x=.returned (.slice (some ⟨g,0,none⟩) (n+1) 21)/\w.heap.size<=g/\VL w' g (n+1)/\Below w.heap.size w w':=by
 obtain⟨A1,hA1⟩:∃A1,A1=oc true λ_=>0:=⟨_,rfl⟩
 obtain⟨A2,hA2⟩:∃A2,A2=Er p0:=⟨_,rfl⟩
 obtain⟨c2,hc2⟩:∃c2,c2=Fy p0:=⟨_,rfl⟩
 have HB1:Hid (Tryz.prog.built 90 [(0,.bool true)]=some A1):=by rw[hA1];exact Xw
 have HB2:Hid (Tryz.prog.built 128 [(0,.agg A1)]=some A2):=by rw[hA1,hA2];exact ZC
 have z1:Tryz.zeroCells90.setIfInBounds 0 (.bool true)=A1:=by rw[hA1];kernel_rfl
 have z2:Array.foldl (λcs (x:Value×Nat)=>cs.setIfInBounds x.snd x.fst) Tryz.zeroCells128 A1.zipIdx 0 65=A2:=by rw[hA1,hA2];kernel_rfl
 have z3:A1.size=65:=by rw[hA1];exact Am _ _
 have z4:A2.size=66:=by rw[hA2];exact Es _
 have HOne:Hid (∀{w:World}{ops:Array Oper}{rest:List Oper}{o:Oper}{a:Act}{Q:Exit->Act->World->Prop}(_:o.guard=none)(x:Operand)(_:o.op=.buildSlice 83 1 #[(0,x)])(_:a.eval x=.agg A2)
  (_:wpList Tryz.prog ops Q rest (a.put o.dst (.slice (some ⟨w.heap.size,0,none⟩) 1 1)) (w.alloc (.cells A2 128))),wpList Tryz.prog ops Q (o::rest) a w):=by rw[hA2];exact λhg x ho hx h=>OW hg x ho hx h
 have HA2:Hid (A2.toList=c2/\c2.length=66/\∀u∈c2,u.oneCell'=true):=⟨by rw[hA2,hc2];simp[Er],by rw[hc2];exact FF _,by rw[hc2];exact Qx p0⟩
 have HZ:Hid (∀i,GN (i+1)=GN i++c2):=by rw[hc2];exact KC
 clear hA1 hA2 hc2;obtain⟨i0,hi,hz0,hz1,hz2⟩:=KQ;clear hz0 hz2;obtain⟨zs,hzs,hmk⟩:=Rj;have HEnd:Hid (∀w1,Calls Tryz.prog 67 #[.agg #[.slice ao n cap]] w1 λe w'=>e=.returned (.int .i64 (n:Int))/\Below w1.heap.size w1 w'):=λw1=>(J7 ao n cap w1 hn).mono λe w' ⟨h1,o,h2⟩=>⟨h1,by rw[h2];exact(Below.refl _ _).alloc (Nat.le_refl _) _⟩
 obtain⟨pv,hpv⟩:∃pv,pv=Value.slice ao n cap:=⟨_,rfl⟩
 rw[<-hpv]at HEnd|-;clear hpv;have H0:Hid (At (w.alloc (.cells #[pv] JP)) w.heap.size #[pv] JP/\Below w.heap.size w (w.alloc (.cells #[pv] JP))):=⟨At.new _ _ _,(Below.refl _ _).alloc (Nat.le_refl _) _⟩
 have HR0:Hid (((w.alloc (.cells #[pv] JP)).alloc (.cells zs 128)).ownsRow (w.heap.size+1) 128 66 (.slice (some ⟨w.heap.size+1,0,none⟩) 0 21) 0 []):=by
  have:=World.ownsRow_made (e:=128) (w.alloc (.cells #[pv] JP)) zs 21 (Nat.le_refl _) (by decide) hzs;show World.ownsRow _ _ _ _ _ _ _;simpa using this
 have H1:Hid (At ((w.alloc (.cells #[pv] JP)).alloc (.cells zs 128)) w.heap.size #[pv] JP/\Below w.heap.size w ((w.alloc (.cells #[pv] JP)).alloc (.cells zs 128))):=⟨At.allocH H0.out.1 _,H0.out.2.alloc (by simp) _⟩
 clear hzs;go_enter Tryz.func51,Tryz.ntmps51;go_wp2_with fail;go_loopw [3,4] (λcv iv wr=>∃i:Nat,i<=n+1/\iv=.int .i64 (i:Int)/\cv=.slice (some ⟨w.heap.size+1,0,none⟩) i 21/\Hid (wr.ownsRow (w.heap.size+1) 128 66 (.slice (some ⟨w.heap.size+1,0,none⟩) i 21) i (GN i)/\At wr w.heap.size #[pv] JP/\Below w.heap.size w wr)) (λ_ iv _=>n+1-(intOf iv).toNat);case atStart=>exact⟨0,by omega,rfl,rfl,HR0.out,H1.out⟩
 case round=>
  obtain⟨i,hile,rfl,rfl,HR⟩:=hrel;have c0:wr.cell? ⟨w.heap.size,0,none⟩=some pv:=HR.out.2.1.cell 0;go_wp2_with fail;refine(HEnd.out wr).mono ?_;rintro x w2 ⟨rfl,hb2⟩;have H2:Hid (w2.ownsRow (w.heap.size+1) 128 66 (.slice (some ⟨w.heap.size+1,0,none⟩) i 21) i (GN i)/\At w2 w.heap.size #[pv] JP/\Below w.heap.size w w2):=⟨Bm HR.out.1 (λk hk=>hb2.block k (HR.out.1.lt k hk).2),HR.out.2.1.keep hb2 HR.out.2.1.lt,HR.out.2.2.trans (hb2.mono HR.out.2.2.size)⟩
  clear hb2 c0;have hs2:w.heap.size+1<w2.heap.size:=(H2.out.1.lt (w.heap.size+1) rfl).2;by_cases hin:i<=n
  ·have hii:(i:Int)<=(n:Int):=by omega
   go_wp2_with (first|refine Iq rfl 90 _ rfl A1 HB1.out ?_|refine Iq rfl 128 _ rfl A2 HB2.out ?_|refine HOne.out rfl (.tmp 14) rfl rfl ?_|(at_builtin;refine wpList_append_fits _ rfl (.tmp 12) (.tmp 15) 83 rfl (w.heap.size+1) 128 i0 66 Tryz.underlying83 hi hz1 (w.heap.size+1) i 21 _ rfl (H2.out.1.alloc _) ⟨w2.heap.size,0,none⟩ 1 1 c2 rfl (by rw[HA2.out.2.1]) (by intro t u ht;rw[Dn];exact(World.cell?_alloc_at _ _ _ _ rfl).trans (by rw[<-Array.getElem?_toList,HA2.out.1];exact ht)) HA2.out.2.2 (by omega) ?_;intro w5 hown5 hgrow5));go_roundw;case rel=>
    refine⟨i+1,by omega,by go_num,rfl,by rw[HZ.out];exact hown5,?_,(H2.out.2.2.alloc H2.out.2.2.size _).grown hgrow5 (by simp;omega) (λk hk=>by cases hk;omega)⟩;have hb5:=((Below.refl (w.heap.size+1) w2).alloc (by omega) (.cells A2 128)).grown hgrow5 (by simp;omega) (λk hk=>by cases hk;exact Nat.le_refl _);exact H2.out.2.1.keep hb5 (by omega)
   case measure=>simp[intOf];omega
  ·have hie:i=n+1:=by omega
   subst hie;have hii:¬((n+1:Nat):Int)<=(n:Int):=by omega
   go_wp2_with fail;go_ret;exact⟨_,rfl,by omega,X1 (by omega) H2.out.1,H2.out.2.2⟩
end Go.Proofs.YtffajooegiempaaGreatDoor
namespace Go.Proofs.YtffajooegiempaaGreatDoor
open Go.RowKit
variable {s g:Nat}{w w':World}{pv:Value}{P:SS}{F:List Ds}
def JL(p:Pl):Option (List Int):=if p.e=true then none else some (Bl p.M)
theorem PB{base gl n:Nat}{X:List Value}{L:List (Option (List Int))}(hn:L.length=n)(hr:w.ownsRow base 32 1 (.slice (some ⟨gl,0,none⟩) n 21) n X)(h:NA w (gl+1) gl X L)(h21:n<=21):CX w (.slice (some ⟨gl,0,none⟩) n 21) L:=by
 subst hn;refine⟨_,21,rfl,h21,λ_=>⟨gl,0,rfl,(hr.lt gl rfl).2,λi hi=>?_⟩⟩;have hXi:X[i]?=some (X.getD i (.bool false)):=by simp[List.getD,show i<X.length by rw[h.len];exact hi]
 have hc:=hr.cells (g:=gl) rfl i _ hXi;rw[Dn]at hc;refine⟨_,by rw[Nat.zero_add];exact hc,?_⟩;have hp:=h.each i hi;cases e:L.getD i none with
 |none=>rw[e]at hp;exact hp
 |some l=>
  rw[e]at hp;obtain⟨q,hq,hv,ha,hl⟩:=hp;rw[hv];exact⟨AQ.at_ ha hl (Nat.le_refl _) (λj hj=>Aa _ _ (by omega)),_,_,_,rfl⟩
theorem WK(hG:Cr w)(h:Dg w s g pv P)(h21:P.1.length<=21)(hR:∀k,k<P.1.length->Sm (P.1.getD k p0).M):
  Calls Tryz.prog 55 #[.pointer (some ⟨s,0,none⟩)] w λx w'=>∃ao cap,x=.returned (.slice ao P.1.length cap)/\CX w' (.slice ao P.1.length cap) (P.1.map JL)/\Below w.heap.size w w':=by
 obtain⟨z0,hz0⟩:∃z0:Pl,z0=⟨false,λ_=>0,false⟩:=⟨_,rfl⟩
 have hz:∀w,(zeroValue 128).run Tryz.prog w=.ok (.agg (Er z0)) w:=by rw[hz0];exact Qw
 have HFr:Hid (∀(w1:World)(p:Pl),∃w2,(storeCells ⟨w1.heap.size,0,none⟩ (Fy p)).run Tryz.prog (w1.alloc (.cells (Er z0) 128))=.ok () w2/\At w2 w1.heap.size (Er p) OR/\Below w1.heap.size w1 w2/\w1.heap.size<w2.heap.size):=by rw[hz0];exact N4
 have hz3:(Er z0).size=66:=Es z0;have hz4:¬Er z0=#[]:=λh=>by have:=congrArg Array.size h;rw[Es]at this;simp at this
 clear hz0;have hmk:∀w,(Instr.makeSlice 54 (.int .i64 0) (.int .i64 21)).run Tryz.prog w=.ok (.slice (some ⟨w.heap.size,0,none⟩) 0 21) (w.alloc (.cells (List.replicate 21 (Value.slice none 0 0)).toArray 32)):=λ_=>by kernel_rfl
 obtain⟨i0,hi0, -,hz1, -⟩:=info_parts (P:=Tryz.prog) (e:=32) (z:=.slice none 0 0) (size:=1) (bytes:=24) (by kernel_rfl);have HOw:Hid ((w.alloc (.cells (List.replicate 21 (Value.slice none 0 0)).toArray 32)).ownsRow w.heap.size 32 1 (.slice (some ⟨w.heap.size,0,none⟩) 0 21) 0 []):=World.ownsRow_made w _ 21 (Nat.le_refl _) (by decide) rfl;generalize(List.replicate 21 (Value.slice none 0 0)).toArray=zs at *;have HB1:Hid (Below w.heap.size w (w.alloc (.cells zs 32))):=(Below.refl _ _).alloc (Nat.le_refl _) _;have HLi:Hid (∀w1 k,Below w.heap.size w w1->k<P.1.length->Calls Tryz.prog 74 #[.agg (oc (P.1.getD k p0).e (P.1.getD k p0).M)] w1 (BF w1 (P.1.getD k p0).e (P.1.getD k p0).M)):=λw1 k hb hk=>MZ (hG.keep hb hG.size) (hR k hk);have HSt:Hid (Dg w s g pv P):=h;have HTk:Hid (∀i,i<P.1.length->(P.1.map JL).take (i+1)=(P.1.map JL).take i++[JL (P.1.getD i p0)]):=λi hi=>by
  rw[List.take_add_one]
  congr 1
  simp[List.getD,hi]
 have HLt:Hid (∀i,i<=P.1.length->((P.1.map JL).take i).length=i):=λi hi=>by simp;omega
 have HAll:Hid ((P.1.map JL).take P.1.length=P.1.map JL):=List.take_of_length_le (by simp);have hsl:=h.sa.lt;have hgl:=h.glt;have c1:(w.alloc (.cells zs 32)).cell? ⟨s,1,none⟩=some (.slice (some ⟨g,0,none⟩) P.1.length 21):=(HSt.out.keep HB1.out).sa.cell 1;have HRw:Hid (∀w1 k,Below w.heap.size w w1->k<P.1.length->w1.rangeAt g (k*66) (Fy (P.1.getD k p0))):=λw1 k hb hk=>(HSt.out.keep hb).row hk;clear h hG hR;generalize P.1.map JL=LL at *;go_enter Tryz.func55,Tryz.ntmps55;go_wp2_with fail;go_loopw [3,13] (λcv iv wr=>∃(i:Nat)(X:List Value),i<=P.1.length/\iv=.int .i64 (i:Int)/\cv=.slice (some ⟨w.heap.size,0,none⟩) i 21/\Hid (wr.ownsRow w.heap.size 32 1 (.slice (some ⟨w.heap.size,0,none⟩) i 21) i X/\Below w.heap.size w wr/\w.heap.size<wr.heap.size/\NA wr (w.heap.size+1) w.heap.size X (LL.take i))) (λ_ iv _=>P.1.length-(intOf iv).toNat);case atStart=>exact⟨0,[],by omega,rfl,rfl,HOw.out,HB1.out,by simp,⟨rfl,λi hi=>absurd hi (by simp),λi hi=>absurd hi (by simp),λi j a hi=>absurd hi (by simp)⟩⟩
 case round=>
  obtain⟨i,X,hile,rfl,rfl,HR⟩:=hrel;have hzr:=HR.out.2.2.1;by_cases hlt:i<P.1.length
  ·have hii:(i:Int)<(P.1.length:Int):=by omega
   have hi00:(0:Int)<=(i:Int):=Int.natCast_nonneg _;have HRow:Hid (wr.rangeAt g (i*66) (Fy (P.1.getD i p0))):=HRw.out wr i HR.out.2.1 hlt;have HTi:Hid (LL.take (i+1)=LL.take i++[JL (P.1.getD i p0)]):=HTk.out i hlt;have HLi2:Hid (∀w1,Below w.heap.size w w1->Calls Tryz.prog 74 #[.agg (oc (P.1.getD i p0).e (P.1.getD i p0).M)] w1 (BF w1 (P.1.getD i p0).e (P.1.getD i p0).M)):=λw1 hb=>HLi.out w1 i hb hlt;have hll:=HLt.out i hile;generalize P.1.getD i p0=p at *;have hps:=Qv p;obtain⟨w2,hst2,hat2,hb2,hs2⟩:=HFr.out wr p;have H2:Hid (At w2 wr.heap.size (Er p) OR/\Below wr.heap.size wr w2):=⟨hat2,hb2⟩
   have HOc:Hid (w2.rangeAt wr.heap.size 0 (oc p.e p.M).toList):=λj v hv=>by
    have hj:j<65:=by
     rcases Nat.lt_or_ge j 65 with q|q
     ·exact q
     ·rw[List.getElem?_eq_none (by simp[Am];omega)]at hv;cases hv
    rw[Nat.zero_add,hat2.cell];show(Fy p).toArray[j]?=_;rw[List.getElem?_toArray,I6 p hj,<-Array.getElem?_toList];exact hv
   have hlo:(Tryz.prog.info? 90).map (·.size)=some (oc p.e p.M).toList.length:=by
    obtain⟨i0,hi,hz1⟩:=KM;have hi':Tryz.prog.info? 90=some i0:=hi;simp[hi',hz1,Am]
   have hli:=HLi2.out w2 (HR.out.2.1.trans (hb2.mono (by omega)));clear hat2 hb2;go_wp2_with (first|refine wpList_load_mid rfl 128 (.tmp 15) rfl g (i*66) rfl (Fy p) _ HRow.out Tryz.underlying128 rfl hps ?_|refine wpList_load_mid rfl 90 (.tmp 17) rfl wr.heap.size 0 rfl (oc p.e p.M).toList _ HOc.out Tryz.underlying90 rfl hlo ?_);refine hli.mono ?_;intro y w4 hy;have HPV:∃v4,y=.returned v4/\PV w4 w2.heap.size v4 (JL p):=by
    rcases hy.2 with⟨he,hv⟩|⟨he,gq,hv,hgq,ha⟩
    ·exact⟨_,hv,by unfold JL;rw[if_pos he];exact(rfl:_=_)⟩
    ·exact⟨_,hv,by unfold JL;rw[if_neg (by rw[he];decide)];exact⟨gq,hgq,rfl,ha,BJ _⟩⟩
   obtain⟨v4,rfl,hv4⟩:=HPV;have hb24:Below wr.heap.size wr w4:=H2.out.2.trans (hy.1.mono (by omega));have hz4':w2.heap.size<=w4.heap.size:=hy.1.size;have H4:Hid (w4.ownsRow w.heap.size 32 1 (.slice (some ⟨w.heap.size,0,none⟩) i 21) i X/\Below w.heap.size w w4/\NA w4 (w.heap.size+1) w.heap.size (X++[v4]) (LL.take i++[JL p])):=by
    have hL:=HR.out.2.2.2;refine⟨Bm HR.out.1 (λk hk=>hb24.block k (HR.out.1.lt k hk).2),HR.out.2.1.trans (hb24.mono (by omega)),?_⟩;exact(hL.same (w':=w4) (λk hk _ _=>hb24.block k hk)).snoc hv4 (by omega) (by omega) (λj hj k hk=>by have:=((hL.each j hj).lt k hk).2;omega)
   have HF1:Hid (∀w5,(w4.alloc (.cells #[v4] 32)).grownBy w5 (some w.heap.size)->w5.ownsRow w.heap.size 32 1 (.slice (some ⟨w.heap.size,0,none⟩) (i+1) 21) (i+1) (X++[v4])->
     w5.ownsRow w.heap.size 32 1 (.slice (some ⟨w.heap.size,0,none⟩) (i+1) 21) (i+1) (X++[v4])/\Below w.heap.size w w5/\w.heap.size<w5.heap.size/\NA w5 (w.heap.size+1) w.heap.size (X++[v4]) (LL.take (i+1))):=by
    intro w5 hg ho;have hbk:∀k,k<w4.heap.size->k≠w.heap.size->w5.heap[k]?=w4.heap[k]?:=λk hk hne=>(hg.block k (by simp;omega) (by intro e;have:=Option.some.inj e;omega)).trans (heap_alloc_old _ _ hk);have hs5:=hg.size;rw[HTi.out];refine⟨ho,(H4.out.2.1.alloc H4.out.2.1.size _).grown hg (by simp;omega) (λk hk=>by cases hk;exact Nat.le_refl _),by simp at hs5;omega,H4.out.2.2.same (λk hk _ hne=>hbk k hk hne)⟩
   have HV:Hid (PV w4 w2.heap.size v4 (JL p)):=hv4;clear hv4 hy hli hb24;generalize JL p=oo at *;cases oo with
   |none=>
    have hv:v4=.slice none 0 0:=HV.out;subst hv;go_wp2_with (at_builtin;refine wpList_append_fits _ rfl (.tmp 20) (.tmp 22) 54 rfl w.heap.size 32 i0 1 Tryz.underlying54 hi0 hz1 w.heap.size i 21 _ rfl (H4.out.1.alloc _) ⟨w4.heap.size,0,none⟩ 1 1 [Value.slice none 0 0] rfl rfl (by intro t u ht;match t,ht with|0,ht=>simp at ht;subst ht;exact World.cell?_alloc_at _ _ _ _ rfl) (by intro u hu;simp at hu;subst hu;rfl) (by omega) ?_;intro w5 hown5 hgrow5);go_roundw;case rel=>exact⟨i+1,X++[Value.slice none 0 0],by omega,by go_num,rfl,HF1.out w5 hgrow5 hown5⟩
    case measure=>simp[intOf];omega
   |some l=>
    obtain⟨g3,hg3,hv, -, -⟩:=HV.out;subst hv;go_wp2_with (at_builtin;refine wpList_append_fits _ rfl (.tmp 20) (.tmp 22) 54 rfl w.heap.size 32 i0 1 Tryz.underlying54 hi0 hz1 w.heap.size i 21 _ rfl (H4.out.1.alloc _) ⟨w4.heap.size,0,none⟩ 1 1 [Value.slice (some ⟨g3,0,none⟩) 32 32] rfl rfl (by intro t u ht;match t,ht with|0,ht=>simp at ht;subst ht;exact World.cell?_alloc_at _ _ _ _ rfl) (by intro u hu;simp at hu;subst hu;rfl) (by omega) ?_;intro w5 hown5 hgrow5);go_roundw;case rel=>exact⟨i+1,X++[Value.slice (some ⟨g3,0,none⟩) 32 32],by omega,by go_num,rfl,HF1.out w5 hgrow5 hown5⟩
    case measure=>simp[intOf];omega
  ·have hie:i=P.1.length:=by omega
   subst hie;have HFin:Hid (CX wr (.slice (some ⟨w.heap.size,0,none⟩) P.1.length 21) LL):=by
    have hL:=HR.out.2.2.2;have hl2:=HLt.out P.1.length (Nat.le_refl _);rw[HAll.out]at hL hl2;exact PB hl2 HR.out.1 hL h21
   go_wp2_with fail;go_ret;exact⟨_,_,rfl,HFin.out,HR.out.2.1⟩
end Go.Proofs.YtffajooegiempaaGreatDoor
namespace Go.Proofs.YtffajooegiempaaGreatDoor
structure Ms where
 used:Nat
 st:Int
 pt:Int
 v:List Int
variable {F:List Ds}{L:List Int}{s:Ms}{x:Ds}
theorem O3(p b fr:Int):∀(l:List Ds)(i:Nat),CR p b fr l i= -1\/((i:Int)<=CR p b fr l i/\CR p b fr l i<((i+l.length:Nat):Int)):=by
 intro l;induction l with
 |nil=>intro i;exact .inl rfl
 |cons y l ih=>
  intro i;rw[CR];split
  ·right;simp only[List.length_cons];omega
  ·rcases ih (i+1)with h|h
   ·exact .inl h
   ·right;simp only[List.length_cons];omega
theorem Ld(p b fr:Int)(h:Bu F p b fr≠ -1):0<=Bu F p b fr/\Bu F p b fr<F.length:=by
 rcases O3 p b fr F 0 with e|e
 ·exact absurd e h
 ·unfold Bu;omega
theorem KD:∀(n:Nat)(pt:Int),0<=BX F n pt/\BX F n pt<=F.length:=by
 intro n;induction n with
 |zero=>intro pt;unfold BX;omega
 |succ n ih=>
  intro pt;rw[BX];split
  ·omega
  split
  ·rename_i h;have:=Ld _ _ _ h;omega
  split
  ·rename_i h;unfold DU at h;simp only[Bool.and_eq_true,decide_eq_true_eq]at h;omega
  ·exact ih _
theorem Du(pt way:Int)(h:(Ap F pt way).2=0):0<=(Ap F pt way).1/\(Ap F pt way).1<=F.length:=by
 unfold Ap at h|-;by_cases h1:pt<0\/(F.length:Int)<=pt
 ·rw[if_pos h1]at h;simp at h
 rw[if_neg h1]at h|-;by_cases h2:way<0\/Ae (F.getD pt.toNat (AC 0 0)).kind<=way
 ·rw[if_pos h2]at h;simp at h
 rw[if_neg h2]at h|-;split
 ·exact KD _ _
 split
 ·rename_i h3;have:=Ld _ _ _ h3;simp only;omega
 split
 ·simp only;omega
 ·exact KD _ _
end Go.Proofs.YtffajooegiempaaGreatDoor
namespace Go.Proofs.YtffajooegiempaaGreatDoor
structure DQ(x:Ds):Prop where
 g:OY x
 len:x.sg.length=4
 tg:0<=x.target/\x.target<4
 kd:x.kind=0\/x.kind=1\/x.kind=2\/x.kind=3
 nz2:nz x.sg<=2
 fa:x.kind=0->nz x.sg<=1
 fc:x.kind≠0->x.any=true\/1<=nz x.sg
theorem JI{l:List Int}{m:Rd}{F:List Ds}(hp:AV l=some m)(hW:Bj F m.st){k:Nat}(hk:k<F.length):DQ (F.getD k (AC 0 0)):=by
 have hD:=EV hp hW hk;have hq:=Gb hp (show k<m.st.length by have:=hW.1.len;omega);have hk0:=O8 hD.2;obtain⟨-,c1,c2,c3,c4⟩:=id hD.2;refine⟨hD.1,by rw[<-c3];exact hq.g.len,by rw[<-c1];exact⟨hq.var.1,by have:=hq.var.2;omega⟩,?_,by rw[<-c3];exact hq.g.nz,λh=>by rw[<-c3];exact hq.fq.1 (hk0.1 h),λh=>by rw[<-c3,<-c2];exact hq.fq.2 (λz=>h (hk0.2 z))⟩;obtain⟨x,u,a0,c0,g,hx,hu,hcor,ha,hif,hfc,hC,hs,hr,hkk⟩:=hW.at_ k hk;rw[CO hx];obtain⟨x',u',hx',hu',_,_,_,_,hkd⟩:=hs;rw[hx]at hx';cases hx'
 rcases hkd with⟨hk01,_⟩|⟨hk3,_⟩|⟨hk2,_⟩
 ·rcases hk01 with e|e
  ·exact .inl e
  ·exact .inr (.inl e)
 ·exact .inr (.inr (.inr hk3))
 ·exact .inr (.inr (.inl hk2))
def S1(s i:Nat):Int:=if s/2=i then(if s%2=0 then 1 else -1)else 0
def WO(l:List Int):Bool:=decide (2<nz l)||((List.range 4).all λi=>decide (AK l i=if CF l=C4 l then S1 (CF l) i else S1 (CF l) i+S1 (C4 l) i))&&(decide (1<nz l)||decide (CF l=C4 l)||decide (CF l=opp (C4 l)))
theorem Uq:(OO.all λa=>OO.all λb=>OO.all λc=>OO.all λd=>WO [a,b,c,d])=true:=by decide +kernel
theorem Q9{l:List Int}(hl:l.length=4)(h:∀i, -1<=AK l i/\AK l i<=1):WO l=true:=by
 obtain⟨a,b,c,d,rfl⟩:=C0 hl;have t:=Uq;simp only[List.all_eq_true]at t;exact t a (Ca (h 0)) b (Ca (h 1)) c (Ca (h 2)) d (Ca (h 3))
theorem Tu{l:List Int}(hl:l.length=4)(h:∀i, -1<=AK l i/\AK l i<=1)(h1:nz l<=1):CF l=C4 l\/CF l=opp (C4 l):=by
 have t:=Q9 hl h;unfold WO at t;rw[decide_eq_false (by omega:¬2<nz l),Bool.false_or,Bool.and_eq_true,decide_eq_false (by omega:¬1<nz l),Bool.false_or,Bool.or_eq_true]at t;exact t.2.imp of_decide_eq_true of_decide_eq_true
variable {M:Nat->Int}{v:List Int}
end Go.Proofs.YtffajooegiempaaGreatDoor
