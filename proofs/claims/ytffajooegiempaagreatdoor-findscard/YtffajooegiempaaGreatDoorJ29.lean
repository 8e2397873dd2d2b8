import Derived.Test.YtffajooegiempaaGreatDoorJ28
import Derived.Deep.RegionWith
set_option maxRecDepth 100000
set_option maxHeartbeats 6400000
namespace Go.Proofs.YtffajooegiempaaGreatDoor
open Go.RowKit
variable {w:World}{F:List Ds}
def CM(F:List Ds):List (Option (List Int)):=(B3 F).1.map JL
def D3(F:List Ds):ByteArray:=strOfNums (IM (CM F))
theorem FD(F:List Ds):(CM F).length=F.length+1:=by unfold CM;rw[List.length_map,JY]
theorem Jw{M:Nat->Int}(h:Wn M){f:Nat}(hf:f<32):On (bd M f):=by
 have a:=D5 f hf;have b:=D7 f hf;have k:=h.all (k:=fs f*8+ss f) (by omega)
 right
 unfold bd;split
 ·have t:=ER (M (fs f*8+ss f));rcases Int.lt_or_le (M (fs f*8+ss f)) 0 with e|e
  ·rw[t.2 e];omega
  ·rw[t.1 e];omega
 ·omega
theorem Xt{p:Pl}(h:GC p):F_ (JL p):=by
 intro l e;unfold JL at e;rcases h with⟨h1,h2⟩|⟨h1,h2⟩
 ·rw[h1,if_neg (by decide)]at e;cases e
  exact⟨BJ _,λf hf=>by rw[CP _ hf];exact Jw h2 hf⟩
 ·rw[h1,if_pos rfl]at e;cases e
theorem IV(hx:∀k,k<F.length->DQ (F.getD k (AC 0 0))):∀r,r∈CM F->F_ r:=by
 intro r hr;obtain⟨p,hp,rfl⟩:=List.mem_map.1 hr;obtain⟨i,hi,rfl⟩:=List.getElem_of_mem hp;have:=KA hx i;rw[List.getD_eq_getElem?_getD,List.getElem?_eq_getElem hi]at this;exact Xt this
theorem Iv(hx:∀k,k<F.length->DQ (F.getD k (AC 0 0)))(hl:F.length<=20):AA (D3 F)=IM (CM F):=LO (LZ (IV hx) (by rw[FD];omega))
theorem QP(hx:∀k,k<F.length->DQ (F.getD k (AC 0 0)))(hl:F.length<=20):DS (AA (D3 F))=some (CM F):=QQ (by rw[FD];omega) (by rw[FD];omega) (IV hx) (Iv hx hl)
theorem Vk(hx:∀k,k<F.length->DQ (F.getD k (AC 0 0)))(hl:F.length<=20):DH (CM F)=(IM (CM F),0):=by
 unfold DH;rw[if_neg (by rw[FD];omega),if_pos];rw[MQ];intro i hi;exact Ma.1 (Da (IV hx) i)
theorem LS(hx:∀k,k<F.length->DQ (F.getD k (AC 0 0)))(hl:F.length<=20):(D3 F).size<=9223372036854775807:=by
 have h1:=AR (D3 F);rw[Iv hx hl]at h1;have h2:=IN (CM F) (CM F).length;have h3:(IM (CM F)).length=(Br (CM F) (CM F).length).length+1:=rfl;have h4:=FD F;omega
def Oe(w:World)(F:List Ds):Ending->World->Prop:=λe w'=>Below w.heap.size w w'/\∃a b,Ad F (AA (D3 F)) (a,b)/\((a=0/\e=.returned (.tuple #[.string (D3 F),.int .i64 0]))\/(a≠0/\e=.returned (.tuple #[.string ⟨#[]⟩,.int .i64 8])))
theorem VL.keep{w w':World}{g n:Nat}(h:VL w g n)(hb:Below w.heap.size w w'):VL w' g n:=by
 obtain⟨⟨C,h1,h2⟩,h3⟩:=h;exact⟨⟨C,h1.keep hb h1.lt,h2⟩,λi k hi hk=>(hb.cell (by exact h1.lt)).trans (h3 i k hi hk)⟩
theorem Ly{w6:World}{s g n1:Nat}{Z:Array Value}{pv:Value}(ha:At w6 s Z LG)(hP:VL w6 g n1):
  Dg (w6.setRow s #[pv,.slice (some ⟨g,0,none⟩) n1 21,.bool false]) s g pv (List.replicate n1 p0,false)/\BC s w6 (w6.setRow s #[pv,.slice (some ⟨g,0,none⟩) n1 21,.bool false]):=by
 obtain⟨⟨C,h1,h2⟩,h3⟩:=hP;have hne:s≠g:=At.ne ha h1 (by decide);have hon:BC s w6 (w6.setRow s #[pv,.slice (some ⟨g,0,none⟩) n1 21,.bool false]):=⟨rfl,rfl,rfl,by simp[World.setRow],λk _ hk=>setRow_other _ _ k _ (λe=>hk e)⟩
 refine⟨⟨?_,⟨C,hon.at_ h1 (Ne.symm hne),by simpa using h2⟩,λi k hi hk=>?_⟩,hon⟩
 ·have:=setRow_heap w6 s Z #[pv,.slice (some ⟨g,0,none⟩) n1 21,.bool false] LG (0,0) ha;rw[show(List.replicate n1 p0,false).1.length=n1 by simp];exact this
 ·have hi':i<n1:=by simpa using hi
  rw[hon.cell h1.lt (Ne.symm hne),h3 i k hi' hk]
  congr 2
  simp[List.getD,hi']
theorem Jb(F:List Ds):∀(n:Nat){s:SS},s.2=false->F9 F n s=s
 |0,_,_=>rfl
 |n+1,s,h=>by rw[F9,h,if_neg (by decide)]
theorem W0(F:List Ds){r mx:Nat}(hr:r<mx){s:SS}(h:s.2=true):F9 F (mx-r) s=F9 F (mx-(r+1)) (C3 F s s.1.length):=by
 rw[show mx-r=(mx-(r+1))+1 by omega,F9,if_pos h]
structure FZ(w wz:World)(s g:Nat)(pv:Value)(F:List Ds)(P:SS):Prop where
 st:Dg wz s g pv P
 pk:PK wz s g pv F
 bx:At wz w.heap.size #[pv] JP
 be:Below w.heap.size w wz
 ge:w.heap.size<s/\w.heap.size<g
theorem FZ.keep{w wz w':World}{s g:Nat}{pv:Value}{F:List Ds}{P:SS}(h:FZ w wz s g pv F P)(hb:Below wz.heap.size wz w'):FZ w w' s g pv F P:=
 ⟨h.st.keep hb,h.pk.keep hb,h.bx.keep hb h.bx.lt,h.be.trans (hb.mono h.be.size),h.ge⟩
theorem FZ.step{w wz w':World}{s g:Nat}{pv:Value}{F:List Ds}{P P':SS}(h:FZ w wz s g pv F P)(hs:Dg w' s g pv P')(ho:D4 s g wz w'):FZ w w' s g pv F P':=
 ⟨hs,h.pk.on ho,ho.at_ h.bx (by have:=h.ge;omega) (by have:=h.ge;omega),h.be.trans (ho.below (by have:=h.ge;omega) (by have:=h.ge;omega) h.be.size),h.ge⟩
theorem Xo{l:List Int}{m:Rd}(hG:Cr w)(hp:AV l=some m)(hW:Bj F m.st)(hl:F.length<=20)(ao:Option Addr)(cap:Nat)(hrow:F.length≠0->∃g0,ao=some ⟨g0,0,none⟩/\Cc w g0 F):
  Calls Tryz.prog 19 #[.agg #[.slice ao F.length cap]] w (Oe w F):=by
 have hD:∀k,k<F.length->DQ (F.getD k (AC 0 0)):=λk hk=>JI hp hW hk;have HNc:Hid (∀w1,Calls Tryz.prog 51 #[.agg #[.slice ao F.length cap]] w1 λx w'=>∃g,x=.returned (.slice (some ⟨g,0,none⟩) (F.length+1) 21)/\Hid (w1.heap.size<=g/\VL w' g (F.length+1)/\Below w1.heap.size w1 w')):=λw1=>(Pj ao F.length cap hl).mono λx w' ⟨g,h1,h2,h3,h4⟩=>⟨g,h1,h2,h3,h4⟩
 obtain⟨pv,hpv⟩:∃pv,pv=Value.slice ao F.length cap:=⟨_,rfl⟩
 have H0:Hid (At (w.alloc (.cells #[pv] JP)) w.heap.size #[pv] JP/\Below w.heap.size w (w.alloc (.cells #[pv] JP))):=⟨At.new _ _ _,(Below.refl _ _).alloc (Nat.le_refl _) _⟩
 have c0:(w.alloc (.cells #[pv] JP)).cell? ⟨w.heap.size,0,none⟩=some pv:=H0.out.1.cell 0;have HP1:Hid (∀g,(#[pv,.slice (some ⟨g,0,none⟩) (F.length+1) 21,.bool false]:Array Value).all (·.oneCell')=true):=λg=>by
  rw[hpv];refine Array.all_eq_true_iff_forall_mem.2 λv hv=>?_;simp at hv;rcases hv with rfl|rfl|rfl<;>rfl
 obtain⟨M0,hM0⟩:∃M0:Nat->Int,M0=λ_=>0:=⟨_,rfl⟩
 have hz:∀w,(zeroValue tO).run Tryz.prog w=.ok (.agg (oc false M0)) w:=by rw[hM0];exact Bn
 have ho3:(oc false M0).size=65:=Am _ _;have ho4:¬oc false M0=#[]:=λh=>by have:=congrArg Array.size h;rw[Am]at this;simp at this
 have HFr:Hid (∀w1:World,∃w2,(storeCells ⟨w1.heap.size,0,none⟩ (oc false M0).toList).run Tryz.prog (w1.alloc (.cells (oc false M0) tO))=.ok () w2/\AL w2 w1.heap.size false M0/\Below w1.heap.size w1 w2/\w1.heap.size<w2.heap.size):=by rw[hM0];exact λw1=>Bb w1 false _
 have HOr:Hid (∀w1,Calls Tryz.prog 52 #[] w1 λe w'=>e=.returned (.agg (oc false M0))/\Below w1.heap.size w1 w'):=by rw[hM0];exact λw1=>N2
 have HCl:Hid (∀w1 s g P,Dg w1 s g pv P->Calls Tryz.prog 53 #[.pointer (some ⟨s,0,none⟩),.int .i64 0,.agg (oc false M0)] w1 λx w'=>x=.returned (.tuple #[])/\Dg w' s g pv (DR P 0 false M0)/\D4 s g w1 w'):=λw1 s g P h=>Q4 h 0 false M0;have HBg:Hid (GK F.length=DR (List.replicate (F.length+1) p0,false) 0 false M0):=by rw[hM0];rfl
 have HBg2:Hid (Bf (GK F.length)/\(GK F.length).1.length=F.length+1/\F9 F (2685334-0) (GK F.length)=B3 F):=⟨ID _,MD _,rfl⟩
 clear hM0;have HGd:Hid (∀Q:SS,Bf Q->Bf (C3 F Q Q.1.length)):=λQ h=>DW h hD _;have hpar:∀(k:Nat)(x:Ds),F[k]?=some x-> -1<=x.parent/\x.parent<(k:Int):=λk x hx=>hW.par k x hx;have HGo:Hid (∀w1 s g (Q:SS),FZ w w1 s g pv F Q->Bf Q->Q.1.length=F.length+1->Calls Tryz.prog 54 #[.pointer (some ⟨s,0,none⟩)] w1 λx w'=>x=.returned (.tuple #[])/\Dg w' s g pv (C3 F Q Q.1.length)/\D4 s g w1 w'):=λw1 s g Q h h1 h2=>Ry h.st (by omega) h.pk hl hpar (λk hk=>⟨(hD k hk).g,(hD k hk).tg⟩) (λk _=>(DW h1 hD k k).rg);have HLs:Hid (∀w1 s g,FZ w w1 s g pv F (B3 F)->Calls Tryz.prog 55 #[.pointer (some ⟨s,0,none⟩)] w1 λx w'=>∃lo lc,x=.returned (.slice lo (F.length+1) lc)/\CX w' (.slice lo (F.length+1) lc) (CM F)/\Below w1.heap.size w1 w'):=λw1 s g h=>by
  have:=WK (hG.keep h.be hG.size) h.st (by rw[JY];omega) (λk _=>(KA hD k).sm);rw[JY]at this;exact this
 have HEn:Hid (∀w1 v,CX w1 v (CM F)->Calls Tryz.prog 56 #[v] w1 λe w'=>e=.returned (.tuple #[.string (D3 F),.int .i64 0])/\Below w1.heap.size w1 w'):=λw1 v h=>by
  have:=Sr v (CM F) (by rw[FD];unfold maxLen;omega) h;unfold VI at this;rw[Vk hD hl]at this;exact this
 have HCk:Hid (∀w1,Below w.heap.size w w1->Calls Tryz.prog 57 #[.agg #[pv],.string (D3 F)] w1 λe w'=>∃a b,e=.returned (.tuple #[.int .i64 a,.int .i64 b])/\Ad F (AA (D3 F)) (a,b)/\Below w1.heap.size w1 w'):=λw1 hb=>by
  rw[hpv];refine QM (hG.keep hb hG.size) (LS hD hl) hl ?_;intro w2 hb2 g L hO hok k hk;obtain⟨g0,rfl,hP⟩:=hrow (by omega);exact F7 hp hW hl hpar ((hP.keep hb).keep hb2) hO hok hk
 have HPk:Hid (∀w1 s g,Below w.heap.size w w1->w.heap.size<s->w.heap.size<g->PK w1 s g pv F):=λw1 s g hb h1 h2=>⟨ao,cap,hpv,λhn=>by
  obtain⟨g0,e,hP⟩:=hrow hn;have:=hP.1
  exact⟨g0,e,by omega,by omega,hP.keep hb⟩⟩
 rw[<-hpv]at HNc|-;clear hpv hG hp hW hrow hD hpar;go_enter Tryz.func19,Tryz.ntmps19;go_wp2_with fail;refine wp_region_held (S:=λw'=>w'.cell? ⟨w.heap.size,0,none⟩=some pv) (by kernel_rfl) ?_;change wpAnyH _ _ _ _ _ _ _ _ (World.drew _);have H5:Hid (At (w.alloc (.cells #[pv] JP)).drew w.heap.size #[pv] JP/\Below w.heap.size w (w.alloc (.cells #[pv] JP)).drew):=⟨H0.out.1,H0.out.2.drew⟩
 generalize(w.alloc (.cells #[pv] JP)).drew=w5 at *;have c5:w5.cell? ⟨w.heap.size,0,none⟩=some pv:=H5.out.1.cell 0;refine wpAnyH_take (i:=0) (v:=.agg #[pv]) rfl (by kernel_rfl) (by kernel_rfl) (by kernel_rfl) (λ_ _ _ h=>h) (Or.inl ⟨by rfl,by intro w1 hw1;have cc:w1.cell? ⟨w.heap.size,0,none⟩=some pv:=hw1;go_simp⟩) (c5) ?_;simp only[Act.put];refine wpAnyH_take (i:=1) (v:=.agg #[pv]) rfl (by kernel_rfl) (by kernel_rfl) (by kernel_rfl) (λ_ _ _ h=>h) (Or.inl ⟨by rfl,by intro w1 hw1;have cc:w1.cell? ⟨w.heap.size,0,none⟩=some pv:=hw1;go_simp⟩) (c5) ?_;simp only[Act.put];refine wpAnyH_ready (rs:=[2,4]) (by kernel_rfl) (by simp) ?_;refine AllReadyH.cons (o:=⟨some 12,.call _,_,_,_,none⟩) rfl (λK hK=>?_) (AllReadyH.cons (o:=⟨some 4,.alloc _,_,_,_,none⟩) rfl (λK hK=>?_) AllReadyH.nil)
 ·go_simp;refine(HNc.out _).mono ?_;rintro x w6 ⟨g,rfl,HN⟩;have H6:Hid (At w6 w.heap.size #[pv] JP/\Below w.heap.size w w6/\VL w6 g (F.length+1)/\w5.heap.size<=g):=⟨H5.out.1.keep HN.out.2.2 H5.out.1.lt,H5.out.2.trans (HN.out.2.2.mono H5.out.2.size),HN.out.2.1,HN.out.1⟩
  have c6:w6.cell? ⟨w.heap.size,0,none⟩=some pv:=H6.out.1.cell 0;refine hK.out _ _ c6 (λ_=>?_);clear hK K;refine wpAnyH_take (i:=3) (v:=.agg #[pv,.slice (some ⟨g,0,none⟩) (F.length+1) 21,.bool false]) rfl (by kernel_rfl) (by kernel_rfl) (by kernel_rfl) (λ_ _ _ h=>h) (Or.inl ⟨by rfl,by intro w1 _;go_simp⟩) (c6) ?_;simp only[Act.put];refine wpAnyH_ready (rs:=[4]) (by kernel_rfl) (by simp) ?_;refine AllReadyH.cons (o:=⟨some 4,.alloc _,_,_,_,none⟩) rfl (λK hK=>?_) AllReadyH.nil;go_simp;have ha7:At (w6.alloc (.cells #[.slice none 0 0,.slice none 0 0,.bool false] LG)) w6.heap.size #[.slice none 0 0,.slice none 0 0,.bool false] LG:=At.new _ _ _;have hb7:Below w6.heap.size w6 (w6.alloc (.cells #[.slice none 0 0,.slice none 0 0,.bool false] LG)):=(Below.refl _ _).alloc (Nat.le_refl _) _;refine hK.out _ _ ((hb7.cell (by exact H6.out.1.lt)).trans c6) (λ_=>?_);clear hK K;refine wpAnyH_ready (rs:=[5]) (by kernel_rfl) (by simp) ?_;refine AllReadyH.cons (o:=⟨none,.store 86 (.tmp 4) (.tmp 13),_,_,_,none⟩) rfl (λK hK=>?_) AllReadyH.nil;rw[if_pos (by rfl)];obtain⟨hss,hon⟩:=Ly (pv:=pv) ha7 (H6.out.2.2.1.keep hb7);refine wp_store_row 86 (.tmp 4) (.tmp 13) rfl w6.heap.size #[pv,.slice (some ⟨g,0,none⟩) (F.length+1) 21,.bool false] rfl rfl LG _ ha7 (by kernel_rfl) rfl (HP1.out g) ?_;have HZ:Hid (FZ w ((w6.alloc (.cells #[.slice none 0 0,.slice none 0 0,.bool false] LG)).setRow w6.heap.size #[pv,.slice (some ⟨g,0,none⟩) (F.length+1) 21,.bool false]) w6.heap.size g pv F (List.replicate (F.length+1) p0,false)):=by
   have l1:=H6.out.1.lt;have l2:=H5.out.1.lt;have l3:=H6.out.2.2.2;have hbz:Below w.heap.size w ((w6.alloc (.cells #[.slice none 0 0,.slice none 0 0,.bool false] LG)).setRow w6.heap.size #[pv,.slice (some ⟨g,0,none⟩) (F.length+1) 21,.bool false]):=(H6.out.2.1.trans (hb7.mono H6.out.2.1.size)).trans (hon.below (by omega) (by simp;omega));exact⟨hss,HPk.out _ _ _ hbz (by omega) (by omega),hon.at_ (H6.out.1.keep hb7 l1) (by omega),hbz,by omega,by omega⟩
  refine hK.out _ _ (HZ.out.bx.cell 0) (λ_=>?_);clear hK K hss hon ha7 hb7;refine wpAnyH_done (by kernel_rfl) ?_ _;generalize(w6.alloc (.cells #[.slice none 0 0,.slice none 0 0,.bool false] LG)).setRow w6.heap.size #[pv,.slice (some ⟨g,0,none⟩) (F.length+1) 21,.bool false]=wz at *;generalize w6.heap.size=s at *;clear H6 HN H5 c6 c5 H0 c0 HNc HPk;go_wp2_with fail;refine(HOr.out wz).mono ?_;rintro x w10 ⟨rfl,hb10⟩;obtain⟨w11,hst11,hat11,hb11,hs11⟩:=HFr.out w10;have H11:Hid (AL w11 w10.heap.size false M0/\FZ w w11 (s) g pv F (List.replicate (F.length+1) p0,false)):=⟨hat11,(HZ.out.keep hb10).keep hb11⟩
  clear hb10 hat11 hb11;go_wp2_with (refine AH rfl (.tmp 5) rfl rfl H11.out.1 ?_);refine(HCl.out w11 (s) g _ H11.out.2.st).mono ?_;rintro x w12 ⟨rfl,hst12,hon12⟩;have H12:Hid (FZ w w12 (s) g pv F (GK F.length)):=H11.out.2.step (by rw[HBg.out];exact hst12) hon12;clear hst12 hon12;go_wp2_with fail;go_loopw [6] (λiv wr=>∃(r:Nat)(b:Bool),r<=2685334/\iv=.int .i64 (r:Int)/\Hid (∃Q:SS,FZ w wr (s) g pv F Q/\Bf Q/\Q.1.length=F.length+1/\F9 F (2685334-r) Q=B3 F/\Q.2=b)) (λiv _=>2685334-(intOf iv).toNat);case atStart=>exact⟨0,_,by omega,rfl,_,H12.out,HBg2.out.1,HBg2.out.2.1,HBg2.out.2.2,rfl⟩
  case round=>
   obtain⟨r,b,hr,rfl,HQ⟩:=hrel;obtain⟨Q,hQ⟩:=HQ.out;have HQ2:Hid (FZ w wr (s) g pv F Q/\Bf Q/\Q.1.length=F.length+1/\F9 F (2685334-r) Q=B3 F/\Q.2=b):=hQ;have cb:wr.cell? ⟨s,2,none⟩=some (.bool b):=by
    have:=hQ.1.st.sa.cell 2;rw[this];show some (Value.bool Q.2)=_;rw[hQ.2.2.2.2]
   have hlr:=hQ.1.st.sa.lt;clear hQ HQ;have fin:(r=2685334\/b=false)->Q=B3 F:=λh=>by
    rw[<-HQ2.out.2.2.2.1];rcases h with q|q
    ·subst q;rfl
    ·exact(Jb F _ (HQ2.out.2.2.2.2.trans q)).symm
   have HFin:Hid ((r=2685334\/b=false)->Q=B3 F):=fin;clear fin;by_cases hrl:r<2685334
   ·have hri:(r:Int)<2685334:=by omega
    cases b with
    |true=>
     go_wp2_with fail;refine(HGo.out wr (s) g Q HQ2.out.1 HQ2.out.2.1 HQ2.out.2.2.1).mono ?_;rintro x w13 ⟨rfl,hst13,hon13⟩;have H13:Hid (∃Q':SS,FZ w w13 (s) g pv F Q'/\Bf Q'/\Q'.1.length=F.length+1/\F9 F (2685334-(r+1)) Q'=B3 F):=⟨_,HQ2.out.1.step hst13 hon13,HGd.out Q HQ2.out.2.1,by rw[DD];exact HQ2.out.2.2.1,by rw[<-W0 F hrl HQ2.out.2.2.2.2];exact HQ2.out.2.2.2.1⟩
     clear hst13 hon13;obtain⟨Q',hQ'⟩:=H13.out;have HQ':Hid (FZ w w13 (s) g pv F Q'/\Bf Q'/\Q'.1.length=F.length+1/\F9 F (2685334-(r+1)) Q'=B3 F):=hQ';clear hQ' H13;go_wp2_with fail;go_roundw;case rel=>exact⟨r+1,Q'.2,by omega,by go_num,Q',HQ'.out.1,HQ'.out.2.1,HQ'.out.2.2.1,HQ'.out.2.2.2,rfl⟩
     case measure=>simp[intOf];omega
    |false=>
     have HE:Hid (Q=B3 F):=HFin.out (.inr rfl);have HZ2:Hid (FZ w wr (s) g pv F (B3 F)):=by rw[<-HE.out];exact HQ2.out.1
     clear HE HFin;go_wp2_with fail;clear hri hrl hr HQ2 cb;refine(HLs.out wr (s) g HZ2.out).mono ?_;rintro x w14 ⟨lo,lc,rfl,hrd,hb14⟩;have H14:Hid (FZ w w14 (s) g pv F (B3 F)/\CX w14 (.slice lo (F.length+1) lc) (CM F)):=⟨HZ2.out.keep hb14,hrd⟩
     clear hrd hb14;go_wp2_with fail;refine(HEn.out w14 _ H14.out.2).mono ?_;rintro x w15 ⟨rfl,hb15⟩;have H15:Hid (FZ w w15 (s) g pv F (B3 F)):=H14.out.1.keep hb15;clear hb15;have c15:w15.cell? ⟨w.heap.size,0,none⟩=some pv:=H15.out.bx.cell 0;go_wp2_with fail;refine(HCk.out w15 H15.out.be).mono ?_;rintro x w16 ⟨a,b16,rfl,hsay,hb16⟩;have H16:Hid (Ad F (AA (D3 F)) (a,b16)/\Below w.heap.size w w16):=⟨hsay,H15.out.be.trans (hb16.mono H15.out.be.size)⟩
     clear hsay hb16 c15;by_cases ha:a=0
     ·subst ha;go_wp2_with fail
      go_ret2
      exact⟨H16.out.2,_,_,H16.out.1,.inl ⟨rfl,rfl⟩⟩
     ·go_wp2_with fail
      go_ret2
      exact⟨H16.out.2,_,_,H16.out.1,.inr ⟨ha,rfl⟩⟩
   ·have hre:r=2685334:=by omega
    subst hre;have HE:Hid (Q=B3 F):=HFin.out (.inl rfl);have HZ2:Hid (FZ w wr (s) g pv F (B3 F)):=by rw[<-HE.out];exact HQ2.out.1
    clear HE HFin;go_wp2_with fail;refine(HLs.out wr (s) g HZ2.out).mono ?_;rintro x w14 ⟨lo,lc,rfl,hrd,hb14⟩;have H14:Hid (FZ w w14 (s) g pv F (B3 F)/\CX w14 (.slice lo (F.length+1) lc) (CM F)):=⟨HZ2.out.keep hb14,hrd⟩
    clear hrd hb14;go_wp2_with fail;refine(HEn.out w14 _ H14.out.2).mono ?_;rintro x w15 ⟨rfl,hb15⟩;have H15:Hid (FZ w w15 (s) g pv F (B3 F)):=H14.out.1.keep hb15;clear hb15;have c15:w15.cell? ⟨w.heap.size,0,none⟩=some pv:=H15.out.bx.cell 0;go_wp2_with fail;refine(HCk.out w15 H15.out.be).mono ?_;rintro x w16 ⟨a,b16,rfl,hsay,hb16⟩;have H16:Hid (Ad F (AA (D3 F)) (a,b16)/\Below w.heap.size w w16):=⟨hsay,H15.out.be.trans (hb16.mono H15.out.be.size)⟩
    clear hsay hb16 c15;by_cases ha:a=0
    ·subst ha;go_wp2_with fail
     go_ret2
     exact⟨H16.out.2,_,_,H16.out.1,.inl ⟨rfl,rfl⟩⟩
    ·go_wp2_with fail
     go_ret2
     exact⟨H16.out.2,_,_,H16.out.1,.inr ⟨ha,rfl⟩⟩
 ·go_simp;have ha6:At (w5.alloc (.cells #[.slice none 0 0,.slice none 0 0,.bool false] LG)) w5.heap.size #[.slice none 0 0,.slice none 0 0,.bool false] LG:=At.new _ _ _;have hb6:Below w5.heap.size w5 (w5.alloc (.cells #[.slice none 0 0,.slice none 0 0,.bool false] LG)):=(Below.refl _ _).alloc (Nat.le_refl _) _;have hz6:(w5.alloc (.cells #[.slice none 0 0,.slice none 0 0,.bool false] LG)).heap.size=w5.heap.size+1:=by simp
  have H6:Hid (At (w5.alloc (.cells #[.slice none 0 0,.slice none 0 0,.bool false] LG)) w.heap.size #[pv] JP/\Below w.heap.size w (w5.alloc (.cells #[.slice none 0 0,.slice none 0 0,.bool false] LG))/\At (w5.alloc (.cells #[.slice none 0 0,.slice none 0 0,.bool false] LG)) w5.heap.size #[.slice none 0 0,.slice none 0 0,.bool false] LG):=⟨H5.out.1.keep hb6 H5.out.1.lt,H5.out.2.trans (hb6.mono H5.out.2.size),ha6⟩
  refine hK.out _ _ (H6.out.1.cell 0) (λ_=>?_);clear hK K hb6 ha6;have l5:=H5.out.1.lt;generalize hw6:w5.alloc (.cells #[.slice none 0 0,.slice none 0 0,.bool false] LG)=w6 at *;refine wpAnyH_ready (rs:=[2]) (by kernel_rfl) (by simp) ?_;refine AllReadyH.cons (o:=⟨some 12,.call _,_,_,_,none⟩) rfl (λK hK=>?_) AllReadyH.nil;clear hw6;go_simp;refine(HNc.out _).mono ?_;rintro x w7 ⟨g,rfl,HN⟩;have H7:Hid (At w7 w.heap.size #[pv] JP/\Below w.heap.size w w7/\At w7 w5.heap.size #[.slice none 0 0,.slice none 0 0,.bool false] LG/\VL w7 g (F.length+1)):=⟨H6.out.1.keep HN.out.2.2 H6.out.1.lt,H6.out.2.1.trans (HN.out.2.2.mono H6.out.2.1.size),H6.out.2.2.keep HN.out.2.2 H6.out.2.2.lt,HN.out.2.1⟩
  have c7:w7.cell? ⟨w.heap.size,0,none⟩=some pv:=H7.out.1.cell 0;have hg7:w5.heap.size+1<=g:=by have:=HN.out.1;omega
  refine hK.out _ _ c7 (λ_=>?_);clear hK K;refine wpAnyH_take (i:=3) (v:=.agg #[pv,.slice (some ⟨g,0,none⟩) (F.length+1) 21,.bool false]) rfl (by kernel_rfl) (by kernel_rfl) (by kernel_rfl) (λ_ _ _ h=>h) (Or.inl ⟨by rfl,by intro w1 _;go_simp⟩) (c7) ?_;simp only[Act.put];refine wpAnyH_ready (rs:=[5]) (by kernel_rfl) (by simp) ?_;refine AllReadyH.cons (o:=⟨none,.store 86 (.tmp 4) (.tmp 13),_,_,_,none⟩) rfl (λK hK=>?_) AllReadyH.nil;rw[if_pos (by rfl)];obtain⟨hss,hon⟩:=Ly (pv:=pv) H7.out.2.2.1 H7.out.2.2.2;refine wp_store_row 86 (.tmp 4) (.tmp 13) rfl w5.heap.size #[pv,.slice (some ⟨g,0,none⟩) (F.length+1) 21,.bool false] rfl rfl LG _ H7.out.2.2.1 (by kernel_rfl) rfl (HP1.out g) ?_;have HZ:Hid (FZ w (w7.setRow w5.heap.size #[pv,.slice (some ⟨g,0,none⟩) (F.length+1) 21,.bool false]) w5.heap.size g pv F (List.replicate (F.length+1) p0,false)):=by
   have hbz:Below w.heap.size w (w7.setRow w5.heap.size #[pv,.slice (some ⟨g,0,none⟩) (F.length+1) 21,.bool false]):=H7.out.2.1.trans (hon.below (by omega) H7.out.2.1.size);exact⟨hss,HPk.out _ _ _ hbz (by omega) (by omega),hon.at_ H7.out.1 (by omega),hbz,by omega,by omega⟩
  refine hK.out _ _ (HZ.out.bx.cell 0) (λ_=>?_);clear hK K hss hon;refine wpAnyH_done (by kernel_rfl) ?_ _;generalize w7.setRow w5.heap.size #[pv,.slice (some ⟨g,0,none⟩) (F.length+1) 21,.bool false]=wz at *;clear H6 H7 HN H5 c7 c5 H0 c0 HNc HPk l5 hz6 hg7;generalize w5.heap.size=s at *;go_wp2_with fail;refine(HOr.out wz).mono ?_;rintro x w10 ⟨rfl,hb10⟩;obtain⟨w11,hst11,hat11,hb11,hs11⟩:=HFr.out w10;have H11:Hid (AL w11 w10.heap.size false M0/\FZ w w11 (s) g pv F (List.replicate (F.length+1) p0,false)):=⟨hat11,(HZ.out.keep hb10).keep hb11⟩
  clear hb10 hat11 hb11;go_wp2_with (refine AH rfl (.tmp 5) rfl rfl H11.out.1 ?_);refine(HCl.out w11 (s) g _ H11.out.2.st).mono ?_;rintro x w12 ⟨rfl,hst12,hon12⟩;have H12:Hid (FZ w w12 (s) g pv F (GK F.length)):=H11.out.2.step (by rw[HBg.out];exact hst12) hon12;clear hst12 hon12;go_wp2_with fail;go_loopw [6] (λiv wr=>∃(r:Nat)(b:Bool),r<=2685334/\iv=.int .i64 (r:Int)/\Hid (∃Q:SS,FZ w wr (s) g pv F Q/\Bf Q/\Q.1.length=F.length+1/\F9 F (2685334-r) Q=B3 F/\Q.2=b)) (λiv _=>2685334-(intOf iv).toNat);case atStart=>exact⟨0,_,by omega,rfl,_,H12.out,HBg2.out.1,HBg2.out.2.1,HBg2.out.2.2,rfl⟩
  case round=>
   obtain⟨r,b,hr,rfl,HQ⟩:=hrel;obtain⟨Q,hQ⟩:=HQ.out;have HQ2:Hid (FZ w wr (s) g pv F Q/\Bf Q/\Q.1.length=F.length+1/\F9 F (2685334-r) Q=B3 F/\Q.2=b):=hQ;have cb:wr.cell? ⟨s,2,none⟩=some (.bool b):=by
    have:=hQ.1.st.sa.cell 2;rw[this];show some (Value.bool Q.2)=_;rw[hQ.2.2.2.2]
   have hlr:=hQ.1.st.sa.lt;clear hQ HQ;have fin:(r=2685334\/b=false)->Q=B3 F:=λh=>by
    rw[<-HQ2.out.2.2.2.1];rcases h with q|q
    ·subst q;rfl
    ·exact(Jb F _ (HQ2.out.2.2.2.2.trans q)).symm
   have HFin:Hid ((r=2685334\/b=false)->Q=B3 F):=fin;clear fin;by_cases hrl:r<2685334
   ·have hri:(r:Int)<2685334:=by omega
    cases b with
    |true=>
     go_wp2_with fail;refine(HGo.out wr (s) g Q HQ2.out.1 HQ2.out.2.1 HQ2.out.2.2.1).mono ?_;rintro x w13 ⟨rfl,hst13,hon13⟩;have H13:Hid (∃Q':SS,FZ w w13 (s) g pv F Q'/\Bf Q'/\Q'.1.length=F.length+1/\F9 F (2685334-(r+1)) Q'=B3 F):=⟨_,HQ2.out.1.step hst13 hon13,HGd.out Q HQ2.out.2.1,by rw[DD];exact HQ2.out.2.2.1,by rw[<-W0 F hrl HQ2.out.2.2.2.2];exact HQ2.out.2.2.2.1⟩
     clear hst13 hon13;obtain⟨Q',hQ'⟩:=H13.out;have HQ':Hid (FZ w w13 (s) g pv F Q'/\Bf Q'/\Q'.1.length=F.length+1/\F9 F (2685334-(r+1)) Q'=B3 F):=hQ';clear hQ' H13;go_wp2_with fail;go_roundw;case rel=>exact⟨r+1,Q'.2,by omega,by go_num,Q',HQ'.out.1,HQ'.out.2.1,HQ'.out.2.2.1,HQ'.out.2.2.2,rfl⟩
     case measure=>simp[intOf];omega
    |false=>
     have HE:Hid (Q=B3 F):=HFin.out (.inr rfl);have HZ2:Hid (FZ w wr (s) g pv F (B3 F)):=by rw[<-HE.out];exact HQ2.out.1
     clear HE HFin;go_wp2_with fail;clear hri hrl hr HQ2 cb;refine(HLs.out wr (s) g HZ2.out).mono ?_;rintro x w14 ⟨lo,lc,rfl,hrd,hb14⟩;have H14:Hid (FZ w w14 (s) g pv F (B3 F)/\CX w14 (.slice lo (F.length+1) lc) (CM F)):=⟨HZ2.out.keep hb14,hrd⟩
     clear hrd hb14;go_wp2_with fail;refine(HEn.out w14 _ H14.out.2).mono ?_;rintro x w15 ⟨rfl,hb15⟩;have H15:Hid (FZ w w15 (s) g pv F (B3 F)):=H14.out.1.keep hb15;clear hb15;have c15:w15.cell? ⟨w.heap.size,0,none⟩=some pv:=H15.out.bx.cell 0;go_wp2_with fail;refine(HCk.out w15 H15.out.be).mono ?_;rintro x w16 ⟨a,b16,rfl,hsay,hb16⟩;have H16:Hid (Ad F (AA (D3 F)) (a,b16)/\Below w.heap.size w w16):=⟨hsay,H15.out.be.trans (hb16.mono H15.out.be.size)⟩
     clear hsay hb16 c15;by_cases ha:a=0
     ·subst ha;go_wp2_with fail
      go_ret2
      exact⟨H16.out.2,_,_,H16.out.1,.inl ⟨rfl,rfl⟩⟩
     ·go_wp2_with fail
      go_ret2
      exact⟨H16.out.2,_,_,H16.out.1,.inr ⟨ha,rfl⟩⟩
   ·have hre:r=2685334:=by omega
    subst hre;have HE:Hid (Q=B3 F):=HFin.out (.inl rfl);have HZ2:Hid (FZ w wr (s) g pv F (B3 F)):=by rw[<-HE.out];exact HQ2.out.1
    clear HE HFin;go_wp2_with fail;refine(HLs.out wr (s) g HZ2.out).mono ?_;rintro x w14 ⟨lo,lc,rfl,hrd,hb14⟩;have H14:Hid (FZ w w14 (s) g pv F (B3 F)/\CX w14 (.slice lo (F.length+1) lc) (CM F)):=⟨HZ2.out.keep hb14,hrd⟩
    clear hrd hb14;go_wp2_with fail;refine(HEn.out w14 _ H14.out.2).mono ?_;rintro x w15 ⟨rfl,hb15⟩;have H15:Hid (FZ w w15 (s) g pv F (B3 F)):=H14.out.1.keep hb15;clear hb15;have c15:w15.cell? ⟨w.heap.size,0,none⟩=some pv:=H15.out.bx.cell 0;go_wp2_with fail;refine(HCk.out w15 H15.out.be).mono ?_;rintro x w16 ⟨a,b16,rfl,hsay,hb16⟩;have H16:Hid (Ad F (AA (D3 F)) (a,b16)/\Below w.heap.size w w16):=⟨hsay,H15.out.be.trans (hb16.mono H15.out.be.size)⟩
    clear hsay hb16 c15;by_cases ha:a=0
    ·subst ha;go_wp2_with fail
     go_ret2
     exact⟨H16.out.2,_,_,H16.out.1,.inl ⟨rfl,rfl⟩⟩
    ·go_wp2_with fail
     go_ret2
     exact⟨H16.out.2,_,_,H16.out.1,.inr ⟨ha,rfl⟩⟩
end Go.Proofs.YtffajooegiempaaGreatDoor
namespace Go.Proofs.YtffajooegiempaaGreatDoor
open Go.RowKit
variable {w:World}{s:ByteArray}
theorem Ad.one{F:List Ds}{b:List Int}{r r':Int×Int}(h:Ad F b r)(h':Ad F b r'):r=r':=by
 unfold Ad at h h';cases hd:DS b with
 |none=>rw[hd]at h h';exact Eq.trans h (Eq.symm h')
 |some L=>
  rw[hd]at h h';simp only at h h';split at h
  ·rename_i q;rw[if_pos q]at h';exact h.trans h'.symm
  ·rename_i q;rw[if_neg q]at h';split at h
   ·rename_i q2;rw[if_pos q2]at h';exact h.trans h'.symm
   ·rename_i q2;rw[if_neg q2]at h';exact h.one h'
def BI(s c:ByteArray)(r:Int×Int):Prop:=
 match AV (AA s)with
 |none=>r=((Bv (AA s)).2.1,(Bv (AA s)).2.2)
 |some _=>Ad (AI s).2 (AA c) r
def L4(w:World)(s c:ByteArray):Ending->World->Prop:=λe w'=>∃a b,e=.returned (.tuple #[.int .i64 a,.int .i64 b])/\BI s c (a,b)/\Below w.heap.size w w'
end Go.Proofs.YtffajooegiempaaGreatDoor
namespace Go.Proofs.YtffajooegiempaaGreatDoor
open Go.RowKit
variable {w:World}
def SM(w:World)(s:ByteArray):Ending->World->Prop:=λe w'=>Below w.heap.size w w'/\
 ((AV (AA s)=none/\e=.returned (.tuple #[.string ⟨#[]⟩,.int .i64 1]))\/
  (AV (AA s)≠none/\∃a b,Ad (AI s).2 (AA (D3 (AI s).2)) (a,b)/\((a=0/\e=.returned (.tuple #[.string (D3 (AI s).2),.int .i64 0]))\/(a≠0/\e=.returned (.tuple #[.string ⟨#[]⟩,.int .i64 8])))))
theorem L3(hG:Cr w)(s:ByteArray)(hm:s.size<=maxLen):Calls Tryz.prog 5 #[.string s] w (SM w s):=by
 have hr:=Hj s w hm;have hl:=AR s;have bad:AV (AA s)=none->∀n:Int,(∀e w',D8 w s e w'->e=.returned (.tuple #[.agg #[.slice none 0 0],.int .i64 1,.int .i64 n])/\Below w.heap.size w w')->Calls Tryz.prog 5 #[.string s] w (SM w s):=by
  intro hp n hq;have HE:Hid (AV (AA s)=none):=hp;have hr':=hr.mono hq;clear hr hp hq hm hl hG;go_enter Tryz.func5,Tryz.ntmps5;go_wp2_with fail;refine hr'.mono ?_;rintro e w1 ⟨rfl,hb⟩;have HB:Hid (Below w.heap.size w w1):=hb;clear hb hr';go_wp2_with fail
  go_ret2
  exact⟨HB.out.alloc HB.out.size _,.inl ⟨HE.out,rfl⟩⟩
 by_cases h160:160<s.size
 ·refine bad (by unfold AV;rw[if_pos (by omega)]) 0 ?_;rintro e w' ⟨hb,h|h|h⟩
  ·exact⟨h.2,hb⟩
  ·exact absurd h.1 (by omega)
  ·exact absurd h.1 (by omega)
 rcases BU s (by omega)with⟨hg,hp⟩|⟨m,hg,hp,hW⟩
 ·refine bad hp (AI s).1.1 ?_;rintro e w' ⟨hb,h|h|h⟩
  ·exact absurd h.1 h160
  ·exact⟨h.2.2,hb⟩
  ·exact absurd h.2.1 (by rw[hg];decide)
 clear bad;have hlen:(AI s).2.length<=20:=(A_ s 22 (-1) 0 0 ((0,false),[]) ⟨Nat.zero_le _,Nat.zero_le _⟩).ok.len
 have hr':=hr.mono (R':=λe w'=>∃ao cap,e=.returned (.tuple #[.agg #[.slice ao (AI s).2.length cap],.int .i64 0,.int .i64 0])/\Below w.heap.size w w'/\((AI s).2.length≠0->∃g,ao=some ⟨g,0,none⟩/\Cc w' g (AI s).2)) (by
  rintro e w' ⟨hb,h|h|h⟩
  ·exact absurd h.1 h160
  ·exact absurd h.2.1 (by rw[hg];decide)
  ·obtain⟨_,_,v,he,hrow⟩:=h;have hrow2:=hrow;obtain⟨_,h2⟩:=hrow2;rcases h2 with⟨rfl,e0⟩|⟨g,cap,_,rfl,_⟩
   ·exact⟨none,0,by rw[e0];exact he,hb,λz=>absurd e0 z⟩
   ·exact⟨_,cap,he,hb,λ_=>⟨g,rfl,Ee hrow rfl (hrow.lt g rfl).2⟩⟩)
 have HS:Hid (AV (AA s)≠none):=by show _≠_;rw[hp];exact λz=>by cases z
 have HC:Hid (∀w1 ao cap,Below w.heap.size w w1->((AI s).2.length≠0->∃g,ao=some ⟨g,0,none⟩/\Cc w1 g (AI s).2)->Calls Tryz.prog 19 #[.agg #[.slice ao (AI s).2.length cap]] w1 (Oe w1 (AI s).2)):=λw1 ao cap hb h=>Xo (hG.keep hb hG.size) hp hW hlen ao cap h;have HO:Hid (∀w1 e w',Below w.heap.size w w1->Oe w1 (AI s).2 e w'->∃c k,e=.returned (.tuple #[.string c,.int .i64 k])/\Hid (SM w s (.returned (.tuple #[.string c,.int .i64 k])) w')):=by
  rintro w1 e w' hb ⟨h1,a,b,h2,⟨h3,rfl⟩|⟨h3,rfl⟩⟩
  ·exact⟨_,_,rfl,hb.trans (h1.mono hb.size),.inr ⟨HS.out,a,b,h2,.inl ⟨h3,rfl⟩⟩⟩
  ·exact⟨_,_,rfl,hb.trans (h1.mono hb.size),.inr ⟨HS.out,a,b,h2,.inr ⟨h3,rfl⟩⟩⟩
 clear hr hm hl h160 hg hp hW hG;generalize(AI s).2=F at *;go_enter Tryz.func5,Tryz.ntmps5;go_wp2_with fail;refine hr'.mono ?_;rintro e w1 ⟨ao,cap,rfl,hb,hrow⟩;have HB:Hid (Below w.heap.size w w1/\(F.length≠0->∃g,ao=some ⟨g,0,none⟩/\Cc w1 g F)):=⟨hb,hrow⟩
 clear hb hrow hr';go_wp2_with fail;refine(HC.out _ ao cap (HB.out.1.alloc HB.out.1.size _) (λz=>by obtain⟨g,e,h⟩:=HB.out.2 z;exact⟨g,e,h.keep ((Below.refl _ _).alloc (Nat.le_refl _) _)⟩)).mono ?_;intro y w2 hy;obtain⟨c,k,rfl,HY⟩:=HO.out _ _ _ (HB.out.1.alloc HB.out.1.size _) hy;clear hy;go_wp2_with fail
 go_ret2
 exact HY.out
end Go.Proofs.YtffajooegiempaaGreatDoor
namespace Go.Proofs.YtffajooegiempaaGreatDoor
variable {F:List Ds}{L:List (Option (List Int))}{I:List Int}{s:Ms}
theorem Sb{f:Nat->Bool}{n:Nat}(h:ET f n=true):∀i,i<n->f i=true:=by
 intro i hi;cases e:f i with
 |true=>rfl
 |false=>rw[MA hi e]at h;cases h
structure Bt(F:List Ds)(L:List (Option (List Int))):Prop where
 ok:∀r,r∈L->F_ r
 st:DY false (cE (BG L 0)) (λ_=>0) (cM (BG L 0))=true
 pt:∀k,k<F.length->EK F L k=0
theorem Bt.says(h:Bt F L){k:Nat}(hk:k<F.length):DF (cE (BG L k)) (cM (BG L k)) (F.getD k (AC 0 0))=true/\∀way:Nat,(way:Int)<Ae (F.getD k (AC 0 0)).kind->D0 F L k way=true:=by
 have q:=h.pt k hk;unfold EK at q;cases hs:DF (cE (BG L k)) (cM (BG L k)) (F.getD k (AC 0 0))with
 |false=>rw[hs,if_pos rfl]at q;cases q
 |true=>
  rw[hs,if_neg (by decide)]at q;cases ha:ET (D0 F L k) (Ae (F.getD k (AC 0 0)).kind).toNat with
  |false=>rw[ha,if_neg (by decide)]at q;cases q
  |true=>exact⟨rfl,λway hw=>Sb ha way (by omega)⟩
end Go.Proofs.YtffajooegiempaaGreatDoor
namespace Go.Proofs.YtffajooegiempaaGreatDoor
open Go.RowKit
def vv(l:List Int):Value:=.agg #[.int .i64 (AB l 0),.int .i64 (AB l 1),.int .i64 (AB l 2),.int .i64 (AB l 3)]
variable {B:Nat}{w w':World}{r:Nat}{m:Rd}{vs vo:Value}{P Q O:Nat->Nat}
theorem AZ.follows(h:AZ B w r m vs vo P Q O)(hl:m.st.length<=20)(n:Nat):∀i,i<m.st.length->i<n->
  Calls Tryz.prog 62 #[.pointer (some ⟨r,0,none⟩),.int .i64 (i:Int)] w λe w'=>e=.returned (.int .i64 (Bx m.st n i))/\w'=w:=by
 induction n with
 |zero=>intro i _ hi;omega
 |succ n ih=>
  intro i hi hin;obtain⟨g,cap,hvs,hrow,_⟩:=h.row (by omega);obtain⟨r0,r1,r2,r3,r4,r5,rf⟩:=h.rdc;rw[hvs]at r1;have hcell:∀j,j<m.st.length->w.cell? ⟨g,j,none⟩=some (.pointer (some ⟨P j,0,none⟩)):=hrow;have hst:=λj (hj:j<m.st.length)=>h.stc j _ (AZ.gets hj);have hI:=λj (h1:j<m.st.length) (h2:j<n)=>ih j h1 h2;have HI:Hid (∀j,j<m.st.length->j<n->Calls Tryz.prog 62 #[.pointer (some ⟨r,0,none⟩),.int .i64 (j:Int)] w λe w'=>e=.returned (.int .i64 (Bx m.st n j))/\w'=w):=hI;have HC:Hid (∀j,j<m.st.length->w.cell? ⟨g,j,none⟩=some (.pointer (some ⟨P j,0,none⟩))):=hcell;have HS:Hid (∀j,j<m.st.length->w.cell? ⟨P j,0,none⟩=some (.int .u8 (m.st.getD j AY).kind)/\w.cell? ⟨P j,5,none⟩=some (.int .i64 (m.st.getD j AY).mid)/\w.cell? ⟨P j,6,none⟩=some (.int .i64 (m.st.getD j AY).fin)):=λj hj=>⟨(hst j hj).1,(hst j hj).2.2.2.2.2.1,(hst j hj).2.2.2.2.2.2.1⟩
  have HF:Hid (Bx m.st (n+1) i=if Ay m.st i i<0 then((m.st.getD i AY).fin:Int)else if(m.st.getD i AY).fin<G6 (m.st.getD (Ay m.st i i).toNat AY) i then((m.st.getD i AY).fin:Int)else if(m.st.getD (Ay m.st i i).toNat AY).kind=64 then Ay m.st i i else Bx m.st n (Ay m.st i i).toNat):=by
   show Bx _ _ _=_;rw[Bx]
  have hii:(i:Int)<(m.st.length:Int):=by omega
  clear h ih hrow hst hI hcell hvs r0 r2 r3 r4 r5 rf;go_enter Tryz.func62,Tryz.ntmps62;go_wp2_with fail
  go_loop [5,6] (λq k=>∃j:Nat,j<=i/\k=.int .i64 j/\q=.int .i64 (Ay m.st i j)) (λ_ k=>i-(intOf k).toNat)
  case atStart=>exact⟨0,Nat.zero_le _,rfl,rfl⟩
  case round=>
   obtain⟨j,hj,rfl,rfl⟩:=hrel;by_cases hlt:j<i
   ·have hjl:j<m.st.length:=by omega
    have hji:(j:Int)<(m.st.length:Int):=by omega
    have k1:=HC.out j hjl;obtain⟨-, -,k2⟩:=HS.out j hjl;have HL:Hid (Ay m.st i (j+1)=if i<(m.st.getD j AY).fin then(j:Int)else Ay m.st i j):=rfl;generalize Ay m.st i j=lo at *;generalize(m.st.getD j AY).fin=fi at *;by_cases hf:i<fi
    ·have hfi:(i:Int)<(fi:Int):=by omega
     go_wp2_with fail
     go_round
     case rel=>exact⟨j+1,by omega,by go_num,by rw[HL.out,if_pos hf]⟩
     case measure=>simp[intOf];omega
    ·have hfi:¬(i:Int)<(fi:Int):=by omega
     go_wp2_with fail
     go_round
     case rel=>exact⟨j+1,by omega,by go_num,by rw[HL.out,if_neg hf]⟩
     case measure=>simp[intOf];omega
   ·have hje:j=i:=by omega
    subst hje;have k1:=HC.out j hi;obtain⟨-, -,k2⟩:=HS.out j hi;obtain⟨l0,l1⟩:=Nw m.st j j;by_cases hneg:Ay m.st j j<0
    ·have HE:Hid (Bx m.st (n+1) j=((m.st.getD j AY).fin:Int)):=HF.out.trans (if_pos hneg);clear HF;generalize Ay m.st j j=lo at *;generalize(m.st.getD j AY).fin=fi at *;go_wp2_with fail;go_ret;exact⟨by rw[HE.out];rfl,rfl⟩
    ·obtain⟨q,hq⟩:∃q:Nat,Ay m.st j j=q:=⟨(Ay m.st j j).toNat,by omega⟩
     rw[hq]at l1 hneg HF|-;have hql:q<m.st.length:=by omega
     have hqi:(q:Int)<(m.st.length:Int):=by omega
     have k3:=HC.out q hql;obtain⟨s0,s5,s6⟩:=HS.out q hql;simp only[Int.toNat_natCast]at HF;have HF2:Hid (Bx m.st (n+1) j=if(m.st.getD j AY).fin<G6 (m.st.getD q AY) j then((m.st.getD j AY).fin:Int)else if(m.st.getD q AY).kind=64 then(q:Int)else Bx m.st n q):=HF.out.trans (if_neg hneg);have hrec:=HI.out q hql (by omega);clear HF hneg hq;have HEn:Hid (G6 (m.st.getD q AY) j=if(m.st.getD q AY).kind=63/\j<(m.st.getD q AY).mid then(m.st.getD q AY).mid else(m.st.getD q AY).fin):=rfl;generalize m.st.getD q AY=u at *;generalize(m.st.getD j AY).fin=fi at *;have hq0:¬(q:Int)<0:=by omega
     by_cases h63:u.kind=63
     ·rw[h63]at s0;by_cases hmid:j<u.mid
      ·have hmi:(j:Int)<(u.mid:Int):=by omega
       have en:G6 u j=u.mid:=HEn.out.trans (if_pos ⟨h63,hmid⟩);rw[en,h63]at HF2;clear HEn en h63;by_cases hlt2:fi<u.mid
       ·have hd:(fi:Int)<(u.mid:Int):=by omega
        have HE:Hid (_=_):=HF2.out.trans (if_pos hlt2);clear HF2;go_wp2_with fail;go_ret;exact⟨by rw[HE.out];rfl,rfl⟩
       ·have hd:¬(fi:Int)<(u.mid:Int):=by omega
        have HE:Hid (_=_):=(HF2.out.trans (if_neg hlt2)).trans (if_neg (by decide));clear HF2;go_wp2_with fail;refine hrec.mono ?_;rintro e w1 ⟨rfl,rfl⟩;go_wp2_with fail;go_ret;exact⟨by rw[HE.out];rfl,rfl⟩
      ·have hmi:¬(j:Int)<(u.mid:Int):=by omega
       have en:G6 u j=u.fin:=HEn.out.trans (if_neg (λe=>hmid e.2));rw[en,h63]at HF2;clear HEn en h63;by_cases hlt2:fi<u.fin
       ·have hd:(fi:Int)<(u.fin:Int):=by omega
        have HE:Hid (_=_):=HF2.out.trans (if_pos hlt2);clear HF2;go_wp2_with fail;go_ret;exact⟨by rw[HE.out];rfl,rfl⟩
       ·have hd:¬(fi:Int)<(u.fin:Int):=by omega
        have HE:Hid (_=_):=(HF2.out.trans (if_neg hlt2)).trans (if_neg (by decide));clear HF2;go_wp2_with fail;refine hrec.mono ?_;rintro e w1 ⟨rfl,rfl⟩;go_wp2_with fail;go_ret;exact⟨by rw[HE.out];rfl,rfl⟩
     ·have b63:(u.kind==63)=false:=by simpa using h63
      have en:G6 u j=u.fin:=HEn.out.trans (if_neg (λe=>h63 e.1));rw[en]at HF2;clear HEn en h63;by_cases hlt2:fi<u.fin
      ·have hd:(fi:Int)<(u.fin:Int):=by omega
       have HE:Hid (_=_):=HF2.out.trans (if_pos hlt2);clear HF2;go_wp2_with fail;go_ret;exact⟨by rw[HE.out];rfl,rfl⟩
      ·have hd:¬(fi:Int)<(u.fin:Int):=by omega
       by_cases h64:u.kind=64
       ·have HE:Hid (_=_):=(HF2.out.trans (if_neg hlt2)).trans (if_pos h64);rw[h64]at s0;clear b63 h64;clear HF2;go_wp2_with fail;go_ret;exact⟨by rw[HE.out];rfl,rfl⟩
       ·have b64:(u.kind==64)=false:=by simpa using h64
        have HE:Hid (_=_):=(HF2.out.trans (if_neg hlt2)).trans (if_neg h64);clear h64;clear HF2;go_wp2_with fail;refine hrec.mono ?_;rintro e w1 ⟨rfl,rfl⟩;go_wp2_with fail;go_ret;exact⟨by rw[HE.out];rfl,rfl⟩
theorem AZ.next(h:AZ B w r m vs vo P Q O)(hl:m.st.length<=20)(p:Nat)(hp:p<m.st.length)(way:Int):
  Calls Tryz.prog 23 #[.pointer (some ⟨r,0,none⟩),.int .i64 (p:Int),.int .i64 way] w λe w'=>e=.returned (.int .i64 (BZ m.st p way))/\∃k,w'=w.drewN k:=by
 have hfo:=h.follows hl 21 p hp (by omega);obtain⟨g,cap,hvs,hrow,_⟩:=h.row (by omega);obtain⟨r0,r1,r2,r3,r4,r5,rf⟩:=h.rdc;rw[hvs]at r1;have hc:w.cell? ⟨g,p,none⟩=some (.pointer (some ⟨P p,0,none⟩)):=hrow p hp;obtain⟨c0,c1,c2,c3,c4,c5,c6, -⟩:=h.stc p _ (AZ.gets hp);have hpi:(p:Int)<(m.st.length:Int):=by omega
 have HN:Hid (BZ m.st p way=if(m.st.getD p AY).kind=61\/(m.st.getD p AY).kind=33\/((m.st.getD p AY).kind=64/\way=1)then Bx m.st 21 p
  else if(m.st.getD p AY).kind=64/\(m.st.getD p AY).fin=p+1 then(p:Int)
  else if(m.st.getD p AY).kind=64 then(p:Int)+1
  else if way=0/\p+1<(m.st.getD p AY).mid then(p:Int)+1
  else if way=1/\(m.st.getD p AY).mid<(m.st.getD p AY).fin then((m.st.getD p AY).mid:Int)
  else Bx m.st 21 p):=rfl
 clear h hrow hvs r0 r2 r3 r4 r5 rf c1 c2 c3 c4;generalize m.st.getD p AY=u at *;generalize Bx m.st 21 p=fo at *;generalize P p=q at *;by_cases k61:u.kind=61
 ·have HE:Hid (_=_):=HN.out.trans (if_pos (.inl k61));rw[k61]at c0;clear HN k61;go_enter Tryz.func23,Tryz.ntmps23;go_wp2_with fail;refine hfo.mono ?_;rintro e w1 ⟨rfl,rfl⟩;go_wp2_with fail;go_ret;exact⟨by rw[HE.out];rfl,0,rfl⟩
 have b61:(u.kind==61)=false:=by simpa using k61
 by_cases k33:u.kind=33
 ·have HE:Hid (_=_):=HN.out.trans (if_pos (.inr (.inl k33)));rw[k33]at c0;clear HN k61 b61 k33;go_enter Tryz.func23,Tryz.ntmps23;go_wp2_with fail;refine hfo.mono ?_;rintro e w1 ⟨rfl,rfl⟩;go_wp2_with fail;go_ret;exact⟨by rw[HE.out];rfl,0,rfl⟩
 have b33:(u.kind==33)=false:=by simpa using k33
 by_cases k64:u.kind=64
 ·by_cases w1:way=1
  ·have HE:Hid (_=_):=HN.out.trans (if_pos (.inr (.inr ⟨k64,w1⟩)));rw[k64]at c0;subst w1;clear HN k61 b61 k33 b33 k64;go_enter Tryz.func23,Tryz.ntmps23;go_wp2_with fail;refine hfo.mono ?_;rintro e w1 ⟨rfl,rfl⟩;go_wp2_with fail;go_ret;exact⟨by rw[HE.out];rfl,0,rfl⟩
  ·have bw:(way==1)=false:=by simpa using w1
   have HN2:Hid (_=_):=HN.out.trans (if_neg (λe=>e.elim k61 (λe=>e.elim k33 (λe=>w1 e.2))));by_cases hf:u.fin=p+1
   ·have HE:Hid (_=_):=HN2.out.trans (if_pos ⟨k64,hf⟩);have hfb:(((u.fin:Nat):Int)==(p:Int)+1)=true:=by rw[beq_iff_eq];omega
    rw[k64]at c0;clear HN HN2 k61 b61 k33 b33 k64 w1 hf;go_enter Tryz.func23,Tryz.ntmps23;go_wp2_with fail;refine hfo.mono ?_;rintro e w1 ⟨rfl,rfl⟩;go_wp2_with fail;go_ret;exact⟨by rw[HE.out];rfl,0,rfl⟩
   ·have HE:Hid (_=_):=(HN2.out.trans (if_neg (λe=>hf e.2))).trans (if_pos k64);have hfb:(((u.fin:Nat):Int)==(p:Int)+1)=false:=by rw[beq_eq_false_iff_ne];omega
    rw[k64]at c0;clear HN HN2 k61 b61 k33 b33 k64 w1 hf;go_enter Tryz.func23,Tryz.ntmps23;go_wp2_with fail;refine hfo.mono ?_;rintro e w1 ⟨rfl,rfl⟩;go_wp2_with fail;go_ret;exact⟨by rw[HE.out];rfl,0,rfl⟩
 have b64:(u.kind==64)=false:=by simpa using k64
 have HN2:Hid (_=_):=((HN.out.trans (if_neg (λe=>e.elim k61 (λe=>e.elim k33 (λe=>k64 e.1))))).trans (if_neg (λe=>k64 e.1))).trans (if_neg k64);clear HN k61 k33 k64;by_cases w0:way=0
 ·subst w0;by_cases hm:p+1<u.mid
  ·have HE:Hid (_=_):=HN2.out.trans (if_pos ⟨rfl,hm⟩);have hmi:(p:Int)+1<(u.mid:Int):=by omega
   clear HN2;go_enter Tryz.func23,Tryz.ntmps23;go_wp2_with fail;refine hfo.mono ?_;rintro e w1 ⟨rfl,rfl⟩;go_wp2_with fail;go_ret;exact⟨by rw[HE.out];rfl,0,rfl⟩
  ·have HE:Hid (_=_):=(HN2.out.trans (if_neg (λe=>hm e.2))).trans (if_neg (λe=>absurd e.1 (by decide)));have hmi:¬(p:Int)+1<(u.mid:Int):=by omega
   clear HN2;go_enter Tryz.func23,Tryz.ntmps23;go_wp2_with fail;refine hfo.mono ?_;rintro e w1 ⟨rfl,rfl⟩;go_wp2_with fail;go_quiet (fail);go_wp2_with fail;go_ret;exact⟨by rw[HE.out];rfl,_,rfl⟩
 ·have bw0:(way==0)=false:=by simpa using w0
  by_cases w1:way=1
  ·subst w1;clear w0 bw0;by_cases hm:u.mid<u.fin
   ·have HE:Hid (_=_):=(HN2.out.trans (if_neg (λe=>absurd e.1 (by decide)))).trans (if_pos ⟨rfl,hm⟩);have hmi:(u.mid:Int)<(u.fin:Int):=by omega
    clear HN2;go_enter Tryz.func23,Tryz.ntmps23;go_wp2_with fail;refine hfo.mono ?_;rintro e w1 ⟨rfl,rfl⟩;go_wp2_with fail;go_quiet (fail);go_wp2_with fail;go_ret;exact⟨by rw[HE.out];rfl,_,rfl⟩
   ·have HE:Hid (_=_):=(HN2.out.trans (if_neg (λe=>absurd e.1 (by decide)))).trans (if_neg (λe=>hm e.2));have hmi:¬(u.mid:Int)<(u.fin:Int):=by omega
    clear HN2;go_enter Tryz.func23,Tryz.ntmps23;go_wp2_with fail;refine hfo.mono ?_;rintro e w1 ⟨rfl,rfl⟩;go_wp2_with fail;go_quiet (fail);go_wp2_with fail;go_ret;exact⟨by rw[HE.out];rfl,_,rfl⟩
  ·have bw1:(way==1)=false:=by simpa using w1
   have HE:Hid (_=_):=(HN2.out.trans (if_neg (λe=>w0 e.1))).trans (if_neg (λe=>w1 e.1));clear HN2 w0 w1;go_enter Tryz.func23,Tryz.ntmps23;go_wp2_with fail;refine hfo.mono ?_;rintro e w1 ⟨rfl,rfl⟩;go_wp2_with fail;go_quiet (fail);go_wp2_with fail;go_ret;exact⟨by rw[HE.out];rfl,_,rfl⟩
end Go.Proofs.YtffajooegiempaaGreatDoor
namespace Go.Proofs.YtffajooegiempaaGreatDoor
open Go.RowKit
variable {w:World}
theorem Xc(F:List Ds)(hx:∀k,k<F.length->DQ (F.getD k (AC 0 0)))(hl:F.length<=20):D3 F≠⟨#[]⟩:=by
 intro h;have h1:=Iv hx hl;rw[h]at h1;have h2:AA ⟨#[]⟩=[]:=rfl;rw[h2]at h1;unfold IM at h1;cases h1
theorem Zd{s:ByteArray}(hs:AV (AA s)≠none):D3 (AI s).2≠⟨#[]⟩:=by
 cases hp:AV (AA s)with
 |none=>exact absurd hp hs
 |some mm=>
  have h160:=(Au hp).1;have hbl:=AR s;have hlen:(AI s).2.length<=20:=(A_ s 22 (-1) 0 0 ((0,false),[]) ⟨Nat.zero_le _,Nat.zero_le _⟩).ok.len;rcases BU s (by omega)with⟨_,hn⟩|⟨m',_,hp',hW⟩
  ·rw[hp]at hn;cases hn
  ·exact Xc _ (λk hk=>JI hp' hW hk) hlen
theorem Xb{s:ByteArray}(hs:AV (AA s)≠none):(D3 (AI s).2).size<=maxLen:=by
 cases hp:AV (AA s)with
 |none=>exact absurd hp hs
 |some mm=>
  have h160:=(Au hp).1;have hbl:=AR s;have hlen:(AI s).2.length<=20:=(A_ s 22 (-1) 0 0 ((0,false),[]) ⟨Nat.zero_le _,Nat.zero_le _⟩).ok.len;rcases BU s (by omega)with⟨_,hn⟩|⟨m',_,hp',hW⟩
  ·rw[hp]at hn;cases hn
  ·have:=LS (λk hk=>JI hp' hW hk) hlen;unfold maxLen;omega
end Go.Proofs.YtffajooegiempaaGreatDoor
