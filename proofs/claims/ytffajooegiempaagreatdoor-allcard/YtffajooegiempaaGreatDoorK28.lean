import Derived.Test.YtffajooegiempaaGreatDoorK27
import Derived.Deep.RegionWith
set_option maxRecDepth 100000
set_option maxHeartbeats 6400000
namespace Go.Proofs.YtffajooegiempaaGreatDoor
open Go.RowKit Go.Proofs.Tryz
variable {w:World}{F:List Ds}
def CM(F:List Ds):List (Option (List Int)):=(B3 F).1.map JL
def D3(F:List Ds):ByteArray:=strOfNums (IM (CM F))
theorem FD(F:List Ds):(CM F).length=F.length+1:=by unfold CM;rw[List.length_map,JY]
theorem Jw{M:Nat->Int}(h:Wn M){f:Nat}(hf:f<32):On (bd M f):=by
 have a:=D5 f hf;have b:=D7 f hf;have k:=h.all (k:=fs f*8+ss f) (by omega)
 right
 unfold bd;split
 .have t:=ER (M (fs f*8+ss f));rcases cR (M (fs f*8+ss f)) 0 with e|e
  .rw[t.2 e];omega
  .rw[t.1 e];omega
 .omega
theorem Xt{p:Pl}(h:GC p):F_ (JL p):=by
 intro l e;unfold JL at e;rcases h with⟨h1,h2⟩|⟨h1,h2⟩
 .rw[h1,a_ (by decide)]at e;cases e
  exact⟨BJ _,λf hf=>by rw[CP _ hf];exact Jw h2 hf⟩
 .rw[h1,bA rfl]at e;cases e
theorem IV(hx:∀k,k<F.length->DQ (F.getD k (AC 0 0))):∀r,r∈CM F->F_ r:=by
 intro r hr;obtain⟨p,hp,rfl⟩:=List.mem_map.1 hr;obtain⟨i,hi,rfl⟩:=List.getElem_of_mem hp;have:=KA hx i;rw[bG,bP hi]at this;exact Xt this
theorem Iv(hx:∀k,k<F.length->DQ (F.getD k (AC 0 0)))(hl:F.length<=20):AA (D3 F)=IM (CM F):=LO (LZ (IV hx) (by rw[FD];omega))
theorem QP(hx:∀k,k<F.length->DQ (F.getD k (AC 0 0)))(hl:F.length<=20):DS (AA (D3 F))=some (CM F):=QQ (by rw[FD];omega) (by rw[FD];omega) (IV hx) (Iv hx hl)
theorem Vk(hx:∀k,k<F.length->DQ (F.getD k (AC 0 0)))(hl:F.length<=20):DH (CM F)=(IM (CM F),0):=by
 unfold DH;rw[a_ (by rw[FD];omega),bA];rw[MQ];intro i hi;exact Ma.1 (Da (IV hx) i)
theorem LS(hx:∀k,k<F.length->DQ (F.getD k (AC 0 0)))(hl:F.length<=20):(D3 F).size<=9223372036854775807:=by
 have h1:=AR (D3 F);rw[Iv hx hl]at h1;have h2:=IN (CM F) (CM F).length;have h3:(IM (CM F)).length=(Br (CM F) (CM F).length).length+1:=rfl;have h4:=FD F;omega
def Oe(w:World)(F:List Ds):Ending->World->Prop:=λe w'=>dc w w'/\∃a b,Ad F (AA (D3 F)) (a,b)/\((a=0/\e=.returned (.tuple #[.string (D3 F),.int .i64 0]))\/(a≠0/\e=.returned (.tuple #[.string ⟨#[]⟩,.int .i64 8])))
theorem VL.keep{w w':World}{g n:Nat}(h:VL w g n)(hb:dc w w'):VL w' g n:=by
 obtain⟨⟨C,h1,h2⟩,h3⟩:=h;exact⟨⟨C,h1.keep hb h1.lt,h2⟩,λi k hi hk=>(hb.cell (by exact h1.lt)).trans (h3 i k hi hk)⟩
theorem Ly{w6:World}{s g n1:Nat}{Z:Array Value}{pv:Value}(ha:At w6 s Z LG)(hP:VL w6 g n1):
  Dg (w6.setRow s #[pv,.slice (some ⟨g,0,none⟩) n1 21,.bool false]) s g pv (List.replicate n1 p0,false)/\BC s w6 (w6.setRow s #[pv,.slice (some ⟨g,0,none⟩) n1 21,.bool false]):=by
 obtain⟨⟨C,h1,h2⟩,h3⟩:=hP;have aS:s≠g:=At.ne ha h1 (by decide);have O:BC s w6 (w6.setRow s #[pv,.slice (some ⟨g,0,none⟩) n1 21,.bool false]):=⟨rfl,rfl,rfl,by simp[World.setRow],λk _ hk=>setRow_other _ _ k _ (λe=>hk e)⟩
 refine⟨⟨?_,⟨C,O.at_ h1 (Ne.symm aS),by simpa using h2⟩,λi k hi hk=>?_⟩,O⟩
 .have:=setRow_heap w6 s Z #[pv,.slice (some ⟨g,0,none⟩) n1 21,.bool false] LG (0,0) ha;rw[show(List.replicate n1 p0,false).1.length=n1 by simp];exact this
 .have aR:i<n1:=by simpa using hi
  rw[O.cell h1.lt (Ne.symm aS),h3 i k aR hk]
  congr 2
  simp[List.getD,aR]
theorem Jb(F:List Ds):∀(n:Nat){s:SS},s.2=false->F9 F n s=s
 |0,_,_=>rfl
 |n+1,s,h=>by rw[F9,h,a_ (by decide)]
theorem W0(F:List Ds){r mx:Nat}(hr:r<mx){s:SS}(h:s.2=true):F9 F (mx-r) s=F9 F (mx-(r+1)) (C3 F s s.1.length):=by
 rw[show mx-r=(mx-(r+1))+1 by omega,F9,bA h]
structure FZ(w wz:World)(s g:Nat)(pv:Value)(F:List Ds)(P:SS):Prop where
 st:Dg wz s g pv P
 pk:PK wz s g pv F
 bx:At wz w.heap.size #[pv] JP
 be:dc w wz
 ge:w.heap.size<s/\w.heap.size<g
theorem FZ.keep{w wz w':World}{s g:Nat}{pv:Value}{F:List Ds}{P:SS}(h:FZ w wz s g pv F P)(hb:dc wz w'):FZ w w' s g pv F P:=
 ⟨h.st.keep hb,h.pk.keep hb,h.bx.keep hb h.bx.lt,h.be.trans (hb.mono h.be.size),h.ge⟩
theorem FZ.step{w wz w':World}{s g:Nat}{pv:Value}{F:List Ds}{P P':SS}(h:FZ w wz s g pv F P)(hs:Dg w' s g pv P')(ho:D4 s g wz w'):FZ w w' s g pv F P':=
 ⟨hs,h.pk.on ho,ho.at_ h.bx (by have:=h.ge;omega) (by have:=h.ge;omega),h.be.trans (ho.below (by have:=h.ge;omega) (by have:=h.ge;omega) h.be.size),h.ge⟩
theorem Xo{l:List Int}{m:Rd}(hG:Cr w)(hp:AV l=some m)(hW:Bj F m.st)(hl:F.length<=20)(ao:Option Addr)(cap:Nat)(ar:F.length≠0->∃g0,ao=some ⟨g0,0,none⟩/\Cc w g0 F):
  Calls prog 19 #[.agg #[.slice ao F.length cap]] w (Oe w F):=by
 have hD:∀k,k<F.length->DQ (F.getD k (AC 0 0)):=λk hk=>JI hp hW hk;have ai:Hid (∀c,Calls prog 51 #[.agg #[.slice ao F.length cap]] c λx w'=>∃g,x=.returned (.slice (some ⟨g,0,none⟩) (F.length+1) 21)/\Hid (c.heap.size<=g/\VL w' g (F.length+1)/\dc c w')):=λc=>(Pj ao F.length cap hl).mono λx w' ⟨g,h1,h2,h3,h4⟩=>⟨g,h1,h2,h3,h4⟩
 obtain⟨pv,ap⟩:∃pv,pv=Value.slice ao F.length cap:=⟨_,rfl⟩
 have H0:Hid (At (w.alloc (.cells #[pv] JP)) w.heap.size #[pv] JP/\dc w (w.alloc (.cells #[pv] JP))):=⟨At.new _ _ _,(bC _ _).alloc (bB _) _⟩
 have c0:(w.alloc (.cells #[pv] JP)).cell? ⟨w.heap.size,0,none⟩=some pv:=H0.out.1.cell 0;have aP:Hid (∀g,(#[pv,.slice (some ⟨g,0,none⟩) (F.length+1) 21,.bool false]:Array Value).all (·.oneCell')=true):=λg=>by
  rw[ap];refine Array.all_eq_true_iff_forall_mem.2 λv hv=>?_;simp at hv;rcases hv with rfl|rfl|rfl<;>rfl
 obtain⟨M0,aj⟩:∃M0:Nat->Int,M0=λ_=>0:=⟨_,rfl⟩
 have hz:∀w,(zeroValue tO).run prog w=.ok (.agg (oc false M0)) w:=by rw[aj];exact Bn
 have aZ:(oc false M0).size=65:=Am _ _;have a0:¬oc false M0=#[]:=λh=>by have:=congrArg Array.size h;rw[Am]at this;simp at this
 have aL:Hid (∀c:World,∃w2,(storeCells ⟨c.heap.size,0,none⟩ (oc false M0).toList).run prog (c.alloc (.cells (oc false M0) tO))=.ok () w2/\AL w2 c.heap.size false M0/\dc c w2/\c.heap.size<w2.heap.size):=by rw[aj];exact λc=>Bb c false _
 have aO:Hid (∀c,Calls prog 52 #[] c λe w'=>e=.returned (.agg (oc false M0))/\dc c w'):=by rw[aj];exact λc=>N2
 have aK:Hid (∀c s g P,Dg c s g pv P->Calls prog 53 #[.pointer (some ⟨s,0,none⟩),.int .i64 0,.agg (oc false M0)] c λx w'=>x=.returned (.tuple #[])/\Dg w' s g pv (DR P 0 false M0)/\D4 s g c w'):=λc s g P h=>Q4 h 0 false M0;have aJ:Hid (GK F.length=DR (List.replicate (F.length+1) p0,false) 0 false M0):=by rw[aj];rfl
 have X:Hid (Bf (GK F.length)/\(GK F.length).1.length=F.length+1/\F9 F (2685334-0) (GK F.length)=B3 F):=⟨ID _,MD _,rfl⟩
 clear aj;have aM:Hid (∀Q:SS,Bf Q->Bf (C3 F Q Q.1.length)):=λQ h=>DW h hD _;have an:∀(k:Nat)(x:Ds),F[k]?=some x-> -1<=x.parent/\x.parent<(k:Int):=λk x hx=>hW.par k x hx;have aN:Hid (∀c s g (Q:SS),FZ w c s g pv F Q->Bf Q->Q.1.length=F.length+1->Calls prog 54 #[.pointer (some ⟨s,0,none⟩)] c λx w'=>x=.returned (.tuple #[])/\Dg w' s g pv (C3 F Q Q.1.length)/\D4 s g c w'):=λc s g Q h h1 h2=>Ry h.st (by omega) h.pk hl an (λk hk=>⟨(hD k hk).g,(hD k hk).tg⟩) (λk _=>(DW h1 hD k k).rg);have az:Hid (∀c s g,FZ w c s g pv F (B3 F)->Calls prog 55 #[.pointer (some ⟨s,0,none⟩)] c λx w'=>∃lo lc,x=.returned (.slice lo (F.length+1) lc)/\CX w' (.slice lo (F.length+1) lc) (CM F)/\dc c w'):=λc s g h=>by
  have:=WK (hG.keep h.be hG.size) h.st (by rw[JY];omega) (λk _=>(KA hD k).sm);rw[JY]at this;exact this
 have ay:Hid (∀c v,CX c v (CM F)->Calls prog 56 #[v] c λe w'=>e=.returned (.tuple #[.string (D3 F),.int .i64 0])/\dc c w'):=λc v h=>by
  have:=Sr v (CM F) (by rw[FD];unfold maxLen;omega) h;unfold VI at this;rw[Vk hD hl]at this;exact this
 have ax:Hid (∀c,dc w c->Calls prog 57 #[.agg #[pv],.string (D3 F)] c λe w'=>∃a b,e=.returned (.tuple #[.int .i64 a,.int .i64 b])/\Ad F (AA (D3 F)) (a,b)/\dc c w'):=λc hb=>by
  rw[ap];refine QM (hG.keep hb hG.size) (LS hD hl) hl ?_;intro w2 aU g L hO aX k hk;obtain⟨g0,rfl,hP⟩:=ar (by omega);exact F7 hp hW hl an ((hP.keep hb).keep aU) hO aX hk
 have aA:Hid (∀c s g,dc w c->w.heap.size<s->w.heap.size<g->PK c s g pv F):=λc s g hb h1 h2=>⟨ao,cap,ap,λhn=>by
  obtain⟨g0,e,hP⟩:=ar hn;have:=hP.1
  exact⟨g0,e,by omega,by omega,hP.keep hb⟩⟩
 rw[<-ap]at ai|-;clear ap hG hp hW ar hD an;go_enter func19,ntmps19;go_wp2_with fail;refine wp_region_held (S:=λw'=>w'.cell? ⟨w.heap.size,0,none⟩=some pv) (by kernel_rfl) ?_;change wpAnyH _ _ _ _ _ _ _ _ (World.drew _);have H5:Hid (At (w.alloc (.cells #[pv] JP)).drew w.heap.size #[pv] JP/\dc w (w.alloc (.cells #[pv] JP)).drew):=⟨H0.out.1,H0.out.2.drew⟩
 generalize(w.alloc (.cells #[pv] JP)).drew=w5 at *;have c5:w5.cell? ⟨w.heap.size,0,none⟩=some pv:=H5.out.1.cell 0;refine wpAnyH_take (i:=0) (v:=.agg #[pv]) rfl (by kernel_rfl) (by kernel_rfl) (by kernel_rfl) (λ_ _ _ h=>h) (b_ ⟨by rfl,by intro c aH;have cc:c.cell? ⟨w.heap.size,0,none⟩=some pv:=aH;go_simp⟩) (c5) ?_;simp only[Act.put];refine wpAnyH_take (i:=1) (v:=.agg #[pv]) rfl (by kernel_rfl) (by kernel_rfl) (by kernel_rfl) (λ_ _ _ h=>h) (b_ ⟨by rfl,by intro c aH;have cc:c.cell? ⟨w.heap.size,0,none⟩=some pv:=aH;go_simp⟩) (c5) ?_;simp only[Act.put];refine wpAnyH_ready (rs:=[2,4]) (by kernel_rfl) (by simp) ?_;refine AllReadyH.cons (o:=⟨some 12,.call _,_,_,_,none⟩) rfl (λK hK=>?_) (AllReadyH.cons (o:=⟨some 4,.alloc _,_,_,_,none⟩) rfl (λK hK=>?_) AllReadyH.nil)
 .go_simp;refine(ai.out _).mono ?_;rintro x w6 ⟨g,rfl,HN⟩;have H6:Hid (At w6 w.heap.size #[pv] JP/\dc w w6/\VL w6 g (F.length+1)/\w5.heap.size<=g):=⟨H5.out.1.keep HN.out.2.2 H5.out.1.lt,H5.out.2.trans (HN.out.2.2.mono H5.out.2.size),HN.out.2.1,HN.out.1⟩
  have c6:w6.cell? ⟨w.heap.size,0,none⟩=some pv:=H6.out.1.cell 0;refine hK.out _ _ c6 (λ_=>?_);clear hK K;refine wpAnyH_take (i:=3) (v:=.agg #[pv,.slice (some ⟨g,0,none⟩) (F.length+1) 21,.bool false]) rfl (by kernel_rfl) (by kernel_rfl) (by kernel_rfl) (λ_ _ _ h=>h) (b_ ⟨by rfl,by intro c _;go_simp⟩) (c6) ?_;simp only[Act.put];refine wpAnyH_ready (rs:=[4]) (by kernel_rfl) (by simp) ?_;refine AllReadyH.cons (o:=⟨some 4,.alloc _,_,_,_,none⟩) rfl (λK hK=>?_) AllReadyH.nil;go_simp;have aC:At (w6.alloc (.cells #[.slice none 0 0,.slice none 0 0,.bool false] LG)) w6.heap.size #[.slice none 0 0,.slice none 0 0,.bool false] LG:=At.new _ _ _;have al:dc w6 (w6.alloc (.cells #[.slice none 0 0,.slice none 0 0,.bool false] LG)):=(bC _ _).alloc (bB _) _;refine hK.out _ _ ((al.cell (by exact H6.out.1.lt)).trans c6) (λ_=>?_);clear hK K;refine wpAnyH_ready (rs:=[5]) (by kernel_rfl) (by simp) ?_;refine AllReadyH.cons (o:=⟨none,.store 86 (.tmp 4) (.tmp 13),_,_,_,none⟩) rfl (λK hK=>?_) AllReadyH.nil;rw[bA (by rfl)];obtain⟨au,O⟩:=Ly (pv:=pv) aC (H6.out.2.2.1.keep al);refine wp_store_row 86 (.tmp 4) (.tmp 13) rfl w6.heap.size #[pv,.slice (some ⟨g,0,none⟩) (F.length+1) 21,.bool false] rfl rfl LG _ aC (by kernel_rfl) rfl (aP.out g) ?_;have HZ:Hid (FZ w ((w6.alloc (.cells #[.slice none 0 0,.slice none 0 0,.bool false] LG)).setRow w6.heap.size #[pv,.slice (some ⟨g,0,none⟩) (F.length+1) 21,.bool false]) w6.heap.size g pv F (List.replicate (F.length+1) p0,false)):=by
   have l1:=H6.out.1.lt;have l2:=H5.out.1.lt;have l3:=H6.out.2.2.2;have am:dc w ((w6.alloc (.cells #[.slice none 0 0,.slice none 0 0,.bool false] LG)).setRow w6.heap.size #[pv,.slice (some ⟨g,0,none⟩) (F.length+1) 21,.bool false]):=(H6.out.2.1.trans (al.mono H6.out.2.1.size)).trans (O.below (by omega) (by simp;omega));exact⟨au,aA.out _ _ _ am (by omega) (by omega),O.at_ (H6.out.1.keep al l1) (by omega),am,by omega,by omega⟩
  refine hK.out _ _ (HZ.out.bx.cell 0) (λ_=>?_);clear hK K au O aC al;refine wpAnyH_done (by kernel_rfl) ?_ _;generalize(w6.alloc (.cells #[.slice none 0 0,.slice none 0 0,.bool false] LG)).setRow w6.heap.size #[pv,.slice (some ⟨g,0,none⟩) (F.length+1) 21,.bool false]=wz at *;generalize w6.heap.size=s at *;clear H6 HN H5 c6 c5 H0 c0 ai aA;go_wp2_with fail;refine(aO.out wz).mono ?_;rintro x av ⟨rfl,aa⟩;obtain⟨af,aG,N,ab,aT⟩:=aL.out av;have ac:Hid (AL af av.heap.size false M0/\FZ w af (s) g pv F (List.replicate (F.length+1) p0,false)):=⟨N,(HZ.out.keep aa).keep ab⟩
  clear aa N ab;go_wp2_with (refine AH rfl (.tmp 5) rfl rfl ac.out.1 ?_);refine(aK.out af (s) g _ ac.out.2.st).mono ?_;rintro x aI ⟨rfl,V,R⟩;have aB:Hid (FZ w aI (s) g pv F (GK F.length)):=ac.out.2.step (by rw[aJ.out];exact V) R;clear V R;go_wp2_with fail;go_loopw [6] (λiv wr=>∃(r:Nat)(b:Bool),r<=2685334/\iv=.int .i64 (r:Int)/\Hid (∃Q:SS,FZ w wr (s) g pv F Q/\Bf Q/\Q.1.length=F.length+1/\F9 F (2685334-r) Q=B3 F/\Q.2=b)) (λiv _=>2685334-(intOf iv).toNat);case atStart=>exact⟨0,_,by omega,rfl,_,aB.out,X.out.1,X.out.2.1,X.out.2.2,rfl⟩
  case round=>
   obtain⟨r,b,hr,rfl,HQ⟩:=hrel;obtain⟨Q,hQ⟩:=HQ.out;have d:Hid (FZ w wr (s) g pv F Q/\Bf Q/\Q.1.length=F.length+1/\F9 F (2685334-r) Q=B3 F/\Q.2=b):=hQ;have cb:wr.cell? ⟨s,2,none⟩=some (.bool b):=by
    have:=hQ.1.st.sa.cell 2;rw[this];show some (Value.bool Q.2)=_;rw[hQ.2.2.2.2]
   have aW:=hQ.1.st.sa.lt;clear hQ HQ;have fin:(r=2685334\/b=false)->Q=B3 F:=λh=>by
    rw[<-d.out.2.2.2.1];rcases h with q|q
    .subst q;rfl
    .exact(Jb F _ (d.out.2.2.2.2.trans q)).symm
   have G:Hid ((r=2685334\/b=false)->Q=B3 F):=fin;clear fin;by_cases aq:r<2685334
   .have aF:(r:Int)<2685334:=by omega
    cases b with
    |true=>
     go_wp2_with fail;refine(aN.out wr (s) g Q d.out.1 d.out.2.1 d.out.2.2.1).mono ?_;rintro x aw ⟨rfl,W,T⟩;have ah:Hid (∃J:SS,FZ w aw (s) g pv F J/\Bf J/\J.1.length=F.length+1/\F9 F (2685334-(r+1)) J=B3 F):=⟨_,d.out.1.step W T,aM.out Q d.out.2.1,by rw[DD];exact d.out.2.2.1,by rw[<-W0 F aq d.out.2.2.2.2];exact d.out.2.2.2.1⟩
     clear W T;obtain⟨J,ak⟩:=ah.out;have Y:Hid (FZ w aw (s) g pv F J/\Bf J/\J.1.length=F.length+1/\F9 F (2685334-(r+1)) J=B3 F):=ak;clear ak ah;go_wp2_with fail;go_roundw;case rel=>exact⟨r+1,J.2,by omega,by go_num,J,Y.out.1,Y.out.2.1,Y.out.2.2.1,Y.out.2.2.2,rfl⟩
     case measure=>simp[intOf];omega
    |false=>
     have HE:Hid (Q=B3 F):=G.out (.inr rfl);have I:Hid (FZ w wr (s) g pv F (B3 F)):=by rw[<-HE.out];exact d.out.1
     clear HE G;go_wp2_with fail;clear aF aq hr d cb;refine(az.out wr (s) g I.out).mono ?_;rintro x D ⟨lo,lc,rfl,U,y⟩;have H:Hid (FZ w D (s) g pv F (B3 F)/\CX D (.slice lo (F.length+1) lc) (CM F)):=⟨I.out.keep y,U⟩
     clear U y;go_wp2_with fail;refine(ay.out D _ H.out.2).mono ?_;rintro x E ⟨rfl,z⟩;have j:Hid (FZ w E (s) g pv F (B3 F)):=H.out.1.keep z;clear z;have ae:E.cell? ⟨w.heap.size,0,none⟩=some pv:=j.out.bx.cell 0;go_wp2_with fail;refine(ax.out E j.out.be).mono ?_;rintro x ag ⟨a,ad,rfl,B,A⟩;have u:Hid (Ad F (AA (D3 F)) (a,ad)/\dc w ag):=⟨B,j.out.be.trans (A.mono j.out.be.size)⟩
     clear B A ae;by_cases ha:a=0
     .subst ha;go_wp2_with fail
      go_ret2
      exact⟨u.out.2,_,_,u.out.1,.inl ⟨rfl,rfl⟩⟩
     .go_wp2_with fail
      go_ret2
      exact⟨u.out.2,_,_,u.out.1,.inr ⟨ha,rfl⟩⟩
   .have aE:r=2685334:=by omega
    subst aE;have HE:Hid (Q=B3 F):=G.out (.inl rfl);have I:Hid (FZ w wr (s) g pv F (B3 F)):=by rw[<-HE.out];exact d.out.1
    clear HE G;go_wp2_with fail;refine(az.out wr (s) g I.out).mono ?_;rintro x D ⟨lo,lc,rfl,U,y⟩;have H:Hid (FZ w D (s) g pv F (B3 F)/\CX D (.slice lo (F.length+1) lc) (CM F)):=⟨I.out.keep y,U⟩
    clear U y;go_wp2_with fail;refine(ay.out D _ H.out.2).mono ?_;rintro x E ⟨rfl,z⟩;have j:Hid (FZ w E (s) g pv F (B3 F)):=H.out.1.keep z;clear z;have ae:E.cell? ⟨w.heap.size,0,none⟩=some pv:=j.out.bx.cell 0;go_wp2_with fail;refine(ax.out E j.out.be).mono ?_;rintro x ag ⟨a,ad,rfl,B,A⟩;have u:Hid (Ad F (AA (D3 F)) (a,ad)/\dc w ag):=⟨B,j.out.be.trans (A.mono j.out.be.size)⟩
    clear B A ae;by_cases ha:a=0
    .subst ha;go_wp2_with fail
     go_ret2
     exact⟨u.out.2,_,_,u.out.1,.inl ⟨rfl,rfl⟩⟩
    .go_wp2_with fail
     go_ret2
     exact⟨u.out.2,_,_,u.out.1,.inr ⟨ha,rfl⟩⟩
 .go_simp;have aQ:At (w5.alloc (.cells #[.slice none 0 0,.slice none 0 0,.bool false] LG)) w5.heap.size #[.slice none 0 0,.slice none 0 0,.bool false] LG:=At.new _ _ _;have aD:dc w5 (w5.alloc (.cells #[.slice none 0 0,.slice none 0 0,.bool false] LG)):=(bC _ _).alloc (bB _) _;have aY:(w5.alloc (.cells #[.slice none 0 0,.slice none 0 0,.bool false] LG)).heap.size=w5.heap.size+1:=by simp
  have H6:Hid (At (w5.alloc (.cells #[.slice none 0 0,.slice none 0 0,.bool false] LG)) w.heap.size #[pv] JP/\dc w (w5.alloc (.cells #[.slice none 0 0,.slice none 0 0,.bool false] LG))/\At (w5.alloc (.cells #[.slice none 0 0,.slice none 0 0,.bool false] LG)) w5.heap.size #[.slice none 0 0,.slice none 0 0,.bool false] LG):=⟨H5.out.1.keep aD H5.out.1.lt,H5.out.2.trans (aD.mono H5.out.2.size),aQ⟩
  refine hK.out _ _ (H6.out.1.cell 0) (λ_=>?_);clear hK K aD aQ;have l5:=H5.out.1.lt;generalize hw6:w5.alloc (.cells #[.slice none 0 0,.slice none 0 0,.bool false] LG)=w6 at *;refine wpAnyH_ready (rs:=[2]) (by kernel_rfl) (by simp) ?_;refine AllReadyH.cons (o:=⟨some 12,.call _,_,_,_,none⟩) rfl (λK hK=>?_) AllReadyH.nil;clear hw6;go_simp;refine(ai.out _).mono ?_;rintro x w7 ⟨g,rfl,HN⟩;have H7:Hid (At w7 w.heap.size #[pv] JP/\dc w w7/\At w7 w5.heap.size #[.slice none 0 0,.slice none 0 0,.bool false] LG/\VL w7 g (F.length+1)):=⟨H6.out.1.keep HN.out.2.2 H6.out.1.lt,H6.out.2.1.trans (HN.out.2.2.mono H6.out.2.1.size),H6.out.2.2.keep HN.out.2.2 H6.out.2.2.lt,HN.out.2.1⟩
  have c7:w7.cell? ⟨w.heap.size,0,none⟩=some pv:=H7.out.1.cell 0;have aV:w5.heap.size+1<=g:=by have:=HN.out.1;omega
  refine hK.out _ _ c7 (λ_=>?_);clear hK K;refine wpAnyH_take (i:=3) (v:=.agg #[pv,.slice (some ⟨g,0,none⟩) (F.length+1) 21,.bool false]) rfl (by kernel_rfl) (by kernel_rfl) (by kernel_rfl) (λ_ _ _ h=>h) (b_ ⟨by rfl,by intro c _;go_simp⟩) (c7) ?_;simp only[Act.put];refine wpAnyH_ready (rs:=[5]) (by kernel_rfl) (by simp) ?_;refine AllReadyH.cons (o:=⟨none,.store 86 (.tmp 4) (.tmp 13),_,_,_,none⟩) rfl (λK hK=>?_) AllReadyH.nil;rw[bA (by rfl)];obtain⟨au,O⟩:=Ly (pv:=pv) H7.out.2.2.1 H7.out.2.2.2;refine wp_store_row 86 (.tmp 4) (.tmp 13) rfl w5.heap.size #[pv,.slice (some ⟨g,0,none⟩) (F.length+1) 21,.bool false] rfl rfl LG _ H7.out.2.2.1 (by kernel_rfl) rfl (aP.out g) ?_;have HZ:Hid (FZ w (w7.setRow w5.heap.size #[pv,.slice (some ⟨g,0,none⟩) (F.length+1) 21,.bool false]) w5.heap.size g pv F (List.replicate (F.length+1) p0,false)):=by
   have am:dc w (w7.setRow w5.heap.size #[pv,.slice (some ⟨g,0,none⟩) (F.length+1) 21,.bool false]):=H7.out.2.1.trans (O.below (by omega) H7.out.2.1.size);exact⟨au,aA.out _ _ _ am (by omega) (by omega),O.at_ H7.out.1 (by omega),am,by omega,by omega⟩
  refine hK.out _ _ (HZ.out.bx.cell 0) (λ_=>?_);clear hK K au O;refine wpAnyH_done (by kernel_rfl) ?_ _;generalize w7.setRow w5.heap.size #[pv,.slice (some ⟨g,0,none⟩) (F.length+1) 21,.bool false]=wz at *;clear H6 H7 HN H5 c7 c5 H0 c0 ai aA l5 aY aV;generalize w5.heap.size=s at *;go_wp2_with fail;refine(aO.out wz).mono ?_;rintro x av ⟨rfl,aa⟩;obtain⟨af,aG,N,ab,aT⟩:=aL.out av;have ac:Hid (AL af av.heap.size false M0/\FZ w af (s) g pv F (List.replicate (F.length+1) p0,false)):=⟨N,(HZ.out.keep aa).keep ab⟩
  clear aa N ab;go_wp2_with (refine AH rfl (.tmp 5) rfl rfl ac.out.1 ?_);refine(aK.out af (s) g _ ac.out.2.st).mono ?_;rintro x aI ⟨rfl,V,R⟩;have aB:Hid (FZ w aI (s) g pv F (GK F.length)):=ac.out.2.step (by rw[aJ.out];exact V) R;clear V R;go_wp2_with fail;go_loopw [6] (λiv wr=>∃(r:Nat)(b:Bool),r<=2685334/\iv=.int .i64 (r:Int)/\Hid (∃Q:SS,FZ w wr (s) g pv F Q/\Bf Q/\Q.1.length=F.length+1/\F9 F (2685334-r) Q=B3 F/\Q.2=b)) (λiv _=>2685334-(intOf iv).toNat);case atStart=>exact⟨0,_,by omega,rfl,_,aB.out,X.out.1,X.out.2.1,X.out.2.2,rfl⟩
  case round=>
   obtain⟨r,b,hr,rfl,HQ⟩:=hrel;obtain⟨Q,hQ⟩:=HQ.out;have d:Hid (FZ w wr (s) g pv F Q/\Bf Q/\Q.1.length=F.length+1/\F9 F (2685334-r) Q=B3 F/\Q.2=b):=hQ;have cb:wr.cell? ⟨s,2,none⟩=some (.bool b):=by
    have:=hQ.1.st.sa.cell 2;rw[this];show some (Value.bool Q.2)=_;rw[hQ.2.2.2.2]
   have aW:=hQ.1.st.sa.lt;clear hQ HQ;have fin:(r=2685334\/b=false)->Q=B3 F:=λh=>by
    rw[<-d.out.2.2.2.1];rcases h with q|q
    .subst q;rfl
    .exact(Jb F _ (d.out.2.2.2.2.trans q)).symm
   have G:Hid ((r=2685334\/b=false)->Q=B3 F):=fin;clear fin;by_cases aq:r<2685334
   .have aF:(r:Int)<2685334:=by omega
    cases b with
    |true=>
     go_wp2_with fail;refine(aN.out wr (s) g Q d.out.1 d.out.2.1 d.out.2.2.1).mono ?_;rintro x aw ⟨rfl,W,T⟩;have ah:Hid (∃J:SS,FZ w aw (s) g pv F J/\Bf J/\J.1.length=F.length+1/\F9 F (2685334-(r+1)) J=B3 F):=⟨_,d.out.1.step W T,aM.out Q d.out.2.1,by rw[DD];exact d.out.2.2.1,by rw[<-W0 F aq d.out.2.2.2.2];exact d.out.2.2.2.1⟩
     clear W T;obtain⟨J,ak⟩:=ah.out;have Y:Hid (FZ w aw (s) g pv F J/\Bf J/\J.1.length=F.length+1/\F9 F (2685334-(r+1)) J=B3 F):=ak;clear ak ah;go_wp2_with fail;go_roundw;case rel=>exact⟨r+1,J.2,by omega,by go_num,J,Y.out.1,Y.out.2.1,Y.out.2.2.1,Y.out.2.2.2,rfl⟩
     case measure=>simp[intOf];omega
    |false=>
     have HE:Hid (Q=B3 F):=G.out (.inr rfl);have I:Hid (FZ w wr (s) g pv F (B3 F)):=by rw[<-HE.out];exact d.out.1
     clear HE G;go_wp2_with fail;clear aF aq hr d cb;refine(az.out wr (s) g I.out).mono ?_;rintro x D ⟨lo,lc,rfl,U,y⟩;have H:Hid (FZ w D (s) g pv F (B3 F)/\CX D (.slice lo (F.length+1) lc) (CM F)):=⟨I.out.keep y,U⟩
     clear U y;go_wp2_with fail;refine(ay.out D _ H.out.2).mono ?_;rintro x E ⟨rfl,z⟩;have j:Hid (FZ w E (s) g pv F (B3 F)):=H.out.1.keep z;clear z;have ae:E.cell? ⟨w.heap.size,0,none⟩=some pv:=j.out.bx.cell 0;go_wp2_with fail;refine(ax.out E j.out.be).mono ?_;rintro x ag ⟨a,ad,rfl,B,A⟩;have u:Hid (Ad F (AA (D3 F)) (a,ad)/\dc w ag):=⟨B,j.out.be.trans (A.mono j.out.be.size)⟩
     clear B A ae;by_cases ha:a=0
     .subst ha;go_wp2_with fail
      go_ret2
      exact⟨u.out.2,_,_,u.out.1,.inl ⟨rfl,rfl⟩⟩
     .go_wp2_with fail
      go_ret2
      exact⟨u.out.2,_,_,u.out.1,.inr ⟨ha,rfl⟩⟩
   .have aE:r=2685334:=by omega
    subst aE;have HE:Hid (Q=B3 F):=G.out (.inl rfl);have I:Hid (FZ w wr (s) g pv F (B3 F)):=by rw[<-HE.out];exact d.out.1
    clear HE G;go_wp2_with fail;refine(az.out wr (s) g I.out).mono ?_;rintro x D ⟨lo,lc,rfl,U,y⟩;have H:Hid (FZ w D (s) g pv F (B3 F)/\CX D (.slice lo (F.length+1) lc) (CM F)):=⟨I.out.keep y,U⟩
    clear U y;go_wp2_with fail;refine(ay.out D _ H.out.2).mono ?_;rintro x E ⟨rfl,z⟩;have j:Hid (FZ w E (s) g pv F (B3 F)):=H.out.1.keep z;clear z;have ae:E.cell? ⟨w.heap.size,0,none⟩=some pv:=j.out.bx.cell 0;go_wp2_with fail;refine(ax.out E j.out.be).mono ?_;rintro x ag ⟨a,ad,rfl,B,A⟩;have u:Hid (Ad F (AA (D3 F)) (a,ad)/\dc w ag):=⟨B,j.out.be.trans (A.mono j.out.be.size)⟩
    clear B A ae;by_cases ha:a=0
    .subst ha;go_wp2_with fail
     go_ret2
     exact⟨u.out.2,_,_,u.out.1,.inl ⟨rfl,rfl⟩⟩
    .go_wp2_with fail
     go_ret2
     exact⟨u.out.2,_,_,u.out.1,.inr ⟨ha,rfl⟩⟩
variable {s:ByteArray}
theorem Ad.one{F:List Ds}{b:List Int}{r D:Int×Int}(h:Ad F b r)(f:Ad F b D):r=D:=by
 unfold Ad at h f;cases K:DS b with
 |none=>rw[K]at h f;exact Eq.trans h (Eq.symm f)
 |some L=>
  rw[K]at h f;simp only at h f;split at h
  .rename_i q;rw[bA q]at f;exact h.trans f.symm
  .rename_i q;rw[a_ q]at f;split at h
   .rename_i I;rw[bA I]at f;exact h.trans f.symm
   .rename_i I;rw[a_ I]at f;exact h.one f
def BI(s c:ByteArray)(r:Int×Int):Prop:=
 match AV (AA s)with
 |none=>r=((Bv (AA s)).2.1,(Bv (AA s)).2.2)
 |some _=>Ad (AI s).2 (AA c) r
theorem BI.one{s c:ByteArray}{r D:Int×Int}(h:BI s c r)(f:BI s c D):r=D:=by
 unfold BI at h f;cases j:AV (AA s)with
 |none=>rw[j]at h f;exact Eq.trans h (Eq.symm f)
 |some m=>rw[j]at h f;exact Ad.one h f
def L4(w:World)(s c:ByteArray):Ending->World->Prop:=λe w'=>∃a b,e=.returned (.tuple #[.int .i64 a,.int .i64 b])/\BI s c (a,b)/\dc w w'
theorem RD(E:Cr w)(s c:ByteArray)(G:s.size<=maxLen)(hc:c.size<=maxLen):Calls prog 49 #[.string s,.string c] w (L4 w s c):=by
 have hr:=Hj s w G;have N:=AR s;have C:=I9 s;have A:AV (AA s)=none->∀n:Int,(DX s).2=(1,n)->(∀e w',D8 w s e w'->e=.returned (.tuple #[.agg #[.slice none 0 0],.int .i64 1,.int .i64 n])/\dc w w')->Calls prog 49 #[.string s,.string c] w (L4 w s c):=by
  intro j n hn O;have R:Hid (BI s c (1,n)):=by
   show BI s c (1,n);unfold BI;rw[j];show(1,n)=_;rw[<-C,hn]
  have l:=hr.mono O;clear hr j O G N E C hn hc;go_enter func49,ntmps49;go_wp2_with fail;refine l.mono ?_;rintro e o ⟨rfl,hb⟩;have p:Hid (dc w o):=hb;clear hb l;go_wp2_with fail
  go_ret2
  exact⟨_,_,rfl,R.out,p.out.alloc p.out.size _⟩
 by_cases i:160<s.size
 .refine A (by unfold AV;rw[bA (by omega)]) 0 (by unfold DX;rw[bA i]) ?_;rintro e w' ⟨hb,h|h|h⟩
  .exact⟨h.2,hb⟩
  .exact absurd h.1 (by omega)
  .exact absurd h.1 (by omega)
 rcases BU s (by omega)with⟨hg,j⟩|⟨m,hg,j,hW⟩
 .refine A j _ (by unfold DX;rw[a_ i,a_ (by rw[hg];decide)]) ?_;rintro e w' ⟨hb,h|h|h⟩
  .exact absurd h.1 i
  .exact⟨h.2.2,hb⟩
  .exact absurd h.2.1 (by rw[hg];decide)
 clear A;have y:(AI s).2.length<=20:=(A_ s 22 (-1) 0 0 ((0,false),[]) ⟨bY _,bY _⟩).ok.len
 have l:=hr.mono (R':=λe w'=>∃t cap,e=.returned (.tuple #[.agg #[.slice t (AI s).2.length cap],.int .i64 0,.int .i64 0])/\dc w w'/\((AI s).2.length≠0->∃g,t=some ⟨g,0,none⟩/\Cc w' g (AI s).2)) (by
  rintro e w' ⟨hb,h|h|h⟩
  .exact absurd h.1 i
  .exact absurd h.2.1 (by rw[hg];decide)
  .obtain⟨_,_,v,M,d⟩:=h;have B:=d;obtain⟨_,h2⟩:=B;rcases h2 with⟨rfl,e0⟩|⟨g,cap,_,rfl,_⟩
   .exact⟨none,0,by rw[e0];exact M,hb,λz=>absurd e0 z⟩
   .exact⟨_,cap,M,hb,λ_=>⟨g,rfl,Ee d rfl (d.lt g rfl).2⟩⟩)
 have S:Hid (∀r,Ad (AI s).2 (AA c) r->BI s c r):=λr h=>by unfold BI;rw[j];exact h
 have Q:Hid (∀o t cap,dc w o->((AI s).2.length≠0->∃g,t=some ⟨g,0,none⟩/\Cc o g (AI s).2)->Calls prog 57 #[.agg #[.slice t (AI s).2.length cap],.string c] o λe w'=>∃a b,e=.returned (.tuple #[.int .i64 a,.int .i64 b])/\Ad (AI s).2 (AA c) (a,b)/\dc o w'):=λo t cap hb h=>by
  refine QM (E.keep hb E.size) (by unfold maxLen at hc;omega) y ?_;intro P u g L T H k hk;obtain⟨g0,rfl,U⟩:=h (by omega);exact F7 j hW y (λk x hx=>hW.par k x hx) (U.keep u) T H hk
 clear hr G N i hg j hW C E hc;generalize(AI s).2=F at *;go_enter func49,ntmps49;go_wp2_with fail;refine l.mono ?_;rintro e o ⟨t,cap,rfl,hb,d⟩;have p:Hid (dc w o/\(F.length≠0->∃g,t=some ⟨g,0,none⟩/\Cc o g F)):=⟨hb,d⟩
 clear hb d l;go_wp2_with fail;refine(Q.out _ t cap (p.out.1.alloc p.out.1.size _) (λz=>by obtain⟨g,e,h⟩:=p.out.2 z;exact⟨g,e,h.keep ((bC _ _).alloc (bB _) _)⟩)).mono ?_;rintro e P ⟨a,b,rfl,hs,u⟩;have J:Hid (dc w P/\BI s c (a,b)):=⟨(p.out.1.alloc p.out.1.size _).trans (u.mono (by have:=p.out.1.size;simp;omega)),S.out _ hs⟩
 clear u hs;go_wp2_with fail
 go_ret2
 exact⟨_,_,rfl,J.out.2,J.out.1⟩
def SM(w:World)(s:ByteArray):Ending->World->Prop:=λe w'=>dc w w'/\
 ((AV (AA s)=none/\e=.returned (.tuple #[.string ⟨#[]⟩,.int .i64 1]))\/
  (AV (AA s)≠none/\∃a b,Ad (AI s).2 (AA (D3 (AI s).2)) (a,b)/\((a=0/\e=.returned (.tuple #[.string (D3 (AI s).2),.int .i64 0]))\/(a≠0/\e=.returned (.tuple #[.string ⟨#[]⟩,.int .i64 8])))))
theorem L3(u:Cr w)(s:ByteArray)(x:s.size<=maxLen):Calls prog 5 #[.string s] w (SM w s):=by
 have hr:=Hj s w x;have C:=AR s;have q:AV (AA s)=none->∀n:Int,(∀e w',D8 w s e w'->e=.returned (.tuple #[.agg #[.slice none 0 0],.int .i64 1,.int .i64 n])/\dc w w')->Calls prog 5 #[.string s] w (SM w s):=by
  intro p n D;have H:Hid (AV (AA s)=none):=p;have j:=hr.mono D;clear hr p D x C u;go_enter func5,ntmps5;go_wp2_with fail;refine j.mono ?_;rintro e f ⟨rfl,hb⟩;have o:Hid (dc w f):=hb;clear hb j;go_wp2_with fail
  go_ret2
  exact⟨o.out.alloc o.out.size _,.inl ⟨H.out,rfl⟩⟩
 by_cases i:160<s.size
 .refine q (by unfold AV;rw[bA (by omega)]) 0 ?_;rintro e w' ⟨hb,h|h|h⟩
  .exact⟨h.2,hb⟩
  .exact absurd h.1 (by omega)
  .exact absurd h.1 (by omega)
 rcases BU s (by omega)with⟨hg,p⟩|⟨m,hg,p,hW⟩
 .refine q p (AI s).1.1 ?_;rintro e w' ⟨hb,h|h|h⟩
  .exact absurd h.1 i
  .exact⟨h.2.2,hb⟩
  .exact absurd h.2.1 (by rw[hg];decide)
 clear q;have t:(AI s).2.length<=20:=(A_ s 22 (-1) 0 0 ((0,false),[]) ⟨bY _,bY _⟩).ok.len
 have j:=hr.mono (R':=λe w'=>∃l cap,e=.returned (.tuple #[.agg #[.slice l (AI s).2.length cap],.int .i64 0,.int .i64 0])/\dc w w'/\((AI s).2.length≠0->∃g,l=some ⟨g,0,none⟩/\Cc w' g (AI s).2)) (by
  rintro e w' ⟨hb,h|h|h⟩
  .exact absurd h.1 i
  .exact absurd h.2.1 (by rw[hg];decide)
  .obtain⟨_,_,v,B,d⟩:=h;have r:=d;obtain⟨_,h2⟩:=r;rcases h2 with⟨rfl,e0⟩|⟨g,cap,_,rfl,_⟩
   .exact⟨none,0,by rw[e0];exact B,hb,λz=>absurd e0 z⟩
   .exact⟨_,cap,B,hb,λ_=>⟨g,rfl,Ee d rfl (d.lt g rfl).2⟩⟩)
 have A:Hid (AV (AA s)≠none):=by show _≠_;rw[p];exact λz=>by cases z
 have G:Hid (∀f l cap,dc w f->((AI s).2.length≠0->∃g,l=some ⟨g,0,none⟩/\Cc f g (AI s).2)->Calls prog 19 #[.agg #[.slice l (AI s).2.length cap]] f (Oe f (AI s).2)):=λf l cap hb h=>Xo (u.keep hb u.size) p hW t l cap h;have I:Hid (∀f e w',dc w f->Oe f (AI s).2 e w'->∃c k,e=.returned (.tuple #[.string c,.int .i64 k])/\Hid (SM w s (.returned (.tuple #[.string c,.int .i64 k])) w')):=by
  rintro f e w' hb ⟨h1,a,b,h2,⟨h3,rfl⟩|⟨h3,rfl⟩⟩
  .exact⟨_,_,rfl,hb.trans (h1.mono hb.size),.inr ⟨A.out,a,b,h2,.inl ⟨h3,rfl⟩⟩⟩
  .exact⟨_,_,rfl,hb.trans (h1.mono hb.size),.inr ⟨A.out,a,b,h2,.inr ⟨h3,rfl⟩⟩⟩
 clear hr x C i hg p hW u;generalize(AI s).2=F at *;go_enter func5,ntmps5;go_wp2_with fail;refine j.mono ?_;rintro e f ⟨l,cap,rfl,hb,d⟩;have o:Hid (dc w f/\(F.length≠0->∃g,l=some ⟨g,0,none⟩/\Cc f g F)):=⟨hb,d⟩
 clear hb d j;go_wp2_with fail;refine(G.out _ l cap (o.out.1.alloc o.out.1.size _) (λz=>by obtain⟨g,e,h⟩:=o.out.2 z;exact⟨g,e,h.keep ((bC _ _).alloc (bB _) _)⟩)).mono ?_;intro y w2 E;obtain⟨c,k,rfl,J⟩:=I.out _ _ _ (o.out.1.alloc o.out.1.size _) E;clear E;go_wp2_with fail
 go_ret2
 exact J.out
end Go.Proofs.YtffajooegiempaaGreatDoor
namespace Go.Proofs.YtffajooegiempaaGreatDoor
open Go.RowKit Go.Proofs.Tryz
variable {F:List Ds}{L:List (Option (List Int))}{I:List Int}{s:Ms}
theorem Sb{f:Nat->Bool}{n:Nat}(h:ET f n=true):∀i,i<n->f i=true:=by
 intro i hi;cases e:f i with
 |true=>rfl
 |false=>rw[MA hi e]at h;cases h
structure Bt(F:List Ds)(L:List (Option (List Int))):Prop where
 ok:∀r,r∈L->F_ r
 st:DY false (cE (BG L 0)) (λ_=>0) (cM (BG L 0))=true
 pt:∀k,k<F.length->EK F L k=0
theorem Bt.says(h:Bt F L){k:Nat}(hk:k<F.length):DF (cE (BG L k)) (cM (BG L k)) (F.getD k (AC 0 0))=true/\∀b:Nat,(b:Int)<Ae (F.getD k (AC 0 0)).kind->D0 F L k b=true:=by
 have q:=h.pt k hk;unfold EK at q;cases hs:DF (cE (BG L k)) (cM (BG L k)) (F.getD k (AC 0 0))with
 |false=>rw[hs,bA rfl]at q;cases q
 |true=>
  rw[hs,a_ (by decide)]at q;cases W:ET (D0 F L k) (Ae (F.getD k (AC 0 0)).kind).toNat with
  |false=>rw[W,a_ (by decide)]at q;cases q
  |true=>exact⟨rfl,λb C=>Sb W b (by omega)⟩
end Go.Proofs.YtffajooegiempaaGreatDoor
namespace Go.Proofs.YtffajooegiempaaGreatDoor
open Go.RowKit Go.Proofs.Tryz
abbrev tM:TypeId:=147
def Cf(pv iv:Value)(s:Ms):Array Value:=#[pv,iv,.int .i64 s.used,.int .i64 s.st,.int .i64 s.pt,.int .i64 (AB s.v 0),.int .i64 (AB s.v 1),.int .i64 (AB s.v 2),.int .i64 (AB s.v 3)]
def Ir(w:World)(B:Nat)(iv:Value)(L:List Int):Prop:=
 ∃f cap,iv=.slice f L.length cap/\L.length<=cap/\(L.length≠0->∃b off,f=some ⟨b,off,none⟩/\b<B/\∀i,i<L.length->w.cell? ⟨b,off+i,none⟩=some (.int .i64 (L.getD i 0)))
theorem Ir.keep{w w':World}{B:Nat}{iv:Value}{L:List Int}(h:Ir w B iv L)(hb:Below B w w'):Ir w' B iv L:=by
 obtain⟨f,cap,r,hc,k⟩:=h;refine⟨f,cap,r,hc,λhn=>?_⟩;obtain⟨b,off,l,c,a⟩:=k hn;exact⟨b,off,l,c,λi hi=>(hb.cell (by exact c)).trans (a i hi)⟩
def U_(w:World)(B:Nat)(pv:Value)(F:List Ds):Prop:=
 ∃f cap,pv=.slice f F.length cap/\(F.length≠0->∃g,f=some ⟨g,0,none⟩/\g<B/\Cc w g F)
theorem U_.keep{w w':World}{B:Nat}{pv:Value}{F:List Ds}(h:U_ w B pv F)(hb:Below B w w'):U_ w' B pv F:=by
 obtain⟨f,cap,r,k⟩:=h;refine⟨f,cap,r,λhn=>?_⟩;obtain⟨g,l,c,u⟩:=k hn;refine⟨g,l,c,bM u.1 hb.size,λj x hx=>?_⟩;have hc:∀o,w'.cell? ⟨g,o,none⟩=w.cell? ⟨g,o,none⟩:=λo=>hb.cell (p:=⟨g,o,none⟩) c;simp only[hc];exact u.2 j x hx
def Cy(m:Nat)(w:World)(pv iv:Value)(s:Ms):World->Prop:=λw'=>At w' m (Cf pv iv s) tM/\BC m w w'
variable {w:World}{m:Nat}{pv iv:Value}{L:List Int}{s:Ms}{F:List Ds}
theorem EB(h:At w m (Cf pv iv s) tM):w.cell? ⟨m,0,none⟩=some pv/\w.cell? ⟨m,1,none⟩=some iv/\w.cell? ⟨m,2,none⟩=some (.int .i64 s.used)/\w.cell? ⟨m,3,none⟩=some (.int .i64 s.st)/\w.cell? ⟨m,4,none⟩=some (.int .i64 s.pt)/\
  w.cell? ⟨m,5,none⟩=some (.int .i64 (AB s.v 0))/\w.cell? ⟨m,6,none⟩=some (.int .i64 (AB s.v 1))/\w.cell? ⟨m,7,none⟩=some (.int .i64 (AB s.v 2))/\w.cell? ⟨m,8,none⟩=some (.int .i64 (AB s.v 3))/\∀i,w.frozen? ⟨m,i,none⟩=false:=
 ⟨h.cell 0,h.cell 1,h.cell 2,h.cell 3,h.cell 4,h.cell 5,h.cell 6,h.cell 7,h.cell 8,h.free⟩
theorem Wg(n:Int)(w:World):Calls prog 165 #[.int .i64 n] w λe w'=>e=.returned (.int .i64 (CN n))/\w'=w:=by
 by_cases h1:999<n
 .have d:Hid (CN n=999):=bA h1;go_enter func165,ntmps165;go_wp2_with fail;go_ret;exact⟨by rw[d.out];rfl,rfl⟩
 by_cases h2:n< -999
 .have d:Hid (CN n= -999):=by show CN n=_;unfold CN;rw[a_ h1,bA h2]
  go_enter func165,ntmps165;go_wp2_with fail;go_ret;exact⟨by rw[d.out];rfl,rfl⟩
 .have d:Hid (CN n=n):=by show CN n=_;unfold CN;rw[a_ h1,a_ h2]
  go_enter func165,ntmps165;go_wp2_with fail;go_ret;exact⟨by rw[d.out];rfl,rfl⟩
theorem RH(h:At w m (Cf pv iv s) tM)(hi:Ir w m iv L)(hu:s.used<=L.length)(hL:L.length<=9223372036854775807):
  Calls prog 164 #[.pointer (some ⟨m,0,none⟩)] w λe w'=>e=.returned (.int .i64 (Iy L s.used).1)/\Cy m w pv iv ⟨(Iy L s.used).2,s.st,s.pt,s.v⟩ w':=by
 obtain⟨c0,c1,c2,c3,c4,c5,c6,c7,c8,cf⟩:=EB h;obtain⟨f,cap,rfl,aa,k⟩:=hi;have t:Hid (At w m _ tM):=h;have c:=h.lt;have ac:¬((s.used:Nat):Int)<0:=by omega
 by_cases hb:s.used<L.length
 .obtain⟨b,off,rfl,ab,a⟩:=k (by omega);have cx:=a s.used hb;have d:Hid (Iy L s.used=(L.getD s.used 0,s.used+1)):=bA hb;have ad:((s.used:Nat):Int)<(L.length:Int):=by omega
  have q:¬(L.length:Int)<=((s.used:Nat):Int):=by omega
  clear h k a;generalize L.getD s.used 0=y at *;go_enter func164,ntmps164;go_wp2_with fail;go_quiet (fail);go_wp2_with fail;go_quiet (fail);go_wp2_with fail;go_ret;refine⟨by rw[d.out];rfl,?_,?_⟩
  .rw[d.out];exact(t.out.drewN _).put 2 _
  .exact((BC.refl m w).drewN _).setCell _ _
 .have d:Hid (Iy L s.used=(0,s.used)):=a_ hb;have q:(L.length:Int)<=((s.used:Nat):Int):=by omega
  clear h k;go_enter func164,ntmps164;go_wp2_with fail;go_quiet (fail);go_wp2_with fail;go_ret;refine⟨by rw[d.out];rfl,?_,?_⟩
  .rw[d.out];exact t.out.drewN _
  .exact(BC.refl m w).drewN _
def vv(l:List Int):Value:=.agg #[.int .i64 (AB l 0),.int .i64 (AB l 1),.int .i64 (AB l 2),.int .i64 (AB l 3)]
theorem XD(x:Ds)(l:List Int)(hx:∀i, -1<=AB x.sg i/\AB x.sg i<=1)(b:∀i, -999<=AB l i/\AB l i<=999)(w:World):
  Calls prog 166 #[B0 x,vv l] w λe w'=>e=.returned (.int .i64 (Af x.sg l 4))/\dc w w':=by
 unfold B0 vv;obtain⟨n,p⟩:∃n,n=(w.alloc (.cells #[.int .i64 x.kind,.int .i64 x.target,.bool x.any,.int .i64 (AB x.sg 0),.int .i64 (AB x.sg 1),.int .i64 (AB x.sg 2),.int .i64 (AB x.sg 3),.int .i64 x.num,.int .i64 x.parent,.int .i64 x.block] BB)).alloc (.cells #[.int .i64 (AB l 0),.int .i64 (AB l 1),.int .i64 (AB l 2),.int .i64 (AB l 3)] 117):=⟨_,rfl⟩
 have c:Hid (n=_):=p;clear p;have v:Hid (dc w n):=by rw[c.out];exact((bC _ _).alloc (bB _) _).alloc (by simp) _
 go_enter func166,ntmps166;go_wp2_with fail;go_loopw [5,6] (λs i wr=>∃(j k:Nat),j<=4/\i=.int .i64 j/\s=.int .i64 (Af x.sg l j)/\wr=n.drewN k) (λ_ i _=>4-(intOf i).toNat);case atStart=>exact⟨0,0,by omega,rfl,rfl,c.out.symm⟩
 case round=>
  obtain⟨j,k,hj,rfl,rfl,d⟩:=hrel;have o:Hid (∃k,wr=n.drewN k):=⟨k,d⟩
  have u:∀a,wr.cell? a=n.cell? a:=λa=>by rw[d];rfl
  have q:∀i:Nat,wr.cell? ⟨w.heap.size,i,none⟩=#[.int .i64 x.kind,.int .i64 x.target,.bool x.any,.int .i64 (AB x.sg 0),.int .i64 (AB x.sg 1),.int .i64 (AB x.sg 2),.int .i64 (AB x.sg 3),.int .i64 x.num,.int .i64 x.parent,.int .i64 x.block][i]?:=by
   intro i;rw[u,c.out,cJ _ _ _ (by simp)];exact bL _ _ _ _ rfl
  have r:∀i:Nat,wr.cell? ⟨w.heap.size+1,i,none⟩=#[.int .i64 (AB l 0),.int .i64 (AB l 1),.int .i64 (AB l 2),.int .i64 (AB l 3)][i]?:=by
   intro i;rw[u,c.out];exact bL _ _ _ _ (by simp)
  have y:=q 3;have z:=q 4;have A:=q 5;have B:=q 6;have C:=r 0;have D:=r 1;have E:=r 2;have b3:=r 3;simp at y z A B C D E b3;have aa:w.heap.size+1<wr.heap.size:=by rw[d,c.out];simp
  clear d u q r;rcases(show j=0\/j=1\/j=2\/j=3\/j=4 by omega)with rfl|rfl|rfl|rfl|rfl
  .have t:=Fu (AB x.sg 0) (AB l 0) (hx 0).1 (hx 0).2 (b 0).1 (b 0).2;have hs:=Ct hx b 0;have m:wrap64 (AB x.sg 0*AB l 0)=AB x.sg 0*AB l 0:=by unfold wrap64;omega
   have f:Hid (Af x.sg l (0+1)=Af x.sg l 0+AB x.sg 0*AB l 0):=rfl;have h: -4000<=Af x.sg l 0:=by omega
   have g:Af x.sg l 0<=4000:=by omega
   clear hs;generalize Af x.sg l 0=s at *;go_wp2_with fail;go_quiet (fail);go_wp2_with fail;go_roundw;case rel=>obtain⟨k',e⟩:=o.out;exact⟨0+1,_,by omega,rfl,by rw[f.out],by rw[e];exact Cu _ _ _⟩
   case measure=>simp[intOf]
  .have t:=Fu (AB x.sg 1) (AB l 1) (hx 1).1 (hx 1).2 (b 1).1 (b 1).2;have hs:=Ct hx b 1;have m:wrap64 (AB x.sg 1*AB l 1)=AB x.sg 1*AB l 1:=by unfold wrap64;omega
   have f:Hid (Af x.sg l (1+1)=Af x.sg l 1+AB x.sg 1*AB l 1):=rfl;have h: -4000<=Af x.sg l 1:=by omega
   have g:Af x.sg l 1<=4000:=by omega
   clear hs;generalize Af x.sg l 1=s at *;go_wp2_with fail;go_quiet (fail);go_wp2_with fail;go_roundw;case rel=>obtain⟨k',e⟩:=o.out;exact⟨1+1,_,by omega,rfl,by rw[f.out],by rw[e];exact Cu _ _ _⟩
   case measure=>simp[intOf]
  .have t:=Fu (AB x.sg 2) (AB l 2) (hx 2).1 (hx 2).2 (b 2).1 (b 2).2;have hs:=Ct hx b 2;have m:wrap64 (AB x.sg 2*AB l 2)=AB x.sg 2*AB l 2:=by unfold wrap64;omega
   have f:Hid (Af x.sg l (2+1)=Af x.sg l 2+AB x.sg 2*AB l 2):=rfl;have h: -4000<=Af x.sg l 2:=by omega
   have g:Af x.sg l 2<=4000:=by omega
   clear hs;generalize Af x.sg l 2=s at *;go_wp2_with fail;go_quiet (fail);go_wp2_with fail;go_roundw;case rel=>obtain⟨k',e⟩:=o.out;exact⟨2+1,_,by omega,rfl,by rw[f.out],by rw[e];exact Cu _ _ _⟩
   case measure=>simp[intOf]
  .have t:=Fu (AB x.sg 3) (AB l 3) (hx 3).1 (hx 3).2 (b 3).1 (b 3).2;have hs:=Ct hx b 3;have m:wrap64 (AB x.sg 3*AB l 3)=AB x.sg 3*AB l 3:=by unfold wrap64;omega
   have f:Hid (Af x.sg l (3+1)=Af x.sg l 3+AB x.sg 3*AB l 3):=rfl;have h: -4000<=Af x.sg l 3:=by omega
   have g:Af x.sg l 3<=4000:=by omega
   clear hs;generalize Af x.sg l 3=s at *;go_wp2_with fail;go_quiet (fail);go_wp2_with fail;go_roundw;case rel=>obtain⟨k',e⟩:=o.out;exact⟨3+1,_,by omega,rfl,by rw[f.out],by rw[e];exact Cu _ _ _⟩
   case measure=>simp[intOf]
  .go_wp2_with fail;go_ret;refine⟨rfl,?_⟩;obtain⟨k',e⟩:=o.out;rw[e];exact bD v.out _
theorem Wh(x:Ds)(hx:GI x)(h:At w m (Cf pv iv s) tM)(hi:Ir w m iv L)(l:Dm L s)(E:L.length<=9223372036854775807):
  Calls prog 149 #[.pointer (some ⟨m,0,none⟩),B0 x] w λe w'=>e=.returned (.int .i64 (Dz L x s).1)/\Cy m w pv iv ⟨(Dz L x s).2,s.st,s.pt,s.v⟩ w':=by
 have g:=h.lt;have q:Hid (∀o,dc w (w.alloc o)):=λo=>(bC _ _).alloc (bB _) _;have u:Hid (At w m _ tM):=h;have B:Hid (Ir w m iv L):=hi;have z:Hid (Dm L s):=l;have D:Hid (GI x):=hx;cases c:x.any
 .have d:Hid (Dz L x s=(Af x.sg s.v 4+x.num,s.used)):=by show Dz L x s=_;unfold Dz;rw[c];rfl
  obtain⟨c0,c1,c2,c3,c4,c5,c6,c7,c8,cf⟩:=EB h;have i:=Ct hx.sg l.v 4;obtain⟨aa,ab⟩:=hx.num;have C:Hid (∀j,Below (w.heap.size+1) (w.alloc (.cells (AD x) BB)) j->Calls prog 166 #[B0 x,vv s.v] j λe w'=>e=.returned (.int .i64 (Af x.sg s.v 4))/\w'.cell? ⟨w.heap.size,7,none⟩=some (.int .i64 x.num)/\Hid (dc w w')):=by
   intro j b;refine(XD x s.v D.out.sg z.out.v j).mono ?_;rintro e n ⟨rfl,a⟩;have t:=b.size;simp at t;refine⟨rfl,?_,((q.out _).trans (b.mono (by omega))).trans (a.mono (by omega))⟩;rw[a.cell (by show w.heap.size<_;omega),b.cell (by show w.heap.size<_;omega),bL _ _ _ _ rfl];rfl
  unfold B0 vv AD at *;rw[c]at *;generalize Af x.sg s.v 4=sm at *;have e1: -3996<=sm:=by omega
  have e2:sm<=3996:=by omega
  have G:IntKind.i64.wrap (sm+x.num)=sm+x.num:=by rw[cS];omega
  clear h hi l hx i c;go_enter func149,ntmps149;go_wp2_with fail;go_region_with (go_at_call 166;refine(C.out _ (by first|exact bC _ _|exact(bC _ _).drew)).mono ?_;rintro e j ⟨rfl,hN,A⟩);all_goals
   go_wp2_with fail;go_ret;refine⟨by rw[d.out];first|rfl|(show Ending.returned (Value.int .i64 (IntKind.i64.wrap (sm+x.num)))=_;rw[G]),?_,?_⟩
   .rw[d.out];exact u.out.keep A.out g
   .exact BC.of A.out m
 .have d:Hid (Dz L x s=(CN (Iy L s.used).1,(Iy L s.used).2)):=by show Dz L x s=_;unfold Dz;rw[c];rfl
  have r:Hid (∀w',dc w w'->Calls prog 164 #[.pointer (some ⟨m,0,none⟩)] w' λe n=>e=.returned (.int .i64 (Iy L s.used).1)/\Cy m w' pv iv ⟨(Iy L s.used).2,s.st,s.pt,s.v⟩ n):=
   λw' hb=>RH (u.out.keep hb g) (B.out.keep ⟨hb.os,hb.tape,hb.output,hb.size,λk hk=>hb.block k (by omega)⟩) z.out.used E
  unfold B0 at *;rw[c]at *;generalize Iy L s.used=y at *;clear h hi l hx c;go_enter func149,ntmps149;go_wp2_with fail;refine(r.out _ (q.out _)).mono ?_;rintro e n ⟨rfl,f,a⟩;have p:Hid (At n m _ tM):=f;clear f;go_wp2_with fail;refine(Wg _ _).mono ?_;rintro e w3 ⟨rfl,rfl⟩;go_wp2_with fail;go_ret;refine⟨by rw[d.out];rfl,?_,?_⟩
  .rw[d.out];exact p.out
  .exact(BC.of (q.out _) m).trans a
theorem RG(x:Ds)(hx:GI x)(h:At w m (Cf pv iv s) tM)(hi:Ir w m iv L)(l:Dm L s)(E:L.length<=9223372036854775807):
  Calls prog 151 #[.pointer (some ⟨m,0,none⟩),B0 x] w λe w'=>e=.returned (.bool (Cj L x s).1)/\Cy m w pv iv ⟨(Cj L x s).2,s.st,s.pt,s.v⟩ w':=by
 have g:=h.lt;have q:Hid (∀o,dc w (w.alloc o)):=λo=>(bC _ _).alloc (bB _) _;have u:Hid (At w m _ tM):=h;have B:Hid (Ir w m iv L):=hi;have z:Hid (Dm L s):=l;have D:Hid (GI x):=hx;cases c:x.any
 .have d:Hid (Cj L x s=(decide (Af x.sg s.v 4<=x.num),s.used)):=by show Cj L x s=_;unfold Cj;rw[c];rfl
  obtain⟨c0,c1,c2,c3,c4,c5,c6,c7,c8,cf⟩:=EB h;have i:=Ct hx.sg l.v 4;obtain⟨aa,ab⟩:=hx.num;have C:Hid (∀j,Below (w.heap.size+1) (w.alloc (.cells (AD x) BB)) j->Calls prog 166 #[B0 x,vv s.v] j λe w'=>e=.returned (.int .i64 (Af x.sg s.v 4))/\w'.cell? ⟨w.heap.size,7,none⟩=some (.int .i64 x.num)/\Hid (dc w w')):=by
   intro j b;refine(XD x s.v D.out.sg z.out.v j).mono ?_;rintro e n ⟨rfl,a⟩;have t:=b.size;simp at t;refine⟨rfl,?_,((q.out _).trans (b.mono (by omega))).trans (a.mono (by omega))⟩;rw[a.cell (by show w.heap.size<_;omega),b.cell (by show w.heap.size<_;omega),bL _ _ _ _ rfl];rfl
  unfold B0 vv AD at *;rw[c]at *;generalize Af x.sg s.v 4=sm at *;have e1: -3996<=sm:=by omega
  have e2:sm<=3996:=by omega
  clear h hi l hx i c;go_enter func151,ntmps151;go_wp2_with fail;go_region_with (go_at_call 166;refine(C.out _ (by first|exact bC _ _|exact(bC _ _).drew)).mono ?_;rintro e j ⟨rfl,hN,A⟩);all_goals
   go_wp2_with fail;go_ret;refine⟨by rw[d.out];rfl,?_,?_⟩
   .rw[d.out];exact u.out.keep A.out g
   .exact BC.of A.out m
 .have d:Hid (Cj L x s=((Iy L s.used).1 != 0,(Iy L s.used).2)):=by show Cj L x s=_;unfold Cj;rw[c];rfl
  have r:Hid (∀w',dc w w'->Calls prog 164 #[.pointer (some ⟨m,0,none⟩)] w' λe n=>e=.returned (.int .i64 (Iy L s.used).1)/\Cy m w' pv iv ⟨(Iy L s.used).2,s.st,s.pt,s.v⟩ n):=
   λw' hb=>RH (u.out.keep hb g) (B.out.keep ⟨hb.os,hb.tape,hb.output,hb.size,λk hk=>hb.block k (by omega)⟩) z.out.used E
  unfold B0 at *;rw[c]at *;generalize Iy L s.used=y at *;clear h hi l hx c;go_enter func151,ntmps151;go_wp2_with fail;refine(r.out _ (q.out _)).mono ?_;rintro e n ⟨rfl,f,a⟩;have p:Hid (At n m _ tM):=f;clear f;go_wp2_with fail;go_ret;refine⟨by rw[d.out];rfl,?_,?_⟩
  .rw[d.out];exact p.out
  .exact(BC.of (q.out _) m).trans a
end Go.Proofs.YtffajooegiempaaGreatDoor
