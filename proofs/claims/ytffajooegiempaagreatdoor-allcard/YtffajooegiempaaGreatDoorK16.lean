import Derived.Test.YtffajooegiempaaGreatDoorK15
import Derived.BigRegion
set_option maxRecDepth 100000
set_option maxHeartbeats 6400000
namespace Go.Proofs.YtffajooegiempaaGreatDoor
open Go.RowKit Go.Proofs.Tryz
variable {B:Nat}{w w':World}{r:Nat}{m:Rd}{vs vo:Value}{P Q O:Nat->Nat}
theorem Hg(x:Int)(K:0<=x)(h1:x<=1000):IntKind.i64.wrap x=x:=by
 rw[cS];omega
def FP(w:World)(x:Int):World:=
 ((w.alloc (.cells #[.int .i64 x,.bool false] tB)).alloc (.cells #[.pointer (some ⟨w.heap.size,0,none⟩)] XA)).drew
theorem KO(w:World)(x:Int)(k:Nat)(hk:k<w.heap.size):(FP w x).heap[k]?=w.heap[k]?:=by
 show(((w.heap.push _).push _))[k]?=_;rw[cB,a_ (by simp;omega),cB,a_ (by omega)]
theorem GT(w:World)(x:Int):(FP w x).heap.size=w.heap.size+2:=by
 show(((w.heap.push _).push _)).size=_;simp
theorem Tw(w:World)(x:Int):At (FP w x) w.heap.size #[.int .i64 x,.bool false] tB:=by
 show(((w.heap.push _).push _))[w.heap.size]?=_;rw[cB,a_ (by simp),cB,bA rfl]
theorem PO(w:World)(x:Int):∀(j:Nat)(u:Value),[Value.pointer (some ⟨w.heap.size,0,none⟩)][j]?=some u->(FP w x).cell? ((⟨w.heap.size+1,0,none⟩:Addr).add j)=some u:=by
 intro j u v
 match j,v with
 |0,v=>
  simp at v;subst v;simp only[FP,World.cell?_drew];simp[Addr.add]
theorem Rn{x:Int}{l:World}(h:AZ B w r m vs vo P Q O)(s:(FP w x).grownBy l vo.ownBlock):l.heap[r]?=w.heap[r]?:=
 (s.block r (by rw[GT];have:=h.rd.lt;omega) (λe=>Cq h.ro h.rd (by decide) e.symm)).trans (KO w x r h.rd.lt)
theorem PN{x:Int}{l:World}{u:Value}(h:AZ B w r m vs vo P Q O)(s:(FP w x).grownBy l vo.ownBlock)(q:B<=w.heap.size):Below B w ((l.setCell ⟨r,2,none⟩ u).setCell ⟨r,0,none⟩ (.int .u8 115)):=by
 refine bH (bH ?_ h.geR _) h.geR _;have hb:Below B w (FP w x):=((((bC B w).alloc q _).alloc (by simp;omega) _)).drew;exact hb.grown s (by rw[GT];omega) (λk e=>(h.ro.lt k e).1)
theorem Tv(h:AZ B w r m vs vo P Q O)(hn:0<m.st.length){l:World}{u:Value}(s:(FP w ((m.st.length:Int)-1)).grownBy l vo.ownBlock)
  (g:l.ownsRow B XA 1 u (m.op.length+1) (((List.range m.op.length).map λi=>PR (O i))++[.pointer (some ⟨w.heap.size,0,none⟩)])) (q:B<=w.heap.size):
  AZ B ((l.setCell ⟨r,2,none⟩ u).setCell ⟨r,0,none⟩ (.int .u8 115)) r {m with op:=m.op++[⟨m.st.length-1,false⟩],state:=115} vs u P Q (Kh O m.op.length w.heap.size):=by
 have E:=Tw w ((m.st.length:Int)-1);have e:(m.st.length:Int)-1=((m.st.length-1:Nat):Int):=by omega
 refine(h.pushOp ⟨m.st.length-1,false⟩ u (FP w ((m.st.length:Int)-1)) l (by rw[GT];omega) (KO w _) ?_ s g q).setRd 0 (.int .u8 115) _ rfl rfl rfl;rw[e]at E|-;exact E
theorem AZ.bytePlain(h:AZ B w r m vs vo P Q O)(ag:m.st.length<=20)(af:m.op.length<=4)(hn:0<m.st.length)(q:B<=w.heap.size)(c:Int)(K:0<=c)(h1:c<=255)(hx:m.state=59\/m.state=123):
  Calls prog 58 #[.pointer (some ⟨r,0,none⟩),.int .u8 c] w (D2 B w r (Ac m c)):=by
 obtain⟨G,r1,M,r3,r4,r5,rf⟩:=h.rdc;have geR:=h.geR;rcases hx with hx|hx
 .rw[hx]at G;by_cases hc:c=59
  .subst hc;have n:Hid (Ac m 59=some {m with state:=115}):=by show Ac m 59=_;unfold Ac;rw[bA hx,bA rfl]
   have o:Hid (AZ _ _ _ _ _ _ _ _ _):=h;clear h hx;go_enter func58,ntmps58;go_wp2_with fail;go_ret;exact Aq n.out (bH (bC _ _) geR _) (o.out.setRd 0 (.int .u8 115) _ rfl rfl rfl)
  .have J:(c==59)=false:=by simpa using hc
   have n:Hid (Ac m c=none):=by show Ac m c=_;unfold Ac;rw[bA hx,a_ hc]
   have o:Hid (AZ _ _ _ _ _ _ _ _ _):=h;clear h hx hc;go_enter func58,ntmps58;go_wp2_with fail;go_ret;exact Av n.out (bH (bC _ _) geR _)
 .rw[hx]at G;by_cases hc:c=123
  .subst hc;obtain⟨ao,cap,p⟩:=h.olen;obtain⟨so,ab,t⟩:=h.slen;by_cases h4:m.op.length=4
   .have n:Hid (Ac m 123=none):=by show Ac m 123=_;unfold Ac;rw[hx,a_ (by decide),bA (.inr h4)]
    rw[p,h4]at M;clear h hx h4 p t;go_enter func58,ntmps58;go_wp2_with fail;go_ret;exact Av n.out (bC _ _)
   .have b4:(((m.op.length:Nat):Int)==4)=false:=by simp;omega
    have n:Hid (Ac m 123=some {m with op:=m.op++[⟨m.st.length-1,false⟩],state:=115}):=by
     show Ac m 123=_;unfold Ac;rw[hx,a_ (by decide),a_ (λe=>e.elim (λe=>e rfl) h4)]
    have g:=h.ro;subst p;subst t;have ae:=h.rd.lt;obtain⟨L,hi,z,A,C⟩:=c_ Tryz.infoPB;have o:Hid (AZ _ _ _ _ _ _ _ _ _):=h;have H:Hid (World.ownsRow _ _ _ _ _ _ _):=g;clear h hx h4 g;go_enter func58,ntmps58;go_wp2_with fail;have ah:IntKind.i64.wrap ((m.st.length:Int)-1)=(m.st.length:Int)-1:=by have:=Hg ((m.st.length:Int)-1) (by omega) (by omega);exact this
    go_region_law (refine JT rfl (.tmp 53) (.tmp 62) 51 rfl B XA L (.pointer none) 1 8 underlying51 hi z A C rfl (by decide) _ _ _ rfl (((H.out.alloc _).alloc _).drew) ⟨w.heap.size+1,0,none⟩ 1 1 [.pointer (some ⟨w.heap.size,0,none⟩)] rfl rfl (PO w ((m.st.length:Int)-1)) (by intro u F;simp at F;subst F;rfl) (by unfold maxLen;omega) (by omega) (by simp;omega) ?_;intro v' l d b;obtain⟨g',aa,c',rfl,ad,y,ac⟩:=Fx d (by omega);have f:l.heap[r]?=w.heap[r]?:=Rn o.out b;have k1:∀i,l.cell? ⟨r,i,none⟩=w.cell? ⟨r,i,none⟩:=λi=>World.cell?_of_block (a:=⟨r,i,none⟩) f;have k2:∀i,l.frozen? ⟨r,i,none⟩=w.frozen? ⟨r,i,none⟩:=λi=>World.frozen?_of_block (a:=⟨r,i,none⟩) f;have I:Hid (World.ownsRow _ _ _ _ _ _ _):=d;have D:Hid (World.grownBy _ _ _):=b;clear d b f y)
    all_goals
     go_wp2_with fail;go_ret;exact Aq n.out (PN o.out D.out q) (Tv o.out hn D.out I.out q)
  .have J:(c==123)=false:=by simpa using hc
   have bn:(c != 123)=true:=by simpa using hc
   have n:Hid (Ac m c=none):=by show Ac m c=_;unfold Ac;rw[hx,a_ (by decide),bA (.inl hc)]
   have o:Hid (AZ _ _ _ _ _ _ _ _ _):=h;clear h hx hc;go_enter func58,ntmps58;go_wp2_with fail;go_ret;exact Av n.out (bC _ _)
theorem AZ.start(h:AZ B w r m vs vo P Q O)(ok:Ok m)(A:B<=w.heap.size)(c:Int)(h0:0<=c)(h1:c<=255):
  Calls prog 92 #[.pointer (some ⟨r,0,none⟩),.int .u8 c] w (D2 B w r (AP m c)):=by
 obtain⟨r0,r1,H,r3,r4,r5,rf⟩:=h.rdc;have geR:=h.geR;have ac:=ok.len;have aa:=ok.oplen;obtain⟨ao,cap,k⟩:=h.olen;by_cases q:97<=c/\c<=100
 .obtain⟨v,x⟩:=q;by_cases a:m.st.length=20
  .have d:Hid (AP m c=none):=by show AP m c=_;unfold AP BN;rw[bA ⟨v,x⟩,bA a]
   have b:Hid (AZ _ _ _ _ _ _ _ _ _):=h;have j:Hid (Ok m):=ok;clear h ok;go_enter func92,ntmps92;go_wp2_with (first|(go_at_call 123;refine(As c _ v x).mono ?_;rintro e w' ⟨rfl,rfl⟩)|(go_at_call 124;refine(b.out.beginFull a _ _).mono ?_;rintro e w' ⟨rfl,rfl⟩));go_ret;exact Av d.out (bH (bC _ _) geR _)
  .have d:Hid (AP m c=some {m with st:=m.st++[⟨61,c-97,false,[0,0,0,0],0,0,m.st.length+1⟩],state:=61}):=by
    show AP m c=_;unfold AP BN;rw[bA ⟨v,x⟩,a_ a]
   replace a:m.st.length<20:=by omega
   have b:Hid (AZ _ _ _ _ _ _ _ _ _):=h;have j:Hid (Ok m):=ok;clear h ok;go_enter func92,ntmps92;go_wp2_with (first|(go_at_call 123;refine(As c _ v x).mono ?_;rintro e w' ⟨rfl,rfl⟩)|(go_at_call 124;refine(b.out.begin_ a _ _ A).mono ?_;rintro e w' ⟨rfl,hb,p,C,D,hr⟩;have l:=hr.rdc.1;have n:=hr.rdc.2.2.1;have o:=hr.rdc.2.2.2.2.2.2;have s:Hid (AZ _ _ _ _ _ _ _ _ _):=hr;clear hr));go_ret;exact Aq d.out (bH hb geR _) (s.out.setRd 0 (.int .u8 61) _ rfl rfl rfl)
 by_cases i:c=63\/c=64
 .have y:(c==33)=false:=by rcases i with rfl|rfl<;>rfl
  have z:((c==63)||(c==64))=true:=by rcases i with rfl|rfl<;>rfl
  by_cases a:m.st.length=20
  .have d:Hid (AP m c=none):=by show AP m c=_;unfold AP BN;rw[a_ q,bA i];simp[a]
   subst k;clear z;rcases i with rfl|rfl
   .have b:Hid (AZ _ _ _ _ _ _ _ _ _):=h;have j:Hid (Ok m):=ok;clear h ok;go_enter func92,ntmps92;go_wp2_with (first|(go_at_call 123;refine(AN _ _ (by omega) (by omega) (by omega)).mono ?_;rintro e w' ⟨rfl,rfl⟩)|(go_at_call 124;refine(b.out.beginFull a _ _).mono ?_;rintro e w' ⟨rfl,rfl⟩));go_ret;exact Av d.out (bH (bC _ _) geR _)
   .have b:Hid (AZ _ _ _ _ _ _ _ _ _):=h;have j:Hid (Ok m):=ok;clear h ok;go_enter func92,ntmps92;go_wp2_with (first|(go_at_call 123;refine(AN _ _ (by omega) (by omega) (by omega)).mono ?_;rintro e w' ⟨rfl,rfl⟩)|(go_at_call 124;refine(b.out.beginFull a _ _).mono ?_;rintro e w' ⟨rfl,rfl⟩));go_ret;exact Av d.out (bH (bC _ _) geR _)
  .by_cases h4:m.op.length<4
   .have d:Hid (AP m c=some {m with st:=m.st++[⟨c,0,false,[0,0,0,0],0,0,m.st.length+1⟩],state:=99}):=by
     show AP m c=_;unfold AP BN;rw[a_ q,bA i,bA h4,a_ a]
    replace a:m.st.length<20:=by omega
    have G:decide (((m.op.length:Nat):Int)<4)=true:=by simp;omega
    subst k;clear z;rcases i with rfl|rfl
    .have b:Hid (AZ _ _ _ _ _ _ _ _ _):=h;have j:Hid (Ok m):=ok;clear h ok;go_enter func92,ntmps92;go_wp2_with (first|(go_at_call 123;refine(AN _ _ (by omega) (by omega) (by omega)).mono ?_;rintro e w' ⟨rfl,rfl⟩)|(go_at_call 124;refine(b.out.begin_ a _ _ A).mono ?_;rintro e w' ⟨rfl,hb,p,C,D,hr⟩;have l:=hr.rdc.1;have n:=hr.rdc.2.2.1;have o:=hr.rdc.2.2.2.2.2.2;have s:Hid (AZ _ _ _ _ _ _ _ _ _):=hr;clear hr));go_ret;exact Aq d.out (bH hb geR _) (s.out.setRd 0 (.int .u8 99) _ rfl rfl rfl)
    .have b:Hid (AZ _ _ _ _ _ _ _ _ _):=h;have j:Hid (Ok m):=ok;clear h ok;go_enter func92,ntmps92;go_wp2_with (first|(go_at_call 123;refine(AN _ _ (by omega) (by omega) (by omega)).mono ?_;rintro e w' ⟨rfl,rfl⟩)|(go_at_call 124;refine(b.out.begin_ a _ _ A).mono ?_;rintro e w' ⟨rfl,hb,p,C,D,hr⟩;have l:=hr.rdc.1;have n:=hr.rdc.2.2.1;have o:=hr.rdc.2.2.2.2.2.2;have s:Hid (AZ _ _ _ _ _ _ _ _ _):=hr;clear hr));go_ret;exact Aq d.out (bH hb geR _) (s.out.setRd 0 (.int .u8 99) _ rfl rfl rfl)
   .have d:Hid (AP m c=none):=by show AP m c=_;unfold AP;rw[a_ q,bA i,a_ h4]
    replace a:m.st.length<20:=by omega
    have G:decide (((m.op.length:Nat):Int)<4)=false:=by simp;omega
    clear h4;subst k;clear z;rcases i with rfl|rfl
    .have b:Hid (AZ _ _ _ _ _ _ _ _ _):=h;have j:Hid (Ok m):=ok;clear h ok;go_enter func92,ntmps92;go_wp2_with (first|(go_at_call 123;refine(AN _ _ (by omega) (by omega) (by omega)).mono ?_;rintro e w' ⟨rfl,rfl⟩)|(go_at_call 124;refine(b.out.begin_ a _ _ A).mono ?_;rintro e w' ⟨rfl,hb,p,C,D,hr⟩;have l:=hr.rdc.1;have n:=hr.rdc.2.2.1;have o:=hr.rdc.2.2.2.2.2.2;have s:Hid (AZ _ _ _ _ _ _ _ _ _):=hr;clear hr));go_ret;exact Av d.out (bH hb geR _)
    .have b:Hid (AZ _ _ _ _ _ _ _ _ _):=h;have j:Hid (Ok m):=ok;clear h ok;go_enter func92,ntmps92;go_wp2_with (first|(go_at_call 123;refine(AN _ _ (by omega) (by omega) (by omega)).mono ?_;rintro e w' ⟨rfl,rfl⟩)|(go_at_call 124;refine(b.out.begin_ a _ _ A).mono ?_;rintro e w' ⟨rfl,hb,p,C,D,hr⟩;have l:=hr.rdc.1;have n:=hr.rdc.2.2.1;have o:=hr.rdc.2.2.2.2.2.2;have s:Hid (AZ _ _ _ _ _ _ _ _ _):=hr;clear hr));go_ret;exact Av d.out (bH hb geR _)
 have t:(c==63)=false:=by simp;omega
 have u:(c==64)=false:=by simp;omega
 by_cases g:c=33
 .by_cases a:m.st.length=20
  .have d:Hid (AP m c=none):=by show AP m c=_;unfold AP BN;rw[a_ q,a_ i,bA g,bA a]
   subst g;clear t u;have b:Hid (AZ _ _ _ _ _ _ _ _ _):=h;have j:Hid (Ok m):=ok;clear h ok;go_enter func92,ntmps92;go_wp2_with (first|(go_at_call 123;refine(AN _ _ (by omega) (by omega) (by omega)).mono ?_;rintro e w' ⟨rfl,rfl⟩)|(go_at_call 124;refine(b.out.beginFull a _ _).mono ?_;rintro e w' ⟨rfl,rfl⟩));go_ret;exact Av d.out (bH (bC _ _) geR _)
  .have d:Hid (AP m c=some {m with st:=m.st++[⟨c,0,false,[0,0,0,0],0,0,m.st.length+1⟩],state:=99}):=by
    show AP m c=_;unfold AP BN;rw[a_ q,a_ i,bA g,a_ a]
   replace a:m.st.length<20:=by omega
   subst g;clear t u;have b:Hid (AZ _ _ _ _ _ _ _ _ _):=h;have j:Hid (Ok m):=ok;clear h ok;go_enter func92,ntmps92;go_wp2_with (first|(go_at_call 123;refine(AN _ _ (by omega) (by omega) (by omega)).mono ?_;rintro e w' ⟨rfl,rfl⟩)|(go_at_call 124;refine(b.out.begin_ a _ _ A).mono ?_;rintro e w' ⟨rfl,hb,p,C,D,hr⟩;have l:=hr.rdc.1;have n:=hr.rdc.2.2.1;have o:=hr.rdc.2.2.2.2.2.2;have s:Hid (AZ _ _ _ _ _ _ _ _ _):=hr;clear hr));go_ret;exact Aq d.out (bH hb geR _) (s.out.setRd 0 (.int .u8 99) _ rfl rfl rfl)
 have y:(c==33)=false:=by simpa using g
 by_cases f:c=125
 .by_cases F:0<m.op.length
  .have d:Hid (AP m c=Ba m):=by show AP m c=_;unfold AP;rw[a_ q,a_ i,a_ g,bA ⟨f,F⟩]
   subst f;subst k;clear t u y;have b:Hid (AZ _ _ _ _ _ _ _ _ _):=h;have j:Hid (Ok m):=ok;clear h ok;go_enter func92,ntmps92;go_wp2_with (first|(go_at_call 123;refine(AN _ _ (by omega) (by omega) (by omega)).mono ?_;rintro e w' ⟨rfl,rfl⟩)|(go_at_call 125;refine(b.out.shut j.out F).mono ?_;rintro e w' ⟨rfl,hb,hr⟩));go_ret;exact Bg d.out (bC _ _) hb hr
  .have d:Hid (AP m c=none):=by show AP m c=_;unfold AP;rw[a_ q,a_ i,a_ g,a_ (λe=>F e.2)]
   have E:m.op.length=0:=by omega
   rw[k,E]at H;subst f;clear t u y k F E;have b:Hid (AZ _ _ _ _ _ _ _ _ _):=h;have j:Hid (Ok m):=ok;clear h ok;go_enter func92,ntmps92;go_wp2_with (go_at_call 123;refine(AN _ _ (by omega) (by omega) (by omega)).mono ?_;rintro e w' ⟨rfl,rfl⟩);go_ret;exact Av d.out (bC _ _)
 .have ab:(c==125)=false:=by simpa using f
  have d:Hid (AP m c=none):=by show AP m c=_;unfold AP;rw[a_ q,a_ i,a_ g,a_ (λe=>f e.1)]
  clear f g i;have b:Hid (AZ _ _ _ _ _ _ _ _ _):=h;have j:Hid (Ok m):=ok;clear h ok;go_enter func92,ntmps92;go_wp2_with (go_at_call 123;refine(AN _ _ (by omega) (by omega) q).mono ?_;rintro e w' ⟨rfl,rfl⟩);go_ret;exact Av d.out (bC _ _)
theorem AZ.condM(h:AZ B w r m vs vo P Q O)(ok:Ok m)(hn:0<m.st.length)(p:B<=w.heap.size)(c:Int)(y:0<=c)(h1:c<=255)(hx:m.state=109):
  Calls prog 94 #[.pointer (some ⟨r,0,none⟩),.int .u8 c] w (D2 B w r (AF m c)):=by
 have hc:=h.now hn ok.len;have f:=AZ.curs hn;obtain⟨c0,c1,c2,c3,c4,c5,c6,f7,f8,A,v,x⟩:=h.stc _ _ f;obtain⟨C,r1,r2,r3,q,r5,rf⟩:=h.rdc;have geR:=h.geR;obtain⟨geP,ac⟩:=h.geC hn;obtain⟨ai,aj⟩:=ok.sgn;obtain⟨ag,ah⟩:=ok.nums (cur m) (bR f);have HC:Hid (_=_):=f;clear f;rw[hx]at C;have s:Hid (_=_):=hx;clear hx;have ae:r≠P (m.st.length-1):=λe=>A e.symm;have af:r≠Q (m.st.length-1):=λe=>v e.symm;have ad:P (m.st.length-1)≠Q (m.st.length-1):=λe=>x e.symm;by_cases j:c=59
 .subst j;have i:Hid (AF m 59=Ac {AE m {cur m with num:=if m.neg then -(cur m).num else(cur m).num}with state:=AG m} 59):=by show AF m 59=_;unfold AF;rw[s.out,a_ (by decide),a_ (by decide),a_ (by decide),a_ (by decide),a_ (by decide),a_ (by decide),a_ (by decide),a_ (by decide),bA rfl,bA (by decide)]
  cases a:m.neg
  .rw[a]at q
   have o:Hid (AF m 59=Ac {m with state:=AG m} 59):=i.out.trans (by
    have e:({cur m with num:=if m.neg then -(cur m).num else(cur m).num}:St)=cur m:=by rw[a];rfl
    rw[e,Hy hn])
   clear a i;have g:Hid (AZ _ _ _ _ _ _ _ _ _):=h;have b:Hid (Ok m):=ok;clear h ok;go_enter func94,ntmps94;go_wp2_with (first|(go_at_call 126;refine hc.mono ?_;rintro e w' ⟨rfl,k,rfl⟩)|(go_at_call 123;refine(AN _ _ (by omega) (by omega) (by omega)).mono ?_;rintro e w' ⟨rfl,rfl⟩));have e1:=g.out.drewN k;refine(e1.behind (by first|exact hn|(rw[BL];exact hn)) (by first|exact b.out.len|(rw[BL];exact b.out.len))).mono ?_;rintro e w' ⟨rfl,k2,rfl⟩;have e2:=(g.out.drewN (k+k2)).setRd 0 (.int .u8 (AG m)) {m with state:=AG m} rfl rfl rfl;have n:Hid (AZ _ _ _ _ _ _ _ _ _):=e2;clear e1 e2;go_wp2_with fail;refine(n.out.bytePlain (by first|exact b.out.len|(show(AE _ _).st.length<=20;rw[BL];exact b.out.len)) b.out.oplen (by first|exact hn|(show 0<(AE _ _).st.length;rw[BL];exact hn)) (by simpa using p) _ (by omega) (by omega) (by show AG _=59\/AG _=123;exact Dh _)).mono ?_;rintro e w' ⟨rfl,hb,hr⟩;go_wp2;go_ret;exact Bg o.out (bH (bD (bC _ _) _) geR _) hb hr
  .rw[a]at q;have o:Hid (AF m 59=Ac {AE m {cur m with num:= -(cur m).num}with state:=AG m} 59):=i.out.trans (by rw[a];rfl);have l:Hid (AG (AE m {cur m with num:= -(cur m).num})=AG m):=by show AG _=_;unfold AG;rw[Hi hn]
   clear a i;have g:Hid (AZ _ _ _ _ _ _ _ _ _):=h;have b:Hid (Ok m):=ok;clear h ok;go_enter func94,ntmps94;go_wp2_with (first|(go_at_call 126;refine hc.mono ?_;rintro e w' ⟨rfl,k,rfl⟩)|(go_at_call 123;refine(AN _ _ (by omega) (by omega) (by omega)).mono ?_;rintro e w' ⟨rfl,rfl⟩));have e1:=(g.out.drewN k).setC hn {cur m with num:= -(cur m).num} 4 (.int .i64 (-(cur m).num)) rfl rfl;refine(e1.behind (by first|exact hn|(rw[BL];exact hn)) (by first|exact b.out.len|(rw[BL];exact b.out.len))).mono ?_;rintro e w' ⟨rfl,k2,rfl⟩;have e2:=(e1.drewN k2).setRd 0 (.int .u8 (AG (AE m {cur m with num:= -(cur m).num}))) {(AE m {cur m with num:= -(cur m).num})with state:=AG (AE m {cur m with num:= -(cur m).num})} rfl rfl rfl;have n:Hid (AZ _ _ _ _ _ _ _ _ _):=e2;clear e1 e2;go_wp2_with fail;refine(n.out.bytePlain (by first|exact b.out.len|(show(AE _ _).st.length<=20;rw[BL];exact b.out.len)) b.out.oplen (by first|exact hn|(show 0<(AE _ _).st.length;rw[BL];exact hn)) (by simpa using p) _ (by omega) (by omega) (by show AG _=59\/AG _=123;exact Dh _)).mono ?_;rintro e w' ⟨rfl,hb,hr⟩;go_wp2;go_ret;refine Bg (o.out.trans ?_) (bH (bD (bH (bD (bC _ _) _) geP _) _) geR _) hb hr;rw[l.out]
 by_cases d:c=123
 .subst d;clear j;have i:Hid (AF m 123=Ac {AE m {cur m with num:=if m.neg then -(cur m).num else(cur m).num}with state:=AG m} 123):=by show AF m 123=_;unfold AF;rw[s.out,a_ (by decide),a_ (by decide),a_ (by decide),a_ (by decide),a_ (by decide),a_ (by decide),a_ (by decide),a_ (by decide),bA rfl,bA (by decide)]
  cases a:m.neg
  .rw[a]at q
   have o:Hid (AF m 123=Ac {m with state:=AG m} 123):=i.out.trans (by
    have e:({cur m with num:=if m.neg then -(cur m).num else(cur m).num}:St)=cur m:=by rw[a];rfl
    rw[e,Hy hn])
   clear a i;have g:Hid (AZ _ _ _ _ _ _ _ _ _):=h;have b:Hid (Ok m):=ok;clear h ok;go_enter func94,ntmps94;go_wp2_with (first|(go_at_call 126;refine hc.mono ?_;rintro e w' ⟨rfl,k,rfl⟩)|(go_at_call 123;refine(AN _ _ (by omega) (by omega) (by omega)).mono ?_;rintro e w' ⟨rfl,rfl⟩));have e1:=g.out.drewN k;refine(e1.behind (by first|exact hn|(rw[BL];exact hn)) (by first|exact b.out.len|(rw[BL];exact b.out.len))).mono ?_;rintro e w' ⟨rfl,k2,rfl⟩;have e2:=(g.out.drewN (k+k2)).setRd 0 (.int .u8 (AG m)) {m with state:=AG m} rfl rfl rfl;have n:Hid (AZ _ _ _ _ _ _ _ _ _):=e2;clear e1 e2;go_wp2_with fail;refine(n.out.bytePlain (by first|exact b.out.len|(show(AE _ _).st.length<=20;rw[BL];exact b.out.len)) b.out.oplen (by first|exact hn|(show 0<(AE _ _).st.length;rw[BL];exact hn)) (by simpa using p) _ (by omega) (by omega) (by show AG _=59\/AG _=123;exact Dh _)).mono ?_;rintro e w' ⟨rfl,hb,hr⟩;go_wp2;go_ret;exact Bg o.out (bH (bD (bC _ _) _) geR _) hb hr
  .rw[a]at q;have o:Hid (AF m 123=Ac {AE m {cur m with num:= -(cur m).num}with state:=AG m} 123):=i.out.trans (by rw[a];rfl);have l:Hid (AG (AE m {cur m with num:= -(cur m).num})=AG m):=by show AG _=_;unfold AG;rw[Hi hn]
   clear a i;have g:Hid (AZ _ _ _ _ _ _ _ _ _):=h;have b:Hid (Ok m):=ok;clear h ok;go_enter func94,ntmps94;go_wp2_with (first|(go_at_call 126;refine hc.mono ?_;rintro e w' ⟨rfl,k,rfl⟩)|(go_at_call 123;refine(AN _ _ (by omega) (by omega) (by omega)).mono ?_;rintro e w' ⟨rfl,rfl⟩));have e1:=(g.out.drewN k).setC hn {cur m with num:= -(cur m).num} 4 (.int .i64 (-(cur m).num)) rfl rfl;refine(e1.behind (by first|exact hn|(rw[BL];exact hn)) (by first|exact b.out.len|(rw[BL];exact b.out.len))).mono ?_;rintro e w' ⟨rfl,k2,rfl⟩;have e2:=(e1.drewN k2).setRd 0 (.int .u8 (AG (AE m {cur m with num:= -(cur m).num}))) {(AE m {cur m with num:= -(cur m).num})with state:=AG (AE m {cur m with num:= -(cur m).num})} rfl rfl rfl;have n:Hid (AZ _ _ _ _ _ _ _ _ _):=e2;clear e1 e2;go_wp2_with fail;refine(n.out.bytePlain (by first|exact b.out.len|(show(AE _ _).st.length<=20;rw[BL];exact b.out.len)) b.out.oplen (by first|exact hn|(show 0<(AE _ _).st.length;rw[BL];exact hn)) (by simpa using p) _ (by omega) (by omega) (by show AG _=59\/AG _=123;exact Dh _)).mono ?_;rintro e w' ⟨rfl,hb,hr⟩;go_wp2;go_ret;refine Bg (o.out.trans ?_) (bH (bD (bH (bD (bC _ _) _) geP _) _) geR _) hb hr;rw[l.out]
 have ab:(c==59)=false:=by simpa using j
 have aa:(c==123)=false:=by simpa using d
 have i:Hid (AF m c=AT m c false 109):=by show AF m c=_;unfold AF;rw[s.out,a_ (by decide),a_ (by decide),a_ (by decide),a_ (by decide),a_ (by decide),a_ (by decide),a_ (by decide),a_ (by decide),bA rfl,a_ (λe=>e.elim j d)]
 clear j d;by_cases z:97<=c/\c<=100
 .obtain⟨t,u⟩:=z;have g:Hid (AZ _ _ _ _ _ _ _ _ _):=h;have b:Hid (Ok m):=ok;clear h ok;go_enter func94,ntmps94;go_wp2_with (first|(go_at_call 126;refine hc.mono ?_;rintro e w' ⟨rfl,k,rfl⟩)|(go_at_call 123;refine(As c _ t u).mono ?_;rintro e w' ⟨rfl,rfl⟩));refine((g.out.drewN k).digit b.out hn c false y h1 109).mono ?_;rintro e w' ⟨rfl,hb,hr⟩;go_wp2;go_ret;exact Bg i.out (bD (bC _ _) _) hb hr
 .have g:Hid (AZ _ _ _ _ _ _ _ _ _):=h;have b:Hid (Ok m):=ok;clear h ok;go_enter func94,ntmps94;go_wp2_with (first|(go_at_call 126;refine hc.mono ?_;rintro e w' ⟨rfl,k,rfl⟩)|(go_at_call 123;refine(AN _ _ (by omega) (by omega) (by omega)).mono ?_;rintro e w' ⟨rfl,rfl⟩));refine((g.out.drewN k).digit b.out hn c false y h1 109).mono ?_;rintro e w' ⟨rfl,hb,hr⟩;go_wp2;go_ret;exact Bg i.out (bD (bC _ _) _) hb hr
theorem AZ.condZ(h:AZ B w r m vs vo P Q O)(ok:Ok m)(hn:0<m.st.length)(_hB:B<=w.heap.size)(c:Int)(h0:0<=c)(h1:c<=255)(hx:m.state=125):
  Calls prog 94 #[.pointer (some ⟨r,0,none⟩),.int .u8 c] w (D2 B w r (AF m c)):=by
 have hc:=h.now hn ok.len;have b:=AZ.curs hn;obtain⟨c0,c1,c2,c3,c4,c5,c6,f7,f8,D,q,s⟩:=h.stc _ _ b;obtain⟨E,r1,r2,r3,r4,r5,rf⟩:=h.rdc;have geR:=h.geR;obtain⟨geP,af⟩:=h.geC hn;obtain⟨an,ao⟩:=ok.sgn;obtain⟨al,am⟩:=ok.nums (cur m) (bR b);have HC:Hid (_=_):=b;clear b;rw[hx]at E;have i:Hid (_=_):=hx;clear hx;have aj:r≠P (m.st.length-1):=λe=>D e.symm;have ak:r≠Q (m.st.length-1):=λe=>q e.symm;have ah:P (m.st.length-1)≠Q (m.st.length-1):=λe=>s e.symm;have y:=ok.open_ i.out;have l:=ZY y;have ag:=ok.oplen;obtain⟨go,ac,p,d,ae,aa,f,t⟩:=h.rowO y;obtain⟨o0,o1,of,v,u⟩:=h.opc _ _ l;have j:=d (m.op.length-1) (by omega);unfold PR at j;have geO:=h.geO (m.op.length-1) (by omega);have ai:r≠O (m.op.length-1):=λe=>v e.symm;subst p;have z:Hid (m.op[m.op.length-1]?=some (top m)):=l;clear l u t f d;by_cases a:c=123
 .subst a;have g:Hid (AF m 123=some {m with op:=m.op.set (m.op.length-1) {top m with second:=true},state:=115}):=by show AF m 123=_;unfold AF;rw[i.out,a_ (by decide),a_ (by decide),a_ (by decide),a_ (by decide),a_ (by decide),a_ (by decide),a_ (by decide),a_ (by decide),a_ (by decide),bA rfl]
  have x:Hid (AZ _ _ _ _ _ _ _ _ _):=h;have A:Hid (Ok m):=ok;clear h ok;go_enter func94,ntmps94;go_wp2_with (first|(go_at_call 126;refine hc.mono ?_;rintro e w' ⟨rfl,k,rfl⟩)|(go_at_call 123;refine(AN _ _ (by omega) (by omega) (by omega)).mono ?_;rintro e w' ⟨rfl,rfl⟩));go_quiet (fail);go_wp2;go_ret;exact Aq g.out (bH (bH (bD (bC _ _) _) geO _) geR _) (((x.out.drewN _).setBk (m.op.length-1) (top m) {top m with second:=true} z.out 1 (.bool true) _ rfl rfl).setRd 0 (.int .u8 115) _ rfl rfl rfl)
 have ab:(c==123)=false:=by simpa using a
 have ad:(c != 123)=true:=by simpa using a
 have g:Hid (AF m c=none):=by show AF m c=_;unfold AF;rw[i.out,a_ (by decide),a_ (by decide),a_ (by decide),a_ (by decide),a_ (by decide),a_ (by decide),a_ (by decide),a_ (by decide),a_ (by decide),a_ a]
 clear a;have x:Hid (AZ _ _ _ _ _ _ _ _ _):=h;have A:Hid (Ok m):=ok;clear h ok;by_cases C:97<=c/\c<=100
 .obtain⟨n,o⟩:=C;go_enter func94,ntmps94;go_wp2_with (first|(go_at_call 126;refine hc.mono ?_;rintro e w' ⟨rfl,k,rfl⟩)|(go_at_call 123;refine(As c _ n o).mono ?_;rintro e w' ⟨rfl,rfl⟩));go_ret;exact Av g.out (bD (bC _ _) _)
 .go_enter func94,ntmps94;go_wp2_with (first|(go_at_call 126;refine hc.mono ?_;rintro e w' ⟨rfl,k,rfl⟩)|(go_at_call 123;refine(AN _ _ (by omega) (by omega) (by omega)).mono ?_;rintro e w' ⟨rfl,rfl⟩));go_ret;exact Av g.out (bD (bC _ _) _)
theorem AZ.value(h:AZ B w r m vs vo P Q O)(ok:Ok m)(c:Int)(a:0<=c)(h1:c<=255)(hx:m.state=118\/m.state=86\/m.state=120\/m.state=121\/m.state=110):
  Calls prog 93 #[.pointer (some ⟨r,0,none⟩),.int .u8 c] w (D2 B w r (AO m c)):=by
 have hn:=ok.some_ (by omega);rcases hx with hx|hx|hx|hx|hx
 .exact h.valueV ok hn c a h1 hx
 .exact h.valueVV ok hn c a h1 hx
 .exact h.valueX ok hn c a h1 hx
 .exact h.valueY ok hn c a h1 hx
 .exact h.valueN ok hn c a h1 hx
theorem AZ.cond(h:AZ B w r m vs vo P Q O)(ok:Ok m)(b:B<=w.heap.size)(c:Int)(a:0<=c)(h1:c<=255)
  (hx:m.state=99\/m.state=67\/m.state=100\/m.state=101\/m.state=102\/m.state=60\/m.state=98\/m.state=66\/m.state=109\/m.state=125):
  Calls prog 94 #[.pointer (some ⟨r,0,none⟩),.int .u8 c] w (D2 B w r (AF m c)):=by
 have hn:=ok.some_ (by omega);rcases hx with hx|hx|hx|hx|hx|hx|hx|hx|hx|hx
 .exact h.condC ok hn b c a h1 hx
 .exact h.condCC ok hn b c a h1 hx
 .exact h.condD ok hn b c a h1 hx
 .exact h.condE ok hn b c a h1 hx
 .exact h.condF ok hn b c a h1 hx
 .exact h.condL ok hn b c a h1 hx
 .exact h.condB ok hn b c a h1 hx
 .exact h.condBB ok hn b c a h1 hx
 .exact h.condM ok hn b c a h1 hx
 .exact h.condZ ok hn b c a h1 hx
theorem AZ.byte(h:AZ B w r m vs vo P Q O)(ok:Ok m)(b:B<=w.heap.size)(c:Int)(a:0<=c)(h1:c<=255):
  Calls prog 58 #[.pointer (some ⟨r,0,none⟩),.int .u8 c] w (D2 B w r (AM m c)):=by
 obtain⟨f,r1,r2,r3,r4,r5,rf⟩:=h.rdc;have geR:=h.geR;rcases ok.states with hx|hx|hx|hx|hx
 .have d:Hid (AM m c=AP m c):=by show AM m c=_;unfold AM;rw[bA hx]
  have hc:=h.start ok b c a h1;rw[hx]at f;clear hx h ok;go_enter func58,ntmps58;go_wp2_with (go_at_call 92;refine hc.mono ?_;rintro e w' ⟨rfl,hb,hr⟩);go_ret;exact Bg d.out (bC _ _) hb hr
 .rw[hx]at f;by_cases hc:c=61
  .subst hc;have d:Hid (AM m 61=some {m with state:=118}):=by show AM m 61=_;unfold AM;rw[hx,a_ (by decide),bA rfl,bA rfl]
   have g:Hid (AZ _ _ _ _ _ _ _ _ _):=h;clear h ok hx;go_enter func58,ntmps58;go_wp2_with fail;go_ret;exact Aq d.out (bH (bC _ _) geR _) (g.out.setRd 0 (.int .u8 118) _ rfl rfl rfl)
  .have d:Hid (AM m c=none):=by show AM m c=_;unfold AM;rw[hx,a_ (by decide),bA rfl,a_ hc]
   have bc:(c==61)=false:=by simpa using hc
   clear h ok hx hc;go_enter func58,ntmps58;go_wp2_with fail;go_ret;exact Av d.out (bH (bC _ _) geR _)
 .have d:Hid (AM m c=AO m c):=El hx c;have hc:=h.value ok c a h1 hx;have g:Hid (AZ _ _ _ _ _ _ _ _ _):=h;clear h ok;rcases hx with hx|hx|hx|hx|hx;all_goals
   rw[hx]at f;clear hx;go_enter func58,ntmps58;go_wp2_with (go_at_call 93;refine hc.mono ?_;rintro e w' ⟨rfl,hb,hr⟩);go_ret;exact Bg d.out (bC _ _) hb hr
 .rw[Hh hx];exact h.bytePlain ok.len ok.oplen (ok.some_ (by omega)) b c a h1 hx
 .have d:Hid (AM m c=AF m c):=Cd hx c;have hc:=h.cond ok b c a h1 hx;have g:Hid (AZ _ _ _ _ _ _ _ _ _):=h;clear h ok;rcases hx with hx|hx|hx|hx|hx|hx|hx|hx|hx|hx;all_goals
   rw[hx]at f;clear hx;go_enter func58,ntmps58;go_wp2_with (go_at_call 94;refine hc.mono ?_;rintro e w' ⟨rfl,hb,hr⟩);go_ret;exact Bg d.out (bC _ _) hb hr
theorem UK(w:World):AZ w.heap.size (w.alloc (.cells (Ii CY (.slice none 0 0) (.slice none 0 0)) tR)) w.heap.size CY (.slice none 0 0) (.slice none 0 0) id id id where
 rd:=by
  show(w.heap.push _)[w.heap.size]?=_;rw[cB,bA rfl]
 rs:=World.ownsRow_nil _ _ _ _
 ro:=World.ownsRow_nil _ _ _ _
 st:=by intro i s h;simp[CY]at h
 op:=by intro i s h;simp[CY]at h
 injP:=by intro i j h;exact absurd h (by simp[CY])
 injQ:=by intro i j h;exact absurd h (by simp[CY])
 injO:=by intro i j h;exact absurd h (by simp[CY])
 geR:=bB _
 geP:=by intro i h;exact absurd h (by simp[CY])
 geO:=by intro i h;exact absurd h (by simp[CY])
def Js(w:World)(l:List Int):Ending->World->Prop:=λe w'=>
 dc w w'/\w.heap.size<w'.heap.size/\
  match BH CY l 0 with
  |(n,none)=>e=.returned (.tuple #[.pointer (some ⟨w.heap.size,0,none⟩),.int .i64 n,.bool false])
  |(n,some m)=>e=.returned (.tuple #[.pointer (some ⟨w.heap.size,0,none⟩),.int .i64 n,.bool (BS m)])/\Ok m/\∃t r P Q O,AZ w.heap.size w' w.heap.size m t r P Q O
theorem LE{w w':World}{l:List Int}{m:Rd}{k:Nat}{c:Int}(hb:dc w w')(hz:w.heap.size<w'.heap.size)(h:En CY (l.take k)=some m)(hc:l[k]?=some c)(hs:AM m c=none):
  Js w l (.returned (.tuple #[.pointer (some ⟨w.heap.size,0,none⟩),.int .i64 k,.bool false])) w':=by
 refine⟨hb,hz,?_⟩;rw[Hc (n:=0) h hc hs,cU]
theorem FQ{w w':World}{l:List Int}{m:Rd}{t r:Value}{P Q O:Nat->Nat}{b:Bool}{n:Nat}(hb:dc w w')(hz:w.heap.size<w'.heap.size)(h:En CY l=some m)(ok:Ok m)(hr:AZ w.heap.size w' w.heap.size m t r P Q O)(L:BS m=b)(M:l.length=n):
  Js w l (.returned (.tuple #[.pointer (some ⟨w.heap.size,0,none⟩),.int .i64 n,.bool b])) w':=by
 refine⟨hb,hz,?_⟩;rw[EH (n:=0) h,cU,M];exact⟨by rw[L],ok,_,_,_,_,_,hr⟩
theorem OL(s:ByteArray)(w:World)(hs:s.size<=160):
  Calls prog 20 #[.string s] w (Js w (AA s)):=by
 have J:Hid (AZ _ _ _ _ _ _ _ _ _):=UK w;go_enter func20,ntmps20;go_wp2;go_loopw [6] (λi wr=>∃k:Nat,k<=s.size/\i=.int .i64 k/\w.heap.size<wr.heap.size/\dc w wr/\∃m,En CY ((AA s).take k)=some m/\∃t r P Q O,AZ w.heap.size wr w.heap.size m t r P Q O) (λi _=>s.size-(intOf i).toNat);case atStart=>exact⟨0,bY _,rfl,by simp,(bC _ _).alloc (bB _) _,CY,rfl,_,_,_,_,_,J.out⟩
 case round=>
  obtain⟨k,hk,rfl,hz,f,m,g,t,r,P,Q,O,d⟩:=hrel;have ok:=Ok.init.feed g;have B:Hid (_=_):=g;clear g;by_cases x:k<s.size
  .have E:(0:Int)<=((s[k]).toNat:Int):=by omega
   have F:((s[k]).toNat:Int)<=255:=by have:=(s[k]).toNat_lt;omega
   have hc:=d.byte ok (by omega) ((s[k]).toNat:Int) E F;have I:Hid (_=_):=Ck s k x;have K:Hid (_=_):=IG s k x;have A:Hid (Ok m):=ok;have z:Hid (AZ _ _ _ _ _ _ _ _ _):=d;clear ok d;cases o:AM m ((s[k]).toNat:Int)with
   |none=>
    rw[o]at hc;have D:Hid (_=_):=o;clear o;go_wp2_with (go_at_call 58;refine hc.mono ?_;rintro e w' ⟨rfl,hb,hr⟩)
    go_ret3
    exact LE (f.trans hb) (bM hz hb.size) B.out I.out D.out
   |some m'=>
    rw[o]at hc;have D:Hid (_=_):=o;clear o;go_wp2_with (go_at_call 58;refine hc.mono ?_;rintro e w' ⟨rfl,hb,hr⟩);go_roundw;case rel=>exact⟨k+1,by omega,by go_num,bM hz hb.size,f.trans hb,m',by rw[K.out,Lc,B.out];exact D.out,hr m' rfl⟩
    case measure=>simp[intOf];omega
  .have G:k=s.size:=by omega
   have p:(AA s).take k=AA s:=cG (by rw[AR];omega);have q:Hid (En CY (AA s)=some m):=by show En CY (AA s)=some m;rw[<-p];exact B.out
   obtain⟨N,r1,H,r3,r4,r5,rf⟩:=d.rdc;obtain⟨ao,cap,y⟩:=d.olen;rw[y]at H;have ab:=ok.oplen;have A:Hid (Ok m):=ok;have z:Hid (AZ _ _ _ _ _ _ _ _ _):=d;have C:Hid ((AA s).length=s.size):=AR s;clear ok d p G y;by_cases a:m.state=115
   .rw[a]at N;by_cases v:m.op.length=0
    .have u:Hid (BS m=true):=by show BS m=true;simp[BS,a,v]
     rw[v]at H;clear a v;go_wp2;go_quiet (fail);go_wp2
     go_ret3
     exact FQ (bD f _) hz q.out A.out (z.out.drewN _) u.out C.out
    .have u:Hid (BS m=false):=by show BS m=false;simp[BS,v]
     have b0:(((m.op.length:Nat):Int)==0)=false:=by rw[b9];omega
     clear a v;go_wp2;go_quiet (fail);go_wp2
     go_ret3
     exact FQ (bD f _) hz q.out A.out (z.out.drewN _) u.out C.out
   .have u:Hid (BS m=false):=by show BS m=false;simp[BS,a]
    have aa:(m.state==115)=false:=by simpa using a
    clear a;go_wp2;go_quiet (fail);go_wp2
    go_ret3
    exact FQ (bD f _) hz q.out A.out (z.out.drewN _) u.out C.out
theorem Ey(s:ByteArray)(w:World)(g:s.size<=maxLen):
  Calls prog 6 #[.string s] w λe w'=>e=FK (Bv (AA s))/\dc w w':=by
 unfold maxLen at g;have l:=AR s;by_cases h:160<s.size
 .have b:Hid (Bv (AA s)=(0,1,0)):=by show Bv _=_;unfold Bv;rw[bA (by omega)]
  clear l;go_enter func6,ntmps6;go_wp2_with fail
  go_ret3
  exact⟨by rw[b.out];rfl,bC _ _⟩
 .have hr:=OL s w (by omega)
  have b:Hid (Bv (AA s)=match BH CY (AA s) 0 with
   |(n,none)=>(0,1,n)
   |(n,some m)=>if BS m then((m.st.length:Int)+1,0,0)else(0,1,n)):=by show Bv _=_;unfold Bv;rw[a_ (by omega)];rfl
  clear l;rcases hrf:BH CY (AA s) 0 with⟨n,_|m⟩
  .rw[hrf]at b
   have a:=hr.mono (R':=λe w'=>e=.returned (.tuple #[.pointer (some ⟨w.heap.size,0,none⟩),.int .i64 n,.bool false])/\dc w w') (by
    rintro e w' ⟨hb,hz,g⟩;rw[hrf]at g
    exact⟨g,hb⟩)
   clear hr hrf;go_enter func6,ntmps6;go_wp2_with (go_at_call 20;refine a.mono ?_;rintro e w' ⟨rfl,hb⟩)
   go_ret3
   exact⟨by rw[b.out];rfl,hb⟩
  .rw[hrf]at b
   have a:=hr.mono (R':=λe w'=>e=.returned (.tuple #[.pointer (some ⟨w.heap.size,0,none⟩),.int .i64 n,.bool (BS m)])/\dc w w'/\m.st.length<=20/\∃j cap,w'.cell? ⟨w.heap.size,1,none⟩=some (.slice j m.st.length cap)) (by
    rintro e w' ⟨hb,hz,g⟩;rw[hrf]at g;obtain⟨o,ok,vs,vo,P,Q,O,c⟩:=g;obtain⟨j,cap,p⟩:=c.slen
    exact⟨o,hb,ok.len,j,cap,by rw[<-p];exact c.rdc.2.1⟩)
   clear hr hrf;cases i:BS m
   .have d:Hid (Bv (AA s)=(0,1,(n:Int))):=b.out.trans (by simp[i]);rw[i]at a;clear i b;go_enter func6,ntmps6;go_wp2_with (go_at_call 20;refine a.mono ?_;rintro e w' ⟨rfl,hb,k,j,cap,f⟩)
    go_ret3
    exact⟨by rw[d.out];rfl,hb⟩
   .have d:Hid (Bv (AA s)=((m.st.length:Int)+1,0,0)):=b.out.trans (by simp[i]);rw[i]at a;clear i b;go_enter func6,ntmps6;go_wp2_with (go_at_call 20;refine a.mono ?_;rintro e w' ⟨rfl,hb,k,j,cap,f⟩)
    go_ret3
    exact⟨by rw[d.out];rfl,hb⟩
def Ay(S:List St)(i:Nat):Nat->Int
 |0=> -1
 |k+1=>if i<(S.getD k AY).fin then(k:Int)else Ay S i k
def G6(u:St)(i:Nat):Nat:=if u.kind=63/\i<u.mid then u.mid else u.fin
def Bx(S:List St):Nat->Nat->Int
 |0,_=>0
 |n+1,i=>if Ay S i i<0 then((S.getD i AY).fin:Int)
  else if(S.getD i AY).fin<G6 (S.getD (Ay S i i).toNat AY) i then((S.getD i AY).fin:Int)
  else if(S.getD (Ay S i i).toNat AY).kind=64 then Ay S i i
  else Bx S n (Ay S i i).toNat
def DE(u:St):Int:=if u.kind=61\/u.kind=33 then 1 else 2
def BZ(S:List St)(p:Nat)(a:Int):Int:=
 let u:=S.getD p AY
 let f:=Bx S 21 p
 if u.kind=61\/u.kind=33\/(u.kind=64/\a=1)then f
 else if u.kind=64/\u.fin=p+1 then p
 else if u.kind=64 then(p:Int)+1
 else if a=0/\p+1<u.mid then(p:Int)+1
 else if a=1/\u.mid<u.fin then u.mid
 else f
theorem Nw(S:List St)(i:Nat):∀k, -1<=Ay S i k/\Ay S i k<k:=by
 intro k;induction k with
 |zero=>unfold Ay;omega
 |succ k ih=>
  unfold Ay;split
  .omega
  .omega
theorem AZ.gets{j:Nat}(A:j<m.st.length):m.st[j]?=some (m.st.getD j AY):=by rw[bG,bP A];rfl
theorem AZ.slen'(h:AZ B w r m vs vo P Q O):∃y cap,vs=.slice y m.st.length cap:=by
 obtain⟨_,h2⟩:=h.rs;rcases h2 with⟨rfl,e⟩|⟨g,cap,c,rfl,_⟩
 .exact⟨none,0,by rw[e]⟩
 .exact⟨_,cap,rfl⟩
theorem AZ.ways(h:AZ B w r m vs vo P Q O)(p:Int):
  Calls prog 21 #[.pointer (some ⟨r,0,none⟩),.int .i64 p] w λe w'=>e=.returned (.int .i64 (if p<0\/(m.st.length:Int)<=p then 0 else DE (m.st.getD p.toNat AY)))/\w'=w:=by
 obtain⟨y,cap,i⟩:=h.slen';obtain⟨n,r1,o,s,t,v,x⟩:=h.rdc;by_cases z:p<0
 .rw[bA (.inl z)];clear h n o s t v x;go_enter func21,ntmps21;go_wp2_with fail;go_ret;exact⟨rfl,rfl⟩
 by_cases h1:(m.st.length:Int)<=p
 .rw[bA (.inr h1)];rw[i]at r1;clear h n o s t v x;go_enter func21,ntmps21;go_wp2_with fail;go_ret;exact⟨rfl,rfl⟩
 rw[a_ (λe=>e.elim z h1)];obtain⟨k,rfl⟩:∃k:Nat,p=k:=⟨p.toNat,by omega⟩
 rw[bK];have hk:k<m.st.length:=by omega
 obtain⟨g,aa,f,d,_⟩:=h.row (by omega);rw[f]at r1;have hc:w.cell? ⟨g,k,none⟩=some (.pointer (some ⟨P k,0,none⟩)):=d k hk;obtain⟨c0, -⟩:=h.stc k _ (AZ.gets hk);have ac:(k:Int)<(m.st.length:Int):=by omega
 unfold DE;clear h d i f n o s t v x h1;generalize m.st.getD k AY=u at *;generalize P k=q at *;by_cases a:u.kind=61
 .rw[bA (.inl a)];rw[a]at c0;clear a;go_enter func21,ntmps21;go_wp2_with fail;go_ret;exact⟨rfl,rfl⟩
 have l:(u.kind==61)=false:=by simpa using a
 by_cases b:u.kind=33
 .rw[bA (.inr b)];rw[b]at c0;clear b a l;go_enter func21,ntmps21;go_wp2_with fail;go_ret;exact⟨rfl,rfl⟩
 have ab:(u.kind==33)=false:=by simpa using b
 rw[a_ (λe=>e.elim a b)];clear b a;go_enter func21,ntmps21;go_wp2_with fail;go_ret;exact⟨rfl,rfl⟩
def AV(l:List Int):Option Rd:=
 if 160<l.length then none else match(BH CY l 0).2 with
  |none=>none
  |some m=>if BS m then some m else none
theorem EQ{l:List Int}(h:AV l=none):(Bv l).2.1=1:=by
 unfold AV at h;unfold Bv;split at h
 .rename_i e;rw[bA e]
 .rename_i e;rw[a_ e];rcases hr:BH CY l 0 with⟨n,_|m⟩
  .rfl
  .rw[hr]at h;simp only at h|-;cases j:BS m
   .simp
   .rw[j]at h;simp at h
theorem Au{l:List Int}{m:Rd}(h:AV l=some m):l.length<=160/\(∃n,BH CY l 0=(n,some m))/\BS m=true/\Bv l=((m.st.length:Int)+1,0,0):=by
 unfold AV at h;split at h
 .cases h
 .rename_i e;rcases hr:BH CY l 0 with⟨n,_|m'⟩
  .rw[hr]at h;cases h
  .rw[hr]at h;simp only at h;cases j:BS m'
   .rw[j]at h;simp at h
   .rw[j]at h;simp at h;subst h;refine⟨by omega,⟨n,rfl⟩,j,?_⟩;unfold Bv;rw[a_ e,hr];simp[j]
def CK(m:Rd)(p:Int):Int:=if p<0\/(m.st.length:Int)<=p then 0 else DE (m.st.getD p.toNat AY)
def two(x:Int×Int):Ending:=.returned (.tuple #[.int .i64 x.1,.int .i64 x.2])
theorem Gx{s:ByteArray}{m:Rd}(k:AV (AA s)=some m)(w:World):
  Calls prog 20 #[.string s] w λe w'=>∃n:Nat,e=.returned (.tuple #[.pointer (some ⟨w.heap.size,0,none⟩),.int .i64 n,.bool true])/\dc w w'/\m.st.length<=20/\∃q o P Q O,AZ w.heap.size w' w.heap.size m q o P Q O:=by
 obtain⟨G,⟨n,hr⟩,j,_⟩:=Au k;refine(OL s w (by rw[<-AR];exact G)).mono ?_;rintro e w' ⟨hb,_,h⟩;rw[hr]at h;obtain⟨F,ok,d⟩:=h;exact⟨n,by rw[F,j],hb,ok.len,d⟩
theorem Ev(s:ByteArray)(p f:Int)(w:World)(u:s.size<=maxLen)(k:AV (AA s)=none):
  Calls prog 69 #[.string s,.int .i64 p,.int .i64 f] w λe w'=>e=.returned (.tuple #[.pointer none,.int .i64 1])/\dc w w':=by
 have hs:=Ey s w u;have h1:=EQ k;generalize Bv (AA s)=x at *;obtain⟨a,b,c⟩:=x;have h2:b=1:=h1;subst h2;simp only[FK]at hs;clear u k h1;go_enter func69,ntmps69;go_wp2_with fail;refine hs.mono ?_;rintro e z ⟨rfl,hb⟩;go_wp2_with fail
 go_ret2
 exact⟨rfl,hb⟩
theorem Ew(s:ByteArray)(p f:Int)(w:World)(u:s.size<=maxLen){m:Rd}(k:AV (AA s)=some m):
  Calls prog 69 #[.string s,.int .i64 p,.int .i64 f] w λe w'=>dc w w'/\((e=.returned (.tuple #[.pointer none,.int .i64 2])/\(f<0\/CK m p<=f))\/
   (¬(f<0\/CK m p<=f)/\m.st.length<=20/\∃r B q o P Q O,e=.returned (.tuple #[.pointer (some ⟨r,0,none⟩),.int .i64 0])/\AZ B w' r m q o P Q O)):=by
 have hs:=Ey s w u;rw[(Au k).2.2.2]at hs;simp only[FK]at hs;have hr:=λw=>Gx k w;have y:Hid (∀{B:Nat}{w:World}{r:Nat}{q o:Value}{P Q O:Nat->Nat},AZ B w r m q o P Q O->Calls prog 21 #[.pointer (some ⟨r,0,none⟩),.int .i64 p] w λe w'=>e=.returned (.int .i64 (CK m p))/\w'=w):=λh=>h.ways p;clear u k;generalize CK m p=wa at *;by_cases A:f<0
 .go_enter func69,ntmps69;go_wp2_with fail;refine hs.mono ?_;rintro e z ⟨rfl,hb⟩;go_wp2_with fail;refine(hr _).mono ?_;rintro e C ⟨n,rfl,g,i,q,o,P,Q,O,d⟩;have t:Hid (AZ _ _ _ _ _ _ _ _ _):=d;clear d;go_wp2_with fail;refine(y.out t.out).mono ?_;rintro e D ⟨rfl,rfl⟩;go_wp2_with fail
  go_ret2
  exact⟨hb.trans (g.mono hb.size),.inl ⟨rfl,.inl A⟩⟩
 by_cases v:wa<=f
 .go_enter func69,ntmps69;go_wp2_with fail;refine hs.mono ?_;rintro e z ⟨rfl,hb⟩;go_wp2_with fail;refine(hr _).mono ?_;rintro e C ⟨n,rfl,g,i,q,o,P,Q,O,d⟩;have t:Hid (AZ _ _ _ _ _ _ _ _ _):=d;clear d;go_wp2_with fail;refine(y.out t.out).mono ?_;rintro e D ⟨rfl,rfl⟩;go_wp2_with fail
  go_ret2
  exact⟨hb.trans (g.mono hb.size),.inl ⟨rfl,.inr v⟩⟩
 .have E:Hid (¬(f<0\/wa<=f)):=λe=>e.elim A v;go_enter func69,ntmps69;go_wp2_with fail;refine hs.mono ?_;rintro e z ⟨rfl,hb⟩;go_wp2_with fail;refine(hr _).mono ?_;rintro e C ⟨n,rfl,g,i,q,o,P,Q,O,d⟩;have t:Hid (AZ _ _ _ _ _ _ _ _ _):=d;clear d;go_wp2_with fail;refine(y.out t.out).mono ?_;rintro e D ⟨rfl,rfl⟩;go_wp2_with fail
  go_ret2
  exact⟨hb.trans (g.mono hb.size),.inr ⟨E.out,i,_,_,_,_,_,_,_,rfl,t.out⟩⟩
variable {B2:Nat}
theorem AZ.keep(h:AZ B w r m vs vo P Q O)(hb:dc w w'):AZ B w' r m vs vo P Q O where
 rd:=h.rd.keep hb h.rd.lt
 rs:=Ed h.rs (λg c=>hb.block g (h.rs.lt g c).2)
 ro:=Ed h.ro (λg c=>hb.block g (h.ro.lt g c).2)
 st:=λi s hi=>by
  obtain⟨a,b⟩:=h.st i s hi;exact⟨a.keep hb a.lt,b.keep hb b.lt⟩
 op:=λi b hi=>(h.op i b hi).keep hb (h.op i b hi).lt
 injP:=h.injP
 injQ:=h.injQ
 injO:=h.injO
 geR:=h.geR
 geP:=h.geP
 geO:=h.geO
variable {e0:Bool}{M:Nat->Int}{b:Nat}
def DF(e:Bool)(M:Nat->Int)(x:Ds):Bool:=
 if e=true then true else if x.kind=0 then x.any||ftB M x.sg x.num else if x.kind=1 then !x.any&&decide (FC M x.sg<=x.num)else true
theorem S8(x:Ds)(n:x.kind=1)(l:x.any=true):
  Calls prog 82 #[B0 x,.agg (oc false M)] w λe w'=>e=.returned (.bool (DF false M x))/\dc w w':=by
 obtain⟨e0,j⟩:∃e0:Bool,e0=false:=⟨_,rfl⟩
 rw[<-j];obtain⟨d,a⟩:∃d,d=(w.alloc (.cells (AD x) BB)).alloc (.cells (oc e0 M) tO):=⟨_,rfl⟩
 have g:Hid (At d w.heap.size (AD x) BB/\AL d (w.heap.size+1) e0 M/\dc w d/\d.heap.size=w.heap.size+2):=by
  refine⟨by rw[a];exact At.allocH (At.new _ _ _) _,?_,by rw[a];exact((bC _ _).alloc (bB _) _).alloc (by simp) _,by rw[a];simp⟩;have:=At.new (w.alloc (.cells (AD x) BB)) (oc e0 M) tO;rw[show(w.alloc (.cells (AD x) BB)).heap.size=w.heap.size+1 by simp]at this;rw[a];exact this
 have m:d.cell? ⟨w.heap.size+1,0,none⟩=some (.bool e0):=by rw[At.cell g.out.2.1];exact Ib _ _
 have f:=g.out.2.2.1;have h:=g.out.2.1;subst j;have i:Hid (DF false M x=(!x.any&&decide (FC M x.sg<=x.num))):=by show DF false M x=_;unfold DF;rw[a_ (by decide),a_ (by omega),bA n]
 have o:Hid (DF false M x=false):=by show _=false;rw[i.out,l];rfl
 have k:d.drew.cell? ⟨w.heap.size,2,none⟩=some (.bool true):=by rw[<-l];exact g.out.1.cell 2
 have c:Hid (dc w d.drew):=g.out.2.2.1.drew;rw[a]at k c;clear g i;rw[a]at m f h;unfold AD at m f h;unfold B0;unfold AD at k c;rw[n,l]at m f k c|-;clear a;go_enter func82,ntmps82;go_wp2_with fail;go_region;all_goals
  go_wp2_with fail;go_ret;exact⟨BM o.out,c.out⟩
end Go.Proofs.YtffajooegiempaaGreatDoor
