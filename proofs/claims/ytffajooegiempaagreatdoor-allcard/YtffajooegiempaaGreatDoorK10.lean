import Derived.Test.YtffajooegiempaaGreatDoorK9
import Derived.Laws.Rows
import Derived.Laws.Tables
set_option maxRecDepth 100000
set_option maxHeartbeats 6400000
namespace Go.Proofs.YtffajooegiempaaGreatDoor
open Go.RowKit Go.Proofs.Tryz
variable {B:Nat}{w w':World}{r q:Nat}{s:ByteArray}{vf:Value}
theorem Tryz.infoDs:(Tryz.prog.info? BB).map (λi=>(i.zero,i.size,i.bytes))=some (some (.agg #[.int .i64 0,.int .i64 0,.bool false,.int .i64 0,.int .i64 0,.int .i64 0,.int .i64 0,.int .i64 0,.int .i64 0,.int .i64 0]),10,80):=by kernel_rfl
theorem Cb.vlen{z:Zt}(h:Cb B w r s z vf):∃ao cap,vf=.slice ao z.2.length cap:=by
 obtain⟨_,h2⟩:=h.row;rcases h2 with⟨rfl,e⟩|⟨g,cap,c,rfl,_⟩
 .exact⟨none,0,by rw[e]⟩
 .exact⟨_,cap,rfl⟩
theorem JB{P:Program}{aA:Array Oper}{o:Oper}{a:Act}{w:World}{K:Act->World->Prop}{Q:Exit->Act->World->Prop}{E:Prop}
  (J:o.guard=none) (s x:Operand) (t:TypeId) (hop:o.op=Op.call {callee:=Callee.builtin Builtin.append,args:=#[s,x],argTypes:=#[t,t]})
  (base:Nat) (e:TypeId) (i:TypeInfo) (z:Value) (size bytes:Nat) (h1:P.underlying t=some (.slice e)) (h2:P.info? e=some i) (h3:i.zero=some z) (h4:i.size=size) (h5:i.bytes=bytes) (h6:z.cells.size=size) (h7:0<size)
  (v:Value) (n:Nat) (xs:List Value) (hs:a.eval s=v) (hown:w.ownsRow base e size v n xs)
  (ad:Addr) (m c:Nat) (news:List Value) (hx:a.eval x=.slice (some ad) m c) (hn:news.length=m*size) (hc:∀j u,news[j]?=some u->w.cell? (ad.add j)=some u) (h1c:∀u∈news,u.oneCell'=true)
  (b1:n+m<=maxLen) (b2:(n+m)*bytes<=140737488355328) (hbase:base<=w.heap.size)
  (hK:∀d w',w'.ownsRow base e size d (n+m) (xs++news)->w.grownBy w' v.ownBlock->(d.ownBlock=v.ownBlock\/∀g,d.ownBlock=some g->w.heap.size<=g)->K (a.put o.dst d) w'):
  if Region.wanted o (yielded aA a.tmps)=true then Oper.wp P o a w K Q else E:=by
 have hw:Region.wanted o (yielded aA a.tmps)=true:=by simp[Region.wanted,J]
 rw[bA hw];obtain⟨d,w',hr,r2,r3,r4⟩:=GB (P:=P) w base t o.type e i z size bytes h1 h2 h3 h4 h5 h6 h7 v n xs hown ad m c news hn hc h1c b1 b2 hbase;unfold Oper.wp execOp;simp only[hop,resolve,invoke,builtin,Sem.run_bind,Sem.run_pure,Result.andThen_ok,List.map_toArray,List.map_cons,List.map_nil,hs,hx,hr];exact hK d w' r2 r3 r4
theorem Cb.fr{z:Zt}{o:Obj}(h:Cb B w r s z vf)(f:P8 r w.heap.size (w.alloc o) w'){d':Nat×Bool}(hd:D9 w' r s d' vf):Cb B w' r s (d',z.2) vf/\JE r vf vf w w':=by
 have same:∀k,k<w.heap.size->k≠r->w'.heap[k]?=w.heap[k]?:=λk hk hr=>(f.block k (by simp;omega) hr (by omega)).trans (Below.heap_alloc _ _ _ hk);have aw:w.heap.size<=w'.heap.size:=by have:=f.size;simp at this;omega
 exact⟨⟨hd,Ie h.row λg J=>same g (h.row.lt g J).2 (λe=>C_ h.row h.dat (by decide) (by rw[J,e])),h.geR,by have:=h.geW;omega⟩,
  ⟨f.os,f.tape,f.output,aw,λk hk hr _=>same k hk hr,.inl rfl⟩⟩
def Ho(w:World)(x:Ds):World:=(w.alloc (.cells (AD x) BB)).drew
theorem KJ(x:Ds)(k:Nat)(hk:k<w.heap.size):(Ho w x).heap[k]?=w.heap[k]?:=by
 show(w.heap.push _)[k]?=_;rw[cB,a_ (by omega)]
theorem EP(x:Ds):(Ho w x).heap.size=w.heap.size+1:=by show(w.heap.push _).size=_;simp
theorem PA(x:Ds):∀(j:Nat)(u:Value),(AD x).toList[j]?=some u->(Ho w x).cell? ((⟨w.heap.size,0,none⟩:Addr).add j)=some u:=by
 intro j u hj;have ha:At (Ho w x) w.heap.size (AD x) BB:=by
  show(w.heap.push _)[w.heap.size]?=_;rw[cB,bA rfl]
 have e:(⟨w.heap.size,0,none⟩:Addr).add j=⟨w.heap.size,j,none⟩:=by cases j<;>simp[Addr.add]
 rw[e,ha.cell j];simpa using hj
theorem Cb.push{z:Zt}(h:Cb B w r s z vf)(x:Ds){D:World}{d:Value}(J:(Ho w x).grownBy D vf.ownBlock)
  (hown:D.ownsRow B BB 10 d (z.2.length+1) (GE z.2++(AD x).toList)) (hr:d.ownBlock=vf.ownBlock\/∀g,d.ownBlock=some g->(Ho w x).heap.size<=g):
  Cb B (D.setCell ⟨r,3,none⟩ d) r s (z.1,z.2++[x]) d/\JE r vf d w (D.setCell ⟨r,3,none⟩ d):=by
 have aq:r<w.heap.size:=At.lt h.dat;have nr:=C_ h.row h.dat (by decide);have same:∀k,k<w.heap.size->vf.ownBlock≠some k->D.heap[k]?=w.heap[k]?:=λk hk hn=>(J.block k (by rw[EP];omega) (λe=>hn e.symm)).trans (KJ x k hk);have aE:D9 D r s z.1 vf:=At.same h.dat (same r aq nr);have aw:w.heap.size<=D.heap.size:=by have:=J.size;rw[EP]at this;omega
 have aK:d.ownBlock≠some r:=by
  rcases hr with e|e
  .rw[e];exact nr
  .intro e2;have:=e r e2;rw[EP]at this;omega
 refine⟨⟨At.put aE 3 d,?_,h.geR,by have:=h.geW;simp[World.setCell];omega⟩,⟨J.os,J.tape,J.output,by simp[World.setCell];omega,λk hk h1 h2=>?_,?_⟩⟩
 .show(D.setCell ⟨r,3,none⟩ d).ownsRow B BB 10 d (z.2++[x]).length (GE (z.2++[x]));rw[RX,cn,cZ];exact ownsRow_setCell_other hown aK _
 .rw[Below.heap_setCell _ _ _ _ h1];exact same k hk h2
 .rcases hr with e|e
  .exact .inl e
  .exact .inr λg J=>by have:=e g J;rw[EP]at this;omega
theorem Jx(k:Int):0<=An k/\An k<=2:=by
 unfold An;split
 .omega
 split
 .omega
 .omega
theorem BQ.zkeep{x:Ds}{v d:Value}(h:BQ w q x)(z:JE r v d w w')(hl:q<w.heap.size)(hr:q≠r)(hv:v.ownBlock≠some q):BQ w' q x:=At.same h (z.block q hl hr hv)
theorem Z3{v d:Value}(z:JE r v d w w')(hv:v.ownBlock≠some q)(hq:q<w.heap.size):d.ownBlock≠some q:=by
 rcases z.row with e|e
 .rw[e];exact hv
 .intro e2;have:=e q e2;omega
theorem JE.alloc{v d:Value}(h:JE r v d w w')(o:Obj):JE r v d w (w'.alloc o):=
 h.trans ⟨rfl,rfl,rfl,by simp,λk hk _ _=>Below.heap_alloc _ _ _ hk,.inl rfl⟩
theorem Cb.alloc{z:Zt}(h:Cb B w r s z vf)(o:Obj):Cb B (w.alloc o) r s z vf:=⟨h.dat.alloc o,h.row.alloc o,h.geR,by have:=h.geW;simp;omega⟩
theorem Rp{z:Zt}(h:Cb B w r s z vf){x:Ds}{D:World}(J:(Ho w x).grownBy D vf.ownBlock):D.heap[r]?=w.heap[r]?:=
 (J.block r (by rw[EP];have:=At.lt h.dat;omega) (λe=>C_ h.row h.dat (by decide) e.symm)).trans (KJ x r (At.lt h.dat))
theorem Mb{e:TypeId}{size:Nat}{v:Value}{n:Nat}{xs:List Value}(h:w.ownsRow B e size v (n+1) xs):∃g cap,v=.slice (some ⟨g,0,none⟩) (n+1) cap:=by
 obtain⟨_,h2⟩:=h;rcases h2 with⟨_,e⟩|⟨g,cap,c,rfl,_⟩
 .omega
 .exact⟨g,cap,rfl⟩
theorem JS{n:Nat}(H:SP s n)(hs:s.size<=160){z:Zt}(h:Cb B w r s z vf)(hz:QB s z)(aG:z.1.2=false)(p b C:Int)(h0:0<=C)(h1:C<=z.2.length)(hm:Mz z<=n):
  Calls prog 85 #[.pointer (some ⟨r,0,none⟩),.int .i64 p,.int .i64 b,.int .i64 C] w (SV B w r s vf (AU s (AS s n) p b C z)):=by
 obtain⟨ao,cap,af⟩:=h.vlen;obtain⟨r0,r1,r2,r3,rf⟩:=h.dat.cells;have aq:r<w.heap.size:=At.lt h.dat;have aL:=hz.len;have ak:=hz.at_;have HD:Hid (Cb _ _ _ _ _ _):=h;clear h;by_cases O:20<=z.2.length
 .have HT:Hid (AU s (AS s n) p b C z=(Ez z.1,z.2)):=bA O;have ai:z.2.length=20:=by omega
  rw[af,ai]at r3;clear af ai O;go_enter func85,ntmps85;go_wp2_with fail
  go_end0
  rw[HT.out];exact⟨rfl,vf,HD.out.tch ((FT.refl r _).setCell _ _) HD.out.dat.stick,((FT.refl r _).setCell _ _).zfr vf⟩
 have aO:decide ((20:Int)<=(z.2.length:Int))=false:=bT (by omega);have ap:D9 (w.alloc (.cells (AD (AC p b)) BB)) r s z.1 vf:=HD.out.dat.alloc _;have ar:BQ (w.alloc (.cells (AD (AC p b)) BB)) w.heap.size (AC p b):=by
  show(w.heap.push _)[w.heap.size]?=_;rw[cB,bA rfl]
 have hh:=Ou ap ar rfl hs ak C;obtain⟨y,hY⟩:∃y,y=Bo s z.1 (AC p b) C:=⟨_,rfl⟩
 rw[<-hY]at hh;have ax:y.2.1<=s.size:=by rw[hY];exact Ig ak C
 have aN:y.1.sg.length=4:=by rw[hY];exact Rr rfl C
 subst af;clear ap ar;by_cases M:y.2.2=true
 .have HT:Hid (AU s (AS s n) p b C z=(y.2,z.2)):=by show AU _ _ _ _ _ _=_;unfold AU;rw[a_ O,<-hY,bA M]
  have ac:Hid (_=_):=M;clear M hY O;go_enter func85,ntmps85;go_wp2_with fail;refine hh.mono ?_;rintro e W ⟨rfl,A,L,R⟩;have aj:=A.cells.2.2.1;rw[ac.out]at aj;have l:Hid (_/\_):=HD.out.fr R A;clear A L R;go_wp2
  go_end0
  rw[HT.out];exact⟨rfl,_,l.out.1,l.out.2⟩
 .have HT:Hid (AU s (AS s n) p b C z=XJ s (AS s n) z.2.length (C+1) (y.2,z.2++[y.1]) (An y.1.kind).toNat):=by show AU _ _ _ _ _ _=_;unfold AU;rw[a_ O,<-hY,a_ M]
  have Z:y.2.2=false:=by simpa using M
  have ac:Hid (_=_):=Z;obtain⟨i0,hi,aH,aI,aJ⟩:=c_ Tryz.infoDs;have az:QB s (y.2,z.2++[y.1]):=⟨ax,by simp;omega⟩
  have aD:Mz z=21-z.2.length:=by unfold Mz;rw[aG];rfl
  rw[aD]at hm;have au:w.heap.size≠r:=by omega
  have T:(Value.slice ao z.2.length cap).ownBlock≠some w.heap.size:=λe=>by have:=(HD.out.row.lt _ e).2;omega
  clear M Z hY;go_enter func85,ntmps85;go_wp2_with fail;refine hh.mono ?_;rintro e W ⟨rfl,A,L,R⟩;obtain⟨r0,r1,r2,r3,rf⟩:=A.cells;rw[ac.out]at r2;obtain⟨c0,c1,c2,c3,c4,c5,c6,c7,c8,c9,cf⟩:=L.cells;have l:Hid (_/\_):=HD.out.fr R A;have aB:Hid (BQ _ _ _):=L;have aM:r<W.heap.size:=At.lt A;have X:w.heap.size<W.heap.size:=At.lt L;clear A L R;go_wp2_with fail
  go_region_law (refine JB rfl (.tmp 39) (.tmp 41) 41 rfl B BB i0 _ 10 80 underlying41 hi aH aI aJ rfl (by decide) _ _ _ rfl ((l.out.1.row.alloc _).drew) ⟨W.heap.size,0,none⟩ 1 1 (AD y.1).toList rfl rfl (PA y.1) (by intro u hu;simp[AD]at hu;rcases hu with rfl|rfl|rfl|rfl|rfl|rfl|rfl|rfl|rfl|rfl<;>rfl) (by unfold maxLen;show z.2.length+1<=_;omega) (by show(z.2.length+1)*80<=_;omega) (by have:=l.out.1.geW;simp;omega) ?_;intro d D G F Y;have HP:Hid (_/\_):=l.out.1.push y.1 F G Y;have I:D.heap[r]?=W.heap[r]?:=Rp l.out.1 F;have k1:∀i,D.cell? ⟨r,i,none⟩=W.cell? ⟨r,i,none⟩:=λi=>World.cell?_of_block (a:=⟨r,i,none⟩) I;have k2:∀i,D.frozen? ⟨r,i,none⟩=W.frozen? ⟨r,i,none⟩:=λi=>World.frozen?_of_block (a:=⟨r,i,none⟩) I;obtain⟨g',N,rfl⟩:=Mb G;clear G F I Y)
  all_goals
   have ah:Hid (BQ _ _ _):=aB.out.zkeep HP.out.2 X au T;generalize hW4:D.setCell ⟨r,3,none⟩ (.slice (some ⟨g',0,none⟩) (z.2.length+1) N)=W4;have ab:Hid (Cb B W4 r s (y.2,z.2++[y.1]) (.slice (some ⟨g',0,none⟩) (z.2.length+1) N)/\JE r (.slice ao z.2.length cap) (.slice (some ⟨g',0,none⟩) (z.2.length+1) N) W W4/\BQ W4 w.heap.size y.1):=by
    show _/\_/\_;rw[<-hW4];exact⟨HP.out.1,HP.out.2,ah.out⟩
   clear HP ah hW4 k1 k2 r0 r1 r2 r3 rf c0 c1 c2 c3 c4 c5 c6 c7 c8 c9 cf;go_wp2_with fail;go_loopw [10] (λi wr=>∃j:Nat,j<=(An y.1.kind).toNat/\i=.int .i64 j/\BQ wr w.heap.size y.1/\∃v,Cb B wr r s (XJ s (AS s n) z.2.length (C+1) (y.2,z.2++[y.1]) j) v/\JE r (.slice ao z.2.length cap) v W wr) (λi _=>(An y.1.kind).toNat-(intOf i).toNat);case atStart=>exact⟨0,bY _,rfl,ab.out.2.2,_,ab.out.1,ab.out.2.1⟩
   case round=>
    obtain⟨j,hj,rfl,ae,v,am,V⟩:=hrel;obtain⟨c0,c1,c2,c3,c4,c5,c6,c7,c8,c9,cf⟩:=ae.cells;have aC:Hid (BQ _ _ _):=ae;have ag:Hid (Cb _ _ _ _ _ _):=am;clear ae am;have kb:=λ(t:Int) (an:Bool) (g0 g1 g2 g3 n p b:Int) (w:World)=>CQ y.1.kind t an g0 g1 g2 g3 n p b w;have aP:=Jx y.1.kind;generalize An y.1.kind=bl at *;by_cases aQ:(j:Int)<bl
    .go_wp2_with fail;refine(kb _ _ _ _ _ _ _ _ _ _).mono ?_;rintro e w5 ⟨rfl,o,rfl⟩;go_wp2_with fail;have U:=(A_ s n).aft (z.2.length:Int) (C+1) az j;have S:=U.len;simp at S
     have av:=Nd H hs (ag.out.alloc o) U.ok (z.2.length:Int) j (C+1) (by omega) (by omega) (by
      have h5:=U.ok.len;have h6:Mz (XJ s (AS s n) z.2.length (C+1) (y.2,z.2++[y.1]) j)<=21-(z.2.length+1):=by unfold Mz;split<;>omega
      omega)
     refine av.mono ?_;rintro e w6 ⟨rfl,v6,al,ay⟩;have aa:Hid (Cb _ _ _ _ _ _/\JE _ _ _ _ _):=⟨al,ay⟩
     clear av U S al ay;go_wp2;go_roundw;case rel=>exact⟨j+1,by omega,by go_num,((aC.out.alloc o).zkeep aa.out.2 (by have:=V.size;simp;omega) au (Z3 V T X)),v6,aa.out.1,(V.alloc o).trans aa.out.2⟩
     case measure=>simp[intOf];omega
    .go_wp2_with fail;refine(kb _ _ _ _ _ _ _ _ _ _).mono ?_;rintro e w5 ⟨rfl,o,rfl⟩;go_wp2
     go_end0
     have aF:j=bl.toNat:=by omega
     rw[HT.out,<-aF];exact⟨rfl,v,ag.out.alloc o,l.out.2.trans (V.alloc o)⟩
def Zy(r:Nat)(w:World):Nat:=
 match w.cell? ⟨r,2,none⟩,w.cell? ⟨r,3,none⟩with
 |some (.bool b),some (.slice _ n _)=>if b then 0 else 21-n
 |_,_=>0
theorem Tf{z:Zt}(h:Cb B w r s z vf):Zy r w=Mz z:=by
 obtain⟨ao,cap,rfl⟩:=h.vlen;obtain⟨r0,r1,U,V,rf⟩:=h.dat.cells;unfold Zy Mz;rw[U,V]
theorem Cb.drewN{z:Zt}(h:Cb B w r s z vf)(k:Nat):Cb B (w.drewN k) r s z vf:=⟨h.dat,h.row,h.geR,h.geW⟩
theorem JE.drewN{v O:Value}(h:JE r v O w w')(k:Nat):JE r v O w (w'.drewN k):=⟨h.os,h.tape,h.output,h.size,h.block,h.row⟩
theorem Iw(hs:s.size<=160)(n:Nat):SP s n:=by
 induction n using Nat.strongRecOn with
 |ind n ih=>
  intro B r vf w z p b g h hz S h1 T;have Q:Hid (∀m,m<n->SP s m):=ih;have N:=Em h.dat hs (by have:=hz.at_;omega);have P:Hid (Cb _ _ _ _ _ _):=h;clear ih h;go_enter func50,ntmps50;go_wp2_with fail;refine N.mono ?_;rintro e w1 ⟨rfl,k,rfl⟩;clear N;go_wp2_with fail;go_loopw [8] (λc wr=>∃(a:Zt)(m:Nat)(v:Value),m<=n/\Mz a<m/\AS s n p b g z=AS s m p b g a/\c=.int .u8 (pk s a.1)/\QB s a/\g<=a.2.length/\Cb B wr r s a v/\JE r vf v w wr) (λ_ wr=>Zy r wr);case atStart=>exact⟨z,n,vf,bB _,T,rfl,rfl,hz,h1,P.out.drewN k,(JE.refl r vf w).drewN k⟩
  case round=>
   obtain⟨a,m,v,ac,ad,M,rfl,u,J,I,t⟩:=hrel;have G:Hid (_=_):=M;have l:Hid (Cb _ _ _ _ _ _):=I;have D:=Tf I;have H:Hid (_=_):=D;clear M I D;obtain⟨m',rfl⟩:∃m',m=m'+1:=⟨m-1,by omega⟩
   obtain⟨p0,p1⟩:=Dw s a.1;by_cases d:pk s a.1=0
   .have x:Hid (AS s n p b g z=a):=G.out.trans (by unfold AS;rw[bA (.inl d)]);rw[d];clear d;go_wp2_with fail
    go_end0
    rw[x.out];exact⟨rfl,v,l.out,t⟩
   have R:(pk s a.1 != 0)=true:=by rw[cI];exact d
   by_cases f:pk s a.1=125
   .have x:Hid (AS s n p b g z=a):=G.out.trans (by unfold AS;rw[bA (.inr f)]);rw[f];clear d f R;go_wp2_with fail
    go_end0
    rw[x.out];exact⟨rfl,v,l.out,t⟩
   .have b1:(pk s a.1 != 125)=true:=by rw[cI];exact f
    have x:Hid (AS s n p b g z=AS s m' p b g (AU s (AS s m') p b g a)):=G.out.trans (by rw[AS,a_ (λe=>e.elim d f)]);have j:a.1.2=false:=(DA rfl d).2;have F:=(A_ s m').stmt p b g u;have y:=P9 (AS s m') (A_ s m') p b g u j;have o:=JS (Q.out m' (by omega)) hs l.out u j p b g S J (by omega);obtain⟨L,A⟩:∃L,L=AU s (AS s m') p b g a:=⟨_,rfl⟩
    rw[<-A]at o F y x;have aa:=F.ok.at_;have ab:=F.len;have HN:Hid (_=_):=j;clear A d f j;generalize pk s a.1=c at *;go_wp2_with fail;refine o.mono ?_;rintro e w2 ⟨rfl,W,C,E⟩;have i:Hid (Cb _ _ _ _ _ _/\JE _ _ _ _ _):=⟨C,E⟩
    clear o C E;go_wp2_with fail;refine(Em i.out.1.dat hs (by omega)).mono ?_;rintro e w3 ⟨rfl,K,rfl⟩;go_wp2;go_roundw;case rel=>exact⟨L,m',W,by omega,by omega,x.out,rfl,F.ok,by omega,i.out.1.drewN K,(t.trans i.out.2).drewN K⟩
    case measure=>
     have e1:=Tf (i.out.1.drewN K);rw[e1,H.out];exact y
def AI(s:ByteArray):Zt:=AS s 22 (-1) 0 0 ((0,false),[])
def BP(s:ByteArray):Bool:= !(AI s).1.2&&decide (s.size<=(AI s).1.1)
def D8(w:World)(s:ByteArray):Ending->World->Prop:=λe w'=>dc w w'/\
 ((160<s.size/\e=.returned (.tuple #[.agg #[.slice none 0 0],.int .i64 1,.int .i64 0]))\/
  (s.size<=160/\BP s=false/\e=.returned (.tuple #[.agg #[.slice none 0 0],.int .i64 1,.int .i64 (AI s).1.1]))\/
  (s.size<=160/\BP s=true/\∃v,e=.returned (.tuple #[.agg #[v],.int .i64 0,.int .i64 0])/\w'.ownsRow w.heap.size BB 10 v (AI s).2.length (GE (AI s).2)))
theorem RS(s:ByteArray)(w:World)(o:Obj):Cb w.heap.size ((w.alloc o).alloc (.cells #[.string s,.int .i64 0,.bool false,.slice none 0 0] tD)) (w.heap.size+1) s ((0,false),[]) (.slice none 0 0) where
 dat:=by
  show((w.heap.push _).push _)[w.heap.size+1]?=_;rw[cB,bA (by simp)];rfl
 row:=World.ownsRow_nil _ _ _ _
 geR:=by omega
 geW:=by simp;omega
theorem Ru{z:Zt}{d:World}{r B:Nat}{v:Value}{u:Value}(h:Cb B d r s z v)(hn:v.ownBlock≠some w.heap.size):(d.setCell ⟨w.heap.size,0,none⟩ u).ownsRow B BB 10 v z.2.length (GE z.2):=
 ownsRow_setCell_other h.row hn _
theorem I7(w:World)(o M:Obj):((w.alloc o).alloc M).heap[w.heap.size]?=some o:=by
 show((w.heap.push _).push _)[w.heap.size]?=_;rw[cB,a_ (by simp),cB,bA rfl]
theorem Hj(s:ByteArray)(w:World)(L:s.size<=maxLen):
  Calls prog 18 #[.string s] w (D8 w s):=by
 unfold maxLen at L;by_cases h:160<s.size
 .go_enter func18,ntmps18;go_wp2_with fail;exact bJ (v:=.tuple #[.agg #[.slice none 0 0],.int .i64 1,.int .i64 0]) (by simp[results,Tryz.results18,go_sem]) rfl ⟨(bC _ _).alloc (bB _) _,.inl ⟨h,rfl⟩⟩
 .have l:s.size<=160:=by omega
  have aa:decide ((160:Int)<(s.size:Int))=false:=bT (by omega);have A:Hid (Cb _ _ _ _ _ _):=RS s w (.cells #[.slice none 0 0] 43);have k:=Iw l 22 _ _ _ _ _ (-1) 0 0 A.out ⟨bY _,bY _⟩ (bN _) (bN _) (by decide);have q:=(A_ s 22 (-1) 0 0 ((0,false),[]) ⟨bY _,bY _⟩).ok.at_;have C:Hid (BP s=(!(AI s).1.2&&decide (s.size<=(AI s).1.1))):=rfl;obtain⟨z,E⟩:∃z,z=AI s:=⟨_,rfl⟩
  rw[show AS s 22 (-1) 0 0 ((0,false),[])=z from E.symm]at k q;have p:Hid (z=AI s):=E;clear E;obtain⟨⟨y,N⟩,O⟩:=z;simp only at q;cases N
  .by_cases hl:y<s.size
   .have a:BP s=false:=by rw[C.out,<-p.out];simp;omega
    have j:Hid (_=_):=a;have K:decide ((y:Int)<(s.size:Int))=true:=cC (by omega);clear a;go_enter func18,ntmps18;go_wp2_with fail;refine k.mono ?_;rintro e d ⟨rfl,v,g,c⟩;obtain⟨G,r1,H,I,J⟩:=g.dat.cells;have f:dc w d:=(((bC _ _).alloc (bB _) _).alloc (by simp) _).trans (c.below A.out);have b:d.heap[w.heap.size]?=some (.cells #[.slice none 0 0] 43):=(c.block w.heap.size (by simp;omega) (by omega) (by simp[Value.ownBlock])).trans (I7 w _ _);have x:d.cell? ⟨w.heap.size,0,none⟩=some (.slice none 0 0):=by simp[World.cell?,b]
    have F:d.frozen? ⟨w.heap.size,0,none⟩=false:=by simp[World.frozen?,b]
    have m:Hid (Cb _ _ _ _ _ _):=g;have i:Hid (Below _ _ _):=f;have n:Hid (v.ownBlock≠some w.heap.size):=C_ g.row (show At d w.heap.size _ _ from b) (by decide);obtain⟨D,cap,t⟩:=g.vlen;subst t;clear g c b f;go_wp2_with fail;go_region;all_goals
     go_wp2;exact bJ (v:=.tuple #[.agg #[.slice none 0 0],.int .i64 1,.int .i64 y]) (by simp[results,Tryz.results18,go_sem,x]) rfl ⟨bH (Below.drew i.out) (bB _) _,.inr (.inl ⟨l,j.out,by rw[<-p.out]⟩)⟩
   .have a:BP s=true:=by rw[C.out,<-p.out];simp;omega
    have j:Hid (_=_):=a;have K:decide ((y:Int)<(s.size:Int))=false:=bT (by omega);clear a;go_enter func18,ntmps18;go_wp2_with fail;refine k.mono ?_;rintro e d ⟨rfl,v,g,c⟩;obtain⟨G,r1,H,I,J⟩:=g.dat.cells;have f:dc w d:=(((bC _ _).alloc (bB _) _).alloc (by simp) _).trans (c.below A.out);have b:d.heap[w.heap.size]?=some (.cells #[.slice none 0 0] 43):=(c.block w.heap.size (by simp;omega) (by omega) (by simp[Value.ownBlock])).trans (I7 w _ _);have x:d.cell? ⟨w.heap.size,0,none⟩=some (.slice none 0 0):=by simp[World.cell?,b]
    have F:d.frozen? ⟨w.heap.size,0,none⟩=false:=by simp[World.frozen?,b]
    have m:Hid (Cb _ _ _ _ _ _):=g;have i:Hid (Below _ _ _):=f;have n:Hid (v.ownBlock≠some w.heap.size):=C_ g.row (show At d w.heap.size _ _ from b) (by decide);obtain⟨D,cap,t⟩:=g.vlen;subst t;clear g c b f;go_wp2_with fail;exact bJ (v:=.tuple #[.agg #[.slice D O.length cap],.int .i64 0,.int .i64 0]) (by simp[results,Tryz.results18,go_sem,x]) rfl ⟨bH i.out (bB _) _,.inr (.inr ⟨l,j.out,_,rfl,by rw[<-p.out];exact Ru m.out n.out⟩)⟩
  .have a:BP s=false:=by rw[C.out,<-p.out];rfl
   have j:Hid (_=_):=a;clear a;go_enter func18,ntmps18;go_wp2_with fail;refine k.mono ?_;rintro e d ⟨rfl,v,g,c⟩;obtain⟨G,r1,H,I,J⟩:=g.dat.cells;have f:dc w d:=(((bC _ _).alloc (bB _) _).alloc (by simp) _).trans (c.below A.out);have b:d.heap[w.heap.size]?=some (.cells #[.slice none 0 0] 43):=(c.block w.heap.size (by simp;omega) (by omega) (by simp[Value.ownBlock])).trans (I7 w _ _);have x:d.cell? ⟨w.heap.size,0,none⟩=some (.slice none 0 0):=by simp[World.cell?,b]
   have F:d.frozen? ⟨w.heap.size,0,none⟩=false:=by simp[World.frozen?,b]
   have m:Hid (Cb _ _ _ _ _ _):=g;have i:Hid (Below _ _ _):=f;have n:Hid (v.ownBlock≠some w.heap.size):=C_ g.row (show At d w.heap.size _ _ from b) (by decide);obtain⟨D,cap,t⟩:=g.vlen;subst t;clear g c b f;go_wp2_with fail;go_region;all_goals
    go_wp2;exact bJ (v:=.tuple #[.agg #[.slice none 0 0],.int .i64 1,.int .i64 y]) (by simp[results,Tryz.results18,go_sem,x]) rfl ⟨bH (Below.drew i.out) (bB _) _,.inr (.inl ⟨l,j.out,by rw[<-p.out]⟩)⟩
def DX(s:ByteArray):Int×Int×Int:=
 if 160<s.size then(0,1,0)else if BP s=true then(((AI s).2.length:Int)+1,0,0)else(0,1,(AI s).1.1)
def CR(p b fr:Int):List Ds->Nat->Int
 |[],_=> -1
 |x::l,i=>if fr<=i/\x.parent=p/\x.block=b then(i:Int)else CR p b fr l (i+1)
def Bu(F:List Ds)(p b fr:Int):Int:=CR p b fr F 0
def DU(F:List Ds)(p:Int):Bool:=decide (0<=p)&&decide (p<F.length)&&decide ((F.getD p.toNat (AC 0 0)).kind=3)
def BX(F:List Ds):Nat->Int->Int
 |0,_=>F.length
 |n+1,pt=>if pt<0\/(F.length:Int)<=pt then F.length else
  if Bu F (F.getD pt.toNat (AC 0 0)).parent (F.getD pt.toNat (AC 0 0)).block (pt+1)≠ -1 then Bu F (F.getD pt.toNat (AC 0 0)).parent (F.getD pt.toNat (AC 0 0)).block (pt+1)
  else if DU F (F.getD pt.toNat (AC 0 0)).parent=true then(F.getD pt.toNat (AC 0 0)).parent
  else BX F n (F.getD pt.toNat (AC 0 0)).parent
def Ae(k:Int):Int:=if k=2\/k=3 then 2 else 1
def Ap(F:List Ds)(pt a:Int):Int×Int:=
 if pt<0\/(F.length:Int)<=pt then(0,2)
 else if a<0\/Ae (F.getD pt.toNat (AC 0 0)).kind<=a then(0,2)
 else if An (F.getD pt.toNat (AC 0 0)).kind<=a then(BX F 21 pt,0)
 else if Bu F pt a (pt+1)≠ -1 then(Bu F pt a (pt+1),0)
 else if(F.getD pt.toNat (AC 0 0)).kind=3 then(pt,0)
 else(BX F 21 pt,0)
theorem MO{p b fr:Int}{F:List Ds}{k:Nat}(hk:k<F.length):CR p b fr (F.drop k) k=if fr<=k/\(F.getD k (AC 0 0)).parent=p/\(F.getD k (AC 0 0)).block=b then(k:Int)else CR p b fr (F.drop (k+1)) (k+1):=by
 have e:F.drop k=F.getD k (AC 0 0)::F.drop (k+1):=by
  rw[List.drop_eq_getElem_cons hk,bG,bP hk];rfl
 rw[e,CR]
variable {g cap b:Nat}{F:List Ds}
def B0(x:Ds):Value:=.agg #[.int .i64 x.kind,.int .i64 x.target,.bool x.any,.int .i64 (AB x.sg 0),.int .i64 (AB x.sg 1),.int .i64 (AB x.sg 2),.int .i64 (AB x.sg 3),.int .i64 x.num,.int .i64 x.parent,.int .i64 x.block]
theorem Ox{x:Ds}(h:At w b (AD x) BB):(loadVar BB ⟨b,0,none⟩).run prog w=.ok (B0 x) w:=
 run_loadVar_row w b BB BB (AD x) (0,0) _ h underlying119 rfl (by kernel_rfl)
theorem Df{r:Func}{t u:Tmp}{x:Ds}(h:r.results=#[.cell t BB,.tmp u])(a:Array Value)(d:a.getD t undef=.pointer (some ⟨b,0,none⟩))(m:At w b (AD x) BB):
  (results r a).run prog w=.ok (.tuple #[B0 x,a.getD u undef]) w:=by
 have q:a[t]?.getD undef=.pointer (some ⟨b,0,none⟩):=by simpa using d
 simp[results,h,q,asAddr,Ox m]
def Cc(w:World)(g:Nat)(F:List Ds):Prop:=g<w.heap.size/\∀j x,F[j]?=some x->w.cell? ⟨g,j*10,none⟩=some (.int .i64 x.kind)/\w.cell? ⟨g,j*10+1,none⟩=some (.int .i64 x.target)/\w.cell? ⟨g,j*10+2,none⟩=some (.bool x.any)/\
 w.cell? ⟨g,j*10+3,none⟩=some (.int .i64 (AB x.sg 0))/\w.cell? ⟨g,j*10+4,none⟩=some (.int .i64 (AB x.sg 1))/\w.cell? ⟨g,j*10+5,none⟩=some (.int .i64 (AB x.sg 2))/\w.cell? ⟨g,j*10+6,none⟩=some (.int .i64 (AB x.sg 3))/\
 w.cell? ⟨g,j*10+7,none⟩=some (.int .i64 x.num)/\w.cell? ⟨g,j*10+8,none⟩=some (.int .i64 x.parent)/\w.cell? ⟨g,j*10+9,none⟩=some (.int .i64 x.block)
theorem Cc.keep(h:Cc w g F)(hb:dc w w'):Cc w' g F:=by
 refine⟨bM h.1 hb.size,λj x hx=>?_⟩;have hc:∀o,w'.cell? ⟨g,o,none⟩=w.cell? ⟨g,o,none⟩:=λo=>hb.cell (p:=⟨g,o,none⟩) h.1;simp only[hc];exact h.2 j x hx
theorem KE{j:Nat}(D:j<F.length):F[j]?=some (F.getD j (AC 0 0)):=by rw[bG,bP D];rfl
theorem MM(k t:Int)(s:Bool)(y z A B n p b:Int)(w:World):
  Calls prog 111 #[.agg #[.int .i64 k,.int .i64 t,.bool s,.int .i64 y,.int .i64 z,.int .i64 A,.int .i64 B,.int .i64 n,.int .i64 p,.int .i64 b]] w λe w'=>e=.returned (.int .i64 (Ae k))/\∃o,w'=w.alloc o:=by
 unfold Ae;by_cases h2:k=2
 .subst h2;go_enter func111,ntmps111;go_wp2;go_ret;exact⟨rfl,_,rfl⟩
 .have v:(k==2)=false:=by simpa using h2
  by_cases h3:k=3
  .subst h3;clear h2 v;go_enter func111,ntmps111;go_wp2;go_ret;exact⟨rfl,_,rfl⟩
  .have b3:(k==3)=false:=by simpa using h3
   rw[a_ (λe=>e.elim h2 h3)];clear h2 h3;go_enter func111,ntmps111;go_wp2;go_ret;exact⟨rfl,_,rfl⟩
def EI:Ds:=AC 0 0
theorem Fm(h:Cc w g F)(k:Nat)(hk:k<F.length):
  Calls prog 81 #[.agg #[.slice (some ⟨g,0,none⟩) F.length cap],.int .i64 (k:Int)] w λe w'=>e=.returned (.tuple #[B0 (F.getD k (AC 0 0)),.int .i64 0])/\dc w w':=by
 have hg:=h.1;have ab:(k:Int)<(F.length:Int):=by omega
 have aa:¬(F.length:Int)<=(k:Int):=by omega
 obtain⟨c0,c1,c2,c3,c4,c5,c6,c7,c8,c9⟩:=h.2 k _ (KE hk);have l:Hid (∀f i,dc w ((w.alloc f).alloc i)):=λf i=>((bC _ _).alloc (bB _) _).alloc (by simp) _;generalize F.getD k (AC 0 0)=x at *;clear h;go_enter func81,ntmps81;go_wp2_with fail;try simp only[Exit.inBlock,Exit.then]
 refine bJ (Df (b:=w.heap.size+1) (x:=x) rfl _ rfl ?_) rfl ?_
 .have:=At.new (w.alloc (.cells #[.slice (some ⟨g,0,none⟩) F.length cap] 43)) (AD x) BB;rw[show(w.alloc (.cells #[.slice (some ⟨g,0,none⟩) F.length cap] 43)).heap.size=w.heap.size+1 by simp]at this;exact this
 .exact⟨rfl,l.out _ _⟩
theorem IJ(c:Option Addr)(n:Nat)(_hn:n<=20)(p:Int)(d:p<0\/(n:Int)<=p):
  Calls prog 81 #[.agg #[.slice c n cap],.int .i64 p] w λe w'=>e=.returned (.tuple #[B0 EI,.int .i64 2])/\dc w w':=by
 have l:Hid (∀f i,dc w ((w.alloc f).alloc i)):=λf i=>((bC _ _).alloc (bB _) _).alloc (by simp) _;by_cases C:p<0
 .clear d;go_enter func81,ntmps81;go_wp2_with fail;try simp only[Exit.inBlock,Exit.then]
  refine bJ (Df (b:=w.heap.size+1) (x:=EI) rfl _ rfl ?_) rfl ?_
  .have:=At.new (w.alloc (.cells #[.slice c n cap] 43)) (AD EI) BB;rw[show(w.alloc (.cells #[.slice c n cap] 43)).heap.size=w.heap.size+1 by simp]at this;exact this
  .exact⟨rfl,l.out _ _⟩
 .have h1:(n:Int)<=p:=d.elim (λe=>absurd e C) id;clear d;go_enter func81,ntmps81;go_wp2_with fail;try simp only[Exit.inBlock,Exit.then]
  refine bJ (Df (b:=w.heap.size+1) (x:=EI) rfl _ rfl ?_) rfl ?_
  .have:=At.new (w.alloc (.cells #[.slice c n cap] 43)) (AD EI) BB;rw[show(w.alloc (.cells #[.slice c n cap] 43)).heap.size=w.heap.size+1 by simp]at this;exact this
  .exact⟨rfl,l.out _ _⟩
end Go.Proofs.YtffajooegiempaaGreatDoor
