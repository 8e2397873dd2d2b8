import Derived.Test.YtffajooegiempaaGreatDoorK23
set_option maxRecDepth 100000
set_option maxHeartbeats 6400000
namespace Go.Proofs.YtffajooegiempaaGreatDoor
open Go.RowKit Go.Proofs.Tryz
variable {B:Nat}{w:World}{r:Nat}{m:Rd}{vs vo:Value}{P Q O:Nat->Nat}{C:Nat->Int}
structure Yn(u:St):Prop where
 g:SI u
 var:0<=u.var/\u.var<=3
 fq:Fq u
theorem Gb{l:List Int}{m:Rd}(hp:AV l=some m){k:Nat}(hk:k<m.st.length):Yn (m.st.getD k AY):=by
 obtain⟨_,⟨n,hr⟩,hd,_⟩:=Au hp;obtain⟨hg,ok⟩:=MR (m:=CY) (m':=m) (λs hs=>absurd hs (by simp[CY])) Ok.init hr;have aj:=Vs (m:=CY) (m':=m) ⟨λi hi=>absurd hi (by simp[CY]),λh=>absurd h (by simp[CY]),λh=>absurd h (by decide)⟩ Ok.init hr;have ae:m.state=115:=by
  unfold BS at hd;simp only[cA,cD]at hd;exact hd.1
 refine⟨Ga hp k,⟨(Bc.get hg k).1,(Bc.get hg k).2.1⟩,?_⟩;rcases bX (Nat.succ_le_of_lt hk)with q|q
 .exact aj.all k q
 .have:=aj.now (by omega);rw[TS (.inl ae)]at this;unfold cur at this;rw[show m.st.length-1=k by omega]at this;exact this
structure Z5(w:World)(r k:Nat)(u:St)(len:Nat):Prop where
 ex:∃g cap p q,w.cell? ⟨r,1,none⟩=some (.slice (some ⟨g,0,none⟩) len cap)/\w.cell? ⟨g,k,none⟩=some (.pointer (some ⟨p,0,none⟩))/\w.cell? ⟨p,0,none⟩=some (.int .u8 u.kind)/\w.cell? ⟨p,2,none⟩=some (.bool u.star)/\
  w.cell? ⟨p,3,none⟩=some (.slice (some ⟨q,0,none⟩) 4 4)/\w.cell? ⟨p,4,none⟩=some (.int .i64 u.num)/\At w q (ic u.sg) tNk/\p<w.heap.size/\g<w.heap.size/\r<w.heap.size/\w.cell? ⟨p,1,none⟩=some (.int .i64 u.var)
theorem AZ.stv(h:AZ B w r m vs vo P Q O){k:Nat}(hk:k<m.st.length):Z5 w r k (m.st.getD k AY) m.st.length:=by
 obtain⟨g,cap,ay,aa,_⟩:=h.row (by omega);obtain⟨r0,r1,_⟩:=h.rdc;have hg:=AZ.gets hk;obtain⟨c0,c1,c2,c3,c4,_⟩:=h.stc k _ hg;obtain⟨a,b⟩:=h.st k _ hg;rw[ay]at r1;have S:=World.block_lt_of_cell? w _ (aa k hk);exact⟨g,cap,P k,Q k,r1,aa k hk,c0,c2,c3,c4,b,a.lt,S,h.rd.lt,c1⟩
theorem O8{x:Ds}{u:St}(hc:OX x u):x.kind=0↔u.kind=61:=by
 rw[hc.1];unfold Fr;constructor
 .intro h;rw[bA h]
 .intro h;by_cases q:x.kind=0
  .exact q
  .rw[a_ q]at h;split at h
   .cases h
   .split at h<;>cases h
theorem Jm(h:AZ B w r m vs vo P Q O)(k:Nat)(hk:k<m.st.length)(Y:Yn (m.st.getD k AY)){x:Ds}(hc:OX x (m.st.getD k AY))(A:Int)(v:Value)(e0:Bool)(ax:∃a n c,v=.slice a n c)(F:Calls prog 59 #[v] w (BF w e0 C))(hT:e0=false->TQ C):
  Calls prog 22 #[.pointer (some ⟨r,0,none⟩),.int .i64 (k:Int),.int .i64 A,v] w (BF w (CA e0 C x A) (CE e0 C x A)):=by
 have aE:∀(w:World)(a:Option Addr)(n c:Nat),(binOp .eql 32 (.slice a n c) (.slice none 0 0)).run prog w=.ok (.bool a.isNone) w:=λw a n c=>cz w 32 tN a n c 0 0 underlying32;have aD:∀w,(Instr.makeSlice 32 (.int .i64 4) (.int .i64 4)).run prog w=.ok (.slice (some ⟨w.heap.size,0,none⟩) 4 4) (w.alloc (.cells #[.int .i64 0,.int .i64 0,.int .i64 0,.int .i64 0] tNk)):=λ_=>by kernel_rfl
 have V:Hid (∀d,dc w d->Z5 d r k (m.st.getD k AY) m.st.length):=λd hb=>(h.keep hb).stv hk;have aC:(k:Int)<(m.st.length:Int):=by omega
 have I:=O8 hc;obtain⟨-,c1,c2,c3,c4⟩:=id hc;obtain⟨va,vn,vc,rfl⟩:=ax;clear h;generalize m.st.getD k AY=u at *;have K:Hid (Yn u):=Y;have HC:Hid (OX x u):=hc;cases e0 with
 |true=>
  have R:Hid (CA true C x A=true):=rfl;clear hT Y hc c1 c2 c3 c4 I;go_enter func22,ntmps22;go_wp2_with fail;refine F.mono ?_;rintro e d ⟨o,⟨-,rfl⟩|⟨M, -⟩⟩
  .have t:=V.out d o;obtain⟨g,cap,p,q,x1,x2,x3,x4,x5,x6,G,J,S,X,x7⟩:=t.ex;have H:Hid (At d q (ic u.sg) tNk/\dc w d):=⟨G,o⟩
   clear t G;clear o F;go_wp2_with fail;go_ret;exact⟨H.out.2,.inl ⟨R.out,rfl⟩⟩
  .cases M
 |false=>
 have HT:Hid (TQ C):=hT rfl;have aw:=Y.g.num;obtain⟨n1,n2⟩:=aw;by_cases E:u.kind=61
 .have R:Hid (CA false C x A=false/\CE false C x A=JF C x):=by
   refine⟨?_,?_⟩
   .unfold CA;rw[a_ (by decide),bA (I.2 E)]
   .unfold CE;rw[a_ (by decide),bA (I.2 E)]
  have h1:nz u.sg<=1:=Y.fq.1 E
  have ac:Hid (∀d gq p q,dc w d->At d gq (ic (Bl C)) Gc->p<d.heap.size->d.cell? ⟨p,1,none⟩=some (.int .i64 u.var)->d.cell? ⟨p,2,none⟩=some (.bool u.star)->d.cell? ⟨p,3,none⟩=some (.slice (some ⟨q,0,none⟩) 4 4)->d.cell? ⟨p,4,none⟩=some (.int .i64 u.num)->At d q (ic u.sg) tNk->
    Calls prog 60 #[.slice (some ⟨gq,0,none⟩) 32 32,.pointer (some ⟨p,0,none⟩)] d (ZV d (Kv C u))):=λd gq p q hb D hp y1 y2 y3 y4 G=>
   PY HT.out.sm _ u K.out.g K.out.var h1 (AQ.at_ D (BJ C) (bB _) (λi hi=>Aa _ _ (by rw[BJ];exact hi))) p q hp y1 y2 y3 y4 G
  have ar:Hid (∀f,f<32->bd (JF C x) f=Kv C u f):=λf hf=>VS HT.out.tc HT.out.top HC.out K.out.g K.out.var h1 hf;clear hT Y hc h1 c1 c2 c3 c4 I;go_enter func22,ntmps22;go_wp2_with fail;refine F.mono ?_;rintro e d ⟨o,⟨M, -⟩|⟨-,gq,rfl,L,D⟩⟩
  .cases M
  .have t:=V.out d o;obtain⟨g,cap,p,q,x1,x2,x3,x4,x5,x6,G,J,S,X,x7⟩:=t.ex;have H:Hid (At d q (ic u.sg) tNk/\dc w d):=⟨G,o⟩
   clear t G;have ag:=ac.out d gq p q o D J x7 x4 x5 x6 H.out.1;rw[E]at x3;clear o F D E ac;go_wp2_with fail;refine ag.mono ?_;rintro e w2 ⟨ah,g2,rfl,ai,af⟩;have H2:Hid (dc w w2/\w.heap.size<=g2/\At w2 g2 (ic (rl (Kv C u))) tNk):=⟨H.out.2.trans (ah.mono H.out.2.size),cN H.out.2.size ai,af⟩
   clear ah ai af ag;go_wp2_with fail;go_ret;rw[R.out.1,R.out.2];refine⟨H2.out.1,.inr ⟨rfl,g2,rfl,H2.out.2.1,?_⟩⟩;have e1:rl (Kv C u)=Bl (JF C x):=It (λf hf=>(ar.out f hf).symm);rw[<-e1];exact H2.out.2.2
 have Z:¬x.kind=0:=λz=>E (I.1 z);have kb:(u.kind==61)=false:=by simpa using E
 cases T:u.star with
 |true=>
  have R:Hid (CA false C x A=false/\CE false C x A=C):=by
   have D:x.any=true:=by rw[<-c2];exact T
   refine⟨?_,?_⟩
   .unfold CA;rw[a_ (by decide),a_ Z,bA D]
   .unfold CE;rw[a_ (by decide),a_ Z,bA D]
  clear hT Y hc Z E c1 c2 c3 c4 I;go_enter func22,ntmps22;go_wp2_with fail;refine F.mono ?_;rintro e d ⟨o,⟨M, -⟩|⟨-,gq,rfl,L,D⟩⟩
  .cases M
  .have t:=V.out d o;obtain⟨g,cap,p,q,x1,x2,x3,x4,x5,x6,G,J,S,X,x7⟩:=t.ex;have H:Hid (At d q (ic u.sg) tNk/\dc w d):=⟨G,o⟩
   clear t G;rw[T]at x4;have HG:Hid (w.heap.size<=gq/\At d gq (ic (Bl C)) Gc):=⟨L,D⟩
   clear o F D L;go_wp2_with fail;go_ret;rw[R.out.1,R.out.2];exact⟨H.out.2,.inr ⟨rfl,gq,rfl,HG.out.1,HG.out.2⟩⟩
 |false=>
 have D:x.any=false:=by rw[<-c2];exact T
 have ao:1<=nz u.sg:=(Y.fq.2 E).resolve_left (by rw[T];decide);have W:Hid (∀d gq vv (l:List Int) n,At d gq (ic (Bl C)) Gc->AQ d vv l->l.length=4->(∀i, -1<=AK l i/\AK l i<=1)->1<=nz l->nz l<=2->(-1000<=n/\n<=1000)->Calls prog 61 #[.slice (some ⟨gq,0,none⟩) 32 32,vv,.int .i64 n] d (BF d (GJ false C l n) (E5 false C l n))):=λd gq vv l n D hr h4 hs h1 h2 hn=>
  ZK HT.out _ vv l h4 hs h1 h2 n hn (AQ.at_ D (BJ C) (bB _) (λi hi=>Aa _ _ (by rw[BJ];exact hi))) hr
 by_cases hw:A=0
 .have R:Hid (CA false C x A=GJ false C u.sg u.num/\CE false C x A=E5 false C u.sg u.num):=by
   rw[c3,c4];refine⟨?_,?_⟩
   .unfold CA;rw[a_ (by decide),a_ Z,D,a_ (by decide),bA hw]
   .unfold CE;rw[a_ (by decide),a_ Z,D,a_ (by decide),bA hw]
  have ad:Hid (∀d N gq q,N.heap=d.heap->At d gq (ic (Bl C)) Gc->At d q (ic u.sg) tNk->Calls prog 61 #[.slice (some ⟨gq,0,none⟩) 32 32,.slice (some ⟨q,0,none⟩) 4 4,.int .i64 u.num] N (BF N (GJ false C u.sg u.num) (E5 false C u.sg u.num))):=λd N gq q M D G=>
   W.out N gq _ u.sg u.num (D.same (by rw[M])) (AQ.at_ (G.same (by rw[M])) K.out.g.len (bB _) (λi hi=>Aa _ _ (by rw[K.out.g.len];exact hi))) K.out.g.len K.out.g.sg ao K.out.g.nz ⟨by omega,by omega⟩
  subst hw;clear hT Y hc Z E W c1 c2 c3 c4 I D;go_enter func22,ntmps22;go_wp2_with fail;refine F.mono ?_;rintro e d ⟨o,⟨M, -⟩|⟨-,gq,rfl,L,D⟩⟩
  .cases M
  .have t:=V.out d o;obtain⟨g,cap,p,q,x1,x2,x3,x4,x5,x6,G,J,S,X,x7⟩:=t.ex;have H:Hid (At d q (ic u.sg) tNk/\dc w d):=⟨G,o⟩
   clear t G;rw[T]at x4;have aq:Hid (∀N,N.heap=d.heap->dc w N->Calls prog 61 #[.slice (some ⟨gq,0,none⟩) 32 32,.slice (some ⟨q,0,none⟩) 4 4,.int .i64 u.num] N λe w'=>∃a nn c,e=.returned (.slice a nn c)/\Hid (BF w (GJ false C u.sg u.num) (E5 false C u.sg u.num) (.returned (.slice a nn c)) w')):=by
    intro N M au;refine(ad.out d N gq q M D H.out.1).mono ?_;intro y w4 hy;obtain⟨yy,rfl,a,nn,c,rfl⟩:=hy.val;exact⟨a,nn,c,rfl,hy.from_ au⟩
   clear o F D L ad;generalize u.num=n at *;generalize GJ false C u.sg n=e4 at *;generalize E5 false C u.sg n=M4 at *;go_wp2_with fail;go_region_with (go_at_call 61;refine(aq.out _ (by rfl) H.out.2.drew).mono ?_;rintro e N ⟨a,nn,c,rfl,HY⟩);all_goals
    go_wp2_with fail;go_ret;rw[R.out.1,R.out.2];exact HY.out
 .have wb:(A==0)=false:=by simpa using hw
  have R:Hid (CA false C x A=GJ false C (Dv u.sg) (-u.num-1)/\CE false C x A=E5 false C (Dv u.sg) (-u.num-1)):=by
   rw[c3,c4];refine⟨?_,?_⟩
   .unfold CA;rw[a_ (by decide),a_ Z,D,a_ (by decide),a_ hw]
   .unfold CE;rw[a_ (by decide),a_ Z,D,a_ (by decide),a_ hw]
  clear hT Y hc Z E c1 c2 c3 c4 I D hw;go_enter func22,ntmps22;go_wp2_with fail;refine F.mono ?_;rintro e d ⟨o,⟨M, -⟩|⟨-,gq,rfl,L,D⟩⟩
  .cases M
  .have t:=V.out d o;obtain⟨g,cap,p,q,x1,x2,x3,x4,x5,x6,G,J,S,X,x7⟩:=t.ex;have H:Hid (At d q (ic u.sg) tNk/\dc w d):=⟨G,o⟩
   clear t G;rw[T]at x4;have HA:Hid (At (d.alloc (.cells #[.int .i64 0,.int .i64 0,.int .i64 0,.int .i64 0] tNk)) d.heap.size (ic (SL u.sg 0)) tNk/\dc d (d.alloc (.cells #[.int .i64 0,.int .i64 0,.int .i64 0,.int .i64 0] tNk))):=⟨At.new _ _ _,(bC _ _).alloc (bB _) _⟩
   have ab:Hid (At d gq (ic (Bl C)) Gc):=D;have an:q<d.heap.size:=H.out.1.lt;clear o F D L;go_wp2_with fail;go_loopw [12] (λiv wr=>∃(j:Nat),j<=4/\iv=.int .i64 j/\Hid (At wr d.heap.size (ic (SL u.sg j)) tNk/\dc d wr)) (λiv _=>4-(intOf iv).toNat);case atStart=>exact⟨0,by omega,rfl,HA.out⟩
   case round=>
    obtain⟨j,hj,rfl,U⟩:=hrel;have y5:wr.cell? ⟨p,3,none⟩=some (.slice (some ⟨q,0,none⟩) 4 4):=(U.out.2.cell (p:=⟨p,3,none⟩) J).trans x5;by_cases ak:j<4
    .have aB:(j:Int)<4:=by omega
     have am:=Ty u.sg ak;have ca:wr.cell? ⟨q,j,none⟩=some (.int .i64 (AK u.sg j)):=by
      rw[U.out.2.cell (p:=⟨q,j,none⟩) an,H.out.1.cell,Aa _ _ (by rw[K.out.g.len];exact ak)];rfl
     have cb:wr.cell? ⟨d.heap.size,j,none⟩=some (.int .i64 0):=by
      rw[U.out.1.cell,Aa _ _ (by omega),am.2]
     have cf:=U.out.1.free;have aA:=U.out.1.lt;have hx:=K.out.g.sg j;have HP:Hid (SL u.sg (j+1)=(SL u.sg j).set j (-AK u.sg j)):=rfl;clear am;generalize AK u.sg j=y at *;go_wp2_with fail;go_roundw;case rel=>
      refine⟨j+1,by omega,by go_num,?_,U.out.2.setCell (bB _) _⟩;rw[HP.out,<-Be];exact U.out.1.put j _
     case measure=>simp[intOf];omega
    .have av:j=4:=by omega
     subst av;have al:=W.out wr gq (.slice (some ⟨d.heap.size,0,none⟩) 4 4) (Dv u.sg) (-u.num-1) (ab.out.keep U.out.2 ab.out.lt) (AQ.at_ U.out.1 (Cp _) (bB _) (λi hi=>Aa _ _ (by show i<(Dv u.sg).length;rw[Cp];exact hi))) (Cp _) (DJ K.out.g.sg) (by rw[C9 K.out.g.len];exact ao) (by rw[C9 K.out.g.len];exact K.out.g.nz) ⟨by omega,by omega⟩;have ap:Hid (dc w wr):=H.out.2.trans (U.out.2.mono H.out.2.size);have z6:wr.cell? ⟨p,4,none⟩=some (.int .i64 u.num):=(U.out.2.cell (p:=⟨p,4,none⟩) J).trans x6;have az:p<wr.heap.size:=bM J U.out.2.size;clear W HA H ab;generalize u.num=n at *;generalize GJ false C (Dv u.sg) (-n-1)=e4 at *;generalize E5 false C (Dv u.sg) (-n-1)=M4 at *;go_wp2_with fail;refine al.mono ?_;intro y N hy;obtain⟨yy,rfl,a,nn,c,rfl⟩:=hy.val;have HY:Hid (BF wr e4 M4 (.returned (.slice a nn c)) N):=hy;clear hy al;go_wp2_with fail;go_ret;rw[R.out.1,R.out.2];exact HY.out.from_ ap.out
variable {w':World}{g cap b:Nat}{F:List Ds}
theorem Oy{c:Array Value}(h:At w b c BB)(hc:c.size=10)(y:Ds):∃l,(Instr.storeAt BB (.pointer (some ⟨b,0,none⟩)) (B0 y)).run prog w=.ok () l/\At l b (AD y) BB/\BC b w l:=by
 refine⟨w.setRow b (AD y),?_,setRow_heap w b c (AD y) BB (0,0) h,⟨rfl,rfl,rfl,by simp[World.setRow],λk _ hk=>setRow_other w b k _ (λe=>hk e)⟩⟩;simp only[Instr.storeAt,Instr.sureAddr,Sem.run_bind,Sem.run_pure,Result.andThen];exact run_storeVar_row w b BB BB c (AD y) h (by kernel_rfl) (by rw[hc];rfl) (by simp[AD,Value.oneCell'])
theorem Dd{J:Array Oper}{D:List Oper}{o:Oper}{a:Act}{Q:Exit->Act->World->Prop}{c:Array Value}(S:o.guard=none)(p x:Operand)(O:o.op=Op.store BB p x)(L:a.eval p=.pointer (some ⟨b,0,none⟩))(y:Ds)(hx:a.eval x=B0 y)(N:At w b c BB)(hc:c.size=10)
  (hK:∀l,At l b (AD y) BB->BC b w l->wpList prog J Q D (a.put o.dst undef) l):wpList prog J Q (o::D) a w:=by
 refine wpList_plain S λK M=>?_;obtain⟨l,h1,h2,h3⟩:=Oy N hc y;unfold Oper.wp;simp[execOp,O,L,hx,h1,Result.andThen,Oper.upon];exact M _ _ (hK l h2 h3)
theorem J8(I:Option Addr)(n:Nat)(hn:n<=20)(p s:Int)(L:p<0\/(n:Int)<=p):
  Calls prog 79 #[.agg #[.slice I n cap],.int .i64 p,.int .i64 s] w λe w'=>e=.returned (.tuple #[B0 EI,.int .i64 2])/\dc w w':=by
 obtain⟨t,r⟩:∃t,t=(w.alloc (.cells #[.slice I n cap] 43)).alloc (.cells (AD EI) BB):=⟨_,rfl⟩
 have j:Hid (dc w t/\At t (w.heap.size+1) (AD EI) BB/\t.heap.size=w.heap.size+2):=by
  refine⟨by rw[r];exact((bC _ _).alloc (bB _) _).alloc (by simp) _,?_,by rw[r];simp⟩;have:=At.new (w.alloc (.cells #[.slice I n cap] 43)) (AD EI) BB;rw[show(w.alloc (.cells #[.slice I n cap] 43)).heap.size=w.heap.size+1 by simp]at this;rw[r];exact this
 obtain⟨E,z⟩:∃E:World->Prop,E=λw'=>dc t w':=⟨_,rfl⟩
 have i:Calls prog 81 #[.agg #[.slice I n cap],.int .i64 p] t λe w'=>e=.returned (.tuple #[B0 EI,.int .i64 2])/\E w':=by rw[z];exact IJ I n hn p L
 clear L;rw[r]at i;unfold B0 AD EI AC at i;go_enter func79,ntmps79;go_wp2_with fail;refine i.mono ?_;rintro e l ⟨rfl,f⟩;obtain⟨m,d⟩:∃m,m=l.alloc (.cells (AD EI) BB):=⟨_,rfl⟩
 have q:Hid (dc w m/\At m (w.heap.size+1) (AD EI) BB/\At m l.heap.size (AD EI) BB/\w.heap.size+2<=l.heap.size/\m.heap.size=l.heap.size+1):=by
  have P:=j.out.2.2;rw[z]at f;have R:=f.size;have G:=At.keep j.out.2.1 f (by omega);refine⟨?_,?_,?_,by omega,by rw[d];simp⟩
  .rw[d];exact(j.out.1.trans (f.mono (by omega))).alloc (by have:=j.out.1.size;omega) _
  .rw[d];exact At.allocH G _
  .rw[d];exact At.new _ _ _
 have H:w.heap.size+2<=l.heap.size:=q.out.2.2.2.1;clear f;unfold AD EI AC at d;rw[d]at q;go_wp2_with (first|(refine Dd (b:=w.heap.size+1) (c:=AD EI) rfl (.tmp 6) (.tmp 18) rfl rfl EI rfl q.out.2.1 rfl ?_;intro B u v));have h5:Hid (At B (w.heap.size+1) (AD EI) BB/\dc w B):=⟨u,q.out.1.trans (v.below (by omega) (by have:=q.out.1.size;exact this))⟩
 go_wp2_with fail;try simp only[Exit.inBlock,Exit.then]
 refine bJ (Df (b:=w.heap.size+1) (x:=EI) rfl _ rfl h5.out.1) rfl ?_;exact⟨rfl,h5.out.2⟩
theorem LU(h:Cc w g F)(k:Nat)(hk:k<F.length)(s:Int):
  Calls prog 79 #[.agg #[.slice (some ⟨g,0,none⟩) F.length cap],.int .i64 (k:Int),.int .i64 s] w λe w'=>
   e=.returned (.tuple #[B0 (if s<0\/Ae (F.getD k (AC 0 0)).kind<=s then EI else F.getD k (AC 0 0)),.int .i64 (if s<0\/Ae (F.getD k (AC 0 0)).kind<=s then 2 else 0)])/\dc w w':=by
 obtain⟨t,r⟩:∃t,t=(w.alloc (.cells #[.slice (some ⟨g,0,none⟩) F.length cap] 43)).alloc (.cells (AD EI) BB):=⟨_,rfl⟩
 have j:Hid (dc w t/\At t (w.heap.size+1) (AD EI) BB/\t.heap.size=w.heap.size+2):=by
  refine⟨by rw[r];exact((bC _ _).alloc (bB _) _).alloc (by simp) _,?_,by rw[r];simp⟩;have:=At.new (w.alloc (.cells #[.slice (some ⟨g,0,none⟩) F.length cap] 43)) (AD EI) BB;rw[show(w.alloc (.cells #[.slice (some ⟨g,0,none⟩) F.length cap] 43)).heap.size=w.heap.size+1 by simp]at this;rw[r];exact this
 obtain⟨E,z⟩:∃E:World->Prop,E=λw'=>dc t w':=⟨_,rfl⟩
 have i:Calls prog 81 #[.agg #[.slice (some ⟨g,0,none⟩) F.length cap],.int .i64 (k:Int)] t λe w'=>e=.returned (.tuple #[B0 (F.getD k (AC 0 0)),.int .i64 0])/\E w':=by rw[z];exact Fm (h.keep j.out.1) k hk
 generalize F.getD k (AC 0 0)=x at *;clear h hk;by_cases A:s<0
 .rw[bA (.inl A),bA (.inl A)];rw[r]at i;unfold B0 AD EI AC at i;go_enter func79,ntmps79;go_wp2_with fail;refine i.mono ?_;rintro e l ⟨rfl,f⟩;obtain⟨m,d⟩:∃m,m=l.alloc (.cells (AD x) BB):=⟨_,rfl⟩
  have q:Hid (dc w m/\At m (w.heap.size+1) (AD EI) BB/\At m l.heap.size (AD x) BB/\w.heap.size+2<=l.heap.size/\m.heap.size=l.heap.size+1):=by
   have P:=j.out.2.2;rw[z]at f;have R:=f.size;have G:=At.keep j.out.2.1 f (by omega);refine⟨?_,?_,?_,by omega,by rw[d];simp⟩
   .rw[d];exact(j.out.1.trans (f.mono (by omega))).alloc (by have:=j.out.1.size;omega) _
   .rw[d];exact At.allocH G _
   .rw[d];exact At.new _ _ _
  have H:w.heap.size+2<=l.heap.size:=q.out.2.2.2.1;clear f;unfold AD at d;rw[d]at q;go_wp2_with (first|(refine Dd (b:=w.heap.size+1) (c:=AD EI) rfl (.tmp 6) (.tmp 28) rfl rfl EI rfl q.out.2.1 rfl ?_;intro B u v));have h5:Hid (At B (w.heap.size+1) (AD EI) BB/\dc w B):=⟨u,q.out.1.trans (v.below (by omega) (by have:=q.out.1.size;exact this))⟩
  go_wp2_with fail;try simp only[Exit.inBlock,Exit.then]
  refine bJ (Df (b:=w.heap.size+1) (x:=EI) rfl _ rfl h5.out.1) rfl ?_;exact⟨rfl,h5.out.2⟩
 by_cases C:Ae x.kind<=s
 .rw[bA (.inr C),bA (.inr C)];rw[r]at i;unfold B0 AD EI AC at i;go_enter func79,ntmps79;go_wp2_with fail;refine i.mono ?_;rintro e l ⟨rfl,f⟩;obtain⟨m,d⟩:∃m,m=l.alloc (.cells (AD x) BB):=⟨_,rfl⟩
  have q:Hid (dc w m/\At m (w.heap.size+1) (AD EI) BB/\At m l.heap.size (AD x) BB/\w.heap.size+2<=l.heap.size/\m.heap.size=l.heap.size+1):=by
   have P:=j.out.2.2;rw[z]at f;have R:=f.size;have G:=At.keep j.out.2.1 f (by omega);refine⟨?_,?_,?_,by omega,by rw[d];simp⟩
   .rw[d];exact(j.out.1.trans (f.mono (by omega))).alloc (by have:=j.out.1.size;omega) _
   .rw[d];exact At.allocH G _
   .rw[d];exact At.new _ _ _
  have H:w.heap.size+2<=l.heap.size:=q.out.2.2.2.1;clear f;unfold AD at d;rw[d]at q;go_wp2_with fail;refine(MM _ _ _ _ _ _ _ _ _ _ _).mono ?_;rintro e U ⟨rfl,T,rfl⟩;go_wp2_with (first|(refine Dd (b:=w.heap.size+1) (c:=AD EI) rfl (.tmp 6) (.tmp 28) rfl rfl EI rfl (At.allocH q.out.2.1 _) rfl ?_;intro B u v));have h5:Hid (At B (w.heap.size+1) (AD EI) BB/\dc w B):=⟨u,(q.out.1.alloc (by have:=q.out.1.size;exact this) _).trans (v.below (by omega) (by have:=q.out.1.size;simp at this|-;omega))⟩
  go_wp2_with fail;try simp only[Exit.inBlock,Exit.then]
  refine bJ (Df (b:=w.heap.size+1) (x:=EI) rfl _ rfl h5.out.1) rfl ?_;exact⟨rfl,h5.out.2⟩
 .rw[a_ (λe=>e.elim A C),a_ (λe=>e.elim A C)];rw[r]at i;unfold B0 AD EI AC at i;go_enter func79,ntmps79;go_wp2_with fail;refine i.mono ?_;rintro e l ⟨rfl,f⟩;obtain⟨m,d⟩:∃m,m=l.alloc (.cells (AD x) BB):=⟨_,rfl⟩
  have q:Hid (dc w m/\At m (w.heap.size+1) (AD EI) BB/\At m l.heap.size (AD x) BB/\w.heap.size+2<=l.heap.size/\m.heap.size=l.heap.size+1):=by
   have P:=j.out.2.2;rw[z]at f;have R:=f.size;have G:=At.keep j.out.2.1 f (by omega);refine⟨?_,?_,?_,by omega,by rw[d];simp⟩
   .rw[d];exact(j.out.1.trans (f.mono (by omega))).alloc (by have:=j.out.1.size;omega) _
   .rw[d];exact At.allocH G _
   .rw[d];exact At.new _ _ _
  have H:w.heap.size+2<=l.heap.size:=q.out.2.2.2.1;clear f;unfold AD at d;rw[d]at q;go_wp2_with fail;refine(MM _ _ _ _ _ _ _ _ _ _ _).mono ?_;rintro e U ⟨rfl,T,rfl⟩;go_wp2_with (first|(refine Dd (b:=w.heap.size+1) (c:=AD EI) rfl (.tmp 6) (.tmp 29) rfl rfl x rfl (At.allocH q.out.2.1 _) rfl ?_;intro B u v));have h5:Hid (At B (w.heap.size+1) (AD x) BB/\dc w B):=⟨u,(q.out.1.alloc (by have:=q.out.1.size;exact this) _).trans (v.below (by omega) (by have:=q.out.1.size;simp at this|-;omega))⟩
  go_wp2_with fail;try simp only[Exit.inBlock,Exit.then]
  refine bJ (Df (b:=w.heap.size+1) (x:=x) rfl _ rfl h5.out.1) rfl ?_;exact⟨rfl,h5.out.2⟩
theorem Ll{o:List Int}(ho:B_ o)(he:ovE o=false):TQ (BT o):=by
 refine⟨(Db ho).tc he,(Db ho).top (Sd ho) he,λk hk=>?_⟩;have ab:Lo (8000*6^8+1) (Aj (FW o 32)):=Kc (λa _=>(EA o 32 ho.2 a).1);have y: -(8000*6^8+1)<=Aj (FW o 32) k:=ab k hk;have z:(8000*6^8+1:Int)=13436928001:=by decide
 rw[z]at y;show _<=Aj (FW o 32) k;omega
theorem PP{o:List Int}(ho:B_ o):∀k,k<64-> -20000000000<=BT o k/\BT o k<=1000000:=by
 intro k hk;have ab:Lo (8000*6^8+1) (Aj (FW o 32)):=Kc (λa _=>(EA o 32 ho.2 a).1);have y: -(8000*6^8+1)<=Aj (FW o 32) k:=ab k hk;have z:(8000*6^8+1:Int)=13436928001:=by decide
 rw[z]at y;have u:=Cs (FW o 32) k;have v:=(EA o 32 ho.2 k).2;show -20000000000<=Aj (FW o 32) k/\Aj (FW o 32) k<=1000000;omega
theorem TQ.sh{C:Nat->Int}(h:TQ C):Sh C:=λk hk=>⟨by have:=h.lo k hk;omega,(h.top k hk).imp id (λq=>by omega)⟩
theorem ZU{C:Nat->Int}(h:Sh C){t f:Nat}(hf:f<8){n:Int}(hn: -999<=n/\n<=999):Sm (DO C t f n 64):=by
 intro k hk;rw[show k=k/8*8+k%8 by omega,Hd C t f n (by omega) (by omega)];have a:=Cv (t:=t) hf (show k/8<8 by omega);have b:=Cv (t:=t) hf (show k%8<8 by omega);have c:=h (Ak t f (k/8)*8+Ak t f (k%8)) (by omega);have d:=Cm (t:=t) hn (k/8);have e:=Cm (t:=t) hn (k%8);unfold pl;split
 .unfold NB;omega
 .rename_i q;have:=c.2.resolve_left (λz=>q (.inl z));omega
theorem Wq{C:Nat->Int}(h:Sh C){t:Nat}(ht:t<4){lo hi:Int}(ab: -999<=lo/\lo<=999)(aD: -999<=hi/\hi<=999):Sm (FI C t lo hi):=
 Qk (Qk (UX h ht (by omega) aD 8 (bB _)) ⟨by omega,.inr (by omega)⟩) ⟨by omega,.inr (by omega)⟩
theorem Yq{C:Nat->Int}(h:Sh C){x:Ds}(hx:OY x)(ht:0<=x.target/\x.target<4):Sm (JF C x):=by
 have n:=hx.num;unfold JF;split
 .exact Wq h (by omega) ⟨by omega,by omega⟩ ⟨by omega,by omega⟩
 .split
  .exact Wq h (by omega) ⟨by omega,by omega⟩ ⟨by omega,by omega⟩
  .exact ZU h (Cx x.sg 4 (bB _)).1 ⟨by omega,by omega⟩
theorem Wm{e:Bool}{M:Nat->Int}(hM:∀k,k<64-> -20000000000<=M k/\M k<=1000000){l:List Int}{n:Int}(hn: -1000<=n/\n<=1000):Sm (E5 e M l n):=by
 unfold E5;split
 .intro k hk;have:=hM k hk;omega
 .exact Sa (Ta hM hn) 64 (bB _)
theorem W7{e:Bool}{M:Nat->Int}(hM:∀k,k<64-> -20000000000<=M k/\M k<=1000000)(hS:e=false->Sh M){x:Ds}(hx:OY x)(ht:0<=x.target/\x.target<4)(i:Int):Sm (CE e M x i):=by
 have n:=hx.num;have hm:Sm M:=λk hk=>by have:=hM k hk;omega
 unfold CE;split
 .exact hm
 .rename_i h;split
  .exact Yq (hS (by simpa using h)) hx ht
  .split
   .exact hm
   .split
    .exact Wm hM ⟨by omega,by omega⟩
    .exact Wm hM ⟨by omega,by omega⟩
def CU(s:ByteArray)(p i:Int)(o:List Int):Int:=
 match AV (AA s)with
 |none=>1
 |some m=>if i<0\/CK m p<=i then 2 else if FM o=true then 0 else 3
def NF(s:ByteArray)(p:Int):Ds:=(AI s).2.getD p.toNat (AC 0 0)
def Fj(w:World)(c:Int)(e:Bool)(M:Nat->Int):Ending->World->Prop:=λx w'=>(c≠0/\dc w w'/\x=.returned (.tuple #[.slice none 0 0,.int .i64 c]))\/(c=0/\Jr w e M x w')
theorem EG{F:List Ds}{S:List St}(hW:Bj F S){k:Nat}(hk:k<F.length):Ae (F.getD k (AC 0 0)).kind=DE (S.getD k AY):=by
 obtain⟨x,u,a0,c0,g,hx,hu,av,ha,aL,aK,hC,hs,hr,aM⟩:=hW.at_ k hk;rw[CO hx,CO hu];obtain⟨x',u',aC,aB,_,_,_,_,aG⟩:=hs;rw[hx]at aC;rw[hu]at aB;cases aC
 cases aB
 have ak:=av.1;unfold DE;rw[ak];rcases aG with⟨aw,_⟩|⟨aF,_⟩|⟨aE,_⟩
 .rcases aw with e|e<;>rw[e]<;>decide
 .rw[aF];decide
 .rw[aE];decide
theorem YX(hG:Cr w)(s:ByteArray)(p i:Int)(u:Value)(o:List Int)(hm:s.size<=maxLen)(hu:AQ w u o):
  Calls prog 41 #[.string s,.int .i64 p,.int .i64 i,u] w (Fj w (CU s p i o) (CA (ovE o) (BT o) (NF s p) i) (CE (ovE o) (BT o) (NF s p) i)):=by
 have hr:=Hj s w hm;have hl:=AR s;have hz:=Bn;have ai:AV (AA s)=none->(∀e w',D8 w s e w'->∃c:Int,e=.returned (.tuple #[.agg #[.slice none 0 0],.int .i64 1,.int .i64 c])/\dc w w')->
   Calls prog 41 #[.string s,.int .i64 p,.int .i64 i,u] w (Fj w (CU s p i o) (CA (ovE o) (BT o) (NF s p) i) (CE (ovE o) (BT o) (NF s p) i)):=by
  intro hp hq;have X:Hid (CU s p i o=1):=by show CU _ _ _ _=_;unfold CU;rw[hp]
  have G:=hr.mono hq;obtain⟨au,cu,rfl, -, -⟩:=hu;clear hr hp hq hm hl hG;go_enter func41,ntmps41;go_wp2_with fail;refine G.mono ?_;rintro e r ⟨c,rfl,hb⟩;go_wp2_with fail
  go_ret2
  exact .inl ⟨by rw[X.out];decide,hb.alloc hb.size _,by rw[X.out];rfl⟩
 by_cases U:160<s.size
 .refine ai (by unfold AV;rw[bA (by omega)]) ?_;rintro e w' ⟨hb,h|h|h⟩
  .exact⟨0,h.2,hb⟩
  .exact absurd h.1 (by omega)
  .exact absurd h.1 (by omega)
 rcases BU s (by omega)with⟨hg,hp⟩|⟨m,hg,hp,hW⟩
 .refine ai hp ?_;rintro e w' ⟨hb,h|h|h⟩
  .exact absurd h.1 U
  .exact⟨_,h.2.2,hb⟩
  .exact absurd h.2.1 (by rw[hg];decide)
 clear ai;have ax:(AI s).2.length<=20:=(A_ s 22 (-1) 0 0 ((0,false),[]) ⟨bY _,bY _⟩).ok.len;have ap:(AI s).2.length=m.st.length:=hW.1.len
 have G:=hr.mono (R':=λe w'=>∃v,e=.returned (.tuple #[.agg #[v],.int .i64 0,.int .i64 0])/\dc w w'/\w'.ownsRow w.heap.size BB 10 v (AI s).2.length (GE (AI s).2)) (by
  rintro e w' ⟨hb,h|h|h⟩
  .exact absurd h.1 U
  .exact absurd h.2.1 (by rw[hg];decide)
  .obtain⟨_,_,v,he,j⟩:=h
   exact⟨v,he,hb,j⟩)
 have X:Hid (CU s p i o=if i<0\/CK m p<=i then 2 else if FM o=true then 0 else 3):=by show CU _ _ _ _=_;unfold CU;rw[hp]
 have HW:Hid (Bj (AI s).2 m.st/\AV (AA s)=some m):=⟨hW,hp⟩
 have ag:Hid ((AI s).2.length=m.st.length):=ap;have HG:Hid (Cr w):=hG;have HU:Hid (AQ w u o):=hu;have HX:Hid (NF s p=(AI s).2.getD p.toNat (AC 0 0)):=rfl;obtain⟨au,cu,rfl, -, -⟩:=id hu;clear hr hm hl U hg hp hW ap hG hu;generalize(AI s).2=F at *;have two:∀{e:Ending}{w':World},CU s p i o=2->dc w w'->e=.returned (.tuple #[.slice none 0 0,.int .i64 2])->Fj w (CU s p i o) (CA (ovE o) (BT o) (NF s p) i) (CE (ovE o) (BT o) (NF s p) i) e w':=λh1 h2 h3=>.inl ⟨by rw[h1];decide,h2,by rw[h1];exact h3⟩;have T:Hid (∀{e:Ending}{w':World},CU s p i o=2->dc w w'->e=.returned (.tuple #[.slice none 0 0,.int .i64 2])->Fj w (CU s p i o) (CA (ovE o) (BT o) (NF s p) i) (CE (ovE o) (BT o) (NF s p) i) e w'):=two;clear two;by_cases ad:p<0\/(F.length:Int)<=p
 .have ae:Hid (CU s p i o=2):=by
   refine X.out.trans (bA ?_);unfold CK;rw[bA (by have:=ag.out;omega)];omega
  have N:Hid (∀r ao cap,Calls prog 79 #[.agg #[.slice ao F.length cap],.int .i64 p,.int .i64 i] r λe w'=>e=.returned (.tuple #[B0 EI,.int .i64 2])/\dc r w'):=λr ao cap=>J8 ao _ ax p i ad;unfold B0 EI AC at N;clear X;go_enter func41,ntmps41;go_wp2_with fail;refine G.mono ?_;rintro e r ⟨v,rfl,hb,j⟩;obtain⟨ao,cap,rfl⟩:∃ao cap,v=.slice ao F.length cap:=by
   obtain⟨_,h2⟩:=j;rcases h2 with⟨rfl,e⟩|⟨g,cap,c,rfl,_⟩
   .exact⟨none,0,by rw[e]⟩
   .exact⟨_,cap,rfl⟩
  clear j;go_wp2_with fail;refine(N.out _ ao cap).mono ?_;rintro e A ⟨rfl,D⟩;have H:Hid (dc w A):=(hb.alloc hb.size _).trans (D.mono (by have:=hb.size;simp;omega));clear hb D G;go_wp2_with fail
  go_ret2
  exact T.out ae.out (H.out.alloc H.out.size _) rfl
 .obtain⟨k,rfl⟩:∃k:Nat,p=k:=⟨p.toNat,by omega⟩
  have hk:k<F.length:=by omega
  have HD:=EV HW.out.2 HW.out.1 hk;have hq:=Gb HW.out.2 (show k<m.st.length by have:=ag.out;omega);have W:Hid (OY (F.getD k (AC 0 0))/\0<=(F.getD k (AC 0 0)).target/\(F.getD k (AC 0 0)).target<4):=⟨HD.1,by rw[<-HD.2.2.1];exact⟨hq.var.1,by have:=hq.var.2;omega⟩⟩
  have aa:Hid (CK m (k:Int)=Ae (F.getD k (AC 0 0)).kind):=by
   show _=_;unfold CK;rw[a_ (by have:=ag.out;omega),bK,EG HW.out.1 hk]
  have N:Hid (∀r g cap,Cc r g F->Calls prog 79 #[.agg #[.slice (some ⟨g,0,none⟩) F.length cap],.int .i64 (k:Int),.int .i64 i] r λe w'=>e=.returned (.tuple #[B0 (if i<0\/Ae (F.getD k (AC 0 0)).kind<=i then EI else F.getD k (AC 0 0)),.int .i64 (if i<0\/Ae (F.getD k (AC 0 0)).kind<=i then 2 else 0)])/\dc r w'):=λr g cap hP=>LU hP k hk i;have ah:Hid (NF s (k:Int)=F.getD k (AC 0 0)):=by show _=_;rw[HX.out,bK]
  clear ad HD hq HX;generalize F.getD k (AC 0 0)=x at *;by_cases J:i<0\/Ae x.kind<=i
  .have ae:Hid (CU s k i o=2):=X.out.trans (bA (by rw[aa.out];exact J));have B:Hid (∀r g cap,Cc r g F->Calls prog 79 #[.agg #[.slice (some ⟨g,0,none⟩) F.length cap],.int .i64 (k:Int),.int .i64 i] r λe w'=>e=.returned (.tuple #[B0 EI,.int .i64 2])/\dc r w'):=λr g cap hP=>by
    have:=N.out r g cap hP;rw[bA J,bA J]at this;exact this
   unfold B0 EI AC at B;clear X N J aa;go_enter func41,ntmps41;go_wp2_with fail;refine G.mono ?_;rintro e r ⟨v,rfl,hb,j⟩;obtain⟨g,cap,rfl⟩:∃g cap,v=.slice (some ⟨g,0,none⟩) F.length cap:=by
    obtain⟨_,h2⟩:=j;rcases h2 with⟨_,e⟩|⟨g,cap,c,rfl,_⟩
    .omega
    .exact⟨g,cap,rfl⟩
   have Q:Hid (Cc r g F):=Ee j rfl (j.lt g rfl).2;clear j;go_wp2_with fail;refine(B.out _ g cap (Q.out.keep ((bC _ _).alloc (bB _) _))).mono ?_;rintro e A ⟨rfl,D⟩;have H:Hid (dc w A):=(hb.alloc hb.size _).trans (D.mono (by have:=hb.size;simp;omega));clear hb D G;go_wp2_with fail
   go_ret2
   exact T.out ae.out (H.out.alloc H.out.size _) rfl
  .have B:Hid (∀r g cap,Cc r g F->Calls prog 79 #[.agg #[.slice (some ⟨g,0,none⟩) F.length cap],.int .i64 (k:Int),.int .i64 i] r λe w'=>e=.returned (.tuple #[B0 x,.int .i64 0])/\dc r w'):=λr g cap hP=>by
    have:=N.out r g cap hP;rw[a_ J,a_ J]at this;exact this
   have Y:Hid (CU s k i o=if FM o=true then 0 else 3):=X.out.trans (a_ (by rw[aa.out];exact J));clear X N J aa T;by_cases E:B_ o
   .have Z:Hid (CU s k i o=0):=Y.out.trans (bA (CG.2 E));have af:Hid (∀r,dc w r->Calls prog 73 #[.slice au o.length cu] r λe w'=>e=.returned (.tuple #[.agg (oc (ovE o) (BT o)),.int .i64 0])/\dc r w'):=λr hb=>Fb (HG.out.keep hb HG.out.size) _ o E (HU.out.keep hb);have am:Hid (∀r,Calls prog 80 #[B0 x,.int .i64 i,.agg (oc (ovE o) (BT o))] r λe w'=>e=.returned (.agg (oc (CA (ovE o) (BT o) x i) (CE (ovE o) (BT o) x i)))/\dc r w'):=λr=>O0 x W.out.1 W.out.2 i (PP E) (λhe=>(Ll E he).sh);have an:Hid (Sm (CE (ovE o) (BT o) x i)):=W7 (PP E) (λhe=>(Ll E he).sh) W.out.1 W.out.2 i;have al:Hid (∀r,dc w r->Calls prog 74 #[.agg (oc (CA (ovE o) (BT o) x i) (CE (ovE o) (BT o) x i))] r (BF r (CA (ovE o) (BT o) x i) (CE (ovE o) (BT o) x i))):=λr hb=>MZ (HG.out.keep hb HG.out.size) an.out;rw[ah.out];clear Y E an ah;generalize CA (ovE o) (BT o) x i=e5 at *;generalize CE (ovE o) (BT o) x i=M5 at *;generalize ovE o=e1 at *;generalize BT o=M at *;unfold B0 at B am;go_enter func41,ntmps41;go_wp2_with fail;refine G.mono ?_;rintro e r ⟨v,rfl,hb,j⟩;obtain⟨g,cap,rfl⟩:∃g cap,v=.slice (some ⟨g,0,none⟩) F.length cap:=by
     obtain⟨_,h2⟩:=j;rcases h2 with⟨_,e⟩|⟨g,cap,c,rfl,_⟩
     .omega
     .exact⟨g,cap,rfl⟩
    have Q:Hid (Cc r g F):=Ee j rfl (j.lt g rfl).2;clear j;go_wp2_with fail;refine(B.out _ g cap (Q.out.keep ((bC _ _).alloc (bB _) _))).mono ?_;rintro e A ⟨rfl,D⟩;have H:Hid (dc w A):=(hb.alloc hb.size _).trans (D.mono (by have:=hb.size;simp;omega));have az:=λV=>af.out (A.alloc V) (H.out.alloc H.out.size _);have R:Hid (∀V,Calls prog 73 #[.slice au o.length cu] (A.alloc V) λe w'=>e=.returned (.tuple #[.agg (oc e1 M),.int .i64 0])/\Below (A.alloc V).heap.size (A.alloc V) w'):=az;clear hb D G az;go_wp2_with fail;refine(R.out _).mono ?_;rintro e w3 ⟨rfl,I⟩;obtain⟨K,aA,O,P,aI⟩:=Bb w3 e1 M;have aH:A.heap.size+1<=w3.heap.size:=by have:=I.size;simpa using this
    have aj:At w3 A.heap.size (AD x) BB:=At.keep (At.new A (AD x) BB) I (by simp);have L:Hid (AL K w3.heap.size e1 M/\At K A.heap.size (AD x) BB/\dc w K):=⟨O,aj.keep P aj.lt,((H.out.alloc H.out.size _).trans (I.mono (by have:=H.out.size;simp;omega))).trans (P.mono (by have:=H.out.size;omega))⟩
    clear I O P aj;have y0:K.cell? ⟨A.heap.size,0,none⟩=some (.int .i64 x.kind):=L.out.2.1.cell 0;have y1:K.cell? ⟨A.heap.size,1,none⟩=some (.int .i64 x.target):=L.out.2.1.cell 1;have y2:K.cell? ⟨A.heap.size,2,none⟩=some (.bool x.any):=L.out.2.1.cell 2;have y3:K.cell? ⟨A.heap.size,3,none⟩=some (.int .i64 (AB x.sg 0)):=L.out.2.1.cell 3;have y4:K.cell? ⟨A.heap.size,4,none⟩=some (.int .i64 (AB x.sg 1)):=L.out.2.1.cell 4;have y5:K.cell? ⟨A.heap.size,5,none⟩=some (.int .i64 (AB x.sg 2)):=L.out.2.1.cell 5;have y6:K.cell? ⟨A.heap.size,6,none⟩=some (.int .i64 (AB x.sg 3)):=L.out.2.1.cell 6;have y7:K.cell? ⟨A.heap.size,7,none⟩=some (.int .i64 x.num):=L.out.2.1.cell 7;have y8:K.cell? ⟨A.heap.size,8,none⟩=some (.int .i64 x.parent):=L.out.2.1.cell 8;have y9:K.cell? ⟨A.heap.size,9,none⟩=some (.int .i64 x.block):=L.out.2.1.cell 9;go_wp2_with (refine AH rfl (.tmp 14) rfl rfl L.out.1 ?_);refine(am.out K).mono ?_;rintro e w5 ⟨rfl,aq⟩;have H5:Hid (dc w w5):=L.out.2.2.trans (aq.mono L.out.2.2.size);obtain⟨w6,aJ,ac,ar,aN⟩:=Bb w5 e5 M5;have H6:Hid (AL w6 w5.heap.size e5 M5/\dc w w6):=⟨ac,H5.out.trans (ar.mono H5.out.size)⟩
    have ay:=al.out w6 H6.out.2;clear aq ac ar al;go_wp2_with (refine AH rfl (.tmp 15) rfl rfl H6.out.1 ?_);refine ay.mono ?_;intro y w7 hy;obtain⟨yy,rfl,a,nn,c,rfl⟩:=hy.val;have HY:Hid (BF w e5 M5 (.returned (.slice a nn c)) w7):=hy.from_ H6.out.2;clear hy ay;go_wp2_with fail
    go_ret2
    exact .inr ⟨Z.out,_,HY.out,rfl⟩
   .have Z:Hid (CU s k i o=3):=Y.out.trans (a_ (λz=>E (CG.1 z)));have af:Hid (∀r,dc w r->Calls prog 73 #[.slice au o.length cu] r λe w'=>e=.returned (.tuple #[.agg (oc false λ_=>0),.int .i64 3])/\dc r w'):=λr hb=>OJ HG.out E HU.out r hb;clear Y E ah;unfold B0 at B;go_enter func41,ntmps41;go_wp2_with fail;refine G.mono ?_;rintro e r ⟨v,rfl,hb,j⟩;obtain⟨g,cap,rfl⟩:∃g cap,v=.slice (some ⟨g,0,none⟩) F.length cap:=by
     obtain⟨_,h2⟩:=j;rcases h2 with⟨_,e⟩|⟨g,cap,c,rfl,_⟩
     .omega
     .exact⟨g,cap,rfl⟩
    have Q:Hid (Cc r g F):=Ee j rfl (j.lt g rfl).2;clear j;go_wp2_with fail;refine(B.out _ g cap (Q.out.keep ((bC _ _).alloc (bB _) _))).mono ?_;rintro e A ⟨rfl,D⟩;have H:Hid (dc w A):=(hb.alloc hb.size _).trans (D.mono (by have:=hb.size;simp;omega));have R:Hid (∀V,Calls prog 73 #[.slice au o.length cu] (A.alloc V) λe w'=>e=.returned (.tuple #[.agg (oc false λ_=>0),.int .i64 3])/\Below (A.alloc V).heap.size (A.alloc V) w'):=λV=>af.out (A.alloc V) (H.out.alloc H.out.size _);clear hb D G;go_wp2_with fail;refine(R.out _).mono ?_;rintro e w3 ⟨rfl,I⟩;obtain⟨K,aA,O,P,aI⟩:=Bb w3 false (λ_=>0);have aH:A.heap.size+1<=w3.heap.size:=by have:=I.size;simpa using this
    have L:Hid (dc w K):=((H.out.alloc H.out.size _).trans (I.mono (by have:=H.out.size;simp;omega))).trans (P.mono (by have:=H.out.size;omega));clear I O P;go_wp2_with fail
    go_ret2
    exact .inl ⟨by rw[Z.out];decide,L.out,by rw[Z.out];rfl⟩
theorem Oq(h:Cc w g F)(o:F.length<=20)(p:Int):
  Calls prog 130 #[.agg #[.slice (some ⟨g,0,none⟩) F.length cap],.int .i64 p] w λe w'=>e=.returned (.bool (DU F p))/\dc w w':=by
 have hg:=h.1;have n:Hid (Cc w g F):=h;have j:Hid (∀m,dc w (w.alloc m)):=λm=>(bC _ _).alloc (bB _) _;by_cases a:p<0\/(F.length:Int)<=p
 .have l:Hid (DU F p=false):=by
   show DU F p=false;unfold DU;rcases a with e|e
   .rw[bT (by omega:¬0<=p)];rfl
   .rw[bT (by omega:¬p<F.length)];simp
  have c:Hid (∀b,Calls prog 81 #[.agg #[.slice (some ⟨g,0,none⟩) F.length cap],.int .i64 p] b λe w'=>e=.returned (.tuple #[B0 EI,.int .i64 2])/\dc b w'):=λb=>IJ _ _ o p a;clear h a;unfold B0 EI at c;go_enter func130,ntmps130;go_wp2_with fail;refine(c.out _).mono ?_;rintro e b ⟨rfl,d⟩;have i:Hid (dc w b):=(j.out _).trans (d.mono (by simp));have f:=i.out.size;clear d;go_wp2_with fail;go_ret;exact⟨by rw[l.out];rfl,i.out.alloc f _⟩
 .obtain⟨k,rfl⟩:∃k:Nat,p=k:=⟨p.toNat,by omega⟩
  have hk:k<F.length:=by omega
  have l:Hid (DU F k=((F.getD k (AC 0 0)).kind==3)):=by
   show DU F k=_;unfold DU;rw[bK,cC (by omega:(0:Int)<=k),cC (by omega:(k:Int)<F.length)];simp only[Bool.true_and];rfl
  have c:Hid (∀b,dc w b->Calls prog 81 #[.agg #[.slice (some ⟨g,0,none⟩) F.length cap],.int .i64 (k:Int)] b λe w'=>e=.returned (.tuple #[B0 (F.getD k (AC 0 0)),.int .i64 0])/\dc b w'):=λb hb=>Fm (n.out.keep hb) k hk;clear h a;generalize F.getD k (AC 0 0)=x at *;unfold B0 at c;go_enter func130,ntmps130;go_wp2_with fail;refine(c.out _ (j.out _)).mono ?_;rintro e b ⟨rfl,d⟩;have i:Hid (dc w b):=(j.out _).trans (d.mono (by simp));have f:=i.out.size;clear d;go_wp2_with fail;go_ret;exact⟨by rw[l.out];rfl,i.out.alloc f _⟩
theorem LT(h:Cc w g F)(hl:F.length<=20)(p b fr:Int):
  Calls prog 103 #[.agg #[.slice (some ⟨g,0,none⟩) F.length cap],.int .i64 p,.int .i64 b,.int .i64 fr] w λe w'=>e=.returned (.int .i64 (Bu F p b fr))/\dc w w':=by
 have hg:=h.1;have s:Hid (Cc w g F):=h;clear h;go_enter func103,ntmps103;go_wp2_with fail;go_loopw [14] (λi wr=>∃k:Nat,k<=F.length/\i=.int .i64 k/\dc w wr/\Bu F p b fr=CR p b fr (F.drop k) k) (λi _=>F.length-(intOf i).toNat);case atStart=>exact⟨0,bY _,rfl,(bC _ _).alloc (bB _) _,rfl⟩
 case round=>
  obtain⟨k,hk,rfl,a,l⟩:=hrel;have q:Hid (_=_):=l;clear l;by_cases n:k<F.length
  .have aa:(k:Int)<(F.length:Int):=by omega
   obtain⟨c0,c1,c2,c3,c4,c5,c6,c7,c8,c9⟩:=(s.out.keep a).2 k _ (KE n);have f:Hid (_=_):=q.out.trans (MO n);have d:=a.size;have o:Hid (Below _ _ _):=a;clear q a;generalize F.getD k (AC 0 0)=x at *;by_cases r:fr<=(k:Int)
   .by_cases j:x.parent=p
    .have u:(x.parent==p)=true:=by simpa using j
     by_cases hb:x.block=b
     .have t:(x.block==b)=true:=by simpa using hb
      have c:Hid (_=_):=f.out.trans (bA ⟨r,j,hb⟩);clear f j hb;go_wp2_with fail;go_ret;exact⟨by rw[c.out];rfl,o.out.alloc d _⟩
     .have t:(x.block==b)=false:=by simpa using hb
      have c:Hid (_=_):=f.out.trans (a_ (λe=>hb e.2.2));clear f j hb;go_wp2_with fail;go_roundw;case rel=>exact⟨k+1,by omega,by go_num,o.out.alloc d _,c.out⟩
      case measure=>simp[intOf];omega
    .have u:(x.parent==p)=false:=by simpa using j
     have c:Hid (_=_):=f.out.trans (a_ (λe=>j e.2.1));clear f j;go_wp2_with fail;go_roundw;case rel=>exact⟨k+1,by omega,by go_num,o.out.alloc d _,c.out⟩
     case measure=>simp[intOf];omega
   .have c:Hid (_=_):=f.out.trans (a_ (λe=>r e.1));have ab:decide (fr<=(k:Int))=false:=bT r;clear f;go_wp2_with fail;go_roundw;case rel=>exact⟨k+1,by omega,by go_num,o.out.alloc d _,c.out⟩
    case measure=>simp[intOf];omega
  .have m:k=F.length:=by omega
   have c:Hid (Bu F p b fr= -1):=q.out.trans (by rw[m,List.drop_length];rfl);have ac:¬(k:Int)<(F.length:Int):=by omega
   clear q m;go_wp2_with fail;go_ret;exact⟨by rw[c.out];rfl,a⟩
theorem J7(a:Option Addr)(n cap:Nat)(w:World)(_hn:n<=20):
  Calls prog 67 #[.agg #[.slice a n cap]] w λe w'=>e=.returned (.int .i64 n)/\∃o,w'=w.alloc o:=by
 go_enter func67,ntmps67;go_wp2;go_ret;exact⟨rfl,_,rfl⟩
def Sj(g n cap:Nat):Obj:=.cells #[.slice (some ⟨g,0,none⟩) n cap] 43
theorem JH(h:Cc w g F)(Q:F.length<=20)(A:∀(k:Nat)(x:Ds),F[k]?=some x-> -1<=x.parent/\x.parent<(k:Int))(pt:Int)(U: -1<=pt)(ah:pt<21):
  Calls prog 102 #[.agg #[.slice (some ⟨g,0,none⟩) F.length cap],.int .i64 pt] w λe w'=>e=.returned (.int .i64 (BX F 21 pt))/\dc w w':=by
 have hg:=h.1;have Z:Hid (Cc w g F):=h;have I:Hid (∀(k:Nat)(x:Ds),F[k]?=some x-> -1<=x.parent/\x.parent<(k:Int)):=A;have H:Hid (dc w (w.alloc (Sj g F.length cap))):=(bC _ _).alloc (bB _) _;clear h A;go_enter func102,ntmps102;go_wp2_with fail;go_loopw [1] (λq wr=>∃(z:Int)(n:Nat),q=.int .i64 z/\ -1<=z/\z<n/\n<=21/\BX F 21 pt=BX F n z/\Below (w.heap.size+1) (w.alloc (Sj g F.length cap)) wr) (λq _=>(intOf q+1).toNat);case atStart=>exact⟨pt,21,rfl,U,by omega,bB _,rfl,bC _ _⟩
 case round=>
  obtain⟨z,n,rfl,ai,aj,ad,L,c⟩:=hrel;have O:Hid (_=_):=L;have M:=c.size;have B:(w.alloc (Sj g F.length cap)).heap.size=w.heap.size+1:=by simp
  rw[B]at M;have ab:w.heap.size<wr.heap.size:=by omega
  have T:wr.cell? ⟨w.heap.size,0,none⟩=some (.slice (some ⟨g,0,none⟩) F.length cap):=by
   rw[c.cell (p:=⟨w.heap.size,0,none⟩) (by show w.heap.size<_;omega)];exact bL (w:=w) _ _ _ _ rfl
  have E:dc w wr:=H.out.trans (c.mono (by omega));have D:Hid (Cc wr g F):=Z.out.keep E;have Y:Hid (Below _ _ _):=c;have s:Hid (Below _ _ _):=E;clear L c B E;by_cases r:z<0
  .have u:Hid (BX F 21 pt=F.length):=O.out.trans (by
    cases n with
    |zero=>rfl
    |succ n=>rw[BX,bA (.inl r)])
   go_wp2_with fail;refine(J7 _ F.length cap _ Q).mono ?_;rintro e j ⟨rfl,o,rfl⟩;go_wp2_with fail;go_ret;exact⟨by rw[u.out];rfl,s.out.alloc (by omega) _⟩
  obtain⟨k,rfl⟩:∃k:Nat,z=k:=⟨z.toNat,by omega⟩
  obtain⟨R,rfl⟩:∃R,n=R+1:=⟨n-1,by omega⟩
  by_cases G:(F.length:Int)<=(k:Int)
  .have u:Hid (BX F 21 pt=F.length):=O.out.trans (by rw[BX,bA (.inr G)]);have ag:¬(k:Int)<(F.length:Int):=by omega
   go_wp2_with fail;refine(J7 _ F.length cap _ Q).mono ?_;rintro e j ⟨rfl,o,rfl⟩;go_wp2_with fail;go_ret;exact⟨by rw[u.out];rfl,s.out.alloc (by omega) _⟩
  have hk:k<F.length:=by omega
  have af:(k:Int)<(F.length:Int):=by omega
  have P:Hid (BX F 21 pt=if Bu F (F.getD k (AC 0 0)).parent (F.getD k (AC 0 0)).block ((k:Int)+1)≠ -1 then Bu F (F.getD k (AC 0 0)).parent (F.getD k (AC 0 0)).block ((k:Int)+1)else if DU F (F.getD k (AC 0 0)).parent=true then(F.getD k (AC 0 0)).parent else BX F R (F.getD k (AC 0 0)).parent):=O.out.trans (by
   rw[BX,a_ (λe=>e.elim r G),bK])
  obtain⟨c0,c1,c2,c3,c4,c5,c6,c7,c8,c9⟩:=D.out.2 k _ (KE hk);obtain⟨q0,q1⟩:=I.out k _ (KE hk);have ae:g<wr.heap.size:=by omega
  clear O r G;generalize F.getD k (AC 0 0)=x at *;have K:=λ(j:World) (hP:Cc j g F)=>LT (cap:=cap) hP Q x.parent x.block ((k:Int)+1);have S:Hid (∀(j:World)(hP:Cc j g F),Calls prog 103 #[.agg #[.slice (some ⟨g,0,none⟩) F.length cap],.int .i64 x.parent,.int .i64 x.block,.int .i64 ((k:Int)+1)] j λe w'=>e=.returned (.int .i64 (Bu F x.parent x.block ((k:Int)+1)))/\dc j w'):=K;clear K;generalize Bu F x.parent x.block ((k:Int)+1)=fi at *;go_wp2_with fail;refine(S.out _ (D.out.keep ((bC _ _).alloc (bB _) _))).mono ?_;rintro e j ⟨rfl,m⟩;have N:=m.size;simp at N;have ac:w.heap.size<j.heap.size:=by omega
  have X:j.cell? ⟨wr.heap.size,8,none⟩=some (.int .i64 x.parent):=by
   rw[m.cell (p:=⟨wr.heap.size,8,none⟩) (by simp)];exact bL (w:=wr) _ _ _ _ rfl
  have aa:j.cell? ⟨w.heap.size,0,none⟩=some (.slice (some ⟨g,0,none⟩) F.length cap):=by
   rw[m.cell (p:=⟨w.heap.size,0,none⟩) (by simp;omega)];exact(cJ (w:=wr) _ _ _ (by omega)).trans T
  have J:dc wr j:=((bC _ _).alloc (bB _) _).trans (m.mono (by simp));have t:Hid (Below _ _ _):=J;clear m J c0 c1 c2 c3 c4 c5 c6 c7 c8 c9;by_cases y:fi= -1
  .subst y;have v:Hid (_=_):=P.out.trans (a_ (by decide));have f:=Oq (cap:=cap) (D.out.keep t.out) Q x.parent;clear P;cases a:DU F x.parent
   .have u:Hid (_=_):=v.out.trans (a_ (by rw[a];decide));rw[a]at f;clear a v;go_wp2_with fail;refine f.mono ?_;rintro e W ⟨rfl,d⟩;have V:W.cell? ⟨wr.heap.size,8,none⟩=some (.int .i64 x.parent):=by
     rw[d.cell (p:=⟨wr.heap.size,8,none⟩) (by show wr.heap.size<_;omega)];exact X
    have C:Hid (Below _ _ _):=d;clear d f;go_wp2_with fail;go_roundw;case rel=>exact⟨x.parent,R,rfl,q0,by omega,by omega,u.out,(Y.out.trans (t.out.mono M)).trans (C.out.mono (by omega))⟩
    case measure=>simp[intOf];omega
   .have u:Hid (_=_):=v.out.trans (bA a);rw[a]at f;clear a v;go_wp2_with fail;refine f.mono ?_;rintro e W ⟨rfl,d⟩;have V:W.cell? ⟨wr.heap.size,8,none⟩=some (.int .i64 x.parent):=by
     rw[d.cell (p:=⟨wr.heap.size,8,none⟩) (by show wr.heap.size<_;omega)];exact X
    have C:Hid (Below _ _ _):=d;clear d f;go_wp2_with fail;go_ret;exact⟨by rw[u.out];rfl,(s.out.trans (t.out.mono (by omega))).trans (C.out.mono (by omega))⟩
  .have bf:(fi != -1)=true:=by rw[cI];exact y
   have u:Hid (_=_):=P.out.trans (bA y);clear P y;go_wp2_with fail;go_ret;exact⟨by rw[u.out];rfl,s.out.trans (t.out.mono (by omega))⟩
end Go.Proofs.YtffajooegiempaaGreatDoor
