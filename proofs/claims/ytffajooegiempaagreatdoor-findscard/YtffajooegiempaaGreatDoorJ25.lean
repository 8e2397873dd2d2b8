import Derived.Test.YtffajooegiempaaGreatDoorJ24
set_option maxRecDepth 100000
set_option maxHeartbeats 6400000
namespace Go.Proofs.YtffajooegiempaaGreatDoor
open Go.RowKit
variable {B:Nat}{w:World}{r:Nat}{m:Rd}{vs vo:Value}{P Q O:Nat->Nat}{C:Nat->Int}
structure Yn(u:St):Prop where
 g:SI u
 var:0<=u.var/\u.var<=3
 fq:Fq u
theorem Gb{l:List Int}{m:Rd}(hp:AV l=some m){k:Nat}(hk:k<m.st.length):Yn (m.st.getD k AY):=by
 obtain⟨_,⟨n,hr⟩,hd,_⟩:=Au hp;obtain⟨hg,ok⟩:=MR (m:=CY) (m':=m) (λs hs=>absurd hs (by simp[CY])) Ok.init hr;have hkn:=Vs (m:=CY) (m':=m) ⟨λi hi=>absurd hi (by simp[CY]),λh=>absurd h (by simp[CY]),λh=>absurd h (by decide)⟩ Ok.init hr;have h115:m.state=115:=by
  unfold BS at hd;simp only[Bool.and_eq_true,decide_eq_true_eq]at hd;exact hd.1
 refine⟨Ga hp k,⟨(Bc.get hg k).1,(Bc.get hg k).2.1⟩,?_⟩;rcases Nat.lt_or_eq_of_le (Nat.succ_le_of_lt hk)with q|q
 ·exact hkn.all k q
 ·have:=hkn.now (by omega);rw[TS (.inl h115)]at this;unfold cur at this;rw[show m.st.length-1=k by omega]at this;exact this
structure Z5(w:World)(r k:Nat)(u:St)(len:Nat):Prop where
 ex:∃g cap p q,w.cell? ⟨r,1,none⟩=some (.slice (some ⟨g,0,none⟩) len cap)/\w.cell? ⟨g,k,none⟩=some (.pointer (some ⟨p,0,none⟩))/\w.cell? ⟨p,0,none⟩=some (.int .u8 u.kind)/\w.cell? ⟨p,2,none⟩=some (.bool u.star)/\
  w.cell? ⟨p,3,none⟩=some (.slice (some ⟨q,0,none⟩) 4 4)/\w.cell? ⟨p,4,none⟩=some (.int .i64 u.num)/\At w q (ic u.sg) tNk/\p<w.heap.size/\g<w.heap.size/\r<w.heap.size/\w.cell? ⟨p,1,none⟩=some (.int .i64 u.var)
theorem AZ.stv(h:AZ B w r m vs vo P Q O){k:Nat}(hk:k<m.st.length):Z5 w r k (m.st.getD k AY) m.st.length:=by
 obtain⟨g,cap,hvs,hrow,_⟩:=h.row (by omega);obtain⟨r0,r1,_⟩:=h.rdc;have hg:=AZ.gets hk;obtain⟨c0,c1,c2,c3,c4,_⟩:=h.stc k _ hg;obtain⟨a,b⟩:=h.st k _ hg;rw[hvs]at r1;have hgl:=World.block_lt_of_cell? w _ (hrow k hk);exact⟨g,cap,P k,Q k,r1,hrow k hk,c0,c2,c3,c4,b,a.lt,hgl,h.rd.lt,c1⟩
theorem O8{x:Ds}{u:St}(hc:OX x u):x.kind=0↔u.kind=61:=by
 rw[hc.1];unfold Fr;constructor
 ·intro h;rw[if_pos h]
 ·intro h;by_cases q:x.kind=0
  ·exact q
  ·rw[if_neg q]at h;split at h
   ·cases h
   ·split at h<;>cases h
theorem Jm(h:AZ B w r m vs vo P Q O)(k:Nat)(hk:k<m.st.length)(hu:Yn (m.st.getD k AY)){x:Ds}(hc:OX x (m.st.getD k AY))(way:Int)(v:Value)(e0:Bool)(hva:∃a n c,v=.slice a n c)(hcl:Calls Tryz.prog 59 #[v] w (BF w e0 C))(hT:e0=false->TQ C):
  Calls Tryz.prog 22 #[.pointer (some ⟨r,0,none⟩),.int .i64 (k:Int),.int .i64 way,v] w (BF w (CA e0 C x way) (CE e0 C x way)):=by
 have hq1:∀(w:World)(a:Option Addr)(n c:Nat),(binOp .eql 32 (.slice a n c) (.slice none 0 0)).run Tryz.prog w=.ok (.bool a.isNone) w:=λw a n c=>Lib.run_eql_slice_nil w 32 tN a n c 0 0 Tryz.underlying32;have hmk:∀w,(Instr.makeSlice 32 (.int .i64 4) (.int .i64 4)).run Tryz.prog w=.ok (.slice (some ⟨w.heap.size,0,none⟩) 4 4) (w.alloc (.cells #[.int .i64 0,.int .i64 0,.int .i64 0,.int .i64 0] tNk)):=λ_=>by kernel_rfl
 have StK:Hid (∀w1,Below w.heap.size w w1->Z5 w1 r k (m.st.getD k AY) m.st.length):=λw1 hb=>(h.keep hb).stv hk;have hki:(k:Int)<(m.st.length:Int):=by omega
 have hk0:=O8 hc;obtain⟨-,c1,c2,c3,c4⟩:=id hc;obtain⟨va,vn,vc,rfl⟩:=hva;clear h;generalize m.st.getD k AY=u at *;have HU:Hid (Yn u):=hu;have HC:Hid (OX x u):=hc;cases e0 with
 |true=>
  have HE:Hid (CA true C x way=true):=rfl;clear hT hu hc c1 c2 c3 c4 hk0;go_enter Tryz.func22,Tryz.ntmps22;go_wp2_with fail;refine hcl.mono ?_;rintro e w1 ⟨hb1,⟨-,rfl⟩|⟨he, -⟩⟩
  ·have hrw:=StK.out w1 hb1;obtain⟨g,cap,p,q,x1,x2,x3,x4,x5,x6,hq,hpl,hgl,hrl,x7⟩:=hrw.ex;have HQ:Hid (At w1 q (ic u.sg) tNk/\Below w.heap.size w w1):=⟨hq,hb1⟩
   clear hrw hq;clear hb1 hcl;go_wp2_with fail;go_ret;exact⟨HQ.out.2,.inl ⟨HE.out,rfl⟩⟩
  ·cases he
 |false=>
 have HT:Hid (TQ C):=hT rfl;have hnr:=hu.g.num;obtain⟨n1,n2⟩:=hnr;by_cases k61:u.kind=61
 ·have HE:Hid (CA false C x way=false/\CE false C x way=JF C x):=by
   refine⟨?_,?_⟩
   ·unfold CA;rw[if_neg (by decide),if_pos (hk0.2 k61)]
   ·unfold CE;rw[if_neg (by decide),if_pos (hk0.2 k61)]
  have h1:nz u.sg<=1:=hu.fq.1 k61
  have HAs:Hid (∀w1 gq p q,Below w.heap.size w w1->At w1 gq (ic (Bl C)) Gc->p<w1.heap.size->w1.cell? ⟨p,1,none⟩=some (.int .i64 u.var)->w1.cell? ⟨p,2,none⟩=some (.bool u.star)->w1.cell? ⟨p,3,none⟩=some (.slice (some ⟨q,0,none⟩) 4 4)->w1.cell? ⟨p,4,none⟩=some (.int .i64 u.num)->At w1 q (ic u.sg) tNk->
    Calls Tryz.prog 60 #[.slice (some ⟨gq,0,none⟩) 32 32,.pointer (some ⟨p,0,none⟩)] w1 (ZV w1 (Kv C u))):=λw1 gq p q hb ha hp y1 y2 y3 y4 hq=>
   PY HT.out.sm _ u HU.out.g HU.out.var h1 (AQ.at_ ha (BJ C) (Nat.le_refl _) (λi hi=>Aa _ _ (by rw[BJ];exact hi))) p q hp y1 y2 y3 y4 hq
  have HSm:Hid (∀f,f<32->bd (JF C x) f=Kv C u f):=λf hf=>VS HT.out.tc HT.out.top HC.out HU.out.g HU.out.var h1 hf;clear hT hu hc h1 c1 c2 c3 c4 hk0;go_enter Tryz.func22,Tryz.ntmps22;go_wp2_with fail;refine hcl.mono ?_;rintro e w1 ⟨hb1,⟨he, -⟩|⟨-,gq,rfl,hgq,ha⟩⟩
  ·cases he
  ·have hrw:=StK.out w1 hb1;obtain⟨g,cap,p,q,x1,x2,x3,x4,x5,x6,hq,hpl,hgl,hrl,x7⟩:=hrw.ex;have HQ:Hid (At w1 q (ic u.sg) tNk/\Below w.heap.size w w1):=⟨hq,hb1⟩
   clear hrw hq;have has:=HAs.out w1 gq p q hb1 ha hpl x7 x4 x5 x6 HQ.out.1;rw[k61]at x3;clear hb1 hcl ha k61 HAs;go_wp2_with fail;refine has.mono ?_;rintro e w2 ⟨hb2,g2,rfl,hg2,ha2⟩;have H2:Hid (Below w.heap.size w w2/\w.heap.size<=g2/\At w2 g2 (ic (rl (Kv C u))) tNk):=⟨HQ.out.2.trans (hb2.mono HQ.out.2.size),Nat.le_trans HQ.out.2.size hg2,ha2⟩
   clear hb2 hg2 ha2 has;go_wp2_with fail;go_ret;rw[HE.out.1,HE.out.2];refine⟨H2.out.1,.inr ⟨rfl,g2,rfl,H2.out.2.1,?_⟩⟩;have e1:rl (Kv C u)=Bl (JF C x):=It (λf hf=>(HSm.out f hf).symm);rw[<-e1];exact H2.out.2.2
 have kx:¬x.kind=0:=λz=>k61 (hk0.1 z);have kb:(u.kind==61)=false:=by simpa using k61
 cases hst:u.star with
 |true=>
  have HE:Hid (CA false C x way=false/\CE false C x way=C):=by
   have ha:x.any=true:=by rw[<-c2];exact hst
   refine⟨?_,?_⟩
   ·unfold CA;rw[if_neg (by decide),if_neg kx,if_pos ha]
   ·unfold CE;rw[if_neg (by decide),if_neg kx,if_pos ha]
  clear hT hu hc kx k61 c1 c2 c3 c4 hk0;go_enter Tryz.func22,Tryz.ntmps22;go_wp2_with fail;refine hcl.mono ?_;rintro e w1 ⟨hb1,⟨he, -⟩|⟨-,gq,rfl,hgq,ha⟩⟩
  ·cases he
  ·have hrw:=StK.out w1 hb1;obtain⟨g,cap,p,q,x1,x2,x3,x4,x5,x6,hq,hpl,hgl,hrl,x7⟩:=hrw.ex;have HQ:Hid (At w1 q (ic u.sg) tNk/\Below w.heap.size w w1):=⟨hq,hb1⟩
   clear hrw hq;rw[hst]at x4;have HG:Hid (w.heap.size<=gq/\At w1 gq (ic (Bl C)) Gc):=⟨hgq,ha⟩
   clear hb1 hcl ha hgq;go_wp2_with fail;go_ret;rw[HE.out.1,HE.out.2];exact⟨HQ.out.2,.inr ⟨rfl,gq,rfl,HG.out.1,HG.out.2⟩⟩
 |false=>
 have ha:x.any=false:=by rw[<-c2];exact hst
 have hz1:1<=nz u.sg:=(hu.fq.2 k61).resolve_left (by rw[hst];decide);have HMe:Hid (∀w1 gq vv (l:List Int) n,At w1 gq (ic (Bl C)) Gc->AQ w1 vv l->l.length=4->(∀i, -1<=AK l i/\AK l i<=1)->1<=nz l->nz l<=2->(-1000<=n/\n<=1000)->Calls Tryz.prog 61 #[.slice (some ⟨gq,0,none⟩) 32 32,vv,.int .i64 n] w1 (BF w1 (GJ false C l n) (E5 false C l n))):=λw1 gq vv l n ha hr h4 hs h1 h2 hn=>
  ZK HT.out _ vv l h4 hs h1 h2 n hn (AQ.at_ ha (BJ C) (Nat.le_refl _) (λi hi=>Aa _ _ (by rw[BJ];exact hi))) hr
 by_cases hw:way=0
 ·have HE:Hid (CA false C x way=GJ false C u.sg u.num/\CE false C x way=E5 false C u.sg u.num):=by
   rw[c3,c4];refine⟨?_,?_⟩
   ·unfold CA;rw[if_neg (by decide),if_neg kx,ha,if_neg (by decide),if_pos hw]
   ·unfold CE;rw[if_neg (by decide),if_neg kx,ha,if_neg (by decide),if_pos hw]
  have HMt:Hid (∀w1 w3 gq q,w3.heap=w1.heap->At w1 gq (ic (Bl C)) Gc->At w1 q (ic u.sg) tNk->Calls Tryz.prog 61 #[.slice (some ⟨gq,0,none⟩) 32 32,.slice (some ⟨q,0,none⟩) 4 4,.int .i64 u.num] w3 (BF w3 (GJ false C u.sg u.num) (E5 false C u.sg u.num))):=λw1 w3 gq q he ha hq=>
   HMe.out w3 gq _ u.sg u.num (ha.same (by rw[he])) (AQ.at_ (hq.same (by rw[he])) HU.out.g.len (Nat.le_refl _) (λi hi=>Aa _ _ (by rw[HU.out.g.len];exact hi))) HU.out.g.len HU.out.g.sg hz1 HU.out.g.nz ⟨by omega,by omega⟩
  subst hw;clear hT hu hc kx k61 HMe c1 c2 c3 c4 hk0 ha;go_enter Tryz.func22,Tryz.ntmps22;go_wp2_with fail;refine hcl.mono ?_;rintro e w1 ⟨hb1,⟨he, -⟩|⟨-,gq,rfl,hgq,ha⟩⟩
  ·cases he
  ·have hrw:=StK.out w1 hb1;obtain⟨g,cap,p,q,x1,x2,x3,x4,x5,x6,hq,hpl,hgl,hrl,x7⟩:=hrw.ex;have HQ:Hid (At w1 q (ic u.sg) tNk/\Below w.heap.size w w1):=⟨hq,hb1⟩
   clear hrw hq;rw[hst]at x4;have HMw:Hid (∀w3,w3.heap=w1.heap->Below w.heap.size w w3->Calls Tryz.prog 61 #[.slice (some ⟨gq,0,none⟩) 32 32,.slice (some ⟨q,0,none⟩) 4 4,.int .i64 u.num] w3 λe w'=>∃a nn c,e=.returned (.slice a nn c)/\Hid (BF w (GJ false C u.sg u.num) (E5 false C u.sg u.num) (.returned (.slice a nn c)) w')):=by
    intro w3 he hb3;refine(HMt.out w1 w3 gq q he ha HQ.out.1).mono ?_;intro y w4 hy;obtain⟨yy,rfl,a,nn,c,rfl⟩:=hy.val;exact⟨a,nn,c,rfl,hy.from_ hb3⟩
   clear hb1 hcl ha hgq HMt;generalize u.num=n at *;generalize GJ false C u.sg n=e4 at *;generalize E5 false C u.sg n=M4 at *;go_wp2_with fail;go_region_with (go_at_call 61;refine(HMw.out _ (by rfl) HQ.out.2.drew).mono ?_;rintro e w3 ⟨a,nn,c,rfl,HY⟩);all_goals
    go_wp2_with fail;go_ret;rw[HE.out.1,HE.out.2];exact HY.out
 ·have wb:(way==0)=false:=by simpa using hw
  have HE:Hid (CA false C x way=GJ false C (Dv u.sg) (-u.num-1)/\CE false C x way=E5 false C (Dv u.sg) (-u.num-1)):=by
   rw[c3,c4];refine⟨?_,?_⟩
   ·unfold CA;rw[if_neg (by decide),if_neg kx,ha,if_neg (by decide),if_neg hw]
   ·unfold CE;rw[if_neg (by decide),if_neg kx,ha,if_neg (by decide),if_neg hw]
  clear hT hu hc kx k61 c1 c2 c3 c4 hk0 ha hw;go_enter Tryz.func22,Tryz.ntmps22;go_wp2_with fail;refine hcl.mono ?_;rintro e w1 ⟨hb1,⟨he, -⟩|⟨-,gq,rfl,hgq,ha⟩⟩
  ·cases he
  ·have hrw:=StK.out w1 hb1;obtain⟨g,cap,p,q,x1,x2,x3,x4,x5,x6,hq,hpl,hgl,hrl,x7⟩:=hrw.ex;have HQ:Hid (At w1 q (ic u.sg) tNk/\Below w.heap.size w w1):=⟨hq,hb1⟩
   clear hrw hq;rw[hst]at x4;have HA:Hid (At (w1.alloc (.cells #[.int .i64 0,.int .i64 0,.int .i64 0,.int .i64 0] tNk)) w1.heap.size (ic (SL u.sg 0)) tNk/\Below w1.heap.size w1 (w1.alloc (.cells #[.int .i64 0,.int .i64 0,.int .i64 0,.int .i64 0] tNk))):=⟨At.new _ _ _,(Below.refl _ _).alloc (Nat.le_refl _) _⟩
   have HGa:Hid (At w1 gq (ic (Bl C)) Gc):=ha;have hqlt:q<w1.heap.size:=HQ.out.1.lt;clear hb1 hcl ha hgq;go_wp2_with fail;go_loopw [12] (λiv wr=>∃(j:Nat),j<=4/\iv=.int .i64 j/\Hid (At wr w1.heap.size (ic (SL u.sg j)) tNk/\Below w1.heap.size w1 wr)) (λiv _=>4-(intOf iv).toNat);case atStart=>exact⟨0,by omega,rfl,HA.out⟩
   case round=>
    obtain⟨j,hj,rfl,HR⟩:=hrel;have y5:wr.cell? ⟨p,3,none⟩=some (.slice (some ⟨q,0,none⟩) 4 4):=(HR.out.2.cell (p:=⟨p,3,none⟩) hpl).trans x5;by_cases hlt:j<4
    ·have hji:(j:Int)<4:=by omega
     have hpn:=Ty u.sg hlt;have ca:wr.cell? ⟨q,j,none⟩=some (.int .i64 (AK u.sg j)):=by
      rw[HR.out.2.cell (p:=⟨q,j,none⟩) hqlt,HQ.out.1.cell,Aa _ _ (by rw[HU.out.g.len];exact hlt)];rfl
     have cb:wr.cell? ⟨w1.heap.size,j,none⟩=some (.int .i64 0):=by
      rw[HR.out.1.cell,Aa _ _ (by omega),hpn.2]
     have cf:=HR.out.1.free;have hbl:=HR.out.1.lt;have hx:=HU.out.g.sg j;have HP:Hid (SL u.sg (j+1)=(SL u.sg j).set j (-AK u.sg j)):=rfl;clear hpn;generalize AK u.sg j=y at *;go_wp2_with fail;go_roundw;case rel=>
      refine⟨j+1,by omega,by go_num,?_,HR.out.2.setCell (Nat.le_refl _) _⟩;rw[HP.out,<-Be];exact HR.out.1.put j _
     case measure=>simp[intOf];omega
    ·have hj4:j=4:=by omega
     subst hj4;have hme:=HMe.out wr gq (.slice (some ⟨w1.heap.size,0,none⟩) 4 4) (Dv u.sg) (-u.num-1) (HGa.out.keep HR.out.2 HGa.out.lt) (AQ.at_ HR.out.1 (Cp _) (Nat.le_refl _) (λi hi=>Aa _ _ (by show i<(Dv u.sg).length;rw[Cp];exact hi))) (Cp _) (DJ HU.out.g.sg) (by rw[C9 HU.out.g.len];exact hz1) (by rw[C9 HU.out.g.len];exact HU.out.g.nz) ⟨by omega,by omega⟩;have HBr:Hid (Below w.heap.size w wr):=HQ.out.2.trans (HR.out.2.mono HQ.out.2.size);have z6:wr.cell? ⟨p,4,none⟩=some (.int .i64 u.num):=(HR.out.2.cell (p:=⟨p,4,none⟩) hpl).trans x6;have hplr:p<wr.heap.size:=Nat.lt_of_lt_of_le hpl HR.out.2.size;clear HMe HA HQ HGa;generalize u.num=n at *;generalize GJ false C (Dv u.sg) (-n-1)=e4 at *;generalize E5 false C (Dv u.sg) (-n-1)=M4 at *;go_wp2_with fail;refine hme.mono ?_;intro y w3 hy;obtain⟨yy,rfl,a,nn,c,rfl⟩:=hy.val;have HY:Hid (BF wr e4 M4 (.returned (.slice a nn c)) w3):=hy;clear hy hme;go_wp2_with fail;go_ret;rw[HE.out.1,HE.out.2];exact HY.out.from_ HBr.out
end Go.Proofs.YtffajooegiempaaGreatDoor
namespace Go.Proofs.YtffajooegiempaaGreatDoor
open Go.RowKit
variable {w w':World}{g cap b:Nat}{F:List Ds}
theorem Oy{c:Array Value}(h:At w b c BB)(hc:c.size=10)(y:Ds):∃w1,(Instr.storeAt BB (.pointer (some ⟨b,0,none⟩)) (B0 y)).run Tryz.prog w=.ok () w1/\At w1 b (AD y) BB/\BC b w w1:=by
 refine⟨w.setRow b (AD y),?_,setRow_heap w b c (AD y) BB (0,0) h,⟨rfl,rfl,rfl,by simp[World.setRow],λk _ hk=>setRow_other w b k _ (λe=>hk e)⟩⟩;simp only[Instr.storeAt,Instr.sureAddr,Sem.run_bind,Sem.run_pure,Result.andThen];exact run_storeVar_row w b BB BB c (AD y) h (by kernel_rfl) (by rw[hc];rfl) (by simp[AD,Value.oneCell'])
theorem Dd{ops:Array Oper}{rest:List Oper}{o:Oper}{a:Act}{Q:Exit->Act->World->Prop}{c:Array Value}(hg:o.guard=none)(p x:Operand)(hop:o.op=Op.store BB p x)(hp:a.eval p=.pointer (some ⟨b,0,none⟩))(y:Ds)(hx:a.eval x=B0 y)(hat:At w b c BB)(hc:c.size=10)
  (hK:∀w1,At w1 b (AD y) BB->BC b w w1->wpList Tryz.prog ops Q rest (a.put o.dst undef) w1):wpList Tryz.prog ops Q (o::rest) a w:=by
 refine wpList_plain hg λK hK'=>?_;obtain⟨w1,h1,h2,h3⟩:=Oy hat hc y;unfold Oper.wp;simp[execOp,hop,hp,hx,h1,Result.andThen,Oper.upon];exact hK' _ _ (hK w1 h2 h3)
theorem J8(ao:Option Addr)(n:Nat)(hn:n<=20)(p way:Int)(hp:p<0\/(n:Int)<=p):
  Calls Tryz.prog 79 #[.agg #[.slice ao n cap],.int .i64 p,.int .i64 way] w λe w'=>e=.returned (.tuple #[B0 EI,.int .i64 2])/\Below w.heap.size w w':=by
 obtain⟨w0,hw0⟩:∃w0,w0=(w.alloc (.cells #[.slice ao n cap] 43)).alloc (.cells (AD EI) BB):=⟨_,rfl⟩
 have HB0:Hid (Below w.heap.size w w0/\At w0 (w.heap.size+1) (AD EI) BB/\w0.heap.size=w.heap.size+2):=by
  refine⟨by rw[hw0];exact((Below.refl _ _).alloc (Nat.le_refl _) _).alloc (by simp) _,?_,by rw[hw0];simp⟩;have:=At.new (w.alloc (.cells #[.slice ao n cap] 43)) (AD EI) BB;rw[show(w.alloc (.cells #[.slice ao n cap] 43)).heap.size=w.heap.size+1 by simp]at this;rw[hw0];exact this
 obtain⟨BW,hBW⟩:∃BW:World->Prop,BW=λw'=>Below w0.heap.size w0 w':=⟨_,rfl⟩
 have hat0:Calls Tryz.prog 81 #[.agg #[.slice ao n cap],.int .i64 p] w0 λe w'=>e=.returned (.tuple #[B0 EI,.int .i64 2])/\BW w':=by rw[hBW];exact IJ ao n hn p hp
 clear hp;rw[hw0]at hat0;unfold B0 AD EI AC at hat0;go_enter Tryz.func79,Tryz.ntmps79;go_wp2_with fail;refine hat0.mono ?_;rintro e w1 ⟨rfl,hb1⟩;obtain⟨w2,hw2⟩:∃w2,w2=w1.alloc (.cells (AD EI) BB):=⟨_,rfl⟩
 have H2:Hid (Below w.heap.size w w2/\At w2 (w.heap.size+1) (AD EI) BB/\At w2 w1.heap.size (AD EI) BB/\w.heap.size+2<=w1.heap.size/\w2.heap.size=w1.heap.size+1):=by
  have s0:=HB0.out.2.2;rw[hBW]at hb1;have s1:=hb1.size;have a1:=At.keep HB0.out.2.1 hb1 (by omega);refine⟨?_,?_,?_,by omega,by rw[hw2];simp⟩
  ·rw[hw2];exact(HB0.out.1.trans (hb1.mono (by omega))).alloc (by have:=HB0.out.1.size;omega) _
  ·rw[hw2];exact At.allocH a1 _
  ·rw[hw2];exact At.new _ _ _
 have hs1:w.heap.size+2<=w1.heap.size:=H2.out.2.2.2.1;clear hb1;unfold AD EI AC at hw2;rw[hw2]at H2;go_wp2_with (first|(refine Dd (b:=w.heap.size+1) (c:=AD EI) rfl (.tmp 6) (.tmp 18) rfl rfl EI rfl H2.out.2.1 rfl ?_;intro w5 h5a h5b));have h5:Hid (At w5 (w.heap.size+1) (AD EI) BB/\Below w.heap.size w w5):=⟨h5a,H2.out.1.trans (h5b.below (by omega) (by have:=H2.out.1.size;exact this))⟩
 go_wp2_with fail;try simp only[Exit.inBlock,Exit.then]
 refine bodyPost_ret (Df (b:=w.heap.size+1) (x:=EI) rfl _ rfl h5.out.1) rfl ?_;exact⟨rfl,h5.out.2⟩
theorem LU(h:Cc w g F)(k:Nat)(hk:k<F.length)(way:Int):
  Calls Tryz.prog 79 #[.agg #[.slice (some ⟨g,0,none⟩) F.length cap],.int .i64 (k:Int),.int .i64 way] w λe w'=>
   e=.returned (.tuple #[B0 (if way<0\/Ae (F.getD k (AC 0 0)).kind<=way then EI else F.getD k (AC 0 0)),.int .i64 (if way<0\/Ae (F.getD k (AC 0 0)).kind<=way then 2 else 0)])/\Below w.heap.size w w':=by
 obtain⟨w0,hw0⟩:∃w0,w0=(w.alloc (.cells #[.slice (some ⟨g,0,none⟩) F.length cap] 43)).alloc (.cells (AD EI) BB):=⟨_,rfl⟩
 have HB0:Hid (Below w.heap.size w w0/\At w0 (w.heap.size+1) (AD EI) BB/\w0.heap.size=w.heap.size+2):=by
  refine⟨by rw[hw0];exact((Below.refl _ _).alloc (Nat.le_refl _) _).alloc (by simp) _,?_,by rw[hw0];simp⟩;have:=At.new (w.alloc (.cells #[.slice (some ⟨g,0,none⟩) F.length cap] 43)) (AD EI) BB;rw[show(w.alloc (.cells #[.slice (some ⟨g,0,none⟩) F.length cap] 43)).heap.size=w.heap.size+1 by simp]at this;rw[hw0];exact this
 obtain⟨BW,hBW⟩:∃BW:World->Prop,BW=λw'=>Below w0.heap.size w0 w':=⟨_,rfl⟩
 have hat0:Calls Tryz.prog 81 #[.agg #[.slice (some ⟨g,0,none⟩) F.length cap],.int .i64 (k:Int)] w0 λe w'=>e=.returned (.tuple #[B0 (F.getD k (AC 0 0)),.int .i64 0])/\BW w':=by rw[hBW];exact Fm (h.keep HB0.out.1) k hk
 generalize F.getD k (AC 0 0)=x at *;clear h hk;by_cases hw0':way<0
 ·rw[if_pos (.inl hw0'),if_pos (.inl hw0')];rw[hw0]at hat0;unfold B0 AD EI AC at hat0;go_enter Tryz.func79,Tryz.ntmps79;go_wp2_with fail;refine hat0.mono ?_;rintro e w1 ⟨rfl,hb1⟩;obtain⟨w2,hw2⟩:∃w2,w2=w1.alloc (.cells (AD x) BB):=⟨_,rfl⟩
  have H2:Hid (Below w.heap.size w w2/\At w2 (w.heap.size+1) (AD EI) BB/\At w2 w1.heap.size (AD x) BB/\w.heap.size+2<=w1.heap.size/\w2.heap.size=w1.heap.size+1):=by
   have s0:=HB0.out.2.2;rw[hBW]at hb1;have s1:=hb1.size;have a1:=At.keep HB0.out.2.1 hb1 (by omega);refine⟨?_,?_,?_,by omega,by rw[hw2];simp⟩
   ·rw[hw2];exact(HB0.out.1.trans (hb1.mono (by omega))).alloc (by have:=HB0.out.1.size;omega) _
   ·rw[hw2];exact At.allocH a1 _
   ·rw[hw2];exact At.new _ _ _
  have hs1:w.heap.size+2<=w1.heap.size:=H2.out.2.2.2.1;clear hb1;unfold AD at hw2;rw[hw2]at H2;go_wp2_with (first|(refine Dd (b:=w.heap.size+1) (c:=AD EI) rfl (.tmp 6) (.tmp 28) rfl rfl EI rfl H2.out.2.1 rfl ?_;intro w5 h5a h5b));have h5:Hid (At w5 (w.heap.size+1) (AD EI) BB/\Below w.heap.size w w5):=⟨h5a,H2.out.1.trans (h5b.below (by omega) (by have:=H2.out.1.size;exact this))⟩
  go_wp2_with fail;try simp only[Exit.inBlock,Exit.then]
  refine bodyPost_ret (Df (b:=w.heap.size+1) (x:=EI) rfl _ rfl h5.out.1) rfl ?_;exact⟨rfl,h5.out.2⟩
 by_cases hw1:Ae x.kind<=way
 ·rw[if_pos (.inr hw1),if_pos (.inr hw1)];rw[hw0]at hat0;unfold B0 AD EI AC at hat0;go_enter Tryz.func79,Tryz.ntmps79;go_wp2_with fail;refine hat0.mono ?_;rintro e w1 ⟨rfl,hb1⟩;obtain⟨w2,hw2⟩:∃w2,w2=w1.alloc (.cells (AD x) BB):=⟨_,rfl⟩
  have H2:Hid (Below w.heap.size w w2/\At w2 (w.heap.size+1) (AD EI) BB/\At w2 w1.heap.size (AD x) BB/\w.heap.size+2<=w1.heap.size/\w2.heap.size=w1.heap.size+1):=by
   have s0:=HB0.out.2.2;rw[hBW]at hb1;have s1:=hb1.size;have a1:=At.keep HB0.out.2.1 hb1 (by omega);refine⟨?_,?_,?_,by omega,by rw[hw2];simp⟩
   ·rw[hw2];exact(HB0.out.1.trans (hb1.mono (by omega))).alloc (by have:=HB0.out.1.size;omega) _
   ·rw[hw2];exact At.allocH a1 _
   ·rw[hw2];exact At.new _ _ _
  have hs1:w.heap.size+2<=w1.heap.size:=H2.out.2.2.2.1;clear hb1;unfold AD at hw2;rw[hw2]at H2;go_wp2_with fail;refine(MM _ _ _ _ _ _ _ _ _ _ _).mono ?_;rintro e w3 ⟨rfl,o3,rfl⟩;go_wp2_with (first|(refine Dd (b:=w.heap.size+1) (c:=AD EI) rfl (.tmp 6) (.tmp 28) rfl rfl EI rfl (At.allocH H2.out.2.1 _) rfl ?_;intro w5 h5a h5b));have h5:Hid (At w5 (w.heap.size+1) (AD EI) BB/\Below w.heap.size w w5):=⟨h5a,(H2.out.1.alloc (by have:=H2.out.1.size;exact this) _).trans (h5b.below (by omega) (by have:=H2.out.1.size;simp at this|-;omega))⟩
  go_wp2_with fail;try simp only[Exit.inBlock,Exit.then]
  refine bodyPost_ret (Df (b:=w.heap.size+1) (x:=EI) rfl _ rfl h5.out.1) rfl ?_;exact⟨rfl,h5.out.2⟩
 ·rw[if_neg (λe=>e.elim hw0' hw1),if_neg (λe=>e.elim hw0' hw1)];rw[hw0]at hat0;unfold B0 AD EI AC at hat0;go_enter Tryz.func79,Tryz.ntmps79;go_wp2_with fail;refine hat0.mono ?_;rintro e w1 ⟨rfl,hb1⟩;obtain⟨w2,hw2⟩:∃w2,w2=w1.alloc (.cells (AD x) BB):=⟨_,rfl⟩
  have H2:Hid (Below w.heap.size w w2/\At w2 (w.heap.size+1) (AD EI) BB/\At w2 w1.heap.size (AD x) BB/\w.heap.size+2<=w1.heap.size/\w2.heap.size=w1.heap.size+1):=by
   have s0:=HB0.out.2.2;rw[hBW]at hb1;have s1:=hb1.size;have a1:=At.keep HB0.out.2.1 hb1 (by omega);refine⟨?_,?_,?_,by omega,by rw[hw2];simp⟩
   ·rw[hw2];exact(HB0.out.1.trans (hb1.mono (by omega))).alloc (by have:=HB0.out.1.size;omega) _
   ·rw[hw2];exact At.allocH a1 _
   ·rw[hw2];exact At.new _ _ _
  have hs1:w.heap.size+2<=w1.heap.size:=H2.out.2.2.2.1;clear hb1;unfold AD at hw2;rw[hw2]at H2;go_wp2_with fail;refine(MM _ _ _ _ _ _ _ _ _ _ _).mono ?_;rintro e w3 ⟨rfl,o3,rfl⟩;go_wp2_with (first|(refine Dd (b:=w.heap.size+1) (c:=AD EI) rfl (.tmp 6) (.tmp 29) rfl rfl x rfl (At.allocH H2.out.2.1 _) rfl ?_;intro w5 h5a h5b));have h5:Hid (At w5 (w.heap.size+1) (AD x) BB/\Below w.heap.size w w5):=⟨h5a,(H2.out.1.alloc (by have:=H2.out.1.size;exact this) _).trans (h5b.below (by omega) (by have:=H2.out.1.size;simp at this|-;omega))⟩
  go_wp2_with fail;try simp only[Exit.inBlock,Exit.then]
  refine bodyPost_ret (Df (b:=w.heap.size+1) (x:=x) rfl _ rfl h5.out.1) rfl ?_;exact⟨rfl,h5.out.2⟩
end Go.Proofs.YtffajooegiempaaGreatDoor
namespace Go.Proofs.YtffajooegiempaaGreatDoor
open Go.RowKit
variable {w:World}
theorem Ll{o:List Int}(ho:B_ o)(he:ovE o=false):TQ (BT o):=by
 refine⟨(Db ho).tc he,(Db ho).top (Sd ho) he,λk hk=>?_⟩;have hlo:Lo (8000*6^8+1) (Aj (FW o 32)):=Kc (λa _=>(EA o 32 ho.2 a).1);have y: -(8000*6^8+1)<=Aj (FW o 32) k:=hlo k hk;have z:(8000*6^8+1:Int)=13436928001:=by decide
 rw[z]at y;show _<=Aj (FW o 32) k;omega
theorem PP{o:List Int}(ho:B_ o):∀k,k<64-> -20000000000<=BT o k/\BT o k<=1000000:=by
 intro k hk;have hlo:Lo (8000*6^8+1) (Aj (FW o 32)):=Kc (λa _=>(EA o 32 ho.2 a).1);have y: -(8000*6^8+1)<=Aj (FW o 32) k:=hlo k hk;have z:(8000*6^8+1:Int)=13436928001:=by decide
 rw[z]at y;have u:=Cs (FW o 32) k;have v:=(EA o 32 ho.2 k).2;show -20000000000<=Aj (FW o 32) k/\Aj (FW o 32) k<=1000000;omega
theorem TQ.sh{C:Nat->Int}(h:TQ C):Sh C:=λk hk=>⟨by have:=h.lo k hk;omega,(h.top k hk).imp id (λq=>by omega)⟩
theorem ZU{C:Nat->Int}(h:Sh C){t f:Nat}(hf:f<8){n:Int}(hn: -999<=n/\n<=999):Sm (DO C t f n 64):=by
 intro k hk;rw[show k=k/8*8+k%8 by omega,Hd C t f n (by omega) (by omega)];have a:=Cv (t:=t) hf (show k/8<8 by omega);have b:=Cv (t:=t) hf (show k%8<8 by omega);have c:=h (Ak t f (k/8)*8+Ak t f (k%8)) (by omega);have d:=Cm (t:=t) hn (k/8);have e:=Cm (t:=t) hn (k%8);unfold pl;split
 ·unfold NB;omega
 ·rename_i q;have:=c.2.resolve_left (λz=>q (.inl z));omega
theorem Wq{C:Nat->Int}(h:Sh C){t:Nat}(ht:t<4){lo hi:Int}(hlo: -999<=lo/\lo<=999)(hhi: -999<=hi/\hi<=999):Sm (FI C t lo hi):=
 Qk (Qk (UX h ht (by omega) hhi 8 (Nat.le_refl _)) ⟨by omega,.inr (by omega)⟩) ⟨by omega,.inr (by omega)⟩
theorem Yq{C:Nat->Int}(h:Sh C){x:Ds}(hx:OY x)(ht:0<=x.target/\x.target<4):Sm (JF C x):=by
 have n:=hx.num;unfold JF;split
 ·exact Wq h (by omega) ⟨by omega,by omega⟩ ⟨by omega,by omega⟩
 ·split
  ·exact Wq h (by omega) ⟨by omega,by omega⟩ ⟨by omega,by omega⟩
  ·exact ZU h (Cx x.sg 4 (Nat.le_refl _)).1 ⟨by omega,by omega⟩
theorem Wm{e:Bool}{M:Nat->Int}(hM:∀k,k<64-> -20000000000<=M k/\M k<=1000000){l:List Int}{n:Int}(hn: -1000<=n/\n<=1000):Sm (E5 e M l n):=by
 unfold E5;split
 ·intro k hk;have:=hM k hk;omega
 ·exact Sa (Ta hM hn) 64 (Nat.le_refl _)
theorem W7{e:Bool}{M:Nat->Int}(hM:∀k,k<64-> -20000000000<=M k/\M k<=1000000)(hS:e=false->Sh M){x:Ds}(hx:OY x)(ht:0<=x.target/\x.target<4)(way:Int):Sm (CE e M x way):=by
 have n:=hx.num;have hm:Sm M:=λk hk=>by have:=hM k hk;omega
 unfold CE;split
 ·exact hm
 ·rename_i h;split
  ·exact Yq (hS (by simpa using h)) hx ht
  ·split
   ·exact hm
   ·split
    ·exact Wm hM ⟨by omega,by omega⟩
    ·exact Wm hM ⟨by omega,by omega⟩
theorem EG{F:List Ds}{S:List St}(hW:Bj F S){k:Nat}(hk:k<F.length):Ae (F.getD k (AC 0 0)).kind=DE (S.getD k AY):=by
 obtain⟨x,u,a0,c0,g,hx,hu,hcor,ha,hif,hfc,hC,hs,hr,hkk⟩:=hW.at_ k hk;rw[CO hx,CO hu];obtain⟨x',u',hx',hu',_,_,_,_,hkd⟩:=hs;rw[hx]at hx';rw[hu]at hu';cases hx'
 cases hu'
 have hkind:=hcor.1;unfold DE;rw[hkind];rcases hkd with⟨hk01,_⟩|⟨hk3,_⟩|⟨hk2,_⟩
 ·rcases hk01 with e|e<;>rw[e]<;>decide
 ·rw[hk3];decide
 ·rw[hk2];decide
end Go.Proofs.YtffajooegiempaaGreatDoor
namespace Go.Proofs.YtffajooegiempaaGreatDoor
open Go.RowKit
variable {w w':World}{g cap:Nat}{F:List Ds}
theorem Oq(h:Cc w g F)(hl:F.length<=20)(p:Int):
  Calls Tryz.prog 130 #[.agg #[.slice (some ⟨g,0,none⟩) F.length cap],.int .i64 p] w λe w'=>e=.returned (.bool (DU F p))/\Below w.heap.size w w':=by
 have hg:=h.1;have HP:Hid (Cc w g F):=h;have HB:Hid (∀o1,Below w.heap.size w (w.alloc o1)):=λo1=>(Below.refl _ _).alloc (Nat.le_refl _) _;by_cases hout:p<0\/(F.length:Int)<=p
 ·have HE:Hid (DU F p=false):=by
   show DU F p=false;unfold DU;rcases hout with e|e
   ·rw[decide_eq_false (by omega:¬0<=p)];rfl
   ·rw[decide_eq_false (by omega:¬p<F.length)];simp
  have HAt:Hid (∀w1,Calls Tryz.prog 81 #[.agg #[.slice (some ⟨g,0,none⟩) F.length cap],.int .i64 p] w1 λe w'=>e=.returned (.tuple #[B0 EI,.int .i64 2])/\Below w1.heap.size w1 w'):=λw1=>IJ _ _ hl p hout;clear h hout;unfold B0 EI at HAt;go_enter Tryz.func130,Tryz.ntmps130;go_wp2_with fail;refine(HAt.out _).mono ?_;rintro e w1 ⟨rfl,hb1⟩;have H1:Hid (Below w.heap.size w w1):=(HB.out _).trans (hb1.mono (by simp));have hs1:=H1.out.size;clear hb1;go_wp2_with fail;go_ret;exact⟨by rw[HE.out];rfl,H1.out.alloc hs1 _⟩
 ·obtain⟨k,rfl⟩:∃k:Nat,p=k:=⟨p.toNat,by omega⟩
  have hk:k<F.length:=by omega
  have HE:Hid (DU F k=((F.getD k (AC 0 0)).kind==3)):=by
   show DU F k=_;unfold DU;rw[Int.toNat_natCast,decide_eq_true (by omega:(0:Int)<=k),decide_eq_true (by omega:(k:Int)<F.length)];simp only[Bool.true_and];rfl
  have HAt:Hid (∀w1,Below w.heap.size w w1->Calls Tryz.prog 81 #[.agg #[.slice (some ⟨g,0,none⟩) F.length cap],.int .i64 (k:Int)] w1 λe w'=>e=.returned (.tuple #[B0 (F.getD k (AC 0 0)),.int .i64 0])/\Below w1.heap.size w1 w'):=λw1 hb=>Fm (HP.out.keep hb) k hk;clear h hout;generalize F.getD k (AC 0 0)=x at *;unfold B0 at HAt;go_enter Tryz.func130,Tryz.ntmps130;go_wp2_with fail;refine(HAt.out _ (HB.out _)).mono ?_;rintro e w1 ⟨rfl,hb1⟩;have H1:Hid (Below w.heap.size w w1):=(HB.out _).trans (hb1.mono (by simp));have hs1:=H1.out.size;clear hb1;go_wp2_with fail;go_ret;exact⟨by rw[HE.out];rfl,H1.out.alloc hs1 _⟩
theorem LT(h:Cc w g F)(hl:F.length<=20)(p b fr:Int):
  Calls Tryz.prog 103 #[.agg #[.slice (some ⟨g,0,none⟩) F.length cap],.int .i64 p,.int .i64 b,.int .i64 fr] w λe w'=>e=.returned (.int .i64 (Bu F p b fr))/\Below w.heap.size w w':=by
 have hg:=h.1;have HP:Hid (Cc w g F):=h;clear h;go_enter Tryz.func103,Tryz.ntmps103;go_wp2_with fail;go_loopw [14] (λi wr=>∃k:Nat,k<=F.length/\i=.int .i64 k/\Below w.heap.size w wr/\Bu F p b fr=CR p b fr (F.drop k) k) (λi _=>F.length-(intOf i).toNat);case atStart=>exact⟨0,Nat.zero_le _,rfl,(Below.refl _ _).alloc (Nat.le_refl _) _,rfl⟩
 case round=>
  obtain⟨k,hk,rfl,hbel,hfi⟩:=hrel;have HF:Hid (_=_):=hfi;clear hfi;by_cases hlt:k<F.length
  ·have hki:(k:Int)<(F.length:Int):=by omega
   obtain⟨c0,c1,c2,c3,c4,c5,c6,c7,c8,c9⟩:=(HP.out.keep hbel).2 k _ (KE hlt);have HD:Hid (_=_):=HF.out.trans (MO hlt);have hsz:=hbel.size;have HB:Hid (Below _ _ _):=hbel;clear HF hbel;generalize F.getD k (AC 0 0)=x at *;by_cases hm:fr<=(k:Int)
   ·by_cases hp:x.parent=p
    ·have bp:(x.parent==p)=true:=by simpa using hp
     by_cases hb:x.block=b
     ·have bb:(x.block==b)=true:=by simpa using hb
      have HE:Hid (_=_):=HD.out.trans (if_pos ⟨hm,hp,hb⟩);clear HD hp hb;go_wp2_with fail;go_ret;exact⟨by rw[HE.out];rfl,HB.out.alloc hsz _⟩
     ·have bb:(x.block==b)=false:=by simpa using hb
      have HE:Hid (_=_):=HD.out.trans (if_neg (λe=>hb e.2.2));clear HD hp hb;go_wp2_with fail;go_roundw;case rel=>exact⟨k+1,by omega,by go_num,HB.out.alloc hsz _,HE.out⟩
      case measure=>simp[intOf];omega
    ·have bp:(x.parent==p)=false:=by simpa using hp
     have HE:Hid (_=_):=HD.out.trans (if_neg (λe=>hp e.2.1));clear HD hp;go_wp2_with fail;go_roundw;case rel=>exact⟨k+1,by omega,by go_num,HB.out.alloc hsz _,HE.out⟩
     case measure=>simp[intOf];omega
   ·have HE:Hid (_=_):=HD.out.trans (if_neg (λe=>hm e.1));have hmd:decide (fr<=(k:Int))=false:=decide_eq_false hm;clear HD;go_wp2_with fail;go_roundw;case rel=>exact⟨k+1,by omega,by go_num,HB.out.alloc hsz _,HE.out⟩
    case measure=>simp[intOf];omega
  ·have hke:k=F.length:=by omega
   have HE:Hid (Bu F p b fr= -1):=HF.out.trans (by rw[hke,List.drop_length];rfl);have hnk:¬(k:Int)<(F.length:Int):=by omega
   clear HF hke;go_wp2_with fail;go_ret;exact⟨by rw[HE.out];rfl,hbel⟩
theorem J7(ao:Option Addr)(n cap:Nat)(w:World)(_hn:n<=20):
  Calls Tryz.prog 67 #[.agg #[.slice ao n cap]] w λe w'=>e=.returned (.int .i64 n)/\∃o,w'=w.alloc o:=by
 go_enter Tryz.func67,Tryz.ntmps67;go_wp2;go_ret;exact⟨rfl,_,rfl⟩
def Sj(g n cap:Nat):Obj:=.cells #[.slice (some ⟨g,0,none⟩) n cap] 43
theorem JH(h:Cc w g F)(hl:F.length<=20)(hpar:∀(k:Nat)(x:Ds),F[k]?=some x-> -1<=x.parent/\x.parent<(k:Int))(pt:Int)(hp0: -1<=pt)(hp1:pt<21):
  Calls Tryz.prog 102 #[.agg #[.slice (some ⟨g,0,none⟩) F.length cap],.int .i64 pt] w λe w'=>e=.returned (.int .i64 (BX F 21 pt))/\Below w.heap.size w w':=by
 have hg:=h.1;have HP:Hid (Cc w g F):=h;have HPar:Hid (∀(k:Nat)(x:Ds),F[k]?=some x-> -1<=x.parent/\x.parent<(k:Int)):=hpar;have HBox:Hid (Below w.heap.size w (w.alloc (Sj g F.length cap))):=(Below.refl _ _).alloc (Nat.le_refl _) _;clear h hpar;go_enter Tryz.func102,Tryz.ntmps102;go_wp2_with fail;go_loopw [1] (λq wr=>∃(z:Int)(n:Nat),q=.int .i64 z/\ -1<=z/\z<n/\n<=21/\BX F 21 pt=BX F n z/\Below (w.heap.size+1) (w.alloc (Sj g F.length cap)) wr) (λq _=>(intOf q+1).toNat);case atStart=>exact⟨pt,21,rfl,hp0,by omega,Nat.le_refl _,rfl,Below.refl _ _⟩
 case round=>
  obtain⟨z,n,rfl,hz0,hzn,hn21,hfo,hbel⟩:=hrel;have HF:Hid (_=_):=hfo;have hsz:=hbel.size;have hwsz:(w.alloc (Sj g F.length cap)).heap.size=w.heap.size+1:=by simp
  rw[hwsz]at hsz;have hlt0:w.heap.size<wr.heap.size:=by omega
  have hbx:wr.cell? ⟨w.heap.size,0,none⟩=some (.slice (some ⟨g,0,none⟩) F.length cap):=by
   rw[hbel.cell (p:=⟨w.heap.size,0,none⟩) (by show w.heap.size<_;omega)];exact World.cell?_alloc_at (w:=w) _ _ _ _ rfl
  have hbw:Below w.heap.size w wr:=HBox.out.trans (hbel.mono (by omega));have HPr:Hid (Cc wr g F):=HP.out.keep hbw;have HB:Hid (Below _ _ _):=hbel;have HBW:Hid (Below _ _ _):=hbw;clear hfo hbel hwsz hbw;by_cases hneg:z<0
  ·have HE:Hid (BX F 21 pt=F.length):=HF.out.trans (by
    cases n with
    |zero=>rfl
    |succ n=>rw[BX,if_pos (.inl hneg)])
   go_wp2_with fail;refine(J7 _ F.length cap _ hl).mono ?_;rintro e w2 ⟨rfl,o,rfl⟩;go_wp2_with fail;go_ret;exact⟨by rw[HE.out];rfl,HBW.out.alloc (by omega) _⟩
  obtain⟨k,rfl⟩:∃k:Nat,z=k:=⟨z.toNat,by omega⟩
  obtain⟨n',rfl⟩:∃n',n=n'+1:=⟨n-1,by omega⟩
  by_cases hge:(F.length:Int)<=(k:Int)
  ·have HE:Hid (BX F 21 pt=F.length):=HF.out.trans (by rw[BX,if_pos (.inr hge)]);have hnk:¬(k:Int)<(F.length:Int):=by omega
   go_wp2_with fail;refine(J7 _ F.length cap _ hl).mono ?_;rintro e w2 ⟨rfl,o,rfl⟩;go_wp2_with fail;go_ret;exact⟨by rw[HE.out];rfl,HBW.out.alloc (by omega) _⟩
  have hk:k<F.length:=by omega
  have hki:(k:Int)<(F.length:Int):=by omega
  have HN:Hid (BX F 21 pt=if Bu F (F.getD k (AC 0 0)).parent (F.getD k (AC 0 0)).block ((k:Int)+1)≠ -1 then Bu F (F.getD k (AC 0 0)).parent (F.getD k (AC 0 0)).block ((k:Int)+1)else if DU F (F.getD k (AC 0 0)).parent=true then(F.getD k (AC 0 0)).parent else BX F n' (F.getD k (AC 0 0)).parent):=HF.out.trans (by
   rw[BX,if_neg (λe=>e.elim hneg hge),Int.toNat_natCast])
  obtain⟨c0,c1,c2,c3,c4,c5,c6,c7,c8,c9⟩:=HPr.out.2 k _ (KE hk);obtain⟨q0,q1⟩:=HPar.out k _ (KE hk);have hgr:g<wr.heap.size:=by omega
  clear HF hneg hge;generalize F.getD k (AC 0 0)=x at *;have hfi:=λ(w2:World) (hP:Cc w2 g F)=>LT (cap:=cap) hP hl x.parent x.block ((k:Int)+1);have HFI:Hid (∀(w2:World)(hP:Cc w2 g F),Calls Tryz.prog 103 #[.agg #[.slice (some ⟨g,0,none⟩) F.length cap],.int .i64 x.parent,.int .i64 x.block,.int .i64 ((k:Int)+1)] w2 λe w'=>e=.returned (.int .i64 (Bu F x.parent x.block ((k:Int)+1)))/\Below w2.heap.size w2 w'):=hfi;clear hfi;generalize Bu F x.parent x.block ((k:Int)+1)=fi at *;go_wp2_with fail;refine(HFI.out _ (HPr.out.keep ((Below.refl _ _).alloc (Nat.le_refl _) _))).mono ?_;rintro e w2 ⟨rfl,hb2⟩;have hsz2:=hb2.size;simp at hsz2;have hlt2:w.heap.size<w2.heap.size:=by omega
  have s8:w2.cell? ⟨wr.heap.size,8,none⟩=some (.int .i64 x.parent):=by
   rw[hb2.cell (p:=⟨wr.heap.size,8,none⟩) (by simp)];exact World.cell?_alloc_at (w:=wr) _ _ _ _ rfl
  have hbx2:w2.cell? ⟨w.heap.size,0,none⟩=some (.slice (some ⟨g,0,none⟩) F.length cap):=by
   rw[hb2.cell (p:=⟨w.heap.size,0,none⟩) (by simp;omega)];exact(World.cell?_alloc_past (w:=wr) _ _ _ (by omega)).trans hbx
  have hch:Below wr.heap.size wr w2:=((Below.refl _ _).alloc (Nat.le_refl _) _).trans (hb2.mono (by simp));have HCH:Hid (Below _ _ _):=hch;clear hb2 hch c0 c1 c2 c3 c4 c5 c6 c7 c8 c9;by_cases hf1:fi= -1
  ·subst hf1;have HN2:Hid (_=_):=HN.out.trans (if_neg (by decide));have hre:=Oq (cap:=cap) (HPr.out.keep HCH.out) hl x.parent;clear HN;cases hrep:DU F x.parent
   ·have HE:Hid (_=_):=HN2.out.trans (if_neg (by rw[hrep];decide));rw[hrep]at hre;clear hrep HN2;go_wp2_with fail;refine hre.mono ?_;rintro e w3 ⟨rfl,hb3⟩;have s83:w3.cell? ⟨wr.heap.size,8,none⟩=some (.int .i64 x.parent):=by
     rw[hb3.cell (p:=⟨wr.heap.size,8,none⟩) (by show wr.heap.size<_;omega)];exact s8
    have HB3:Hid (Below _ _ _):=hb3;clear hb3 hre;go_wp2_with fail;go_roundw;case rel=>exact⟨x.parent,n',rfl,q0,by omega,by omega,HE.out,(HB.out.trans (HCH.out.mono hsz)).trans (HB3.out.mono (by omega))⟩
    case measure=>simp[intOf];omega
   ·have HE:Hid (_=_):=HN2.out.trans (if_pos hrep);rw[hrep]at hre;clear hrep HN2;go_wp2_with fail;refine hre.mono ?_;rintro e w3 ⟨rfl,hb3⟩;have s83:w3.cell? ⟨wr.heap.size,8,none⟩=some (.int .i64 x.parent):=by
     rw[hb3.cell (p:=⟨wr.heap.size,8,none⟩) (by show wr.heap.size<_;omega)];exact s8
    have HB3:Hid (Below _ _ _):=hb3;clear hb3 hre;go_wp2_with fail;go_ret;exact⟨by rw[HE.out];rfl,(HBW.out.trans (HCH.out.mono (by omega))).trans (HB3.out.mono (by omega))⟩
  ·have bf:(fi != -1)=true:=by rw[bne_iff_ne];exact hf1
   have HE:Hid (_=_):=HN.out.trans (if_pos hf1);clear HN hf1;go_wp2_with fail;go_ret;exact⟨by rw[HE.out];rfl,HBW.out.trans (HCH.out.mono (by omega))⟩
def Pw(x:Int×Int):Ending:=.returned (.tuple #[.int .i64 x.1,.int .i64 x.2])
theorem Ot(ao:Option Addr)(n:Nat)(hn:n<=20)(pt way:Int)(hp:pt<0\/(n:Int)<=pt)(w:World):
  Calls Tryz.prog 68 #[.agg #[.slice ao n cap],.int .i64 pt,.int .i64 way] w λe w'=>e=Pw (0,2)/\Below w.heap.size w w':=by
 have HB:Hid (∀o1,Below w.heap.size w (w.alloc o1)):=λo1=>(Below.refl _ _).alloc (Nat.le_refl _) _;have HAt:Hid (∀w1,Calls Tryz.prog 79 #[.agg #[.slice ao n cap],.int .i64 pt,.int .i64 way] w1 λe w'=>e=.returned (.tuple #[B0 EI,.int .i64 2])/\Below w1.heap.size w1 w'):=λw1=>J8 ao n hn pt way hp;unfold B0 EI AC at HAt;clear hp;go_enter Tryz.func68,Tryz.ntmps68;go_wp2_with fail;refine(HAt.out _).mono ?_;rintro e w1 ⟨rfl,hb1⟩;have H1:Hid (Below w.heap.size w w1):=(HB.out _).trans (hb1.mono (by simp));have hs1:=H1.out.size;clear hb1;go_wp2_with fail
 go_ret2
 exact⟨rfl,H1.out.alloc hs1 _⟩
theorem Gj(h:Cc w g F)(hl:F.length<=20)(hpar:∀(k:Nat)(x:Ds),F[k]?=some x-> -1<=x.parent/\x.parent<(k:Int))(k:Nat)(hk:k<F.length)(way:Int):
  Calls Tryz.prog 68 #[.agg #[.slice (some ⟨g,0,none⟩) F.length cap],.int .i64 (k:Int),.int .i64 way] w λe w'=>e=Pw (Ap F k way)/\Below w.heap.size w w':=by
 have hg:=h.1;have hki:(k:Int)<(F.length:Int):=by omega
 have HP:Hid (Cc w g F):=h;have HPar:Hid (∀(k:Nat)(x:Ds),F[k]?=some x-> -1<=x.parent/\x.parent<(k:Int)):=hpar;have HB:Hid (∀o1,Below w.heap.size w (w.alloc o1)):=λo1=>(Below.refl _ _).alloc (Nat.le_refl _) _;have HN:Hid (Ap F k way=if way<0\/Ae (F.getD k (AC 0 0)).kind<=way then(0,2)else if An (F.getD k (AC 0 0)).kind<=way then(BX F 21 k,0)else if Bu F k way ((k:Int)+1)≠ -1 then(Bu F k way ((k:Int)+1),0)else if(F.getD k (AC 0 0)).kind=3 then((k:Int),0)else(BX F 21 k,0)):=by
  show Ap F k way=_;unfold Ap;rw[if_neg (by omega),Int.toNat_natCast]
 have HAt:Hid (∀w1,Below w.heap.size w w1->Calls Tryz.prog 79 #[.agg #[.slice (some ⟨g,0,none⟩) F.length cap],.int .i64 (k:Int),.int .i64 way] w1 λe w'=>
   e=.returned (.tuple #[B0 (if way<0\/Ae (F.getD k (AC 0 0)).kind<=way then EI else F.getD k (AC 0 0)),.int .i64 (if way<0\/Ae (F.getD k (AC 0 0)).kind<=way then 2 else 0)])/\Below w1.heap.size w1 w'):=λw1 hb=>LU (HP.out.keep hb) k hk way
 clear h hpar;generalize F.getD k (AC 0 0)=x at *;by_cases hbad:way<0\/Ae x.kind<=way
 ·have HE:Hid (_=_):=HN.out.trans (if_pos hbad);rw[if_pos hbad,if_pos hbad]at HAt;unfold B0 EI AC at HAt;clear HN hbad;go_enter Tryz.func68,Tryz.ntmps68;go_wp2_with fail;refine(HAt.out _ (HB.out _)).mono ?_;rintro e w1 ⟨rfl,hb1⟩;have p1:w1.cell? ⟨w.heap.size,0,none⟩=some (.slice (some ⟨g,0,none⟩) F.length cap):=by
   rw[hb1.cell (p:=⟨w.heap.size,0,none⟩) (by simp)];exact World.cell?_alloc_at _ _ _ _ rfl
  have H1:Hid (Below w.heap.size w w1):=(HB.out _).trans (hb1.mono (by simp));have hs1:w.heap.size+1<=w1.heap.size:=by have:=hb1.size;simp at this;omega
  have hlt1:w.heap.size<w1.heap.size:=by omega
  have hB:Hid (∀o1 o2:Obj,Below w.heap.size w ((w1.alloc o1).alloc o2)):=λo1 o2=>(H1.out.alloc (by omega) _).alloc (by simp;omega) _;clear hb1;go_wp2_with fail
  go_ret2
  exact⟨by rw[HE.out];rfl,H1.out.alloc (by omega) _⟩
 have HN2:Hid (_=_):=HN.out.trans (if_neg hbad);rw[if_neg hbad,if_neg hbad]at HAt;unfold B0 at HAt;clear HN hbad;by_cases hb:An x.kind<=way
 ·have HE:Hid (_=_):=HN2.out.trans (if_pos hb);clear HN2;go_enter Tryz.func68,Tryz.ntmps68;go_wp2_with fail;refine(HAt.out _ (HB.out _)).mono ?_;rintro e w1 ⟨rfl,hb1⟩;have p1:w1.cell? ⟨w.heap.size,0,none⟩=some (.slice (some ⟨g,0,none⟩) F.length cap):=by
   rw[hb1.cell (p:=⟨w.heap.size,0,none⟩) (by simp)];exact World.cell?_alloc_at _ _ _ _ rfl
  have H1:Hid (Below w.heap.size w w1):=(HB.out _).trans (hb1.mono (by simp));have hs1:w.heap.size+1<=w1.heap.size:=by have:=hb1.size;simp at this;omega
  have hlt1:w.heap.size<w1.heap.size:=by omega
  have hB:Hid (∀o1 o2:Obj,Below w.heap.size w ((w1.alloc o1).alloc o2)):=λo1 o2=>(H1.out.alloc (by omega) _).alloc (by simp;omega) _;clear hb1;go_wp2_with fail;refine(CQ _ _ _ _ _ _ _ _ _ _ _).mono ?_;rintro e w2 ⟨rfl,o2,rfl⟩;go_wp2_with fail;refine(JH (HP.out.keep (hB.out _ _)) hl HPar.out (k:Int) (by omega) (by omega)).mono ?_;rintro e w4 ⟨rfl,hb4⟩;go_wp2_with fail
  go_ret2
  exact⟨by rw[HE.out];rfl,(hB.out _ _).trans (hb4.mono (by simp;omega))⟩
 have HN3:Hid (_=_):=HN2.out.trans (if_neg hb);clear HN2;have HFI:Hid (∀(w2:World)(hP:Cc w2 g F),Calls Tryz.prog 103 #[.agg #[.slice (some ⟨g,0,none⟩) F.length cap],.int .i64 (k:Int),.int .i64 way,.int .i64 ((k:Int)+1)] w2 λe w'=>e=.returned (.int .i64 (Bu F k way ((k:Int)+1)))/\Below w2.heap.size w2 w'):=λw2 hP=>LT (cap:=cap) hP hl k way ((k:Int)+1);generalize Bu F k way ((k:Int)+1)=fi at *;by_cases hfi:fi= -1
 ·subst hfi;have HN4:Hid (_=_):=HN3.out.trans (if_neg (by decide));clear HN3;by_cases h3:x.kind=3
  ·have HE:Hid (_=_):=HN4.out.trans (if_pos h3);clear HN4;have HK:Hid (x.kind=3):=h3;clear h3;go_enter Tryz.func68,Tryz.ntmps68;go_wp2_with fail;refine(HAt.out _ (HB.out _)).mono ?_;rintro e w1 ⟨rfl,hb1⟩;have p1:w1.cell? ⟨w.heap.size,0,none⟩=some (.slice (some ⟨g,0,none⟩) F.length cap):=by
    rw[hb1.cell (p:=⟨w.heap.size,0,none⟩) (by simp)];exact World.cell?_alloc_at _ _ _ _ rfl
   have H1:Hid (Below w.heap.size w w1):=(HB.out _).trans (hb1.mono (by simp));have hs1:w.heap.size+1<=w1.heap.size:=by have:=hb1.size;simp at this;omega
   have hlt1:w.heap.size<w1.heap.size:=by omega
   have hB:Hid (∀o1 o2:Obj,Below w.heap.size w ((w1.alloc o1).alloc o2)):=λo1 o2=>(H1.out.alloc (by omega) _).alloc (by simp;omega) _;clear hb1;go_wp2_with fail;refine(CQ _ _ _ _ _ _ _ _ _ _ _).mono ?_;rintro e w2 ⟨rfl,o2,rfl⟩;go_wp2_with fail;refine(HFI.out _ (HP.out.keep (hB.out _ _))).mono ?_;rintro e w3 ⟨rfl,hb3⟩;have hsz3:=hb3.size;simp at hsz3;have s0:w3.cell? ⟨w1.heap.size,0,none⟩=some (.int .i64 x.kind):=by
    rw[hb3.cell (p:=⟨w1.heap.size,0,none⟩) (by simp;omega),World.cell?_alloc_past _ _ _ (by simp)];exact World.cell?_alloc_at _ _ _ _ rfl
   have p0:w3.cell? ⟨w.heap.size,0,none⟩=some (.slice (some ⟨g,0,none⟩) F.length cap):=by
    rw[hb3.cell (p:=⟨w.heap.size,0,none⟩) (by simp;omega),World.cell?_alloc_past _ _ _ (by simp;omega),World.cell?_alloc_past _ _ _ (by omega)];exact p1
   have HB3:Hid (Below w.heap.size w w3):=(hB.out _ _).trans (hb3.mono (by simp;omega));clear hb3;have s0':w3.cell? ⟨w1.heap.size,0,none⟩=some (.int .i64 3):=by rw[s0,HK.out]
   clear s0;go_wp2_with fail
   go_ret2
   exact⟨by rw[HE.out];rfl,HB3.out⟩
  ·have HE:Hid (_=_):=HN4.out.trans (if_neg h3);have b3:(x.kind==3)=false:=by simpa using h3
   clear HN4 h3;go_enter Tryz.func68,Tryz.ntmps68;go_wp2_with fail;refine(HAt.out _ (HB.out _)).mono ?_;rintro e w1 ⟨rfl,hb1⟩;have p1:w1.cell? ⟨w.heap.size,0,none⟩=some (.slice (some ⟨g,0,none⟩) F.length cap):=by
    rw[hb1.cell (p:=⟨w.heap.size,0,none⟩) (by simp)];exact World.cell?_alloc_at _ _ _ _ rfl
   have H1:Hid (Below w.heap.size w w1):=(HB.out _).trans (hb1.mono (by simp));have hs1:w.heap.size+1<=w1.heap.size:=by have:=hb1.size;simp at this;omega
   have hlt1:w.heap.size<w1.heap.size:=by omega
   have hB:Hid (∀o1 o2:Obj,Below w.heap.size w ((w1.alloc o1).alloc o2)):=λo1 o2=>(H1.out.alloc (by omega) _).alloc (by simp;omega) _;clear hb1;go_wp2_with fail;refine(CQ _ _ _ _ _ _ _ _ _ _ _).mono ?_;rintro e w2 ⟨rfl,o2,rfl⟩;go_wp2_with fail;refine(HFI.out _ (HP.out.keep (hB.out _ _))).mono ?_;rintro e w3 ⟨rfl,hb3⟩;have hsz3:=hb3.size;simp at hsz3;have s0:w3.cell? ⟨w1.heap.size,0,none⟩=some (.int .i64 x.kind):=by
    rw[hb3.cell (p:=⟨w1.heap.size,0,none⟩) (by simp;omega),World.cell?_alloc_past _ _ _ (by simp)];exact World.cell?_alloc_at _ _ _ _ rfl
   have p0:w3.cell? ⟨w.heap.size,0,none⟩=some (.slice (some ⟨g,0,none⟩) F.length cap):=by
    rw[hb3.cell (p:=⟨w.heap.size,0,none⟩) (by simp;omega),World.cell?_alloc_past _ _ _ (by simp;omega),World.cell?_alloc_past _ _ _ (by omega)];exact p1
   have HB3:Hid (Below w.heap.size w w3):=(hB.out _ _).trans (hb3.mono (by simp;omega));clear hb3;go_wp2_with fail;refine(JH (HP.out.keep HB3.out) hl HPar.out (k:Int) (by omega) (by omega)).mono ?_;rintro e w4 ⟨rfl,hb4⟩;go_wp2_with fail
   go_ret2
   exact⟨by rw[HE.out];rfl,HB3.out.trans (hb4.mono HB3.out.size)⟩
 ·have HE:Hid (_=_):=HN3.out.trans (if_pos hfi);have bf:(fi != -1)=true:=by rw[bne_iff_ne];exact hfi
  clear HN3 hfi;go_enter Tryz.func68,Tryz.ntmps68;go_wp2_with fail;refine(HAt.out _ (HB.out _)).mono ?_;rintro e w1 ⟨rfl,hb1⟩;have p1:w1.cell? ⟨w.heap.size,0,none⟩=some (.slice (some ⟨g,0,none⟩) F.length cap):=by
   rw[hb1.cell (p:=⟨w.heap.size,0,none⟩) (by simp)];exact World.cell?_alloc_at _ _ _ _ rfl
  have H1:Hid (Below w.heap.size w w1):=(HB.out _).trans (hb1.mono (by simp));have hs1:w.heap.size+1<=w1.heap.size:=by have:=hb1.size;simp at this;omega
  have hlt1:w.heap.size<w1.heap.size:=by omega
  have hB:Hid (∀o1 o2:Obj,Below w.heap.size w ((w1.alloc o1).alloc o2)):=λo1 o2=>(H1.out.alloc (by omega) _).alloc (by simp;omega) _;clear hb1;go_wp2_with fail;refine(CQ _ _ _ _ _ _ _ _ _ _ _).mono ?_;rintro e w2 ⟨rfl,o2,rfl⟩;go_wp2_with fail;refine(HFI.out _ (HP.out.keep (hB.out _ _))).mono ?_;rintro e w3 ⟨rfl,hb3⟩;have hsz3:=hb3.size;simp at hsz3;have s0:w3.cell? ⟨w1.heap.size,0,none⟩=some (.int .i64 x.kind):=by
   rw[hb3.cell (p:=⟨w1.heap.size,0,none⟩) (by simp;omega),World.cell?_alloc_past _ _ _ (by simp)];exact World.cell?_alloc_at _ _ _ _ rfl
  have p0:w3.cell? ⟨w.heap.size,0,none⟩=some (.slice (some ⟨g,0,none⟩) F.length cap):=by
   rw[hb3.cell (p:=⟨w.heap.size,0,none⟩) (by simp;omega),World.cell?_alloc_past _ _ _ (by simp;omega),World.cell?_alloc_past _ _ _ (by omega)];exact p1
  have HB3:Hid (Below w.heap.size w w3):=(hB.out _ _).trans (hb3.mono (by simp;omega));clear hb3;clear s0;go_wp2_with fail
  go_ret2
  exact⟨by rw[HE.out];rfl,HB3.out⟩
end Go.Proofs.YtffajooegiempaaGreatDoor
