import Derived.Test.YtffajooegiempaaGreatDoorK7
set_option maxRecDepth 100000
set_option maxHeartbeats 6400000
namespace Go.Proofs.YtffajooegiempaaGreatDoor
open Go.RowKit Go.Proofs.Tryz
variable {w:World}{e0:Bool}{M:Nat->Int}
abbrev FS:TypeId:=117
def v4(l:List Int):Value:=.agg #[.int .i64 (AK l 0),.int .i64 (AK l 1),.int .i64 (AK l 2),.int .i64 (AK l 3)]
def c4(l:List Int):Array Value:=#[.int .i64 (AK l 0),.int .i64 (AK l 1),.int .i64 (AK l 2),.int .i64 (AK l 3)]
def ON(l:List Int):Nat->Nat×Nat×Bool
 |0=>(0,1,false)
 |v+1=>if AK l v=0 then ON l v else
   (if(ON l v).2.2=true then(ON l v).1 else 2*v+(if AK l v<0 then 1 else 0),2*v+(if AK l v<0 then 1 else 0),true)
def CF(l:List Int):Nat:=(ON l 4).1
def C4(l:List Int):Nat:=(ON l 4).2.1
theorem Cx(l:List Int):∀v,v<=4->(ON l v).1<8/\(ON l v).2.1<8:=by
 intro v;induction v with
 |zero=>intro _;exact⟨by show(0:Nat)<8;omega,by show(1:Nat)<8;omega⟩
 |succ v ih=>
  intro hv;have h:=ih (by omega);rw[ON];split
  .exact h
  .refine⟨?_,?_⟩
   .dsimp only;split
    .exact h.1
    .split<;>omega
   .dsimp only;split<;>omega
theorem XS(l:List Int){i:Nat}(h:i<4):(c4 l)[i]?=some (.int .i64 (AK l i)):=by
 rcases(show i=0\/i=1\/i=2\/i=3 by omega)with rfl|rfl|rfl|rfl<;>rfl
theorem Ji(l:List Int)(F:∀i, -1<=AK l i/\AK l i<=1):
  Calls prog 142 #[v4 l] w λe w'=>e=.returned (.tuple #[.int .i64 ((CF l:Nat):Int),.int .i64 ((C4 l:Nat):Int)])/\dc w w':=by
 have T:=ED 0 (by omega) (w.alloc (.cells (c4 l) FS));have J:Hid (At (w.alloc (.cells (c4 l) FS)) w.heap.size (c4 l) FS/\dc w (w.alloc (.cells (c4 l) FS))):=⟨At.new _ _ _,(bC _ _).alloc (bB _) _⟩
 have HO:Hid (∀(v:Nat) m,v<4->Calls prog 153 #[.int .i64 (2*(v:Int))] m λe w'=>e=.returned (.int .i64 (2*(v:Int)+1))/\w'=m):=by
  intro v m hv;have h:=ED (2*v) (by omega) m;have e1:((2*v:Nat):Int)=2*(v:Int):=by omega
  have e2:((opp (2*v):Nat):Int)=2*(v:Int)+1:=by unfold opp;rw[bA (by omega)];omega
  rw[e1,e2]at h;exact h
 unfold v4;rw[show((0:Nat):Int)=0 from rfl,show((opp 0:Nat):Int)=1 from rfl]at T;obtain⟨s,d⟩:∃s,s=w.alloc (.cells (c4 l) FS):=⟨_,rfl⟩
 rw[<-d]at J;have R:=d;unfold c4 at T d;go_enter func142,ntmps142;go_wp2_with fail;refine T.mono ?_;rintro e m ⟨rfl,af⟩;subst af;rw[<-d];clear T d R;go_wp2_with fail;go_loopw [4,5,6,7] (λfv sv bv iv wr=>∃(v a b:Nat)(f:Bool),v<=4/\iv=.int .i64 v/\fv=.int .i64 a/\sv=.int .i64 b/\bv=.bool f/\Hid (ON l v=(a,b,f))/\Hid (At wr w.heap.size (c4 l) FS/\dc w wr)) (λ_ _ _ iv _=>4-(intOf iv).toNat);case atStart=>exact⟨0,0,1,false,by omega,rfl,rfl,rfl,rfl,rfl,J.out⟩
 case round=>
  obtain⟨v,a,b,f,hv,rfl,rfl,rfl,rfl,W,q⟩:=hrel;by_cases z:v<4
  .have ae:(v:Int)<4:=by omega
   have cx:wr.cell? ⟨w.heap.size,v,none⟩=some (.int .i64 (AK l v)):=by rw[q.out.1.cell];exact XS l z
   have hx:=F v;have r:Hid (ON l (v+1)=if AK l v=0 then(a,b,f)else(if f=true then a else 2*v+(if AK l v<0 then 1 else 0),2*v+(if AK l v<0 then 1 else 0),true)):=by
    show ON l (v+1)=_;rw[ON,W.out]
   have C:=HO.out v wr z;generalize AK l v=x at *;rcases(show x=0\/x=1\/x= -1 by omega)with rfl|rfl|rfl
   .have B:Hid (ON l (v+1)=(a,b,f)):=r.out;clear r;go_wp2_with fail;go_roundw;case rel=>exact⟨v+1,a,b,f,by omega,by go_num,rfl,rfl,rfl,B.out,q.out⟩
    case measure=>simp[intOf];omega
   .cases f with
    |false=>
     have B:Hid (ON l (v+1)=(2*v,2*v,true)):=r.out;clear r;go_wp2_with fail;go_roundw;case rel=>exact⟨v+1,2*v,2*v,true,by omega,by go_num,by first|rfl|(congr 1),by first|rfl|(congr 1),rfl,B.out,q.out⟩
     case measure=>simp[intOf];omega
    |true=>
     have B:Hid (ON l (v+1)=(a,2*v,true)):=r.out;clear r;go_wp2_with fail;go_roundw;case rel=>exact⟨v+1,a,2*v,true,by omega,by go_num,rfl,by first|rfl|(congr 1),rfl,B.out,q.out⟩
     case measure=>simp[intOf];omega
   .cases f with
    |false=>
     have B:Hid (ON l (v+1)=(2*v+1,2*v+1,true)):=r.out;clear r;go_wp2_with fail;refine C.mono ?_;rintro e w2 ⟨rfl,H⟩;subst H;go_wp2_with fail;go_roundw;case rel=>exact⟨v+1,2*v+1,2*v+1,true,by omega,by go_num,by first|rfl|(congr 1),by first|rfl|(congr 1),rfl,B.out,q.out⟩
     case measure=>simp[intOf];omega
    |true=>
     have B:Hid (ON l (v+1)=(a,2*v+1,true)):=r.out;clear r;go_wp2_with fail;refine C.mono ?_;rintro e w2 ⟨rfl,H⟩;subst H;go_wp2_with fail;go_roundw;case rel=>exact⟨v+1,a,2*v+1,true,by omega,by go_num,rfl,by first|rfl|(congr 1),rfl,B.out,q.out⟩
     case measure=>simp[intOf];omega
  .have G:v=4:=by omega
   subst G;have HE:Hid (CF l=a/\C4 l=b):=⟨by unfold CF;rw[W.out],by unfold C4;rw[W.out]⟩
   go_wp2_with fail
   go_ret2
   exact⟨by rw[HE.out.1,HE.out.2];rfl,q.out.2⟩
theorem Fw(l:List Int)(F:∀i, -1<=AK l i/\AK l i<=1)(hS:Sm M):
  Calls prog 116 #[.agg (oc e0 M),v4 l] w λe w'=>e=.returned (.int .i64 (mo M (CF l) (C4 l)))/\dc w w':=by
 have hz:=Bn;have N:=Cx l 4 (bB _);have L:Hid (∀m,Calls prog 142 #[v4 l] m λe w'=>e=.returned (.tuple #[.int .i64 ((CF l:Nat):Int),.int .i64 ((C4 l:Nat):Int)])/\dc m w'):=λm=>Ji l F;have X:Hid (∀m,Calls prog 139 #[.agg (oc e0 M),.int .i64 ((CF l:Nat):Int),.int .i64 ((C4 l:Nat):Int)] m λe w'=>e=.returned (.int .i64 (mo M (CF l) (C4 l)))/\dc m w'):=λm=>PJ _ _ N.1 N.2 (by have:=hS (CF l*8+C4 l) (by have h1:CF l<8:=N.1;have h2:C4 l<8:=N.2;omega);omega);obtain⟨s,d⟩:∃s,s=(w.alloc (.cells (oc e0 M) tO)).alloc (.cells (c4 l) FS):=⟨_,rfl⟩
 have I:Hid (AL s w.heap.size e0 M/\dc w s/\s.heap.size=w.heap.size+2):=by
  refine⟨by rw[d];exact At.allocH (At.new _ _ _) _,by rw[d];exact((bC _ _).alloc (bB _) _).alloc (by simp) _,by rw[d];simp⟩
 have P:=L.out s;rw[d]at P;generalize mo M (CF l) (C4 l)=g at *;generalize CF l=i at *;generalize C4 l=j at *;obtain⟨U,O⟩:∃U:World->Prop,U=λw'=>dc s w':=⟨_,rfl⟩
 have u:Calls prog 142 #[v4 l] s λe w'=>e=.returned (.tuple #[.int .i64 (i:Int),.int .i64 (j:Int)])/\U w':=by rw[O];exact L.out s
 rw[d]at u;clear hS N P;unfold v4 c4 at u;unfold v4;go_enter func116,ntmps116;go_wp2_with fail;refine u.mono ?_;rintro e m ⟨rfl,y⟩;rw[O]at y;have s0:=I.out.2.2;have s1:=y.size;have V:Hid (AL m w.heap.size e0 M/\dc w m):=⟨At.keep I.out.1 y (by omega),I.out.2.1.trans (y.mono (by omega))⟩
 have ac:=X.out m;clear y u;go_wp2_with (refine AH rfl (.tmp 2) rfl rfl V.out.1 ?_);refine ac.mono ?_;rintro e w2 ⟨rfl,ab⟩;go_wp2_with fail;go_ret;exact⟨rfl,V.out.2.trans (ab.mono V.out.2.size)⟩
def Dv(l:List Int):List Int:=[-AK l 0, -AK l 1, -AK l 2, -AK l 3]
def Yj(l:List Int):Nat->List Int
 |0=>[AK l 0,AK l 1,AK l 2,AK l 3]
 |j+1=>(Yj l j).set j (-AK l j)
theorem Pg{fn:Func}{t:Tmp}{b:Nat}{l:List Int}(h:fn.results=#[.cell t FS])(A:Array Value)(hp:A.getD t undef=.pointer (some ⟨b,0,none⟩))(E:At w b (c4 l) FS):
  (results fn A).run prog w=.ok (v4 l) w:=by
 have ad:A[t]?.getD undef=.pointer (some ⟨b,0,none⟩):=by simpa using hp
 have F:(loadVar FS ⟨b,0,none⟩).run prog w=.ok (v4 l) w:=run_loadVar_row w b FS FS (c4 l) (0,0) _ E underlying117 rfl (by kernel_rfl);simp[results,h,ad,asAddr,F]
theorem Py{b:Nat}{c:Array Value}(h:At w b c FS)(hc:c.size=4)(l:List Int):∃m,(Instr.storeAt FS (.pointer (some ⟨b,0,none⟩)) (v4 l)).run prog w=.ok () m/\At m b (c4 l) FS/\BC b w m:=by
 refine⟨w.setRow b (c4 l),?_,setRow_heap w b c (c4 l) FS (0,0) h,⟨rfl,rfl,rfl,by simp[World.setRow],λk _ hk=>setRow_other w b k _ (λe=>hk e)⟩⟩;simp only[Instr.storeAt,Instr.sureAddr,Sem.run_bind,Sem.run_pure,Result.andThen];exact run_storeVar_row w b FS FS c (c4 l) h (by kernel_rfl) (by rw[hc];rfl) (by simp[c4,Value.oneCell'])
theorem JU{S:Array Oper}{D:List Oper}{o:Oper}{a:Act}{Q:Exit->Act->World->Prop}{b:Nat}{c:Array Value}(hg:o.guard=none)(p x:Operand)(C:o.op=Op.store FS p x)(hp:a.eval p=.pointer (some ⟨b,0,none⟩))(l:List Int)(hx:a.eval x=v4 l)(E:At w b c FS)(hc:c.size=4)
  (hK:∀m,At m b (c4 l) FS->BC b w m->wpList prog S Q D (a.put o.dst undef) m):wpList prog S Q (o::D) a w:=by
 refine wpList_plain hg λK aa=>?_;obtain⟨m,h1,h2,h3⟩:=Py E hc l;unfold Oper.wp;simp[execOp,C,hp,hx,h1,Result.andThen,Oper.upon];exact aa _ _ (hK m h2 h3)
theorem YU(l:List Int):∀j,j<4->(c4 (Yj l j))[j]?=some (.int .i64 (AK l j))
 |0,_=>rfl
 |1,_=>rfl
 |2,_=>rfl
 |3,_=>rfl
 |n+4,h=>absurd h (by omega)
theorem WY(l:List Int):∀j,j<4->(c4 (Yj l j)).setIfInBounds j (.int .i64 (-AK l j))=c4 (Yj l (j+1))
 |0,_=>rfl
 |1,_=>rfl
 |2,_=>rfl
 |3,_=>rfl
 |n+4,h=>absurd h (by omega)
theorem Ng(l:List Int)(F:∀i, -1<=AK l i/\AK l i<=1):
  Calls prog 114 #[v4 l] w λe w'=>e=.returned (v4 (Dv l))/\dc w w':=by
 obtain⟨s,d⟩:∃s,s=(w.alloc (.cells (c4 l) FS)).alloc (.cells (c4 [0,0,0,0]) FS):=⟨_,rfl⟩
 have I:Hid (At s w.heap.size (c4 (Yj l 0)) FS/\At s (w.heap.size+1) (c4 [0,0,0,0]) FS/\dc w s):=by
  refine⟨by rw[d];exact At.allocH (At.new _ _ _) _,?_,by rw[d];exact((bC _ _).alloc (bB _) _).alloc (by simp) _⟩;have:=At.new (w.alloc (.cells (c4 l) FS)) (c4 [0,0,0,0]) FS;rw[show(w.alloc (.cells (c4 l) FS)).heap.size=w.heap.size+1 by simp]at this;rw[d];exact this
 unfold c4 at d;unfold v4;go_enter func114,ntmps114;go_wp2_with fail;go_loopw [3] (λiv wr=>∃(v:Nat),v<=4/\iv=.int .i64 v/\Hid (At wr w.heap.size (c4 (Yj l v)) FS/\At wr (w.heap.size+1) (c4 [0,0,0,0]) FS/\dc w wr)) (λiv _=>4-(intOf iv).toNat);case atStart=>exact⟨0,by omega,rfl,by have:=I.out;rw[d]at this;exact this⟩
 case round=>
  obtain⟨v,hv,rfl,q⟩:=hrel;clear I d;by_cases z:v<4
  .have ae:(v:Int)<4:=by omega
   have cx:wr.cell? ⟨w.heap.size,v,none⟩=some (.int .i64 (AK l v)):=by rw[q.out.1.cell];exact YU l v z
   have cf:=q.out.1.free;have ag:=q.out.1.lt;have hx:=F v;have HT:Hid (_=_):=WY l v z;generalize AK l v=x at *;go_wp2_with fail;go_roundw;case rel=>
    refine⟨v+1,by omega,by go_num,?_,q.out.2.1.other _ _ (by omega),q.out.2.2.setCell (bB _) _⟩;rw[<-HT.out];exact q.out.1.put v _
   case measure=>simp[intOf];omega
  .have G:v=4:=by omega
   subst G;have y0:=q.out.1.cell 0;have y1:=q.out.1.cell 1;have y2:=q.out.1.cell 2;have y3:=q.out.1.cell 3;have HN:Hid (v4 (Dv l)=.agg #[.int .i64 (-AK l 0),.int .i64 (-AK l 1),.int .i64 (-AK l 2),.int .i64 (-AK l 3)]):=rfl;have z0:wr.cell? ⟨w.heap.size,0,none⟩=some (.int .i64 (-AK l 0)):=y0;have z1:wr.cell? ⟨w.heap.size,1,none⟩=some (.int .i64 (-AK l 1)):=y1;have z2:wr.cell? ⟨w.heap.size,2,none⟩=some (.int .i64 (-AK l 2)):=y2;have z3:wr.cell? ⟨w.heap.size,3,none⟩=some (.int .i64 (-AK l 3)):=y3;clear y0 y1 y2 y3;go_wp2_with (refine JU (b:=w.heap.size+1) (c:=c4 [0,0,0,0]) rfl (.tmp 2) (.tmp 14) rfl rfl (Dv l) rfl q.out.2.1 rfl ?_;intro w5 Y Z);try simp only[Exit.inBlock,Exit.then]
   refine bJ (Pg (b:=w.heap.size+1) (l:=Dv l) rfl _ rfl Y) rfl ?_;exact⟨rfl,q.out.2.2.trans (Z.below (by omega) q.out.2.2.size)⟩
structure St where
 kind:Int
 var:Int
 star:Bool
 sg:List Int
 num:Int
 mid:Nat
 fin:Nat
structure Bk where
 of_:Nat
 second:Bool
structure Rd where
 state:Int
 st:List St
 op:List Bk
 sign:Int
 neg:Bool
 dig:Int
def AY:St:=⟨0,0,false,[0,0,0,0],0,0,0⟩
def Zz:Bk:=⟨0,false⟩
def cur(m:Rd):St:=m.st.getD (m.st.length-1) AY
def AE(m:Rd)(s:St):Rd:={m with st:=m.st.set (m.st.length-1) s}
def top(m:Rd):Bk:=m.op.getD (m.op.length-1) Zz
def AG(m:Rd):Int:=if(cur m).kind=33 then 59 else 123
def BN(m:Rd)(k v a:Int):Option Rd:=
 if m.st.length=20 then none else some {m with st:=m.st++[⟨k,v,false,[0,0,0,0],0,0,m.st.length+1⟩],state:=a}
def Ba(m:Rd):Option Rd:=
 let b:=top m
 let s:=m.st.getD b.of_ AY
 if s.kind=63/\b.second=false then some {m with st:=m.st.set b.of_ {s with fin:=m.st.length,mid:=m.st.length},state:=125}
 else some {m with st:=m.st.set b.of_ {s with fin:=m.st.length},op:=m.op.take (m.op.length-1)}
def AP(m:Rd)(c:Int):Option Rd:=
 if 97<=c/\c<=100 then BN m 61 (c-97) 61
 else if c=63\/c=64 then(if m.op.length<4 then BN m c 0 99 else none)
 else if c=33 then BN m c 0 99
 else if c=125/\0<m.op.length then Ba m
 else none
def AT(m:Rd)(c:Int)(pos:Bool)(a:Int):Option Rd:=
 let d:=if m.state=a then m.dig else 0
 let u:=if m.state=a then(cur m).num else 0
 if c<48\/57<c\/d=2\/(d=1/\u=0)\/(pos=true/\c=48)then none
 else some {AE m {cur m with num:=10*u+(c-48)}with dig:=d+1,state:=a}
def Bp(m:Rd)(v:Nat)(x:Int)(a:Int):Rd:=
 {AE m {cur m with sg:=(cur m).sg.set v x}with sign:=x,state:=a}
def CW(m:Rd):Rd:={AE m {cur m with num:=m.sign*(cur m).num}with state:=115}
def AO(m:Rd)(c:Int):Option Rd:=
 if m.state=118 then
  (if c=42 then some {AE m {cur m with star:=true}with state:=59}
   else if c=45 then some {m with sign:= -1,state:=86}
   else if 97<=c/\c<=100 then some (Bp m (c-97).toNat 1 120)
   else AT {m with sign:=1} c false 110)
 else if m.state=86 then
  (if 97<=c/\c<=100 then some (Bp m (c-97).toNat m.sign 120)
   else AT m c true 110)
 else if m.state=120 then
  (if c=43 then some {m with sign:=1,state:=121}
   else if c=45 then some {m with sign:= -1,state:=121}
   else if c=59 then some (CW m)
   else none)
 else if m.state=121 then AT m c false 110
 else(if c=59 then some (CW m)else AT m c false 110)
def Ac(m:Rd)(c:Int):Option Rd:=
 if m.state=59 then(if c=59 then some {m with state:=115}else none)
 else if c≠123\/m.op.length=4 then none
 else some {m with op:=m.op++[⟨m.st.length-1,false⟩],state:=115}
def AF(m:Rd)(c:Int):Option Rd:=
 if m.state=99 then
  (if c=42 then some {AE m {cur m with star:=true}with state:=AG m}
   else if c=45 then some {m with sign:= -1,state:=67}
   else if 97<=c/\c<=100 then some (Bp m (c-97).toNat 1 100)
   else none)
 else if m.state=67 then
  (if 97<=c/\c<=100 then some (Bp m (c-97).toNat m.sign 100)else none)
 else if m.state=100 then
  (if c=43 then some {m with sign:=1,state:=101}
   else if c=45 then some {m with sign:= -1,state:=101}
   else if c=60 then some {m with state:=60}
   else none)
 else if m.state=101 then
  (if 97<=c/\c<=100 then(if(cur m).sg.getD (c-97).toNat 0=0 then some (Bp m (c-97).toNat m.sign 102)else none)else none)
 else if m.state=102 then(if c=60 then some {m with state:=60}else none)
 else if m.state=60 then(if c=61 then some {m with neg:=false,state:=98}else none)
 else if m.state=98 then(if c=45 then some {m with neg:=true,state:=66}else AT m c false 109)
 else if m.state=66 then AT m c true 109
 else if m.state=109 then
  (if c=59\/c=123 then Ac {AE m {cur m with num:=if m.neg then -(cur m).num else(cur m).num}with state:=AG m} c
   else AT m c false 109)
 else(if c=123 then some {m with op:=m.op.set (m.op.length-1) {top m with second:=true},state:=115}else none)
def AM(m:Rd)(c:Int):Option Rd:=
 if m.state=115 then AP m c
 else if m.state=61 then(if c=61 then some {m with state:=118}else none)
 else if m.state=118\/m.state=86\/m.state=120\/m.state=121\/m.state=110 then AO m c
 else if m.state=59\/m.state=123 then Ac m c
 else AF m c
structure Ok(m:Rd):Prop where
 states:m.state=115\/m.state=61\/(m.state=118\/m.state=86\/m.state=120\/m.state=121\/m.state=110)\/(m.state=59\/m.state=123)\/
  (m.state=99\/m.state=67\/m.state=100\/m.state=101\/m.state=102\/m.state=60\/m.state=98\/m.state=66\/m.state=109\/m.state=125)
 some_:m.state≠115->0<m.st.length
 len:m.st.length<=20
 oplen:m.op.length<=4
 ofs:∀b,b∈m.op->b.of_<m.st.length
 sgn: -1<=m.sign/\m.sign<=1
 digs:0<=m.dig/\m.dig<=2
 nums:∀s,s∈m.st-> -99<=s.num/\s.num<=99
 sgl:∀s,s∈m.st->s.sg.length=4
 inNum:m.state=110\/m.state=109->(m.dig=1/\0<=(cur m).num/\(cur m).num<=9)\/(m.dig=2/\0<=(cur m).num/\(cur m).num<=99)
 open_:m.state=125->0<m.op.length
variable {m m':Rd}
theorem BV(m:Rd)(s:St):(AE m s).st.length=m.st.length:=by simp[AE]
theorem Ft{s t:St}(h:t∈(AE m s).st):t∈m.st\/t=s:=cL h
theorem Ww(hn:0<m.st.length):m.st[m.st.length-1]?=some (cur m):=by
 unfold cur;rw[bG,bP (by omega)];rfl
theorem E_(hn:0<m.st.length):cur m∈m.st:=bR (Ww hn)
theorem CD(hn:0<m.st.length)(s:St):cur (AE m s)=s:=by
 have h:(AE m s).st[m.st.length-1]?=some s:=by simp[AE,cH];omega
 unfold cur;rw[bG,BV,h];rfl
def EN(x:Int):Prop:=x=115\/x=61\/(x=118\/x=86\/x=120\/x=121\/x=110)\/(x=59\/x=123)\/(x=99\/x=67\/x=100\/x=101\/x=102\/x=60\/x=98\/x=66\/x=109)
theorem Ok.fields(ok:Ok m)(hn:0<m.st.length)(x sg:Int)(B:Bool)(d:Int)(hs:EN x)(h1: -1<=sg/\sg<=1)(h2:0<=d/\d<=2)
  (h5:x=110\/x=109->(d=1/\0<=(cur m).num/\(cur m).num<=9)\/(d=2/\0<=(cur m).num/\(cur m).num<=99)):Ok {m with state:=x,sign:=sg,neg:=B,dig:=d} where
 states:=by unfold EN at hs;show x=_\/_;simp only;omega
 some_:=λ_=>hn
 len:=ok.len
 oplen:=ok.oplen
 ofs:=ok.ofs
 sgn:=h1
 digs:=h2
 nums:=ok.nums
 sgl:=ok.sgl
 inNum:=h5
 open_:=λh=>by exfalso;have p:x=125:=h;unfold EN at hs;omega
theorem Ok.setC(ok:Ok m)(hn:0<m.st.length)(hx:m.state≠110/\m.state≠109)(s:St)(h3: -99<=s.num/\s.num<=99)(h4:s.sg.length=4):Ok (AE m s) where
 states:=ok.states
 some_:=λ_=>by rw[BV];exact hn
 len:=by rw[BV];exact ok.len
 oplen:=ok.oplen
 ofs:=λb hb=>by rw[BV];exact ok.ofs b hb
 sgn:=ok.sgn
 digs:=ok.digs
 nums:=λt i=>(Ft i).elim (λh=>ok.nums t h) (λh=>by rw[h];exact h3)
 sgl:=λt i=>(Ft i).elim (λh=>ok.sgl t h) (λh=>by rw[h];exact h4)
 inNum:=λh=>by exfalso;have p:m.state=110\/m.state=109:=h;omega
 open_:=ok.open_
theorem Ok.put(ok:Ok m)(hn:0<m.st.length)(s:St)(x sg:Int)(B:Bool)(d:Int)(hs:EN x)(h1: -1<=sg/\sg<=1)(h2:0<=d/\d<=2)(h3: -99<=s.num/\s.num<=99)(h4:s.sg.length=4)
  (h5:x=110\/x=109->(d=1/\0<=s.num/\s.num<=9)\/(d=2/\0<=s.num/\s.num<=99)):Ok {AE m s with state:=x,sign:=sg,neg:=B,dig:=d}:=by
 have J:Ok {m with state:=115}:=ok.fields hn 115 m.sign m.neg m.dig (.inl rfl) ok.sgn ok.digs (λh=>by omega);have K:=J.setC hn ⟨(by decide:(115:Int)≠110),(by decide:(115:Int)≠109)⟩ s h3 h4;have A:0<(AE {m with state:=115} s).st.length:=by rw[BV];exact hn
 exact K.fields A x sg B d hs h1 h2 (by rw[CD (m:={m with state:=115}) hn];exact h5)
theorem Ok.push(ok:Ok m)(A:m.st.length≠20)(s:St)(x:Int)(hx:x=61\/x=99)(h3: -99<=s.num/\s.num<=99)(h4:s.sg.length=4):Ok {m with st:=m.st++[s],state:=x} where
 states:=by show x=_\/_;simp only;omega
 some_:=λ_=>by simp
 len:=by have:=ok.len;simp;omega
 oplen:=ok.oplen
 ofs:=λb hb=>by have:=ok.ofs b hb;simp;omega
 sgn:=ok.sgn
 digs:=ok.digs
 nums:=λt i=>by
  rcases cY.1 i with h|h
  .exact ok.nums t h
  .rw[List.mem_singleton.1 h];exact h3
 sgl:=λt i=>by
  rcases cY.1 i with h|h
  .exact ok.sgl t h
  .rw[List.mem_singleton.1 h];exact h4
 inNum:=λh=>by exfalso;have p:x=110\/x=109:=h;omega
 open_:=λh=>by exfalso;have p:x=125:=h;omega
theorem Ok.begin_(ok:Ok m){k v x:Int}(hx:x=61\/x=99)(h:BN m k v x=some m'):Ok m':=by
 unfold BN at h;split at h
 .cases h
 .rename_i A;cases h
  exact ok.push A _ x hx ⟨(by decide:(-99:Int)<=0),(by decide:(0:Int)<=99)⟩ rfl
theorem Gl{c x:Int}{pos:Bool}(h:AT m c pos x=some m'):∃d u,((m.state=x/\d=m.dig/\u=(cur m).num)\/(m.state≠x/\d=0/\u=0))/\
  ¬(c<48\/57<c\/d=2\/(d=1/\u=0)\/(pos=true/\c=48))/\m'={AE m {cur m with num:=10*u+(c-48)}with dig:=d+1,state:=x}:=by
 simp only[AT]at h;by_cases e:m.state=x
 .rw[bA e,bA e]at h;by_cases hc:c<48\/57<c\/m.dig=2\/(m.dig=1/\(cur m).num=0)\/(pos=true/\c=48)
  .rw[bA hc]at h;cases h
  .rw[a_ hc]at h;exact⟨_,_,.inl ⟨e,rfl,rfl⟩,hc,(bV h).symm⟩
 .rw[a_ e,a_ e]at h;by_cases hc:c<48\/57<c\/(0:Int)=2\/((0:Int)=1/\(0:Int)=0)\/(pos=true/\c=48)
  .rw[bA hc]at h;cases h
  .rw[a_ hc]at h;exact⟨_,_,.inr ⟨e,rfl,rfl⟩,hc,(bV h).symm⟩
theorem Ok.digit(ok:Ok m)(hn:0<m.st.length){c x:Int}{pos:Bool}(hx:x=110\/x=109)(h:AT m c pos x=some m'):Ok m':=by
 obtain⟨d,u,C,hc,rfl⟩:=Gl h;have D:=ok.inNum;have j:=ok.nums (Go.Proofs.YtffajooegiempaaGreatDoor.cur m) (E_ hn);have g:=ok.sgl (Go.Proofs.YtffajooegiempaaGreatDoor.cur m) (E_ hn);have f:=ok.digs;have ac:0<=d/\d<=1/\0<=u/\(d=0->u=0)/\u<=9:=by
  rcases C with⟨e,rfl,rfl⟩|⟨_,rfl,rfl⟩
  .have:=D (by omega);omega
  .omega
 refine ok.put hn _ x m.sign m.neg (d+1) (by unfold EN;omega) ok.sgn (by omega) ?_ g ?_
 .show -99<=10*u+(c-48)/\10*u+(c-48)<=99;omega
 .intro _;show(d+1=1/\0<=10*u+(c-48)/\10*u+(c-48)<=9)\/(d+1=2/\0<=10*u+(c-48)/\10*u+(c-48)<=99)
  omega
theorem Ok.shut(ok:Ok m)(hs:m.state=115)(E:0<m.op.length)(h:Ba m=some m'):Ok m':=by
 have n:m.op[m.op.length-1]?=some (top m):=by
  unfold top;rw[bG,bP (by omega)];rfl
 have z:(top m).of_<m.st.length:=ok.ofs _ (bR n);have q:m.st.getD (top m).of_ AY∈m.st:=by rw[bG,bP z];exact List.getElem_mem z
 have hn:=ok.nums _ q;have F:=ok.sgl _ q;simp only[Ba]at h;split at h
 .cases h
  exact{
   states:=.inr (.inr (.inr (.inr (.inr (.inr (.inr (.inr (.inr (.inr (.inr (.inr (.inr rfl))))))))))))
   some_:=λ_=>by show 0<(m.st.set _ _).length;rw[b8];omega
   len:=by show(m.st.set _ _).length<=20;rw[b8];exact ok.len
   oplen:=ok.oplen
   ofs:=λb hb=>by show b.of_<(m.st.set _ _).length;rw[b8];exact ok.ofs b hb
   sgn:=ok.sgn
   digs:=ok.digs
   nums:=λt i=>(cL i).elim (λh=>ok.nums t h) (λh=>by rw[h];exact hn)
   sgl:=λt i=>(cL i).elim (λh=>ok.sgl t h) (λh=>by rw[h];exact F)
   inNum:=λh=>by exfalso;have p:(125:Int)=110\/(125:Int)=109:=h;omega
   open_:=λ_=>E}
 .cases h
  exact{
   states:=.inl hs
   some_:=λh=>absurd hs h
   len:=by show(m.st.set _ _).length<=20;rw[b8];exact ok.len
   oplen:=by show(m.op.take _).length<=4;have:=ok.oplen;simp;omega
   ofs:=λb hb=>by show b.of_<(m.st.set _ _).length;rw[b8];exact ok.ofs b (List.mem_of_mem_take hb)
   sgn:=ok.sgn
   digs:=ok.digs
   nums:=λt i=>(cL i).elim (λh=>ok.nums t h) (λh=>by rw[h];exact hn)
   sgl:=λt i=>(cL i).elim (λh=>ok.sgl t h) (λh=>by rw[h];exact F)
   inNum:=λh=>by exfalso;have p:m.state=110\/m.state=109:=h;omega
   open_:=λh=>by exfalso;have p:m.state=125:=h;omega}
theorem Ok.plain(ok:Ok m)(hn:0<m.st.length){c:Int}(h:Ac m c=some m'):Ok m':=by
 unfold Ac at h;split at h
 .split at h
  .cases h;exact ok.fields hn 115 m.sign m.neg m.dig (.inl rfl) ok.sgn ok.digs (λh=>by omega)
  .cases h
 .split at h
  .cases h
  .rename_i hc;cases h
   have o:=ok.fields hn 115 m.sign m.neg m.dig (.inl rfl) ok.sgn ok.digs (λh=>by omega)
   exact{o with
    oplen:=by have:=ok.oplen;simp;omega
    ofs:=λb hb=>by
     rcases cY.1 hb with h|h
     .exact ok.ofs b h
     .rw[List.mem_singleton.1 h];show m.st.length-1<m.st.length;omega
    open_:=λh=>by exfalso;have p:(115:Int)=125:=h;omega}
theorem Ok.signTo(ok:Ok m)(hn:0<m.st.length)(v:Nat)(y x:Int)(I: -1<=y/\y<=1)(hx:EN x)(h5:x≠110/\x≠109):Ok (Bp m v y x):=
 ok.put hn _ x y m.neg m.dig hx I ok.digs (ok.nums (Go.Proofs.YtffajooegiempaaGreatDoor.cur m) (E_ hn)) (by show((cur m).sg.set v y).length=4;rw[b8];exact ok.sgl _ (E_ hn)) (λh=>by omega)
theorem Ok.value(ok:Ok m)(hn:0<m.st.length){c:Int}(_hx:m.state=118\/m.state=86\/m.state=120\/m.state=121\/m.state=110)(h:AO m c=some m'):Ok m':=by
 have j:=ok.nums _ (E_ hn);have g:=ok.sgl _ (E_ hn);have hs:=ok.sgn;have f:=ok.digs;have G:Ok (CW m):=by
  refine ok.put hn _ 115 m.sign m.neg m.dig (.inl rfl) hs f ?_ g (λh=>by omega);show -99<=m.sign*(Go.Proofs.YtffajooegiempaaGreatDoor.cur m).num/\m.sign*(Go.Proofs.YtffajooegiempaaGreatDoor.cur m).num<=99;generalize(Go.Proofs.YtffajooegiempaaGreatDoor.cur m).num=u at *;rcases(show m.sign= -1\/m.sign=0\/m.sign=1 by omega)with e|e|e<;>rw[e]<;>omega
 unfold AO at h;split at h
 .split at h
  .cases h;exact ok.put hn _ 59 m.sign m.neg m.dig (by unfold EN;omega) hs f j g (λh=>by omega)
  split at h
  .cases h;exact ok.fields hn 86 (-1) m.neg m.dig (by unfold EN;omega) (by omega) f (λh=>by omega)
  split at h
  .cases h;exact ok.signTo hn _ 1 120 (by omega) (by unfold EN;omega) (by omega)
  .rename_i e _ _ _;exact Ok.digit (ok.fields hn m.state 1 m.neg m.dig (by unfold EN;omega) (by omega) f (λh=>by omega)) hn (.inl rfl) h
 split at h
 .split at h
  .cases h;exact ok.signTo hn _ m.sign 120 hs (by unfold EN;omega) (by omega)
  .exact ok.digit hn (.inl rfl) h
 split at h
 .split at h
  .cases h;exact ok.fields hn 121 1 m.neg m.dig (by unfold EN;omega) (by omega) f (λh=>by omega)
  split at h
  .cases h;exact ok.fields hn 121 (-1) m.neg m.dig (by unfold EN;omega) (by omega) f (λh=>by omega)
  split at h
  .cases h;exact G
  .cases h
 split at h
 .exact ok.digit hn (.inl rfl) h
 .split at h
  .cases h;exact G
  .exact ok.digit hn (.inl rfl) h
theorem RL(m:Rd):EN (AG m)/\AG m≠110/\AG m≠109:=by
 unfold AG EN;split<;>omega
theorem Ok.cond(ok:Ok m)(hn:0<m.st.length){c:Int}(h:AF m c=some m')(hx:m.state=99\/m.state=67\/m.state=100\/m.state=101\/m.state=102\/m.state=60\/m.state=98\/m.state=66\/m.state=109\/m.state=125):Ok m':=by
 have j:=ok.nums _ (E_ hn);have g:=ok.sgl _ (E_ hn);have hs:=ok.sgn;have f:=ok.digs;have w:=RL m;unfold AF at h;rcases hx with hx|hx|hx|hx|hx|hx|hx|hx|hx|hx
 .rw[hx,bA rfl]at h;split at h
  .cases h;exact ok.put hn _ (AG m) m.sign m.neg m.dig w.1 hs f j g (λh=>by omega)
  split at h
  .cases h;exact ok.fields hn 67 (-1) m.neg m.dig (by unfold EN;omega) (by omega) f (λh=>by omega)
  split at h
  .cases h;exact ok.signTo hn _ 1 100 (by omega) (by unfold EN;omega) (by omega)
  .cases h
 .rw[hx,a_ (by decide),bA rfl]at h;split at h
  .cases h;exact ok.signTo hn _ m.sign 100 hs (by unfold EN;omega) (by omega)
  .cases h
 .rw[hx,a_ (by decide),a_ (by decide),bA rfl]at h;split at h
  .cases h;exact ok.fields hn 101 1 m.neg m.dig (by unfold EN;omega) (by omega) f (λh=>by omega)
  split at h
  .cases h;exact ok.fields hn 101 (-1) m.neg m.dig (by unfold EN;omega) (by omega) f (λh=>by omega)
  split at h
  .cases h;exact ok.fields hn 60 m.sign m.neg m.dig (by unfold EN;omega) hs f (λh=>by omega)
  .cases h
 .rw[hx,a_ (by decide),a_ (by decide),a_ (by decide),bA rfl]at h;split at h
  .split at h
   .cases h;exact ok.signTo hn _ m.sign 102 hs (by unfold EN;omega) (by omega)
   .cases h
  .cases h
 .rw[hx,a_ (by decide),a_ (by decide),a_ (by decide),a_ (by decide),bA rfl]at h;split at h
  .cases h;exact ok.fields hn 60 m.sign m.neg m.dig (by unfold EN;omega) hs f (λh=>by omega)
  .cases h
 .rw[hx,a_ (by decide),a_ (by decide),a_ (by decide),a_ (by decide),a_ (by decide),bA rfl]at h;split at h
  .cases h;exact ok.fields hn 98 m.sign false m.dig (by unfold EN;omega) hs f (λh=>by omega)
  .cases h
 .rw[hx,a_ (by decide),a_ (by decide),a_ (by decide),a_ (by decide),a_ (by decide),a_ (by decide),bA rfl]at h;split at h
  .cases h;exact ok.fields hn 66 m.sign true m.dig (by unfold EN;omega) hs f (λh=>by omega)
  .exact ok.digit hn (.inr rfl) h
 .rw[hx,a_ (by decide),a_ (by decide),a_ (by decide),a_ (by decide),a_ (by decide),a_ (by decide),a_ (by decide),bA rfl]at h;exact ok.digit hn (.inr rfl) h
 .rw[hx,a_ (by decide),a_ (by decide),a_ (by decide),a_ (by decide),a_ (by decide),a_ (by decide),a_ (by decide),a_ (by decide),bA rfl]at h;split at h
  .refine Ok.plain (m:={AE m {Go.Proofs.YtffajooegiempaaGreatDoor.cur m with num:=if m.neg then -(Go.Proofs.YtffajooegiempaaGreatDoor.cur m).num else(Go.Proofs.YtffajooegiempaaGreatDoor.cur m).num}with state:=AG m}) ?_ (by show 0<(AE _ _).st.length;rw[BV];exact hn) h;refine ok.put hn _ (AG m) m.sign m.neg m.dig w.1 hs f ?_ g (λh=>by omega);show -99<=(if m.neg then _ else _)/\(if m.neg then _ else _)<=99;split<;>omega
  .exact ok.digit hn (.inr rfl) h
 .rw[hx,a_ (by decide),a_ (by decide),a_ (by decide),a_ (by decide),a_ (by decide),a_ (by decide),a_ (by decide),a_ (by decide),a_ (by decide)]at h;split at h
  .cases h
   have o:=ok.fields hn 115 m.sign m.neg m.dig (.inl rfl) hs f (λh=>by omega);have aa:0<m.op.length:=ok.open_ hx;have n:m.op[m.op.length-1]?=some (top m):=by
    unfold top;rw[bG,bP (by omega)];rfl
   exact{o with
    oplen:=by show(m.op.set _ _).length<=4;rw[b8];exact ok.oplen
    ofs:=λb hb=>by
     rcases cL hb with h|h
     .exact ok.ofs b h
     .rw[h];exact ok.ofs (top m) (bR n)
    open_:=λh=>by exfalso;have p:(115:Int)=125:=h;omega}
  .cases h
theorem Ok.byte(ok:Ok m){c:Int}(h:AM m c=some m'):Ok m':=by
 have ab:=ok.states;unfold AM at h;split at h
 .rename_i hs;unfold AP at h;split at h
  .exact ok.begin_ (.inl rfl) h
  split at h
  .split at h
   .exact ok.begin_ (.inr rfl) h
   .cases h
  split at h
  .exact ok.begin_ (.inr rfl) h
  split at h
  .rename_i E;exact ok.shut hs E.2 h
  .cases h
 rename_i r;have hn:=ok.some_ r;split at h
 .split at h
  .cases h;exact ok.fields hn 118 m.sign m.neg m.dig (by unfold EN;omega) ok.sgn ok.digs (λh=>by omega)
  .cases h
 split at h
 .rename_i H;exact ok.value hn H h
 split at h
 .exact ok.plain hn h
 .exact ok.cond hn h (by omega)
def CY:Rd:=⟨115,[],[],0,false,0⟩
theorem Ok.init:Ok CY where
 states:=.inl rfl
 some_:=λh=>absurd rfl h
 len:=by decide
 oplen:=by decide
 ofs:=λb hb=>by cases hb
 sgn:=⟨by decide,by decide⟩
 digs:=⟨by decide,by decide⟩
 nums:=λb hb=>by cases hb
 sgl:=λb hb=>by cases hb
 inNum:=λh=>by exfalso;have p:(115:Int)=110\/(115:Int)=109:=h;omega
 open_:=λh=>by exfalso;have p:(115:Int)=125:=h;omega
def En:Rd->List Int->Option Rd
 |m,[]=>some m
 |m,c::l=>match AM m c with
  |none=>none
  |some m'=>En m' l
theorem Lc(m:Rd)(l:List Int)(c:Int):En m (l++[c])=(En m l).bind λm'=>AM m' c:=by
 induction l generalizing m with
 |nil=>
  simp only[List.nil_append,En,Option.bind_some];cases h:AM m c<;>simp
 |cons a l ih=>
  simp only[List.cons_append,En];cases h:AM m a with
  |none=>simp
  |some m'=>simpa using ih m'
theorem Ok.feed(ok:Ok m){l:List Int}(h:En m l=some m'):Ok m':=by
 induction l generalizing m with
 |nil=>simp only[En]at h;cases h;exact ok
 |cons a l ih=>
  simp only[En]at h;split at h
  .cases h
  .rename_i m1 e;exact ih (ok.byte e) h
def BH:Rd->List Int->Nat->Nat×Option Rd
 |m,[],n=>(n,some m)
 |m,c::l,n=>match AM m c with
  |none=>(n,none)
  |some m'=>BH m' l (n+1)
theorem Hc{m0 m:Rd}{l:List Int}{k n:Nat}{c:Int}(h:En m0 (l.take k)=some m)(hc:l[k]?=some c)(hb:AM m c=none):BH m0 l n=(n+k,none):=by
 induction l generalizing m0 k n with
 |nil=>simp at hc
 |cons a l ih=>
  cases k with
  |zero=>
   simp[En]at h hc;subst h;subst hc;simp[BH,hb]
  |succ k=>
   simp only[List.take_succ_cons,En]at h;simp only[List.getElem?_cons_succ]at hc;simp only[BH];split at h
   .cases h
   .rename_i m1 e;try rw[e]
    try simp only
    rw[ih h hc];congr 1;omega
theorem EH{m0 m:Rd}{l:List Int}{n:Nat}(h:En m0 l=some m):BH m0 l n=(n+l.length,some m):=by
 induction l generalizing m0 n with
 |nil=>simp only[En]at h;cases h;rfl
 |cons a l ih=>
  simp only[En]at h;simp only[BH];split at h
  .cases h
  .rename_i m1 e;try rw[e]
   try simp only
   rw[ih h];simp only[db];congr 1;omega
def BS(m:Rd):Bool:=decide (m.state=115)&&decide (m.op.length=0)
def Bv(l:List Int):Int×Int×Int:=
 if 160<l.length then(0,1,0)else match BH CY l 0 with
  |(n,none)=>(0,1,n)
  |(n,some m)=>if BS m then((m.st.length:Int)+1,0,0)else(0,1,n)
theorem El(hx:m.state=118\/m.state=86\/m.state=120\/m.state=121\/m.state=110)(c:Int):AM m c=AO m c:=by
 unfold AM;rw[a_ (by omega),a_ (by omega),bA hx]
theorem Hh(hx:m.state=59\/m.state=123)(c:Int):AM m c=Ac m c:=by
 unfold AM;rw[a_ (by omega),a_ (by omega),a_ (by omega),bA hx]
theorem Cd(hx:m.state=99\/m.state=67\/m.state=100\/m.state=101\/m.state=102\/m.state=60\/m.state=98\/m.state=66\/m.state=109\/m.state=125)(c:Int):AM m c=AF m c:=by
 unfold AM;rw[a_ (by omega),a_ (by omega),a_ (by omega),a_ (by omega)]
theorem Dh(m:Rd):AG m=59\/AG m=123:=by
 unfold AG;split
 .exact .inl rfl
 .exact .inr rfl
theorem Hy(hn:0<m.st.length):AE m (cur m)=m:=by
 have h:=Ww hn;unfold AE;have:m.st.set (m.st.length-1) (cur m)=m.st:=by
  apply List.ext_getElem?;intro i;rw[cH];split
  .rename_i e;subst e;rw[bA (by omega),h]
  .rfl
 rw[this]
abbrev tD:TypeId:=81
abbrev BB:TypeId:=119
def D9(w:World)(r:Nat)(s:ByteArray)(d:Nat×Bool)(vf:Value):Prop:=At w r #[.string s,.int .i64 d.1,.bool d.2,vf] tD
structure FT(r:Nat)(w w':World):Prop where
 os:w'.os=w.os
 tape:w'.tape=w.tape
 output:w'.output=w.output
 size:w'.heap.size=w.heap.size
 block:∀k,k≠r->w'.heap[k]?=w.heap[k]?
theorem FT.refl(r:Nat)(w:World):FT r w w:=⟨rfl,rfl,rfl,rfl,λ_ _=>rfl⟩
theorem FT.trans{r:Nat}{a b c:World}(h:FT r a b)(k:FT r b c):FT r a c:=⟨k.os.trans h.os,k.tape.trans h.tape,k.output.trans h.output,k.size.trans h.size,λi hi=>(k.block i hi).trans (h.block i hi)⟩
theorem FT.drewN{r:Nat}{a w:World}(h:FT r a w)(n:Nat):FT r a (w.drewN n):=⟨h.os,h.tape,h.output,h.size,h.block⟩
theorem FT.setCell{r:Nat}{a w:World}(h:FT r a w)(o:Nat)(u:Value):FT r a (w.setCell ⟨r,o,none⟩ u):=
 h.trans ⟨rfl,rfl,rfl,by simp[World.setCell],λk hk=>Below.heap_setCell _ _ _ _ hk⟩
theorem FT.at_{r q:Nat}{w w':World}{c:Array Value}{t:TypeId}(h:FT r w w')(D:At w q c t)(hn:q≠r):At w' q c t:=D.same (h.block q hn)
theorem D9.cells{w:World}{r:Nat}{s:ByteArray}{d:Nat×Bool}{vf:Value}(h:D9 w r s d vf):w.cell? ⟨r,0,none⟩=some (.string s)/\w.cell? ⟨r,1,none⟩=some (.int .i64 d.1)/\w.cell? ⟨r,2,none⟩=some (.bool d.2)/\w.cell? ⟨r,3,none⟩=some vf/\∀i,w.frozen? ⟨r,i,none⟩=false:=
 ⟨h.cell 0,h.cell 1,h.cell 2,h.cell 3,h.free⟩
theorem D9.drewN{w:World}{r:Nat}{s:ByteArray}{d:Nat×Bool}{vf:Value}(h:D9 w r s d vf)(k:Nat):D9 (w.drewN k) r s d vf:=h
theorem D9.step{w:World}{r:Nat}{s:ByteArray}{d:Nat×Bool}{vf:Value}(h:D9 w r s d vf):D9 (w.setCell ⟨r,1,none⟩ (.int .i64 ((d.1:Int)+1))) r s (d.1+1,d.2) vf:=by
 have:=At.put h 1 (.int .i64 ((d.1:Int)+1));exact this
theorem D9.stick{w:World}{r:Nat}{s:ByteArray}{d:Nat×Bool}{vf:Value}(h:D9 w r s d vf):D9 (w.setCell ⟨r,2,none⟩ (.bool true)) r s (d.1,true) vf:=by
 have:=At.put h 2 (.bool true);exact this
def pk(s:ByteArray)(d:Nat×Bool):Int:=if d.2 then 0 else(AA s).getD d.1 0
theorem Dw(s:ByteArray)(d:Nat×Bool):0<=pk s d/\pk s d<=255:=by
 unfold pk;split
 .omega
 .by_cases h:d.1<s.size
  .rw[bG,Ck s d.1 h];have:=(s[d.1]).toNat_lt;simp only[Option.getD_some];omega
  .rw[bG,bO (by rw[AR];omega)];simp
def FK(x:Int×Int×Int):Ending:=.returned (.tuple #[.int .i64 x.1,.int .i64 x.2.1,.int .i64 x.2.2])
variable {r:Nat}{s:ByteArray}{d:Nat×Bool}{vf:Value}
theorem Em(h:D9 w r s d vf)(_hs:s.size<=160)(l:d.1<=160):
  Calls prog 84 #[.pointer (some ⟨r,0,none⟩)] w λe w'=>e=.returned (.int .u8 (pk s d))/\∃k,w'=w.drewN k:=by
 obtain⟨c0,c1,c2,c3,z⟩:=h.cells;obtain⟨a,b⟩:=d;simp only at c0 c1 c2 c3 l;have a0:decide (((a:Nat):Int)<0)=false:=bT (by omega);cases b
 .by_cases E:a<s.size
  .have p:Hid (pk s (a,false)=((s[a]).toNat:Int)):=by show pk s (a,false)=_;unfold pk;simp only[Bool.false_eq_true,if_false];rw[bG,Ck s a E];rfl
   have A:decide (((s.size:Nat):Int)<=(a:Int))=false:=bT (by omega);have i1:((a:Nat):Int)<((s.size:Nat):Int):=by omega
   clear h;go_enter func84,ntmps84;go_wp2;go_quiet (fail);go_wp2;go_quiet (fail);go_wp2;go_ret;exact⟨by rw[p.out];rfl,_,World.drewN_drewN _ _ _⟩
  .have p:Hid (pk s (a,false)=0):=by show pk s (a,false)=_;unfold pk;simp only[Bool.false_eq_true,if_false];rw[bG,bO (by rw[AR];omega)];rfl
   have A:decide (((s.size:Nat):Int)<=(a:Int))=true:=cC (by omega);clear h;go_enter func84,ntmps84;go_wp2;go_quiet (fail);go_wp2;go_ret;exact⟨by rw[p.out];rfl,_,rfl⟩
 .clear h;go_enter func84,ntmps84;go_wp2;go_quiet (fail);go_wp2;go_ret;exact⟨rfl,_,rfl⟩
def LI(w:World)(r:Nat)(s:ByteArray)(vf:Value)(C:Nat×Bool)(v:Value):Ending->World->Prop:=λe w'=>e=.returned v/\D9 w' r s C vf/\FT r w w'
def tk(s:ByteArray)(d:Nat×Bool)(c:Int):Bool×(Nat×Bool):=if pk s d=c then(true,(d.1+1,d.2))else(false,d)
def nd(s:ByteArray)(d:Nat×Bool)(c:Int):Nat×Bool:=if pk s d=c then(d.1+1,d.2)else(d.1,true)
theorem Hk(h:D9 w r s d vf)(hs:s.size<=160)(l:d.1<=160)(c:Int):
  Calls prog 157 #[.pointer (some ⟨r,0,none⟩),.int .u8 c] w (LI w r s vf (tk s d c).2 (.bool (tk s d c).1)):=by
 have g:=Em h hs l;obtain⟨c0,c1,c2,c3,z⟩:=h.cells;have m:Hid (D9 _ _ _ _ _):=h;clear h;by_cases hc:pk s d=c
 .have f:Hid (tk s d c=(true,(d.1+1,d.2))):=bA hc;subst hc;go_enter func157,ntmps157;go_wp2_with (go_at_call 84;refine g.mono ?_;rintro e w' ⟨rfl,k,rfl⟩);go_ret;rw[f.out];exact⟨rfl,(m.out.drewN k).step,((FT.refl _ _).drewN _).setCell _ _⟩
 .have f:Hid (tk s d c=(false,d)):=a_ hc;have bc:(pk s d != c)=true:=by simpa using hc
  clear hc;go_enter func157,ntmps157;go_wp2_with (go_at_call 84;refine g.mono ?_;rintro e w' ⟨rfl,k,rfl⟩);go_ret;rw[f.out];exact⟨rfl,m.out.drewN k,(FT.refl _ _).drewN _⟩
theorem EU(h:D9 w r s d vf)(hs:s.size<=160)(l:d.1<=160)(c:Int):
  Calls prog 146 #[.pointer (some ⟨r,0,none⟩),.int .u8 c] w (LI w r s vf (nd s d c) (.tuple #[])):=by
 have g:=Hk h hs l c;clear h;by_cases hc:pk s d=c
 .have f:Hid (nd s d c=(d.1+1,d.2)):=bA hc;have hk:tk s d c=(true,(d.1+1,d.2)):=bA hc;rw[hk]at g;clear hc hk;go_enter func146,ntmps146;go_wp2_with (go_at_call 157;refine g.mono ?_;rintro e w' ⟨rfl,j,y⟩)
  go_end0
  rw[f.out];exact⟨rfl,j,y⟩
 .have f:Hid (nd s d c=(d.1,true)):=a_ hc;have hk:tk s d c=(false,d):=a_ hc;rw[hk]at g;clear hc hk;go_enter func146,ntmps146;go_wp2_with (go_at_call 157;refine g.mono ?_;rintro e w' ⟨rfl,j,y⟩;obtain⟨c0,c1,c2,c3,z⟩:=j.cells;have m:Hid (D9 _ _ _ _ _):=j;clear j)
  go_end0
  rw[f.out];exact⟨rfl,m.out.stick,y.setCell _ _⟩
theorem DA{c:Int}(h:pk s d=c)(hc:c≠0):d.1<s.size/\d.2=false:=by
 unfold pk at h;split at h
 .exact absurd h.symm hc
 .rename_i hb;refine⟨?_,by simpa using hb⟩;rcases bW d.1 s.size with p|p
  .exact p
  .rw[bG,bO (by rw[AR];omega)]at h;exact absurd h.symm hc
def BA(d:Nat×Bool):Nat×Bool:=(d.1+1,d.2)
def Ez(d:Nat×Bool):Nat×Bool:=(d.1,true)
def BE(s:ByteArray)(d:Nat×Bool):Int×(Nat×Bool):=if pk s d=45 then(-1,BA d)else(1,d)
def Bq(s:ByteArray)(d:Nat×Bool)(n:Int):Int×(Nat×Bool):=if CJ (pk s d)= -1\/CJ (pk s d)=n then(0,Ez d)else(CJ (pk s d),BA d)
def Bh(s:ByteArray)(d:Nat×Bool)(sg:Int):Int×(Nat×Bool):=
 if pk s d=48/\0<sg then(0,BA d)
 else if pk s d<49\/57<pk s d then(0,Ez d)
 else if 48<=pk s (BA d)/\pk s (BA d)<=57 then(sg*(10*(pk s d-48)+(pk s (BA d)-48)),BA (BA d))
 else(sg*(pk s d-48),BA d)
def Az(s:ByteArray)(d:Nat×Bool):Int×(Nat×Bool):=
 if pk s d=43 then Bh s (BA d) 1
 else if pk s d=45 then(-(Bh s (BA d) 1).1,(Bh s (BA d) 1).2)
 else(0,d)
theorem Eu(g:d.1<=s.size):(BE s d).2.1<=s.size:=by
 unfold BE;split
 .rename_i h;have:=(DA h (by decide)).1;show d.1+1<=_;omega
 .exact g
theorem OT{c:Int}(h:CJ c≠ -1):97<=c/\c<=100:=by
 unfold CJ at h;split at h
 .assumption
 .exact absurd rfl h
theorem F0(g:d.1<=s.size)(x:Int):(Bq s d x).2.1<=s.size:=by
 unfold Bq;split
 .exact g
 .rename_i h;have h1:=OT (λe=>h (.inl e));have:=(DA (s:=s) (d:=d) rfl (by omega)).1;show d.1+1<=_;omega
theorem Hw(x:Int):0<=(Bq s d x).1/\(Bq s d x).1<=3:=by
 unfold Bq;split
 .exact⟨by simp,by simp⟩
 .rename_i h;have h1:=OT (λe=>h (.inl e));show 0<=CJ _/\CJ _<=3;unfold CJ;rw[bA h1];omega
theorem Jl(g:d.1<=s.size)(x:Int):(Bh s d x).2.1<=s.size:=by
 unfold Bh;split
 .rename_i h;have:=(DA h.1 (by decide)).1;show d.1+1<=_;omega
 split
 .exact g
 rename_i h1;have h2:=(DA (s:=s) (d:=d) rfl (by omega)).1;split
 .rename_i h3;have:=(DA (s:=s) (d:=BA d) rfl (by omega)).1;show(BA d).1+1<=_;omega
 .show d.1+1<=_;omega
theorem PW(x:Int)(hx:x=1\/x= -1): -99<=(Bh s d x).1/\(Bh s d x).1<=99:=by
 have o:=Dw s d;have p2:=Dw s (BA d);unfold Bh;split
 .exact⟨by simp,by simp⟩
 split
 .exact⟨by simp,by simp⟩
 split
 .show -99<=x*_/\x*_<=99;rcases hx with rfl|rfl<;>omega
 .show -99<=x*_/\x*_<=99;rcases hx with rfl|rfl<;>omega
theorem Fn(h:D9 w r s d vf)(hs:s.size<=160)(g:d.1<=s.size):
  Calls prog 158 #[.pointer (some ⟨r,0,none⟩)] w (LI w r s vf (BE s d).2 (.int .i64 (BE s d).1)):=by
 have f:=Hk h hs (by omega) 45;clear h;by_cases hc:pk s d=45
 .have b:Hid (BE s d=(-1,BA d)):=bA hc;have hk:tk s d 45=(true,BA d):=bA hc;rw[hk]at f;clear hc hk;go_enter func158,ntmps158;go_wp2_with (go_at_call 157;refine f.mono ?_;rintro e w' ⟨rfl,l,m⟩);go_ret;rw[b.out];exact⟨rfl,l,m⟩
 .have b:Hid (BE s d=(1,d)):=a_ hc;have hk:tk s d 45=(false,d):=a_ hc;rw[hk]at f;clear hc hk;go_enter func158,ntmps158;go_wp2_with (go_at_call 157;refine f.mono ?_;rintro e w' ⟨rfl,l,m⟩);go_ret;rw[b.out];exact⟨rfl,l,m⟩
theorem Ec(c:Int)(w:World)(h0:0<=c)(h1:c<=255):
  Calls prog 159 #[.int .u8 c] w λe w'=>e=.returned (.int .i64 (CJ c))/\w'=w:=by
 unfold CJ;by_cases ha:97<=c
 .by_cases hb:c<=100
  .go_enter func159,ntmps159;go_wp2;go_ret;exact⟨rfl,rfl⟩
  .go_enter func159,ntmps159;go_wp2;go_ret;exact⟨rfl,rfl⟩
 .go_enter func159,ntmps159;go_wp2;go_ret;exact⟨rfl,rfl⟩
theorem C8(h:D9 w r s d vf)(hs:s.size<=160)(g:d.1<=s.size)(x:Int):
  Calls prog 156 #[.pointer (some ⟨r,0,none⟩),.int .i64 x] w (LI w r s vf (Bq s d x).2 (.int .i64 (Bq s d x).1)):=by
 have f:=Em h hs (by omega);obtain⟨p0,o⟩:=Dw s d;obtain⟨c0,c1,c2,c3,cf⟩:=h.cells;have j:Hid (D9 _ _ _ _ _):=h;clear h;by_cases i:CJ (pk s d)= -1
 .have b:Hid (Bq s d x=(0,Ez d)):=bA (.inl i);have a:=λw=>Ec (pk s d) w p0 o;rw[i]at a;clear i;go_enter func156,ntmps156;go_wp2_with (first|(go_at_call 84;refine f.mono ?_;rintro e w' ⟨rfl,k,rfl⟩)|(go_at_call 159;refine(a _).mono ?_;rintro e w' ⟨rfl,rfl⟩));go_ret;rw[b.out];exact⟨rfl,(j.out.drewN k).stick,((FT.refl _ _).drewN _).setCell _ _⟩
 .have bv:(CJ (pk s d)== -1)=false:=by simpa using i
  have a:=λw=>Ec (pk s d) w p0 o;by_cases hx:CJ (pk s d)=x
  .have b:Hid (Bq s d x=(0,Ez d)):=bA (.inr hx);have bx:(CJ (pk s d)==x)=true:=by simpa using hx
   clear i hx;generalize CJ (pk s d)=v at *;go_enter func156,ntmps156;go_wp2_with (first|(go_at_call 84;refine f.mono ?_;rintro e w' ⟨rfl,k,rfl⟩)|(go_at_call 159;refine(a _).mono ?_;rintro e w' ⟨rfl,rfl⟩));go_ret;rw[b.out];exact⟨rfl,(j.out.drewN k).stick,((FT.refl _ _).drewN _).setCell _ _⟩
  .have b:Hid (Bq s d x=(CJ (pk s d),BA d)):=a_ (λe=>e.elim i hx);have bx:(CJ (pk s d)==x)=false:=by simpa using hx
   clear i hx;generalize CJ (pk s d)=v at *;go_enter func156,ntmps156;go_wp2_with (first|(go_at_call 84;refine f.mono ?_;rintro e w' ⟨rfl,k,rfl⟩)|(go_at_call 159;refine(a _).mono ?_;rintro e w' ⟨rfl,rfl⟩));go_ret;rw[b.out];exact⟨rfl,(j.out.drewN k).step,((FT.refl _ _).drewN _).setCell _ _⟩
end Go.Proofs.YtffajooegiempaaGreatDoor
