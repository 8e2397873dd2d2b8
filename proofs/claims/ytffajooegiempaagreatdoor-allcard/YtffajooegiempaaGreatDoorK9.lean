import Derived.Test.YtffajooegiempaaGreatDoorK8
import Derived.Deep.RegionLaw
set_option maxRecDepth 100000
set_option maxHeartbeats 6400000
namespace Go.Proofs.YtffajooegiempaaGreatDoor
open Go.RowKit Go.Proofs.Tryz
variable {w:World}{r:Nat}{s:ByteArray}{d:Nat×Bool}{vf:Value}
theorem D9.steps(h:D9 w r s d vf):D9 (w.setCell ⟨r,1,none⟩ (.int .i64 ((d.1:Int)+1))) r s (BA d) vf:=h.step
theorem Eb(h:D9 w r s d vf)(hs:s.size<=160)(hd:d.1<=s.size)(x:Int)(hx:x=1\/x= -1):
  Calls prog 160 #[.pointer (some ⟨r,0,none⟩),.int .i64 x] w (LI w r s vf (Bh s d x).2 (.int .i64 (Bh s d x).1)):=by
 have g:=Em h hs (by omega);obtain⟨p0,p1⟩:=Dw s d;obtain⟨q0,q1⟩:=Dw s (BA d);obtain⟨c0,c1,c2,c3,cf⟩:=h.cells;have n: -1<=x:=by omega
 have o:x<=1:=by omega
 have f:Hid (D9 _ _ _ _ _):=h;clear h;by_cases hz:pk s d=48/\0<x
 .have b:Hid (Bh s d x=(0,BA d)):=bA hz;obtain⟨hz,ab⟩:=hz;rw[hz]at g;clear hz hx;go_enter func160,ntmps160;go_wp2_with (go_at_call 84;refine g.mono ?_;rintro e w' ⟨rfl,k,rfl⟩);go_ret;rw[b.out];exact⟨rfl,(f.out.drewN k).step,((FT.refl _ _).drewN _).setCell _ _⟩
 by_cases hn:pk s d<49\/57<pk s d
 .have b:Hid (Bh s d x=(0,Ez d)):=by show Bh s d x=_;unfold Bh;rw[a_ hz,bA hn]
  by_cases a:pk s d=48
  .have m:x= -1:=by
    rcases hx with e|e
    .exact absurd ⟨a,by omega⟩ hz
    .exact e
   subst m;rw[a]at g;clear hz hn a hx;go_enter func160,ntmps160;go_wp2_with (go_at_call 84;refine g.mono ?_;rintro e w' ⟨rfl,k,rfl⟩);go_ret;rw[b.out];exact⟨rfl,(f.out.drewN k).stick,((FT.refl _ _).drewN _).setCell _ _⟩
  .have l:(pk s d==48)=false:=by simpa using a
   clear hz a hx;generalize pk s d=c at *;rcases hn with hn|hn
   .go_enter func160,ntmps160;go_wp2_with (go_at_call 84;refine g.mono ?_;rintro e w' ⟨rfl,k,rfl⟩);go_ret;rw[b.out];exact⟨rfl,(f.out.drewN k).stick,((FT.refl _ _).drewN _).setCell _ _⟩
   .go_enter func160,ntmps160;go_wp2_with (go_at_call 84;refine g.mono ?_;rintro e w' ⟨rfl,k,rfl⟩);go_ret;rw[b.out];exact⟨rfl,(f.out.drewN k).stick,((FT.refl _ _).drewN _).setCell _ _⟩
 .have ac:49<=pk s d:=by omega
  have ad:pk s d<=57:=by omega
  have l:(pk s d==48)=false:=by simp;omega
  have aa:=(DA (s:=s) (d:=d) rfl (by omega)).1;by_cases h2:48<=pk s (BA d)/\pk s (BA d)<=57
  .have b:Hid (Bh s d x=(x*(10*(pk s d-48)+(pk s (BA d)-48)),BA (BA d))):=by show Bh s d x=_;unfold Bh;rw[a_ hz,a_ hn,bA h2]
   obtain⟨m0,m1⟩:=h2;have j:Hid (_=_):=(show wrap64 (x*(10*(pk s d-48)+(pk s (BA d)-48)))=x*(10*(pk s d-48)+(pk s (BA d)-48))from IX _ _ n o (by omega) (by omega))
   have i:=λk=>Em (d:=BA d) (f.out.drewN k).steps hs (by show d.1+1<=160;omega);clear hz hn hx;generalize pk s (BA d)=c2 at *;generalize pk s d=c at *;go_enter func160,ntmps160;go_wp2_with fail;refine g.mono ?_;rintro e w' ⟨rfl,k,rfl⟩;go_wp2_with fail;refine(i k).mono ?_;rintro e w' ⟨rfl,k2,rfl⟩;go_wp2;go_ret;rw[b.out];exact⟨congrArg (λz=>Ending.returned (Value.int IntKind.i64 z)) j.out,(((f.out.drewN k).steps).drewN k2).step,((((FT.refl _ _).drewN _).setCell _ _).drewN _).setCell _ _⟩
  .have b:Hid (Bh s d x=(x*(pk s d-48),BA d)):=by show Bh s d x=_;unfold Bh;rw[a_ hz,a_ hn,a_ h2]
   have j:Hid (_=_):=(show wrap64 (x*(pk s d-48))=x*(pk s d-48)from IX _ _ n o (by omega) (by omega))
   have i:=λk=>Em (d:=BA d) (f.out.drewN k).steps hs (by show d.1+1<=160;omega);clear hz hn hx;generalize pk s (BA d)=c2 at *;generalize pk s d=c at *;by_cases m0:48<=c2
   .have m1:57<c2:=by omega
    go_enter func160,ntmps160;go_wp2_with fail;refine g.mono ?_;rintro e w' ⟨rfl,k,rfl⟩;go_wp2_with fail;refine(i k).mono ?_;rintro e w' ⟨rfl,k2,rfl⟩;go_wp2;go_ret;rw[b.out];exact⟨congrArg (λz=>Ending.returned (Value.int IntKind.i64 z)) j.out,((f.out.drewN k).steps).drewN k2,(((FT.refl _ _).drewN _).setCell _ _).drewN _⟩
   .go_enter func160,ntmps160;go_wp2_with fail;refine g.mono ?_;rintro e w' ⟨rfl,k,rfl⟩;go_wp2_with fail;refine(i k).mono ?_;rintro e w' ⟨rfl,k2,rfl⟩;go_wp2;go_ret;rw[b.out];exact⟨congrArg (λz=>Ending.returned (Value.int IntKind.i64 z)) j.out,((f.out.drewN k).steps).drewN k2,(((FT.refl _ _).drewN _).setCell _ _).drewN _⟩
variable {q:Nat}
structure Ds where
 kind:Int
 target:Int
 any:Bool
 sg:List Int
 num:Int
 parent:Int
 block:Int
def AB(l:List Int)(i:Nat):Int:=l.getD i 0
def AD(x:Ds):Array Value:=#[.int .i64 x.kind,.int .i64 x.target,.bool x.any,.int .i64 (AB x.sg 0),.int .i64 (AB x.sg 1),.int .i64 (AB x.sg 2),.int .i64 (AB x.sg 3),.int .i64 x.num,.int .i64 x.parent,.int .i64 x.block]
def BQ(w:World)(q:Nat)(x:Ds):Prop:=At w q (AD x) BB
structure D_(r q:Nat)(w w':World):Prop where
 os:w'.os=w.os
 tape:w'.tape=w.tape
 output:w'.output=w.output
 size:w'.heap.size=w.heap.size
 block:∀k,k≠r->k≠q->w'.heap[k]?=w.heap[k]?
theorem D_.refl(r q:Nat)(w:World):D_ r q w w:=⟨rfl,rfl,rfl,rfl,λ_ _ _=>rfl⟩
theorem D_.trans{a b c:World}(h:D_ r q a b)(k:D_ r q b c):D_ r q a c:=⟨k.os.trans h.os,k.tape.trans h.tape,k.output.trans h.output,k.size.trans h.size,λi h1 h2=>(k.block i h1 h2).trans (h.block i h1 h2)⟩
theorem FT.two{a b:World}(h:FT r a b)(q:Nat):D_ r q a b:=⟨h.os,h.tape,h.output,h.size,λi h1 _=>h.block i h1⟩
theorem D_.setCell{a w:World}(h:D_ r q a w)(o:Nat)(u:Value):D_ r q a (w.setCell ⟨q,o,none⟩ u):=
 h.trans ⟨rfl,rfl,rfl,by simp[World.setCell],λk _ hk=>Below.heap_setCell _ _ _ _ hk⟩
theorem D_.drewN{a w:World}(h:D_ r q a w)(n:Nat):D_ r q a (w.drewN n):=⟨h.os,h.tape,h.output,h.size,h.block⟩
theorem BQ.cells{x:Ds}(h:BQ w q x):w.cell? ⟨q,0,none⟩=some (.int .i64 x.kind)/\w.cell? ⟨q,1,none⟩=some (.int .i64 x.target)/\w.cell? ⟨q,2,none⟩=some (.bool x.any)/\w.cell? ⟨q,3,none⟩=some (.int .i64 (AB x.sg 0))/\w.cell? ⟨q,4,none⟩=some (.int .i64 (AB x.sg 1))/\w.cell? ⟨q,5,none⟩=some (.int .i64 (AB x.sg 2))/\w.cell? ⟨q,6,none⟩=some (.int .i64 (AB x.sg 3))/\w.cell? ⟨q,7,none⟩=some (.int .i64 x.num)/\w.cell? ⟨q,8,none⟩=some (.int .i64 x.parent)/\w.cell? ⟨q,9,none⟩=some (.int .i64 x.block)/\∀i,w.frozen? ⟨q,i,none⟩=false:=
 ⟨h.cell 0,h.cell 1,h.cell 2,h.cell 3,h.cell 4,h.cell 5,h.cell 6,h.cell 7,h.cell 8,h.cell 9,h.free⟩
theorem BQ.drewN{x:Ds}(h:BQ w q x)(k:Nat):BQ (w.drewN k) q x:=h
theorem BQ.setAny{x:Ds}(h:BQ w q x)(b:Bool):BQ (w.setCell ⟨q,2,none⟩ (.bool b)) q {x with any:=b}:=At.put h 2 (.bool b)
theorem BQ.setNum{x:Ds}(h:BQ w q x)(n:Int):BQ (w.setCell ⟨q,7,none⟩ (.int .i64 n)) q {x with num:=n}:=At.put h 7 (.int .i64 n)
theorem BQ.setKind{x:Ds}(h:BQ w q x)(n:Int):BQ (w.setCell ⟨q,0,none⟩ (.int .i64 n)) q {x with kind:=n}:=At.put h 0 (.int .i64 n)
theorem BQ.setTarget{x:Ds}(h:BQ w q x)(n:Int):BQ (w.setCell ⟨q,1,none⟩ (.int .i64 n)) q {x with target:=n}:=At.put h 1 (.int .i64 n)
theorem BQ.setSg{x:Ds}(h:BQ w q x)(I:x.sg.length=4)(v:Nat)(J:v<4)(n:Int):BQ (w.setCell ⟨q,3+v,none⟩ (.int .i64 n)) q {x with sg:=x.sg.set v n}:=by
 have:=At.put h (3+v) (.int .i64 n);unfold BQ;have e:AD {x with sg:=x.sg.set v n}=(AD x).setIfInBounds (3+v) (.int .i64 n):=by
  obtain⟨kd,tg,an,sg,nm,pa,bl⟩:=x
  match sg,I with
  |[a,b,c,e],_=>
   match v,J with
   |0,_=>rfl
   |1,_=>rfl
   |2,_=>rfl
   |3,_=>rfl
 rw[e];exact this
theorem BQ.ne{x:Ds}(h:BQ w q x)(k:D9 w r s d vf):q≠r:=At.ne h k (by decide)
theorem BQ.keep{x:Ds}{w':World}(h:BQ w q x)(t:FT r w w')(hn:q≠r):BQ w' q x:=t.at_ h hn
theorem D9.keepq{u:Value}(h:D9 w r s d vf)(o:Nat)(hn:q≠r):D9 (w.setCell ⟨q,o,none⟩ u) r s d vf:=At.other h o u (λe=>hn e.symm)
theorem Gk{x:Ds}(h:BQ w q x)(_hl:x.sg.length=4)(v:Int)(aa:0<=v)(ab:v<=3)(n:Int):
  Calls prog 161 #[.pointer (some ⟨q,0,none⟩),.int .i64 v,.int .i64 n] w λe w'=>e=.returned (.tuple #[])/\w'=w.setCell ⟨q,3+v.toNat,none⟩ (.int .i64 n):=by
 obtain⟨c0,c1,c2,c3,c4,c5,c6,c7,c8,c9,cf⟩:=h.cells;clear h;rcases(show v=0\/v=1\/v=2\/v=3 by omega)with rfl|rfl|rfl|rfl;all_goals
  go_enter func161,ntmps161;go_wp2
  go_end0
  exact⟨rfl,rfl⟩
theorem Kz(h:D9 w r s d vf)(hs:s.size<=160)(hd:d.1<=s.size):
  Calls prog 162 #[.pointer (some ⟨r,0,none⟩)] w (LI w r s vf (Az s d).2 (.int .i64 (Az s d).1)):=by
 have C:=Hk h hs (by omega) 43;have HD:Hid (D9 _ _ _ _ _):=h;clear h;by_cases hc:pk s d=43
 .have y:Hid (Az s d=Bh s (BA d) 1):=bA hc;have hk:tk s d 43=(true,BA d):=bA hc;have G:=(DA hc (by decide)).1;rw[hk]at C;clear hc hk;go_enter func162,ntmps162;go_wp2_with (go_at_call 157;refine C.mono ?_;rintro e w' ⟨rfl,z,A⟩);refine(Eb z hs (by show d.1+1<=s.size;omega) 1 (.inl rfl)).mono ?_;rintro e H ⟨rfl,f,g⟩;go_wp2;go_ret;rw[y.out];exact⟨rfl,f,A.trans g⟩
 .have hk:tk s d 43=(false,d):=a_ hc;rw[hk]at C;clear hk;by_cases m:pk s d=45
  .have y:Hid (Az s d=(-(Bh s (BA d) 1).1,(Bh s (BA d) 1).2)):=by show Az s d=_;unfold Az;rw[a_ hc,bA m]
   have j:tk s d 45=(true,BA d):=bA m;have G:=(DA m (by decide)).1;obtain⟨g0,g1⟩:=PW (s:=s) (d:=BA d) 1 (.inl rfl);have D:Hid (_=_):=j;clear hc m j;go_enter func162,ntmps162;go_wp2_with fail;refine C.mono ?_;rintro e w' ⟨rfl,z,A⟩;go_wp2_with fail;have p:=Hk z hs (by omega) 45;rw[D.out]at p;refine p.mono ?_;rintro e H ⟨rfl,f,g⟩;go_wp2_with fail;refine(Eb f hs (by show d.1+1<=s.size;omega) 1 (.inl rfl)).mono ?_;rintro e w3 ⟨rfl,E,F⟩;go_wp2;go_ret;rw[y.out];exact⟨rfl,E,(A.trans g).trans F⟩
  .have y:Hid (Az s d=(0,d)):=by show Az s d=_;unfold Az;rw[a_ hc,a_ m]
   have j:tk s d 45=(false,d):=a_ m;have D:Hid (_=_):=j;clear hc m j;go_enter func162,ntmps162;go_wp2_with fail;refine C.mono ?_;rintro e w' ⟨rfl,z,A⟩;go_wp2_with fail;have p:=Hk z hs (by omega) 45;rw[D.out]at p;refine p.mono ?_;rintro e H ⟨rfl,f,g⟩;go_wp2;go_ret;rw[y.out];exact⟨rfl,f,A.trans g⟩
variable {x:Ds}
def Ao(s:ByteArray)(d:Nat×Bool)(x:Ds):Ds×(Nat×Bool):=
 if pk s d=42 then({x with any:=true},BA d)
 else if CJ (pk s (BE s d).2)= -1 then({x with any:=false,num:=(Bh s (BE s d).2 (BE s d).1).1},(Bh s (BE s d).2 (BE s d).1).2)
 else({x with any:=false,sg:=x.sg.set (Bq s (BE s d).2 (-1)).1.toNat (BE s d).1,num:=(Az s (Bq s (BE s d).2 (-1)).2).1},(Az s (Bq s (BE s d).2 (-1)).2).2)
def Aw(s:ByteArray)(d:Nat×Bool)(x:Ds)(first:Int):Ds×(Nat×Bool):=
 if pk s d=43\/pk s d=45 then({x with sg:=x.sg.set (Bq s (BA d) first).1.toNat (if pk s d=45 then -1 else 1)},(Bq s (BA d) first).2)
 else(x,d)
def BR(s:ByteArray)(d:Nat×Bool)(x:Ds):Ds×(Nat×Bool):=
 if pk s d=42 then({x with any:=true},BA d)
 else
  let g:=BE s d
  let v:=Bq s g.2 (-1)
  let y:=Aw s v.2 {x with any:=false,sg:=x.sg.set v.1.toNat g.1} v.1
  let h:=BE s (nd s (nd s y.2 60) 61)
  let n:=Bh s h.2 h.1
  ({y.1 with num:=n.1},n.2)
theorem Ih(s:ByteArray)(d:Nat×Bool):(BE s d).1=1\/(BE s d).1= -1:=by
 unfold BE;split
 .exact .inr rfl
 .exact .inl rfl
theorem G9(F:d.1<=s.size){c:Int}(hc:c≠0):(nd s d c).1<=s.size:=by
 unfold nd;split
 .rename_i h;have:=(DA h hc).1;show d.1+1<=_;omega
 .exact F
theorem OD(F:d.1<=s.size):(Az s d).2.1<=s.size:=by
 unfold Az;split
 .rename_i h;have:=(DA h (by decide)).1;exact Jl (by show d.1+1<=_;omega) 1
 split
 .rename_i h;have:=(DA h (by decide)).1;exact Jl (d:=BA d) (by show d.1+1<=_;omega) 1
 .exact F
theorem KS(F:d.1<=s.size)(f:Int):(Aw s d x f).2.1<=s.size:=by
 unfold Aw;split
 .rename_i h;have:d.1<s.size:=by
   rcases h with h|h
   .exact(DA h (by decide)).1
   .exact(DA h (by decide)).1
  exact F0 (d:=BA d) (by show d.1+1<=_;omega) f
 .exact F
theorem OC(D:x.sg.length=4)(f:Int):(Aw s d x f).1.sg.length=4:=by
 unfold Aw;split
 .show(x.sg.set _ _).length=4;rw[b8];exact D
 .exact D
def SQ(w:World)(r q:Nat)(s:ByteArray)(vf:Value)(y:Ds×(Nat×Bool)):Ending->World->Prop:=λe w'=>e=.returned (.tuple #[])/\D9 w' r s y.2 vf/\BQ w' q y.1/\D_ r q w w'
theorem Nf(h:D9 w r s d vf)(N:BQ w q x)(D:x.sg.length=4)(hs:s.size<=160)(F:d.1<=s.size):
  Calls prog 147 #[.pointer (some ⟨r,0,none⟩),.pointer (some ⟨q,0,none⟩)] w (SQ w r q s vf (Ao s d x)):=by
 have B:=Hk h hs (by omega) 42;have hn:=N.ne h;have HD:Hid (D9 _ _ _ _ _):=h;have P:Hid (BQ _ _ _):=N;clear h N;by_cases hc:pk s d=42
 .have A:Hid (Ao s d x=({x with any:=true},BA d)):=bA hc;have hk:tk s d 42=(true,BA d):=bA hc;rw[hk]at B;clear hc hk;go_enter func147,ntmps147;go_wp2_with fail;refine(B).mono ?_;rintro e w1 ⟨rfl,j,b⟩;have a:=P.out.keep b hn;obtain⟨c0,c1,c2,c3,c4,c5,T,U,c8,V,W⟩:=a.cells;have o:Hid (BQ _ _ _):=a;clear a;go_wp2
  go_end0
  rw[A.out];exact⟨rfl,j.keepq 2 hn,o.out.setAny true,(b.two q).setCell _ _⟩
 .have hk:tk s d 42=(false,d):=a_ hc;rw[hk]at B;clear hk;have hg:=Ih s d;have G:=Eu (s:=s) (d:=d) F;obtain⟨p0,p1⟩:=Dw s (BE s d).2;have m:=Hw (s:=s) (d:=(BE s d).2) (-1);have O:=F0 (s:=s) (d:=(BE s d).2) G (-1);by_cases hv:CJ (pk s (BE s d).2)= -1
  .have A:Hid (Ao s d x=({x with any:=false,num:=(Bh s (BE s d).2 (BE s d).1).1},(Bh s (BE s d).2 (BE s d).1).2)):=by show Ao s d x=_;unfold Ao;rw[a_ hc,bA hv]
   have HV:Hid (_=_):=hv;clear hc hv;go_enter func147,ntmps147;go_wp2_with fail;refine(B).mono ?_;rintro e w1 ⟨rfl,j,b⟩;have a:=P.out.keep b hn;obtain⟨c0,c1,c2,c3,c4,c5,T,U,c8,V,W⟩:=a.cells;have o:Hid (BQ _ _ _):=a.setAny false;have I:Hid (D9 _ _ _ _ _):=j.keepq (u:=.bool false) 2 hn;clear a j;go_wp2_with fail;refine(Fn I.out hs F).mono ?_;rintro e w2 ⟨rfl,l,i⟩;go_wp2_with fail;refine(Em l hs (by omega)).mono ?_;rintro e w3 ⟨rfl,Q,rfl⟩;have af:=Ec (pk s (BE s d).2) (w2.drewN Q) p0 p1;rw[HV.out]at af;go_wp2_with fail;refine af.mono ?_;rintro e w4 ⟨rfl,rfl⟩;go_wp2_with fail;refine(Eb (l.drewN Q) hs G (BE s d).1 hg).mono ?_;rintro e w5 ⟨rfl,K,C⟩;have H:=((o.out.keep i hn).drewN Q).keep C hn;obtain⟨c0,c1,c2,c3,c4,c5,T,U,c8,V,W⟩:=H.cells;have E:Hid (BQ _ _ _):=H;clear H;go_wp2
   go_end0
   rw[A.out];exact⟨rfl,K.keepq 7 hn,E.out.setNum _,((((((b.two q).setCell _ _).trans (i.two q)).drewN _).trans (C.two q))).setCell _ _⟩
  .have A:Hid (Ao s d x=({x with any:=false,sg:=x.sg.set (Bq s (BE s d).2 (-1)).1.toNat (BE s d).1,num:=(Az s (Bq s (BE s d).2 (-1)).2).1},(Az s (Bq s (BE s d).2 (-1)).2).2)):=by show Ao s d x=_;unfold Ao;rw[a_ hc,a_ hv]
   have bv:(CJ (pk s (BE s d).2)== -1)=false:=by simpa using hv
   clear hc hv;go_enter func147,ntmps147;go_wp2_with fail;refine(B).mono ?_;rintro e w1 ⟨rfl,j,b⟩;have a:=P.out.keep b hn;obtain⟨c0,c1,c2,c3,c4,c5,T,U,c8,V,W⟩:=a.cells;have o:Hid (BQ _ _ _):=a.setAny false;have I:Hid (D9 _ _ _ _ _):=j.keepq (u:=.bool false) 2 hn;clear a j;go_wp2_with fail;refine(Fn I.out hs F).mono ?_;rintro e w2 ⟨rfl,l,i⟩;go_wp2_with fail;refine(Em l hs (by omega)).mono ?_;rintro e w3 ⟨rfl,Q,rfl⟩;go_wp2_with fail;refine(Ec (pk s (BE s d).2) (w2.drewN Q) p0 p1).mono ?_;rintro e w4 ⟨rfl,rfl⟩;go_wp2_with fail;refine(C8 (l.drewN Q) hs G (-1)).mono ?_;rintro e w5 ⟨rfl,K,C⟩;have H:=((o.out.keep i hn).drewN Q).keep C hn;have E:Hid (BQ _ _ _):=H;clear H;go_wp2_with fail;refine(Gk E.out D _ m.1 m.2 _).mono ?_;rintro e w6 ⟨rfl,rfl⟩;have aj:Hid (BQ _ _ _):=E.out.setSg D (Bq s (BE s d).2 (-1)).1.toNat (by omega) (BE s d).1;have ah:Hid (D9 _ _ _ _ _):=K.keepq (u:=.int .i64 (BE s d).1) (3+(Bq s (BE s d).2 (-1)).1.toNat) hn;go_wp2_with fail;refine(Kz ah.out hs O).mono ?_;rintro e w7 ⟨rfl,X,L⟩;have Y:=aj.out.keep L hn;obtain⟨c0,c1,c2,c3,c4,c5,T,U,c8,V,W⟩:=Y.cells;have ak:Hid (BQ _ _ _):=Y;clear Y;go_wp2
   go_end0
   rw[A.out];exact⟨rfl,X.keepq 7 hn,ak.out.setNum _,((((((((b.two q).setCell _ _).trans (i.two q)).drewN _).trans (C.two q)).setCell _ _).trans (L.two q))).setCell _ _⟩
theorem ML(h:D9 w r s d vf)(N:BQ w q x)(D:x.sg.length=4)(hs:s.size<=160)(F:d.1<=s.size)(f:Int):
  Calls prog 163 #[.pointer (some ⟨r,0,none⟩),.pointer (some ⟨q,0,none⟩),.int .i64 f] w (SQ w r q s vf (Aw s d x f)):=by
 have B:=Em h hs (by omega);obtain⟨p0,p1⟩:=Dw s d;have hn:=N.ne h;have HD:Hid (D9 _ _ _ _ _):=h;have P:Hid (BQ _ _ _):=N;clear h N;by_cases hc:pk s d=43\/pk s d=45
 .have au:d.1<s.size:=by
   rcases hc with h|h
   .exact(DA h (by decide)).1
   .exact(DA h (by decide)).1
  have R:∀c,pk s d=c->nd s d c=BA d:=λc h=>bA h;have m:=Hw (s:=s) (d:=BA d) f;have O:=F0 (s:=s) (d:=BA d) (by show d.1+1<=_;omega) f;have A:Hid (Aw s d x f=({x with sg:=x.sg.set (Bq s (BA d) f).1.toNat (if pk s d=45 then -1 else 1)},(Bq s (BA d) f).2)):=bA hc;rcases hc with hc|hc
  .rw[hc]at B;have S:Hid (Aw s d x f=({x with sg:=x.sg.set (Bq s (BA d) f).1.toNat 1},(Bq s (BA d) f).2)):=A.out.trans (by rw[hc];rfl);have HN:Hid (nd s d 43=BA d):=R 43 hc;clear hc R A;go_enter func163,ntmps163;go_wp2_with fail;refine B.mono ?_;rintro e w1 ⟨rfl,k,rfl⟩;have M:=EU (HD.out.drewN k) hs (by omega) 43;rw[HN.out]at M;go_wp2_with fail;refine(M).mono ?_;rintro e w2 ⟨rfl,l,i⟩;go_wp2_with fail;refine(C8 l hs (by show d.1+1<=_;omega) f).mono ?_;rintro e w3 ⟨rfl,J,t⟩;have p:Hid (BQ _ _ _):=((P.out.drewN k).keep i hn).keep t hn;go_wp2_with fail;refine(Gk p.out D _ m.1 m.2 _).mono ?_;rintro e w4 ⟨rfl,rfl⟩;go_wp2
   go_end0
   rw[S.out];exact⟨rfl,J.keepq _ hn,p.out.setSg D _ (by omega) _,((((((D_.refl r q _).drewN _).trans (i.two q)).trans (t.two q)))).setCell _ _⟩
  .rw[hc]at B;have S:Hid (Aw s d x f=({x with sg:=x.sg.set (Bq s (BA d) f).1.toNat (-1)},(Bq s (BA d) f).2)):=A.out.trans (by rw[hc];rfl);have HN:Hid (nd s d 45=BA d):=R 45 hc;clear hc R A;go_enter func163,ntmps163;go_wp2_with fail;refine B.mono ?_;rintro e w1 ⟨rfl,k,rfl⟩;have M:=EU (HD.out.drewN k) hs (by omega) 45;rw[HN.out]at M;go_wp2_with fail;refine(M).mono ?_;rintro e w2 ⟨rfl,l,i⟩;go_wp2_with fail;refine(C8 l hs (by show d.1+1<=_;omega) f).mono ?_;rintro e w3 ⟨rfl,J,t⟩;have p:Hid (BQ _ _ _):=((P.out.drewN k).keep i hn).keep t hn;go_wp2_with fail;refine(Gk p.out D _ m.1 m.2 _).mono ?_;rintro e w4 ⟨rfl,rfl⟩;go_wp2
   go_end0
   rw[S.out];exact⟨rfl,J.keepq _ hn,p.out.setSg D _ (by omega) _,((((((D_.refl r q _).drewN _).trans (i.two q)).trans (t.two q)))).setCell _ _⟩
 .have A:Hid (Aw s d x f=(x,d)):=a_ hc;have b1:(pk s d != 43)=true:=by rw[cI];exact λe=>hc (.inl e)
  have b2:(pk s d != 45)=true:=by rw[cI];exact λe=>hc (.inr e)
  clear hc;generalize pk s d=c at *;go_enter func163,ntmps163;go_wp2_with fail;refine B.mono ?_;rintro e w1 ⟨rfl,k,rfl⟩;go_wp2
  go_end0
  rw[A.out];exact⟨rfl,HD.out.drewN k,P.out.drewN k,(D_.refl r q _).drewN _⟩
theorem JR(h:D9 w r s d vf)(N:BQ w q x)(D:x.sg.length=4)(hs:s.size<=160)(F:d.1<=s.size):
  Calls prog 148 #[.pointer (some ⟨r,0,none⟩),.pointer (some ⟨q,0,none⟩)] w (SQ w r q s vf (BR s d x)):=by
 have B:=Hk h hs (by omega) 42;have hn:=N.ne h;have HD:Hid (D9 _ _ _ _ _):=h;have P:Hid (BQ _ _ _):=N;clear h N;by_cases hc:pk s d=42
 .have A:Hid (BR s d x=({x with any:=true},BA d)):=bA hc;have hk:tk s d 42=(true,BA d):=bA hc;rw[hk]at B;clear hc hk;go_enter func148,ntmps148;go_wp2_with fail;refine(B).mono ?_;rintro e w1 ⟨rfl,j,b⟩;have a:=P.out.keep b hn;obtain⟨c0,c1,c2,c3,c4,c5,T,U,c8,V,W⟩:=a.cells;have o:Hid (BQ _ _ _):=a;clear a;go_wp2
  go_end0
  rw[A.out];exact⟨rfl,j.keepq 2 hn,o.out.setAny true,(b.two q).setCell _ _⟩
 .have hk:tk s d 42=(false,d):=a_ hc;rw[hk]at B;clear hk;obtain⟨g,hG⟩:∃g,g=BE s d:=⟨_,rfl⟩
  obtain⟨v,hV⟩:∃v,v=Bq s g.2 (-1):=⟨_,rfl⟩
  obtain⟨y,hY⟩:∃y,y=Aw s v.2 {x with any:=false,sg:=x.sg.set v.1.toNat g.1} v.1:=⟨_,rfl⟩
  obtain⟨z,hZ⟩:∃z,z=BE s (nd s (nd s y.2 60) 61):=⟨_,rfl⟩
  have A:Hid (BR s d x=({y.1 with num:=(Bh s z.2 z.1).1},(Bh s z.2 z.1).2)):=by
   show BR s d x=_;unfold BR;rw[a_ hc,hZ,hY,hV,hG]
  have hg:g.1=1\/g.1= -1:=by rw[hG];exact Ih s d
  have G:g.2.1<=s.size:=by rw[hG];exact Eu F
  have m:0<=v.1/\v.1<=3:=by rw[hV];exact Hw (-1)
  have O:v.2.1<=s.size:=by rw[hV];exact F0 G (-1)
  have aq:y.2.1<=s.size:=by rw[hY];exact KS O v.1
  have am:(nd s y.2 60).1<=s.size:=G9 aq (by decide);have aa:(nd s (nd s y.2 60) 61).1<=s.size:=G9 am (by decide);have hz:z.1=1\/z.1= -1:=by rw[hZ];exact Ih s _
  have ar:z.2.1<=s.size:=by rw[hZ];exact Eu aa
  have HG:Hid (g=BE s d):=hG;have HV:Hid (v=Bq s g.2 (-1)):=hV;have HY:Hid (y=Aw s v.2 {x with any:=false,sg:=x.sg.set v.1.toNat g.1} v.1):=hY;have HZ:Hid (z=BE s (nd s (nd s y.2 60) 61)):=hZ;clear hc hG hV hY hZ;go_enter func148,ntmps148;go_wp2_with fail;refine(B).mono ?_;rintro e w1 ⟨rfl,j,b⟩;have a:=P.out.keep b hn;obtain⟨c0,c1,c2,c3,c4,c5,T,U,c8,V,W⟩:=a.cells;have o:Hid (BQ _ _ _):=a.setAny false;have I:Hid (D9 _ _ _ _ _):=j.keepq (u:=.bool false) 2 hn;clear a j;have k2:=Fn I.out hs F;rw[<-HG.out]at k2;go_wp2_with fail;refine(k2).mono ?_;rintro e w2 ⟨rfl,l,i⟩;have Q:=C8 l hs G (-1);rw[<-HV.out]at Q;go_wp2_with fail;refine(Q).mono ?_;rintro e w3 ⟨rfl,J,t⟩;have p:Hid (BQ _ _ _):=(o.out.keep i hn).keep t hn;go_wp2_with fail;refine(Gk p.out D _ m.1 m.2 _).mono ?_;rintro e w4 ⟨rfl,rfl⟩;have ai:Hid (BQ _ _ _):=p.out.setSg D v.1.toNat (by omega) g.1;have ag:Hid (D9 _ _ _ _ _):=J.keepq (u:=.int .i64 g.1) (3+v.1.toNat) hn;have k5:=ML ag.out ai.out (by show(x.sg.set _ _).length=4;rw[b8];exact D) hs O v.1;rw[show Aw s v.2 {x with any:=false,sg:=x.sg.set v.1.toNat g.1} v.1=y from HY.out.symm]at k5;go_wp2_with fail;refine k5.mono ?_;rintro e w5 ⟨rfl,K,ab,C⟩;have E:Hid (BQ _ _ _):=ab;clear ab;go_wp2_with fail;refine(EU K hs (by omega) 60).mono ?_;rintro e w6 ⟨rfl,an,ac⟩;go_wp2_with fail;refine(EU an hs (by omega) 61).mono ?_;rintro e w7 ⟨rfl,X,L⟩;have k8:=Fn X hs aa;rw[<-HZ.out]at k8;go_wp2_with fail;refine(k8).mono ?_;rintro e w8 ⟨rfl,ao,ad⟩;go_wp2_with fail;refine(Eb ao hs ar z.1 hz).mono ?_;rintro e w9 ⟨rfl,ap,ae⟩;have Z:=(((E.out.keep ac hn).keep L hn).keep ad hn).keep ae hn;obtain⟨c0,c1,c2,c3,c4,c5,T,U,c8,V,W⟩:=Z.cells;have al:Hid (BQ _ _ _):=Z;clear Z;go_wp2
  go_end0
  rw[A.out];exact⟨rfl,ap.keepq 7 hn,al.out.setNum _,(((((((((((b.two q).setCell _ _).trans (i.two q)).trans (t.two q)).setCell _ _).trans C).trans (ac.two q)).trans (L.two q)).trans (ad.two q)).trans (ae.two q))).setCell _ _⟩
def An(k:Int):Int:=if k=2 then 2 else if k=3 then 1 else 0
theorem CQ(k t:Int)(T:Bool)(O P Q R n p b:Int)(w:World):
  Calls prog 101 #[.agg #[.int .i64 k,.int .i64 t,.bool T,.int .i64 O,.int .i64 P,.int .i64 Q,.int .i64 R,.int .i64 n,.int .i64 p,.int .i64 b]] w λe w'=>e=.returned (.int .i64 (An k))/\∃o,w'=w.alloc o:=by
 unfold An;by_cases h2:k=2
 .subst h2;go_enter func101,ntmps101;go_wp2;go_ret;exact⟨rfl,_,rfl⟩
 .have U:(k==2)=false:=by simpa using h2
  by_cases h3:k=3
  .subst h3;clear h2 U;go_enter func101,ntmps101;go_wp2;go_ret;exact⟨rfl,_,rfl⟩
  .have b3:(k==3)=false:=by simpa using h3
   rw[a_ h2,a_ h3];clear h2 h3;go_enter func101,ntmps101;go_wp2;go_ret;exact⟨rfl,_,rfl⟩
structure P8(r q:Nat)(w w':World):Prop where
 os:w'.os=w.os
 tape:w'.tape=w.tape
 output:w'.output=w.output
 size:w.heap.size<=w'.heap.size
 block:∀k,k<w.heap.size->k≠r->k≠q->w'.heap[k]?=w.heap[k]?
theorem P8.trans{a b c:World}(h:P8 r q a b)(k:P8 r q b c):P8 r q a c:=⟨k.os.trans h.os,k.tape.trans h.tape,k.output.trans h.output,cN h.size k.size,λi S h1 h2=>(k.block i (bM S h.size) h1 h2).trans (h.block i S h1 h2)⟩
theorem D_.fr{a b:World}(h:D_ r q a b):P8 r q a b:=⟨h.os,h.tape,h.output,by have:=h.size;omega,λi _ h1 h2=>h.block i h1 h2⟩
theorem P8.alloc{a w:World}(h:P8 r q a w)(o:Obj):P8 r q a (w.alloc o):=
 h.trans ⟨rfl,rfl,rfl,by simp,λk hk _ _=>Below.heap_alloc _ _ _ hk⟩
theorem At.alloc{b:Nat}{c:Array Value}{t:TypeId}(h:At w b c t)(o:Obj):At (w.alloc o) b c t:=h.same (Below.heap_alloc _ _ _ h.lt)
theorem D9.alloc(h:D9 w r s d vf)(o:Obj):D9 (w.alloc o) r s d vf:=At.alloc h o
theorem BQ.alloc(h:BQ w q x)(o:Obj):BQ (w.alloc o) q x:=At.alloc h o
def Wj(w:World)(r q:Nat)(s:ByteArray)(vf:Value)(y:Ds×(Nat×Bool)):Ending->World->Prop:=λe w'=>e=.returned (.tuple #[])/\D9 w' r s y.2 vf/\BQ w' q y.1/\P8 r q w w'
def BD(s:ByteArray)(d:Nat×Bool)(x:Ds)(m:Int):Ds×(Nat×Bool):=
 if pk s d=33 then({x with kind:=1},BA d)
 else if pk s d=63 then({x with kind:=2},if 4<=m then Ez d else BA d)
 else if pk s d=64 then({x with kind:=3},if 4<=m then Ez d else BA d)
 else({x with kind:=0,target:=(Bq s d (-1)).1},(Bq s d (-1)).2)
theorem Ov(h:D9 w r s d vf)(H:BQ w q x)(hs:s.size<=160)(Z:d.1<=s.size)(m:Int):
  Calls prog 145 #[.pointer (some ⟨r,0,none⟩),.pointer (some ⟨q,0,none⟩),.int .i64 m] w (Wj w r q s vf (BD s d x m)):=by
 have C:=Em h hs (by omega);obtain⟨p0,p1⟩:=Dw s d;have hn:=H.ne h;have ac:r<w.heap.size:=At.lt h;have ab:q<w.heap.size:=At.lt H;have ad:r≠q:=λe=>hn e.symm;obtain⟨c0,c1,c2,c3,c4,c5,V,W,c8,X,Y⟩:=H.cells;obtain⟨r0,r1,r2,r3,rf⟩:=h.cells;have F:Hid (D9 _ _ _ _ _):=h;have G:Hid (BQ _ _ _):=H;clear h H;generalize AB x.sg 0=O at *;generalize AB x.sg 1=P at *;generalize AB x.sg 2=Q at *;generalize AB x.sg 3=R at *;by_cases f:pk s d=33
 .have A:Hid (BD s d x m=({x with kind:=1},BA d)):=bA f;have I:Hid (nd s d 33=BA d):=bA f;rw[f]at C;clear f;go_enter func145,ntmps145;go_wp2_with fail;refine C.mono ?_;rintro e K ⟨rfl,k,rfl⟩;go_wp2_with fail;refine(CQ _ _ _ _ _ _ _ _ _ _ _).mono ?_;rintro e L ⟨rfl,o,rfl⟩;have v:=EU (((F.out.drewN k).keepq (u:=.int .i64 1) 0 hn).alloc o) hs (by omega) 33;rw[I.out]at v;go_wp2_with fail;refine v.mono ?_;rintro e N ⟨rfl,z,j⟩;go_wp2
  go_end0
  rw[A.out];exact⟨rfl,z,(((G.out.drewN k).setKind 1).alloc o).keep j hn,((((D_.refl r q _).drewN k).setCell _ _).fr.alloc o).trans (j.two q).fr⟩
 have D:(pk s d==33)=false:=by simpa using f
 by_cases g:pk s d=63
 .have I:Hid (nd s d 63=BA d):=bA g;by_cases h4:4<=m
  .have A:Hid (BD s d x m=({x with kind:=2},Ez d)):=by show BD s d x m=_;unfold BD;rw[a_ f,bA g,bA h4]
   rw[g]at C;clear f D g;go_enter func145,ntmps145;go_wp2_with fail;refine C.mono ?_;rintro e K ⟨rfl,k,rfl⟩;go_wp2_with fail;refine(CQ _ _ _ _ _ _ _ _ _ _ _).mono ?_;rintro e L ⟨rfl,o,rfl⟩;go_wp2
   go_end0
   rw[A.out];exact⟨rfl,(((F.out.drewN k).keepq 0 hn).stick).alloc o,(((G.out.drewN k).setKind 2).keep ((FT.refl r _).setCell _ _) hn).alloc o,((((D_.refl r q _).drewN k).setCell _ _).trans (((FT.refl r _).setCell _ _).two q)).fr.alloc o⟩
  .have A:Hid (BD s d x m=({x with kind:=2},BA d)):=by show BD s d x m=_;unfold BD;rw[a_ f,bA g,a_ h4]
   rw[g]at C;clear f D g;go_enter func145,ntmps145;go_wp2_with fail;refine C.mono ?_;rintro e K ⟨rfl,k,rfl⟩;go_wp2_with fail;refine(CQ _ _ _ _ _ _ _ _ _ _ _).mono ?_;rintro e L ⟨rfl,o,rfl⟩;have v:=EU (((F.out.drewN k).keepq (u:=.int .i64 2) 0 hn).alloc o) hs (by omega) 63;rw[I.out]at v;go_wp2_with fail;refine v.mono ?_;rintro e N ⟨rfl,z,j⟩;go_wp2
   go_end0
   rw[A.out];exact⟨rfl,z,(((G.out.drewN k).setKind 2).alloc o).keep j hn,((((D_.refl r q _).drewN k).setCell _ _).fr.alloc o).trans (j.two q).fr⟩
 have J:(pk s d==63)=false:=by simpa using g
 by_cases l:pk s d=64
 .have I:Hid (nd s d 64=BA d):=bA l;by_cases h4:4<=m
  .have A:Hid (BD s d x m=({x with kind:=3},Ez d)):=by show BD s d x m=_;unfold BD;rw[a_ f,a_ g,bA l,bA h4]
   rw[l]at C;clear f D g J l;go_enter func145,ntmps145;go_wp2_with fail;refine C.mono ?_;rintro e K ⟨rfl,k,rfl⟩;go_wp2_with fail;refine(CQ _ _ _ _ _ _ _ _ _ _ _).mono ?_;rintro e L ⟨rfl,o,rfl⟩;go_wp2
   go_end0
   rw[A.out];exact⟨rfl,(((F.out.drewN k).keepq 0 hn).stick).alloc o,(((G.out.drewN k).setKind 3).keep ((FT.refl r _).setCell _ _) hn).alloc o,((((D_.refl r q _).drewN k).setCell _ _).trans (((FT.refl r _).setCell _ _).two q)).fr.alloc o⟩
  .have A:Hid (BD s d x m=({x with kind:=3},BA d)):=by show BD s d x m=_;unfold BD;rw[a_ f,a_ g,bA l,a_ h4]
   rw[l]at C;clear f D g J l;go_enter func145,ntmps145;go_wp2_with fail;refine C.mono ?_;rintro e K ⟨rfl,k,rfl⟩;go_wp2_with fail;refine(CQ _ _ _ _ _ _ _ _ _ _ _).mono ?_;rintro e L ⟨rfl,o,rfl⟩;have v:=EU (((F.out.drewN k).keepq (u:=.int .i64 3) 0 hn).alloc o) hs (by omega) 64;rw[I.out]at v;go_wp2_with fail;refine v.mono ?_;rintro e N ⟨rfl,z,j⟩;go_wp2
   go_end0
   rw[A.out];exact⟨rfl,z,(((G.out.drewN k).setKind 3).alloc o).keep j hn,((((D_.refl r q _).drewN k).setCell _ _).fr.alloc o).trans (j.two q).fr⟩
 have aa:(pk s d==64)=false:=by simpa using l
 have A:Hid (BD s d x m=({x with kind:=0,target:=(Bq s d (-1)).1},(Bq s d (-1)).2)):=by show BD s d x m=_;unfold BD;rw[a_ f,a_ g,a_ l]
 clear f g l;generalize pk s d=c at *;go_enter func145,ntmps145;go_wp2_with fail;refine C.mono ?_;rintro e K ⟨rfl,k,rfl⟩;go_wp2_with fail;refine(C8 ((F.out.drewN k).keepq (u:=.int .i64 0) 0 hn) hs Z (-1)).mono ?_;rintro e N ⟨rfl,z,j⟩;have E:=((G.out.drewN k).setKind 0).keep j hn;obtain⟨c0,c1,c2,c3,c4,c5,V,W,c8,X,Y⟩:=E.cells;have M:Hid (BQ _ _ _):=E;clear E;go_wp2
 go_end0
 rw[A.out];exact⟨rfl,z.keepq 1 hn,M.out.setTarget _,((((D_.refl r q _).drewN k).setCell _ _).trans (j.two q)).setCell _ _ |>.fr⟩
def Bo(s:ByteArray)(d:Nat×Bool)(x:Ds)(a:Int):Ds×(Nat×Bool):=
 let k:=BD s d x a
 let v:=if k.1.kind=0 then Ao s (nd s k.2 61) k.1 else BR s k.2 k.1
 if An v.1.kind=0 then(v.1,nd s v.2 59)else v
theorem N_(l:d.1<=s.size)(a:Int):(BD s d x a).2.1<=s.size:=by
 unfold BD;split
 .rename_i h;have:=(DA h (by decide)).1;show d.1+1<=_;omega
 split
 .rename_i h;have:=(DA h (by decide)).1;show(if 4<=a then Ez d else BA d).1<=_;split
  .exact l
  .show d.1+1<=_;omega
 split
 .rename_i h;have:=(DA h (by decide)).1;show(if 4<=a then Ez d else BA d).1<=_;split
  .exact l
  .show d.1+1<=_;omega
 .exact F0 l (-1)
theorem OA(a:Int):(BD s d x a).1.sg=x.sg:=by
 unfold BD;split
 .rfl
 split
 .rfl
 split
 .rfl
 .rfl
theorem Lp(l:d.1<=s.size):(Ao s d x).2.1<=s.size:=by
 unfold Ao;split
 .rename_i h;have:=(DA h (by decide)).1;show d.1+1<=_;omega
 split
 .exact Jl (Eu l) _
 .exact OD (F0 (Eu l) (-1))
theorem N9(l:d.1<=s.size):(BR s d x).2.1<=s.size:=by
 unfold BR;split
 .rename_i h;have:=(DA h (by decide)).1;show d.1+1<=_;omega
 .exact Jl (Eu (G9 (G9 (KS (F0 (Eu l) (-1)) _) (by decide)) (by decide))) _
theorem PX(C:x.sg.length=4):(Ao s d x).1.sg.length=4:=by
 unfold Ao;split
 .exact C
 split
 .exact C
 .show(x.sg.set _ _).length=4;rw[b8];exact C
theorem Rq(C:x.sg.length=4):(BR s d x).1.sg.length=4:=by
 unfold BR;split
 .exact C
 .exact OC (by show(x.sg.set _ _).length=4;rw[b8];exact C) _
theorem Ig(l:d.1<=s.size)(a:Int):(Bo s d x a).2.1<=s.size:=by
 unfold Bo;have hk:=N_ (x:=x) l a;have J:(if(BD s d x a).1.kind=0 then Ao s (nd s (BD s d x a).2 61) (BD s d x a).1 else BR s (BD s d x a).2 (BD s d x a).1).2.1<=s.size:=by
  split
  .exact Lp (G9 hk (by decide))
  .exact N9 hk
 simp only;generalize(if(BD s d x a).1.kind=0 then Ao s (nd s (BD s d x a).2 61) (BD s d x a).1 else BR s (BD s d x a).2 (BD s d x a).1)=y at J|-;split
 .exact G9 (c:=59) J (by decide)
 .exact J
theorem Rr(C:x.sg.length=4)(a:Int):(Bo s d x a).1.sg.length=4:=by
 unfold Bo;have hk:(BD s d x a).1.sg.length=4:=by rw[OA];exact C
 have J:(if(BD s d x a).1.kind=0 then Ao s (nd s (BD s d x a).2 61) (BD s d x a).1 else BR s (BD s d x a).2 (BD s d x a).1).1.sg.length=4:=by
  split
  .exact PX hk
  .exact Rq hk
 simp only;generalize(if(BD s d x a).1.kind=0 then Ao s (nd s (BD s d x a).2 61) (BD s d x a).1 else BR s (BD s d x a).2 (BD s d x a).1)=y at J|-;split
 .exact J
 .exact J
theorem Ou(h:D9 w r s d vf)(Z:BQ w q x)(C:x.sg.length=4)(hs:s.size<=160)(l:d.1<=s.size)(a:Int):
  Calls prog 119 #[.pointer (some ⟨r,0,none⟩),.pointer (some ⟨q,0,none⟩),.int .i64 a] w (Wj w r q s vf (Bo s d x a)):=by
 have hk:=Ov h Z hs l a;have hn:=Z.ne h;obtain⟨k,R⟩:∃k,k=BD s d x a:=⟨_,rfl⟩
 obtain⟨y,D⟩:∃y,y=if k.1.kind=0 then Ao s (nd s k.2 61) k.1 else BR s k.2 k.1:=⟨_,rfl⟩
 have V:Hid (Bo s d x a=if An y.1.kind=0 then(y.1,nd s y.2 59)else y):=by show Bo s d x a=_;unfold Bo;rw[D,R]
 have I:k.2.1<=s.size:=by rw[R];exact N_ l a
 have S:k.1.sg.length=4:=by rw[R,OA];exact C
 have Q:(nd s k.2 61).1<=s.size:=G9 I (by decide);rw[<-R]at hk;clear h Z R;by_cases K:k.1.kind=0
 .rw[bA K]at D;have aa:y.2.1<=s.size:=by rw[D];exact Lp Q
  have X:Hid (_=_):=D;have W:Hid (_=_):=K;clear D K;go_enter func119,ntmps119;go_wp2_with fail;refine hk.mono ?_;rintro e w1 ⟨rfl,E,g,z⟩;obtain⟨c0,c1,c2,c3,c4,c5,M,N,c8,O,P⟩:=g.cells;rw[W.out]at c0;have L:Hid (BQ _ _ _):=g;clear g;go_wp2_with fail;refine(EU E hs (by omega) 61).mono ?_;rintro e w2 ⟨rfl,Y,H⟩;have T:=Nf Y (L.out.keep H hn) S hs Q;rw[<-X.out]at T;go_wp2_with fail;refine T.mono ?_;rintro e w4 ⟨rfl,u,G,A⟩;clear c0 c1 c2 c3 c4 c5 M N c8 O P;have j:=G;obtain⟨c0,c1,c2,c3,c4,c5,M,N,c8,O,P⟩:=j.cells;have m:Hid (BQ _ _ _):=j;clear j;by_cases hb:An y.1.kind=0
  .have i:Hid (Bo s d x a=(y.1,nd s y.2 59)):=V.out.trans (bA hb);have U:=λ(t:Int) (an:Bool) (g0 g1 g2 g3 n p b:Int) (w:World)=>CQ y.1.kind t an g0 g1 g2 g3 n p b w;rw[hb]at U;generalize AB y.1.sg 0=g0 at *;generalize AB y.1.sg 1=g1 at *;generalize AB y.1.sg 2=g2 at *;generalize AB y.1.sg 3=g3 at *;clear hb;go_wp2_with fail;refine(U _ _ _ _ _ _ _ _ _ _).mono ?_;rintro e w6 ⟨rfl,o,rfl⟩;go_wp2_with fail;refine(EU (u.alloc o) hs (by omega) 59).mono ?_;rintro e w7 ⟨rfl,F,B⟩;go_wp2
   go_end0
   rw[i.out];exact⟨rfl,F,(m.out.alloc o).keep B hn,(((z.trans (H.two q).fr).trans A.fr).alloc o).trans (B.two q).fr⟩
  .have i:Hid (Bo s d x a=y):=V.out.trans (a_ hb);have bb:(An y.1.kind==0)=false:=by simpa using hb
   generalize AB y.1.sg 0=g0 at *;generalize AB y.1.sg 1=g1 at *;generalize AB y.1.sg 2=g2 at *;generalize AB y.1.sg 3=g3 at *;clear hb;go_wp2_with fail;refine(CQ _ _ _ _ _ _ _ _ _ _ _).mono ?_;rintro e w6 ⟨rfl,o,rfl⟩;go_wp2
   go_end0
   rw[i.out];exact⟨rfl,u.alloc o,m.out.alloc o,((z.trans (H.two q).fr).trans A.fr).alloc o⟩
 .rw[a_ K]at D;have aa:y.2.1<=s.size:=by rw[D];exact N9 I
  have X:Hid (_=_):=D;have b0:(k.1.kind==0)=false:=by simpa using K
  clear D K;go_enter func119,ntmps119;go_wp2_with fail;refine hk.mono ?_;rintro e w1 ⟨rfl,E,g,z⟩;obtain⟨c0,c1,c2,c3,c4,c5,M,N,c8,O,P⟩:=g.cells;have T:=JR E g S hs I;rw[<-X.out]at T;have L:Hid (BQ _ _ _):=g;clear g;go_wp2_with fail;refine T.mono ?_;rintro e w4 ⟨rfl,u,G,A⟩;clear c0 c1 c2 c3 c4 c5 M N c8 O P;have j:=G;obtain⟨c0,c1,c2,c3,c4,c5,M,N,c8,O,P⟩:=j.cells;have m:Hid (BQ _ _ _):=j;clear j;by_cases hb:An y.1.kind=0
  .have i:Hid (Bo s d x a=(y.1,nd s y.2 59)):=V.out.trans (bA hb);have U:=λ(t:Int) (an:Bool) (g0 g1 g2 g3 n p b:Int) (w:World)=>CQ y.1.kind t an g0 g1 g2 g3 n p b w;rw[hb]at U;generalize AB y.1.sg 0=g0 at *;generalize AB y.1.sg 1=g1 at *;generalize AB y.1.sg 2=g2 at *;generalize AB y.1.sg 3=g3 at *;clear hb;go_wp2_with fail;refine(U _ _ _ _ _ _ _ _ _ _).mono ?_;rintro e w6 ⟨rfl,o,rfl⟩;go_wp2_with fail;refine(EU (u.alloc o) hs (by omega) 59).mono ?_;rintro e w7 ⟨rfl,F,B⟩;go_wp2
   go_end0
   rw[i.out];exact⟨rfl,F,(m.out.alloc o).keep B hn,((z.trans A.fr).alloc o).trans (B.two q).fr⟩
  .have i:Hid (Bo s d x a=y):=V.out.trans (a_ hb);have bb:(An y.1.kind==0)=false:=by simpa using hb
   generalize AB y.1.sg 0=g0 at *;generalize AB y.1.sg 1=g1 at *;generalize AB y.1.sg 2=g2 at *;generalize AB y.1.sg 3=g3 at *;clear hb;go_wp2_with fail;refine(CQ _ _ _ _ _ _ _ _ _ _ _).mono ?_;rintro e w6 ⟨rfl,o,rfl⟩;go_wp2
   go_end0
   rw[i.out];exact⟨rfl,u.alloc o,m.out.alloc o,(z.trans A.fr).alloc o⟩
variable {B:Nat}{w':World}
abbrev Zt:Type:=(Nat×Bool)×List Ds
def CI(s:ByteArray)(f:Int->Int->Int->Zt->Zt)(p b d:Int)(z:Zt):Zt:=
 (nd s (f p b d (nd s z.1 123,z.2)).1 125,(f p b d (nd s z.1 123,z.2)).2)
def XJ(s:ByteArray)(f:Int->Int->Int->Zt->Zt)(p d:Int)(z:Zt):Nat->Zt
 |0=>z
 |b+1=>CI s f p b d (XJ s f p d z b)
def AC(p b:Int):Ds:=⟨0,0,false,[0,0,0,0],0,p,b⟩
def AU(s:ByteArray)(f:Int->Int->Int->Zt->Zt)(p b d:Int)(z:Zt):Zt:=
 if 20<=z.2.length then(Ez z.1,z.2)
 else if(Bo s z.1 (AC p b) d).2.2=true then((Bo s z.1 (AC p b) d).2,z.2)
 else XJ s f z.2.length (d+1) ((Bo s z.1 (AC p b) d).2,z.2++[(Bo s z.1 (AC p b) d).1]) (An (Bo s z.1 (AC p b) d).1.kind).toNat
def AS(s:ByteArray):Nat->Int->Int->Int->Zt->Zt
 |0,_,_,_,z=>z
 |n+1,p,b,d,z=>if pk s z.1=0\/pk s z.1=125 then z else AS s n p b d (AU s (AS s n) p b d z)
structure QB(s:ByteArray)(z:Zt):Prop where
 at_:z.1.1<=s.size
 len:z.2.length<=20
structure RJ(s:ByteArray)(z z':Zt):Prop where
 ok:QB s z'
 len:z.2.length<=z'.2.length
theorem RJ.refl{z:Zt}(h:QB s z):RJ s z z:=⟨h,bB _⟩
theorem RJ.trans{a b c:Zt}(h:RJ s a b)(k:RJ s b c):RJ s a c:=⟨k.ok,cN h.len k.len⟩
def NG(s:ByteArray)(f:Int->Int->Int->Zt->Zt):Prop:=∀p b d z,QB s z->RJ s z (f p b d z)
theorem NG.block{f:Int->Int->Int->Zt->Zt}(h:NG s f)(p b d:Int){z:Zt}(hz:QB s z):RJ s z (CI s f p b d z):=by
 have h1:=h p b d (nd s z.1 123,z.2) ⟨G9 hz.at_ (by decide),hz.len⟩;exact⟨⟨G9 h1.ok.at_ (by decide),h1.ok.len⟩,h1.len⟩
theorem NG.aft{f:Int->Int->Int->Zt->Zt}(h:NG s f)(p d:Int){z:Zt}(hz:QB s z)(n:Nat):RJ s z (XJ s f p d z n):=by
 induction n with
 |zero=>exact RJ.refl hz
 |succ n ih=>exact ih.trans (h.block p n d ih.ok)
theorem NG.stmt{f:Int->Int->Int->Zt->Zt}(h:NG s f)(p b d:Int){z:Zt}(hz:QB s z):RJ s z (AU s f p b d z):=by
 unfold AU;split
 .exact⟨⟨hz.at_,hz.len⟩,bB _⟩
 split
 .exact⟨⟨Ig hz.at_ d,hz.len⟩,bB _⟩
 .have h1:=h.aft z.2.length (d+1) (z:=((Bo s z.1 (AC p b) d).2,z.2++[(Bo s z.1 (AC p b) d).1])) ⟨Ig hz.at_ d,by simp;omega⟩ (An (Bo s z.1 (AC p b) d).1.kind).toNat;exact⟨h1.ok,by have:=h1.len;simp at this;omega⟩
theorem A_(s:ByteArray)(n:Nat):NG s (AS s n):=by
 induction n with
 |zero=>intro p b d z hz;exact RJ.refl hz
 |succ n ih=>
  intro p b d z hz;unfold AS;split
  .exact RJ.refl hz
  .have h1:=ih.stmt p b d hz;exact h1.trans (ih p b d _ h1.ok)
def Mz(z:Zt):Nat:=if z.1.2 then 0 else 21-z.2.length
theorem P9(f:Int->Int->Int->Zt->Zt)(h:NG s f)(p b d:Int){z:Zt}(hz:QB s z)(hs:z.1.2=false):Mz (AU s f p b d z)<Mz z:=by
 have hl:=hz.len;have h1:Mz z=21-z.2.length:=by unfold Mz;rw[hs];rfl
 rw[h1];unfold AU;split
 .show(if true then 0 else _)<_;simp;omega
 split
 .rename_i h2;show(if(Bo s z.1 (AC p b) d).2.2 then 0 else _)<_;rw[h2];simp;omega
 .have h3:=h.aft z.2.length (d+1) (z:=((Bo s z.1 (AC p b) d).2,z.2++[(Bo s z.1 (AC p b) d).1])) ⟨Ig hz.at_ d,by simp;omega⟩ (An (Bo s z.1 (AC p b) d).1.kind).toNat;have h4:=h3.len;have h5:=h3.ok.len;generalize XJ s f z.2.length (d+1) ((Bo s z.1 (AC p b) d).2,z.2++[(Bo s z.1 (AC p b) d).1]) (An (Bo s z.1 (AC p b) d).1.kind).toNat=y at *;simp at h4;unfold Mz;split<;>omega
def GE(F:List Ds):List Value:=F.flatMap λx=>(AD x).toList
theorem RX(F:List Ds)(x:Ds):GE (F++[x])=GE F++(AD x).toList:=by simp[GE]
structure Cb(B:Nat)(w:World)(r:Nat)(s:ByteArray)(z:Zt)(vf:Value):Prop where
 dat:D9 w r s z.1 vf
 row:w.ownsRow B BB 10 vf z.2.length (GE z.2)
 geR:B<=r
 geW:B<=w.heap.size
structure JE(r:Nat)(vf j:Value)(w w':World):Prop where
 os:w'.os=w.os
 tape:w'.tape=w.tape
 output:w'.output=w.output
 size:w.heap.size<=w'.heap.size
 block:∀k,k<w.heap.size->k≠r->vf.ownBlock≠some k->w'.heap[k]?=w.heap[k]?
 row:j.ownBlock=vf.ownBlock\/∀g,j.ownBlock=some g->w.heap.size<=g
theorem JE.refl(r:Nat)(vf:Value)(w:World):JE r vf vf w w:=⟨rfl,rfl,rfl,bB _,λ_ _ _ _=>rfl,.inl rfl⟩
theorem JE.trans{T U V:Value}{a b c:World}(h:JE r T U a b)(k:JE r U V b c):JE r T V a c where
 os:=k.os.trans h.os
 tape:=k.tape.trans h.tape
 output:=k.output.trans h.output
 size:=cN h.size k.size
 block:=λi I h1 h2=>(k.block i (bM I h.size) h1 (by
  rcases h.row with e|e
  .rw[e];exact h2
  .intro e2;have:=e i e2;omega)).trans (h.block i I h1 h2)
 row:=by
  rcases k.row with e|e
  .rw[e];exact h.row
  .exact .inr λg l=>cN h.size (e g l)
theorem FT.zfr{a b:World}(h:FT r a b)(vf:Value):JE r vf vf a b:=⟨h.os,h.tape,h.output,by have:=h.size;omega,λk _ h1 _=>h.block k h1,.inl rfl⟩
theorem JE.below{j:Value}{z:Zt}(h:JE r vf j w w')(C:Cb B w r s z vf):Below B w w':=⟨h.os,h.tape,h.output,h.size,λk hk=>h.block k (by have:=C.geW;omega) (by have:=C.geR;omega) (λe=>by have:=(C.row.lt k e).1;omega)⟩
def SV(B:Nat)(w:World)(r:Nat)(s:ByteArray)(vf:Value)(z:Zt):Ending->World->Prop:=λe w'=>e=.returned (.tuple #[])/\∃j,Cb B w' r s z j/\JE r vf j w w'
def SP(s:ByteArray)(n:Nat):Prop:=∀(B r:Nat)(vf:Value)(w:World)(z:Zt)(p b d:Int),Cb B w r s z vf->QB s z->0<=d->d<=z.2.length->Mz z<n->
 Calls prog 50 #[.pointer (some ⟨r,0,none⟩),.int .i64 p,.int .i64 b,.int .i64 d] w (SV B w r s vf (AS s n p b d z))
theorem Ie{e:TypeId}{size:Nat}{v:Value}{n:Nat}{xs:List Value}(h:w.ownsRow B e size v n xs)(k:∀g,v.ownBlock=some g->w'.heap[g]?=w.heap[g]?):w'.ownsRow B e size v n xs:=by
 obtain⟨h1,h2⟩:=h;refine⟨h1,?_⟩;rcases h2 with h2|⟨g,cap,c,Z,l,O,r⟩
 .exact .inl h2
 .subst Z;exact .inr ⟨g,cap,c,rfl,l,by rw[k g rfl];exact O,r⟩
theorem C_{e:TypeId}{size:Nat}{v:Value}{n:Nat}{xs:List Value}(h:w.ownsRow B e size v n xs){b:Nat}{c:Array Value}{t:TypeId}(k:At w b c t)(hn:e≠t):v.ownBlock≠some b:=by
 obtain⟨h1,h2⟩:=h;rcases h2 with⟨rfl,_⟩|⟨g,cap,Y,rfl,l,O,r⟩
 .simp[Value.ownBlock]
 .intro S;simp[Value.ownBlock]at S;exact(At.ne (show At w g Y e from O) k hn) S
theorem Cb.tch{z:Zt}(h:Cb B w r s z vf)(t:FT r w w'){R:Nat×Bool}(C:D9 w' r s R vf):Cb B w' r s (R,z.2) vf where
 dat:=C
 row:=Ie h.row λg l=>t.block g (λe=>C_ h.row h.dat (by decide) (by rw[l,e]))
 geR:=h.geR
 geW:=by rw[t.size];exact h.geW
theorem Nd{n:Nat}(H:SP s n)(hs:s.size<=160){z:Zt}(h:Cb B w r s z vf)(hz:QB s z)(p b d:Int)(I:0<=d)(h1:d<=z.2.length)(hm:Mz z<n):
  Calls prog 120 #[.pointer (some ⟨r,0,none⟩),.int .i64 p,.int .i64 b,.int .i64 d] w (SV B w r s vf (CI s (AS s n) p b d z)):=by
 have N:=hz.at_;have P:Mz (nd s z.1 123,z.2)<n:=by
  have:Mz (nd s z.1 123,z.2)<=Mz z:=by
   unfold Mz nd;split<;>split<;>simp_all
  omega
 have D:QB s (nd s z.1 123,z.2):=⟨G9 N (by decide),hz.len⟩
 have E:=A_ s n p b d _ D;obtain⟨y,J⟩:∃y,y=AS s n p b d (nd s z.1 123,z.2):=⟨_,rfl⟩
 have W:Hid (CI s (AS s n) p b d z=(nd s y.1 125,y.2)):=by show CI _ _ _ _ _ _=_;rw[J];rfl
 rw[<-J]at E;have aa:=E.ok.at_;have X:Hid (_=_):=J;have Q:Hid (Cb _ _ _ _ _ _):=h;clear J h;go_enter func120,ntmps120;go_wp2_with fail;refine(EU Q.out.dat hs (by omega) 123).mono ?_;rintro e w1 ⟨rfl,K,u⟩;have k2:=H B r vf w1 (nd s z.1 123,z.2) p b d (Q.out.tch u K) D I h1 P;rw[<-X.out]at k2;go_wp2_with fail;refine k2.mono ?_;rintro e w2 ⟨rfl,G,o,M⟩;have m:Hid (Cb _ _ _ _ _ _):=o;clear o;go_wp2_with fail;refine(EU m.out.dat hs (by omega) 125).mono ?_;rintro e w3 ⟨rfl,L,A⟩;go_wp2
 go_end0
 rw[W.out];exact⟨rfl,G,m.out.tch A L,((u.zfr vf).trans M).trans (A.zfr G)⟩
end Go.Proofs.YtffajooegiempaaGreatDoor
