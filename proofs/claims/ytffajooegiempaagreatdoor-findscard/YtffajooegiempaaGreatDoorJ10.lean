import Derived.Test.YtffajooegiempaaGreatDoorJ9
import Derived.Deep.RegionLaw
import Derived.Laws.Rows
import Derived.Laws.Tables
set_option maxRecDepth 100000
set_option maxHeartbeats 6400000
namespace Go.Proofs.YtffajooegiempaaGreatDoor
open Go.RowKit
variable {w:World}{r q:Nat}{s:ByteArray}{d:Nat×Bool}{vf:Value}{x:Ds}
def Bo(s:ByteArray)(d:Nat×Bool)(x:Ds)(dp:Int):Ds×(Nat×Bool):=
 let k:=BD s d x dp
 let v:=if k.1.kind=0 then Ao s (nd s k.2 61) k.1 else BR s k.2 k.1
 if An v.1.kind=0 then(v.1,nd s v.2 59)else v
theorem N_(hd:d.1<=s.size)(dp:Int):(BD s d x dp).2.1<=s.size:=by
 unfold BD;split
 ·rename_i h;have:=(DA h (by decide)).1;show d.1+1<=_;omega
 split
 ·rename_i h;have:=(DA h (by decide)).1;show(if 4<=dp then Ez d else BA d).1<=_;split
  ·exact hd
  ·show d.1+1<=_;omega
 split
 ·rename_i h;have:=(DA h (by decide)).1;show(if 4<=dp then Ez d else BA d).1<=_;split
  ·exact hd
  ·show d.1+1<=_;omega
 ·exact F0 hd (-1)
theorem OA(dp:Int):(BD s d x dp).1.sg=x.sg:=by
 unfold BD;split
 ·rfl
 split
 ·rfl
 split
 ·rfl
 ·rfl
theorem Lp(hd:d.1<=s.size):(Ao s d x).2.1<=s.size:=by
 unfold Ao;split
 ·rename_i h;have:=(DA h (by decide)).1;show d.1+1<=_;omega
 split
 ·exact Jl (Eu hd) _
 ·exact OD (F0 (Eu hd) (-1))
theorem N9(hd:d.1<=s.size):(BR s d x).2.1<=s.size:=by
 unfold BR;split
 ·rename_i h;have:=(DA h (by decide)).1;show d.1+1<=_;omega
 ·exact Jl (Eu (G9 (G9 (KS (F0 (Eu hd) (-1)) _) (by decide)) (by decide))) _
theorem PX(hl:x.sg.length=4):(Ao s d x).1.sg.length=4:=by
 unfold Ao;split
 ·exact hl
 split
 ·exact hl
 ·show(x.sg.set _ _).length=4;rw[List.length_set];exact hl
theorem Rq(hl:x.sg.length=4):(BR s d x).1.sg.length=4:=by
 unfold BR;split
 ·exact hl
 ·exact OC (by show(x.sg.set _ _).length=4;rw[List.length_set];exact hl) _
theorem Ig(hd:d.1<=s.size)(dp:Int):(Bo s d x dp).2.1<=s.size:=by
 unfold Bo;have hk:=N_ (x:=x) hd dp;have hv:(if(BD s d x dp).1.kind=0 then Ao s (nd s (BD s d x dp).2 61) (BD s d x dp).1 else BR s (BD s d x dp).2 (BD s d x dp).1).2.1<=s.size:=by
  split
  ·exact Lp (G9 hk (by decide))
  ·exact N9 hk
 simp only;generalize(if(BD s d x dp).1.kind=0 then Ao s (nd s (BD s d x dp).2 61) (BD s d x dp).1 else BR s (BD s d x dp).2 (BD s d x dp).1)=y at hv|-;split
 ·exact G9 (c:=59) hv (by decide)
 ·exact hv
theorem Rr(hl:x.sg.length=4)(dp:Int):(Bo s d x dp).1.sg.length=4:=by
 unfold Bo;have hk:(BD s d x dp).1.sg.length=4:=by rw[OA];exact hl
 have hv:(if(BD s d x dp).1.kind=0 then Ao s (nd s (BD s d x dp).2 61) (BD s d x dp).1 else BR s (BD s d x dp).2 (BD s d x dp).1).1.sg.length=4:=by
  split
  ·exact PX hk
  ·exact Rq hk
 simp only;generalize(if(BD s d x dp).1.kind=0 then Ao s (nd s (BD s d x dp).2 61) (BD s d x dp).1 else BR s (BD s d x dp).2 (BD s d x dp).1)=y at hv|-;split
 ·exact hv
 ·exact hv
theorem Ou(h:D9 w r s d vf)(hq:BQ w q x)(hl:x.sg.length=4)(hs:s.size<=160)(hd:d.1<=s.size)(dp:Int):
  Calls Tryz.prog 119 #[.pointer (some ⟨r,0,none⟩),.pointer (some ⟨q,0,none⟩),.int .i64 dp] w (Wj w r q s vf (Bo s d x dp)):=by
 have hk:=Ov h hq hs hd dp;have hn:=hq.ne h;obtain⟨k,hK⟩:∃k,k=BD s d x dp:=⟨_,rfl⟩
 obtain⟨y,hY⟩:∃y,y=if k.1.kind=0 then Ao s (nd s k.2 61) k.1 else BR s k.2 k.1:=⟨_,rfl⟩
 have HT:Hid (Bo s d x dp=if An y.1.kind=0 then(y.1,nd s y.2 59)else y):=by show Bo s d x dp=_;unfold Bo;rw[hY,hK]
 have hkl:k.2.1<=s.size:=by rw[hK];exact N_ hd dp
 have hks:k.1.sg.length=4:=by rw[hK,OA];exact hl
 have h61:(nd s k.2 61).1<=s.size:=G9 hkl (by decide);rw[<-hK]at hk;clear h hq hK;by_cases h0:k.1.kind=0
 ·rw[if_pos h0]at hY;have hyl:y.2.1<=s.size:=by rw[hY];exact Lp h61
  have HY:Hid (_=_):=hY;have HK0:Hid (_=_):=h0;clear hY h0;go_enter Tryz.func119,Tryz.ntmps119;go_wp2_with fail;refine hk.mono ?_;rintro e w1 ⟨rfl,hD1,hQ1,hF1⟩;obtain⟨c0,c1,c2,c3,c4,c5,c6,c7,c8,c9,cf⟩:=hQ1.cells;rw[HK0.out]at c0;have HQ1:Hid (BQ _ _ _):=hQ1;clear hQ1;go_wp2_with fail;refine(EU hD1 hs (by omega) 61).mono ?_;rintro e w2 ⟨rfl,hD2,hT2⟩;have k3:=Nf hD2 (HQ1.out.keep hT2 hn) hks hs h61;rw[<-HY.out]at k3;go_wp2_with fail;refine k3.mono ?_;rintro e w4 ⟨rfl,hD4,hQ4,hT4⟩;clear c0 c1 c2 c3 c4 c5 c6 c7 c8 c9 cf;have hq4:=hQ4;obtain⟨c0,c1,c2,c3,c4,c5,c6,c7,c8,c9,cf⟩:=hq4.cells;have HQ4:Hid (BQ _ _ _):=hq4;clear hq4;by_cases hb:An y.1.kind=0
  ·have HT2:Hid (Bo s d x dp=(y.1,nd s y.2 59)):=HT.out.trans (if_pos hb);have kb:=λ(t:Int) (an:Bool) (g0 g1 g2 g3 n p b:Int) (w:World)=>CQ y.1.kind t an g0 g1 g2 g3 n p b w;rw[hb]at kb;generalize AB y.1.sg 0=g0 at *;generalize AB y.1.sg 1=g1 at *;generalize AB y.1.sg 2=g2 at *;generalize AB y.1.sg 3=g3 at *;clear hb;go_wp2_with fail;refine(kb _ _ _ _ _ _ _ _ _ _).mono ?_;rintro e w6 ⟨rfl,o,rfl⟩;go_wp2_with fail;refine(EU (hD4.alloc o) hs (by omega) 59).mono ?_;rintro e w7 ⟨rfl,hD7,hT7⟩;go_wp2
   go_end0
   rw[HT2.out];exact⟨rfl,hD7,(HQ4.out.alloc o).keep hT7 hn,(((hF1.trans (hT2.two q).fr).trans hT4.fr).alloc o).trans (hT7.two q).fr⟩
  ·have HT2:Hid (Bo s d x dp=y):=HT.out.trans (if_neg hb);have bb:(An y.1.kind==0)=false:=by simpa using hb
   generalize AB y.1.sg 0=g0 at *;generalize AB y.1.sg 1=g1 at *;generalize AB y.1.sg 2=g2 at *;generalize AB y.1.sg 3=g3 at *;clear hb;go_wp2_with fail;refine(CQ _ _ _ _ _ _ _ _ _ _ _).mono ?_;rintro e w6 ⟨rfl,o,rfl⟩;go_wp2
   go_end0
   rw[HT2.out];exact⟨rfl,hD4.alloc o,HQ4.out.alloc o,((hF1.trans (hT2.two q).fr).trans hT4.fr).alloc o⟩
 ·rw[if_neg h0]at hY;have hyl:y.2.1<=s.size:=by rw[hY];exact N9 hkl
  have HY:Hid (_=_):=hY;have b0:(k.1.kind==0)=false:=by simpa using h0
  clear hY h0;go_enter Tryz.func119,Tryz.ntmps119;go_wp2_with fail;refine hk.mono ?_;rintro e w1 ⟨rfl,hD1,hQ1,hF1⟩;obtain⟨c0,c1,c2,c3,c4,c5,c6,c7,c8,c9,cf⟩:=hQ1.cells;have k3:=JR hD1 hQ1 hks hs hkl;rw[<-HY.out]at k3;have HQ1:Hid (BQ _ _ _):=hQ1;clear hQ1;go_wp2_with fail;refine k3.mono ?_;rintro e w4 ⟨rfl,hD4,hQ4,hT4⟩;clear c0 c1 c2 c3 c4 c5 c6 c7 c8 c9 cf;have hq4:=hQ4;obtain⟨c0,c1,c2,c3,c4,c5,c6,c7,c8,c9,cf⟩:=hq4.cells;have HQ4:Hid (BQ _ _ _):=hq4;clear hq4;by_cases hb:An y.1.kind=0
  ·have HT2:Hid (Bo s d x dp=(y.1,nd s y.2 59)):=HT.out.trans (if_pos hb);have kb:=λ(t:Int) (an:Bool) (g0 g1 g2 g3 n p b:Int) (w:World)=>CQ y.1.kind t an g0 g1 g2 g3 n p b w;rw[hb]at kb;generalize AB y.1.sg 0=g0 at *;generalize AB y.1.sg 1=g1 at *;generalize AB y.1.sg 2=g2 at *;generalize AB y.1.sg 3=g3 at *;clear hb;go_wp2_with fail;refine(kb _ _ _ _ _ _ _ _ _ _).mono ?_;rintro e w6 ⟨rfl,o,rfl⟩;go_wp2_with fail;refine(EU (hD4.alloc o) hs (by omega) 59).mono ?_;rintro e w7 ⟨rfl,hD7,hT7⟩;go_wp2
   go_end0
   rw[HT2.out];exact⟨rfl,hD7,(HQ4.out.alloc o).keep hT7 hn,((hF1.trans hT4.fr).alloc o).trans (hT7.two q).fr⟩
  ·have HT2:Hid (Bo s d x dp=y):=HT.out.trans (if_neg hb);have bb:(An y.1.kind==0)=false:=by simpa using hb
   generalize AB y.1.sg 0=g0 at *;generalize AB y.1.sg 1=g1 at *;generalize AB y.1.sg 2=g2 at *;generalize AB y.1.sg 3=g3 at *;clear hb;go_wp2_with fail;refine(CQ _ _ _ _ _ _ _ _ _ _ _).mono ?_;rintro e w6 ⟨rfl,o,rfl⟩;go_wp2
   go_end0
   rw[HT2.out];exact⟨rfl,hD4.alloc o,HQ4.out.alloc o,(hF1.trans hT4.fr).alloc o⟩
end Go.Proofs.YtffajooegiempaaGreatDoor
namespace Go.Proofs.YtffajooegiempaaGreatDoor
open Go.RowKit
variable {B:Nat}{w w':World}{r q:Nat}{s:ByteArray}{vf:Value}
abbrev Zt:Type:=(Nat×Bool)×List Ds
def CI(s:ByteArray)(f:Int->Int->Int->Zt->Zt)(p b dp:Int)(z:Zt):Zt:=
 (nd s (f p b dp (nd s z.1 123,z.2)).1 125,(f p b dp (nd s z.1 123,z.2)).2)
def XJ(s:ByteArray)(f:Int->Int->Int->Zt->Zt)(p dp:Int)(z:Zt):Nat->Zt
 |0=>z
 |b+1=>CI s f p b dp (XJ s f p dp z b)
def AC(p b:Int):Ds:=⟨0,0,false,[0,0,0,0],0,p,b⟩
def AU(s:ByteArray)(f:Int->Int->Int->Zt->Zt)(p b dp:Int)(z:Zt):Zt:=
 if 20<=z.2.length then(Ez z.1,z.2)
 else if(Bo s z.1 (AC p b) dp).2.2=true then((Bo s z.1 (AC p b) dp).2,z.2)
 else XJ s f z.2.length (dp+1) ((Bo s z.1 (AC p b) dp).2,z.2++[(Bo s z.1 (AC p b) dp).1]) (An (Bo s z.1 (AC p b) dp).1.kind).toNat
def AS(s:ByteArray):Nat->Int->Int->Int->Zt->Zt
 |0,_,_,_,z=>z
 |n+1,p,b,dp,z=>if pk s z.1=0\/pk s z.1=125 then z else AS s n p b dp (AU s (AS s n) p b dp z)
structure QB(s:ByteArray)(z:Zt):Prop where
 at_:z.1.1<=s.size
 len:z.2.length<=20
structure RJ(s:ByteArray)(z z':Zt):Prop where
 ok:QB s z'
 len:z.2.length<=z'.2.length
theorem RJ.refl{z:Zt}(h:QB s z):RJ s z z:=⟨h,Nat.le_refl _⟩
theorem RJ.trans{a b c:Zt}(h:RJ s a b)(k:RJ s b c):RJ s a c:=⟨k.ok,Nat.le_trans h.len k.len⟩
def NG(s:ByteArray)(f:Int->Int->Int->Zt->Zt):Prop:=∀p b dp z,QB s z->RJ s z (f p b dp z)
theorem NG.block{f:Int->Int->Int->Zt->Zt}(h:NG s f)(p b dp:Int){z:Zt}(hz:QB s z):RJ s z (CI s f p b dp z):=by
 have h1:=h p b dp (nd s z.1 123,z.2) ⟨G9 hz.at_ (by decide),hz.len⟩;exact⟨⟨G9 h1.ok.at_ (by decide),h1.ok.len⟩,h1.len⟩
theorem NG.aft{f:Int->Int->Int->Zt->Zt}(h:NG s f)(p dp:Int){z:Zt}(hz:QB s z)(n:Nat):RJ s z (XJ s f p dp z n):=by
 induction n with
 |zero=>exact RJ.refl hz
 |succ n ih=>exact ih.trans (h.block p n dp ih.ok)
theorem NG.stmt{f:Int->Int->Int->Zt->Zt}(h:NG s f)(p b dp:Int){z:Zt}(hz:QB s z):RJ s z (AU s f p b dp z):=by
 unfold AU;split
 ·exact⟨⟨hz.at_,hz.len⟩,Nat.le_refl _⟩
 split
 ·exact⟨⟨Ig hz.at_ dp,hz.len⟩,Nat.le_refl _⟩
 ·have h1:=h.aft z.2.length (dp+1) (z:=((Bo s z.1 (AC p b) dp).2,z.2++[(Bo s z.1 (AC p b) dp).1])) ⟨Ig hz.at_ dp,by simp;omega⟩ (An (Bo s z.1 (AC p b) dp).1.kind).toNat;exact⟨h1.ok,by have:=h1.len;simp at this;omega⟩
theorem A_(s:ByteArray)(n:Nat):NG s (AS s n):=by
 induction n with
 |zero=>intro p b dp z hz;exact RJ.refl hz
 |succ n ih=>
  intro p b dp z hz;unfold AS;split
  ·exact RJ.refl hz
  ·have h1:=ih.stmt p b dp hz;exact h1.trans (ih p b dp _ h1.ok)
def Mz(z:Zt):Nat:=if z.1.2 then 0 else 21-z.2.length
theorem P9(f:Int->Int->Int->Zt->Zt)(h:NG s f)(p b dp:Int){z:Zt}(hz:QB s z)(hs:z.1.2=false):Mz (AU s f p b dp z)<Mz z:=by
 have hl:=hz.len;have h1:Mz z=21-z.2.length:=by unfold Mz;rw[hs];rfl
 rw[h1];unfold AU;split
 ·show(if true then 0 else _)<_;simp;omega
 split
 ·rename_i h2;show(if(Bo s z.1 (AC p b) dp).2.2 then 0 else _)<_;rw[h2];simp;omega
 ·have h3:=h.aft z.2.length (dp+1) (z:=((Bo s z.1 (AC p b) dp).2,z.2++[(Bo s z.1 (AC p b) dp).1])) ⟨Ig hz.at_ dp,by simp;omega⟩ (An (Bo s z.1 (AC p b) dp).1.kind).toNat;have h4:=h3.len;have h5:=h3.ok.len;generalize XJ s f z.2.length (dp+1) ((Bo s z.1 (AC p b) dp).2,z.2++[(Bo s z.1 (AC p b) dp).1]) (An (Bo s z.1 (AC p b) dp).1.kind).toNat=y at *;simp at h4;unfold Mz;split<;>omega
def GE(F:List Ds):List Value:=F.flatMap λx=>(AD x).toList
theorem RX(F:List Ds)(x:Ds):GE (F++[x])=GE F++(AD x).toList:=by simp[GE]
structure Cb(B:Nat)(w:World)(r:Nat)(s:ByteArray)(z:Zt)(vf:Value):Prop where
 dat:D9 w r s z.1 vf
 row:w.ownsRow B BB 10 vf z.2.length (GE z.2)
 geR:B<=r
 geW:B<=w.heap.size
structure JE(r:Nat)(vf vf':Value)(w w':World):Prop where
 os:w'.os=w.os
 tape:w'.tape=w.tape
 output:w'.output=w.output
 size:w.heap.size<=w'.heap.size
 block:∀k,k<w.heap.size->k≠r->vf.ownBlock≠some k->w'.heap[k]?=w.heap[k]?
 row:vf'.ownBlock=vf.ownBlock\/∀g,vf'.ownBlock=some g->w.heap.size<=g
theorem JE.refl(r:Nat)(vf:Value)(w:World):JE r vf vf w w:=⟨rfl,rfl,rfl,Nat.le_refl _,λ_ _ _ _=>rfl,.inl rfl⟩
theorem JE.trans{v1 v2 v3:Value}{a b c:World}(h:JE r v1 v2 a b)(k:JE r v2 v3 b c):JE r v1 v3 a c where
 os:=k.os.trans h.os
 tape:=k.tape.trans h.tape
 output:=k.output.trans h.output
 size:=Nat.le_trans h.size k.size
 block:=λi h0 h1 h2=>(k.block i (Nat.lt_of_lt_of_le h0 h.size) h1 (by
  rcases h.row with e|e
  ·rw[e];exact h2
  ·intro e2;have:=e i e2;omega)).trans (h.block i h0 h1 h2)
 row:=by
  rcases k.row with e|e
  ·rw[e];exact h.row
  ·exact .inr λg hg=>Nat.le_trans h.size (e g hg)
theorem FT.zfr{a b:World}(h:FT r a b)(vf:Value):JE r vf vf a b:=⟨h.os,h.tape,h.output,by have:=h.size;omega,λk _ h1 _=>h.block k h1,.inl rfl⟩
theorem JE.below{vf':Value}{z:Zt}(h:JE r vf vf' w w')(hd:Cb B w r s z vf):Below B w w':=⟨h.os,h.tape,h.output,h.size,λk hk=>h.block k (by have:=hd.geW;omega) (by have:=hd.geR;omega) (λe=>by have:=(hd.row.lt k e).1;omega)⟩
def SV(B:Nat)(w:World)(r:Nat)(s:ByteArray)(vf:Value)(z:Zt):Ending->World->Prop:=λe w'=>e=.returned (.tuple #[])/\∃vf',Cb B w' r s z vf'/\JE r vf vf' w w'
def SP(s:ByteArray)(n:Nat):Prop:=∀(B r:Nat)(vf:Value)(w:World)(z:Zt)(p b dp:Int),Cb B w r s z vf->QB s z->0<=dp->dp<=z.2.length->Mz z<n->
 Calls Tryz.prog 50 #[.pointer (some ⟨r,0,none⟩),.int .i64 p,.int .i64 b,.int .i64 dp] w (SV B w r s vf (AS s n p b dp z))
theorem Ie{e:TypeId}{size:Nat}{v:Value}{n:Nat}{xs:List Value}(h:w.ownsRow B e size v n xs)(k:∀g,v.ownBlock=some g->w'.heap[g]?=w.heap[g]?):w'.ownsRow B e size v n xs:=by
 obtain⟨h1,h2⟩:=h;refine⟨h1,?_⟩;rcases h2 with h2|⟨g,cap,c,hv,hg,hh,r⟩
 ·exact .inl h2
 ·subst hv;exact .inr ⟨g,cap,c,rfl,hg,by rw[k g rfl];exact hh,r⟩
theorem C_{e:TypeId}{size:Nat}{v:Value}{n:Nat}{xs:List Value}(h:w.ownsRow B e size v n xs){b:Nat}{c:Array Value}{t:TypeId}(k:At w b c t)(hn:e≠t):v.ownBlock≠some b:=by
 obtain⟨h1,h2⟩:=h;rcases h2 with⟨rfl,_⟩|⟨g,cap,c',rfl,hg,hh,r⟩
 ·simp[Value.ownBlock]
 ·intro e';simp[Value.ownBlock]at e';exact(At.ne (show At w g c' e from hh) k hn) e'
theorem Cb.tch{z:Zt}(h:Cb B w r s z vf)(t:FT r w w'){d':Nat×Bool}(hd:D9 w' r s d' vf):Cb B w' r s (d',z.2) vf where
 dat:=hd
 row:=Ie h.row λg hg=>t.block g (λe=>C_ h.row h.dat (by decide) (by rw[hg,e]))
 geR:=h.geR
 geW:=by rw[t.size];exact h.geW
theorem Nd{n:Nat}(H:SP s n)(hs:s.size<=160){z:Zt}(h:Cb B w r s z vf)(hz:QB s z)(p b dp:Int)(h0:0<=dp)(h1:dp<=z.2.length)(hm:Mz z<n):
  Calls Tryz.prog 120 #[.pointer (some ⟨r,0,none⟩),.int .i64 p,.int .i64 b,.int .i64 dp] w (SV B w r s vf (CI s (AS s n) p b dp z)):=by
 have hat:=hz.at_;have hm2:Mz (nd s z.1 123,z.2)<n:=by
  have:Mz (nd s z.1 123,z.2)<=Mz z:=by
   unfold Mz nd;split<;>split<;>simp_all
  omega
 have hz2:QB s (nd s z.1 123,z.2):=⟨G9 hat (by decide),hz.len⟩
 have hz3:=A_ s n p b dp _ hz2;obtain⟨y,hY⟩:∃y,y=AS s n p b dp (nd s z.1 123,z.2):=⟨_,rfl⟩
 have HT:Hid (CI s (AS s n) p b dp z=(nd s y.1 125,y.2)):=by show CI _ _ _ _ _ _=_;rw[hY];rfl
 rw[<-hY]at hz3;have hyat:=hz3.ok.at_;have HY:Hid (_=_):=hY;have HD:Hid (Cb _ _ _ _ _ _):=h;clear hY h;go_enter Tryz.func120,Tryz.ntmps120;go_wp2_with fail;refine(EU HD.out.dat hs (by omega) 123).mono ?_;rintro e w1 ⟨rfl,hD1,hT1⟩;have k2:=H B r vf w1 (nd s z.1 123,z.2) p b dp (HD.out.tch hT1 hD1) hz2 h0 h1 hm2;rw[<-HY.out]at k2;go_wp2_with fail;refine k2.mono ?_;rintro e w2 ⟨rfl,vf2,hD2,hZ2⟩;have HD2:Hid (Cb _ _ _ _ _ _):=hD2;clear hD2;go_wp2_with fail;refine(EU HD2.out.dat hs (by omega) 125).mono ?_;rintro e w3 ⟨rfl,hD3,hT3⟩;go_wp2
 go_end0
 rw[HT.out];exact⟨rfl,vf2,HD2.out.tch hT3 hD3,((hT1.zfr vf).trans hZ2).trans (hT3.zfr vf2)⟩
theorem Tryz.infoDs:(Tryz.prog.info? BB).map (λi=>(i.zero,i.size,i.bytes))=some (some (.agg #[.int .i64 0,.int .i64 0,.bool false,.int .i64 0,.int .i64 0,.int .i64 0,.int .i64 0,.int .i64 0,.int .i64 0,.int .i64 0]),10,80):=by kernel_rfl
theorem Cb.vlen{z:Zt}(h:Cb B w r s z vf):∃ao cap,vf=.slice ao z.2.length cap:=by
 obtain⟨_,h2⟩:=h.row;rcases h2 with⟨rfl,e⟩|⟨g,cap,c,rfl,_⟩
 ·exact⟨none,0,by rw[e]⟩
 ·exact⟨_,cap,rfl⟩
theorem JB{P:Program}{ops:Array Oper}{o:Oper}{a:Act}{w:World}{K:Act->World->Prop}{Q:Exit->Act->World->Prop}{E:Prop}
  (hg:o.guard=none) (s x:Operand) (t:TypeId) (hop:o.op=Op.call {callee:=Callee.builtin Builtin.append,args:=#[s,x],argTypes:=#[t,t]})
  (base:Nat) (e:TypeId) (i:TypeInfo) (z:Value) (size bytes:Nat) (h1:P.underlying t=some (.slice e)) (h2:P.info? e=some i) (h3:i.zero=some z) (h4:i.size=size) (h5:i.bytes=bytes) (h6:z.cells.size=size) (h7:0<size)
  (v:Value) (n:Nat) (xs:List Value) (hs:a.eval s=v) (hown:w.ownsRow base e size v n xs)
  (ad:Addr) (m c:Nat) (news:List Value) (hx:a.eval x=.slice (some ad) m c) (hn:news.length=m*size) (hc:∀j u,news[j]?=some u->w.cell? (ad.add j)=some u) (h1c:∀u∈news,u.oneCell'=true)
  (b1:n+m<=maxLen) (b2:(n+m)*bytes<=140737488355328) (hbase:base<=w.heap.size)
  (hK:∀v' w',w'.ownsRow base e size v' (n+m) (xs++news)->w.grownBy w' v.ownBlock->(v'.ownBlock=v.ownBlock\/∀g,v'.ownBlock=some g->w.heap.size<=g)->K (a.put o.dst v') w'):
  if Region.wanted o (yielded ops a.tmps)=true then Oper.wp P o a w K Q else E:=by
 have hw:Region.wanted o (yielded ops a.tmps)=true:=by simp[Region.wanted,hg]
 rw[if_pos hw];obtain⟨v',w',hr,r2,r3,r4⟩:=GB (P:=P) w base t o.type e i z size bytes h1 h2 h3 h4 h5 h6 h7 v n xs hown ad m c news hn hc h1c b1 b2 hbase;unfold Oper.wp execOp;simp only[hop,resolve,invoke,builtin,Sem.run_bind,Sem.run_pure,Result.andThen_ok,List.map_toArray,List.map_cons,List.map_nil,hs,hx,hr];exact hK v' w' r2 r3 r4
theorem Cb.fr{z:Zt}{o:Obj}(h:Cb B w r s z vf)(f:P8 r w.heap.size (w.alloc o) w'){d':Nat×Bool}(hd:D9 w' r s d' vf):Cb B w' r s (d',z.2) vf/\JE r vf vf w w':=by
 have same:∀k,k<w.heap.size->k≠r->w'.heap[k]?=w.heap[k]?:=λk hk hr=>(f.block k (by simp;omega) hr (by omega)).trans (Below.heap_alloc _ _ _ hk);have hsz:w.heap.size<=w'.heap.size:=by have:=f.size;simp at this;omega
 exact⟨⟨hd,Ie h.row λg hg=>same g (h.row.lt g hg).2 (λe=>C_ h.row h.dat (by decide) (by rw[hg,e])),h.geR,by have:=h.geW;omega⟩,
  ⟨f.os,f.tape,f.output,hsz,λk hk hr _=>same k hk hr,.inl rfl⟩⟩
def Ho(w:World)(x:Ds):World:=(w.alloc (.cells (AD x) BB)).drew
theorem KJ(x:Ds)(k:Nat)(hk:k<w.heap.size):(Ho w x).heap[k]?=w.heap[k]?:=by
 show(w.heap.push _)[k]?=_;rw[Array.getElem?_push,if_neg (by omega)]
theorem EP(x:Ds):(Ho w x).heap.size=w.heap.size+1:=by show(w.heap.push _).size=_;simp
theorem PA(x:Ds):∀(j:Nat)(u:Value),(AD x).toList[j]?=some u->(Ho w x).cell? ((⟨w.heap.size,0,none⟩:Addr).add j)=some u:=by
 intro j u hj;have ha:At (Ho w x) w.heap.size (AD x) BB:=by
  show(w.heap.push _)[w.heap.size]?=_;rw[Array.getElem?_push,if_pos rfl]
 have e:(⟨w.heap.size,0,none⟩:Addr).add j=⟨w.heap.size,j,none⟩:=by cases j<;>simp[Addr.add]
 rw[e,ha.cell j];simpa using hj
theorem Cb.push{z:Zt}(h:Cb B w r s z vf)(x:Ds){w3:World}{v':Value}(hg:(Ho w x).grownBy w3 vf.ownBlock)
  (hown:w3.ownsRow B BB 10 v' (z.2.length+1) (GE z.2++(AD x).toList)) (hr:v'.ownBlock=vf.ownBlock\/∀g,v'.ownBlock=some g->(Ho w x).heap.size<=g):
  Cb B (w3.setCell ⟨r,3,none⟩ v') r s (z.1,z.2++[x]) v'/\JE r vf v' w (w3.setCell ⟨r,3,none⟩ v'):=by
 have hlr:r<w.heap.size:=At.lt h.dat;have nr:=C_ h.row h.dat (by decide);have same:∀k,k<w.heap.size->vf.ownBlock≠some k->w3.heap[k]?=w.heap[k]?:=λk hk hn=>(hg.block k (by rw[EP];omega) (λe=>hn e.symm)).trans (KJ x k hk);have hd3:D9 w3 r s z.1 vf:=At.same h.dat (same r hlr nr);have hsz:w.heap.size<=w3.heap.size:=by have:=hg.size;rw[EP]at this;omega
 have nr':v'.ownBlock≠some r:=by
  rcases hr with e|e
  ·rw[e];exact nr
  ·intro e2;have:=e r e2;rw[EP]at this;omega
 refine⟨⟨At.put hd3 3 v',?_,h.geR,by have:=h.geW;simp[World.setCell];omega⟩,⟨hg.os,hg.tape,hg.output,by simp[World.setCell];omega,λk hk h1 h2=>?_,?_⟩⟩
 ·show(w3.setCell ⟨r,3,none⟩ v').ownsRow B BB 10 v' (z.2++[x]).length (GE (z.2++[x]));rw[RX,List.length_append,List.length_singleton];exact ownsRow_setCell_other hown nr' _
 ·rw[Below.heap_setCell _ _ _ _ h1];exact same k hk h2
 ·rcases hr with e|e
  ·exact .inl e
  ·exact .inr λg hg=>by have:=e g hg;rw[EP]at this;omega
theorem Jx(k:Int):0<=An k/\An k<=2:=by
 unfold An;split
 ·omega
 split
 ·omega
 ·omega
theorem BQ.zkeep{x:Ds}{v v':Value}(h:BQ w q x)(z:JE r v v' w w')(hl:q<w.heap.size)(hr:q≠r)(hv:v.ownBlock≠some q):BQ w' q x:=At.same h (z.block q hl hr hv)
theorem Z3{v v':Value}(z:JE r v v' w w')(hv:v.ownBlock≠some q)(hq:q<w.heap.size):v'.ownBlock≠some q:=by
 rcases z.row with e|e
 ·rw[e];exact hv
 ·intro e2;have:=e q e2;omega
theorem JE.alloc{v v':Value}(h:JE r v v' w w')(o:Obj):JE r v v' w (w'.alloc o):=
 h.trans ⟨rfl,rfl,rfl,by simp,λk hk _ _=>Below.heap_alloc _ _ _ hk,.inl rfl⟩
theorem Cb.alloc{z:Zt}(h:Cb B w r s z vf)(o:Obj):Cb B (w.alloc o) r s z vf:=⟨h.dat.alloc o,h.row.alloc o,h.geR,by have:=h.geW;simp;omega⟩
theorem Rp{z:Zt}(h:Cb B w r s z vf){x:Ds}{w3:World}(hg:(Ho w x).grownBy w3 vf.ownBlock):w3.heap[r]?=w.heap[r]?:=
 (hg.block r (by rw[EP];have:=At.lt h.dat;omega) (λe=>C_ h.row h.dat (by decide) e.symm)).trans (KJ x r (At.lt h.dat))
theorem Mb{e:TypeId}{size:Nat}{v:Value}{n:Nat}{xs:List Value}(h:w.ownsRow B e size v (n+1) xs):∃g cap,v=.slice (some ⟨g,0,none⟩) (n+1) cap:=by
 obtain⟨_,h2⟩:=h;rcases h2 with⟨_,e⟩|⟨g,cap,c,rfl,_⟩
 ·omega
 ·exact⟨g,cap,rfl⟩
theorem JS{n:Nat}(H:SP s n)(hs:s.size<=160){z:Zt}(h:Cb B w r s z vf)(hz:QB s z)(hst:z.1.2=false)(p b dp:Int)(h0:0<=dp)(h1:dp<=z.2.length)(hm:Mz z<=n):
  Calls Tryz.prog 85 #[.pointer (some ⟨r,0,none⟩),.int .i64 p,.int .i64 b,.int .i64 dp] w (SV B w r s vf (AU s (AS s n) p b dp z)):=by
 obtain⟨ao,cap,hvf⟩:=h.vlen;obtain⟨r0,r1,r2,r3,rf⟩:=h.dat.cells;have hlr:r<w.heap.size:=At.lt h.dat;have hlen:=hz.len;have hat:=hz.at_;have HD:Hid (Cb _ _ _ _ _ _):=h;clear h;by_cases h20:20<=z.2.length
 ·have HT:Hid (AU s (AS s n) p b dp z=(Ez z.1,z.2)):=if_pos h20;have e20:z.2.length=20:=by omega
  rw[hvf,e20]at r3;clear hvf e20 h20;go_enter Tryz.func85,Tryz.ntmps85;go_wp2_with fail
  go_end0
  rw[HT.out];exact⟨rfl,vf,HD.out.tch ((FT.refl r _).setCell _ _) HD.out.dat.stick,((FT.refl r _).setCell _ _).zfr vf⟩
 have b20:decide ((20:Int)<=(z.2.length:Int))=false:=decide_eq_false (by omega);have hdn:D9 (w.alloc (.cells (AD (AC p b)) BB)) r s z.1 vf:=HD.out.dat.alloc _;have hqn:BQ (w.alloc (.cells (AD (AC p b)) BB)) w.heap.size (AC p b):=by
  show(w.heap.push _)[w.heap.size]?=_;rw[Array.getElem?_push,if_pos rfl]
 have hh:=Ou hdn hqn rfl hs hat dp;obtain⟨y,hY⟩:∃y,y=Bo s z.1 (AC p b) dp:=⟨_,rfl⟩
 rw[<-hY]at hh;have hyat:y.2.1<=s.size:=by rw[hY];exact Ig hat dp
 have hysg:y.1.sg.length=4:=by rw[hY];exact Rr rfl dp
 subst hvf;clear hdn hqn;by_cases hys:y.2.2=true
 ·have HT:Hid (AU s (AS s n) p b dp z=(y.2,z.2)):=by show AU _ _ _ _ _ _=_;unfold AU;rw[if_neg h20,<-hY,if_pos hys]
  have HYS:Hid (_=_):=hys;clear hys hY h20;go_enter Tryz.func85,Tryz.ntmps85;go_wp2_with fail;refine hh.mono ?_;rintro e w2 ⟨rfl,hD2,hQ2,hF2⟩;have hD2c:=hD2.cells.2.2.1;rw[HYS.out]at hD2c;have HDR:Hid (_/\_):=HD.out.fr hF2 hD2;clear hD2 hQ2 hF2;go_wp2
  go_end0
  rw[HT.out];exact⟨rfl,_,HDR.out.1,HDR.out.2⟩
 ·have HT:Hid (AU s (AS s n) p b dp z=XJ s (AS s n) z.2.length (dp+1) (y.2,z.2++[y.1]) (An y.1.kind).toNat):=by show AU _ _ _ _ _ _=_;unfold AU;rw[if_neg h20,<-hY,if_neg hys]
  have hysf:y.2.2=false:=by simpa using hys
  have HYS:Hid (_=_):=hysf;obtain⟨i0,hi,hz0,hz1,hz2⟩:=info_parts Tryz.infoDs;have hzok:QB s (y.2,z.2++[y.1]):=⟨hyat,by simp;omega⟩
  have hMz:Mz z=21-z.2.length:=by unfold Mz;rw[hst];rfl
  rw[hMz]at hm;have hqr:w.heap.size≠r:=by omega
  have hrowq:(Value.slice ao z.2.length cap).ownBlock≠some w.heap.size:=λe=>by have:=(HD.out.row.lt _ e).2;omega
  clear hys hysf hY;go_enter Tryz.func85,Tryz.ntmps85;go_wp2_with fail;refine hh.mono ?_;rintro e w2 ⟨rfl,hD2,hQ2,hF2⟩;obtain⟨r0,r1,r2,r3,rf⟩:=hD2.cells;rw[HYS.out]at r2;obtain⟨c0,c1,c2,c3,c4,c5,c6,c7,c8,c9,cf⟩:=hQ2.cells;have HDR:Hid (_/\_):=HD.out.fr hF2 hD2;have HQ2:Hid (BQ _ _ _):=hQ2;have hlr2:r<w2.heap.size:=At.lt hD2;have hlq2:w.heap.size<w2.heap.size:=At.lt hQ2;clear hD2 hQ2 hF2;go_wp2_with fail
  go_region_law (refine JB rfl (.tmp 39) (.tmp 41) 41 rfl B BB i0 _ 10 80 Tryz.underlying41 hi hz0 hz1 hz2 rfl (by decide) _ _ _ rfl ((HDR.out.1.row.alloc _).drew) ⟨w2.heap.size,0,none⟩ 1 1 (AD y.1).toList rfl rfl (PA y.1) (by intro u hu;simp[AD]at hu;rcases hu with rfl|rfl|rfl|rfl|rfl|rfl|rfl|rfl|rfl|rfl<;>rfl) (by unfold maxLen;show z.2.length+1<=_;omega) (by show(z.2.length+1)*80<=_;omega) (by have:=HDR.out.1.geW;simp;omega) ?_;intro v' w3 hown' hgrow hrow;have HP:Hid (_/\_):=HDR.out.1.push y.1 hgrow hown' hrow;have hsame:w3.heap[r]?=w2.heap[r]?:=Rp HDR.out.1 hgrow;have k1:∀i,w3.cell? ⟨r,i,none⟩=w2.cell? ⟨r,i,none⟩:=λi=>World.cell?_of_block (a:=⟨r,i,none⟩) hsame;have k2:∀i,w3.frozen? ⟨r,i,none⟩=w2.frozen? ⟨r,i,none⟩:=λi=>World.frozen?_of_block (a:=⟨r,i,none⟩) hsame;obtain⟨g',cap',rfl⟩:=Mb hown';clear hown' hgrow hsame hrow)
  all_goals
   have HQ4:Hid (BQ _ _ _):=HQ2.out.zkeep HP.out.2 hlq2 hqr hrowq;generalize hW4:w3.setCell ⟨r,3,none⟩ (.slice (some ⟨g',0,none⟩) (z.2.length+1) cap')=W4;have HP4:Hid (Cb B W4 r s (y.2,z.2++[y.1]) (.slice (some ⟨g',0,none⟩) (z.2.length+1) cap')/\JE r (.slice ao z.2.length cap) (.slice (some ⟨g',0,none⟩) (z.2.length+1) cap') w2 W4/\BQ W4 w.heap.size y.1):=by
    show _/\_/\_;rw[<-hW4];exact⟨HP.out.1,HP.out.2,HQ4.out⟩
   clear HP HQ4 hW4 k1 k2 r0 r1 r2 r3 rf c0 c1 c2 c3 c4 c5 c6 c7 c8 c9 cf;go_wp2_with fail;go_loopw [10] (λi wr=>∃j:Nat,j<=(An y.1.kind).toNat/\i=.int .i64 j/\BQ wr w.heap.size y.1/\∃v,Cb B wr r s (XJ s (AS s n) z.2.length (dp+1) (y.2,z.2++[y.1]) j) v/\JE r (.slice ao z.2.length cap) v w2 wr) (λi _=>(An y.1.kind).toNat-(intOf i).toNat);case atStart=>exact⟨0,Nat.zero_le _,rfl,HP4.out.2.2,_,HP4.out.1,HP4.out.2.1⟩
   case round=>
    obtain⟨j,hj,rfl,hqj,v,hdj,hzj⟩:=hrel;obtain⟨c0,c1,c2,c3,c4,c5,c6,c7,c8,c9,cf⟩:=hqj.cells;have HQJ:Hid (BQ _ _ _):=hqj;have HDJ:Hid (Cb _ _ _ _ _ _):=hdj;clear hqj hdj;have kb:=λ(t:Int) (an:Bool) (g0 g1 g2 g3 n p b:Int) (w:World)=>CQ y.1.kind t an g0 g1 g2 g3 n p b w;have hbl:=Jx y.1.kind;generalize An y.1.kind=bl at *;by_cases hlt:(j:Int)<bl
    ·go_wp2_with fail;refine(kb _ _ _ _ _ _ _ _ _ _).mono ?_;rintro e w5 ⟨rfl,o,rfl⟩;go_wp2_with fail;have hgo:=(A_ s n).aft (z.2.length:Int) (dp+1) hzok j;have hlen1:=hgo.len;simp at hlen1
     have hrb:=Nd H hs (HDJ.out.alloc o) hgo.ok (z.2.length:Int) j (dp+1) (by omega) (by omega) (by
      have h5:=hgo.ok.len;have h6:Mz (XJ s (AS s n) z.2.length (dp+1) (y.2,z.2++[y.1]) j)<=21-(z.2.length+1):=by unfold Mz;split<;>omega
      omega)
     refine hrb.mono ?_;rintro e w6 ⟨rfl,v6,hd6,hz6⟩;have HD6:Hid (Cb _ _ _ _ _ _/\JE _ _ _ _ _):=⟨hd6,hz6⟩
     clear hrb hgo hlen1 hd6 hz6;go_wp2;go_roundw;case rel=>exact⟨j+1,by omega,by go_num,((HQJ.out.alloc o).zkeep HD6.out.2 (by have:=hzj.size;simp;omega) hqr (Z3 hzj hrowq hlq2)),v6,HD6.out.1,(hzj.alloc o).trans HD6.out.2⟩
     case measure=>simp[intOf];omega
    ·go_wp2_with fail;refine(kb _ _ _ _ _ _ _ _ _ _).mono ?_;rintro e w5 ⟨rfl,o,rfl⟩;go_wp2
     go_end0
     have hje:j=bl.toNat:=by omega
     rw[HT.out,<-hje];exact⟨rfl,v,HDJ.out.alloc o,HDR.out.2.trans (hzj.alloc o)⟩
def Zy(r:Nat)(w:World):Nat:=
 match w.cell? ⟨r,2,none⟩,w.cell? ⟨r,3,none⟩with
 |some (.bool b),some (.slice _ n _)=>if b then 0 else 21-n
 |_,_=>0
theorem Tf{z:Zt}(h:Cb B w r s z vf):Zy r w=Mz z:=by
 obtain⟨ao,cap,rfl⟩:=h.vlen;obtain⟨r0,r1,r2,r3,rf⟩:=h.dat.cells;unfold Zy Mz;rw[r2,r3]
theorem Cb.drewN{z:Zt}(h:Cb B w r s z vf)(k:Nat):Cb B (w.drewN k) r s z vf:=⟨h.dat,h.row,h.geR,h.geW⟩
theorem JE.drewN{v v':Value}(h:JE r v v' w w')(k:Nat):JE r v v' w (w'.drewN k):=⟨h.os,h.tape,h.output,h.size,h.block,h.row⟩
theorem Iw(hs:s.size<=160)(n:Nat):SP s n:=by
 induction n using Nat.strongRecOn with
 |ind n ih=>
  intro B r vf w z p b dp h hz h0 h1 hm;have HI:Hid (∀m,m<n->SP s m):=ih;have hp:=Em h.dat hs (by have:=hz.at_;omega);have HD:Hid (Cb _ _ _ _ _ _):=h;clear ih h;go_enter Tryz.func50,Tryz.ntmps50;go_wp2_with fail;refine hp.mono ?_;rintro e w1 ⟨rfl,k,rfl⟩;clear hp;go_wp2_with fail;go_loopw [8] (λc wr=>∃(z':Zt)(m:Nat)(v:Value),m<=n/\Mz z'<m/\AS s n p b dp z=AS s m p b dp z'/\c=.int .u8 (pk s z'.1)/\QB s z'/\dp<=z'.2.length/\Cb B wr r s z' v/\JE r vf v w wr) (λ_ wr=>Zy r wr);case atStart=>exact⟨z,n,vf,Nat.le_refl _,hm,rfl,rfl,hz,h1,HD.out.drewN k,(JE.refl r vf w).drewN k⟩
  case round=>
   obtain⟨z',m,v,hmn,hmz,he,rfl,hzk,hdp,hd,hzf⟩:=hrel;have HE:Hid (_=_):=he;have HDJ:Hid (Cb _ _ _ _ _ _):=hd;have hmo:=Tf hd;have HMO:Hid (_=_):=hmo;clear he hd hmo;obtain⟨m',rfl⟩:∃m',m=m'+1:=⟨m-1,by omega⟩
   obtain⟨p0,p1⟩:=Dw s z'.1;by_cases hc0:pk s z'.1=0
   ·have HX:Hid (AS s n p b dp z=z'):=HE.out.trans (by unfold AS;rw[if_pos (.inl hc0)]);rw[hc0];clear hc0;go_wp2_with fail
    go_end0
    rw[HX.out];exact⟨rfl,v,HDJ.out,hzf⟩
   have b0:(pk s z'.1 != 0)=true:=by rw[bne_iff_ne];exact hc0
   by_cases hc1:pk s z'.1=125
   ·have HX:Hid (AS s n p b dp z=z'):=HE.out.trans (by unfold AS;rw[if_pos (.inr hc1)]);rw[hc1];clear hc0 hc1 b0;go_wp2_with fail
    go_end0
    rw[HX.out];exact⟨rfl,v,HDJ.out,hzf⟩
   ·have b1:(pk s z'.1 != 125)=true:=by rw[bne_iff_ne];exact hc1
    have HX:Hid (AS s n p b dp z=AS s m' p b dp (AU s (AS s m') p b dp z')):=HE.out.trans (by rw[AS,if_neg (λe=>e.elim hc0 hc1)]);have hns:z'.1.2=false:=(DA rfl hc0).2;have hg:=(A_ s m').stmt p b dp hzk;have hMd:=P9 (AS s m') (A_ s m') p b dp hzk hns;have hst:=JS (HI.out m' (by omega)) hs HDJ.out hzk hns p b dp h0 hdp (by omega);obtain⟨z2,hZ2⟩:∃z2,z2=AU s (AS s m') p b dp z':=⟨_,rfl⟩
    rw[<-hZ2]at hst hg hMd HX;have hz2a:=hg.ok.at_;have hz2l:=hg.len;have HN:Hid (_=_):=hns;clear hZ2 hc0 hc1 hns;generalize pk s z'.1=c at *;go_wp2_with fail;refine hst.mono ?_;rintro e w2 ⟨rfl,v2,hd2,hz2⟩;have HD2:Hid (Cb _ _ _ _ _ _/\JE _ _ _ _ _):=⟨hd2,hz2⟩
    clear hst hd2 hz2;go_wp2_with fail;refine(Em HD2.out.1.dat hs (by omega)).mono ?_;rintro e w3 ⟨rfl,k3,rfl⟩;go_wp2;go_roundw;case rel=>exact⟨z2,m',v2,by omega,by omega,HX.out,rfl,hg.ok,by omega,HD2.out.1.drewN k3,(hzf.trans HD2.out.2).drewN k3⟩
    case measure=>
     have e1:=Tf (HD2.out.1.drewN k3);rw[e1,HMO.out];exact hMd
end Go.Proofs.YtffajooegiempaaGreatDoor
namespace Go.Proofs.YtffajooegiempaaGreatDoor
open Go.RowKit
variable {w w':World}{s:ByteArray}
def AI(s:ByteArray):Zt:=AS s 22 (-1) 0 0 ((0,false),[])
def BP(s:ByteArray):Bool:= !(AI s).1.2&&decide (s.size<=(AI s).1.1)
def D8(w:World)(s:ByteArray):Ending->World->Prop:=λe w'=>Below w.heap.size w w'/\
 ((160<s.size/\e=.returned (.tuple #[.agg #[.slice none 0 0],.int .i64 1,.int .i64 0]))\/
  (s.size<=160/\BP s=false/\e=.returned (.tuple #[.agg #[.slice none 0 0],.int .i64 1,.int .i64 (AI s).1.1]))\/
  (s.size<=160/\BP s=true/\∃v,e=.returned (.tuple #[.agg #[v],.int .i64 0,.int .i64 0])/\w'.ownsRow w.heap.size BB 10 v (AI s).2.length (GE (AI s).2)))
theorem RS(s:ByteArray)(w:World)(o:Obj):Cb w.heap.size ((w.alloc o).alloc (.cells #[.string s,.int .i64 0,.bool false,.slice none 0 0] tD)) (w.heap.size+1) s ((0,false),[]) (.slice none 0 0) where
 dat:=by
  show((w.heap.push _).push _)[w.heap.size+1]?=_;rw[Array.getElem?_push,if_pos (by simp)];rfl
 row:=World.ownsRow_nil _ _ _ _
 geR:=by omega
 geW:=by simp;omega
theorem Ru{z:Zt}{w2:World}{r B:Nat}{v:Value}{u:Value}(h:Cb B w2 r s z v)(hn:v.ownBlock≠some w.heap.size):(w2.setCell ⟨w.heap.size,0,none⟩ u).ownsRow B BB 10 v z.2.length (GE z.2):=
 ownsRow_setCell_other h.row hn _
theorem I7(w:World)(o o':Obj):((w.alloc o).alloc o').heap[w.heap.size]?=some o:=by
 show((w.heap.push _).push _)[w.heap.size]?=_;rw[Array.getElem?_push,if_neg (by simp),Array.getElem?_push,if_pos rfl]
theorem Hj(s:ByteArray)(w:World)(hm:s.size<=maxLen):
  Calls Tryz.prog 18 #[.string s] w (D8 w s):=by
 unfold maxLen at hm;by_cases h:160<s.size
 ·go_enter Tryz.func18,Tryz.ntmps18;go_wp2_with fail;exact bodyPost_ret (v:=.tuple #[.agg #[.slice none 0 0],.int .i64 1,.int .i64 0]) (by simp[results,Tryz.results18,go_sem]) rfl ⟨(Below.refl _ _).alloc (Nat.le_refl _) _,.inl ⟨h,rfl⟩⟩
 ·have hsz:s.size<=160:=by omega
  have b160:decide ((160:Int)<(s.size:Int))=false:=decide_eq_false (by omega);have HI:Hid (Cb _ _ _ _ _ _):=RS s w (.cells #[.slice none 0 0] 43);have hst:=Iw hsz 22 _ _ _ _ _ (-1) 0 0 HI.out ⟨Nat.zero_le _,Nat.zero_le _⟩ (Int.le_refl _) (Int.le_refl _) (by decide);have hgo:=(A_ s 22 (-1) 0 0 ((0,false),[]) ⟨Nat.zero_le _,Nat.zero_le _⟩).ok.at_;have HG:Hid (BP s=(!(AI s).1.2&&decide (s.size<=(AI s).1.1))):=rfl;obtain⟨z,hZ⟩:∃z,z=AI s:=⟨_,rfl⟩
  rw[show AS s 22 (-1) 0 0 ((0,false),[])=z from hZ.symm]at hst hgo;have HZ:Hid (z=AI s):=hZ;clear hZ;obtain⟨⟨za,zb⟩,zf⟩:=z;simp only at hgo;cases zb
  ·by_cases hl:za<s.size
   ·have hGood:BP s=false:=by rw[HG.out,<-HZ.out];simp;omega
    have HGD:Hid (_=_):=hGood;have bl:decide ((za:Int)<(s.size:Int))=true:=decide_eq_true (by omega);clear hGood;go_enter Tryz.func18,Tryz.ntmps18;go_wp2_with fail;refine hst.mono ?_;rintro e w2 ⟨rfl,v,hd,hzf⟩;obtain⟨r0,r1,r2,r3,rf⟩:=hd.dat.cells;have hb2:Below w.heap.size w w2:=(((Below.refl _ _).alloc (Nat.le_refl _) _).alloc (by simp) _).trans (hzf.below HI.out);have hp0:w2.heap[w.heap.size]?=some (.cells #[.slice none 0 0] 43):=(hzf.block w.heap.size (by simp;omega) (by omega) (by simp[Value.ownBlock])).trans (I7 w _ _);have p1:w2.cell? ⟨w.heap.size,0,none⟩=some (.slice none 0 0):=by simp[World.cell?,hp0]
    have p2:w2.frozen? ⟨w.heap.size,0,none⟩=false:=by simp[World.frozen?,hp0]
    have HDF:Hid (Cb _ _ _ _ _ _):=hd;have HB2:Hid (Below _ _ _):=hb2;have hnv:Hid (v.ownBlock≠some w.heap.size):=C_ hd.row (show At w2 w.heap.size _ _ from hp0) (by decide);obtain⟨ao,cap,hv⟩:=hd.vlen;subst hv;clear hd hzf hp0 hb2;go_wp2_with fail;go_region;all_goals
     go_wp2;exact bodyPost_ret (v:=.tuple #[.agg #[.slice none 0 0],.int .i64 1,.int .i64 za]) (by simp[results,Tryz.results18,go_sem,p1]) rfl ⟨Below.setCell (Below.drew HB2.out) (Nat.le_refl _) _,.inr (.inl ⟨hsz,HGD.out,by rw[<-HZ.out]⟩)⟩
   ·have hGood:BP s=true:=by rw[HG.out,<-HZ.out];simp;omega
    have HGD:Hid (_=_):=hGood;have bl:decide ((za:Int)<(s.size:Int))=false:=decide_eq_false (by omega);clear hGood;go_enter Tryz.func18,Tryz.ntmps18;go_wp2_with fail;refine hst.mono ?_;rintro e w2 ⟨rfl,v,hd,hzf⟩;obtain⟨r0,r1,r2,r3,rf⟩:=hd.dat.cells;have hb2:Below w.heap.size w w2:=(((Below.refl _ _).alloc (Nat.le_refl _) _).alloc (by simp) _).trans (hzf.below HI.out);have hp0:w2.heap[w.heap.size]?=some (.cells #[.slice none 0 0] 43):=(hzf.block w.heap.size (by simp;omega) (by omega) (by simp[Value.ownBlock])).trans (I7 w _ _);have p1:w2.cell? ⟨w.heap.size,0,none⟩=some (.slice none 0 0):=by simp[World.cell?,hp0]
    have p2:w2.frozen? ⟨w.heap.size,0,none⟩=false:=by simp[World.frozen?,hp0]
    have HDF:Hid (Cb _ _ _ _ _ _):=hd;have HB2:Hid (Below _ _ _):=hb2;have hnv:Hid (v.ownBlock≠some w.heap.size):=C_ hd.row (show At w2 w.heap.size _ _ from hp0) (by decide);obtain⟨ao,cap,hv⟩:=hd.vlen;subst hv;clear hd hzf hp0 hb2;go_wp2_with fail;exact bodyPost_ret (v:=.tuple #[.agg #[.slice ao zf.length cap],.int .i64 0,.int .i64 0]) (by simp[results,Tryz.results18,go_sem,p1]) rfl ⟨Below.setCell HB2.out (Nat.le_refl _) _,.inr (.inr ⟨hsz,HGD.out,_,rfl,by rw[<-HZ.out];exact Ru HDF.out hnv.out⟩)⟩
  ·have hGood:BP s=false:=by rw[HG.out,<-HZ.out];rfl
   have HGD:Hid (_=_):=hGood;clear hGood;go_enter Tryz.func18,Tryz.ntmps18;go_wp2_with fail;refine hst.mono ?_;rintro e w2 ⟨rfl,v,hd,hzf⟩;obtain⟨r0,r1,r2,r3,rf⟩:=hd.dat.cells;have hb2:Below w.heap.size w w2:=(((Below.refl _ _).alloc (Nat.le_refl _) _).alloc (by simp) _).trans (hzf.below HI.out);have hp0:w2.heap[w.heap.size]?=some (.cells #[.slice none 0 0] 43):=(hzf.block w.heap.size (by simp;omega) (by omega) (by simp[Value.ownBlock])).trans (I7 w _ _);have p1:w2.cell? ⟨w.heap.size,0,none⟩=some (.slice none 0 0):=by simp[World.cell?,hp0]
   have p2:w2.frozen? ⟨w.heap.size,0,none⟩=false:=by simp[World.frozen?,hp0]
   have HDF:Hid (Cb _ _ _ _ _ _):=hd;have HB2:Hid (Below _ _ _):=hb2;have hnv:Hid (v.ownBlock≠some w.heap.size):=C_ hd.row (show At w2 w.heap.size _ _ from hp0) (by decide);obtain⟨ao,cap,hv⟩:=hd.vlen;subst hv;clear hd hzf hp0 hb2;go_wp2_with fail;go_region;all_goals
    go_wp2;exact bodyPost_ret (v:=.tuple #[.agg #[.slice none 0 0],.int .i64 1,.int .i64 za]) (by simp[results,Tryz.results18,go_sem,p1]) rfl ⟨Below.setCell (Below.drew HB2.out) (Nat.le_refl _) _,.inr (.inl ⟨hsz,HGD.out,by rw[<-HZ.out]⟩)⟩
end Go.Proofs.YtffajooegiempaaGreatDoor
namespace Go.Proofs.YtffajooegiempaaGreatDoor
def DX(s:ByteArray):Int×Int×Int:=
 if 160<s.size then(0,1,0)else if BP s=true then(((AI s).2.length:Int)+1,0,0)else(0,1,(AI s).1.1)
def CR(p b fr:Int):List Ds->Nat->Int
 |[],_=> -1
 |x::l,i=>if fr<=i/\x.parent=p/\x.block=b then(i:Int)else CR p b fr l (i+1)
def Bu(F:List Ds)(p b fr:Int):Int:=CR p b fr F 0
def DU(F:List Ds)(p:Int):Bool:=decide (0<=p)&&decide (p<F.length)&&decide ((F.getD p.toNat (AC 0 0)).kind=3)
def BX(F:List Ds):Nat->Int->Int
 |0,_=>F.length
 |n+1,pt=>if pt<0\/(F.length:Int)<=pt then F.length else
  if Bu F (F.getD pt.toNat (AC 0 0)).parent (F.getD pt.toNat (AC 0 0)).block (pt+1)≠ -1 then Bu F (F.getD pt.toNat (AC 0 0)).parent (F.getD pt.toNat (AC 0 0)).block (pt+1)
  else if DU F (F.getD pt.toNat (AC 0 0)).parent=true then(F.getD pt.toNat (AC 0 0)).parent
  else BX F n (F.getD pt.toNat (AC 0 0)).parent
def Ae(k:Int):Int:=if k=2\/k=3 then 2 else 1
def Ap(F:List Ds)(pt way:Int):Int×Int:=
 if pt<0\/(F.length:Int)<=pt then(0,2)
 else if way<0\/Ae (F.getD pt.toNat (AC 0 0)).kind<=way then(0,2)
 else if An (F.getD pt.toNat (AC 0 0)).kind<=way then(BX F 21 pt,0)
 else if Bu F pt way (pt+1)≠ -1 then(Bu F pt way (pt+1),0)
 else if(F.getD pt.toNat (AC 0 0)).kind=3 then(pt,0)
 else(BX F 21 pt,0)
theorem MO{p b fr:Int}{F:List Ds}{k:Nat}(hk:k<F.length):CR p b fr (F.drop k) k=if fr<=k/\(F.getD k (AC 0 0)).parent=p/\(F.getD k (AC 0 0)).block=b then(k:Int)else CR p b fr (F.drop (k+1)) (k+1):=by
 have e:F.drop k=F.getD k (AC 0 0)::F.drop (k+1):=by
  rw[List.drop_eq_getElem_cons hk,List.getD_eq_getElem?_getD,List.getElem?_eq_getElem hk];rfl
 rw[e,CR]
end Go.Proofs.YtffajooegiempaaGreatDoor
namespace Go.Proofs.YtffajooegiempaaGreatDoor
open Go.RowKit
variable {w w':World}{g cap b:Nat}{F:List Ds}
def B0(x:Ds):Value:=.agg #[.int .i64 x.kind,.int .i64 x.target,.bool x.any,.int .i64 (AB x.sg 0),.int .i64 (AB x.sg 1),.int .i64 (AB x.sg 2),.int .i64 (AB x.sg 3),.int .i64 x.num,.int .i64 x.parent,.int .i64 x.block]
theorem Ox{x:Ds}(h:At w b (AD x) BB):(loadVar BB ⟨b,0,none⟩).run Tryz.prog w=.ok (B0 x) w:=
 run_loadVar_row w b BB BB (AD x) (0,0) _ h Tryz.underlying119 rfl (by kernel_rfl)
theorem Df{fn:Func}{t u:Tmp}{x:Ds}(h:fn.results=#[.cell t BB,.tmp u])(tmps:Array Value)(hp:tmps.getD t undef=.pointer (some ⟨b,0,none⟩))(hat:At w b (AD x) BB):
  (results fn tmps).run Tryz.prog w=.ok (.tuple #[B0 x,tmps.getD u undef]) w:=by
 have hp':tmps[t]?.getD undef=.pointer (some ⟨b,0,none⟩):=by simpa using hp
 simp[results,h,hp',asAddr,Ox hat]
def Cc(w:World)(g:Nat)(F:List Ds):Prop:=g<w.heap.size/\∀j x,F[j]?=some x->w.cell? ⟨g,j*10,none⟩=some (.int .i64 x.kind)/\w.cell? ⟨g,j*10+1,none⟩=some (.int .i64 x.target)/\w.cell? ⟨g,j*10+2,none⟩=some (.bool x.any)/\
 w.cell? ⟨g,j*10+3,none⟩=some (.int .i64 (AB x.sg 0))/\w.cell? ⟨g,j*10+4,none⟩=some (.int .i64 (AB x.sg 1))/\w.cell? ⟨g,j*10+5,none⟩=some (.int .i64 (AB x.sg 2))/\w.cell? ⟨g,j*10+6,none⟩=some (.int .i64 (AB x.sg 3))/\
 w.cell? ⟨g,j*10+7,none⟩=some (.int .i64 x.num)/\w.cell? ⟨g,j*10+8,none⟩=some (.int .i64 x.parent)/\w.cell? ⟨g,j*10+9,none⟩=some (.int .i64 x.block)
theorem Cc.keep(h:Cc w g F)(hb:Below w.heap.size w w'):Cc w' g F:=by
 refine⟨Nat.lt_of_lt_of_le h.1 hb.size,λj x hx=>?_⟩;have hc:∀o,w'.cell? ⟨g,o,none⟩=w.cell? ⟨g,o,none⟩:=λo=>hb.cell (p:=⟨g,o,none⟩) h.1;simp only[hc];exact h.2 j x hx
theorem KE{j:Nat}(hj:j<F.length):F[j]?=some (F.getD j (AC 0 0)):=by rw[List.getD_eq_getElem?_getD,List.getElem?_eq_getElem hj];rfl
theorem MM(k t:Int)(an:Bool)(g0 g1 g2 g3 n p b:Int)(w:World):
  Calls Tryz.prog 111 #[.agg #[.int .i64 k,.int .i64 t,.bool an,.int .i64 g0,.int .i64 g1,.int .i64 g2,.int .i64 g3,.int .i64 n,.int .i64 p,.int .i64 b]] w λe w'=>e=.returned (.int .i64 (Ae k))/\∃o,w'=w.alloc o:=by
 unfold Ae;by_cases h2:k=2
 ·subst h2;go_enter Tryz.func111,Tryz.ntmps111;go_wp2;go_ret;exact⟨rfl,_,rfl⟩
 ·have b2:(k==2)=false:=by simpa using h2
  by_cases h3:k=3
  ·subst h3;clear h2 b2;go_enter Tryz.func111,Tryz.ntmps111;go_wp2;go_ret;exact⟨rfl,_,rfl⟩
  ·have b3:(k==3)=false:=by simpa using h3
   rw[if_neg (λe=>e.elim h2 h3)];clear h2 h3;go_enter Tryz.func111,Tryz.ntmps111;go_wp2;go_ret;exact⟨rfl,_,rfl⟩
def EI:Ds:=AC 0 0
theorem Fm(h:Cc w g F)(k:Nat)(hk:k<F.length):
  Calls Tryz.prog 81 #[.agg #[.slice (some ⟨g,0,none⟩) F.length cap],.int .i64 (k:Int)] w λe w'=>e=.returned (.tuple #[B0 (F.getD k (AC 0 0)),.int .i64 0])/\Below w.heap.size w w':=by
 have hg:=h.1;have hki:(k:Int)<(F.length:Int):=by omega
 have hge:¬(F.length:Int)<=(k:Int):=by omega
 obtain⟨c0,c1,c2,c3,c4,c5,c6,c7,c8,c9⟩:=h.2 k _ (KE hk);have HB:Hid (∀o1 o2,Below w.heap.size w ((w.alloc o1).alloc o2)):=λo1 o2=>((Below.refl _ _).alloc (Nat.le_refl _) _).alloc (by simp) _;generalize F.getD k (AC 0 0)=x at *;clear h;go_enter Tryz.func81,Tryz.ntmps81;go_wp2_with fail;try simp only[Exit.inBlock,Exit.then]
 refine bodyPost_ret (Df (b:=w.heap.size+1) (x:=x) rfl _ rfl ?_) rfl ?_
 ·have:=At.new (w.alloc (.cells #[.slice (some ⟨g,0,none⟩) F.length cap] 43)) (AD x) BB;rw[show(w.alloc (.cells #[.slice (some ⟨g,0,none⟩) F.length cap] 43)).heap.size=w.heap.size+1 by simp]at this;exact this
 ·exact⟨rfl,HB.out _ _⟩
theorem IJ(ao:Option Addr)(n:Nat)(_hn:n<=20)(p:Int)(hp:p<0\/(n:Int)<=p):
  Calls Tryz.prog 81 #[.agg #[.slice ao n cap],.int .i64 p] w λe w'=>e=.returned (.tuple #[B0 EI,.int .i64 2])/\Below w.heap.size w w':=by
 have HB:Hid (∀o1 o2,Below w.heap.size w ((w.alloc o1).alloc o2)):=λo1 o2=>((Below.refl _ _).alloc (Nat.le_refl _) _).alloc (by simp) _;by_cases h0:p<0
 ·clear hp;go_enter Tryz.func81,Tryz.ntmps81;go_wp2_with fail;try simp only[Exit.inBlock,Exit.then]
  refine bodyPost_ret (Df (b:=w.heap.size+1) (x:=EI) rfl _ rfl ?_) rfl ?_
  ·have:=At.new (w.alloc (.cells #[.slice ao n cap] 43)) (AD EI) BB;rw[show(w.alloc (.cells #[.slice ao n cap] 43)).heap.size=w.heap.size+1 by simp]at this;exact this
  ·exact⟨rfl,HB.out _ _⟩
 ·have h1:(n:Int)<=p:=hp.elim (λe=>absurd e h0) id;clear hp;go_enter Tryz.func81,Tryz.ntmps81;go_wp2_with fail;try simp only[Exit.inBlock,Exit.then]
  refine bodyPost_ret (Df (b:=w.heap.size+1) (x:=EI) rfl _ rfl ?_) rfl ?_
  ·have:=At.new (w.alloc (.cells #[.slice ao n cap] 43)) (AD EI) BB;rw[show(w.alloc (.cells #[.slice ao n cap] 43)).heap.size=w.heap.size+1 by simp]at this;exact this
  ·exact⟨rfl,HB.out _ _⟩
end Go.Proofs.YtffajooegiempaaGreatDoor
