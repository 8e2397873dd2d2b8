import Derived.Test.YtffajooegiempaaGreatDoorRows
import Derived.WalkKit
import Derived.WalkSpells
import Derived.WalkLawsBesides
import Derived.BigQuiet
import Derived.Deep.QuietTactic
import Derived.Laws.CopyOwn
import Derived.Laws.MakeOwn
set_option maxRecDepth 100000
set_option maxHeartbeats 6400000
namespace Go.Proofs.YtffajooegiempaaGreatDoor
open Go.RowKit
def CJ(c:Int):Int:=if 97<=c/\c<=100 then c-97 else -1
def At(w:World)(b:Nat)(c:Array Value)(t:TypeId):Prop:=w.heap[b]?=some (.cells c t (0,0))
theorem At.cell{w:World}{b:Nat}{c:Array Value}{t:TypeId}(h:At w b c t)(i:Nat):w.cell? ⟨b,i,none⟩=c[i]?:=by
 unfold At at h;simp[World.cell?,h]
theorem At.free{w:World}{b:Nat}{c:Array Value}{t:TypeId}(h:At w b c t)(i:Nat):w.frozen? ⟨b,i,none⟩=false:=by
 unfold At at h;simp[World.frozen?,h]
theorem At.lt{w:World}{b:Nat}{c:Array Value}{t:TypeId}(h:At w b c t):b<w.heap.size:=lt_of_block h
theorem At.ne{w:World}{a b:Nat}{c d:Array Value}{t u:TypeId}(h:At w a c t)(k:At w b d u)(hn:t≠u):a≠b:=by
 intro e;subst e;unfold At at h k;rw[h]at k;simp at k;exact hn k.2
theorem At.same{w w':World}{b:Nat}{c:Array Value}{t:TypeId}(h:At w b c t)(k:w'.heap[b]?=w.heap[b]?):At w' b c t:=by
 unfold At at *;rw[k];exact h
theorem At.other{w:World}{b:Nat}{c:Array Value}{t:TypeId}(h:At w b c t){a:Nat}(o:Nat)(u:Value)(hn:b≠a):At (w.setCell ⟨a,o,none⟩ u) b c t:=
 h.same (Below.heap_setCell _ _ _ _ hn)
theorem At.put{w:World}{b:Nat}{c:Array Value}{t:TypeId}(h:At w b c t)(o:Nat)(u:Value):At (w.setCell ⟨b,o,none⟩ u) b (c.setIfInBounds o u) t:=by
 have hlt:=h.lt;unfold At at *;have h':w.heap[b]=.cells c t (0,0):=by simpa[Array.getElem?_eq_getElem hlt]using h
 show(w.heap.modify b _)[b]?=_;rw[Array.getElem?_eq_getElem (by simpa using hlt),Array.getElem_modify_self,h'];rfl
theorem At.drewN{w:World}{b:Nat}{c:Array Value}{t:TypeId}(h:At w b c t)(k:Nat):At (w.drewN k) b c t:=h
theorem IX(a b:Int)(h0: -1<=a)(h1:a<=1)(h2: -99<=b)(h3:b<=99):wrap64 (a*b)=a*b:=by
 have: -99<=a*b/\a*b<=99:=by
  rcases(show a= -1\/a=0\/a=1 by omega)with rfl|rfl|rfl<;>omega
 unfold wrap64;omega
def ic(l:List Int):Array Value:=(l.map (Value.int .i64)).toArray
theorem Aa(l:List Int)(i:Nat)(h:i<l.length):(ic l)[i]?=some (.int .i64 (l.getD i 0)):=by
 simp[ic,List.getD,h]
theorem Be(l:List Int)(i:Nat)(x:Int):(ic l).setIfInBounds i (.int .i64 x)=ic (l.set i x):=by simp[ic,List.map_set]
def AQ(w:World)(v:Value)(l:List Int):Prop:=
 ∃ao cap,v=.slice ao l.length cap/\l.length<=cap/\(l.length≠0->∃b off,ao=some ⟨b,off,none⟩/\b<w.heap.size/\∀i,i<l.length->w.cell? ⟨b,off+i,none⟩=some (.int .i64 (l.getD i 0)))
theorem AQ.keep{w w':World}{v:Value}{l:List Int}(h:AQ w v l)(hb:Below w.heap.size w w'):AQ w' v l:=by
 obtain⟨ao,cap,hv,hc,h0⟩:=h;refine⟨ao,cap,hv,hc,λhn=>?_⟩;obtain⟨b,off,ha,hlt,hcell⟩:=h0 hn;exact⟨b,off,ha,Nat.lt_of_lt_of_le hlt hb.size,λi hi=>(hb.cell (by exact hlt)).trans (hcell i hi)⟩
theorem AQ.at_{w:World}{g n cap:Nat}{l:List Int}{c:Array Value}{t:TypeId}(h:At w g c t)(hn:l.length=n)(hcap:n<=cap)(hc:∀i,i<n->c[i]?=some (.int .i64 (l.getD i 0))):AQ w (.slice (some ⟨g,0,none⟩) n cap) l:=by
 subst hn;exact⟨_,cap,rfl,hcap,λ_=>⟨g,0,rfl,h.lt,λi hi=>by rw[Nat.zero_add,h.cell];exact hc i hi⟩⟩
theorem Cu(w:World)(j k:Nat):(w.drewN j).drewN k=w.drewN (j+k):=by
 first|rfl|(induction k with|zero=>rfl|succ k ih=>rw[<-Nat.add_assoc];show((w.drewN j).drewN k).drew=_;rw[ih];rfl)|simp[World.drewN,Nat.add_assoc]
def Kr(l:List Int):Nat->List (Nat×Int)
 |0=>[]
 |n+1=>Kr l n++(if l.getD n 0=1000000 then[]else[(n,l.getD n 0)])
def b3(x:Nat×Int):List Int:=[(x.1:Int),(x.2+4000)/256,(x.2+4000)%256]
def tl(l:List Int)(n:Nat):List Int:=(Kr l n).flatMap b3
def ct(l:List Int)(n:Nat):Nat:=(Kr l n).length
theorem Im(l:List Int)(n:Nat):tl l (n+1)=tl l n++(if l.getD n 0=1000000 then[]else b3 (n,l.getD n 0)):=by
 unfold tl;show(Kr l n++_).flatMap b3=_;split<;>simp
theorem E9(l:List Int)(n:Nat):ct l (n+1)=ct l n+(if l.getD n 0=1000000 then 0 else 1):=by
 unfold ct;show(Kr l n++_).length=_;split<;>simp
theorem J6(l:List Int)(n:Nat):ct l n<=n:=by
 induction n with
 |zero=>exact Nat.le_refl _
 |succ n ih=>rw[E9];split<;>omega
theorem JC(l:List Int)(n:Nat):(tl l n).length=3*ct l n:=by
 induction n with
 |zero=>rfl
 |succ n ih=>rw[Im,E9,List.length_append,ih];split<;>simp[b3]<;>omega
def Dk:Option (List Int)->List Int
 |none=>[0]
 |some l=>1::(ct l 32:Int)::tl l 32
theorem LY(l:List Int):Dk (some l)=1::(ct l 32:Int)::tl l 32:=rfl
def Br(L:List (Option (List Int))):Nat->List Int
 |0=>[]
 |n+1=>Br L n++Dk (L.getD n none)
def IM(L:List (Option (List Int))):List Int:=(L.length:Int)::Br L L.length
def On(x:Int):Prop:=x=1000000\/(-4000<=x/\x<=4000)
def F_(r:Option (List Int)):Prop:=∀l,r=some l->l.length=32/\∀f,f<32->On (l.getD f 0)
abbrev ES:=Nat×Bool
def Fi(s:List Int)(d:ES):Int:=if d.1<s.length then s.getD d.1 0 else -1
def Ai(s:List Int)(lo hi:Int)(d:ES):Int×ES:=
 if Fi s d<lo\/hi<Fi s d then(0,(d.1,true))else(Fi s d,(d.1+1,d.2))
def JW(s:List Int)(d:ES):Int×ES:=
 let h:=Ai s 0 255 d
 let k:=Ai s 0 255 h.2
 (h.1*256+k.1-4000,(k.2.1,if 8000<h.1*256+k.1 then true else k.2.2))
def Ni(s:List Int)(f:Nat)(x:Nat×ES×List Int):Nat×ES×List Int:=
 if 0<x.1/\Fi s x.2.1=f then(x.1-1,(JW s (x.2.1.1+1,x.2.1.2)).2,x.2.2++[(JW s (x.2.1.1+1,x.2.1.2)).1])
 else(x.1,x.2.1,x.2.2++[1000000])
def DT(s:List Int)(x:Nat×ES×List Int):Nat->Nat×ES×List Int
 |0=>x
 |n+1=>Ni s n (DT s x n)
def QH(s:List Int)(N:Nat)(d:ES):List Int×ES:=
 let t:=Ai s 0 32 d
 let y:=DT s (t.1.toNat,t.2,[]) N
 (y.2.2,(y.2.1.1,if 0<y.1 then true else y.2.1.2))
def Kx(s:List Int)(d:ES):List Int×ES:=QH s 32 d
def I8(s:List Int)(d:ES):Option (List Int)×ES:=
 let c:=Ai s 0 1 d
 if c.1=0 then(none,c.2)else(some (Kx s c.2).1,(Kx s c.2).2)
def Cw(s:List Int)(x:ES×List (Option (List Int))):Nat->ES×List (Option (List Int))
 |0=>x
 |n+1=>let y:=Cw s x n;if y.1.2 then y else((I8 s y.1).2,y.2++[(I8 s y.1).1])
def DS(s:List Int):Option (List (Option (List Int))):=
 let t:=Ai s 1 21 (0,false)
 let y:=Cw s (t.2,[]) t.1.toNat
 if y.1.2=true\/y.1.1≠s.length then none else some y.2
def VG(s:List Int):Prop:=∀i,i<s.length->0<=s.getD i 0/\s.getD i 0<=255
variable {s:List Int}
theorem Di(s:List Int)(i:Nat)(h:i<s.length):s.drop i=s.getD i 0::s.drop (i+1):=by
 rw[List.drop_eq_getElem_cons h];simp[List.getD,h]
theorem Cz{i:Nat}{x:Int}{r:List Int}(h:s.drop i=x::r):i<s.length/\s.getD i 0=x/\s.drop (i+1)=r:=by
 have hi:i<s.length:=by
  rcases Nat.lt_or_ge i s.length with q|q
  ·exact q
  ·rw[List.drop_eq_nil_of_le q]at h;cases h
 rw[Di s i hi]at h;injection h with h1 h2
 exact⟨hi,h1,h2⟩
theorem Ro(hB:VG s)(d:ES): -1<=Fi s d/\Fi s d<=255:=by
 unfold Fi;split
 ·have:=hB d.1 (by assumption);omega
 ·omega
theorem EC(hB:VG s)(lo hi:Int)(h0:0<=lo)(d:ES):0<=(Ai s lo hi d).1/\(Ai s lo hi d).1<=255/\((Ai s lo hi d).2.1=d.1\/((Ai s lo hi d).2.1=d.1+1/\d.1<s.length)):=by
 have hp:=Ro hB d;unfold Ai;split
 ·exact⟨Int.le_refl _,by omega,.inl rfl⟩
 ·refine⟨by show 0<=Fi s d;omega,hp.2,.inr ⟨rfl,?_⟩⟩;unfold Fi at *;by_cases q:d.1<s.length
  ·exact q
  ·rw[if_neg q]at *;omega
theorem I5{lo hi:Int}(h0:0<=lo){d:ES}(h:(Ai s lo hi d).2.2=false):d.2=false/\d.1<s.length/\(Ai s lo hi d).1=s.getD d.1 0/\(Ai s lo hi d).2.1=d.1+1/\lo<=s.getD d.1 0/\s.getD d.1 0<=hi:=by
 unfold Ai at *;by_cases q:Fi s d<lo\/hi<Fi s d
 ·rw[if_pos q]at h;cases h
 ·rw[if_neg q]at h|-;have q2:d.1<s.length:=by
   rcases Nat.lt_or_ge d.1 s.length with q'|q'
   ·exact q'
   ·exfalso;unfold Fi at q;rw[if_neg (show¬d.1<s.length by omega)]at q;omega
  have e:Fi s d=s.getD d.1 0:=by unfold Fi;rw[if_pos q2]
  rw[e]at q|-;exact⟨h,q2,rfl,rfl,by omega,by omega⟩
theorem Gw{lo hi:Int}{i:Nat}{x:Int}{r:List Int}(h:s.drop i=x::r)(h1:lo<=x)(h2:x<=hi):Ai s lo hi (i,false)=(x,(i+1,false)):=by
 obtain⟨a,b,_⟩:=Cz h;have e:Fi s (i,false)=x:=by show(if i<s.length then s.getD i 0 else -1)=x;rw[if_pos a,b]
 unfold Ai;rw[e,if_neg (by omega)]
theorem FY{lo hi:Int}{d:ES}(h:d.2=true):(Ai s lo hi d).2.2=true:=by
 unfold Ai;split
 ·rfl
 ·exact h
theorem Yt{d:ES}(h:(JW s d).2.2=false):d.2=false/\d.1+2<=s.length/\(JW s d).2.1=d.1+2/\ -4000<=(JW s d).1/\(JW s d).1<=4000/\
  s.drop d.1=((JW s d).1+4000)/256::((JW s d).1+4000)%256::s.drop (d.1+2):=by
 have h':(if 8000<(Ai s 0 255 d).1*256+(Ai s 0 255 (Ai s 0 255 d).2).1 then true else(Ai s 0 255 (Ai s 0 255 d).2).2.2)=false:=h;by_cases q:8000<(Ai s 0 255 d).1*256+(Ai s 0 255 (Ai s 0 255 d).2).1
 ·rw[if_pos q]at h';cases h'
 ·rw[if_neg q]at h';obtain⟨a1,a2,a3,a4,a5,a6⟩:=I5 (Int.le_refl 0) h';obtain⟨b1,b2,b3,b4,b5,b6⟩:=I5 (Int.le_refl 0) a1;rw[b4]at a2 a3 a4 a5 a6;have e:(JW s d).1=s.getD d.1 0*256+s.getD (d.1+1) 0-4000:=by
   show(Ai s 0 255 d).1*256+(Ai s 0 255 (Ai s 0 255 d).2).1-4000=_;rw[a3,b3]
  rw[a3,b3]at q;refine⟨b1,by omega,a4,by omega,by omega,?_⟩;rw[e,Di s d.1 b2,Di s (d.1+1) a2]
  congr 1
  ·omega
  ·congr 1
   omega
theorem XN{i:Nat}{x:Int}{r:List Int}(h:s.drop i=(x+4000)/256::(x+4000)%256::r)(h1: -4000<=x)(h2:x<=4000):JW s (i,false)=(x,(i+2,false)):=by
 have e1:=Gw (lo:=0) (hi:=255) h (by omega) (by omega);have e2:=Gw (lo:=0) (hi:=255) (Cz h).2.2 (by omega) (by omega);unfold JW;simp only[e1,e2];rw[if_neg (by omega)]
 congr 1
 omega
theorem Sf{d:ES}(h:d.2=true):(JW s d).2.2=true:=by
 show(if _ then true else(Ai s 0 255 (Ai s 0 255 d).2).2.2)=true;split
 ·rfl
 ·exact FY (FY h)
theorem Nj{f:Nat}{x:Nat×ES×List Int}(h:x.2.1.2=true):(Ni s f x).2.1.2=true:=by
 unfold Ni;split
 ·exact Sf h
 ·exact h
theorem Ix{x:Nat×ES×List Int}(h:x.2.1.2=true):∀n,(DT s x n).2.1.2=true
 |0=>h
 |n+1=>Nj (Ix h n)
theorem IQ{x:Nat×ES×List Int}(h:x.2.2=[]):∀n,(DT s x n).2.2.length=n
 |0=>by show x.2.2.length=0;rw[h];rfl
 |n+1=>by
  have ih:=IQ h n;show(Ni s n (DT s x n)).2.2.length=n+1;unfold Ni;split<;>simp[ih]
theorem In(l m:List Int):∀n,n<=l.length->Kr (l++m) n=Kr l n
 |0,_=>rfl
 |n+1,h=>by
  show Kr (l++m) n++_=Kr l n++_;rw[In l m n (by omega)];have e:(l++m).getD n 0=l.getD n 0:=by simp[List.getD,List.getElem?_append_left (show n<l.length by omega)]
  rw[e]
theorem Ei(l:List Int)(y:Int)(n:Nat)(h:l.length=n):(l++[y]).getD n 0=y:=by simp[List.getD,<-h]
theorem TI(hB:VG s){i t:Nat}:∀n,(DT s (t,(i,false),[]) n).2.1.2=false->
  s.drop i=tl (DT s (t,(i,false),[]) n).2.2 n++s.drop (DT s (t,(i,false),[]) n).2.1.1/\t=(DT s (t,(i,false),[]) n).1+ct (DT s (t,(i,false),[]) n).2.2 n/\∀f,f<n->On ((DT s (t,(i,false),[]) n).2.2.getD f 0)
 |0,_=>⟨rfl,rfl,λf hf=>absurd hf (by omega)⟩
 |n+1,h=>by
  have hl:(DT s (t,(i,false),[]) n).2.2.length=n:=IQ rfl n;have hf':(DT s (t,(i,false),[]) n).2.1.2=false:=by
   cases e:(DT s (t,(i,false),[]) n).2.1.2 with
   |false=>rfl
   |true=>rw[show(DT s (t,(i,false),[]) (n+1)).2.1.2=true from Nj e]at h;cases h
  have ih:=TI hB n hf';have hd:DT s (t,(i,false),[]) (n+1)=Ni s n (DT s (t,(i,false),[]) n):=rfl;rw[hd]at h|-;generalize DT s (t,(i,false),[]) n=x at *;obtain⟨t',⟨j,wr⟩,l⟩:=x;simp only at ih hl hf' h|-;obtain⟨i1,i2,i3⟩:=ih;unfold Ni at *;by_cases q:0<t'/\Fi s (j,wr)=n
  ·rw[if_pos q]at h|-;simp only at h|-;obtain⟨b1,b2,b4,b5,b6,b7⟩:=Yt h;simp only at b1 b2 b4 b7;generalize(JW s (j+1,wr)).1=y at *;have hj:j<s.length:=by omega
   have hpk:s.getD j 0=n:=by have:=q.2;unfold Fi at this;rw[if_pos hj]at this;exact this
   refine⟨?_,?_,?_⟩
   ·rw[Im,Ei l y n hl,if_neg (by omega)];unfold tl;rw[In l [y] n (by omega),i1,b4,Di s j hj,hpk,b7];unfold tl b3;simp
   ·rw[E9,Ei l y n hl,if_neg (by omega)];unfold ct;rw[In l [y] n (by omega),i2];unfold ct;omega
   ·intro f hf;by_cases e:f=n
    ·rw[e,Ei l y n hl];exact .inr ⟨b5,b6⟩
    ·have:=i3 f (by omega);simpa[List.getD,List.getElem?_append_left (show f<l.length by omega)]using this
  ·rw[if_neg q]at h|-;simp only at h|-;refine⟨?_,?_,?_⟩
   ·rw[Im,Ei l _ n hl,if_pos rfl];unfold tl;rw[In l _ n (by omega),i1];unfold tl;simp
   ·rw[E9,Ei l _ n hl,if_pos rfl];unfold ct;rw[In l _ n (by omega),i2];unfold ct;omega
   ·intro f hf;by_cases e:f=n
    ·rw[e,Ei l _ n hl];exact .inl rfl
    ·have:=i3 f (by omega);simpa[List.getD,List.getElem?_append_left (show f<l.length by omega)]using this
theorem XQ(hB:VG s){N:Nat}{d:ES}(h:(QH s N d).2.2=false):d.2=false/\(QH s N d).1.length=N/\(∀f,f<N->On ((QH s N d).1.getD f 0))/\s.drop d.1=((ct (QH s N d).1 N:Nat):Int)::tl (QH s N d).1 N++s.drop (QH s N d).2.1:=by
 have h':(if 0<(DT s ((Ai s 0 32 d).1.toNat,(Ai s 0 32 d).2,[]) N).1 then true else(DT s ((Ai s 0 32 d).1.toNat,(Ai s 0 32 d).2,[]) N).2.1.2)=false:=h;by_cases q:0<(DT s ((Ai s 0 32 d).1.toNat,(Ai s 0 32 d).2,[]) N).1
 ·rw[if_pos q]at h';cases h'
 rw[if_neg q]at h';have hn:(Ai s 0 32 d).2.2=false:=by
  cases e:(Ai s 0 32 d).2.2 with
  |false=>rfl
  |true=>rw[Ix (x:=((Ai s 0 32 d).1.toNat,(Ai s 0 32 d).2,[])) e N]at h';cases h'
 obtain⟨a1,a2,a3,a4,a5,a6⟩:=I5 (Int.le_refl 0) hn;have e2:(Ai s 0 32 d).2=(d.1+1,false):=Prod.ext a4 hn;have hf:=TI hB (i:=d.1+1) (t:=(Ai s 0 32 d).1.toNat) N (by rw[<-e2];exact h');have hl:=IQ (s:=s) (x:=((Ai s 0 32 d).1.toNat,(d.1+1,false),[])) rfl N;have q1:(QH s N d).1=(DT s ((Ai s 0 32 d).1.toNat,(d.1+1,false),[]) N).2.2:=by rw[<-e2];rfl
 have q2:(QH s N d).2.1=(DT s ((Ai s 0 32 d).1.toNat,(d.1+1,false),[]) N).2.1.1:=by rw[<-e2];rfl
 rw[e2]at q;rw[q1,q2];generalize DT s ((Ai s 0 32 d).1.toNat,(d.1+1,false),[]) N=x at *;refine⟨a1,hl,hf.2.2,?_⟩;rw[Di s d.1 a2,hf.1,<-a3];have:=hf.2.1;rw[List.cons_append]
 congr 1
 rw[a3]at *;omega
theorem Yv(hB:VG s){d:ES}(h:(Kx s d).2.2=false):d.2=false/\(Kx s d).1.length=32/\(∀f,f<32->On ((Kx s d).1.getD f 0))/\s.drop d.1=((ct (Kx s d).1 32:Nat):Int)::tl (Kx s d).1 32++s.drop (Kx s d).2.1:=XQ hB h
theorem ZI(hB:VG s){d:ES}(h:(I8 s d).2.2=false):d.2=false/\F_ (I8 s d).1/\s.drop d.1=Dk (I8 s d).1++s.drop (I8 s d).2.1:=by
 unfold I8 at *;simp only at *;by_cases q:(Ai s 0 1 d).1=0
 ·rw[if_pos q]at h|-;obtain⟨a1,a2,a3,a4,a5,a6⟩:=I5 (Int.le_refl 0) h;refine⟨a1,(λl e=>by cases e),?_⟩;show s.drop d.1=[0]++s.drop (Ai s 0 1 d).2.1;rw[a4,Di s d.1 a2,<-a3,q];rfl
 ·rw[if_neg q]at h|-;simp only at h|-;obtain⟨b1,b2,b3,b4⟩:=Yv hB h;obtain⟨a1,a2,a3,a4,a5,a6⟩:=I5 (Int.le_refl 0) b1;refine⟨a1,(λl e=>by injection e with e;subst e;exact⟨b2,b3⟩),?_⟩;rw[a4]at b4;rw[Di s d.1 a2,b4];show _=(1::((ct _ 32:Nat):Int)::tl _ 32)++_;have:s.getD d.1 0=1:=by rw[a3]at q;omega
  rw[this];rfl
theorem Nh(L:List (Option (List Int)))(m:List (Option (List Int))):∀n,n<=L.length->Br (L++m) n=Br L n
 |0,_=>rfl
 |n+1,h=>by
  show Br (L++m) n++_=Br L n++_;rw[Nh L m n (by omega)]
  congr 2
  simp[List.getD,List.getElem?_append_left (show n<L.length by omega)]
theorem T4(hB:VG s){i:Nat}:∀n,(Cw s ((i,false),[]) n).1.2=false->
  (Cw s ((i,false),[]) n).2.length=n/\(∀r,r∈(Cw s ((i,false),[]) n).2->F_ r)/\s.drop i=Br (Cw s ((i,false),[]) n).2 n++s.drop (Cw s ((i,false),[]) n).1.1
 |0,_=>⟨rfl,(λr h=>by cases h),rfl⟩
 |n+1,h=>by
  have hd:Cw s ((i,false),[]) (n+1)=if(Cw s ((i,false),[]) n).1.2 then Cw s ((i,false),[]) n else((I8 s (Cw s ((i,false),[]) n).1).2,(Cw s ((i,false),[]) n).2++[(I8 s (Cw s ((i,false),[]) n).1).1]):=rfl
  cases e:(Cw s ((i,false),[]) n).1.2 with
  |true=>rw[hd,e,if_pos rfl]at h;rw[e]at h;cases h
  |false=>
   obtain⟨i1,i2,i3⟩:=T4 hB n e;rw[hd,e,if_neg (by decide)]at h|-;generalize Cw s ((i,false),[]) n=x at *;simp only at h|-;obtain⟨a1,a2,a3⟩:=ZI hB h;refine⟨by simp[i1],?_,?_⟩
   ·intro r hr;rcases List.mem_append.1 hr with hr|hr
    ·exact i2 r hr
    ·rw[List.mem_singleton]at hr;rw[hr];exact a2
   ·show _=(Br (x.2++_) n++Dk ((x.2++_).getD n none))++_;rw[Nh _ _ n (by omega),i3,a3];have e2:(x.2++[(I8 s x.1).1]).getD n none=(I8 s x.1).1:=by simp[List.getD,<-i1]
    rw[e2,List.append_assoc]
theorem GM(hB:VG s){L:List (Option (List Int))}(h:DS s=some L):s=IM L/\1<=L.length/\L.length<=21/\∀r,r∈L->F_ r:=by
 unfold DS at h;simp only at h;split at h
 ·cases h
 ·rename_i q;injection h with h
  have q1:(Cw s ((Ai s 1 21 (0,false)).2,[]) (Ai s 1 21 (0,false)).1.toNat).1.2=false:=by
   cases e:(Cw s ((Ai s 1 21 (0,false)).2,[]) (Ai s 1 21 (0,false)).1.toNat).1.2 with
   |false=>rfl
   |true=>exact absurd (.inl e) q
  have q2:(Cw s ((Ai s 1 21 (0,false)).2,[]) (Ai s 1 21 (0,false)).1.toNat).1.1=s.length:=by
   by_cases e:(Cw s ((Ai s 1 21 (0,false)).2,[]) (Ai s 1 21 (0,false)).1.toNat).1.1=s.length
   ·exact e
   ·exact absurd (.inr e) q
  have hpw:∀(x:ES×List (Option (List Int)))(n:Nat),x.1.2=true->(Cw s x n).1.2=true:=by
   intro x n hx;induction n with
   |zero=>exact hx
   |succ n ih=>show(if(Cw s x n).1.2 then Cw s x n else _).1.2=true;rw[ih,if_pos rfl];exact ih
  have hn:(Ai s 1 21 (0,false)).2.2=false:=by
   cases e:(Ai s 1 21 (0,false)).2.2 with
   |false=>rfl
   |true=>rw[hpw ((Ai s 1 21 (0,false)).2,[]) _ e]at q1;cases q1
  obtain⟨a1,a2,a3,a4,a5,a6⟩:=I5 (by decide) hn;have e2:(Ai s 1 21 (0,false)).2=(1,false):=Prod.ext a4 hn;rw[e2]at q1 q2 h;obtain⟨i1,i2,i3⟩:=T4 hB _ q1;rw[h]at i1 i2 i3;simp only at a2 a3 a5 a6;rw[a3]at i1 i3 q2;refine⟨?_,by omega,by omega,i2⟩;have e3:s=s.getD 0 0::s.drop 1:=by have:=Di s 0 a2;simpa using this
  rw[e3];unfold IM;rw[i3,q2,List.drop_length,List.append_nil,i1]
  congr 1
  omega
theorem Gz(l:List Int)(n:Nat):∀k,∃r,Kr l (n+k)=Kr l n++r/\∀x,x∈r->n<=x.1/\x.1<n+k
 |0=>⟨[],by simp,λx h=>by cases h⟩
 |k+1=>by
  obtain⟨r,h1,h2⟩:=Gz l n k;refine⟨r++(if l.getD (n+k) 0=1000000 then[]else[(n+k,l.getD (n+k) 0)]),?_,?_⟩
  ·show Kr l (n+k)++(if l.getD (n+k) 0=1000000 then[]else[(n+k,l.getD (n+k) 0)])=_;rw[h1,List.append_assoc]
  ·intro x hx;rcases List.mem_append.1 hx with hx|hx
   ·have:=h2 x hx;omega
   ·split at hx
    ·cases hx
    ·rw[List.mem_singleton]at hx;subst hx;show n<=n+k/\n+k<n+(k+1);omega
theorem QS{l:List Int}{N:Nat}(hl:l.length=N)(hb:∀f,f<N->On (l.getD f 0)){i:Nat}{rest:List Int}(h:s.drop i=tl l N++rest):
  ∀n,n<=N->DT s (ct l N,(i,false),[]) n=(ct l N-ct l n,(i+3*ct l n,false),l.take n)/\ct l n<=ct l N
 |0,_=>⟨by show(ct l N,(i,false),[])=(ct l N-0,(i+3*0,false),[]);rfl,Nat.zero_le _⟩
 |n+1,hn=>by
  obtain⟨ih,hc⟩:=QS hl hb h n (by omega);obtain⟨r,hr,hr2⟩:=Gz l n (N-n);rw[show n+(N-n)=N by omega]at hr hr2;have hct:ct l N=ct l n+r.length:=by unfold ct;rw[hr,List.length_append]
  have hdr:s.drop (i+3*ct l n)=r.flatMap b3++rest:=by
   rw[<-List.drop_drop,h];have e:tl l N=tl l n++r.flatMap b3:=by unfold tl;rw[hr,List.flatMap_append]
   rw[e,List.append_assoc,<-JC l n,List.drop_append_of_le_length (Nat.le_refl _),List.drop_length,List.nil_append]
  obtain⟨r',hr',hr2'⟩:=Gz l (n+1) (N-(n+1));rw[show n+1+(N-(n+1))=N by omega]at hr' hr2';have e1:Kr l (n+1)=Kr l n++(if l.getD n 0=1000000 then[]else[(n,l.getD n 0)]):=rfl;rw[e1,List.append_assoc,hr]at hr';have hrr:r=(if l.getD n 0=1000000 then[]else[(n,l.getD n 0)])++r':=List.append_cancel_left hr';have htake:l.take (n+1)=l.take n++[l.getD n 0]:=by
   rw[List.take_succ_eq_append_getElem (by omega)];simp[List.getD,show n<l.length by omega]
  show Ni s n (DT s (ct l N,(i,false),[]) n)=_/\_;rw[ih];by_cases q:l.getD n 0=1000000
  ·rw[if_pos q,List.nil_append]at hrr;have hcs:ct l (n+1)=ct l n:=by rw[E9,if_pos q];rfl
   unfold Ni;rw[if_neg]
   ·rw[hcs,htake,q];exact⟨rfl,hc⟩
   ·rintro⟨h1,h2⟩;simp only at h1 h2;cases hrc:r' with
    |nil=>rw[hrr,hrc]at hct;simp at hct;omega
    |cons x xs=>
     rw[hrr,hrc]at hdr;have:=hr2' x (by rw[hrc];exact List.mem_cons_self ..);have hx:s.drop (i+3*ct l n)=(x.1:Int)::((x.2+4000)/256::(x.2+4000)%256::(xs.flatMap b3++rest)):=by rw[hdr];rfl
     obtain⟨c1,c2,_⟩:=Cz hx;unfold Fi at h2;rw[if_pos c1,c2]at h2;omega
  ·rw[if_neg q]at hrr;have hcs:ct l (n+1)=ct l n+1:=by rw[E9,if_neg q]
   have hx:s.drop (i+3*ct l n)=(n:Int)::((l.getD n 0+4000)/256::(l.getD n 0+4000)%256::(r'.flatMap b3++rest)):=by rw[hdr,hrr];rfl
   have hlen:r.length=1+r'.length:=by rw[hrr];simp;omega
   have hbd: -4000<=l.getD n 0/\l.getD n 0<=4000:=by rcases hb n (by omega)with e|e;exact absurd e q;exact e
   obtain⟨c1,c2,c3⟩:=Cz hx;have hy:=XN c3 hbd.1 hbd.2;unfold Ni;rw[if_pos]
   ·simp only;rw[hy,hcs,htake];refine⟨?_,by omega⟩;rw[show ct l N-ct l n-1=ct l N-(ct l n+1) by omega,show i+3*ct l n+1+2=i+3*(ct l n+1) by omega]
   ·simp only;refine⟨by omega,?_⟩;unfold Fi;rw[if_pos c1,c2]
theorem VX{l:List Int}{N:Nat}(hN:N<=32)(hl:l.length=N)(hb:∀f,f<N->On (l.getD f 0)){i:Nat}{rest:List Int}(h:s.drop i=((ct l N:Nat):Int)::(tl l N++rest)):QH s N (i,false)=(l,(i+(1+(tl l N).length),false)):=by
 have hc:=J6 l N;have e2:=Gw (lo:=0) (hi:=32) h (by omega) (by omega);obtain⟨f1,_⟩:=QS hl hb (Cz h).2.2 N (Nat.le_refl _);unfold QH;simp only[e2,Int.toNat_natCast,f1];rw[List.take_of_length_le (by omega),Nat.sub_self,if_neg (by omega),JC]
 congr 2
 omega
theorem X9{r:Option (List Int)}(hr:F_ r){i:Nat}{rest:List Int}(h:s.drop i=Dk r++rest):I8 s (i,false)=(r,(i+(Dk r).length,false)):=by
 cases r with
 |none=>
  have e:=Gw (lo:=0) (hi:=1) (show s.drop i=0::rest from h) (by omega) (by omega);unfold I8;simp only[e];rfl
 |some l=>
  obtain⟨hl,hb⟩:=hr l rfl;have h':s.drop i=1::((ct l 32:Nat):Int)::(tl l 32++rest):=h;have e:=Gw (lo:=0) (hi:=1) h' (by omega) (by omega);have e3:=VX (Nat.le_refl 32) hl hb (Cz h').2.2;have e4:(Dk (some l)).length=(tl l 32).length+1+1:=rfl;unfold I8 Kx;simp only[e,e3,e4];generalize(tl l 32).length=z;rw[if_neg (by omega),show i+1+(1+z)=i+(z+1+1) by omega]
theorem Lb(L:List (Option (List Int)))(n:Nat):∀k,∃r,Br L (n+k)=Br L n++r
 |0=>⟨[],by simp⟩
 |k+1=>by
  obtain⟨r,h⟩:=Lb L n k;exact⟨r++Dk (L.getD (n+k) none),by show Br L (n+k)++Dk (L.getD (n+k) none)=_;rw[h,List.append_assoc]⟩
theorem Da{L:List (Option (List Int))}(h:∀r,r∈L->F_ r)(n:Nat):F_ (L.getD n none):=by
 rcases Nat.lt_or_ge n L.length with q|q
 ·have:L.getD n none=L[n]:=by simp[List.getD,q]
  rw[this];exact h _ (List.getElem_mem q)
 ·have:L.getD n none=none:=by simp[List.getD,List.getElem?_eq_none q]
  rw[this];intro l e;cases e
theorem QR{L:List (Option (List Int))}{i:Nat}(h:s.drop i=Br L L.length){n:Nat}(hn:n<L.length):∃r,s.drop (i+(Br L n).length)=Dk (L.getD n none)++r:=by
 obtain⟨r,hr⟩:=Lb L (n+1) (L.length-(n+1));rw[show n+1+(L.length-(n+1))=L.length by omega]at hr;refine⟨r,?_⟩;rw[<-List.drop_drop,h,hr];show List.drop _ ((Br L n++Dk (L.getD n none))++r)=_;rw[List.append_assoc,List.drop_append_of_le_length (Nat.le_refl _),List.drop_length,List.nil_append]
theorem Q1{L:List (Option (List Int))}(hL:∀r,r∈L->F_ r){i:Nat}(h:s.drop i=Br L L.length):∀n,n<=L.length->
  Cw s ((i,false),[]) n=((i+(Br L n).length,false),L.take n)
 |0,_=>rfl
 |n+1,hn=>by
  have ih:=Q1 hL h n (by omega);obtain⟨r,hr⟩:=QR h (n:=n) (by omega);have hp:=X9 (Da hL n) hr;show(if(Cw s ((i,false),[]) n).1.2 then Cw s ((i,false),[]) n else _)=_;rw[ih,if_neg Bool.false_ne_true];simp only;rw[hp];have htake:L.take (n+1)=L.take n++[L.getD n none]:=by
   rw[List.take_succ_eq_append_getElem (by omega)];simp[List.getD,show n<L.length by omega]
  rw[htake];show((_,_),_)=((i+(Br L n++Dk (L.getD n none)).length,false),_)
  rw[List.length_append,Nat.add_assoc]
theorem QQ{L:List (Option (List Int))}(h1:1<=L.length)(h2:L.length<=21)(hL:∀r,r∈L->F_ r)(h:s=IM L):DS s=some L:=by
 have h':s.drop 0=(L.length:Int)::Br L L.length:=by rw[h];rfl
 have e:=Gw (lo:=1) (hi:=21) h' (by omega) (by omega);have hp:=Q1 hL (Cz h').2.2 L.length (Nat.le_refl _);unfold DS;simp only[e,Int.toNat_natCast];rw[hp,List.take_of_length_le (Nat.le_refl _)];rw[if_neg];rintro(q|q)
 ·cases q
 ·apply q;rw[h];show 0+1+(Br L L.length).length=(Br L L.length).length+1;omega
def MT(s:List Int):Nat->Nat->List Int->Option (Nat×List Int)
 |0,i,o=>some (i,o)
 |k+1,i,o=>if i+3<=s.length/\s.getD i 0<32 then MT s k (i+3) (o.set (s.getD i 0).toNat (256*s.getD (i+1) 0+s.getD (i+2) 0-4000))else none
def De:List Int:=List.replicate 32 1000000
def SJ(s:List Int)(i:Nat):Option (Nat×Option (List Int)):=
 if i<s.length/\s.getD i 0=0 then some (i+1,none)
 else if s.length<i+2 then none
 else match MT s (s.getD (i+1) 0).toNat (i+2) De with
  |none=>none
  |some y=>some (y.1,some y.2)
def Ob(s:List Int):Nat->Nat->List (Option (List Int))->Option (List (Option (List Int)))
 |0,_,L=>some L
 |k+1,i,L=>match SJ s i with
  |none=>none
  |some y=>Ob s k y.1 (L++[y.2])
def Nx(s:List Int):Option (List (Option (List Int))):=
 if s.length<1\/s.getD 0 0<1\/21<s.getD 0 0 then none else Ob s (s.getD 0 0).toNat 1 []
theorem TW{rest:List Int}:∀(r:List (Nat×Int))(i:Nat)(o:List Int),(∀x,x∈r->x.1<32)->s.drop i=r.flatMap b3++rest->
  MT s r.length i o=some (i+3*r.length,r.foldl (λo x=>o.set x.1 x.2) o)
 |[],i,o,_,_=>rfl
 |x::xs,i,o,hx,h=>by
  have h':s.drop i=(x.1:Int)::((x.2+4000)/256::(x.2+4000)%256::(xs.flatMap b3++rest)):=h;obtain⟨a1,a2,a3⟩:=Cz h';obtain⟨b1,b2,b3'⟩:=Cz a3;obtain⟨c1,c2,c3⟩:=Cz b3';have hlt:=hx x (List.mem_cons_self ..);show(if i+3<=s.length/\s.getD i 0<32 then MT s xs.length (i+3) (o.set (s.getD i 0).toNat (256*s.getD (i+1) 0+s.getD (i+2) 0-4000))else none)=_;rw[if_pos ⟨by omega,by omega⟩,a2,b2,show s.getD (i+2) 0=(x.2+4000)%256 from c2,Int.toNat_natCast,show 256*((x.2+4000)/256)+(x.2+4000)%256-4000=x.2 by omega];rw[TW xs (i+3) _ (λy hy=>hx y (List.mem_cons_of_mem _ hy)) c3]
  congr 2
  show i+3+3*xs.length=i+3*(xs.length+1);omega
theorem Nk(l:List Int)(hl:l.length=32):∀n,n<=32->(Kr l n).foldl (λo x=>o.set x.1 x.2) De=l.take n++List.replicate (32-n) 1000000
 |0,_=>rfl
 |n+1,hn=>by
  have ih:=Nk l hl n (by omega);have htake:l.take (n+1)=l.take n++[l.getD n 0]:=by
   rw[List.take_succ_eq_append_getElem (by omega)];simp[List.getD,show n<l.length by omega]
  have hrep:List.replicate (32-n) (1000000:Int)=1000000::List.replicate (32-(n+1)) 1000000:=by
   rw[show 32-n=(32-(n+1))+1 by omega];rfl
  show(Kr l n++(if l.getD n 0=1000000 then[]else[(n,l.getD n 0)])).foldl _ _=_;rw[List.foldl_append,ih,hrep,htake];split
  ·rename_i q;rw[q];simp
  ·show(l.take n++1000000::List.replicate (32-(n+1)) 1000000).set n (l.getD n 0)=_;have hln:(l.take n).length=n:=by rw[List.length_take];omega
   rw[List.set_append_right n _ (by omega),hln,Nat.sub_self];simp
theorem Vq{l:List Int}{N:Nat}(hN:N<=32)(hl:l.length=32){i:Nat}{rest:List Int}(h:s.drop i=tl l N++rest)(hNe:N=32:=by rfl):MT s (ct l N) i De=some (i+3*ct l N,l):=by
 have hlt:∀x,x∈Kr l N->x.1<32:=by
  obtain⟨r,q1,q2⟩:=Gz l 0 N;have:Kr l N=r:=by have:=q1;simpa[Kr]using this
  intro x hx;rw[this]at hx;have:=q2 x hx;omega
 have:=TW (Kr l N) i De hlt h;rw[Nk l hl N hN,List.take_of_length_le (by omega),hNe,Nat.sub_self,List.replicate_zero,List.append_nil,<-hNe]at this;exact this
theorem Vv{r:Option (List Int)}(hr:F_ r){i:Nat}{rest:List Int}(h:s.drop i=Dk r++rest):SJ s i=some (i+(Dk r).length,r):=by
 cases r with
 |none=>
  obtain⟨a1,a2,a3⟩:=Cz (show s.drop i=0::rest from h);unfold SJ;rw[if_pos ⟨a1,a2⟩];rfl
 |some l=>
  obtain⟨hl,hb⟩:=hr l rfl;have h':s.drop i=1::((ct l 32:Nat):Int)::(tl l 32++rest):=h;obtain⟨a1,a2,a3⟩:=Cz h';obtain⟨b1,b2,b3'⟩:=Cz a3;have e4:(Dk (some l)).length=(tl l 32).length+1+1:=rfl;have e5:=Vq (Nat.le_refl 32) hl b3';unfold SJ;rw[if_neg (by omega),if_neg (by omega),b2,Int.toNat_natCast,e4,JC];rw[show i+2=i+1+1 from rfl,e5];simp only;generalize ct l 32=z;rw[show i+1+1+3*z=i+(3*z+1+1) by omega]
theorem Te{L:List (Option (List Int))}(hL:∀r,r∈L->F_ r){i:Nat}(h:s.drop i=Br L L.length):∀k,k<=L.length->Ob s k (i+(Br L (L.length-k)).length) (L.take (L.length-k))=some L
 |0,_=>by show some _=_;rw[Nat.sub_zero,List.take_of_length_le (Nat.le_refl _)]
 |k+1,hk=>by
  obtain⟨r,hr⟩:=QR h (n:=L.length-(k+1)) (by omega);have hp:=Vv (Da hL _) hr;have ih:=Te hL h k (by omega);have htake:L.take (L.length-(k+1))++[L.getD (L.length-(k+1)) none]=L.take (L.length-k):=by
   rw[show L.length-k=(L.length-(k+1))+1 by omega,List.take_succ_eq_append_getElem (by omega)];simp[List.getD,show L.length-(k+1)<L.length by omega]
  have hen:Br L (L.length-k)=Br L (L.length-(k+1))++Dk (L.getD (L.length-(k+1)) none):=by
   rw[show L.length-k=(L.length-(k+1))+1 by omega];rfl
  show(match SJ s _ with|none=>none|some y=>Ob s k y.1 (_++[y.2]))=_;rw[hp];simp only;rw[htake,Nat.add_assoc,<-List.length_append,<-hen];exact ih
theorem Vu{L:List (Option (List Int))}(h1:1<=L.length)(h2:L.length<=21)(hL:∀r,r∈L->F_ r)(h:s=IM L):Nx s=some L:=by
 have h':s.drop 0=(L.length:Int)::Br L L.length:=by rw[h];rfl
 obtain⟨a1,a2,a3⟩:=Cz h';have:=Te hL a3 L.length (Nat.le_refl _);rw[Nat.sub_self]at this;unfold Nx;rw[if_neg (by omega),a2,Int.toNat_natCast];exact this
end Go.Proofs.YtffajooegiempaaGreatDoor
namespace Go.Proofs.YtffajooegiempaaGreatDoor
def NB:Int:=1000000
def opp(i:Nat):Nat:=if i%2=0 then i+1 else i-1
def pl(a b:Int):Int:=if a=NB\/b=NB then NB else a+b
def Bw(M:Nat->Int)(k:Nat)(x:Int):Nat->Int:=λa=>if a=k then x else M a
theorem Ah{i:Nat}(h:i<8):opp i<8:=by unfold opp;split<;>omega
theorem CV(M:Nat->Int)(k:Nat)(x:Int):Bw M k x k=x:=if_pos rfl
theorem BO(M:Nat->Int){k a:Nat}(x:Int)(h:a≠k):Bw M k x a=M a:=if_neg h
def Sv(s:Nat)(M:Nat->Int)(k:Nat):Nat->Int:=
 if pl (M (k/8*8+opp s)) (M (s*8+k%8))<M k then Bw M k (pl (M (k/8*8+opp s)) (M (s*8+k%8)))else M
def E6(s:Nat)(M:Nat->Int):Nat->Nat->Int
 |0=>M
 |k+1=>Sv s (E6 s M k) k
def fw(M:Nat->Int):Nat->Nat->Int
 |0=>M
 |s+1=>E6 s (fw M s) 64
def Zl(M:Nat->Int)(i:Nat):Nat->Int:=if M (i*8+i)=NB then M else Bw M (i*8+i) (M (i*8+i)/2*2)
def Ef(M:Nat->Int):Nat->Nat->Int
 |0=>M
 |i+1=>Zl (Ef M i) i
def SZ(M:Nat->Int)(k:Nat):Nat->Int:=
 if pl (M (k/8*8+k/8)) (M (k%8*8+k%8))≠NB/\(pl (M (k/8*8+k/8)) (M (k%8*8+k%8))).tdiv 2<M k then Bw M k ((pl (M (k/8*8+k/8)) (M (k%8*8+k%8))).tdiv 2)else M
def Ea(M:Nat->Int):Nat->Nat->Int
 |0=>M
 |k+1=>SZ (Ea M k) k
def Aj(M:Nat->Int):Nat->Int:=Ea (Ef (fw M 8) 8) 64
def By(M:Nat->Int):Nat->Bool
 |0=>false
 |i+1=>By M i||decide (M (i*8+opp i)<0)
theorem XU(s:Nat)(M:Nat->Int)(k a:Nat):Sv s M k a<=M a:=by
 unfold Sv;split
 ·unfold Bw;split
  ·rename_i h e;subst e;exact Int.le_of_lt h
  ·exact Int.le_refl _
 ·exact Int.le_refl _
theorem J3(s:Nat)(M:Nat->Int):∀k a,E6 s M k a<=M a
 |0,_=>Int.le_refl _
 |k+1,a=>Int.le_trans (XU s _ k a) (J3 s M k a)
theorem F8(M:Nat->Int):∀s a,fw M s a<=M a
 |0,_=>Int.le_refl _
 |s+1,a=>by rw[fw];exact Int.le_trans (J3 s _ 64 a) (F8 M s a)
theorem YE(M:Nat->Int)(i a:Nat):Zl M i a<=M a:=by
 unfold Zl;split
 ·exact Int.le_refl _
 ·unfold Bw;split
  ·rename_i e;subst e;omega
  ·exact Int.le_refl _
theorem Hx(M:Nat->Int):∀i a,Ef M i a<=M a
 |0,_=>Int.le_refl _
 |i+1,a=>Int.le_trans (YE _ i a) (Hx M i a)
theorem XK(M:Nat->Int)(k a:Nat):SZ M k a<=M a:=by
 unfold SZ;split
 ·unfold Bw;split
  ·rename_i h e;subst e;exact Int.le_of_lt h.2
  ·exact Int.le_refl _
 ·exact Int.le_refl _
theorem Is(M:Nat->Int):∀k a,Ea M k a<=M a
 |0,_=>Int.le_refl _
 |k+1,a=>Int.le_trans (XK _ k a) (Is M k a)
theorem Cs(M:Nat->Int)(a:Nat):Aj M a<=M a:=Int.le_trans (Is _ 64 a) (Int.le_trans (Hx _ 8 a) (F8 M 8 a))
def Lo(L:Int)(M:Nat->Int):Prop:=∀a,a<64-> -L<=M a
structure Z4(L:Int)(s:Nat)(M M':Nat->Int)(k:Nat):Prop where
 old:∀a,k<=a->M' a=M a
 all:∀a,a<64-> -(6*L)<=M' a
 col:∀i,i<8-> -(3*L)<=M' (i*8+opp s)
 row:∀j,j<8-> -(3*L)<=M' (s*8+j)
 cor: -(2*L)<=M' (s*8+opp s)
theorem N5{a b x y:Int}(ha: -x<=a)(hb: -y<=b)(h: -1000000<=x+y): -(x+y)<=pl a b:=by
 unfold pl NB;split
 ·omega
 ·omega
theorem Sw{L:Int}{s:Nat}{M:Nat->Int}(hL:0<=L)(hs:s<8)(h:Lo L M):∀k,k<=64->Z4 L s M (E6 s M k) k:=by
 have ho:=Ah hs;intro k;induction k with
 |zero=>
  intro _;refine⟨λ_ _=>rfl,λa ha=>?_,λi hi=>?_,λj hj=>?_,?_⟩
  ·have:=h a ha;show _<=M a;omega
  ·have:=h (i*8+opp s) (by omega);show _<=M _;omega
  ·have:=h (s*8+j) (by omega);show _<=M _;omega
  ·have:=h (s*8+opp s) (by omega);show _<=M _;omega
 |succ k ih=>
  intro hk;have hc:=ih (by omega);have hi:k/8<8:=by omega
  have hj:k%8<8:=by omega
  have hkk:k/8*8+k%8=k:=by omega
  have hkM:E6 s M k k=M k:=hc.old k (Nat.le_refl _);have hMk: -L<=M k:=h k (by omega);have c1:=hc.col _ hi;have c2:=hc.row _ hj;have c3:=hc.cor;show Z4 L s M (Sv s (E6 s M k) k) (k+1);unfold Sv;split
  ·have g6: -(6*L)<=pl (E6 s M k (k/8*8+opp s)) (E6 s M k (s*8+k%8)):=by
    have:=N5 c1 c2 (by omega);omega
   refine⟨λa ha=>?_,λa ha=>?_,λi hi'=>?_,λj hj'=>?_,?_⟩
   ·rw[BO _ _ (by omega)];exact hc.old a (by omega)
   ·unfold Bw;split
    ·exact g6
    ·exact hc.all a ha
   ·unfold Bw;split
    ·rename_i e;have e1:k/8=i:=by omega
     have e2:k%8=opp s:=by omega
     have:E6 s M k (k/8*8+opp s)=M k:=by rw[show k/8*8+opp s=k by omega];exact hkM
     rw[this,e2];have:=N5 (x:=L) (y:=2*L) hMk c3 (by omega);omega
    ·exact hc.col i hi'
   ·unfold Bw;split
    ·rename_i e;have e1:k/8=s:=by omega
     have e2:k%8=j:=by omega
     have:E6 s M k (s*8+k%8)=M k:=by rw[show s*8+k%8=k by omega];exact hkM
     rw[this,e1];have:=N5 (x:=2*L) (y:=L) c3 hMk (by omega);omega
    ·exact hc.row j hj'
   ·unfold Bw;split
    ·rename_i e;have e1:k/8=s:=by omega
     have e2:k%8=opp s:=by omega
     have:E6 s M k (s*8+opp s)=M k:=by rw[e];exact hkM
     rw[e1,e2,this];have:=N5 (x:=L) (y:=L) hMk hMk (by omega);omega
    ·exact hc.cor
  ·exact⟨λa ha=>hc.old a (by omega),hc.all,hc.col,hc.row,hc.cor⟩
theorem QW{M:Nat->Int}{L:Int}(hL:0<=L)(h:Lo L M):∀s,s<=8->Lo (L*6^s) (fw M s):=by
 intro s;induction s with
 |zero=>intro _;simpa[fw]using h
 |succ s ih=>
  intro hs;have h1:=ih (by omega);have hp:0<=L*6^s:=Int.mul_nonneg hL (Int.le_of_lt (Int.pow_pos (by decide)));have h2:=(Sw (s:=s) hp (by omega) h1 64 (Nat.le_refl _)).all;intro a ha;have:=h2 a ha;rw[fw,Int.pow_succ];have e:L*(6^s*6)=6*(L*6^s):=by rw[<-Int.mul_assoc,Int.mul_comm]
  rw[e];exact this
end Go.Proofs.YtffajooegiempaaGreatDoor
namespace Go.Proofs.YtffajooegiempaaGreatDoor
open Go.RowKit
variable {w:World}
def G8(n:Int):Bool:=decide (n=NB\/(-4000<=n/\n<=4000))
def B_(l:List Int):Prop:=l.length=32/\∀i,i<32->G8 (l.getD i 0)=true
theorem Rk(n:Int):Calls Tryz.prog 121 #[.int .i64 n] w λe w'=>e=.returned (.bool (G8 n))/\w'=w:=by
 by_cases h1:n=1000000
 ·subst h1;go_enter Tryz.func121,Tryz.ntmps121;go_wp2_with fail;go_ret;exact⟨rfl,rfl⟩
 have q1:(n==1000000)=false:=by simpa using h1
 by_cases h2: -4000<=n
 ·by_cases h3:n<=4000
  ·have HE:Hid (G8 n=true):=by show G8 n=true;unfold G8;exact decide_eq_true (.inr ⟨h2,h3⟩)
   clear h1;go_enter Tryz.func121,Tryz.ntmps121;go_wp2_with fail;go_ret;exact⟨by rw[HE.out];rfl,rfl⟩
  ·have HE:Hid (G8 n=false):=by show G8 n=false;unfold G8;exact decide_eq_false (λe=>e.elim h1 (λe=>h3 e.2))
   clear h1;go_enter Tryz.func121,Tryz.ntmps121;go_wp2_with fail;go_ret;exact⟨by rw[HE.out];rfl,rfl⟩
 ·have HE:Hid (G8 n=false):=by show G8 n=false;unfold G8;exact decide_eq_false (λe=>e.elim h1 (λe=>h2 e.1))
  clear h1;go_enter Tryz.func121,Tryz.ntmps121;go_wp2_with fail;go_ret;exact⟨by rw[HE.out];rfl,rfl⟩
def Kp(l:List Int):Nat->Bool
 |0=>true
 |f+1=>Kp l f&&G8 (l.getD f 0)
def FM(l:List Int):Bool:=decide (l.length=32)&&Kp l 32
theorem QZ{l:List Int}:∀{n:Nat},Kp l n=true↔∀f,f<n->G8 (l.getD f 0)=true:=by
 intro n;induction n with
 |zero=>exact⟨λ_ f hf=>absurd hf (by omega),λ_=>rfl⟩
 |succ n ih=>
  show(Kp l n&&G8 (l.getD n 0))=true↔_;rw[Bool.and_eq_true,ih];constructor
  ·rintro⟨h1,h2⟩ f hf;rcases Nat.lt_or_eq_of_le (Nat.lt_succ_iff.1 hf)with q|q
   ·exact h1 f q
   ·rw[q];exact h2
  ·intro h;exact⟨λf hf=>h f (by omega),h n (by omega)⟩
theorem CG{l:List Int}:FM l=true↔B_ l:=by
 unfold FM B_;rw[Bool.and_eq_true,decide_eq_true_eq,QZ]
theorem TO{l:List Int}{f:Nat}(hf:f<32)(h:G8 (l.getD f 0)=false):Kp l 32=false:=by
 cases e:Kp l 32 with
 |false=>rfl
 |true=>rw[QZ.1 e f hf]at h;cases h
theorem GV(u:Value)(l:List Int)(_hm:l.length<=1073741824)(hu:AQ w u l):
  Calls Tryz.prog 75 #[u] w λe w'=>e=.returned (.bool (FM l))/\w'=w:=by
 obtain⟨au,cu,rfl,hcu,h0⟩:=hu;by_cases h32:l.length=32
 ·have HE:Hid (FM l=Kp l 32):=by show FM l=_;unfold FM;rw[decide_eq_true h32];rfl
  obtain⟨p,off,rfl,hp,hcell⟩:=h0 (by omega);have HC:Hid (∀i,i<32->w.cell? ⟨p,off+i,none⟩=some (.int .i64 (l.getD i 0))):=λi hi=>hcell i (by omega);rw[h32];clear h0 hcell hcu h32 _hm;go_enter Tryz.func75,Tryz.ntmps75;go_wp2_with fail;go_loopw [3] (λi wr=>∃(f:Nat),f<=32/\i=.int .i64 f/\wr=w/\Hid (Kp l f=true)) (λi _=>32-(intOf i).toNat);case atStart=>exact⟨0,by omega,rfl,rfl,rfl⟩
  case round=>
   obtain⟨f,hf,rfl,rfl,HR⟩:=hrel;by_cases hlt:f<32
   ·have hfi:(f:Int)<32:=by omega
    have HEq:Hid (Kp l (f+1)=(Kp l f&&G8 (l.getD f 0))):=rfl;have cx:=HC.out f hlt;have HNo:Hid (¬(l.getD f 0=1000000\/(-4000<=l.getD f 0/\l.getD f 0<=4000))->Kp l 32=false):=λh=>TO hlt (decide_eq_false h);generalize l.getD f 0=x at *;by_cases e1:x=1000000
    ·have HY:Hid (G8 x=true):=decide_eq_true (.inl e1);have e1':(x != 1000000)=false:=by rw[e1];rfl
     go_wp2_with fail;go_roundw;case rel=>exact⟨f+1,by omega,by go_num,by simp,by show Kp l (f+1)=true;rw[HEq.out,HR.out,HY.out];rfl⟩
     case measure=>simp[intOf];omega
    ·have e1':(x != 1000000)=true:=by rw[bne_iff_ne];exact e1
     by_cases e2:x< -4000
     ·have HF:Hid (Kp l 32=false):=HNo.out (by omega);go_wp2_with fail;go_ret;exact⟨by rw[HE.out,HF.out];rfl,rfl⟩
     ·by_cases e3:4000<x
      ·have HF:Hid (Kp l 32=false):=HNo.out (by omega);go_wp2_with fail;go_ret;exact⟨by rw[HE.out,HF.out];rfl,rfl⟩
      ·have HY:Hid (G8 x=true):=decide_eq_true (by exact .inr ⟨by omega,by omega⟩);go_wp2_with fail;go_roundw;case rel=>exact⟨f+1,by omega,by go_num,by simp,by show Kp l (f+1)=true;rw[HEq.out,HR.out,HY.out];rfl⟩
       case measure=>simp[intOf];omega
   ·have hf32:f=32:=by omega
    subst hf32;go_wp2_with fail;go_ret;exact⟨by rw[HE.out,HR.out];rfl,rfl⟩
 ·have HE:Hid (FM l=false):=by show FM l=_;unfold FM;rw[decide_eq_false h32];rfl
  have hb:((l.length:Int) != 32)=true:=by rw[bne_iff_ne];omega
  clear h0 h32;go_enter Tryz.func75,Tryz.ntmps75;go_wp2_with fail;go_ret;exact⟨by rw[HE.out];rfl,rfl⟩
theorem KN(u:Value)(l:List Int)(hu:AQ w u l):
  Calls Tryz.prog 87 #[u] w λe w'=>e=.returned (.bool (FM l))/\w'=w:=by
 obtain⟨au,cu,rfl,hcu,h0⟩:=hu;have kb:=λ(n:Int)=>Rk (w:=w) n;by_cases h32:l.length=32
 ·have HE:Hid (FM l=Kp l 32):=by show FM l=_;unfold FM;rw[decide_eq_true h32];rfl
  obtain⟨p,off,rfl,hp,hcell⟩:=h0 (by omega);have HC:Hid (∀i,i<32->w.cell? ⟨p,off+i,none⟩=some (.int .i64 (l.getD i 0))):=λi hi=>hcell i (by omega);rw[h32];clear h0 hcell hcu h32;go_enter Tryz.func87,Tryz.ntmps87;go_wp2_with fail;go_loopw [10] (λi wr=>∃(f:Nat),f<=32/\i=.int .i64 f/\wr=w/\Hid (Kp l f=true)) (λi _=>32-(intOf i).toNat);case atStart=>exact⟨0,by omega,rfl,rfl,rfl⟩
  case round=>
   obtain⟨f,hf,rfl,rfl,HR⟩:=hrel;by_cases hlt:f<32
   ·have hfi:(f:Int)<32:=by omega
    have HEq:Hid (Kp l (f+1)=(Kp l f&&G8 (l.getD f 0))):=rfl;have cx:=HC.out f hlt;have HNo:Hid (G8 (l.getD f 0)=false->Kp l 32=false):=λh=>TO hlt h;generalize l.getD f 0=x at *;cases hb:G8 x with
    |true=>
     have kx:=kb x;rw[hb]at kx;have HY:Hid (G8 x=true):=hb;clear hb kb;go_wp2_with fail;refine kx.mono ?_;rintro e w2 ⟨rfl,rfl⟩;go_wp2_with fail;go_roundw;case rel=>exact⟨f+1,by omega,by go_num,by simp,by show Kp l (f+1)=true;rw[HEq.out,HR.out,HY.out];rfl⟩
     case measure=>simp[intOf];omega
    |false=>
     have kx:=kb x;rw[hb]at kx;have HF:Hid (Kp l 32=false):=HNo.out hb;clear hb kb;go_wp2_with fail;refine kx.mono ?_;rintro e w2 ⟨rfl,rfl⟩;go_wp2_with fail;go_ret;exact⟨by rw[HE.out,HF.out];rfl,rfl⟩
   ·have hf32:f=32:=by omega
    subst hf32;go_wp2_with fail;go_ret;exact⟨by rw[HE.out,HR.out];rfl,rfl⟩
 ·have HE:Hid (FM l=false):=by show FM l=_;unfold FM;rw[decide_eq_false h32];rfl
  have hb:((l.length:Int) != 32)=true:=by rw[bne_iff_ne];omega
  clear h0 h32;go_enter Tryz.func87,Tryz.ntmps87;go_wp2_with fail;go_ret;exact⟨by rw[HE.out];rfl,rfl⟩
end Go.Proofs.YtffajooegiempaaGreatDoor
namespace Go.Proofs.YtffajooegiempaaGreatDoor
open Go.RowKit
structure BC(m:Nat)(w w':World):Prop where
 os:w'.os=w.os
 tape:w'.tape=w.tape
 output:w'.output=w.output
 size:w.heap.size<=w'.heap.size
 block:∀k,k<w.heap.size->k≠m->w'.heap[k]?=w.heap[k]?
variable {m:Nat}{a b c w w':World}
theorem BC.refl(m:Nat)(w:World):BC m w w:=⟨rfl,rfl,rfl,Nat.le_refl _,λ_ _ _=>rfl⟩
theorem BC.trans(h:BC m a b)(k:BC m b c):BC m a c:=
 ⟨k.os.trans h.os,k.tape.trans h.tape,k.output.trans h.output,Nat.le_trans h.size k.size,λi hi hn=>(k.block i (Nat.lt_of_lt_of_le hi h.size) hn).trans (h.block i hi hn)⟩
theorem BC.of(h:Below w.heap.size w w')(m:Nat):BC m w w':=⟨h.os,h.tape,h.output,h.size,λk hk _=>h.block k hk⟩
theorem BC.own(h:BC m a b){q:Nat}(hq:q=m\/a.heap.size<=q)(o:Nat)(u:Value):BC m a (b.setCell ⟨q,o,none⟩ u):=
 ⟨h.os,h.tape,h.output,by have:=h.size;simpa[World.setCell]using this,λk hk hn=>(Below.heap_setCell _ _ _ _ (by show k≠q;omega)).trans (h.block k hk hn)⟩
theorem BC.setCell(h:BC m a b)(o:Nat)(u:Value):BC m a (b.setCell ⟨m,o,none⟩ u):=h.own (.inl rfl) o u
theorem BC.alloc(h:BC m a b)(o:Obj):BC m a (b.alloc o):=h.trans (BC.of ((Below.refl _ _).alloc (Nat.le_refl _) _) m)
theorem BC.drewN(h:BC m a b)(n:Nat):BC m a (b.drewN n):=⟨h.os,h.tape,h.output,h.size,h.block⟩
theorem BC.below(h:BC m a b){B:Nat}(h1:B<=m)(h2:B<=a.heap.size):Below B a b:=⟨h.os,h.tape,h.output,h.size,λk hk=>h.block k (by omega) (by omega)⟩
theorem BC.at_{q:Nat}{c:Array Value}{t:TypeId}(h:BC m w w')(ha:At w q c t)(hn:q≠m):At w' q c t:=ha.same (h.block q ha.lt hn)
theorem BC.cell(h:BC m w w'){q:Nat}(hq:q<w.heap.size)(hn:q≠m)(i:Nat):w'.cell? ⟨q,i,none⟩=w.cell? ⟨q,i,none⟩:=World.cell?_of_block (a:=⟨q,i,none⟩) (h.block q hq hn)
theorem At.keep{w w':World}{B b:Nat}{c:Array Value}{t:TypeId}(h:At w b c t)(hb:Below B w w')(hlt:b<B):At w' b c t:=h.same (hb.block b hlt)
theorem At.allocH{b:Nat}{c:Array Value}{t:TypeId}(h:At w b c t)(o:Obj):At (w.alloc o) b c t:=h.keep ((Below.refl _ _).alloc (Nat.le_refl _) _) h.lt
theorem At.new(w:World)(c:Array Value)(t:TypeId):At (w.alloc (.cells c t)) w.heap.size c t:=by
 show(w.heap.push _)[w.heap.size]?=_;simp
end Go.Proofs.YtffajooegiempaaGreatDoor
