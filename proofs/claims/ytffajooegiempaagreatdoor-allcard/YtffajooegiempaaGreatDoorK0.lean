import Derived.ArgAppend
import Derived.BigQuiet
import Derived.BigRegion
import Derived.Deep.MidRow
import Derived.Deep.QuietTactic
import Derived.Deep.RegionHeld3
import Derived.Deep.RegionLaw
import Derived.Deep.RegionWith
import Derived.Great.BuildSlice
import Derived.Laws.AppendOwn
import Derived.Laws.BitsLemmas
import Derived.Laws.BytesArg
import Derived.Laws.Concat
import Derived.Laws.CopyOwn
import Derived.Laws.MakeOwn
import Derived.Laws.OwnMore
import Derived.Laws.Rows
import Derived.Laws.Tables
import Derived.StillTailTactics
import Derived.Stop.Joined
import Derived.WalkKit
import Derived.WalkLawsBesides
import Derived.WalkSpells
import Derived.Test.YtffajooegiempaaGreatDoorRows
set_option maxRecDepth 100000
set_option maxHeartbeats 6400000
namespace Go.Proofs.YtffajooegiempaaGreatDoor
open Go.RowKit Go.Proofs.Tryz
abbrev dc(w z:World):Prop:=Below w.heap.size w z
theorem a_:type_of% @if_neg:=@if_neg
theorem bA:type_of% @if_pos:=@if_pos
theorem bB:type_of% @Nat.le_refl:=@Nat.le_refl
theorem bC:type_of% @Below.refl:=@Below.refl
theorem bD:type_of% @below_drewN:=@below_drewN
theorem bE:type_of% @AllReady.cons:=@AllReady.cons
theorem bF:type_of% @AllReady.nil:=@AllReady.nil
theorem bG:type_of% @List.getD_eq_getElem?_getD:=@List.getD_eq_getElem?_getD
theorem bH:type_of% @Below.setCell:=@Below.setCell
theorem bI:type_of% @wpAny_ready:=@wpAny_ready
theorem bJ:type_of% @bodyPost_ret:=@bodyPost_ret
theorem bK:type_of% @Int.toNat_natCast:=@Int.toNat_natCast
theorem bL:type_of% @World.cell?_alloc_at:=@World.cell?_alloc_at
theorem bM:type_of% @Nat.lt_of_lt_of_le:=@Nat.lt_of_lt_of_le
theorem bN:type_of% @Int.le_refl:=@Int.le_refl
theorem bO:type_of% @List.getElem?_eq_none:=@List.getElem?_eq_none
theorem bP:type_of% @List.getElem?_eq_getElem:=@List.getElem?_eq_getElem
theorem bQ:type_of% @wpAny_take:=@wpAny_take
theorem bR:type_of% @List.mem_of_getElem?:=@List.mem_of_getElem?
theorem bS:type_of% @Nat.add_assoc:=@Nat.add_assoc
theorem bT:type_of% @decide_eq_false:=@decide_eq_false
theorem bU:type_of% @List.getElem?_append_left:=@List.getElem?_append_left
theorem bV:type_of% @Option.some.inj:=@Option.some.inj
theorem bW:type_of% @Nat.lt_or_ge:=@Nat.lt_or_ge
theorem bX:type_of% @Nat.lt_or_eq_of_le:=@Nat.lt_or_eq_of_le
theorem bY:type_of% @Nat.zero_le:=@Nat.zero_le
theorem bZ:type_of% @Nat.add_zero:=@Nat.add_zero
theorem b8:type_of% @List.length_set:=@List.length_set
theorem b9:type_of% @beq_eq_false_iff_ne:=@beq_eq_false_iff_ne
theorem b_:type_of% @Or.inl:=@Or.inl
theorem cd:type_of% @Int.le_trans:=@Int.le_trans
theorem ce:type_of% @of_decide_eq_true:=@of_decide_eq_true
theorem ch:type_of% @Nat.lt_succ_iff:=@Nat.lt_succ_iff
theorem cj:type_of% @wpList_append_fits:=@wpList_append_fits
theorem cn:type_of% @List.length_append:=@List.length_append
theorem cr:type_of% @wpAny_done:=@wpAny_done
theorem cz:type_of% @Lib.run_eql_slice_nil:=@Lib.run_eql_slice_nil
theorem cA:type_of% @Bool.and_eq_true:=@Bool.and_eq_true
theorem cB:type_of% @Array.getElem?_push:=@Array.getElem?_push
theorem cC:type_of% @decide_eq_true:=@decide_eq_true
theorem cD:type_of% @decide_eq_true_eq:=@decide_eq_true_eq
theorem cF:type_of% @Calls.quiet_of:=@Calls.quiet_of
theorem cG:type_of% @List.take_of_length_le:=@List.take_of_length_le
theorem cH:type_of% @List.getElem?_set:=@List.getElem?_set
theorem cI:type_of% @bne_iff_ne:=@bne_iff_ne
theorem cJ:type_of% @World.cell?_alloc_past:=@World.cell?_alloc_past
theorem cK:type_of% @results_none:=@results_none
theorem cL:type_of% @List.mem_or_eq_of_mem_set:=@List.mem_or_eq_of_mem_set
theorem cN:type_of% @Nat.le_trans:=@Nat.le_trans
theorem cP:type_of% @Array.getElem?_toList:=@Array.getElem?_toList
theorem cQ:type_of% @Array.getElem?_eq_getElem:=@Array.getElem?_eq_getElem
theorem cR:type_of% @Int.lt_or_le:=@Int.lt_or_le
theorem cS:type_of% @IntKind.wrap_i64:=@IntKind.wrap_i64
theorem cU:type_of% @Nat.zero_add:=@Nat.zero_add
theorem cV:type_of% @Bool.or_eq_true:=@Bool.or_eq_true
theorem cW:type_of% @List.map_congr_left:=@List.map_congr_left
theorem cX:type_of% @Calls.quiet_of_same:=@Calls.quiet_of_same
theorem cY:type_of% @List.mem_append:=@List.mem_append
theorem cZ:type_of% @List.length_singleton:=@List.length_singleton
theorem c_:type_of% @info_parts:=@info_parts
theorem db:type_of% @List.length_cons:=@List.length_cons
def CJ(c:Int):Int:=if 97<=c/\c<=100 then c-97 else -1
def At(w:World)(b:Nat)(c:Array Value)(t:TypeId):Prop:=w.heap[b]?=some (.cells c t (0,0))
theorem At.cell{w:World}{b:Nat}{c:Array Value}{t:TypeId}(h:At w b c t)(i:Nat):w.cell? ⟨b,i,none⟩=c[i]?:=by
 unfold At at h;simp[World.cell?,h]
theorem At.free{w:World}{b:Nat}{c:Array Value}{t:TypeId}(h:At w b c t)(i:Nat):w.frozen? ⟨b,i,none⟩=false:=by
 unfold At at h;simp[World.frozen?,h]
theorem At.lt{w:World}{b:Nat}{c:Array Value}{t:TypeId}(h:At w b c t):b<w.heap.size:=lt_of_block h
theorem At.ne{w:World}{a b:Nat}{c d:Array Value}{t u:TypeId}(h:At w a c t)(k:At w b d u)(hn:t≠u):a≠b:=by
 intro e;subst e;unfold At at h k;rw[h]at k;simp at k;exact hn k.2
theorem At.same{w w':World}{b:Nat}{c:Array Value}{t:TypeId}(h:At w b c t)(k:w'.heap[b]?=w.heap[b]?):At w' b c t:=by
 unfold At at *;rw[k];exact h
theorem At.other{w:World}{b:Nat}{c:Array Value}{t:TypeId}(h:At w b c t){a:Nat}(o:Nat)(u:Value)(hn:b≠a):At (w.setCell ⟨a,o,none⟩ u) b c t:=
 h.same (Below.heap_setCell _ _ _ _ hn)
theorem At.put{w:World}{b:Nat}{c:Array Value}{t:TypeId}(h:At w b c t)(o:Nat)(u:Value):At (w.setCell ⟨b,o,none⟩ u) b (c.setIfInBounds o u) t:=by
 have f:=h.lt;unfold At at *;have g:w.heap[b]=.cells c t (0,0):=by simpa[cQ f]using h
 show(w.heap.modify b _)[b]?=_;rw[cQ (by simpa using f),Array.getElem_modify_self,g];rfl
theorem At.drewN{w:World}{b:Nat}{c:Array Value}{t:TypeId}(h:At w b c t)(k:Nat):At (w.drewN k) b c t:=h
theorem IX(a b:Int)(h0: -1<=a)(h1:a<=1)(h2: -99<=b)(h3:b<=99):wrap64 (a*b)=a*b:=by
 have: -99<=a*b/\a*b<=99:=by
  rcases(show a= -1\/a=0\/a=1 by omega)with rfl|rfl|rfl<;>omega
 unfold wrap64;omega
def ic(l:List Int):Array Value:=(l.map (Value.int .i64)).toArray
theorem Aa(l:List Int)(i:Nat)(h:i<l.length):(ic l)[i]?=some (.int .i64 (l.getD i 0)):=by
 simp[ic,List.getD,h]
theorem Be(l:List Int)(i:Nat)(x:Int):(ic l).setIfInBounds i (.int .i64 x)=ic (l.set i x):=by simp[ic,List.map_set]
theorem Qc(l:List Int):(ic l).size=l.length:=by simp[ic]
def AQ(w:World)(v:Value)(l:List Int):Prop:=
 ∃f cap,v=.slice f l.length cap/\l.length<=cap/\(l.length≠0->∃b off,f=some ⟨b,off,none⟩/\b<w.heap.size/\∀i,i<l.length->w.cell? ⟨b,off+i,none⟩=some (.int .i64 (l.getD i 0)))
theorem AQ.keep{w w':World}{v:Value}{l:List Int}(h:AQ w v l)(hb:dc w w'):AQ w' v l:=by
 obtain⟨f,cap,p,hc,m⟩:=h;refine⟨f,cap,p,hc,λhn=>?_⟩;obtain⟨b,off,o,e,a⟩:=m hn;exact⟨b,off,o,bM e hb.size,λi hi=>(hb.cell (by exact e)).trans (a i hi)⟩
theorem AQ.at_{w:World}{g n cap:Nat}{l:List Int}{c:Array Value}{t:TypeId}(h:At w g c t)(hn:l.length=n)(d:n<=cap)(hc:∀i,i<n->c[i]?=some (.int .i64 (l.getD i 0))):AQ w (.slice (some ⟨g,0,none⟩) n cap) l:=by
 subst hn;exact⟨_,cap,rfl,d,λ_=>⟨g,0,rfl,h.lt,λi hi=>by rw[cU,h.cell];exact hc i hi⟩⟩
theorem Cu(w:World)(j k:Nat):(w.drewN j).drewN k=w.drewN (j+k):=by
 first|rfl|(induction k with|zero=>rfl|succ k ih=>rw[<-bS];show((w.drewN j).drewN k).drew=_;rw[ih];rfl)|simp[World.drewN,bS]
def Kr(l:List Int):Nat->List (Nat×Int)
 |0=>[]
 |n+1=>Kr l n++(if l.getD n 0=1000000 then[]else[(n,l.getD n 0)])
def b3(x:Nat×Int):List Int:=[(x.1:Int),(x.2+4000)/256,(x.2+4000)%256]
def tl(l:List Int)(n:Nat):List Int:=(Kr l n).flatMap b3
def ct(l:List Int)(n:Nat):Nat:=(Kr l n).length
theorem Im(l:List Int)(n:Nat):tl l (n+1)=tl l n++(if l.getD n 0=1000000 then[]else b3 (n,l.getD n 0)):=by
 unfold tl;show(Kr l n++_).flatMap b3=_;split<;>simp
theorem E9(l:List Int)(n:Nat):ct l (n+1)=ct l n+(if l.getD n 0=1000000 then 0 else 1):=by
 unfold ct;show(Kr l n++_).length=_;split<;>simp
theorem J6(l:List Int)(n:Nat):ct l n<=n:=by
 induction n with
 |zero=>exact bB _
 |succ n ih=>rw[E9];split<;>omega
theorem JC(l:List Int)(n:Nat):(tl l n).length=3*ct l n:=by
 induction n with
 |zero=>rfl
 |succ n ih=>rw[Im,E9,cn,ih];split<;>simp[b3]<;>omega
def Dk:Option (List Int)->List Int
 |none=>[0]
 |some l=>1::(ct l 32:Int)::tl l 32
theorem LY(l:List Int):Dk (some l)=1::(ct l 32:Int)::tl l 32:=rfl
def Br(L:List (Option (List Int))):Nat->List Int
 |0=>[]
 |n+1=>Br L n++Dk (L.getD n none)
def IM(L:List (Option (List Int))):List Int:=(L.length:Int)::Br L L.length
def On(x:Int):Prop:=x=1000000\/(-4000<=x/\x<=4000)
def F_(r:Option (List Int)):Prop:=∀l,r=some l->l.length=32/\∀f,f<32->On (l.getD f 0)
abbrev ES:=Nat×Bool
def Fi(s:List Int)(d:ES):Int:=if d.1<s.length then s.getD d.1 0 else -1
def Ai(s:List Int)(lo hi:Int)(d:ES):Int×ES:=
 if Fi s d<lo\/hi<Fi s d then(0,(d.1,true))else(Fi s d,(d.1+1,d.2))
def JW(s:List Int)(d:ES):Int×ES:=
 let h:=Ai s 0 255 d
 let k:=Ai s 0 255 h.2
 (h.1*256+k.1-4000,(k.2.1,if 8000<h.1*256+k.1 then true else k.2.2))
def Ni(s:List Int)(f:Nat)(x:Nat×ES×List Int):Nat×ES×List Int:=
 if 0<x.1/\Fi s x.2.1=f then(x.1-1,(JW s (x.2.1.1+1,x.2.1.2)).2,x.2.2++[(JW s (x.2.1.1+1,x.2.1.2)).1])
 else(x.1,x.2.1,x.2.2++[1000000])
def DT(s:List Int)(x:Nat×ES×List Int):Nat->Nat×ES×List Int
 |0=>x
 |n+1=>Ni s n (DT s x n)
def QH(s:List Int)(N:Nat)(d:ES):List Int×ES:=
 let t:=Ai s 0 32 d
 let y:=DT s (t.1.toNat,t.2,[]) N
 (y.2.2,(y.2.1.1,if 0<y.1 then true else y.2.1.2))
def Kx(s:List Int)(d:ES):List Int×ES:=QH s 32 d
def I8(s:List Int)(d:ES):Option (List Int)×ES:=
 let c:=Ai s 0 1 d
 if c.1=0 then(none,c.2)else(some (Kx s c.2).1,(Kx s c.2).2)
def Cw(s:List Int)(x:ES×List (Option (List Int))):Nat->ES×List (Option (List Int))
 |0=>x
 |n+1=>let y:=Cw s x n;if y.1.2 then y else((I8 s y.1).2,y.2++[(I8 s y.1).1])
def DS(s:List Int):Option (List (Option (List Int))):=
 let t:=Ai s 1 21 (0,false)
 let y:=Cw s (t.2,[]) t.1.toNat
 if y.1.2=true\/y.1.1≠s.length then none else some y.2
def VG(s:List Int):Prop:=∀i,i<s.length->0<=s.getD i 0/\s.getD i 0<=255
variable {s:List Int}
theorem Di(s:List Int)(i:Nat)(h:i<s.length):s.drop i=s.getD i 0::s.drop (i+1):=by
 rw[List.drop_eq_getElem_cons h];simp[List.getD,h]
theorem Cz{i:Nat}{x:Int}{r:List Int}(h:s.drop i=x::r):i<s.length/\s.getD i 0=x/\s.drop (i+1)=r:=by
 have hi:i<s.length:=by
  rcases bW i s.length with q|q
  .exact q
  .rw[List.drop_eq_nil_of_le q]at h;cases h
 rw[Di s i hi]at h;injection h with h1 h2
 exact⟨hi,h1,h2⟩
theorem Ro(B:VG s)(d:ES): -1<=Fi s d/\Fi s d<=255:=by
 unfold Fi;split
 .have:=B d.1 (by assumption);omega
 .omega
theorem EC(B:VG s)(lo hi:Int)(h0:0<=lo)(d:ES):0<=(Ai s lo hi d).1/\(Ai s lo hi d).1<=255/\((Ai s lo hi d).2.1=d.1\/((Ai s lo hi d).2.1=d.1+1/\d.1<s.length)):=by
 have U:=Ro B d;unfold Ai;split
 .exact⟨bN _,by omega,.inl rfl⟩
 .refine⟨by show 0<=Fi s d;omega,U.2,.inr ⟨rfl,?_⟩⟩;unfold Fi at *;by_cases q:d.1<s.length
  .exact q
  .rw[a_ q]at *;omega
theorem I5{lo hi:Int}(h0:0<=lo){d:ES}(h:(Ai s lo hi d).2.2=false):d.2=false/\d.1<s.length/\(Ai s lo hi d).1=s.getD d.1 0/\(Ai s lo hi d).2.1=d.1+1/\lo<=s.getD d.1 0/\s.getD d.1 0<=hi:=by
 unfold Ai at *;by_cases q:Fi s d<lo\/hi<Fi s d
 .rw[bA q]at h;cases h
 .rw[a_ q]at h|-;have F:d.1<s.length:=by
   rcases bW d.1 s.length with q'|q'
   .exact q'
   .exfalso;unfold Fi at q;rw[a_ (show¬d.1<s.length by omega)]at q;omega
  have e:Fi s d=s.getD d.1 0:=by unfold Fi;rw[bA F]
  rw[e]at q|-;exact⟨h,F,rfl,rfl,by omega,by omega⟩
theorem Gw{lo hi:Int}{i:Nat}{x:Int}{r:List Int}(h:s.drop i=x::r)(h1:lo<=x)(h2:x<=hi):Ai s lo hi (i,false)=(x,(i+1,false)):=by
 obtain⟨a,b,_⟩:=Cz h;have e:Fi s (i,false)=x:=by show(if i<s.length then s.getD i 0 else -1)=x;rw[bA a,b]
 unfold Ai;rw[e,a_ (by omega)]
theorem FY{lo hi:Int}{d:ES}(h:d.2=true):(Ai s lo hi d).2.2=true:=by
 unfold Ai;split
 .rfl
 .exact h
theorem Yt{d:ES}(h:(JW s d).2.2=false):d.2=false/\d.1+2<=s.length/\(JW s d).2.1=d.1+2/\ -4000<=(JW s d).1/\(JW s d).1<=4000/\
  s.drop d.1=((JW s d).1+4000)/256::((JW s d).1+4000)%256::s.drop (d.1+2):=by
 have u:(if 8000<(Ai s 0 255 d).1*256+(Ai s 0 255 (Ai s 0 255 d).2).1 then true else(Ai s 0 255 (Ai s 0 255 d).2).2.2)=false:=h;by_cases q:8000<(Ai s 0 255 d).1*256+(Ai s 0 255 (Ai s 0 255 d).2).1
 .rw[bA q]at u;cases u
 .rw[a_ q]at u;obtain⟨C,A,v,E,Y,Z⟩:=I5 (bN 0) u;obtain⟨O,G,b3,Q,b5,b6⟩:=I5 (bN 0) C;rw[Q]at A v E Y Z;have e:(JW s d).1=s.getD d.1 0*256+s.getD (d.1+1) 0-4000:=by
   show(Ai s 0 255 d).1*256+(Ai s 0 255 (Ai s 0 255 d).2).1-4000=_;rw[v,b3]
  rw[v,b3]at q;refine⟨O,by omega,E,by omega,by omega,?_⟩;rw[e,Di s d.1 G,Di s (d.1+1) A]
  congr 1
  .omega
  .congr 1
   omega
theorem XN{i:Nat}{x:Int}{r:List Int}(h:s.drop i=(x+4000)/256::(x+4000)%256::r)(h1: -4000<=x)(h2:x<=4000):JW s (i,false)=(x,(i+2,false)):=by
 have e1:=Gw (lo:=0) (hi:=255) h (by omega) (by omega);have e2:=Gw (lo:=0) (hi:=255) (Cz h).2.2 (by omega) (by omega);unfold JW;simp only[e1,e2];rw[a_ (by omega)]
 congr 1
 omega
theorem Sf{d:ES}(h:d.2=true):(JW s d).2.2=true:=by
 show(if _ then true else(Ai s 0 255 (Ai s 0 255 d).2).2.2)=true;split
 .rfl
 .exact FY (FY h)
theorem Nj{f:Nat}{x:Nat×ES×List Int}(h:x.2.1.2=true):(Ni s f x).2.1.2=true:=by
 unfold Ni;split
 .exact Sf h
 .exact h
theorem Ix{x:Nat×ES×List Int}(h:x.2.1.2=true):∀n,(DT s x n).2.1.2=true
 |0=>h
 |n+1=>Nj (Ix h n)
theorem IQ{x:Nat×ES×List Int}(h:x.2.2=[]):∀n,(DT s x n).2.2.length=n
 |0=>by show x.2.2.length=0;rw[h];rfl
 |n+1=>by
  have ih:=IQ h n;show(Ni s n (DT s x n)).2.2.length=n+1;unfold Ni;split<;>simp[ih]
theorem In(l m:List Int):∀n,n<=l.length->Kr (l++m) n=Kr l n
 |0,_=>rfl
 |n+1,h=>by
  show Kr (l++m) n++_=Kr l n++_;rw[In l m n (by omega)];have e:(l++m).getD n 0=l.getD n 0:=by simp[List.getD,bU (show n<l.length by omega)]
  rw[e]
theorem Ei(l:List Int)(y:Int)(n:Nat)(h:l.length=n):(l++[y]).getD n 0=y:=by simp[List.getD,<-h]
theorem TI(B:VG s){i t:Nat}:∀n,(DT s (t,(i,false),[]) n).2.1.2=false->
  s.drop i=tl (DT s (t,(i,false),[]) n).2.2 n++s.drop (DT s (t,(i,false),[]) n).2.1.1/\t=(DT s (t,(i,false),[]) n).1+ct (DT s (t,(i,false),[]) n).2.2 n/\∀f,f<n->On ((DT s (t,(i,false),[]) n).2.2.getD f 0)
 |0,_=>⟨rfl,rfl,λf T=>absurd T (by omega)⟩
 |n+1,h=>by
  have w:(DT s (t,(i,false),[]) n).2.2.length=n:=IQ rfl n;have ad:(DT s (t,(i,false),[]) n).2.1.2=false:=by
   cases e:(DT s (t,(i,false),[]) n).2.1.2 with
   |false=>rfl
   |true=>rw[show(DT s (t,(i,false),[]) (n+1)).2.1.2=true from Nj e]at h;cases h
  have ih:=TI B n ad;have hd:DT s (t,(i,false),[]) (n+1)=Ni s n (DT s (t,(i,false),[]) n):=rfl;rw[hd]at h|-;generalize DT s (t,(i,false),[]) n=x at *;obtain⟨t',⟨j,wr⟩,l⟩:=x;simp only at ih w ad h|-;obtain⟨I,X,K⟩:=ih;unfold Ni at *;by_cases q:0<t'/\Fi s (j,wr)=n
  .rw[bA q]at h|-;simp only at h|-;obtain⟨O,G,Q,b5,b6,b7⟩:=Yt h;simp only at O G Q b7;generalize(JW s (j+1,wr)).1=y at *;have hj:j<s.length:=by omega
   have ai:s.getD j 0=n:=by have:=q.2;unfold Fi at this;rw[bA hj]at this;exact this
   refine⟨?_,?_,?_⟩
   .rw[Im,Ei l y n w,a_ (by omega)];unfold tl;rw[In l [y] n (by omega),I,Q,Di s j hj,ai,b7];unfold tl b3;simp
   .rw[E9,Ei l y n w,a_ (by omega)];unfold ct;rw[In l [y] n (by omega),X];unfold ct;omega
   .intro f T;by_cases e:f=n
    .rw[e,Ei l y n w];exact .inr ⟨b5,b6⟩
    .have:=K f (by omega);simpa[List.getD,bU (show f<l.length by omega)]using this
  .rw[a_ q]at h|-;simp only at h|-;refine⟨?_,?_,?_⟩
   .rw[Im,Ei l _ n w,bA rfl];unfold tl;rw[In l _ n (by omega),I];unfold tl;simp
   .rw[E9,Ei l _ n w,bA rfl];unfold ct;rw[In l _ n (by omega),X];unfold ct;omega
   .intro f T;by_cases e:f=n
    .rw[e,Ei l _ n w];exact .inl rfl
    .have:=K f (by omega);simpa[List.getD,bU (show f<l.length by omega)]using this
theorem XQ(B:VG s){N:Nat}{d:ES}(h:(QH s N d).2.2=false):d.2=false/\(QH s N d).1.length=N/\(∀f,f<N->On ((QH s N d).1.getD f 0))/\s.drop d.1=((ct (QH s N d).1 N:Nat):Int)::tl (QH s N d).1 N++s.drop (QH s N d).2.1:=by
 have u:(if 0<(DT s ((Ai s 0 32 d).1.toNat,(Ai s 0 32 d).2,[]) N).1 then true else(DT s ((Ai s 0 32 d).1.toNat,(Ai s 0 32 d).2,[]) N).2.1.2)=false:=h;by_cases q:0<(DT s ((Ai s 0 32 d).1.toNat,(Ai s 0 32 d).2,[]) N).1
 .rw[bA q]at u;cases u
 rw[a_ q]at u;have hn:(Ai s 0 32 d).2.2=false:=by
  cases e:(Ai s 0 32 d).2.2 with
  |false=>rfl
  |true=>rw[Ix (x:=((Ai s 0 32 d).1.toNat,(Ai s 0 32 d).2,[])) e N]at u;cases u
 obtain⟨C,A,v,E,Y,Z⟩:=I5 (bN 0) hn;have e2:(Ai s 0 32 d).2=(d.1+1,false):=Prod.ext E hn;have T:=TI B (i:=d.1+1) (t:=(Ai s 0 32 d).1.toNat) N (by rw[<-e2];exact u);have w:=IQ (s:=s) (x:=((Ai s 0 32 d).1.toNat,(d.1+1,false),[])) rfl N;have M:(QH s N d).1=(DT s ((Ai s 0 32 d).1.toNat,(d.1+1,false),[]) N).2.2:=by rw[<-e2];rfl
 have F:(QH s N d).2.1=(DT s ((Ai s 0 32 d).1.toNat,(d.1+1,false),[]) N).2.1.1:=by rw[<-e2];rfl
 rw[e2]at q;rw[M,F];generalize DT s ((Ai s 0 32 d).1.toNat,(d.1+1,false),[]) N=x at *;refine⟨C,w,T.2.2,?_⟩;rw[Di s d.1 A,T.1,<-v];have:=T.2.1;rw[List.cons_append]
 congr 1
 rw[v]at *;omega
theorem Yv(B:VG s){d:ES}(h:(Kx s d).2.2=false):d.2=false/\(Kx s d).1.length=32/\(∀f,f<32->On ((Kx s d).1.getD f 0))/\s.drop d.1=((ct (Kx s d).1 32:Nat):Int)::tl (Kx s d).1 32++s.drop (Kx s d).2.1:=XQ B h
theorem ZI(B:VG s){d:ES}(h:(I8 s d).2.2=false):d.2=false/\F_ (I8 s d).1/\s.drop d.1=Dk (I8 s d).1++s.drop (I8 s d).2.1:=by
 unfold I8 at *;simp only at *;by_cases q:(Ai s 0 1 d).1=0
 .rw[bA q]at h|-;obtain⟨C,A,v,E,Y,Z⟩:=I5 (bN 0) h;refine⟨C,(λl e=>by cases e),?_⟩;show s.drop d.1=[0]++s.drop (Ai s 0 1 d).2.1;rw[E,Di s d.1 A,<-v,q];rfl
 .rw[a_ q]at h|-;simp only at h|-;obtain⟨O,G,b3,Q⟩:=Yv B h;obtain⟨C,A,v,E,Y,Z⟩:=I5 (bN 0) O;refine⟨C,(λl e=>by injection e with e;subst e;exact⟨G,b3⟩),?_⟩;rw[E]at Q;rw[Di s d.1 A,Q];show _=(1::((ct _ 32:Nat):Int)::tl _ 32)++_;have:s.getD d.1 0=1:=by rw[v]at q;omega
  rw[this];rfl
theorem Nh(L:List (Option (List Int)))(m:List (Option (List Int))):∀n,n<=L.length->Br (L++m) n=Br L n
 |0,_=>rfl
 |n+1,h=>by
  show Br (L++m) n++_=Br L n++_;rw[Nh L m n (by omega)]
  congr 2
  simp[List.getD,bU (show n<L.length by omega)]
theorem T4(B:VG s){i:Nat}:∀n,(Cw s ((i,false),[]) n).1.2=false->
  (Cw s ((i,false),[]) n).2.length=n/\(∀r,r∈(Cw s ((i,false),[]) n).2->F_ r)/\s.drop i=Br (Cw s ((i,false),[]) n).2 n++s.drop (Cw s ((i,false),[]) n).1.1
 |0,_=>⟨rfl,(λr h=>by cases h),rfl⟩
 |n+1,h=>by
  have hd:Cw s ((i,false),[]) (n+1)=if(Cw s ((i,false),[]) n).1.2 then Cw s ((i,false),[]) n else((I8 s (Cw s ((i,false),[]) n).1).2,(Cw s ((i,false),[]) n).2++[(I8 s (Cw s ((i,false),[]) n).1).1]):=rfl
  cases e:(Cw s ((i,false),[]) n).1.2 with
  |true=>rw[hd,e,bA rfl]at h;rw[e]at h;cases h
  |false=>
   obtain⟨I,X,K⟩:=T4 B n e;rw[hd,e,a_ (by decide)]at h|-;generalize Cw s ((i,false),[]) n=x at *;simp only at h|-;obtain⟨C,A,v⟩:=ZI B h;refine⟨by simp[I],?_,?_⟩
   .intro r hr;rcases cY.1 hr with hr|hr
    .exact X r hr
    .rw[List.mem_singleton]at hr;rw[hr];exact A
   .show _=(Br (x.2++_) n++Dk ((x.2++_).getD n none))++_;rw[Nh _ _ n (by omega),K,v];have e2:(x.2++[(I8 s x.1).1]).getD n none=(I8 s x.1).1:=by simp[List.getD,<-I]
    rw[e2,List.append_assoc]
theorem GM(B:VG s){L:List (Option (List Int))}(h:DS s=some L):s=IM L/\1<=L.length/\L.length<=21/\∀r,r∈L->F_ r:=by
 unfold DS at h;simp only at h;split at h
 .cases h
 .rename_i q;injection h with h
  have M:(Cw s ((Ai s 1 21 (0,false)).2,[]) (Ai s 1 21 (0,false)).1.toNat).1.2=false:=by
   cases e:(Cw s ((Ai s 1 21 (0,false)).2,[]) (Ai s 1 21 (0,false)).1.toNat).1.2 with
   |false=>rfl
   |true=>exact absurd (.inl e) q
  have F:(Cw s ((Ai s 1 21 (0,false)).2,[]) (Ai s 1 21 (0,false)).1.toNat).1.1=s.length:=by
   by_cases e:(Cw s ((Ai s 1 21 (0,false)).2,[]) (Ai s 1 21 (0,false)).1.toNat).1.1=s.length
   .exact e
   .exact absurd (.inr e) q
  have aj:∀(x:ES×List (Option (List Int)))(n:Nat),x.1.2=true->(Cw s x n).1.2=true:=by
   intro x n hx;induction n with
   |zero=>exact hx
   |succ n ih=>show(if(Cw s x n).1.2 then Cw s x n else _).1.2=true;rw[ih,bA rfl];exact ih
  have hn:(Ai s 1 21 (0,false)).2.2=false:=by
   cases e:(Ai s 1 21 (0,false)).2.2 with
   |false=>rfl
   |true=>rw[aj ((Ai s 1 21 (0,false)).2,[]) _ e]at M;cases M
  obtain⟨C,A,v,E,Y,Z⟩:=I5 (by decide) hn;have e2:(Ai s 1 21 (0,false)).2=(1,false):=Prod.ext E hn;rw[e2]at M F h;obtain⟨I,X,K⟩:=T4 B _ M;rw[h]at I X K;simp only at A v Y Z;rw[v]at I K F;refine⟨?_,by omega,by omega,X⟩;have e3:s=s.getD 0 0::s.drop 1:=by have:=Di s 0 A;simpa using this
  rw[e3];unfold IM;rw[K,F,List.drop_length,List.append_nil,I]
  congr 1
  omega
theorem Gz(l:List Int)(n:Nat):∀k,∃r,Kr l (n+k)=Kr l n++r/\∀x,x∈r->n<=x.1/\x.1<n+k
 |0=>⟨[],by simp,λx h=>by cases h⟩
 |k+1=>by
  obtain⟨r,h1,h2⟩:=Gz l n k;refine⟨r++(if l.getD (n+k) 0=1000000 then[]else[(n+k,l.getD (n+k) 0)]),?_,?_⟩
  .show Kr l (n+k)++(if l.getD (n+k) 0=1000000 then[]else[(n+k,l.getD (n+k) 0)])=_;rw[h1,List.append_assoc]
  .intro x hx;rcases cY.1 hx with hx|hx
   .have:=h2 x hx;omega
   .split at hx
    .cases hx
    .rw[List.mem_singleton]at hx;subst hx;show n<=n+k/\n+k<n+(k+1);omega
theorem QS{l:List Int}{N:Nat}(w:l.length=N)(hb:∀f,f<N->On (l.getD f 0)){i:Nat}{g:List Int}(h:s.drop i=tl l N++g):
  ∀n,n<=N->DT s (ct l N,(i,false),[]) n=(ct l N-ct l n,(i+3*ct l n,false),l.take n)/\ct l n<=ct l N
 |0,_=>⟨by show(ct l N,(i,false),[])=(ct l N-0,(i+3*0,false),[]);rfl,bY _⟩
 |n+1,hn=>by
  obtain⟨ih,hc⟩:=QS w hb h n (by omega);obtain⟨r,hr,ak⟩:=Gz l n (N-n);rw[show n+(N-n)=N by omega]at hr ak;have ac:ct l N=ct l n+r.length:=by unfold ct;rw[hr,cn]
  have S:s.drop (i+3*ct l n)=r.flatMap b3++g:=by
   rw[<-List.drop_drop,h];have e:tl l N=tl l n++r.flatMap b3:=by unfold tl;rw[hr,List.flatMap_append]
   rw[e,List.append_assoc,<-JC l n,List.drop_append_of_le_length (bB _),List.drop_length,List.nil_append]
  obtain⟨r',V,J⟩:=Gz l (n+1) (N-(n+1));rw[show n+1+(N-(n+1))=N by omega]at V J;have e1:Kr l (n+1)=Kr l n++(if l.getD n 0=1000000 then[]else[(n,l.getD n 0)]):=rfl;rw[e1,List.append_assoc,hr]at V;have D:r=(if l.getD n 0=1000000 then[]else[(n,l.getD n 0)])++r':=List.append_cancel_left V;have p:l.take (n+1)=l.take n++[l.getD n 0]:=by
   rw[List.take_succ_eq_append_getElem (by omega)];simp[List.getD,show n<l.length by omega]
  show Ni s n (DT s (ct l N,(i,false),[]) n)=_/\_;rw[ih];by_cases q:l.getD n 0=1000000
  .rw[bA q,List.nil_append]at D;have R:ct l (n+1)=ct l n:=by rw[E9,bA q];rfl
   unfold Ni;rw[a_]
   .rw[R,p,q];exact⟨rfl,hc⟩
   .rintro⟨h1,h2⟩;simp only at h1 h2;cases W:r' with
    |nil=>rw[D,W]at ac;simp at ac;omega
    |cons x xs=>
     rw[D,W]at S;have:=J x (by rw[W];exact List.mem_cons_self ..);have hx:s.drop (i+3*ct l n)=(x.1:Int)::((x.2+4000)/256::(x.2+4000)%256::(xs.flatMap b3++g)):=by rw[S];rfl
     obtain⟨c1,c2,_⟩:=Cz hx;unfold Fi at h2;rw[bA c1,c2]at h2;omega
  .rw[a_ q]at D;have R:ct l (n+1)=ct l n+1:=by rw[E9,a_ q]
   have hx:s.drop (i+3*ct l n)=(n:Int)::((l.getD n 0+4000)/256::(l.getD n 0+4000)%256::(r'.flatMap b3++g)):=by rw[S,D];rfl
   have al:r.length=1+r'.length:=by rw[D];simp;omega
   have ab: -4000<=l.getD n 0/\l.getD n 0<=4000:=by rcases hb n (by omega)with e|e;exact absurd e q;exact e
   obtain⟨c1,c2,c3⟩:=Cz hx;have hy:=XN c3 ab.1 ab.2;unfold Ni;rw[bA]
   .simp only;rw[hy,R,p];refine⟨?_,by omega⟩;rw[show ct l N-ct l n-1=ct l N-(ct l n+1) by omega,show i+3*ct l n+1+2=i+3*(ct l n+1) by omega]
   .simp only;refine⟨by omega,?_⟩;unfold Fi;rw[bA c1,c2]
theorem VX{l:List Int}{N:Nat}(hN:N<=32)(w:l.length=N)(hb:∀f,f<N->On (l.getD f 0)){i:Nat}{g:List Int}(h:s.drop i=((ct l N:Nat):Int)::(tl l N++g)):QH s N (i,false)=(l,(i+(1+(tl l N).length),false)):=by
 have hc:=J6 l N;have e2:=Gw (lo:=0) (hi:=32) h (by omega) (by omega);obtain⟨f1,_⟩:=QS w hb (Cz h).2.2 N (bB _);unfold QH;simp only[e2,bK,f1];rw[cG (by omega),Nat.sub_self,a_ (by omega),JC]
 congr 2
 omega
theorem X9{r:Option (List Int)}(hr:F_ r){i:Nat}{g:List Int}(h:s.drop i=Dk r++g):I8 s (i,false)=(r,(i+(Dk r).length,false)):=by
 cases r with
 |none=>
  have e:=Gw (lo:=0) (hi:=1) (show s.drop i=0::g from h) (by omega) (by omega);unfold I8;simp only[e];rfl
 |some l=>
  obtain⟨w,hb⟩:=hr l rfl;have u:s.drop i=1::((ct l 32:Nat):Int)::(tl l 32++g):=h;have e:=Gw (lo:=0) (hi:=1) u (by omega) (by omega);have e3:=VX (bB 32) w hb (Cz u).2.2;have e4:(Dk (some l)).length=(tl l 32).length+1+1:=rfl;unfold I8 Kx;simp only[e,e3,e4];generalize(tl l 32).length=z;rw[a_ (by omega),show i+1+(1+z)=i+(z+1+1) by omega]
theorem Lb(L:List (Option (List Int)))(n:Nat):∀k,∃r,Br L (n+k)=Br L n++r
 |0=>⟨[],by simp⟩
 |k+1=>by
  obtain⟨r,h⟩:=Lb L n k;exact⟨r++Dk (L.getD (n+k) none),by show Br L (n+k)++Dk (L.getD (n+k) none)=_;rw[h,List.append_assoc]⟩
theorem Da{L:List (Option (List Int))}(h:∀r,r∈L->F_ r)(n:Nat):F_ (L.getD n none):=by
 rcases bW n L.length with q|q
 .have:L.getD n none=L[n]:=by simp[List.getD,q]
  rw[this];exact h _ (List.getElem_mem q)
 .have:L.getD n none=none:=by simp[List.getD,bO q]
  rw[this];intro l e;cases e
theorem QR{L:List (Option (List Int))}{i:Nat}(h:s.drop i=Br L L.length){n:Nat}(hn:n<L.length):∃r,s.drop (i+(Br L n).length)=Dk (L.getD n none)++r:=by
 obtain⟨r,hr⟩:=Lb L (n+1) (L.length-(n+1));rw[show n+1+(L.length-(n+1))=L.length by omega]at hr;refine⟨r,?_⟩;rw[<-List.drop_drop,h,hr];show List.drop _ ((Br L n++Dk (L.getD n none))++r)=_;rw[List.append_assoc,List.drop_append_of_le_length (bB _),List.drop_length,List.nil_append]
theorem Q1{L:List (Option (List Int))}(H:∀r,r∈L->F_ r){i:Nat}(h:s.drop i=Br L L.length):∀n,n<=L.length->
  Cw s ((i,false),[]) n=((i+(Br L n).length,false),L.take n)
 |0,_=>rfl
 |n+1,hn=>by
  have ih:=Q1 H h n (by omega);obtain⟨r,hr⟩:=QR h (n:=n) (by omega);have U:=X9 (Da H n) hr;show(if(Cw s ((i,false),[]) n).1.2 then Cw s ((i,false),[]) n else _)=_;rw[ih,a_ Bool.false_ne_true];simp only;rw[U];have p:L.take (n+1)=L.take n++[L.getD n none]:=by
   rw[List.take_succ_eq_append_getElem (by omega)];simp[List.getD,show n<L.length by omega]
  rw[p];show((_,_),_)=((i+(Br L n++Dk (L.getD n none)).length,false),_)
  rw[cn,bS]
theorem QQ{L:List (Option (List Int))}(h1:1<=L.length)(h2:L.length<=21)(H:∀r,r∈L->F_ r)(h:s=IM L):DS s=some L:=by
 have u:s.drop 0=(L.length:Int)::Br L L.length:=by rw[h];rfl
 have e:=Gw (lo:=1) (hi:=21) u (by omega) (by omega);have U:=Q1 H (Cz u).2.2 L.length (bB _);unfold DS;simp only[e,bK];rw[U,cG (bB _)];rw[a_];rintro(q|q)
 .cases q
 .apply q;rw[h];show 0+1+(Br L L.length).length=(Br L L.length).length+1;omega
def MT(s:List Int):Nat->Nat->List Int->Option (Nat×List Int)
 |0,i,o=>some (i,o)
 |k+1,i,o=>if i+3<=s.length/\s.getD i 0<32 then MT s k (i+3) (o.set (s.getD i 0).toNat (256*s.getD (i+1) 0+s.getD (i+2) 0-4000))else none
def De:List Int:=List.replicate 32 1000000
def SJ(s:List Int)(i:Nat):Option (Nat×Option (List Int)):=
 if i<s.length/\s.getD i 0=0 then some (i+1,none)
 else if s.length<i+2 then none
 else match MT s (s.getD (i+1) 0).toNat (i+2) De with
  |none=>none
  |some y=>some (y.1,some y.2)
def Ob(s:List Int):Nat->Nat->List (Option (List Int))->Option (List (Option (List Int)))
 |0,_,L=>some L
 |k+1,i,L=>match SJ s i with
  |none=>none
  |some y=>Ob s k y.1 (L++[y.2])
def Nx(s:List Int):Option (List (Option (List Int))):=
 if s.length<1\/s.getD 0 0<1\/21<s.getD 0 0 then none else Ob s (s.getD 0 0).toNat 1 []
theorem TW{g:List Int}:∀(r:List (Nat×Int))(i:Nat)(o:List Int),(∀x,x∈r->x.1<32)->s.drop i=r.flatMap b3++g->
  MT s r.length i o=some (i+3*r.length,r.foldl (λo x=>o.set x.1 x.2) o)
 |[],i,o,_,_=>rfl
 |x::xs,i,o,hx,h=>by
  have u:s.drop i=(x.1:Int)::((x.2+4000)/256::(x.2+4000)%256::(xs.flatMap b3++g)):=h;obtain⟨C,A,v⟩:=Cz u;obtain⟨O,G,P⟩:=Cz v;obtain⟨c1,c2,c3⟩:=Cz P;have ae:=hx x (List.mem_cons_self ..);show(if i+3<=s.length/\s.getD i 0<32 then MT s xs.length (i+3) (o.set (s.getD i 0).toNat (256*s.getD (i+1) 0+s.getD (i+2) 0-4000))else none)=_;rw[bA ⟨by omega,by omega⟩,A,G,show s.getD (i+2) 0=(x.2+4000)%256 from c2,bK,show 256*((x.2+4000)/256)+(x.2+4000)%256-4000=x.2 by omega];rw[TW xs (i+3) _ (λy hy=>hx y (List.mem_cons_of_mem _ hy)) c3]
  congr 2
  show i+3+3*xs.length=i+3*(xs.length+1);omega
theorem Nk(l:List Int)(w:l.length=32):∀n,n<=32->(Kr l n).foldl (λo x=>o.set x.1 x.2) De=l.take n++List.replicate (32-n) 1000000
 |0,_=>rfl
 |n+1,hn=>by
  have ih:=Nk l w n (by omega);have p:l.take (n+1)=l.take n++[l.getD n 0]:=by
   rw[List.take_succ_eq_append_getElem (by omega)];simp[List.getD,show n<l.length by omega]
  have af:List.replicate (32-n) (1000000:Int)=1000000::List.replicate (32-(n+1)) 1000000:=by
   rw[show 32-n=(32-(n+1))+1 by omega];rfl
  show(Kr l n++(if l.getD n 0=1000000 then[]else[(n,l.getD n 0)])).foldl _ _=_;rw[List.foldl_append,ih,af,p];split
  .rename_i q;rw[q];simp
  .show(l.take n++1000000::List.replicate (32-(n+1)) 1000000).set n (l.getD n 0)=_;have ah:(l.take n).length=n:=by rw[List.length_take];omega
   rw[List.set_append_right n _ (by omega),ah,Nat.sub_self];simp
theorem Vq{l:List Int}{N:Nat}(hN:N<=32)(w:l.length=32){i:Nat}{g:List Int}(h:s.drop i=tl l N++g)(aa:N=32:=by rfl):MT s (ct l N) i De=some (i+3*ct l N,l):=by
 have ae:∀x,x∈Kr l N->x.1<32:=by
  obtain⟨r,M,F⟩:=Gz l 0 N;have:Kr l N=r:=by have:=M;simpa[Kr]using this
  intro x hx;rw[this]at hx;have:=F x hx;omega
 have:=TW (Kr l N) i De ae h;rw[Nk l w N hN,cG (by omega),aa,Nat.sub_self,List.replicate_zero,List.append_nil,<-aa]at this;exact this
theorem Vv{r:Option (List Int)}(hr:F_ r){i:Nat}{g:List Int}(h:s.drop i=Dk r++g):SJ s i=some (i+(Dk r).length,r):=by
 cases r with
 |none=>
  obtain⟨C,A,v⟩:=Cz (show s.drop i=0::g from h);unfold SJ;rw[bA ⟨C,A⟩];rfl
 |some l=>
  obtain⟨w,hb⟩:=hr l rfl;have u:s.drop i=1::((ct l 32:Nat):Int)::(tl l 32++g):=h;obtain⟨C,A,v⟩:=Cz u;obtain⟨O,G,P⟩:=Cz v;have e4:(Dk (some l)).length=(tl l 32).length+1+1:=rfl;have e5:=Vq (bB 32) w P;unfold SJ;rw[a_ (by omega),a_ (by omega),G,bK,e4,JC];rw[show i+2=i+1+1 from rfl,e5];simp only;generalize ct l 32=z;rw[show i+1+1+3*z=i+(3*z+1+1) by omega]
theorem Te{L:List (Option (List Int))}(H:∀r,r∈L->F_ r){i:Nat}(h:s.drop i=Br L L.length):∀k,k<=L.length->Ob s k (i+(Br L (L.length-k)).length) (L.take (L.length-k))=some L
 |0,_=>by show some _=_;rw[Nat.sub_zero,cG (bB _)]
 |k+1,hk=>by
  obtain⟨r,hr⟩:=QR h (n:=L.length-(k+1)) (by omega);have U:=Vv (Da H _) hr;have ih:=Te H h k (by omega);have p:L.take (L.length-(k+1))++[L.getD (L.length-(k+1)) none]=L.take (L.length-k):=by
   rw[show L.length-k=(L.length-(k+1))+1 by omega,List.take_succ_eq_append_getElem (by omega)];simp[List.getD,show L.length-(k+1)<L.length by omega]
  have ag:Br L (L.length-k)=Br L (L.length-(k+1))++Dk (L.getD (L.length-(k+1)) none):=by
   rw[show L.length-k=(L.length-(k+1))+1 by omega];rfl
  show(match SJ s _ with|none=>none|some y=>Ob s k y.1 (_++[y.2]))=_;rw[U];simp only;rw[p,bS,<-cn,<-ag];exact ih
theorem Vu{L:List (Option (List Int))}(h1:1<=L.length)(h2:L.length<=21)(H:∀r,r∈L->F_ r)(h:s=IM L):Nx s=some L:=by
 have u:s.drop 0=(L.length:Int)::Br L L.length:=by rw[h];rfl
 obtain⟨C,A,v⟩:=Cz u;have:=Te H v L.length (bB _);rw[Nat.sub_self]at this;unfold Nx;rw[a_ (by omega),A,bK];exact this
def NB:Int:=1000000
def opp(i:Nat):Nat:=if i%2=0 then i+1 else i-1
def pl(a b:Int):Int:=if a=NB\/b=NB then NB else a+b
def Bw(M:Nat->Int)(k:Nat)(x:Int):Nat->Int:=λa=>if a=k then x else M a
theorem Ah{i:Nat}(h:i<8):opp i<8:=by unfold opp;split<;>omega
theorem CV(M:Nat->Int)(k:Nat)(x:Int):Bw M k x k=x:=bA rfl
theorem BO(M:Nat->Int){k a:Nat}(x:Int)(h:a≠k):Bw M k x a=M a:=a_ h
def Sv(s:Nat)(M:Nat->Int)(k:Nat):Nat->Int:=
 if pl (M (k/8*8+opp s)) (M (s*8+k%8))<M k then Bw M k (pl (M (k/8*8+opp s)) (M (s*8+k%8)))else M
def E6(s:Nat)(M:Nat->Int):Nat->Nat->Int
 |0=>M
 |k+1=>Sv s (E6 s M k) k
def fw(M:Nat->Int):Nat->Nat->Int
 |0=>M
 |s+1=>E6 s (fw M s) 64
def Zl(M:Nat->Int)(i:Nat):Nat->Int:=if M (i*8+i)=NB then M else Bw M (i*8+i) (M (i*8+i)/2*2)
def Ef(M:Nat->Int):Nat->Nat->Int
 |0=>M
 |i+1=>Zl (Ef M i) i
def SZ(M:Nat->Int)(k:Nat):Nat->Int:=
 if pl (M (k/8*8+k/8)) (M (k%8*8+k%8))≠NB/\(pl (M (k/8*8+k/8)) (M (k%8*8+k%8))).tdiv 2<M k then Bw M k ((pl (M (k/8*8+k/8)) (M (k%8*8+k%8))).tdiv 2)else M
def Ea(M:Nat->Int):Nat->Nat->Int
 |0=>M
 |k+1=>SZ (Ea M k) k
def Aj(M:Nat->Int):Nat->Int:=Ea (Ef (fw M 8) 8) 64
def By(M:Nat->Int):Nat->Bool
 |0=>false
 |i+1=>By M i||decide (M (i*8+opp i)<0)
theorem XU(s:Nat)(M:Nat->Int)(k a:Nat):Sv s M k a<=M a:=by
 unfold Sv;split
 .unfold Bw;split
  .rename_i h e;subst e;exact Int.le_of_lt h
  .exact bN _
 .exact bN _
theorem J3(s:Nat)(M:Nat->Int):∀k a,E6 s M k a<=M a
 |0,_=>bN _
 |k+1,a=>cd (XU s _ k a) (J3 s M k a)
theorem F8(M:Nat->Int):∀s a,fw M s a<=M a
 |0,_=>bN _
 |s+1,a=>by rw[fw];exact cd (J3 s _ 64 a) (F8 M s a)
theorem YE(M:Nat->Int)(i a:Nat):Zl M i a<=M a:=by
 unfold Zl;split
 .exact bN _
 .unfold Bw;split
  .rename_i e;subst e;omega
  .exact bN _
theorem Hx(M:Nat->Int):∀i a,Ef M i a<=M a
 |0,_=>bN _
 |i+1,a=>cd (YE _ i a) (Hx M i a)
theorem XK(M:Nat->Int)(k a:Nat):SZ M k a<=M a:=by
 unfold SZ;split
 .unfold Bw;split
  .rename_i h e;subst e;exact Int.le_of_lt h.2
  .exact bN _
 .exact bN _
theorem Is(M:Nat->Int):∀k a,Ea M k a<=M a
 |0,_=>bN _
 |k+1,a=>cd (XK _ k a) (Is M k a)
theorem Cs(M:Nat->Int)(a:Nat):Aj M a<=M a:=cd (Is _ 64 a) (cd (Hx _ 8 a) (F8 M 8 a))
def Lo(L:Int)(M:Nat->Int):Prop:=∀a,a<64-> -L<=M a
structure Z4(L:Int)(s:Nat)(M M':Nat->Int)(k:Nat):Prop where
 old:∀a,k<=a->M' a=M a
 all:∀a,a<64-> -(6*L)<=M' a
 col:∀i,i<8-> -(3*L)<=M' (i*8+opp s)
 row:∀j,j<8-> -(3*L)<=M' (s*8+j)
 cor: -(2*L)<=M' (s*8+opp s)
theorem N5{a b x y:Int}(d: -x<=a)(hb: -y<=b)(h: -1000000<=x+y): -(x+y)<=pl a b:=by
 unfold pl NB;split
 .omega
 .omega
theorem Sw{L:Int}{s:Nat}{M:Nat->Int}(m:0<=L)(hs:s<8)(h:Lo L M):∀k,k<=64->Z4 L s M (E6 s M k) k:=by
 have ho:=Ah hs;intro k;induction k with
 |zero=>
  intro _;refine⟨λ_ _=>rfl,λa d=>?_,λi hi=>?_,λj n=>?_,?_⟩
  .have:=h a d;show _<=M a;omega
  .have:=h (i*8+opp s) (by omega);show _<=M _;omega
  .have:=h (s*8+j) (by omega);show _<=M _;omega
  .have:=h (s*8+opp s) (by omega);show _<=M _;omega
 |succ k ih=>
  intro hk;have hc:=ih (by omega);have hi:k/8<8:=by omega
  have n:k%8<8:=by omega
  have aa:k/8*8+k%8=k:=by omega
  have f:E6 s M k k=M k:=hc.old k (bB _);have c: -L<=M k:=h k (by omega);have c1:=hc.col _ hi;have c2:=hc.row _ n;have c3:=hc.cor;show Z4 L s M (Sv s (E6 s M k) k) (k+1);unfold Sv;split
  .have o: -(6*L)<=pl (E6 s M k (k/8*8+opp s)) (E6 s M k (s*8+k%8)):=by
    have:=N5 c1 c2 (by omega);omega
   refine⟨λa d=>?_,λa d=>?_,λi g=>?_,λj l=>?_,?_⟩
   .rw[BO _ _ (by omega)];exact hc.old a (by omega)
   .unfold Bw;split
    .exact o
    .exact hc.all a d
   .unfold Bw;split
    .rename_i e;have e1:k/8=i:=by omega
     have e2:k%8=opp s:=by omega
     have:E6 s M k (k/8*8+opp s)=M k:=by rw[show k/8*8+opp s=k by omega];exact f
     rw[this,e2];have:=N5 (x:=L) (y:=2*L) c c3 (by omega);omega
    .exact hc.col i g
   .unfold Bw;split
    .rename_i e;have e1:k/8=s:=by omega
     have e2:k%8=j:=by omega
     have:E6 s M k (s*8+k%8)=M k:=by rw[show s*8+k%8=k by omega];exact f
     rw[this,e1];have:=N5 (x:=2*L) (y:=L) c3 c (by omega);omega
    .exact hc.row j l
   .unfold Bw;split
    .rename_i e;have e1:k/8=s:=by omega
     have e2:k%8=opp s:=by omega
     have:E6 s M k (s*8+opp s)=M k:=by rw[e];exact f
     rw[e1,e2,this];have:=N5 (x:=L) (y:=L) c c (by omega);omega
    .exact hc.cor
  .exact⟨λa d=>hc.old a (by omega),hc.all,hc.col,hc.row,hc.cor⟩
theorem QW{M:Nat->Int}{L:Int}(m:0<=L)(h:Lo L M):∀s,s<=8->Lo (L*6^s) (fw M s):=by
 intro s;induction s with
 |zero=>intro _;simpa[fw]using h
 |succ s ih=>
  intro hs;have h1:=ih (by omega);have p:0<=L*6^s:=Int.mul_nonneg m (Int.le_of_lt (Int.pow_pos (by decide)));have h2:=(Sw (s:=s) p (by omega) h1 64 (bB _)).all;intro a d;have:=h2 a d;rw[fw,Int.pow_succ];have e:L*(6^s*6)=6*(L*6^s):=by rw[<-Int.mul_assoc,Int.mul_comm]
  rw[e];exact this
theorem KI(w:World)(a b:Value)(l:List Int)(hm:l.length<=1073741824)(f:AQ w a l)(hb:AQ w b l):
  Calls prog 46 #[a,b] w λe w'=>e=.returned (.bool true)/\∃k,w'=w.drewN k:=by
 obtain⟨ao,ca,rfl,m,f⟩:=f;obtain⟨bo,cb,rfl,r,hb⟩:=hb;by_cases d:l.length=0
 .rw[d];clear f hb m r d;go_enter func46,ntmps46;go_wp2_with fail
  go_loop [5] (λi=>i=.int .i64 0) (λ_=>0)
  case atStart=>rfl
  case round=>
   subst hrel;go_wp2_with fail;go_ret;exact⟨rfl,0,rfl⟩
 .obtain⟨p,o,rfl,hp,u⟩:=f d;obtain⟨q,y,rfl,hq,v⟩:=hb d;generalize hL:l.length=n at *;have z:Hid (∀i,i<n->w.cell? ⟨p,o+i,none⟩=some (.int .i64 (l.getD i 0))):=u;have A:Hid (∀i,i<n->w.cell? ⟨q,y+i,none⟩=some (.int .i64 (l.getD i 0))):=v;clear f hb u v hL d;go_enter func46,ntmps46;go_wp2_with fail;go_loopw [5] (λi wr=>∃j k:Nat,j<=n/\i=.int .i64 j/\wr=w.drewN k) (λi _=>n-(intOf i).toNat);case atStart=>exact⟨0,0,bY _,rfl,rfl⟩
  case round=>
   obtain⟨j,k,hj,rfl,c⟩:=hrel;have t:Hid (∃k,wr=w.drewN k):=⟨k,c⟩
   have h:∀a,wr.cell? a=w.cell? a:=λa=>by rw[c];rfl
   by_cases g:j<n
   .have c1:wr.cell? ⟨p,o+j,none⟩=some (.int .i64 (l.getD j 0)):=(h _).trans (z.out j g);have c2:wr.cell? ⟨q,y+j,none⟩=some (.int .i64 (l.getD j 0)):=(h _).trans (A.out j g);clear c h;have s:(j:Int)<(n:Int):=by omega
    generalize l.getD j 0=x at *;go_wp2_with fail;go_quiet (fail);go_wp2_with fail;go_roundw;case rel=>obtain⟨k',e⟩:=t.out;exact⟨j+1,_,by omega,by go_num,by rw[e];exact Cu _ _ _⟩
    case measure=>simp[intOf];omega
   .have s:¬(j:Int)<(n:Int):=by omega
    clear c h;go_wp2_with fail;go_ret;exact⟨rfl,t.out⟩
variable {w:World}
def G8(n:Int):Bool:=decide (n=NB\/(-4000<=n/\n<=4000))
def B_(l:List Int):Prop:=l.length=32/\∀i,i<32->G8 (l.getD i 0)=true
theorem Rk(n:Int):Calls prog 121 #[.int .i64 n] w λe w'=>e=.returned (.bool (G8 n))/\w'=w:=by
 by_cases h1:n=1000000
 .subst h1;go_enter func121,ntmps121;go_wp2_with fail;go_ret;exact⟨rfl,rfl⟩
 have q1:(n==1000000)=false:=by simpa using h1
 by_cases h2: -4000<=n
 .by_cases h3:n<=4000
  .have c:Hid (G8 n=true):=by show G8 n=true;unfold G8;exact cC (.inr ⟨h2,h3⟩)
   clear h1;go_enter func121,ntmps121;go_wp2_with fail;go_ret;exact⟨by rw[c.out];rfl,rfl⟩
  .have c:Hid (G8 n=false):=by show G8 n=false;unfold G8;exact bT (λe=>e.elim h1 (λe=>h3 e.2))
   clear h1;go_enter func121,ntmps121;go_wp2_with fail;go_ret;exact⟨by rw[c.out];rfl,rfl⟩
 .have c:Hid (G8 n=false):=by show G8 n=false;unfold G8;exact bT (λe=>e.elim h1 (λe=>h2 e.1))
  clear h1;go_enter func121,ntmps121;go_wp2_with fail;go_ret;exact⟨by rw[c.out];rfl,rfl⟩
def Kp(l:List Int):Nat->Bool
 |0=>true
 |f+1=>Kp l f&&G8 (l.getD f 0)
def FM(l:List Int):Bool:=decide (l.length=32)&&Kp l 32
theorem QZ{l:List Int}:∀{n:Nat},Kp l n=true↔∀f,f<n->G8 (l.getD f 0)=true:=by
 intro n;induction n with
 |zero=>exact⟨λ_ f m=>absurd m (by omega),λ_=>rfl⟩
 |succ n ih=>
  show(Kp l n&&G8 (l.getD n 0))=true↔_;rw[cA,ih];constructor
  .rintro⟨h1,h2⟩ f m;rcases bX (ch.1 m)with q|q
   .exact h1 f q
   .rw[q];exact h2
  .intro h;exact⟨λf m=>h f (by omega),h n (by omega)⟩
theorem CG{l:List Int}:FM l=true↔B_ l:=by
 unfold FM B_;rw[cA,cD,QZ]
theorem TO{l:List Int}{f:Nat}(m:f<32)(h:G8 (l.getD f 0)=false):Kp l 32=false:=by
 cases e:Kp l 32 with
 |false=>rfl
 |true=>rw[QZ.1 e f m]at h;cases h
theorem GV(u:Value)(l:List Int)(_hm:l.length<=1073741824)(D:AQ w u l):
  Calls prog 75 #[u] w λe w'=>e=.returned (.bool (FM l))/\w'=w:=by
 obtain⟨E,F,rfl,r,o⟩:=D;by_cases a:l.length=32
 .have c:Hid (FM l=Kp l 32):=by show FM l=_;unfold FM;rw[cC a];rfl
  obtain⟨p,off,rfl,H,b⟩:=o (by omega);have A:Hid (∀i,i<32->w.cell? ⟨p,off+i,none⟩=some (.int .i64 (l.getD i 0))):=λi hi=>b i (by omega);rw[a];clear o b r a _hm;go_enter func75,ntmps75;go_wp2_with fail;go_loopw [3] (λi wr=>∃(f:Nat),f<=32/\i=.int .i64 f/\wr=w/\Hid (Kp l f=true)) (λi _=>32-(intOf i).toNat);case atStart=>exact⟨0,by omega,rfl,rfl,rfl⟩
  case round=>
   obtain⟨f,m,rfl,rfl,s⟩:=hrel;by_cases g:f<32
   .have C:(f:Int)<32:=by omega
    have j:Hid (Kp l (f+1)=(Kp l f&&G8 (l.getD f 0))):=rfl;have G:=A.out f g;have k:Hid (¬(l.getD f 0=1000000\/(-4000<=l.getD f 0/\l.getD f 0<=4000))->Kp l 32=false):=λh=>TO g (bT h);generalize l.getD f 0=x at *;by_cases e1:x=1000000
    .have v:Hid (G8 x=true):=cC (.inl e1);have B:(x != 1000000)=false:=by rw[e1];rfl
     go_wp2_with fail;go_roundw;case rel=>exact⟨f+1,by omega,by go_num,by simp,by show Kp l (f+1)=true;rw[j.out,s.out,v.out];rfl⟩
     case measure=>simp[intOf];omega
    .have B:(x != 1000000)=true:=by rw[cI];exact e1
     by_cases e2:x< -4000
     .have t:Hid (Kp l 32=false):=k.out (by omega);go_wp2_with fail;go_ret;exact⟨by rw[c.out,t.out];rfl,rfl⟩
     .by_cases e3:4000<x
      .have t:Hid (Kp l 32=false):=k.out (by omega);go_wp2_with fail;go_ret;exact⟨by rw[c.out,t.out];rfl,rfl⟩
      .have v:Hid (G8 x=true):=cC (by exact .inr ⟨by omega,by omega⟩);go_wp2_with fail;go_roundw;case rel=>exact⟨f+1,by omega,by go_num,by simp,by show Kp l (f+1)=true;rw[j.out,s.out,v.out];rfl⟩
       case measure=>simp[intOf];omega
   .have d:f=32:=by omega
    subst d;go_wp2_with fail;go_ret;exact⟨by rw[c.out,s.out];rfl,rfl⟩
 .have c:Hid (FM l=false):=by show FM l=_;unfold FM;rw[bT a];rfl
  have hb:((l.length:Int) != 32)=true:=by rw[cI];omega
  clear o a;go_enter func75,ntmps75;go_wp2_with fail;go_ret;exact⟨by rw[c.out];rfl,rfl⟩
theorem KN(u:Value)(l:List Int)(D:AQ w u l):
  Calls prog 87 #[u] w λe w'=>e=.returned (.bool (FM l))/\w'=w:=by
 obtain⟨E,F,rfl,r,o⟩:=D;have z:=λ(n:Int)=>Rk (w:=w) n;by_cases a:l.length=32
 .have c:Hid (FM l=Kp l 32):=by show FM l=_;unfold FM;rw[cC a];rfl
  obtain⟨p,off,rfl,H,b⟩:=o (by omega);have A:Hid (∀i,i<32->w.cell? ⟨p,off+i,none⟩=some (.int .i64 (l.getD i 0))):=λi hi=>b i (by omega);rw[a];clear o b r a;go_enter func87,ntmps87;go_wp2_with fail;go_loopw [10] (λi wr=>∃(f:Nat),f<=32/\i=.int .i64 f/\wr=w/\Hid (Kp l f=true)) (λi _=>32-(intOf i).toNat);case atStart=>exact⟨0,by omega,rfl,rfl,rfl⟩
  case round=>
   obtain⟨f,m,rfl,rfl,s⟩:=hrel;by_cases g:f<32
   .have C:(f:Int)<32:=by omega
    have j:Hid (Kp l (f+1)=(Kp l f&&G8 (l.getD f 0))):=rfl;have G:=A.out f g;have k:Hid (G8 (l.getD f 0)=false->Kp l 32=false):=λh=>TO g h;generalize l.getD f 0=x at *;cases hb:G8 x with
    |true=>
     have y:=z x;rw[hb]at y;have v:Hid (G8 x=true):=hb;clear hb z;go_wp2_with fail;refine y.mono ?_;rintro e I ⟨rfl,rfl⟩;go_wp2_with fail;go_roundw;case rel=>exact⟨f+1,by omega,by go_num,by simp,by show Kp l (f+1)=true;rw[j.out,s.out,v.out];rfl⟩
     case measure=>simp[intOf];omega
    |false=>
     have y:=z x;rw[hb]at y;have t:Hid (Kp l 32=false):=k.out hb;clear hb z;go_wp2_with fail;refine y.mono ?_;rintro e I ⟨rfl,rfl⟩;go_wp2_with fail;go_ret;exact⟨by rw[c.out,t.out];rfl,rfl⟩
   .have d:f=32:=by omega
    subst d;go_wp2_with fail;go_ret;exact⟨by rw[c.out,s.out];rfl,rfl⟩
 .have c:Hid (FM l=false):=by show FM l=_;unfold FM;rw[bT a];rfl
  have hb:((l.length:Int) != 32)=true:=by rw[cI];omega
  clear o a;go_enter func87,ntmps87;go_wp2_with fail;go_ret;exact⟨by rw[c.out];rfl,rfl⟩
structure BC(m:Nat)(w w':World):Prop where
 os:w'.os=w.os
 tape:w'.tape=w.tape
 output:w'.output=w.output
 size:w.heap.size<=w'.heap.size
 block:∀k,k<w.heap.size->k≠m->w'.heap[k]?=w.heap[k]?
variable {m:Nat}{a b c w':World}
theorem BC.refl(m:Nat)(w:World):BC m w w:=⟨rfl,rfl,rfl,bB _,λ_ _ _=>rfl⟩
theorem BC.trans(h:BC m a b)(k:BC m b c):BC m a c:=
 ⟨k.os.trans h.os,k.tape.trans h.tape,k.output.trans h.output,cN h.size k.size,λi hi hn=>(k.block i (bM hi h.size) hn).trans (h.block i hi hn)⟩
theorem BC.of(h:dc w w')(m:Nat):BC m w w':=⟨h.os,h.tape,h.output,h.size,λk hk _=>h.block k hk⟩
theorem BC.own(h:BC m a b){q:Nat}(f:q=m\/a.heap.size<=q)(o:Nat)(u:Value):BC m a (b.setCell ⟨q,o,none⟩ u):=
 ⟨h.os,h.tape,h.output,by have:=h.size;simpa[World.setCell]using this,λk hk hn=>(Below.heap_setCell _ _ _ _ (by show k≠q;omega)).trans (h.block k hk hn)⟩
theorem BC.setCell(h:BC m a b)(o:Nat)(u:Value):BC m a (b.setCell ⟨m,o,none⟩ u):=h.own (.inl rfl) o u
theorem BC.alloc(h:BC m a b)(o:Obj):BC m a (b.alloc o):=h.trans (BC.of ((bC _ _).alloc (bB _) _) m)
theorem BC.drewN(h:BC m a b)(n:Nat):BC m a (b.drewN n):=⟨h.os,h.tape,h.output,h.size,h.block⟩
theorem BC.below(h:BC m a b){B:Nat}(h1:B<=m)(h2:B<=a.heap.size):Below B a b:=⟨h.os,h.tape,h.output,h.size,λk hk=>h.block k (by omega) (by omega)⟩
theorem BC.at_{q:Nat}{c:Array Value}{t:TypeId}(h:BC m w w')(e:At w q c t)(hn:q≠m):At w' q c t:=e.same (h.block q e.lt hn)
theorem BC.cell(h:BC m w w'){q:Nat}(f:q<w.heap.size)(hn:q≠m)(i:Nat):w'.cell? ⟨q,i,none⟩=w.cell? ⟨q,i,none⟩:=World.cell?_of_block (a:=⟨q,i,none⟩) (h.block q f hn)
theorem At.keep{w w':World}{B b:Nat}{c:Array Value}{t:TypeId}(h:At w b c t)(hb:Below B w w')(d:b<B):At w' b c t:=h.same (hb.block b d)
theorem At.allocH{b:Nat}{c:Array Value}{t:TypeId}(h:At w b c t)(o:Obj):At (w.alloc o) b c t:=h.keep ((bC _ _).alloc (bB _) _) h.lt
theorem At.new(w:World)(c:Array Value)(t:TypeId):At (w.alloc (.cells c t)) w.heap.size c t:=by
 show(w.heap.push _)[w.heap.size]?=_;simp
end Go.Proofs.YtffajooegiempaaGreatDoor
