import Derived.Test.YtffajooegiempaaGreatDoorJ19
set_option maxRecDepth 100000
set_option maxHeartbeats 6400000
namespace Go.Proofs.YtffajooegiempaaGreatDoor
variable {s:ByteArray} {d:Nat × Bool} {m m':Rd}
structure Sync (s:ByteArray) (d:Nat × Bool) (m:Rd):Prop where
 ns:d.2=false
 le:d.1<=s.size
 fd:feed init ((bytesOf s).take d.1)=some m
structure Dead (s:ByteArray) (d:Nat × Bool):Prop where
 st:d.2=true
 ex:∃ m,feed init ((bytesOf s).take d.1)=some m/\d.1<=s.size/\(d.1 < s.size->byteStep m ((bytesOf s).getD d.1 0)=none)/\(d.1=s.size->isDone m=false)
def Res (s:ByteArray) (d:Nat × Bool) (Q:Rd->Prop):Prop:=Dead s d \/ ∃ m',Sync s d m'/\Q m'
theorem Res.mono {Q R:Rd->Prop} (h:Res s d Q) (k:∀ m',Sync s d m'->Q m'->R m'):Res s d R:=by
 rcases h with h | ⟨m',h,q⟩
 ·exact .inl h
 ·exact .inr ⟨m',h,k m' h q⟩
theorem Sync.aok (h:Sync s d m):Ok m:=Ok.init.feed h.fd
theorem Sync.apk (h:Sync s d m):pk s d=(bytesOf s).getD d.1 0:=by unfold pk; rw [h.ns]; rfl
theorem Dead.dpk (h:Dead s d):pk s d=0:=by unfold pk; rw [h.st]; rfl
theorem Dead.dstk (h:Dead s d):stk d=d:=by unfold stk; rw [<- h.st]
theorem Sync.aadv (h:Sync s d m) (hne:pk s d ≠ 0) (hb:byteStep m (pk s d)=some m'):Sync s (adv d) m':=by
 have hlt:=(pk_lt rfl hne).1
 refine ⟨h.ns,by show d.1+1<=_; omega,?_⟩
 show feed init ((bytesOf s).take (d.1+1))=some m'
 rw [h.apk,List.getD_eq_getElem?_getD,bytesOf_get s d.1 hlt] at hb
 rw [bytesOf_take s d.1 hlt,feed_snoc,h.fd]
 exact hb
theorem Sync.adead (h:Sync s d m) (hb:byteStep m (pk s d)=none) (hnd:d.1=s.size->isDone m=false):Dead s (stk d) :=
 ⟨rfl,m,h.fd,h.le,fun _=>by rw [h.apk] at hb; exact hb,hnd⟩
theorem Dead.dnd (h:Dead s d) {c:Int} (hc:c ≠ 0):nd s d c=d:=by
 unfold nd; rw [if_neg (by rw [h.dpk]; exact fun e=>hc e.symm)]; exact h.dstk
theorem Dead.dSign (h:Dead s d):rSign s d=(1,d):=by unfold rSign; rw [if_neg (by rw [h.dpk]; decide)]
theorem varOf_zero:varOf 0=-1:=by decide
theorem Dead.dVar (h:Dead s d) (x:Int):rVar s d x=(0,d):=by unfold rVar; rw [if_pos (.inl (by rw [h.dpk]; exact varOf_zero)),h.dstk]
theorem Dead.dNum (h:Dead s d) (x:Int):rNum s d x=(0,d):=by unfold rNum; rw [if_neg (by rw [h.dpk]; simp),if_pos (by rw [h.dpk]; decide),h.dstk]
theorem Dead.dValue (h:Dead s d) (x:Ds):(rValue s d x).2=d:=by
 unfold rValue; rw [if_neg (by rw [h.dpk]; decide),h.dSign,if_pos (by show varOf (pk s d)=-1; rw [h.dpk]; exact varOf_zero)]
 show (rNum s d 1).2=d
 rw [h.dNum]
theorem Dead.dSecond (h:Dead s d) (x:Ds) (f:Int):(rSecond s d x f).2=d:=by unfold rSecond; rw [if_neg (by rw [h.dpk]; decide)]
theorem Dead.dCond (h:Dead s d) (x:Ds):(rCond s d x).2=d:=by
 unfold rCond; rw [if_neg (by rw [h.dpk]; decide),h.dSign]
 simp only
 rw [h.dVar]
 simp only
 rw [h.dSecond,h.dnd (by decide),h.dnd (by decide),h.dSign]
 simp only
 rw [h.dNum]
theorem Sync.aneed (h:Sync s d m) {c:Int} (hc:c ≠ 0) (hy:pk s d=c->byteStep m c=some m') (hn:pk s d ≠ c->byteStep m (pk s d)=none) (hnd:isDone m=false):Res s (nd s d c) (fun x=>x=m'):=by
 by_cases e:pk s d=c
 ·have:nd s d c=adv d:=if_pos e
  rw [this]
  exact .inr ⟨m',h.aadv (by rw [e]; exact hc) (by rw [e]; exact hy e),rfl⟩
 ·have:nd s d c=stk d:=if_neg e
  rw [this]
  exact .inl (h.adead (hn e) (fun _=>hnd))
theorem notDone (h:m.state ≠ 115):isDone m=false:=by unfold isDone; simp [h]
theorem byte_110 (h:m.state=110) (c:Int):byteStep m c=if c=59 then some (valueEnd m) else digitStep m c false 110:=by
 unfold byteStep valueStep; rw [h,if_neg (by decide),if_neg (by decide),if_pos (by decide),if_neg (by decide),if_neg (by decide),if_neg (by decide),if_neg (by decide)]
theorem Sync.valEnd (h:Sync s d m) (hs:m.state=110) (hno:¬ (48<=pk s d/\pk s d<=57) \/ m.dig=2 \/ (m.dig=1/\(cur m).num=0)):Res s (nd s d 59) (fun x=>x=valueEnd m):=by
 refine h.aneed (by decide) (fun _=>by rw [byte_110 hs,if_pos rfl]) (fun e=>?_) (notDone (by rw [hs]; decide))
 rw [byte_110 hs,if_neg e]
 simp only [digitStep]
 rw [if_pos hs,if_pos hs,if_pos]
 omega
theorem digit_new {c x:Int} {pos:Bool} (hs:m.state ≠ x) (hc:48<=c/\c<=57) (hp:¬ (pos=true/\c=48)):digitStep m c pos x=some { setCur m { cur m with num:=c - 48 } with dig:=1,state:=x }:=by
 simp only [digitStep]
 rw [if_neg hs,if_neg hs,if_neg (by
  rintro (a | a | a | a | a)
  ·omega
  ·omega
  ·omega
  ·omega
  ·exact hp a)]
 have:(10:Int)*0+(c - 48)=c - 48:=by omega
 rw [this]; rfl
theorem digit_more {c x u:Int} (hs:m.state=x) (hd:m.dig=1) (hu:(cur m).num=u) (hu0:u ≠ 0) (hc:48<=c/\c<=57):digitStep m c false x=some { setCur m { cur m with num:=10*u+(c - 48) } with dig:=2,state:=x }:=by
 simp only [digitStep]
 rw [if_pos hs,if_pos hs,hd,hu,if_neg (by
  rintro (a | a | a | a | a)
  ·omega
  ·omega
  ·omega
  ·omega
  ·simp at a)]
 rfl
theorem digit_bad {c x:Int} {pos:Bool} (hc:c < 48 \/ 57 < c \/ (pos=true/\c=48)):digitStep m c pos x=none:=by
 simp only [digitStep]
 rw [if_pos]
 rcases hc with a | a | a
 ·exact .inl a
 ·exact .inr (.inl a)
 ·exact .inr (.inr (.inr (.inr a)))
theorem setCur_two (m:Rd) (a b:St):(setCur (setCur m a) b).st=(setCur m b).st:=by simp [setCur]
theorem Sync.numVal (h:Sync s d m) {m0:Rd} {pos:Bool} {sg:Int} (hb:byteStep m (pk s d)=digitStep m0 (pk s d) pos 110) (hs:m0.state ≠ 110) (hn:0 < m0.st.length) (hsg:(sg=1/\pos=false) \/ (sg=-1/\pos=true)) (hnd:isDone m=false) :
  Res s (nd s (rNum s d sg).2 59) (fun x=>x.state=115/\x.op=m0.op/\x.st=(setCur m0 { cur m0 with num:=m0.sign*(sg*(rNum s d sg).1) }).st):=by
 have hsq:∀ n:Int,sg*(sg*n)=n:=by
  intro n
  rcases hsg with ⟨rfl,_⟩ | ⟨rfl,_⟩ <;> omega
 have hcs:=cur_setCur' hn
 by_cases hz:pk s d=48/\0 < sg
 ·have e:rNum s d sg=(0,adv d):=if_pos hz
  rw [e]
  have hp:pos=false:=by
   rcases hsg with h | h
   ·exact h.2
   ·omega
  rw [digit_new hs (by omega) (by rw [hp]; simp)] at hb
  have h1:=h.aadv (by omega) hb
  refine (h1.valEnd rfl (.inr (.inr ⟨rfl,?_⟩))).mono ?_
  ·show (cur (setCur m0 _)).num=0
   rw [hcs]; show pk s d - 48=0; omega
  ·rintro m' - rfl
   refine ⟨rfl,rfl,?_⟩
   show (setCur (setCur m0 _) _).st=_
   rw [setCur_two]
   show (setCur m0 { cur (setCur m0 _) with num:=m0.sign*(cur (setCur m0 _)).num }).st=_
   rw [hcs]
   have:pk s d - 48=0:=by omega
   simp only [this]
   simp
 by_cases hbad:pk s d < 49 \/ 57 < pk s d
 ·have e:rNum s d sg=(0,stk d):=by unfold rNum; rw [if_neg hz,if_pos hbad]
  rw [e]
  have hd:Dead s (stk d):=by
   refine h.adead ?_ (fun _=>hnd)
   rw [hb]
   refine digit_bad ?_
   by_cases h48:pk s d=48
   ·refine .inr (.inr ⟨?_,h48⟩)
    rcases hsg with h' | h'
    ·exact absurd ⟨h48,by omega⟩ hz
    ·exact h'.2
   ·omega
  show Res s (nd s (stk d) 59) _
  rw [hd.dnd (by decide)]
  exact .inl hd
 rw [digit_new hs (by omega) (by omega)] at hb
 have h1:=h.aadv (by omega) hb
 have hn1:(cur { setCur m0 { cur m0 with num:=pk s d - 48 } with dig:=1,state:=110 }).num=pk s d - 48:=by
  show (cur (setCur m0 _)).num=_
  rw [hcs]
 by_cases h2:48<=pk s (adv d)/\pk s (adv d)<=57
 ·have e:rNum s d sg=(sg*(10*(pk s d - 48)+(pk s (adv d) - 48)),adv (adv d)):=by unfold rNum; rw [if_neg hz,if_neg hbad,if_pos h2]
  rw [e]
  have hb2:=byte_110 (m:={ setCur m0 { cur m0 with num:=pk s d - 48 } with dig:=1,state:=110 }) rfl (pk s (adv d))
  rw [if_neg (by omega),digit_more rfl rfl hn1 (by omega) h2] at hb2
  have h3:=h1.aadv (by omega) hb2
  refine (h3.valEnd rfl (.inr (.inl rfl))).mono ?_
  rintro m' - rfl
  refine ⟨rfl,rfl,?_⟩
  have hl1:0 < (setCur m0 { cur m0 with num:=pk s d - 48 }).st.length:=by rw [setCur_len]; exact hn
  show (setCur (setCur (setCur m0 _) _) { cur (setCur (setCur m0 _) _) with num:=m0.sign*(cur (setCur (setCur m0 _) _)).num }).st=_
  rw [setCur_two,setCur_two,cur_setCur' hl1]
  show (setCur m0 { cur (setCur m0 { cur m0 with num:=pk s d - 48 }) with num:=m0.sign*(10*(pk s d - 48)+(pk s (adv d) - 48)) }).st=_
  rw [hcs,hsq]
 ·have e:rNum s d sg=(sg*(pk s d - 48),adv d):=by unfold rNum; rw [if_neg hz,if_neg hbad,if_neg h2]
  rw [e]
  refine (h1.valEnd rfl (.inl h2)).mono ?_
  rintro m' - rfl
  refine ⟨rfl,rfl,?_⟩
  show (setCur (setCur m0 _) { cur (setCur m0 _) with num:=m0.sign*(cur (setCur m0 _)).num }).st=_
  rw [setCur_two,hcs,hsq]
end Go.Proofs.YtffajooegiempaaGreatDoor

namespace Go.Proofs.YtffajooegiempaaGreatDoor
variable {s:ByteArray} {d:Nat × Bool} {m m':Rd}
theorem byte_59 (h:m.state=59) (c:Int):byteStep m c=if c=59 then some { m with state:=115 } else none:=by
 rw [byte_plain (.inl h)]; unfold plainStep; rw [if_pos h]
theorem byte_118 (h:m.state=118) (c:Int):byteStep m c=if c=42 then some { setCur m { cur m with star:=true } with state:=59 } else if c=45 then some { m with sign:=-1,state:=86 } else if 97<=c/\c<=100 then some (signTo m (c - 97).toNat 1 120) else digitStep { m with sign:=1 } c false 110:=by
 rw [byte_value (.inl h)]; unfold valueStep; rw [if_pos h]
theorem byte_86 (h:m.state=86) (c:Int):byteStep m c=if 97<=c/\c<=100 then some (signTo m (c - 97).toNat m.sign 120) else digitStep m c true 110:=by
 rw [byte_value (.inr (.inl h))]; unfold valueStep; rw [h,if_neg (by decide),if_pos rfl]
theorem byte_120 (h:m.state=120) (c:Int):byteStep m c=if c=43 then some { m with sign:=1,state:=121 } else if c=45 then some { m with sign:=-1,state:=121 } else if c=59 then some (valueEnd m) else none:=by
 rw [byte_value (.inr (.inr (.inl h)))]; unfold valueStep; rw [h,if_neg (by decide),if_neg (by decide),if_pos rfl]
theorem byte_121 (h:m.state=121) (c:Int):byteStep m c=digitStep m c false 110:=by
 rw [byte_value (.inr (.inr (.inr (.inl h))))]; unfold valueStep; rw [h,if_neg (by decide),if_neg (by decide),if_neg (by decide),if_pos rfl]
theorem byte_61 (h:m.state=61) (c:Int):byteStep m c=if c=61 then some { m with state:=118 } else none:=by
 unfold byteStep; rw [h,if_neg (by decide),if_pos rfl]
theorem varOf_pos {c:Int} (h:97<=c/\c<=100):varOf c=c - 97:=if_pos h
theorem varOf_neg {c:Int} (h:¬ (97<=c/\c<=100)):varOf c=-1:=if_neg h
theorem setCur_st_eq {a b:Rd} (h:a.st=b.st) (u:St):(setCur a u).st=(setCur b u).st:=by unfold setCur; simp only; rw [h]
theorem cur_eq {a b:Rd} (h:a.st=b.st):cur a=cur b:=by unfold cur; rw [h]
theorem Sync.summand (h:Sync s d m) (hs:m.state=120) (hz:(cur m).num=0) :
  Res s (nd s (rSummand s d).2 59) (fun x=>x.state=115/\x.op=m.op/\x.st=(setCur m { cur m with num:=(rSummand s d).1 }).st):=by
 have hn:0 < m.st.length:=h.aok.some_ (by rw [hs]; decide)
 have hb:=byte_120 hs (pk s d)
 have hnd:=notDone (m:=m) (by rw [hs]; decide)
 by_cases h43:pk s d=43
 ·have e:rSummand s d=rNum s (adv d) 1:=if_pos h43
  rw [e]
  rw [if_pos h43] at hb
  have h1:=h.aadv (by omega) hb
  refine (h1.numVal (m0:={ m with sign:=1,state:=121 }) (pos:=false) (sg:=1) (byte_121 rfl _) (by decide:(121:Int) ≠ 110) hn (.inl ⟨rfl,rfl⟩) (notDone (by decide:(121:Int) ≠ 115))).mono ?_
  rintro x - ⟨a,b,c⟩
  refine ⟨a,b,c.trans ?_⟩
  show (setCur m { cur m with num:=1*(1*_) }).st=_
  rw [Int.one_mul,Int.one_mul]
 by_cases h45:pk s d=45
 ·have e:rSummand s d=(-(rNum s (adv d) 1).1,(rNum s (adv d) 1).2):=by unfold rSummand; rw [if_neg h43,if_pos h45]
  rw [e]
  rw [if_neg h43,if_pos h45] at hb
  have h1:=h.aadv (by omega) hb
  refine (h1.numVal (m0:={ m with sign:=-1,state:=121 }) (pos:=false) (sg:=1) (byte_121 rfl _) (by decide:(121:Int) ≠ 110) hn (.inl ⟨rfl,rfl⟩) (notDone (by decide:(121:Int) ≠ 115))).mono ?_
  rintro x - ⟨a,b,c⟩
  refine ⟨a,b,c.trans ?_⟩
  show (setCur m { cur m with num:=-1*(1*_) }).st=_
  rw [Int.one_mul,Int.neg_mul,Int.one_mul]
 ·have e:rSummand s d=(0,d):=by unfold rSummand; rw [if_neg h43,if_neg h45]
  rw [e]
  rw [if_neg h43,if_neg h45] at hb
  refine (h.aneed (m':=valueEnd m) (by decide) (fun e=>by rw [e,if_pos rfl] at hb; exact hb) (fun e=>by rw [if_neg e] at hb; exact hb) hnd).mono ?_
  rintro x - rfl
  refine ⟨rfl,rfl,?_⟩
  show (setCur m { cur m with num:=m.sign*(cur m).num }).st=_
  rw [hz,Int.mul_zero]
theorem Sync.value (h:Sync s d m) (hs:m.state=118) (hz:(cur m).num=0) (x:Ds) (hx:x.any=false/\x.sg=(cur m).sg/\x.num=0/\(cur m).star=false) :
  Res s (nd s (rValue s d x).2 59) (fun y=>y.state=115/\y.op=m.op/\y.st=(setCur m { cur m with star:=(rValue s d x).1.any,sg:=(rValue s d x).1.sg,num:=(rValue s d x).1.num }).st):=by
 have hn:0 < m.st.length:=h.aok.some_ (by rw [hs]; decide)
 have hb:=byte_118 hs (pk s d)
 have hnd:=notDone (m:=m) (by rw [hs]; decide)
 obtain ⟨hx1,hx2,hx3,hx4⟩:=hx
 have hcs:=cur_setCur' hn
 by_cases h42:pk s d=42
 ·have e:rValue s d x=({ x with any:=true },adv d):=if_pos h42
  rw [e]
  rw [if_pos h42] at hb
  have h1:=h.aadv (by omega) hb
  refine (h1.aneed (c:=59) (m':={ setCur m { cur m with star:=true } with state:=115 }) (by decide) (fun e=>by rw [byte_59 rfl,if_pos rfl]) (fun e=>by rw [byte_59 rfl,if_neg e]) (notDone (by decide:(59:Int) ≠ 115))).mono ?_
  rintro y - rfl
  refine ⟨rfl,rfl,?_⟩
  show (setCur m { cur m with star:=true }).st=(setCur m { cur m with star:=true,sg:=x.sg,num:=x.num }).st
  rw [hx2,hx3,<- hz]
 rw [if_neg h42] at hb
 by_cases h45:pk s d=45
 ·rw [if_pos h45] at hb
  have h1:=h.aadv (by omega) hb
  have eg:rSign s d=(-1,adv d):=if_pos h45
  have hb1:=byte_86 (m:={ m with sign:=-1,state:=86 }) rfl (pk s (adv d))
  by_cases hv:97<=pk s (adv d)/\pk s (adv d)<=100
  ·have ev:rVar s (adv d) (-1)=(pk s (adv d) - 97,adv (adv d)):=by unfold rVar; rw [varOf_pos hv,if_neg (by omega)]
   have e:rValue s d x=({ x with any:=false,sg:=x.sg.set (pk s (adv d) - 97).toNat (-1),num:=(rSummand s (adv (adv d))).1 },(rSummand s (adv (adv d))).2):=by
    unfold rValue; rw [if_neg h42,eg,if_neg (by show varOf (pk s (adv d)) ≠ -1; rw [varOf_pos hv]; omega)]; simp only; rw [ev]
   rw [e]
   rw [if_pos hv] at hb1
   have h2:=h1.aadv (by omega) hb1
   refine (h2.summand rfl (by show (cur (setCur m _)).num=0; rw [hcs]; exact hz)).mono ?_
   rintro y - ⟨a,b,c⟩
   refine ⟨a,b,c.trans ?_⟩
   show (setCur (setCur m _) { cur (setCur m _) with num:=_ }).st=_
   rw [setCur_two,hcs]
   show (setCur m { cur m with sg:=(cur m).sg.set _ (-1),num:=_ }).st=(setCur m { cur m with star:=false,sg:=x.sg.set _ (-1),num:=_ }).st
   rw [hx2,<- hx4]
  ·have e:rValue s d x=({ x with any:=false,num:=(rNum s (adv d) (-1)).1 },(rNum s (adv d) (-1)).2):=by
    unfold rValue; rw [if_neg h42,eg,if_pos (varOf_neg hv)]
   rw [e]
   rw [if_neg hv] at hb1
   refine (h1.numVal (m0:={ m with sign:=-1,state:=86 }) (pos:=true) (sg:=-1) hb1 (by decide:(86:Int) ≠ 110) hn (.inr ⟨rfl,rfl⟩) (notDone (by decide:(86:Int) ≠ 115))).mono ?_
   rintro y - ⟨a,b,c⟩
   refine ⟨a,b,c.trans ?_⟩
   show (setCur m { cur m with num:=-1*(-1*_) }).st=(setCur m { cur m with star:=false,sg:=x.sg,num:=_ }).st
   rw [hx2,<- hx4,Int.neg_mul,Int.neg_mul,Int.one_mul,Int.one_mul,Int.neg_neg]
 ·rw [if_neg h45] at hb
  have eg:rSign s d=(1,d):=if_neg h45
  by_cases hv:97<=pk s d/\pk s d<=100
  ·have ev:rVar s d (-1)=(pk s d - 97,adv d):=by unfold rVar; rw [varOf_pos hv,if_neg (by omega)]
   have e:rValue s d x=({ x with any:=false,sg:=x.sg.set (pk s d - 97).toNat 1,num:=(rSummand s (adv d)).1 },(rSummand s (adv d)).2):=by
    unfold rValue; rw [if_neg h42,eg,if_neg (by show varOf (pk s d) ≠ -1; rw [varOf_pos hv]; omega)]; simp only; rw [ev]
   rw [e]
   rw [if_pos hv] at hb
   have h2:=h.aadv (by omega) hb
   refine (h2.summand rfl (by show (cur (setCur m _)).num=0; rw [hcs]; exact hz)).mono ?_
   rintro y - ⟨a,b,c⟩
   refine ⟨a,b,c.trans ?_⟩
   show (setCur (setCur m _) { cur (setCur m _) with num:=_ }).st=_
   rw [setCur_two,hcs]
   show (setCur m { cur m with sg:=(cur m).sg.set _ 1,num:=_ }).st=(setCur m { cur m with star:=false,sg:=x.sg.set _ 1,num:=_ }).st
   rw [hx2,<- hx4]
  ·have e:rValue s d x=({ x with any:=false,num:=(rNum s d 1).1 },(rNum s d 1).2):=by
    unfold rValue; rw [if_neg h42,eg,if_pos (varOf_neg hv)]
   rw [e]
   rw [if_neg hv] at hb
   refine (h.numVal (m0:={ m with sign:=1 }) (pos:=false) (sg:=1) hb (by show m.state ≠ 110; rw [hs]; decide) hn (.inl ⟨rfl,rfl⟩) hnd).mono ?_
   rintro y - ⟨a,b,c⟩
   refine ⟨a,b,c.trans ?_⟩
   show (setCur m { cur m with num:=1*(1*_) }).st=(setCur m { cur m with star:=false,sg:=x.sg,num:=_ }).st
   rw [hx2,<- hx4,Int.one_mul,Int.one_mul]
end Go.Proofs.YtffajooegiempaaGreatDoor

namespace Go.Proofs.YtffajooegiempaaGreatDoor
variable {s:ByteArray} {d:Nat × Bool} {m m':Rd}
def opAft (m:Rd):List Bk:=if (cur m).kind=33 then m.op else m.op ++ [⟨m.st.length - 1,false⟩]
theorem behind_ne (m:Rd):behindOf m ≠ 0/\behindOf m ≠ 115:=by
 rcases behind_or m with e | e <;> rw [e] <;> decide
theorem plain_yes {a:Rd} (hs:a.state=behindOf m) (hk:(cur m).kind=33 \/ a.op.length ≠ 4):∃ y,plainStep a (behindOf m)=some y/\y.state=115/\y.st=a.st/\y.op=(if (cur m).kind=33 then a.op else a.op ++ [⟨a.st.length - 1,false⟩]):=by
 unfold plainStep
 by_cases e:(cur m).kind=33
 ·have eb:behindOf m=59:=if_pos e
  rw [if_pos (by rw [hs,eb]),if_pos eb]
  exact ⟨_,rfl,rfl,rfl,by rw [if_pos e]⟩
 ·have eb:behindOf m=123:=if_neg e
  rw [if_neg (by rw [hs,eb]; decide),if_neg (by rw [eb]; exact fun h=>h.elim (fun h=>h rfl) (fun h=>hk.elim e (fun k=>k h)))]
  exact ⟨_,rfl,rfl,rfl,by rw [if_neg e]⟩
theorem plain_no {a:Rd} (hs:a.state=behindOf m) {c:Int} (hc:c ≠ behindOf m):plainStep a c=none:=by
 unfold plainStep
 rcases behind_or m with e | e
 ·rw [if_pos (by rw [hs,e]),if_neg (by rw [<- e]; exact hc)]
 ·rw [if_neg (by rw [hs,e]; decide),if_pos (.inl (by rw [<- e]; exact hc))]
def negNum (m:Rd):Int:=if m.neg then -(cur m).num else (cur m).num
theorem byte_109 (h:m.state=109) (c:Int):byteStep m c=if c=59 \/ c=123 then plainStep { setCur m { cur m with num:=negNum m } with state:=behindOf m } c else digitStep m c false 109:=by
 rw [byte_cond (by rw [h]; decide)]; unfold condStep; rw [h,if_neg (by decide),if_neg (by decide),if_neg (by decide),if_neg (by decide),if_neg (by decide),if_neg (by decide),if_neg (by decide),if_neg (by decide),if_pos rfl]; rfl
theorem Sync.condEnd (h:Sync s d m) (hs:m.state=109) (hk:(cur m).kind=33 \/ m.op.length ≠ 4) (hno:¬ (48<=pk s d/\pk s d<=57) \/ m.dig=2 \/ (m.dig=1/\(cur m).num=0)) :
  Res s (nd s d (behindOf m)) (fun x=>x.state=115/\x.st=(setCur m { cur m with num:=negNum m }).st/\x.op=opAft m):=by
 have hn:0 < m.st.length:=h.aok.some_ (by rw [hs]; decide)
 have hb:=byte_109 hs (pk s d)
 obtain ⟨y,hy,y1,y2,y3⟩:=plain_yes (m:=m) (a:={ setCur m { cur m with num:=negNum m } with state:=behindOf m }) rfl hk
 refine (h.aneed (m':=y) (behind_ne m).1 (fun e=>?_) (fun e=>?_) (notDone (by rw [hs]; decide))).mono ?_
 ·rw [e,if_pos (behind_or m),hy] at hb; exact hb
 ·rw [hb]
  by_cases e2:pk s d=59 \/ pk s d=123
  ·rw [if_pos e2]; exact plain_no rfl e
  ·rw [if_neg e2]
   simp only [digitStep]
   rw [if_pos hs,if_pos hs,if_pos]
   omega
 ·rintro x - rfl
  refine ⟨y1,y2,?_⟩
  rw [y3]
  unfold opAft
  show (if (cur m).kind=33 then m.op else m.op ++ [⟨(setCur m _).st.length - 1,false⟩])=_
  rw [setCur_len]
theorem Sync.numCond (h:Sync s d m) {pos:Bool} {sg:Int} (hb:byteStep m (pk s d)=digitStep m (pk s d) pos 109) (hs:m.state ≠ 109/\m.state ≠ 115) (hk:(cur m).kind=33 \/ m.op.length ≠ 4) (hsg:(sg=1/\pos=false/\m.neg=false) \/ (sg=-1/\pos=true/\m.neg=true)) :
  Res s (nd s (rNum s d sg).2 (behindOf m)) (fun x=>x.state=115/\x.st=(setCur m { cur m with num:=(rNum s d sg).1 }).st/\x.op=opAft m):=by
 have hn:0 < m.st.length:=h.aok.some_ hs.2
 have hneg:∀ n:Int,(if m.neg then -n else n)=sg*n:=by
  intro n
  rcases hsg with ⟨rfl,_,e⟩ | ⟨rfl,_,e⟩ <;> rw [e] <;> simp
 have hcs:=cur_setCur' hn
 have hbe:∀ u:St,u.kind=(cur m).kind->behindOf (setCur m u)=behindOf m:=fun u hu=>by unfold behindOf; rw [hcs,hu]
 have hop:∀ u:St,u.kind=(cur m).kind->opAft (setCur m u)=opAft m:=fun u hu=>by unfold opAft; rw [hcs,hu,setCur_len]; rfl
 by_cases hz:pk s d=48/\0 < sg
 ·have e:rNum s d sg=(0,adv d):=if_pos hz
  rw [e]
  have hp:pos=false:=by
   rcases hsg with h | h
   ·exact h.2.1
   ·omega
  rw [digit_new hs.1 (by omega) (by rw [hp]; simp)] at hb
  have h1:=h.aadv (by omega) hb
  have e0:pk s d - 48=0:=by omega
  have h2:=h1.condEnd rfl (by show (cur (setCur m _)).kind=33 \/ _; rw [hcs]; exact hk) (.inr (.inr ⟨rfl,by show (cur (setCur m _)).num=0; rw [hcs]; exact e0⟩))
  have eb:behindOf { setCur m { cur m with num:=pk s d - 48 } with dig:=1,state:=109 }=behindOf m:=hbe { cur m with num:=pk s d - 48 } rfl
  rw [eb] at h2
  refine h2.mono ?_
  rintro x - ⟨a,b,c⟩
  refine ⟨a,b.trans ?_,c.trans (hop { cur m with num:=pk s d - 48 } rfl)⟩
  show (setCur (setCur m _) { cur (setCur m _) with num:=if m.neg then -(cur (setCur m _)).num else (cur (setCur m _)).num }).st=_
  rw [setCur_two,hcs,hneg,e0,Int.mul_zero]
 by_cases hbad:pk s d < 49 \/ 57 < pk s d
 ·have e:rNum s d sg=(0,stk d):=by unfold rNum; rw [if_neg hz,if_pos hbad]
  rw [e]
  have hd:Dead s (stk d):=by
   refine h.adead ?_ (fun _=>notDone hs.2)
   rw [hb]
   refine digit_bad ?_
   by_cases h48:pk s d=48
   ·refine .inr (.inr ⟨?_,h48⟩)
    rcases hsg with h' | h'
    ·exact absurd ⟨h48,by omega⟩ hz
    ·exact h'.2.1
   ·omega
  show Res s (nd s (stk d) _) _
  rw [hd.dnd (behind_ne m).1]
  exact .inl hd
 rw [digit_new hs.1 (by omega) (by omega)] at hb
 have h1:=h.aadv (by omega) hb
 have eb:behindOf { setCur m { cur m with num:=pk s d - 48 } with dig:=1,state:=109 }=behindOf m:=hbe { cur m with num:=pk s d - 48 } rfl
 by_cases h2:48<=pk s (adv d)/\pk s (adv d)<=57
 ·have e:rNum s d sg=(sg*(10*(pk s d - 48)+(pk s (adv d) - 48)),adv (adv d)):=by unfold rNum; rw [if_neg hz,if_neg hbad,if_pos h2]
  rw [e]
  have hn1:(cur { setCur m { cur m with num:=pk s d - 48 } with dig:=1,state:=109 }).num=pk s d - 48:=by
   show (cur (setCur m _)).num=_
   rw [hcs]
  have hb2:=byte_109 (m:={ setCur m { cur m with num:=pk s d - 48 } with dig:=1,state:=109 }) rfl (pk s (adv d))
  rw [if_neg (by omega),digit_more rfl rfl hn1 (by omega) h2] at hb2
  have h3:=h1.aadv (by omega) hb2
  have hl1:0 < (setCur m { cur m with num:=pk s d - 48 }).st.length:=by rw [setCur_len]; exact hn
  have ec:cur (setCur (setCur m { cur m with num:=pk s d - 48 }) { cur (setCur m { cur m with num:=pk s d - 48 }) with num:=10*(pk s d - 48)+(pk s (adv d) - 48) })={ cur m with num:=10*(pk s d - 48)+(pk s (adv d) - 48) }:=by
   rw [cur_setCur' hl1,hcs]
  have h4:=h3.condEnd rfl (by show (cur (setCur (setCur m { cur m with num:=pk s d - 48 }) { cur (setCur m { cur m with num:=pk s d - 48 }) with num:=_ })).kind=33 \/ _; rw [ec]; exact hk) (.inr (.inl rfl))
  have eb2:behindOf { setCur { setCur m { cur m with num:=pk s d - 48 } with dig:=1,state:=109 } { cur { setCur m { cur m with num:=pk s d - 48 } with dig:=1,state:=109 } with num:=10*(pk s d - 48)+(pk s (adv d) - 48) } with dig:=2,state:=109 }=behindOf m:=by
   show behindOf (setCur (setCur m _) { cur (setCur m _) with num:=_ })=_
   unfold behindOf; rw [ec]
  rw [eb2] at h4
  refine h4.mono ?_
  rintro x - ⟨a,b,c⟩
  refine ⟨a,b.trans ?_,c.trans ?_⟩
  ·show (setCur (setCur (setCur m _) { cur (setCur m _) with num:=_ }) { cur (setCur (setCur m _) { cur (setCur m _) with num:=_ }) with num:=if m.neg then -(cur (setCur (setCur m _) { cur (setCur m _) with num:=_ })).num else (cur (setCur (setCur m _) { cur (setCur m _) with num:=_ })).num }).st=_
   rw [setCur_two,setCur_two,ec,hneg]
  ·show opAft (setCur (setCur m _) { cur (setCur m _) with num:=_ })=_
   unfold opAft; rw [ec,setCur_len,setCur_len]; rfl
 ·have e:rNum s d sg=(sg*(pk s d - 48),adv d):=by unfold rNum; rw [if_neg hz,if_neg hbad,if_neg h2]
  rw [e]
  have h3:=h1.condEnd rfl (by show (cur (setCur m _)).kind=33 \/ _; rw [hcs]; exact hk) (.inl h2)
  rw [eb] at h3
  refine h3.mono ?_
  rintro x - ⟨a,b,c⟩
  refine ⟨a,b.trans ?_,c.trans (hop { cur m with num:=pk s d - 48 } rfl)⟩
  show (setCur (setCur m _) { cur (setCur m _) with num:=if m.neg then -(cur (setCur m _)).num else (cur (setCur m _)).num }).st=_
  rw [setCur_two,hcs,hneg]
end Go.Proofs.YtffajooegiempaaGreatDoor

namespace Go.Proofs.YtffajooegiempaaGreatDoor
variable {s:ByteArray} {d:Nat × Bool} {m m':Rd}
theorem byte_99 (h:m.state=99) (c:Int):byteStep m c=if c=42 then some { setCur m { cur m with star:=true } with state:=behindOf m } else if c=45 then some { m with sign:=-1,state:=67 } else if 97<=c/\c<=100 then some (signTo m (c - 97).toNat 1 100) else none:=by
 rw [byte_cond (.inl h)]; unfold condStep; rw [if_pos h]
theorem byte_67 (h:m.state=67) (c:Int):byteStep m c=if 97<=c/\c<=100 then some (signTo m (c - 97).toNat m.sign 100) else none:=by
 rw [byte_cond (.inr (.inl h))]; unfold condStep; rw [h,if_neg (by decide),if_pos rfl]
theorem byte_100 (h:m.state=100) (c:Int):byteStep m c=if c=43 then some { m with sign:=1,state:=101 } else if c=45 then some { m with sign:=-1,state:=101 } else if c=60 then some { m with state:=60 } else none:=by
 rw [byte_cond (by rw [h]; decide)]; unfold condStep; rw [h,if_neg (by decide),if_neg (by decide),if_pos rfl]
theorem byte_101 (h:m.state=101) (c:Int):byteStep m c=if 97<=c/\c<=100 then (if (cur m).sg.getD (c - 97).toNat 0=0 then some (signTo m (c - 97).toNat m.sign 102) else none) else none:=by
 rw [byte_cond (by rw [h]; decide)]; unfold condStep; rw [h,if_neg (by decide),if_neg (by decide),if_neg (by decide),if_pos rfl]
theorem byte_102 (h:m.state=102) (c:Int):byteStep m c=if c=60 then some { m with state:=60 } else none:=by
 rw [byte_cond (by rw [h]; decide)]; unfold condStep; rw [h,if_neg (by decide),if_neg (by decide),if_neg (by decide),if_neg (by decide),if_pos rfl]
theorem byte_60 (h:m.state=60) (c:Int):byteStep m c=if c=61 then some { m with neg:=false,state:=98 } else none:=by
 rw [byte_cond (by rw [h]; decide)]; unfold condStep; rw [h,if_neg (by decide),if_neg (by decide),if_neg (by decide),if_neg (by decide),if_neg (by decide),if_pos rfl]
theorem byte_98 (h:m.state=98) (c:Int):byteStep m c=if c=45 then some { m with neg:=true,state:=66 } else digitStep m c false 109:=by
 rw [byte_cond (by rw [h]; decide)]; unfold condStep; rw [h,if_neg (by decide),if_neg (by decide),if_neg (by decide),if_neg (by decide),if_neg (by decide),if_neg (by decide),if_pos rfl]
theorem byte_66 (h:m.state=66) (c:Int):byteStep m c=digitStep m c true 109:=by
 rw [byte_cond (by rw [h]; decide)]; unfold condStep; rw [h,if_neg (by decide),if_neg (by decide),if_neg (by decide),if_neg (by decide),if_neg (by decide),if_neg (by decide),if_neg (by decide),if_pos rfl]
theorem rSecond_any (s:ByteArray) (d:Nat × Bool) (x:Ds) (f:Int):(rSecond s d x f).1.any=x.any:=by
 unfold rSecond
 split
 ·rfl
 ·rfl
def tailN (s:ByteArray) (d:Nat × Bool):Int × (Nat × Bool):=rNum s (rSign s d).2 (rSign s d).1
def tailE (s:ByteArray) (d:Nat × Bool):Int × (Nat × Bool):=tailN s (nd s (nd s d 60) 61)
theorem Dead.dTailN (h:Dead s d):tailN s d=(0,d):=by unfold tailN; rw [h.dSign]; exact h.dNum 1
theorem Dead.dTailE (h:Dead s d):tailE s d=(0,d):=by unfold tailE; rw [h.dnd (by decide),h.dnd (by decide)]; exact h.dTailN
def QC (m:Rd) (n:Int) (y:Rd):Prop:=y.state=115/\y.st=(setCur m { cur m with num:=n }).st/\y.op=opAft m
theorem Sync.tailN (h:Sync s d m) (hs:m.state=98) (hneg:m.neg=false) (hk:(cur m).kind=33 \/ m.op.length ≠ 4):Res s (nd s (Go.Proofs.YtffajooegiempaaGreatDoor.tailN s d).2 (behindOf m)) (QC m (Go.Proofs.YtffajooegiempaaGreatDoor.tailN s d).1):=by
 have hb:=byte_98 hs (pk s d)
 by_cases h45:pk s d=45
 ·rw [if_pos h45] at hb
  have h1:=h.aadv (by omega) hb
  have e:Go.Proofs.YtffajooegiempaaGreatDoor.tailN s d=rNum s (adv d) (-1):=by unfold Go.Proofs.YtffajooegiempaaGreatDoor.tailN; rw [show rSign s d=(-1,adv d) from if_pos h45]
  rw [e]
  exact h1.numCond (pos:=true) (sg:=-1) (byte_66 rfl _) ⟨(by decide:(66:Int) ≠ 109),(by decide:(66:Int) ≠ 115)⟩ hk (.inr ⟨rfl,rfl,rfl⟩)
 ·rw [if_neg h45] at hb
  have e:Go.Proofs.YtffajooegiempaaGreatDoor.tailN s d=rNum s d 1:=by unfold Go.Proofs.YtffajooegiempaaGreatDoor.tailN; rw [show rSign s d=(1,d) from if_neg h45]
  rw [e]
  exact h.numCond (pos:=false) (sg:=1) hb ⟨by rw [hs]; decide,by rw [hs]; decide⟩ hk (.inl ⟨rfl,rfl,hneg⟩)
theorem Sync.tailE (h:Sync s d m) (hs:m.state=100 \/ m.state=102) (hp:m.state=100->pk s d ≠ 43/\pk s d ≠ 45) (hk:(cur m).kind=33 \/ m.op.length ≠ 4):Res s (nd s (Go.Proofs.YtffajooegiempaaGreatDoor.tailE s d).2 (behindOf m)) (QC m (Go.Proofs.YtffajooegiempaaGreatDoor.tailE s d).1):=by
 have hb:byteStep m (pk s d)=if pk s d=60 then some { m with state:=60 } else none:=by
  rcases hs with e | e
  ·rw [byte_100 e,if_neg (hp e).1,if_neg (hp e).2]
  ·rw [byte_102 e]
 have hnd:isDone m=false:=notDone (by omega)
 rcases h.aneed (c:=60) (m':={ m with state:=60 }) (by decide) (fun e=>by rw [e,if_pos rfl] at hb; exact hb) (fun e=>by rw [if_neg e] at hb; exact hb) hnd with hd | ⟨m1,h1,rfl⟩
 ·have e:Go.Proofs.YtffajooegiempaaGreatDoor.tailE s d=(0,nd s d 60):=by unfold Go.Proofs.YtffajooegiempaaGreatDoor.tailE; rw [hd.dnd (by decide)]; exact hd.dTailN
  rw [e]
  show Res s (nd s (nd s d 60) _) _
  rw [hd.dnd (behind_ne m).1]
  exact .inl hd
 ·rcases h1.aneed (c:=61) (m':={ m with neg:=false,state:=98 }) (by decide) (fun e=>by rw [byte_60 rfl,if_pos rfl]) (fun e=>by rw [byte_60 rfl,if_neg e]) (notDone (by decide:(60:Int) ≠ 115)) with hd | ⟨m2,h2,rfl⟩
  ·have e:Go.Proofs.YtffajooegiempaaGreatDoor.tailE s d=(0,nd s (nd s d 60) 61):=hd.dTailN
   rw [e]
   show Res s (nd s (nd s (nd s d 60) 61) _) _
   rw [hd.dnd (behind_ne m).1]
   exact .inl hd
  ·exact h2.tailN rfl rfl hk
theorem Sync.second (h:Sync s d m) (hs:m.state=100) (hk:(cur m).kind=33 \/ m.op.length ≠ 4) (x:Ds) (f:Int) (hx:x.sg=(cur m).sg) (hf:∀ v:Int,0<=v->v<=3->((cur m).sg.getD v.toNat 0=0 ↔ v ≠ f)) :
  Res s (nd s (Go.Proofs.YtffajooegiempaaGreatDoor.tailE s (rSecond s d x f).2).2 (behindOf m)) (QC (setCur m { cur m with sg:=(rSecond s d x f).1.sg }) (Go.Proofs.YtffajooegiempaaGreatDoor.tailE s (rSecond s d x f).2).1):=by
 have hn:0 < m.st.length:=h.aok.some_ (by rw [hs]; decide)
 have hb:=byte_100 hs (pk s d)
 have hcs:=cur_setCur' hn
 by_cases hc:pk s d=43 \/ pk s d=45
 ·obtain ⟨g,hg,hb1⟩:∃ g,(if pk s d=45 then (-1:Int) else 1)=g/\byteStep m (pk s d)=some { m with sign:=g,state:=101 }:=by
   rcases hc with e | e
   ·exact ⟨1,by rw [e]; rfl,by rw [hb,if_pos e]⟩
   ·exact ⟨-1,by rw [e]; rfl,by rw [hb,if_neg (by omega),if_pos e]⟩
  have h1:=h.aadv (by omega) hb1
  have e:rSecond s d x f=({ x with sg:=x.sg.set (rVar s (adv d) f).1.toNat g },(rVar s (adv d) f).2):=by unfold rSecond; rw [if_pos hc,hg]
  rw [e]
  have hb2:=byte_101 (m:={ m with sign:=g,state:=101 }) rfl (pk s (adv d))
  by_cases hv:97<=pk s (adv d)/\pk s (adv d)<=100
  ·rw [if_pos hv] at hb2
   by_cases hff:pk s (adv d) - 97=f
   ·have ev:rVar s (adv d) f=(0,stk (adv d)):=by unfold rVar; rw [varOf_pos hv,if_pos (.inr hff)]
    rw [ev]
    have hd:Dead s (stk (adv d)):=by
     refine h1.adead ?_ (fun _=>notDone (by decide:(101:Int) ≠ 115))
     rw [hb2,if_neg]
     intro e0
     exact ((hf (pk s (adv d) - 97) (by omega) (by omega)).1 e0) hff
    show Res s (nd s (Go.Proofs.YtffajooegiempaaGreatDoor.tailE s (stk (adv d))).2 _) _
    rw [hd.dTailE]
    show Res s (nd s (stk (adv d)) _) _
    rw [hd.dnd (behind_ne m).1]
    exact .inl hd
   ·have ev:rVar s (adv d) f=(pk s (adv d) - 97,adv (adv d)):=by unfold rVar; rw [varOf_pos hv,if_neg (by omega)]
    rw [ev]
    have e0:(cur { m with sign:=g,state:=101 }).sg.getD (pk s (adv d) - 97).toNat 0=0:=(hf (pk s (adv d) - 97) (by omega) (by omega)).2 hff
    rw [if_pos e0] at hb2
    have h2:=h1.aadv (by omega) hb2
    have hkd:(cur (signTo { m with sign:=g,state:=101 } (pk s (adv d) - 97).toNat g 102)).kind=(cur m).kind:=by
     show (cur (setCur m _)).kind=_
     rw [hcs]; rfl
    have ebh:behindOf (signTo { m with sign:=g,state:=101 } (pk s (adv d) - 97).toNat g 102)=behindOf m:=by unfold behindOf; rw [hkd]
    have h3:=h2.tailE (.inr rfl) (fun e=>absurd e (by decide:(102:Int) ≠ 100)) (by rw [hkd]; exact hk)
    rw [ebh] at h3
    refine h3.mono ?_
    rintro y - ⟨a,b,c⟩
    refine ⟨a,b.trans ?_,c.trans ?_⟩
    ·show (setCur (setCur m { cur m with sg:=(cur m).sg.set _ g }) { cur (setCur m { cur m with sg:=(cur m).sg.set _ g }) with num:=_ }).st=(setCur (setCur m { cur m with sg:=x.sg.set _ g }) { cur (setCur m { cur m with sg:=x.sg.set _ g }) with num:=_ }).st
     rw [hx]
    ·show opAft (setCur m { cur m with sg:=(cur m).sg.set _ g })=opAft (setCur m { cur m with sg:=x.sg.set _ g })
     rw [hx]
  ·have ev:rVar s (adv d) f=(0,stk (adv d)):=by unfold rVar; rw [if_pos (.inl (varOf_neg hv))]
   rw [ev]
   have hd:Dead s (stk (adv d)):=by
    refine h1.adead ?_ (fun _=>notDone (by decide:(101:Int) ≠ 115))
    rw [hb2,if_neg hv]
   show Res s (nd s (Go.Proofs.YtffajooegiempaaGreatDoor.tailE s (stk (adv d))).2 _) _
   rw [hd.dTailE]
   show Res s (nd s (stk (adv d)) _) _
   rw [hd.dnd (behind_ne m).1]
   exact .inl hd
 ·have e:rSecond s d x f=(x,d):=if_neg hc
  rw [e]
  have h3:=h.tailE (.inl hs) (fun _=>⟨fun e=>hc (.inl e),fun e=>hc (.inr e)⟩) hk
  refine h3.mono ?_
  rintro y - ⟨a,b,c⟩
  have e2:setCur m { cur m with sg:=x.sg }=m:=by
   rw [hx]; exact setCur_cur hn
  rw [show (x,d).1.sg=x.sg from rfl,e2]
  exact ⟨a,b,c⟩
theorem Sync.cond (h:Sync s d m) (hs:m.state=99) (hk:(cur m).kind=33 \/ m.op.length ≠ 4) (x:Ds) (hx:x.any=false/\x.sg=(cur m).sg/\x.num=(cur m).num/\(cur m).star=false) (hz:(cur m).sg=[0,0,0,0]) :
  Res s (nd s (rCond s d x).2 (behindOf m)) (fun y=>y.state=115/\y.st=(setCur m { cur m with star:=(rCond s d x).1.any,sg:=(rCond s d x).1.sg,num:=(rCond s d x).1.num }).st/\y.op=opAft m):=by
 have hn:0 < m.st.length:=h.aok.some_ (by rw [hs]; decide)
 have hb:=byte_99 hs (pk s d)
 obtain ⟨hx1,hx2,hx3,hx4⟩:=hx
 have hcs:=cur_setCur' hn
 by_cases h42:pk s d=42
 ·have e:rCond s d x=({ x with any:=true },adv d):=if_pos h42
  rw [e]
  rw [if_pos h42] at hb
  have h1:=h.aadv (by omega) hb
  have hbh:behindOf m=59 \/ behindOf m=123:=behind_or m
  obtain ⟨y,hy,y1,y2,y3⟩:=plain_yes (m:=m) (a:={ setCur m { cur m with star:=true } with state:=behindOf m }) rfl hk
  have hpl:∀ c,byteStep { setCur m { cur m with star:=true } with state:=behindOf m } c=plainStep { setCur m { cur m with star:=true } with state:=behindOf m } c:=fun c=>byte_plain hbh c
  refine (h1.aneed (m':=y) (behind_ne m).1 (fun e=>by rw [hpl]; exact hy) (fun e=>by rw [hpl]; exact plain_no rfl e) (notDone (behind_ne m).2)).mono ?_
  rintro z - rfl
  refine ⟨y1,y2.trans ?_,y3.trans ?_⟩
  ·show (setCur m { cur m with star:=true }).st=(setCur m { cur m with star:=true,sg:=x.sg,num:=x.num }).st
   rw [hx2,hx3]
  ·unfold opAft
   show (if (cur m).kind=33 then m.op else m.op ++ [⟨(setCur m _).st.length - 1,false⟩])=_
   rw [setCur_len]
 rw [if_neg h42] at hb
 obtain ⟨g,d1,m1,hg,h1,e1,e2,e3,hb1⟩:∃ g d1 m1,rSign s d=(g,d1)/\Sync s d1 m1/\m1.st=m.st/\m1.op=m.op/\m1.state ≠ 115/\byteStep m1 (pk s d1)=if 97<=pk s d1/\pk s d1<=100 then some (signTo m1 (pk s d1 - 97).toNat g 100) else none:=by
  by_cases h45:pk s d=45
  ·rw [if_pos h45] at hb
   exact ⟨-1,adv d,_,if_pos h45,h.aadv (by omega) hb,rfl,rfl,(by decide:(67:Int) ≠ 115),byte_67 rfl _⟩
  ·rw [if_neg h45] at hb
   exact ⟨1,d,m,if_neg h45,h,rfl,rfl,by rw [hs]; decide,hb⟩
 have ec:cur m1=cur m:=cur_eq e1
 by_cases hv:97<=pk s d1/\pk s d1<=100
 ·have ev:rVar s d1 (-1)=(pk s d1 - 97,adv d1):=by unfold rVar; rw [varOf_pos hv,if_neg (by omega)]
  rw [if_pos hv] at hb1
  have h2:=h1.aadv (by omega) hb1
  obtain ⟨v,hve⟩:∃ v,v=pk s d1 - 97:=⟨_,rfl⟩
  rw [<- hve] at ev h2 hb1
  have hst2:(signTo m1 v.toNat g 100).st=(setCur m { cur m with sg:=(cur m).sg.set v.toNat g }).st:=by
   show (setCur m1 { cur m1 with sg:=(cur m1).sg.set v.toNat g }).st=_
   rw [ec]; exact setCur_st_eq e1 _
  have hcur2:cur (signTo m1 v.toNat g 100)={ cur m with sg:=(cur m).sg.set v.toNat g }:=(cur_eq hst2).trans (hcs _)
  have hgn:g ≠ 0:=by
   have:=rSign_or s d
   rw [hg] at this
   rcases this with e | e
   ·have e':g=1:=e
    omega
   ·have e':g=-1:=e
    omega
  have e:rCond s d x=({ (rSecond s (adv d1) { x with any:=false,sg:=x.sg.set v.toNat g } v).1 with num:=(Go.Proofs.YtffajooegiempaaGreatDoor.tailE s (rSecond s (adv d1) { x with any:=false,sg:=x.sg.set v.toNat g } v).2).1 },(Go.Proofs.YtffajooegiempaaGreatDoor.tailE s (rSecond s (adv d1) { x with any:=false,sg:=x.sg.set v.toNat g } v).2).2):=by
   unfold rCond; rw [if_neg h42,hg]; simp only; rw [ev]; rfl
  have ebh:behindOf (signTo m1 v.toNat g 100)=behindOf m:=by unfold behindOf; rw [hcur2]
  have h3:=h2.second rfl (by rw [hcur2]; show (cur m).kind=33 \/ m1.op.length ≠ 4; rw [e2]; exact hk) { x with any:=false,sg:=x.sg.set v.toNat g } v (by rw [hcur2,hx2]) (by
   intro u hu0 hu3
   rw [hcur2]
   show ((cur m).sg.set v.toNat g).getD u.toNat 0=0 ↔ u ≠ v
   rw [hz,List.getD_eq_getElem?_getD,List.getElem?_set]
   by_cases euv:u=v
   ·subst euv
    rw [if_pos rfl,if_pos (by simp; omega)]
    simp [hgn]
   ·rw [if_neg (by omega)]
    rcases (show u=0 \/ u=1 \/ u=2 \/ u=3 by omega) with rfl | rfl | rfl | rfl <;> simp <;> omega)
  rw [ebh] at h3
  rw [e]
  refine h3.mono ?_
  rintro y - ⟨a,b,c⟩
  have hl1:0 < (signTo m1 v.toNat g 100).st.length:=by rw [hst2,setCur_len]; exact hn
  have hany:(rSecond s (adv d1) { x with any:=false,sg:=x.sg.set v.toNat g } v).1.any=false:=rSecond_any _ _ _ _
  generalize rSecond s (adv d1) { x with any:=false,sg:=x.sg.set v.toNat g } v=z at *
  refine ⟨a,b.trans ?_,c.trans ?_⟩
  ·rw [setCur_two,cur_setCur' hl1,hcur2,setCur_st_eq hst2,setCur_two]
   show (setCur m { cur m with sg:=z.1.sg,num:=_ }).st=(setCur m { cur m with star:=z.1.any,sg:=z.1.sg,num:=_ }).st
   rw [hany,<- hx4]
  ·unfold opAft
   rw [cur_setCur' hl1,hcur2,setCur_len]
   show (if (cur m).kind=33 then m1.op else m1.op ++ [⟨(signTo m1 v.toNat g 100).st.length - 1,false⟩])=_
   rw [e2,hst2,setCur_len]
 ·have ev:rVar s d1 (-1)=(0,stk d1):=by unfold rVar; rw [if_pos (.inl (varOf_neg hv))]
  rw [if_neg hv] at hb1
  have hd:Dead s (stk d1):=h1.adead hb1 (fun _=>notDone e3)
  have e:(rCond s d x).2=stk d1:=by
   unfold rCond; rw [if_neg h42,hg]; simp only; rw [ev]; simp only
   rw [hd.dSecond]
   exact congrArg Prod.snd hd.dTailE
  rw [e,hd.dnd (behind_ne m).1]
  exact .inl hd
end Go.Proofs.YtffajooegiempaaGreatDoor

