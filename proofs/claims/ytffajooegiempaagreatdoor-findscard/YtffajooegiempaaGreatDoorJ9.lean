import Derived.Test.YtffajooegiempaaGreatDoorJ8
set_option maxRecDepth 100000
set_option maxHeartbeats 6400000
namespace Go.Proofs.YtffajooegiempaaGreatDoor
open Go.RowKit
variable {w:World} {e0:Bool} {M:Nat->Int}
abbrev tV4:TypeId:=117
def v4 (l:List Int):Value:=.agg #[.int .i64 (gAt l 0),.int .i64 (gAt l 1),.int .i64 (gAt l 2),.int .i64 (gAt l 3)]
def c4 (l:List Int):Array Value:=#[.int .i64 (gAt l 0),.int .i64 (gAt l 1),.int .i64 (gAt l 2),.int .i64 (gAt l 3)]
def sdS (l:List Int):Nat->Nat × Nat × Bool
 | 0=>(0,1,false)
 | v+1=>if gAt l v=0 then sdS l v else
   (if (sdS l v).2.2=true then (sdS l v).1 else 2*v+(if gAt l v < 0 then 1 else 0),2*v+(if gAt l v < 0 then 1 else 0),true)
def sd1 (l:List Int):Nat:=(sdS l 4).1
def sd2 (l:List Int):Nat:=(sdS l 4).2.1
theorem sdS_lt (l:List Int):∀ v,v<=4->(sdS l v).1 < 8/\(sdS l v).2.1 < 8:=by
 intro v
 induction v with
 | zero=>intro _; exact ⟨by show (0:Nat) < 8; omega,by show (1:Nat) < 8; omega⟩
 | succ v ih =>
  intro hv
  have h:=ih (by omega)
  rw [sdS]
  split
  ·exact h
  ·refine ⟨?_,?_⟩
   ·dsimp only
    split
    ·exact h.1
    ·split <;> omega
   ·dsimp only
    split <;> omega
theorem c4_get (l:List Int) {i:Nat} (h:i < 4):(c4 l)[i]?=some (.int .i64 (gAt l i)):=by
 rcases (show i=0 \/ i=1 \/ i=2 \/ i=3 by omega) with rfl | rfl | rfl | rfl <;> rfl
theorem o_sides (l:List Int) (hl:∀ i,-1<=gAt l i/\gAt l i<=1) :
  Calls Tryz.prog 142 #[v4 l] w fun e w'=>e=.returned (.tuple #[.int .i64 ((sd1 l:Nat):Int),.int .i64 ((sd2 l:Nat):Int)])/\Below w.heap.size w w':=by
 have h0:=o_opposite 0 (by omega) (w.alloc (.cells (c4 l) tV4))
 have HC0:Hid (At (w.alloc (.cells (c4 l) tV4)) w.heap.size (c4 l) tV4/\Below w.heap.size w (w.alloc (.cells (c4 l) tV4))):=⟨At.new _ _ _,(Below.refl _ _).alloc (Nat.le_refl _) _⟩
 have HO:Hid (∀ (v:Nat) w1,v < 4->Calls Tryz.prog 153 #[.int .i64 (2*(v:Int))] w1 fun e w'=>e=.returned (.int .i64 (2*(v:Int)+1))/\w'=w1):=by
  intro v w1 hv
  have h:=o_opposite (2*v) (by omega) w1
  have e1:((2*v:Nat):Int)=2*(v:Int):=by omega
  have e2:((opp (2*v):Nat):Int)=2*(v:Int)+1:=by unfold opp; rw [if_pos (by omega)]; omega
  rw [e1,e2] at h
  exact h
 unfold v4
 rw [show ((0:Nat):Int)=0 from rfl,show ((opp 0:Nat):Int)=1 from rfl] at h0
 obtain ⟨w0,hw0⟩:∃ w0,w0=w.alloc (.cells (c4 l) tV4):=⟨_,rfl⟩
 rw [<- hw0] at HC0
 have hw0':=hw0
 unfold c4 at h0 hw0
 go_enter Tryz.func142,Tryz.ntmps142
 go_wp2_with fail
 refine h0.mono ?_
 rintro e w1 ⟨rfl,hw1⟩
 subst hw1
 rw [<- hw0]
 clear h0 hw0 hw0'
 go_wp2_with fail
 go_loopw [4,5,6,7] (fun fv sv bv iv wr=>∃ (v a b:Nat) (f:Bool),v<=4/\iv=.int .i64 v/\fv=.int .i64 a/\sv=.int .i64 b/\bv=.bool f/\Hid (sdS l v=(a,b,f))/\Hid (At wr w.heap.size (c4 l) tV4/\Below w.heap.size w wr)) (fun _ _ _ iv _=>4 - (intOf iv).toNat)
 case atStart=>exact ⟨0,0,1,false,by omega,rfl,rfl,rfl,rfl,rfl,HC0.out⟩
 case round =>
  obtain ⟨v,a,b,f,hv,rfl,rfl,rfl,rfl,HA,HR⟩:=hrel
  by_cases hlt:v < 4
  ·have hvi:(v:Int) < 4:=by omega
   have cx:wr.cell? ⟨w.heap.size,v,none⟩=some (.int .i64 (gAt l v)):=by rw [HR.out.1.cell]; exact c4_get l hlt
   have hx:=hl v
   have HS0:Hid (sdS l (v+1)=if gAt l v=0 then (a,b,f) else (if f=true then a else 2*v+(if gAt l v < 0 then 1 else 0),2*v+(if gAt l v < 0 then 1 else 0),true)):=by
    show sdS l (v+1)=_
    rw [sdS,HA.out]
   have hop:=HO.out v wr hlt
   generalize gAt l v=x at *
   rcases (show x=0 \/ x=1 \/ x=-1 by omega) with rfl | rfl | rfl
   ·have HS:Hid (sdS l (v+1)=(a,b,f)):=HS0.out
    clear HS0
    go_wp2_with fail
    go_roundw
    case rel=>exact ⟨v+1,a,b,f,by omega,by go_num,rfl,rfl,rfl,HS.out,HR.out⟩
    case measure=>simp [intOf]; omega
   ·cases f with
    | false =>
     have HS:Hid (sdS l (v+1)=(2*v,2*v,true)):=HS0.out
     clear HS0
     go_wp2_with fail
     go_roundw
     case rel=>exact ⟨v+1,2*v,2*v,true,by omega,by go_num,by first | rfl | (congr 1),by first | rfl | (congr 1),rfl,HS.out,HR.out⟩
     case measure=>simp [intOf]; omega
    | true =>
     have HS:Hid (sdS l (v+1)=(a,2*v,true)):=HS0.out
     clear HS0
     go_wp2_with fail
     go_roundw
     case rel=>exact ⟨v+1,a,2*v,true,by omega,by go_num,rfl,by first | rfl | (congr 1),rfl,HS.out,HR.out⟩
     case measure=>simp [intOf]; omega
   ·cases f with
    | false =>
     have HS:Hid (sdS l (v+1)=(2*v+1,2*v+1,true)):=HS0.out
     clear HS0
     go_wp2_with fail
     refine hop.mono ?_
     rintro e w2 ⟨rfl,hw2⟩
     subst hw2
     go_wp2_with fail
     go_roundw
     case rel=>exact ⟨v+1,2*v+1,2*v+1,true,by omega,by go_num,by first | rfl | (congr 1),by first | rfl | (congr 1),rfl,HS.out,HR.out⟩
     case measure=>simp [intOf]; omega
    | true =>
     have HS:Hid (sdS l (v+1)=(a,2*v+1,true)):=HS0.out
     clear HS0
     go_wp2_with fail
     refine hop.mono ?_
     rintro e w2 ⟨rfl,hw2⟩
     subst hw2
     go_wp2_with fail
     go_roundw
     case rel=>exact ⟨v+1,a,2*v+1,true,by omega,by go_num,rfl,by first | rfl | (congr 1),rfl,HS.out,HR.out⟩
     case measure=>simp [intOf]; omega
  ·have hv4:v=4:=by omega
   subst hv4
   have HE:Hid (sd1 l=a/\sd2 l=b):=⟨by unfold sd1; rw [HA.out],by unfold sd2; rw [HA.out]⟩
   go_wp2_with fail
   go_ret2
   exact ⟨by rw [HE.out.1,HE.out.2]; rfl,HR.out.2⟩
theorem o_greatest (l:List Int) (hl:∀ i,-1<=gAt l i/\gAt l i<=1) (hS:Sm M) :
  Calls Tryz.prog 116 #[.agg (oc e0 M),v4 l] w fun e w'=>e=.returned (.int .i64 (mo M (sd1 l) (sd2 l)))/\Below w.heap.size w w':=by
 have hz:=o_zero
 have h8:=sdS_lt l 4 (Nat.le_refl _)
 have HSd:Hid (∀ w1,Calls Tryz.prog 142 #[v4 l] w1 fun e w'=>e=.returned (.tuple #[.int .i64 ((sd1 l:Nat):Int),.int .i64 ((sd2 l:Nat):Int)])/\Below w1.heap.size w1 w'):=fun w1=>o_sides l hl
 have HMo:Hid (∀ w1,Calls Tryz.prog 139 #[.agg (oc e0 M),.int .i64 ((sd1 l:Nat):Int),.int .i64 ((sd2 l:Nat):Int)] w1 fun e w'=>e=.returned (.int .i64 (mo M (sd1 l) (sd2 l)))/\Below w1.heap.size w1 w'):=fun w1=>o_most _ _ h8.1 h8.2 (by have:=hS (sd1 l*8+sd2 l) (by have h1:sd1 l < 8:=h8.1; have h2:sd2 l < 8:=h8.2; omega); omega)
 obtain ⟨w0,hw0⟩:∃ w0,w0=(w.alloc (.cells (oc e0 M) tO)).alloc (.cells (c4 l) tV4):=⟨_,rfl⟩
 have H0:Hid (OAt w0 w.heap.size e0 M/\Below w.heap.size w w0/\w0.heap.size=w.heap.size+2):=by
  refine ⟨by rw [hw0]; exact At.allocH (At.new _ _ _) _,by rw [hw0]; exact ((Below.refl _ _).alloc (Nat.le_refl _) _).alloc (by simp) _,by rw [hw0]; simp⟩
 have hsd:=HSd.out w0
 rw [hw0] at hsd
 generalize mo M (sd1 l) (sd2 l)=g at *
 generalize sd1 l=i at *
 generalize sd2 l=j at *
 obtain ⟨BW,hBW⟩:∃ BW:World->Prop,BW=fun w'=>Below w0.heap.size w0 w':=⟨_,rfl⟩
 have hsd':Calls Tryz.prog 142 #[v4 l] w0 fun e w'=>e=.returned (.tuple #[.int .i64 (i:Int),.int .i64 (j:Int)])/\BW w':=by rw [hBW]; exact HSd.out w0
 rw [hw0] at hsd'
 clear hS h8 hsd
 unfold v4 c4 at hsd'
 unfold v4
 go_enter Tryz.func116,Tryz.ntmps116
 go_wp2_with fail
 refine hsd'.mono ?_
 rintro e w1 ⟨rfl,hb1⟩
 rw [hBW] at hb1
 have s0:=H0.out.2.2
 have s1:=hb1.size
 have H1:Hid (OAt w1 w.heap.size e0 M/\Below w.heap.size w w1):=⟨At.keep H0.out.1 hb1 (by omega),H0.out.2.1.trans (hb1.mono (by omega))⟩
 have hmo:=HMo.out w1
 clear hb1 hsd'
 go_wp2_with (refine wpList_load_o rfl (.tmp 2) rfl rfl H1.out.1 ?_)
 refine hmo.mono ?_
 rintro e w2 ⟨rfl,hb2⟩
 go_wp2_with fail
 go_ret
 exact ⟨rfl,H1.out.2.trans (hb2.mono H1.out.2.size)⟩
def ngL (l:List Int):List Int:=[-gAt l 0,-gAt l 1,-gAt l 2,-gAt l 3]
def tuP (l:List Int):Nat->List Int
 | 0=>[gAt l 0,gAt l 1,gAt l 2,gAt l 3]
 | j+1=>(tuP l j).set j (-gAt l j)
theorem results_v4 {fn:Func} {t:Tmp} {b:Nat} {l:List Int} (h:fn.results=#[.cell t tV4]) (tmps:Array Value) (hp:tmps.getD t undef=.pointer (some ⟨b,0,none⟩)) (hat:At w b (c4 l) tV4) :
  (results fn tmps).run Tryz.prog w=.ok (v4 l) w:=by
 have hp':tmps[t]?.getD undef=.pointer (some ⟨b,0,none⟩):=by simpa using hp
 have hl:(loadVar tV4 ⟨b,0,none⟩).run Tryz.prog w=.ok (v4 l) w:=run_loadVar_row w b tV4 tV4 (c4 l) (0,0) _ hat Tryz.underlying117 rfl (by kernel_rfl)
 simp [results,h,hp',asAddr,hl]
theorem v4_storeAt {b:Nat} {c:Array Value} (h:At w b c tV4) (hc:c.size=4) (l:List Int):∃ w1,(Instr.storeAt tV4 (.pointer (some ⟨b,0,none⟩)) (v4 l)).run Tryz.prog w=.ok () w1/\At w1 b (c4 l) tV4/\Onl b w w1:=by
 refine ⟨w.setRow b (c4 l),?_,setRow_heap w b c (c4 l) tV4 (0,0) h,⟨rfl,rfl,rfl,by simp [World.setRow],fun k _ hk=>setRow_other w b k _ (fun e=>hk e)⟩⟩
 simp only [Instr.storeAt,Instr.sureAddr,Sem.run_bind,Sem.run_pure,Result.andThen]
 exact run_storeVar_row w b tV4 tV4 c (c4 l) h (by kernel_rfl) (by rw [hc]; rfl) (by simp [c4,Value.oneCell'])
theorem wpList_store_v4 {ops:Array Oper} {rest:List Oper} {o:Oper} {a:Act} {Q:Exit->Act->World->Prop} {b:Nat} {c:Array Value} (hg:o.guard=none) (p x:Operand) (hop:o.op=Op.store tV4 p x) (hp:a.eval p=.pointer (some ⟨b,0,none⟩)) (l:List Int) (hx:a.eval x=v4 l) (hat:At w b c tV4) (hc:c.size=4)
  (hK:∀ w1,At w1 b (c4 l) tV4->Onl b w w1->wpList Tryz.prog ops Q rest (a.put o.dst undef) w1):wpList Tryz.prog ops Q (o :: rest) a w:=by
 refine wpList_plain hg fun K hK'=>?_
 obtain ⟨w1,h1,h2,h3⟩:=v4_storeAt hat hc l
 unfold Oper.wp
 simp [execOp,hop,hp,hx,h1,Result.andThen,Oper.upon]
 exact hK' _ _ (hK w1 h2 h3)
theorem tuP_at (l:List Int):∀ j,j < 4->(c4 (tuP l j))[j]?=some (.int .i64 (gAt l j))
 | 0,_=>rfl
 | 1,_=>rfl
 | 2,_=>rfl
 | 3,_=>rfl
 | n+4,h=>absurd h (by omega)
theorem tuP_set (l:List Int):∀ j,j < 4->(c4 (tuP l j)).setIfInBounds j (.int .i64 (-gAt l j))=c4 (tuP l (j+1))
 | 0,_=>rfl
 | 1,_=>rfl
 | 2,_=>rfl
 | 3,_=>rfl
 | n+4,h=>absurd h (by omega)
theorem e_turned (l:List Int) (hl:∀ i,-1<=gAt l i/\gAt l i<=1) :
  Calls Tryz.prog 114 #[v4 l] w fun e w'=>e=.returned (v4 (ngL l))/\Below w.heap.size w w':=by
 obtain ⟨w0,hw0⟩:∃ w0,w0=(w.alloc (.cells (c4 l) tV4)).alloc (.cells (c4 [0,0,0,0]) tV4):=⟨_,rfl⟩
 have H0:Hid (At w0 w.heap.size (c4 (tuP l 0)) tV4/\At w0 (w.heap.size+1) (c4 [0,0,0,0]) tV4/\Below w.heap.size w w0):=by
  refine ⟨by rw [hw0]; exact At.allocH (At.new _ _ _) _,?_,by rw [hw0]; exact ((Below.refl _ _).alloc (Nat.le_refl _) _).alloc (by simp) _⟩
  have:=At.new (w.alloc (.cells (c4 l) tV4)) (c4 [0,0,0,0]) tV4
  rw [show (w.alloc (.cells (c4 l) tV4)).heap.size=w.heap.size+1 by simp] at this
  rw [hw0]; exact this
 unfold c4 at hw0
 unfold v4
 go_enter Tryz.func114,Tryz.ntmps114
 go_wp2_with fail
 go_loopw [3] (fun iv wr=>∃ (v:Nat),v<=4/\iv=.int .i64 v/\Hid (At wr w.heap.size (c4 (tuP l v)) tV4/\At wr (w.heap.size+1) (c4 [0,0,0,0]) tV4/\Below w.heap.size w wr)) (fun iv _=>4 - (intOf iv).toNat)
 case atStart=>exact ⟨0,by omega,rfl,by have:=H0.out; rw [hw0] at this; exact this⟩
 case round =>
  obtain ⟨v,hv,rfl,HR⟩:=hrel
  clear H0 hw0
  by_cases hlt:v < 4
  ·have hvi:(v:Int) < 4:=by omega
   have cx:wr.cell? ⟨w.heap.size,v,none⟩=some (.int .i64 (gAt l v)):=by rw [HR.out.1.cell]; exact tuP_at l v hlt
   have cf:=HR.out.1.free
   have hl1:=HR.out.1.lt
   have hx:=hl v
   have HT:Hid (_=_):=tuP_set l v hlt
   generalize gAt l v=x at *
   go_wp2_with fail
   go_roundw
   case rel =>
    refine ⟨v+1,by omega,by go_num,?_,HR.out.2.1.other _ _ (by omega),HR.out.2.2.setCell (Nat.le_refl _) _⟩
    rw [<- HT.out]
    exact HR.out.1.put v _
   case measure=>simp [intOf]; omega
  ·have hv4:v=4:=by omega
   subst hv4
   have y0:=HR.out.1.cell 0
   have y1:=HR.out.1.cell 1
   have y2:=HR.out.1.cell 2
   have y3:=HR.out.1.cell 3
   have HN:Hid (v4 (ngL l)=.agg #[.int .i64 (-gAt l 0),.int .i64 (-gAt l 1),.int .i64 (-gAt l 2),.int .i64 (-gAt l 3)]):=rfl
   have z0:wr.cell? ⟨w.heap.size,0,none⟩=some (.int .i64 (-gAt l 0)):=y0
   have z1:wr.cell? ⟨w.heap.size,1,none⟩=some (.int .i64 (-gAt l 1)):=y1
   have z2:wr.cell? ⟨w.heap.size,2,none⟩=some (.int .i64 (-gAt l 2)):=y2
   have z3:wr.cell? ⟨w.heap.size,3,none⟩=some (.int .i64 (-gAt l 3)):=y3
   clear y0 y1 y2 y3
   go_wp2_with (refine wpList_store_v4 (b:=w.heap.size+1) (c:=c4 [0,0,0,0]) rfl (.tmp 2) (.tmp 14) rfl rfl (ngL l) rfl HR.out.2.1 rfl ?_; intro w5 h5a h5b)
   try simp only [Exit.inBlock,Exit.then]
   refine bodyPost_ret (results_v4 (b:=w.heap.size+1) (l:=ngL l) rfl _ rfl h5a) rfl ?_
   exact ⟨rfl,HR.out.2.2.trans (h5b.below (by omega) HR.out.2.2.size)⟩
end Go.Proofs.YtffajooegiempaaGreatDoor

namespace Go.Proofs.YtffajooegiempaaGreatDoor
structure St where
 kind:Int
 var:Int
 star:Bool
 sg:List Int
 num:Int
 mid:Nat
 fin:Nat
structure Bk where
 of_:Nat
 second:Bool
structure Rd where
 state:Int
 st:List St
 op:List Bk
 sign:Int
 neg:Bool
 dig:Int
def noSt:St:=⟨0,0,false,[0,0,0,0],0,0,0⟩
def noBk:Bk:=⟨0,false⟩
def cur (m:Rd):St:=m.st.getD (m.st.length - 1) noSt
def setCur (m:Rd) (s:St):Rd:={ m with st:=m.st.set (m.st.length - 1) s }
def top (m:Rd):Bk:=m.op.getD (m.op.length - 1) noBk
def behindOf (m:Rd):Int:=if (cur m).kind=33 then 59 else 123
def beginStep (m:Rd) (k v nx:Int):Option Rd :=
 if m.st.length=20 then none else some { m with st:=m.st ++ [⟨k,v,false,[0,0,0,0],0,0,m.st.length+1⟩],state:=nx }
def shutStep (m:Rd):Option Rd :=
 let b:=top m
 let s:=m.st.getD b.of_ noSt
 if s.kind=63/\b.second=false then some { m with st:=m.st.set b.of_ { s with fin:=m.st.length,mid:=m.st.length },state:=125 }
 else some { m with st:=m.st.set b.of_ { s with fin:=m.st.length },op:=m.op.take (m.op.length - 1) }
def startStep (m:Rd) (c:Int):Option Rd :=
 if 97<=c/\c<=100 then beginStep m 61 (c - 97) 61
 else if c=63 \/ c=64 then (if m.op.length < 4 then beginStep m c 0 99 else none)
 else if c=33 then beginStep m c 0 99
 else if c=125/\0 < m.op.length then shutStep m
 else none
def digitStep (m:Rd) (c:Int) (pos:Bool) (nx:Int):Option Rd :=
 let d:=if m.state=nx then m.dig else 0
 let u:=if m.state=nx then (cur m).num else 0
 if c < 48 \/ 57 < c \/ d=2 \/ (d=1/\u=0) \/ (pos=true/\c=48) then none
 else some { setCur m { cur m with num:=10*u+(c - 48) } with dig:=d+1,state:=nx }
def signTo (m:Rd) (v:Nat) (x:Int) (nx:Int):Rd :=
 { setCur m { cur m with sg:=(cur m).sg.set v x } with sign:=x,state:=nx }
def valueEnd (m:Rd):Rd:={ setCur m { cur m with num:=m.sign*(cur m).num } with state:=115 }
def valueStep (m:Rd) (c:Int):Option Rd :=
 if m.state=118 then
  (if c=42 then some { setCur m { cur m with star:=true } with state:=59 }
   else if c=45 then some { m with sign:=-1,state:=86 }
   else if 97<=c/\c<=100 then some (signTo m (c - 97).toNat 1 120)
   else digitStep { m with sign:=1 } c false 110)
 else if m.state=86 then
  (if 97<=c/\c<=100 then some (signTo m (c - 97).toNat m.sign 120)
   else digitStep m c true 110)
 else if m.state=120 then
  (if c=43 then some { m with sign:=1,state:=121 }
   else if c=45 then some { m with sign:=-1,state:=121 }
   else if c=59 then some (valueEnd m)
   else none)
 else if m.state=121 then digitStep m c false 110
 else (if c=59 then some (valueEnd m) else digitStep m c false 110)
def plainStep (m:Rd) (c:Int):Option Rd :=
 if m.state=59 then (if c=59 then some { m with state:=115 } else none)
 else if c ≠ 123 \/ m.op.length=4 then none
 else some { m with op:=m.op ++ [⟨m.st.length - 1,false⟩],state:=115 }
def condStep (m:Rd) (c:Int):Option Rd :=
 if m.state=99 then
  (if c=42 then some { setCur m { cur m with star:=true } with state:=behindOf m }
   else if c=45 then some { m with sign:=-1,state:=67 }
   else if 97<=c/\c<=100 then some (signTo m (c - 97).toNat 1 100)
   else none)
 else if m.state=67 then
  (if 97<=c/\c<=100 then some (signTo m (c - 97).toNat m.sign 100) else none)
 else if m.state=100 then
  (if c=43 then some { m with sign:=1,state:=101 }
   else if c=45 then some { m with sign:=-1,state:=101 }
   else if c=60 then some { m with state:=60 }
   else none)
 else if m.state=101 then
  (if 97<=c/\c<=100 then (if (cur m).sg.getD (c - 97).toNat 0=0 then some (signTo m (c - 97).toNat m.sign 102) else none) else none)
 else if m.state=102 then (if c=60 then some { m with state:=60 } else none)
 else if m.state=60 then (if c=61 then some { m with neg:=false,state:=98 } else none)
 else if m.state=98 then (if c=45 then some { m with neg:=true,state:=66 } else digitStep m c false 109)
 else if m.state=66 then digitStep m c true 109
 else if m.state=109 then
  (if c=59 \/ c=123 then plainStep { setCur m { cur m with num:=if m.neg then -(cur m).num else (cur m).num } with state:=behindOf m } c
   else digitStep m c false 109)
 else (if c=123 then some { m with op:=m.op.set (m.op.length - 1) { top m with second:=true },state:=115 } else none)
def byteStep (m:Rd) (c:Int):Option Rd :=
 if m.state=115 then startStep m c
 else if m.state=61 then (if c=61 then some { m with state:=118 } else none)
 else if m.state=118 \/ m.state=86 \/ m.state=120 \/ m.state=121 \/ m.state=110 then valueStep m c
 else if m.state=59 \/ m.state=123 then plainStep m c
 else condStep m c
structure Ok (m:Rd):Prop where
 states:m.state=115 \/ m.state=61 \/ (m.state=118 \/ m.state=86 \/ m.state=120 \/ m.state=121 \/ m.state=110) \/ (m.state=59 \/ m.state=123) \/
  (m.state=99 \/ m.state=67 \/ m.state=100 \/ m.state=101 \/ m.state=102 \/ m.state=60 \/ m.state=98 \/ m.state=66 \/ m.state=109 \/ m.state=125)
 some_:m.state ≠ 115->0 < m.st.length
 len:m.st.length<=20
 oplen:m.op.length<=4
 ofs:∀ b,b ∈ m.op->b.of_ < m.st.length
 sgn:-1<=m.sign/\m.sign<=1
 digs:0<=m.dig/\m.dig<=2
 nums:∀ s,s ∈ m.st->-99<=s.num/\s.num<=99
 sgl:∀ s,s ∈ m.st->s.sg.length=4
 inNum:m.state=110 \/ m.state=109->(m.dig=1/\0<=(cur m).num/\(cur m).num<=9) \/ (m.dig=2/\0<=(cur m).num/\(cur m).num<=99)
 open_:m.state=125->0 < m.op.length
end Go.Proofs.YtffajooegiempaaGreatDoor

namespace Go.Proofs.YtffajooegiempaaGreatDoor
variable {m m':Rd}
theorem setCur_len (m:Rd) (s:St):(setCur m s).st.length=m.st.length:=by simp [setCur]
theorem mem_setCur {s t:St} (h:t ∈ (setCur m s).st):t ∈ m.st \/ t=s:=List.mem_or_eq_of_mem_set h
theorem curs' (hn:0 < m.st.length):m.st[m.st.length - 1]?=some (cur m):=by
 unfold cur
 rw [List.getD_eq_getElem?_getD,List.getElem?_eq_getElem (by omega)]; rfl
theorem cur_mem (hn:0 < m.st.length):cur m ∈ m.st:=List.mem_of_getElem? (curs' hn)
theorem cur_setCur' (hn:0 < m.st.length) (s:St):cur (setCur m s)=s:=by
 have h:(setCur m s).st[m.st.length - 1]?=some s:=by simp [setCur,List.getElem?_set]; omega
 unfold cur
 rw [List.getD_eq_getElem?_getD,setCur_len,h]; rfl
def inSt (x:Int):Prop:=x=115 \/ x=61 \/ (x=118 \/ x=86 \/ x=120 \/ x=121 \/ x=110) \/ (x=59 \/ x=123) \/ (x=99 \/ x=67 \/ x=100 \/ x=101 \/ x=102 \/ x=60 \/ x=98 \/ x=66 \/ x=109)
theorem Ok.fields (ok:Ok m) (hn:0 < m.st.length) (x sg:Int) (ng:Bool) (d:Int) (hs:inSt x) (h1:-1<=sg/\sg<=1) (h2:0<=d/\d<=2)
  (h5:x=110 \/ x=109->(d=1/\0<=(cur m).num/\(cur m).num<=9) \/ (d=2/\0<=(cur m).num/\(cur m).num<=99)):Ok { m with state:=x,sign:=sg,neg:=ng,dig:=d } where
 states:=by unfold inSt at hs; show x=_ \/ _; simp only; omega
 some_:=fun _=>hn
 len:=ok.len
 oplen:=ok.oplen
 ofs:=ok.ofs
 sgn:=h1
 digs:=h2
 nums:=ok.nums
 sgl:=ok.sgl
 inNum:=h5
 open_:=fun h=>by exfalso; have h':x=125:=h; unfold inSt at hs; omega
theorem Ok.setC (ok:Ok m) (hn:0 < m.st.length) (hx:m.state ≠ 110/\m.state ≠ 109) (s:St) (h3:-99<=s.num/\s.num<=99) (h4:s.sg.length=4):Ok (setCur m s) where
 states:=ok.states
 some_:=fun _=>by rw [setCur_len]; exact hn
 len:=by rw [setCur_len]; exact ok.len
 oplen:=ok.oplen
 ofs:=fun b hb=>by rw [setCur_len]; exact ok.ofs b hb
 sgn:=ok.sgn
 digs:=ok.digs
 nums:=fun t ht=>(mem_setCur ht).elim (fun h=>ok.nums t h) (fun h=>by rw [h]; exact h3)
 sgl:=fun t ht=>(mem_setCur ht).elim (fun h=>ok.sgl t h) (fun h=>by rw [h]; exact h4)
 inNum:=fun h=>by exfalso; have h':m.state=110 \/ m.state=109:=h; omega
 open_:=ok.open_
theorem Ok.put (ok:Ok m) (hn:0 < m.st.length) (s:St) (x sg:Int) (ng:Bool) (d:Int) (hs:inSt x) (h1:-1<=sg/\sg<=1) (h2:0<=d/\d<=2) (h3:-99<=s.num/\s.num<=99) (h4:s.sg.length=4)
  (h5:x=110 \/ x=109->(d=1/\0<=s.num/\s.num<=9) \/ (d=2/\0<=s.num/\s.num<=99)):Ok { setCur m s with state:=x,sign:=sg,neg:=ng,dig:=d }:=by
 have o1:Ok { m with state:=115 }:=ok.fields hn 115 m.sign m.neg m.dig (.inl rfl) ok.sgn ok.digs (fun h=>by omega)
 have o2:=o1.setC hn ⟨(by decide:(115:Int) ≠ 110),(by decide:(115:Int) ≠ 109)⟩ s h3 h4
 have hl:0 < (setCur { m with state:=115 } s).st.length:=by rw [setCur_len]; exact hn
 exact o2.fields hl x sg ng d hs h1 h2 (by rw [cur_setCur' (m:={ m with state:=115 }) hn]; exact h5)
theorem Ok.push (ok:Ok m) (hl:m.st.length ≠ 20) (s:St) (x:Int) (hx:x=61 \/ x=99) (h3:-99<=s.num/\s.num<=99) (h4:s.sg.length=4):Ok { m with st:=m.st ++ [s],state:=x } where
 states:=by show x=_ \/ _; simp only; omega
 some_:=fun _=>by simp
 len:=by have:=ok.len; simp; omega
 oplen:=ok.oplen
 ofs:=fun b hb=>by have:=ok.ofs b hb; simp; omega
 sgn:=ok.sgn
 digs:=ok.digs
 nums:=fun t ht=>by
  rcases List.mem_append.1 ht with h | h
  ·exact ok.nums t h
  ·rw [List.mem_singleton.1 h]; exact h3
 sgl:=fun t ht=>by
  rcases List.mem_append.1 ht with h | h
  ·exact ok.sgl t h
  ·rw [List.mem_singleton.1 h]; exact h4
 inNum:=fun h=>by exfalso; have h':x=110 \/ x=109:=h; omega
 open_:=fun h=>by exfalso; have h':x=125:=h; omega
theorem Ok.begin_ (ok:Ok m) {k v x:Int} (hx:x=61 \/ x=99) (h:beginStep m k v x=some m'):Ok m':=by
 unfold beginStep at h
 split at h
 ·cases h
 ·rename_i hl
  cases h
  exact ok.push hl _ x hx ⟨(by decide:(-99:Int)<=0),(by decide:(0:Int)<=99)⟩ rfl
theorem digit_inv {c x:Int} {pos:Bool} (h:digitStep m c pos x=some m'):∃ d u,((m.state=x/\d=m.dig/\u=(cur m).num) \/ (m.state ≠ x/\d=0/\u=0)) /\
  ¬ (c < 48 \/ 57 < c \/ d=2 \/ (d=1/\u=0) \/ (pos=true/\c=48))/\m'={ setCur m { cur m with num:=10*u+(c - 48) } with dig:=d+1,state:=x }:=by
 simp only [digitStep] at h
 by_cases e:m.state=x
 ·rw [if_pos e,if_pos e] at h
  by_cases hc:c < 48 \/ 57 < c \/ m.dig=2 \/ (m.dig=1/\(cur m).num=0) \/ (pos=true/\c=48)
  ·rw [if_pos hc] at h; cases h
  ·rw [if_neg hc] at h
   exact ⟨_,_,.inl ⟨e,rfl,rfl⟩,hc,(Option.some.inj h).symm⟩
 ·rw [if_neg e,if_neg e] at h
  by_cases hc:c < 48 \/ 57 < c \/ (0:Int)=2 \/ ((0:Int)=1/\(0:Int)=0) \/ (pos=true/\c=48)
  ·rw [if_pos hc] at h; cases h
  ·rw [if_neg hc] at h
   exact ⟨_,_,.inr ⟨e,rfl,rfl⟩,hc,(Option.some.inj h).symm⟩
theorem Ok.digit (ok:Ok m) (hn:0 < m.st.length) {c x:Int} {pos:Bool} (hx:x=110 \/ x=109) (h:digitStep m c pos x=some m'):Ok m':=by
 obtain ⟨d,u,hdu,hc,rfl⟩:=digit_inv h
 have hin:=ok.inNum
 have hnum:=ok.nums (Go.Proofs.YtffajooegiempaaGreatDoor.cur m) (cur_mem hn)
 have hsg:=ok.sgl (Go.Proofs.YtffajooegiempaaGreatDoor.cur m) (cur_mem hn)
 have hd:=ok.digs
 have key:0<=d/\d<=1/\0<=u/\(d=0->u=0)/\u<=9:=by
  rcases hdu with ⟨e,rfl,rfl⟩ | ⟨_,rfl,rfl⟩
  ·have:=hin (by omega); omega
  ·omega
 refine ok.put hn _ x m.sign m.neg (d+1) (by unfold inSt; omega) ok.sgn (by omega) ?_ hsg ?_
 ·show -99<=10*u+(c - 48)/\10*u+(c - 48)<=99
  omega
 ·intro _
  show (d+1=1/\0<=10*u+(c - 48)/\10*u+(c - 48)<=9) \/ (d+1=2/\0<=10*u+(c - 48)/\10*u+(c - 48)<=99)
  omega
theorem Ok.shut (ok:Ok m) (hs:m.state=115) (ho:0 < m.op.length) (h:shutStep m=some m'):Ok m':=by
 have htop:m.op[m.op.length - 1]?=some (top m):=by
  unfold top
  rw [List.getD_eq_getElem?_getD,List.getElem?_eq_getElem (by omega)]; rfl
 have hof:(top m).of_ < m.st.length:=ok.ofs _ (List.mem_of_getElem? htop)
 have hmem:m.st.getD (top m).of_ noSt ∈ m.st:=by rw [List.getD_eq_getElem?_getD,List.getElem?_eq_getElem hof]; exact List.getElem_mem hof
 have hn:=ok.nums _ hmem
 have hg:=ok.sgl _ hmem
 simp only [shutStep] at h
 split at h
 ·cases h
  exact {
   states:=.inr (.inr (.inr (.inr (.inr (.inr (.inr (.inr (.inr (.inr (.inr (.inr (.inr rfl))))))))))))
   some_:=fun _=>by show 0 < (m.st.set _ _).length; rw [List.length_set]; omega
   len:=by show (m.st.set _ _).length<=20; rw [List.length_set]; exact ok.len
   oplen:=ok.oplen
   ofs:=fun b hb=>by show b.of_ < (m.st.set _ _).length; rw [List.length_set]; exact ok.ofs b hb
   sgn:=ok.sgn
   digs:=ok.digs
   nums:=fun t ht=>(List.mem_or_eq_of_mem_set ht).elim (fun h=>ok.nums t h) (fun h=>by rw [h]; exact hn)
   sgl:=fun t ht=>(List.mem_or_eq_of_mem_set ht).elim (fun h=>ok.sgl t h) (fun h=>by rw [h]; exact hg)
   inNum:=fun h=>by exfalso; have h':(125:Int)=110 \/ (125:Int)=109:=h; omega
   open_:=fun _=>ho }
 ·cases h
  exact {
   states:=.inl hs
   some_:=fun h=>absurd hs h
   len:=by show (m.st.set _ _).length<=20; rw [List.length_set]; exact ok.len
   oplen:=by show (m.op.take _).length<=4; have:=ok.oplen; simp; omega
   ofs:=fun b hb=>by show b.of_ < (m.st.set _ _).length; rw [List.length_set]; exact ok.ofs b (List.mem_of_mem_take hb)
   sgn:=ok.sgn
   digs:=ok.digs
   nums:=fun t ht=>(List.mem_or_eq_of_mem_set ht).elim (fun h=>ok.nums t h) (fun h=>by rw [h]; exact hn)
   sgl:=fun t ht=>(List.mem_or_eq_of_mem_set ht).elim (fun h=>ok.sgl t h) (fun h=>by rw [h]; exact hg)
   inNum:=fun h=>by exfalso; have h':m.state=110 \/ m.state=109:=h; omega
   open_:=fun h=>by exfalso; have h':m.state=125:=h; omega }
theorem Ok.plain (ok:Ok m) (hn:0 < m.st.length) {c:Int} (h:plainStep m c=some m'):Ok m':=by
 unfold plainStep at h
 split at h
 ·split at h
  ·cases h; exact ok.fields hn 115 m.sign m.neg m.dig (.inl rfl) ok.sgn ok.digs (fun h=>by omega)
  ·cases h
 ·split at h
  ·cases h
  ·rename_i hc
   cases h
   have o:=ok.fields hn 115 m.sign m.neg m.dig (.inl rfl) ok.sgn ok.digs (fun h=>by omega)
   exact { o with
    oplen:=by have:=ok.oplen; simp; omega
    ofs:=fun b hb=>by
     rcases List.mem_append.1 hb with h | h
     ·exact ok.ofs b h
     ·rw [List.mem_singleton.1 h]; show m.st.length - 1 < m.st.length; omega
    open_:=fun h=>by exfalso; have h':(115:Int)=125:=h; omega }
theorem Ok.signTo (ok:Ok m) (hn:0 < m.st.length) (v:Nat) (y x:Int) (hy:-1<=y/\y<=1) (hx:inSt x) (h5:x ≠ 110/\x ≠ 109):Ok (signTo m v y x) :=
 ok.put hn _ x y m.neg m.dig hx hy ok.digs (ok.nums (Go.Proofs.YtffajooegiempaaGreatDoor.cur m) (cur_mem hn)) (by show ((cur m).sg.set v y).length=4; rw [List.length_set]; exact ok.sgl _ (cur_mem hn)) (fun h=>by omega)
theorem Ok.value (ok:Ok m) (hn:0 < m.st.length) {c:Int} (_hx:m.state=118 \/ m.state=86 \/ m.state=120 \/ m.state=121 \/ m.state=110) (h:valueStep m c=some m'):Ok m':=by
 have hnum:=ok.nums _ (cur_mem hn)
 have hsg:=ok.sgl _ (cur_mem hn)
 have hs:=ok.sgn
 have hd:=ok.digs
 have ve:Ok (valueEnd m):=by
  refine ok.put hn _ 115 m.sign m.neg m.dig (.inl rfl) hs hd ?_ hsg (fun h=>by omega)
  show -99<=m.sign*(Go.Proofs.YtffajooegiempaaGreatDoor.cur m).num/\m.sign*(Go.Proofs.YtffajooegiempaaGreatDoor.cur m).num<=99
  generalize (Go.Proofs.YtffajooegiempaaGreatDoor.cur m).num=u at *
  rcases (show m.sign=-1 \/ m.sign=0 \/ m.sign=1 by omega) with e | e | e <;> rw [e] <;> omega
 unfold valueStep at h
 split at h
 ·split at h
  ·cases h; exact ok.put hn _ 59 m.sign m.neg m.dig (by unfold inSt; omega) hs hd hnum hsg (fun h=>by omega)
  split at h
  ·cases h; exact ok.fields hn 86 (-1) m.neg m.dig (by unfold inSt; omega) (by omega) hd (fun h=>by omega)
  split at h
  ·cases h; exact ok.signTo hn _ 1 120 (by omega) (by unfold inSt; omega) (by omega)
  ·rename_i e _ _ _
   exact Ok.digit (ok.fields hn m.state 1 m.neg m.dig (by unfold inSt; omega) (by omega) hd (fun h=>by omega)) hn (.inl rfl) h
 split at h
 ·split at h
  ·cases h; exact ok.signTo hn _ m.sign 120 hs (by unfold inSt; omega) (by omega)
  ·exact ok.digit hn (.inl rfl) h
 split at h
 ·split at h
  ·cases h; exact ok.fields hn 121 1 m.neg m.dig (by unfold inSt; omega) (by omega) hd (fun h=>by omega)
  split at h
  ·cases h; exact ok.fields hn 121 (-1) m.neg m.dig (by unfold inSt; omega) (by omega) hd (fun h=>by omega)
  split at h
  ·cases h; exact ve
  ·cases h
 split at h
 ·exact ok.digit hn (.inl rfl) h
 ·split at h
  ·cases h; exact ve
  ·exact ok.digit hn (.inl rfl) h
theorem behind_in (m:Rd):inSt (behindOf m)/\behindOf m ≠ 110/\behindOf m ≠ 109:=by
 unfold behindOf inSt
 split <;> omega
theorem Ok.cond (ok:Ok m) (hn:0 < m.st.length) {c:Int} (h:condStep m c=some m') (hx:m.state=99 \/ m.state=67 \/ m.state=100 \/ m.state=101 \/ m.state=102 \/ m.state=60 \/ m.state=98 \/ m.state=66 \/ m.state=109 \/ m.state=125):Ok m':=by
 have hnum:=ok.nums _ (cur_mem hn)
 have hsg:=ok.sgl _ (cur_mem hn)
 have hs:=ok.sgn
 have hd:=ok.digs
 have hbi:=behind_in m
 unfold condStep at h
 rcases hx with hx | hx | hx | hx | hx | hx | hx | hx | hx | hx
 ·rw [hx,if_pos rfl] at h
  split at h
  ·cases h; exact ok.put hn _ (behindOf m) m.sign m.neg m.dig hbi.1 hs hd hnum hsg (fun h=>by omega)
  split at h
  ·cases h; exact ok.fields hn 67 (-1) m.neg m.dig (by unfold inSt; omega) (by omega) hd (fun h=>by omega)
  split at h
  ·cases h; exact ok.signTo hn _ 1 100 (by omega) (by unfold inSt; omega) (by omega)
  ·cases h
 ·rw [hx,if_neg (by decide),if_pos rfl] at h
  split at h
  ·cases h; exact ok.signTo hn _ m.sign 100 hs (by unfold inSt; omega) (by omega)
  ·cases h
 ·rw [hx,if_neg (by decide),if_neg (by decide),if_pos rfl] at h
  split at h
  ·cases h; exact ok.fields hn 101 1 m.neg m.dig (by unfold inSt; omega) (by omega) hd (fun h=>by omega)
  split at h
  ·cases h; exact ok.fields hn 101 (-1) m.neg m.dig (by unfold inSt; omega) (by omega) hd (fun h=>by omega)
  split at h
  ·cases h; exact ok.fields hn 60 m.sign m.neg m.dig (by unfold inSt; omega) hs hd (fun h=>by omega)
  ·cases h
 ·rw [hx,if_neg (by decide),if_neg (by decide),if_neg (by decide),if_pos rfl] at h
  split at h
  ·split at h
   ·cases h; exact ok.signTo hn _ m.sign 102 hs (by unfold inSt; omega) (by omega)
   ·cases h
  ·cases h
 ·rw [hx,if_neg (by decide),if_neg (by decide),if_neg (by decide),if_neg (by decide),if_pos rfl] at h
  split at h
  ·cases h; exact ok.fields hn 60 m.sign m.neg m.dig (by unfold inSt; omega) hs hd (fun h=>by omega)
  ·cases h
 ·rw [hx,if_neg (by decide),if_neg (by decide),if_neg (by decide),if_neg (by decide),if_neg (by decide),if_pos rfl] at h
  split at h
  ·cases h; exact ok.fields hn 98 m.sign false m.dig (by unfold inSt; omega) hs hd (fun h=>by omega)
  ·cases h
 ·rw [hx,if_neg (by decide),if_neg (by decide),if_neg (by decide),if_neg (by decide),if_neg (by decide),if_neg (by decide),if_pos rfl] at h
  split at h
  ·cases h; exact ok.fields hn 66 m.sign true m.dig (by unfold inSt; omega) hs hd (fun h=>by omega)
  ·exact ok.digit hn (.inr rfl) h
 ·rw [hx,if_neg (by decide),if_neg (by decide),if_neg (by decide),if_neg (by decide),if_neg (by decide),if_neg (by decide),if_neg (by decide),if_pos rfl] at h
  exact ok.digit hn (.inr rfl) h
 ·rw [hx,if_neg (by decide),if_neg (by decide),if_neg (by decide),if_neg (by decide),if_neg (by decide),if_neg (by decide),if_neg (by decide),if_neg (by decide),if_pos rfl] at h
  split at h
  ·refine Ok.plain (m:={ setCur m { Go.Proofs.YtffajooegiempaaGreatDoor.cur m with num:=if m.neg then -(Go.Proofs.YtffajooegiempaaGreatDoor.cur m).num else (Go.Proofs.YtffajooegiempaaGreatDoor.cur m).num } with state:=behindOf m }) ?_ (by show 0 < (setCur _ _).st.length; rw [setCur_len]; exact hn) h
   refine ok.put hn _ (behindOf m) m.sign m.neg m.dig hbi.1 hs hd ?_ hsg (fun h=>by omega)
   show -99<=(if m.neg then _ else _)/\(if m.neg then _ else _)<=99
   split <;> omega
  ·exact ok.digit hn (.inr rfl) h
 ·rw [hx,if_neg (by decide),if_neg (by decide),if_neg (by decide),if_neg (by decide),if_neg (by decide),if_neg (by decide),if_neg (by decide),if_neg (by decide),if_neg (by decide)] at h
  split at h
  ·cases h
   have o:=ok.fields hn 115 m.sign m.neg m.dig (.inl rfl) hs hd (fun h=>by omega)
   have hop:0 < m.op.length:=ok.open_ hx
   have htop:m.op[m.op.length - 1]?=some (top m):=by
    unfold top
    rw [List.getD_eq_getElem?_getD,List.getElem?_eq_getElem (by omega)]; rfl
   exact { o with
    oplen:=by show (m.op.set _ _).length<=4; rw [List.length_set]; exact ok.oplen
    ofs:=fun b hb=>by
     rcases List.mem_or_eq_of_mem_set hb with h | h
     ·exact ok.ofs b h
     ·rw [h]; exact ok.ofs (top m) (List.mem_of_getElem? htop)
    open_:=fun h=>by exfalso; have h':(115:Int)=125:=h; omega }
  ·cases h
theorem Ok.byte (ok:Ok m) {c:Int} (h:byteStep m c=some m'):Ok m':=by
 have hst:=ok.states
 unfold byteStep at h
 split at h
 ·rename_i hs
  unfold startStep at h
  split at h
  ·exact ok.begin_ (.inl rfl) h
  split at h
  ·split at h
   ·exact ok.begin_ (.inr rfl) h
   ·cases h
  split at h
  ·exact ok.begin_ (.inr rfl) h
  split at h
  ·rename_i ho
   exact ok.shut hs ho.2 h
  ·cases h
 rename_i h115
 have hn:=ok.some_ h115
 split at h
 ·split at h
  ·cases h; exact ok.fields hn 118 m.sign m.neg m.dig (by unfold inSt; omega) ok.sgn ok.digs (fun h=>by omega)
  ·cases h
 split at h
 ·rename_i hv
  exact ok.value hn hv h
 split at h
 ·exact ok.plain hn h
 ·exact ok.cond hn h (by omega)
def init:Rd:=⟨115,[],[],0,false,0⟩
theorem Ok.init:Ok init where
 states:=.inl rfl
 some_:=fun h=>absurd rfl h
 len:=by decide
 oplen:=by decide
 ofs:=fun b hb=>by cases hb
 sgn:=⟨by decide,by decide⟩
 digs:=⟨by decide,by decide⟩
 nums:=fun b hb=>by cases hb
 sgl:=fun b hb=>by cases hb
 inNum:=fun h=>by exfalso; have h':(115:Int)=110 \/ (115:Int)=109:=h; omega
 open_:=fun h=>by exfalso; have h':(115:Int)=125:=h; omega
def feed:Rd->List Int->Option Rd
 | m,[]=>some m
 | m,c :: l=>match byteStep m c with
  | none=>none
  | some m'=>feed m' l
theorem feed_snoc (m:Rd) (l:List Int) (c:Int):feed m (l ++ [c])=(feed m l).bind fun m'=>byteStep m' c:=by
 induction l generalizing m with
 | nil =>
  simp only [List.nil_append,feed,Option.bind_some]
  cases h:byteStep m c <;> simp
 | cons a l ih =>
  simp only [List.cons_append,feed]
  cases h:byteStep m a with
  | none=>simp
  | some m'=>simpa using ih m'
theorem Ok.feed (ok:Ok m) {l:List Int} (h:Go.Proofs.YtffajooegiempaaGreatDoor.feed m l=some m'):Ok m':=by
 induction l generalizing m with
 | nil=>simp only [Go.Proofs.YtffajooegiempaaGreatDoor.feed] at h; cases h; exact ok
 | cons a l ih =>
  simp only [Go.Proofs.YtffajooegiempaaGreatDoor.feed] at h
  split at h
  ·cases h
  ·rename_i m1 e
   exact ih (ok.byte e) h
end Go.Proofs.YtffajooegiempaaGreatDoor

namespace Go.Proofs.YtffajooegiempaaGreatDoor
variable {m m':Rd}
def readFrom:Rd->List Int->Nat->Nat × Option Rd
 | m,[],n=>(n,some m)
 | m,c :: l,n=>match byteStep m c with
  | none=>(n,none)
  | some m'=>readFrom m' l (n+1)
theorem readFrom_none {m0 m:Rd} {l:List Int} {k n:Nat} {c:Int} (h:feed m0 (l.take k)=some m) (hc:l[k]?=some c) (hb:byteStep m c=none):readFrom m0 l n=(n+k,none):=by
 induction l generalizing m0 k n with
 | nil=>simp at hc
 | cons a l ih =>
  cases k with
  | zero =>
   simp [feed] at h hc
   subst h; subst hc
   simp [readFrom,hb]
  | succ k =>
   simp only [List.take_succ_cons,feed] at h
   simp only [List.getElem?_cons_succ] at hc
   simp only [readFrom]
   split at h
   ·cases h
   ·rename_i m1 e
    try rw [e]
    try simp only
    rw [ih h hc]; congr 1; omega
theorem readFrom_some {m0 m:Rd} {l:List Int} {n:Nat} (h:feed m0 l=some m):readFrom m0 l n=(n+l.length,some m):=by
 induction l generalizing m0 n with
 | nil=>simp only [feed] at h; cases h; rfl
 | cons a l ih =>
  simp only [feed] at h
  simp only [readFrom]
  split at h
  ·cases h
  ·rename_i m1 e
   try rw [e]
   try simp only
   rw [ih h]; simp only [List.length_cons]; congr 1; omega
def isDone (m:Rd):Bool:=decide (m.state=115) && decide (m.op.length=0)
def scanOf (l:List Int):Int × Int × Int :=
 if 160 < l.length then (0,1,0) else match readFrom init l 0 with
  | (n,none)=>(0,1,n)
  | (n,some m)=>if isDone m then ((m.st.length:Int)+1,0,0) else (0,1,n)
theorem byte_value (hx:m.state=118 \/ m.state=86 \/ m.state=120 \/ m.state=121 \/ m.state=110) (c:Int):byteStep m c=valueStep m c:=by
 unfold byteStep; rw [if_neg (by omega),if_neg (by omega),if_pos hx]
theorem byte_plain (hx:m.state=59 \/ m.state=123) (c:Int):byteStep m c=plainStep m c:=by
 unfold byteStep; rw [if_neg (by omega),if_neg (by omega),if_neg (by omega),if_pos hx]
theorem byte_cond (hx:m.state=99 \/ m.state=67 \/ m.state=100 \/ m.state=101 \/ m.state=102 \/ m.state=60 \/ m.state=98 \/ m.state=66 \/ m.state=109 \/ m.state=125) (c:Int):byteStep m c=condStep m c:=by
 unfold byteStep; rw [if_neg (by omega),if_neg (by omega),if_neg (by omega),if_neg (by omega)]
theorem behind_or (m:Rd):behindOf m=59 \/ behindOf m=123:=by
 unfold behindOf
 split
 ·exact .inl rfl
 ·exact .inr rfl
theorem setCur_cur (hn:0 < m.st.length):setCur m (cur m)=m:=by
 have h:=curs' hn
 unfold setCur
 have:m.st.set (m.st.length - 1) (cur m)=m.st:=by
  apply List.ext_getElem?
  intro i
  rw [List.getElem?_set]
  split
  ·rename_i e; subst e; rw [if_pos (by omega),h]
  ·rfl
 rw [this]
end Go.Proofs.YtffajooegiempaaGreatDoor

namespace Go.Proofs.YtffajooegiempaaGreatDoor
open Go.RowKit
abbrev tD:TypeId:=81
abbrev tDs:TypeId:=119
def Dat (w:World) (r:Nat) (s:ByteArray) (d:Nat × Bool) (vf:Value):Prop:=At w r #[.string s,.int .i64 d.1,.bool d.2,vf] tD
structure Tch (r:Nat) (w w':World):Prop where
 os:w'.os=w.os
 tape:w'.tape=w.tape
 output:w'.output=w.output
 size:w'.heap.size=w.heap.size
 block:∀ k,k ≠ r->w'.heap[k]?=w.heap[k]?
theorem Tch.refl (r:Nat) (w:World):Tch r w w:=⟨rfl,rfl,rfl,rfl,fun _ _=>rfl⟩
theorem Tch.trans {r:Nat} {a b c:World} (h:Tch r a b) (k:Tch r b c):Tch r a c:=⟨k.os.trans h.os,k.tape.trans h.tape,k.output.trans h.output,k.size.trans h.size,fun i hi=>(k.block i hi).trans (h.block i hi)⟩
theorem Tch.drewN {r:Nat} {a w:World} (h:Tch r a w) (n:Nat):Tch r a (w.drewN n):=⟨h.os,h.tape,h.output,h.size,h.block⟩
theorem Tch.setCell {r:Nat} {a w:World} (h:Tch r a w) (o:Nat) (u:Value):Tch r a (w.setCell ⟨r,o,none⟩ u) :=
 h.trans ⟨rfl,rfl,rfl,by simp [World.setCell],fun k hk=>Below.heap_setCell _ _ _ _ hk⟩
theorem Tch.at_ {r q:Nat} {w w':World} {c:Array Value} {t:TypeId} (h:Tch r w w') (ha:At w q c t) (hn:q ≠ r):At w' q c t:=ha.same (h.block q hn)
theorem Dat.cells {w:World} {r:Nat} {s:ByteArray} {d:Nat × Bool} {vf:Value} (h:Dat w r s d vf):w.cell? ⟨r,0,none⟩=some (.string s)/\w.cell? ⟨r,1,none⟩=some (.int .i64 d.1)/\w.cell? ⟨r,2,none⟩=some (.bool d.2)/\w.cell? ⟨r,3,none⟩=some vf/\∀ i,w.frozen? ⟨r,i,none⟩=false :=
 ⟨h.cell 0,h.cell 1,h.cell 2,h.cell 3,h.free⟩
theorem Dat.drewN {w:World} {r:Nat} {s:ByteArray} {d:Nat × Bool} {vf:Value} (h:Dat w r s d vf) (k:Nat):Dat (w.drewN k) r s d vf:=h
theorem Dat.step {w:World} {r:Nat} {s:ByteArray} {d:Nat × Bool} {vf:Value} (h:Dat w r s d vf):Dat (w.setCell ⟨r,1,none⟩ (.int .i64 ((d.1:Int)+1))) r s (d.1+1,d.2) vf:=by
 have:=At.put h 1 (.int .i64 ((d.1:Int)+1))
 exact this
theorem Dat.stick {w:World} {r:Nat} {s:ByteArray} {d:Nat × Bool} {vf:Value} (h:Dat w r s d vf):Dat (w.setCell ⟨r,2,none⟩ (.bool true)) r s (d.1,true) vf:=by
 have:=At.put h 2 (.bool true)
 exact this
def pk (s:ByteArray) (d:Nat × Bool):Int:=if d.2 then 0 else (bytesOf s).getD d.1 0
theorem pk_range (s:ByteArray) (d:Nat × Bool):0<=pk s d/\pk s d<=255:=by
 unfold pk
 split
 ·omega
 ·by_cases h:d.1 < s.size
  ·rw [List.getD_eq_getElem?_getD,bytesOf_get s d.1 h]
   have:=(s[d.1]).toNat_lt
   simp only [Option.getD_some]
   omega
  ·rw [List.getD_eq_getElem?_getD,List.getElem?_eq_none (by rw [bytesOf_len]; omega)]
   simp
def three (x:Int × Int × Int):Ending:=.returned (.tuple #[.int .i64 x.1,.int .i64 x.2.1,.int .i64 x.2.2])
variable {w:World} {r:Nat} {s:ByteArray} {d:Nat × Bool} {vf:Value}
theorem d_peek (h:Dat w r s d vf) (_hs:s.size<=160) (hd:d.1<=160) :
  Calls Tryz.prog 84 #[.pointer (some ⟨r,0,none⟩)] w fun e w'=>e=.returned (.int .u8 (pk s d))/\∃ k,w'=w.drewN k:=by
 obtain ⟨c0,c1,c2,c3,cf⟩:=h.cells
 obtain ⟨a,b⟩:=d
 simp only at c0 c1 c2 c3 hd
 have a0:decide (((a:Nat):Int) < 0)=false:=decide_eq_false (by omega)
 cases b
 ·by_cases hl:a < s.size
  ·have HP:Hid (pk s (a,false)=((s[a]).toNat:Int)):=by show pk s (a,false)=_; unfold pk; simp only [Bool.false_eq_true,if_false]; rw [List.getD_eq_getElem?_getD,bytesOf_get s a hl]; rfl
   have a1:decide (((s.size:Nat):Int)<=(a:Int))=false:=decide_eq_false (by omega)
   have i1:((a:Nat):Int) < ((s.size:Nat):Int):=by omega
   clear h
   go_enter Tryz.func84,Tryz.ntmps84
   go_wp2
   go_quiet (fail)
   go_wp2
   go_quiet (fail)
   go_wp2
   go_ret
   exact ⟨by rw [HP.out]; rfl,_,World.drewN_drewN _ _ _⟩
  ·have HP:Hid (pk s (a,false)=0):=by show pk s (a,false)=_; unfold pk; simp only [Bool.false_eq_true,if_false]; rw [List.getD_eq_getElem?_getD,List.getElem?_eq_none (by rw [bytesOf_len]; omega)]; rfl
   have a1:decide (((s.size:Nat):Int)<=(a:Int))=true:=decide_eq_true (by omega)
   clear h
   go_enter Tryz.func84,Tryz.ntmps84
   go_wp2
   go_quiet (fail)
   go_wp2
   go_ret
   exact ⟨by rw [HP.out]; rfl,_,rfl⟩
 ·clear h
  go_enter Tryz.func84,Tryz.ntmps84
  go_wp2
  go_quiet (fail)
  go_wp2
  go_ret
  exact ⟨rfl,_,rfl⟩
def DPost (w:World) (r:Nat) (s:ByteArray) (vf:Value) (d':Nat × Bool) (v:Value):Ending->World->Prop:=fun e w'=>e=.returned v/\Dat w' r s d' vf/\Tch r w w'
def tk (s:ByteArray) (d:Nat × Bool) (c:Int):Bool × (Nat × Bool):=if pk s d=c then (true,(d.1+1,d.2)) else (false,d)
def nd (s:ByteArray) (d:Nat × Bool) (c:Int):Nat × Bool:=if pk s d=c then (d.1+1,d.2) else (d.1,true)
theorem d_take (h:Dat w r s d vf) (hs:s.size<=160) (hd:d.1<=160) (c:Int) :
  Calls Tryz.prog 157 #[.pointer (some ⟨r,0,none⟩),.int .u8 c] w (DPost w r s vf (tk s d c).2 (.bool (tk s d c).1)):=by
 have hp:=d_peek h hs hd
 obtain ⟨c0,c1,c2,c3,cf⟩:=h.cells
 have HD:Hid (Dat _ _ _ _ _):=h
 clear h
 by_cases hc:pk s d=c
 ·have HT:Hid (tk s d c=(true,(d.1+1,d.2))):=if_pos hc
  subst hc
  go_enter Tryz.func157,Tryz.ntmps157
  go_wp2_with (go_at_call 84; refine hp.mono ?_; rintro e w' ⟨rfl,k,rfl⟩)
  go_ret
  rw [HT.out]
  exact ⟨rfl,(HD.out.drewN k).step,((Tch.refl _ _).drewN _).setCell _ _⟩
 ·have HT:Hid (tk s d c=(false,d)):=if_neg hc
  have bc:(pk s d != c)=true:=by simpa using hc
  clear hc
  go_enter Tryz.func157,Tryz.ntmps157
  go_wp2_with (go_at_call 84; refine hp.mono ?_; rintro e w' ⟨rfl,k,rfl⟩)
  go_ret
  rw [HT.out]
  exact ⟨rfl,HD.out.drewN k,(Tch.refl _ _).drewN _⟩
theorem d_need (h:Dat w r s d vf) (hs:s.size<=160) (hd:d.1<=160) (c:Int) :
  Calls Tryz.prog 146 #[.pointer (some ⟨r,0,none⟩),.int .u8 c] w (DPost w r s vf (nd s d c) (.tuple #[])):=by
 have hp:=d_take h hs hd c
 clear h
 by_cases hc:pk s d=c
 ·have HT:Hid (nd s d c=(d.1+1,d.2)):=if_pos hc
  have hk:tk s d c=(true,(d.1+1,d.2)):=if_pos hc
  rw [hk] at hp
  clear hc hk
  go_enter Tryz.func146,Tryz.ntmps146
  go_wp2_with (go_at_call 157; refine hp.mono ?_; rintro e w' ⟨rfl,hD,hT⟩)
  go_end0
  rw [HT.out]
  exact ⟨rfl,hD,hT⟩
 ·have HT:Hid (nd s d c=(d.1,true)):=if_neg hc
  have hk:tk s d c=(false,d):=if_neg hc
  rw [hk] at hp
  clear hc hk
  go_enter Tryz.func146,Tryz.ntmps146
  go_wp2_with (go_at_call 157; refine hp.mono ?_; rintro e w' ⟨rfl,hD,hT⟩; obtain ⟨c0,c1,c2,c3,cf⟩:=hD.cells; have HD:Hid (Dat _ _ _ _ _):=hD; clear hD)
  go_end0
  rw [HT.out]
  exact ⟨rfl,HD.out.stick,hT.setCell _ _⟩
end Go.Proofs.YtffajooegiempaaGreatDoor

