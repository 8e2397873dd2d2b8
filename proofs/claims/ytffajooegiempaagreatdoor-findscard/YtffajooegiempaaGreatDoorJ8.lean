import Derived.Test.YtffajooegiempaaGreatDoorJ7
set_option maxRecDepth 100000
set_option maxHeartbeats 6400000
namespace Go.Proofs.YtffajooegiempaaGreatDoor
open Go.RowKit
variable {w:World}
theorem Tm{l:List Int}{j:Nat}(h:ND l j=none):∀d,ND l (j+d)=none
 |0=>h
 |d+1=>by
  show(match ND l (j+d)with|none=>none|some (x,y)=>_)=none;rw[Tm h d]
theorem Tl{l:List Int}{j:Nat}(hj:j<4)(h:ND l (j+1)=none):Ar l= -1:=by
 have:=Tm h (3-j);rw[show j+1+(3-j)=4 by omega]at this;unfold Ar;rw[this]
theorem Tn{l:List Int}{j:Nat}{x y:Int}(h:ND l j=some (x,y)):ND l (j+1)=if AK l j< -1\/AK l j>1\/(AK l j≠0/\0<=y)then none else some (if AK l j≠0/\x<0 then(j:Int)else x,if AK l j≠0/\0<=x then(j:Int)else y):=by
 rw[ND,h]
theorem V1{l:List Int}{x y:Int}(h:ND l 4=some (x,y)):Ar l=if x<0 then -1 else if y<0 then 2*x+(1-AK l x.toNat).tdiv 2 else 8+4*((x*(8-x-1)).tdiv 2+y-x-1)+(1-AK l x.toNat).tdiv 2*2+(1-AK l y.toNat).tdiv 2:=by
 unfold Ar;rw[h]
theorem Cg{a b:Int}(h:a=b):Ending.returned (.int .i64 a)=.returned (.int .i64 b):=by rw[h]
theorem Fd(u:Value)(l:List Int)(hl:l.length=4)(hu:AQ w u l)(hv:∀i,i<4-> -5000<=AK l i/\AK l i<=5000):
  Calls Tryz.prog 98 #[u] w λe w'=>e=.returned (.int .i64 (Ar l))/\Below w.heap.size w w':=by
 obtain⟨au,cu,rfl,hcu,h0⟩:=hu;obtain⟨p,off,rfl,hp,hcell⟩:=h0 (by omega);have HC:Hid (∀i,i<4->w.cell? ⟨p,off+i,none⟩=some (.int .i64 (AK l i))):=λi hi=>hcell i (by omega);rw[hl];clear h0 hcell hcu;go_enter Tryz.func98,Tryz.ntmps98;go_wp2_with fail;go_loopw [3,4,5] (λxv yv i wr=>∃(j:Nat)(x y:Int),j<=4/\xv=.int .i64 x/\yv=.int .i64 y/\i=.int .i64 j/\wr=w/\Hid (ND l j=some (x,y))/\ -1<=x/\x<4/\ -1<=y/\y<4) (λ_ _ i _=>4-(intOf i).toNat);case atStart=>exact⟨0, -1, -1,by omega,rfl,rfl,rfl,rfl,rfl,by omega,by omega,by omega,by omega⟩
 case round=>
  obtain⟨j,x,y,hj,rfl,rfl,rfl,rfl,HR,x1,x2,y1,y2⟩:=hrel;by_cases hlt:j<4
  ·have hji:(j:Int)<4:=by omega
   have cx:=HC.out j hlt;have hb:=hv j hlt;have HStep:Hid (ND l (j+1)=_):=Tn HR.out;generalize AK l j=a at *;by_cases e1:a< -1
   ·have HF:Hid (Ar l= -1):=Tl hlt ((HStep.out).trans (if_pos (by exact .inl e1)));go_wp2_with fail;go_ret;exact⟨by rw[HF.out];rfl,Below.refl _ _⟩
   ·by_cases e2:1<a
    ·have HF:Hid (Ar l= -1):=Tl hlt ((HStep.out).trans (if_pos (by exact .inr (.inl e2))));go_wp2_with fail;go_ret;exact⟨by rw[HF.out];rfl,Below.refl _ _⟩
    ·by_cases e3:a=0
     ·have e3':(a != 0)=false:=by rw[e3];rfl
      have HX:Hid (ND l (j+1)=some (x,y)):=by
       show ND l (j+1)=_;rw[HStep.out,if_neg (by omega),if_neg (λq=>q.1 e3),if_neg (λq=>q.1 e3)]
      go_wp2_with fail;go_roundw;case rel=>exact⟨j+1,_,_,by omega,rfl,rfl,by go_num,by simp,(HX.out),by omega,by omega,by omega,by omega⟩
      case measure=>simp[intOf];omega
     ·have e3':(a != 0)=true:=by rw[bne_iff_ne];exact e3
      by_cases e4:0<=y
      ·have HF:Hid (Ar l= -1):=Tl hlt ((HStep.out).trans (if_pos (by exact .inr (.inr ⟨e3,e4⟩))));go_wp2_with fail;go_ret;exact⟨by rw[HF.out];rfl,Below.refl _ _⟩
      ·by_cases e5:0<=x
       ·have HX:Hid (ND l (j+1)=some (x,(j:Int))):=by
         show ND l (j+1)=_;rw[HStep.out,if_neg (by omega),if_neg (λq=>by omega),if_pos ⟨e3,e5⟩]
        go_wp2_with fail;go_roundw;case rel=>exact⟨j+1,_,_,by omega,rfl,rfl,by go_num,by simp,(HX.out),by omega,by omega,by omega,by omega⟩
        case measure=>simp[intOf];omega
       ·have HX:Hid (ND l (j+1)=some ((j:Int),y)):=by
         show ND l (j+1)=_;rw[HStep.out,if_neg (by omega),if_pos ⟨e3,by omega⟩,if_neg (λq=>by omega)]
        go_wp2_with fail;go_roundw;case rel=>exact⟨j+1,_,_,by omega,rfl,rfl,by go_num,by simp,(HX.out),by omega,by omega,by omega,by omega⟩
        case measure=>simp[intOf];omega
  ·have hj4:j=4:=by omega
   subst hj4;have HN:Hid (Ar l=_):=V1 HR.out;by_cases e1:x<0
   ·have HF:Hid (Ar l= -1):=HN.out.trans (if_pos e1);go_wp2_with fail;go_ret;exact⟨by rw[HF.out];rfl,Below.refl _ _⟩
   ·by_cases e2:y<0
    ·rcases(show x=0\/x=1\/x=2\/x=3 by omega)with rfl|rfl|rfl|rfl
     ·have cx:=HC.out 0 (by omega);have hb:=hv 0 (by omega);have HF:Hid (Ar l=2*0+(1-AK l 0).tdiv 2):=HN.out.trans ((if_neg (by omega)).trans (if_pos e2));try rw[Nat.add_zero]at cx
      generalize AK l 0=a at *;have ta:=AW (1-a);go_wp2_with fail;go_ret;exact⟨by rw[HF.out];exact Cg (by omega),Below.refl _ _⟩
     ·have cx:=HC.out 1 (by omega);have hb:=hv 1 (by omega);have HF:Hid (Ar l=2*1+(1-AK l 1).tdiv 2):=HN.out.trans ((if_neg (by omega)).trans (if_pos e2));try rw[Nat.add_zero]at cx
      generalize AK l 1=a at *;have ta:=AW (1-a);go_wp2_with fail;go_ret;exact⟨by rw[HF.out];exact Cg (by omega),Below.refl _ _⟩
     ·have cx:=HC.out 2 (by omega);have hb:=hv 2 (by omega);have HF:Hid (Ar l=2*2+(1-AK l 2).tdiv 2):=HN.out.trans ((if_neg (by omega)).trans (if_pos e2));try rw[Nat.add_zero]at cx
      generalize AK l 2=a at *;have ta:=AW (1-a);go_wp2_with fail;go_ret;exact⟨by rw[HF.out];exact Cg (by omega),Below.refl _ _⟩
     ·have cx:=HC.out 3 (by omega);have hb:=hv 3 (by omega);have HF:Hid (Ar l=2*3+(1-AK l 3).tdiv 2):=HN.out.trans ((if_neg (by omega)).trans (if_pos e2));try rw[Nat.add_zero]at cx
      generalize AK l 3=a at *;have ta:=AW (1-a);go_wp2_with fail;go_ret;exact⟨by rw[HF.out];exact Cg (by omega),Below.refl _ _⟩
    ·rcases(show x=0\/x=1\/x=2\/x=3 by omega)with rfl|rfl|rfl|rfl
     ·rcases(show y=0\/y=1\/y=2\/y=3 by omega)with rfl|rfl|rfl|rfl
      ·have cx:=HC.out 0 (by omega);have hb:=hv 0 (by omega);have cy:=HC.out 0 (by omega);have hc:=hv 0 (by omega);have HF:Hid (Ar l=8+4*(-1)+(1-AK l 0).tdiv 2*2+(1-AK l 0).tdiv 2):=HN.out.trans ((if_neg (by omega)).trans (if_neg (by omega)));try rw[Nat.add_zero]at cx
       try rw[Nat.add_zero]at cy
       generalize AK l 0=a at *;generalize AK l 0=c at *;have ta:=AW (1-a);have tc:=AW (1-c);go_wp2_with fail;go_quiet (fail);go_wp2_with fail;go_ret;exact⟨by rw[HF.out];exact Cg (by omega),below_drewN (Below.refl _ _) _⟩
      ·have cx:=HC.out 0 (by omega);have hb:=hv 0 (by omega);have cy:=HC.out 1 (by omega);have hc:=hv 1 (by omega);have HF:Hid (Ar l=8+4*(0)+(1-AK l 0).tdiv 2*2+(1-AK l 1).tdiv 2):=HN.out.trans ((if_neg (by omega)).trans (if_neg (by omega)));try rw[Nat.add_zero]at cx
       try rw[Nat.add_zero]at cy
       generalize AK l 0=a at *;generalize AK l 1=c at *;have ta:=AW (1-a);have tc:=AW (1-c);go_wp2_with fail;go_quiet (fail);go_wp2_with fail;go_ret;exact⟨by rw[HF.out];exact Cg (by omega),below_drewN (Below.refl _ _) _⟩
      ·have cx:=HC.out 0 (by omega);have hb:=hv 0 (by omega);have cy:=HC.out 2 (by omega);have hc:=hv 2 (by omega);have HF:Hid (Ar l=8+4*(1)+(1-AK l 0).tdiv 2*2+(1-AK l 2).tdiv 2):=HN.out.trans ((if_neg (by omega)).trans (if_neg (by omega)));try rw[Nat.add_zero]at cx
       try rw[Nat.add_zero]at cy
       generalize AK l 0=a at *;generalize AK l 2=c at *;have ta:=AW (1-a);have tc:=AW (1-c);go_wp2_with fail;go_quiet (fail);go_wp2_with fail;go_ret;exact⟨by rw[HF.out];exact Cg (by omega),below_drewN (Below.refl _ _) _⟩
      ·have cx:=HC.out 0 (by omega);have hb:=hv 0 (by omega);have cy:=HC.out 3 (by omega);have hc:=hv 3 (by omega);have HF:Hid (Ar l=8+4*(2)+(1-AK l 0).tdiv 2*2+(1-AK l 3).tdiv 2):=HN.out.trans ((if_neg (by omega)).trans (if_neg (by omega)));try rw[Nat.add_zero]at cx
       try rw[Nat.add_zero]at cy
       generalize AK l 0=a at *;generalize AK l 3=c at *;have ta:=AW (1-a);have tc:=AW (1-c);go_wp2_with fail;go_quiet (fail);go_wp2_with fail;go_ret;exact⟨by rw[HF.out];exact Cg (by omega),below_drewN (Below.refl _ _) _⟩
     ·rcases(show y=0\/y=1\/y=2\/y=3 by omega)with rfl|rfl|rfl|rfl
      ·have cx:=HC.out 1 (by omega);have hb:=hv 1 (by omega);have cy:=HC.out 0 (by omega);have hc:=hv 0 (by omega);have HF:Hid (Ar l=8+4*(1)+(1-AK l 1).tdiv 2*2+(1-AK l 0).tdiv 2):=HN.out.trans ((if_neg (by omega)).trans (if_neg (by omega)));try rw[Nat.add_zero]at cx
       try rw[Nat.add_zero]at cy
       generalize AK l 1=a at *;generalize AK l 0=c at *;have ta:=AW (1-a);have tc:=AW (1-c);go_wp2_with fail;go_quiet (fail);go_wp2_with fail;go_ret;exact⟨by rw[HF.out];exact Cg (by omega),below_drewN (Below.refl _ _) _⟩
      ·have cx:=HC.out 1 (by omega);have hb:=hv 1 (by omega);have cy:=HC.out 1 (by omega);have hc:=hv 1 (by omega);have HF:Hid (Ar l=8+4*(2)+(1-AK l 1).tdiv 2*2+(1-AK l 1).tdiv 2):=HN.out.trans ((if_neg (by omega)).trans (if_neg (by omega)));try rw[Nat.add_zero]at cx
       try rw[Nat.add_zero]at cy
       generalize AK l 1=a at *;generalize AK l 1=c at *;have ta:=AW (1-a);have tc:=AW (1-c);go_wp2_with fail;go_quiet (fail);go_wp2_with fail;go_ret;exact⟨by rw[HF.out];exact Cg (by omega),below_drewN (Below.refl _ _) _⟩
      ·have cx:=HC.out 1 (by omega);have hb:=hv 1 (by omega);have cy:=HC.out 2 (by omega);have hc:=hv 2 (by omega);have HF:Hid (Ar l=8+4*(3)+(1-AK l 1).tdiv 2*2+(1-AK l 2).tdiv 2):=HN.out.trans ((if_neg (by omega)).trans (if_neg (by omega)));try rw[Nat.add_zero]at cx
       try rw[Nat.add_zero]at cy
       generalize AK l 1=a at *;generalize AK l 2=c at *;have ta:=AW (1-a);have tc:=AW (1-c);go_wp2_with fail;go_quiet (fail);go_wp2_with fail;go_ret;exact⟨by rw[HF.out];exact Cg (by omega),below_drewN (Below.refl _ _) _⟩
      ·have cx:=HC.out 1 (by omega);have hb:=hv 1 (by omega);have cy:=HC.out 3 (by omega);have hc:=hv 3 (by omega);have HF:Hid (Ar l=8+4*(4)+(1-AK l 1).tdiv 2*2+(1-AK l 3).tdiv 2):=HN.out.trans ((if_neg (by omega)).trans (if_neg (by omega)));try rw[Nat.add_zero]at cx
       try rw[Nat.add_zero]at cy
       generalize AK l 1=a at *;generalize AK l 3=c at *;have ta:=AW (1-a);have tc:=AW (1-c);go_wp2_with fail;go_quiet (fail);go_wp2_with fail;go_ret;exact⟨by rw[HF.out];exact Cg (by omega),below_drewN (Below.refl _ _) _⟩
     ·rcases(show y=0\/y=1\/y=2\/y=3 by omega)with rfl|rfl|rfl|rfl
      ·have cx:=HC.out 2 (by omega);have hb:=hv 2 (by omega);have cy:=HC.out 0 (by omega);have hc:=hv 0 (by omega);have HF:Hid (Ar l=8+4*(2)+(1-AK l 2).tdiv 2*2+(1-AK l 0).tdiv 2):=HN.out.trans ((if_neg (by omega)).trans (if_neg (by omega)));try rw[Nat.add_zero]at cx
       try rw[Nat.add_zero]at cy
       generalize AK l 2=a at *;generalize AK l 0=c at *;have ta:=AW (1-a);have tc:=AW (1-c);go_wp2_with fail;go_quiet (fail);go_wp2_with fail;go_ret;exact⟨by rw[HF.out];exact Cg (by omega),below_drewN (Below.refl _ _) _⟩
      ·have cx:=HC.out 2 (by omega);have hb:=hv 2 (by omega);have cy:=HC.out 1 (by omega);have hc:=hv 1 (by omega);have HF:Hid (Ar l=8+4*(3)+(1-AK l 2).tdiv 2*2+(1-AK l 1).tdiv 2):=HN.out.trans ((if_neg (by omega)).trans (if_neg (by omega)));try rw[Nat.add_zero]at cx
       try rw[Nat.add_zero]at cy
       generalize AK l 2=a at *;generalize AK l 1=c at *;have ta:=AW (1-a);have tc:=AW (1-c);go_wp2_with fail;go_quiet (fail);go_wp2_with fail;go_ret;exact⟨by rw[HF.out];exact Cg (by omega),below_drewN (Below.refl _ _) _⟩
      ·have cx:=HC.out 2 (by omega);have hb:=hv 2 (by omega);have cy:=HC.out 2 (by omega);have hc:=hv 2 (by omega);have HF:Hid (Ar l=8+4*(4)+(1-AK l 2).tdiv 2*2+(1-AK l 2).tdiv 2):=HN.out.trans ((if_neg (by omega)).trans (if_neg (by omega)));try rw[Nat.add_zero]at cx
       try rw[Nat.add_zero]at cy
       generalize AK l 2=a at *;generalize AK l 2=c at *;have ta:=AW (1-a);have tc:=AW (1-c);go_wp2_with fail;go_quiet (fail);go_wp2_with fail;go_ret;exact⟨by rw[HF.out];exact Cg (by omega),below_drewN (Below.refl _ _) _⟩
      ·have cx:=HC.out 2 (by omega);have hb:=hv 2 (by omega);have cy:=HC.out 3 (by omega);have hc:=hv 3 (by omega);have HF:Hid (Ar l=8+4*(5)+(1-AK l 2).tdiv 2*2+(1-AK l 3).tdiv 2):=HN.out.trans ((if_neg (by omega)).trans (if_neg (by omega)));try rw[Nat.add_zero]at cx
       try rw[Nat.add_zero]at cy
       generalize AK l 2=a at *;generalize AK l 3=c at *;have ta:=AW (1-a);have tc:=AW (1-c);go_wp2_with fail;go_quiet (fail);go_wp2_with fail;go_ret;exact⟨by rw[HF.out];exact Cg (by omega),below_drewN (Below.refl _ _) _⟩
     ·rcases(show y=0\/y=1\/y=2\/y=3 by omega)with rfl|rfl|rfl|rfl
      ·have cx:=HC.out 3 (by omega);have hb:=hv 3 (by omega);have cy:=HC.out 0 (by omega);have hc:=hv 0 (by omega);have HF:Hid (Ar l=8+4*(2)+(1-AK l 3).tdiv 2*2+(1-AK l 0).tdiv 2):=HN.out.trans ((if_neg (by omega)).trans (if_neg (by omega)));try rw[Nat.add_zero]at cx
       try rw[Nat.add_zero]at cy
       generalize AK l 3=a at *;generalize AK l 0=c at *;have ta:=AW (1-a);have tc:=AW (1-c);go_wp2_with fail;go_quiet (fail);go_wp2_with fail;go_ret;exact⟨by rw[HF.out];exact Cg (by omega),below_drewN (Below.refl _ _) _⟩
      ·have cx:=HC.out 3 (by omega);have hb:=hv 3 (by omega);have cy:=HC.out 1 (by omega);have hc:=hv 1 (by omega);have HF:Hid (Ar l=8+4*(3)+(1-AK l 3).tdiv 2*2+(1-AK l 1).tdiv 2):=HN.out.trans ((if_neg (by omega)).trans (if_neg (by omega)));try rw[Nat.add_zero]at cx
       try rw[Nat.add_zero]at cy
       generalize AK l 3=a at *;generalize AK l 1=c at *;have ta:=AW (1-a);have tc:=AW (1-c);go_wp2_with fail;go_quiet (fail);go_wp2_with fail;go_ret;exact⟨by rw[HF.out];exact Cg (by omega),below_drewN (Below.refl _ _) _⟩
      ·have cx:=HC.out 3 (by omega);have hb:=hv 3 (by omega);have cy:=HC.out 2 (by omega);have hc:=hv 2 (by omega);have HF:Hid (Ar l=8+4*(4)+(1-AK l 3).tdiv 2*2+(1-AK l 2).tdiv 2):=HN.out.trans ((if_neg (by omega)).trans (if_neg (by omega)));try rw[Nat.add_zero]at cx
       try rw[Nat.add_zero]at cy
       generalize AK l 3=a at *;generalize AK l 2=c at *;have ta:=AW (1-a);have tc:=AW (1-c);go_wp2_with fail;go_quiet (fail);go_wp2_with fail;go_ret;exact⟨by rw[HF.out];exact Cg (by omega),below_drewN (Below.refl _ _) _⟩
      ·have cx:=HC.out 3 (by omega);have hb:=hv 3 (by omega);have cy:=HC.out 3 (by omega);have hc:=hv 3 (by omega);have HF:Hid (Ar l=8+4*(5)+(1-AK l 3).tdiv 2*2+(1-AK l 3).tdiv 2):=HN.out.trans ((if_neg (by omega)).trans (if_neg (by omega)));try rw[Nat.add_zero]at cx
       try rw[Nat.add_zero]at cy
       generalize AK l 3=a at *;generalize AK l 3=c at *;have ta:=AW (1-a);have tc:=AW (1-c);go_wp2_with fail;go_quiet (fail);go_wp2_with fail;go_ret;exact⟨by rw[HF.out];exact Cg (by omega),below_drewN (Below.refl _ _) _⟩
end Go.Proofs.YtffajooegiempaaGreatDoor
namespace Go.Proofs.YtffajooegiempaaGreatDoor
open Go.RowKit
variable {w:World}{e0:Bool}{M:Nat->Int}
abbrev FS:TypeId:=117
def v4(l:List Int):Value:=.agg #[.int .i64 (AK l 0),.int .i64 (AK l 1),.int .i64 (AK l 2),.int .i64 (AK l 3)]
def c4(l:List Int):Array Value:=#[.int .i64 (AK l 0),.int .i64 (AK l 1),.int .i64 (AK l 2),.int .i64 (AK l 3)]
def ON(l:List Int):Nat->Nat×Nat×Bool
 |0=>(0,1,false)
 |v+1=>if AK l v=0 then ON l v else
   (if(ON l v).2.2=true then(ON l v).1 else 2*v+(if AK l v<0 then 1 else 0),2*v+(if AK l v<0 then 1 else 0),true)
def CF(l:List Int):Nat:=(ON l 4).1
def C4(l:List Int):Nat:=(ON l 4).2.1
theorem Cx(l:List Int):∀v,v<=4->(ON l v).1<8/\(ON l v).2.1<8:=by
 intro v;induction v with
 |zero=>intro _;exact⟨by show(0:Nat)<8;omega,by show(1:Nat)<8;omega⟩
 |succ v ih=>
  intro hv;have h:=ih (by omega);rw[ON];split
  ·exact h
  ·refine⟨?_,?_⟩
   ·dsimp only;split
    ·exact h.1
    ·split<;>omega
   ·dsimp only;split<;>omega
theorem XS(l:List Int){i:Nat}(h:i<4):(c4 l)[i]?=some (.int .i64 (AK l i)):=by
 rcases(show i=0\/i=1\/i=2\/i=3 by omega)with rfl|rfl|rfl|rfl<;>rfl
theorem Ji(l:List Int)(hl:∀i, -1<=AK l i/\AK l i<=1):
  Calls Tryz.prog 142 #[v4 l] w λe w'=>e=.returned (.tuple #[.int .i64 ((CF l:Nat):Int),.int .i64 ((C4 l:Nat):Int)])/\Below w.heap.size w w':=by
 have h0:=ED 0 (by omega) (w.alloc (.cells (c4 l) FS));have HC0:Hid (At (w.alloc (.cells (c4 l) FS)) w.heap.size (c4 l) FS/\Below w.heap.size w (w.alloc (.cells (c4 l) FS))):=⟨At.new _ _ _,(Below.refl _ _).alloc (Nat.le_refl _) _⟩
 have HO:Hid (∀(v:Nat) w1,v<4->Calls Tryz.prog 153 #[.int .i64 (2*(v:Int))] w1 λe w'=>e=.returned (.int .i64 (2*(v:Int)+1))/\w'=w1):=by
  intro v w1 hv;have h:=ED (2*v) (by omega) w1;have e1:((2*v:Nat):Int)=2*(v:Int):=by omega
  have e2:((opp (2*v):Nat):Int)=2*(v:Int)+1:=by unfold opp;rw[if_pos (by omega)];omega
  rw[e1,e2]at h;exact h
 unfold v4;rw[show((0:Nat):Int)=0 from rfl,show((opp 0:Nat):Int)=1 from rfl]at h0;obtain⟨w0,hw0⟩:∃w0,w0=w.alloc (.cells (c4 l) FS):=⟨_,rfl⟩
 rw[<-hw0]at HC0;have hw0':=hw0;unfold c4 at h0 hw0;go_enter Tryz.func142,Tryz.ntmps142;go_wp2_with fail;refine h0.mono ?_;rintro e w1 ⟨rfl,hw1⟩;subst hw1;rw[<-hw0];clear h0 hw0 hw0';go_wp2_with fail;go_loopw [4,5,6,7] (λfv sv bv iv wr=>∃(v a b:Nat)(f:Bool),v<=4/\iv=.int .i64 v/\fv=.int .i64 a/\sv=.int .i64 b/\bv=.bool f/\Hid (ON l v=(a,b,f))/\Hid (At wr w.heap.size (c4 l) FS/\Below w.heap.size w wr)) (λ_ _ _ iv _=>4-(intOf iv).toNat);case atStart=>exact⟨0,0,1,false,by omega,rfl,rfl,rfl,rfl,rfl,HC0.out⟩
 case round=>
  obtain⟨v,a,b,f,hv,rfl,rfl,rfl,rfl,HA,HR⟩:=hrel;by_cases hlt:v<4
  ·have hvi:(v:Int)<4:=by omega
   have cx:wr.cell? ⟨w.heap.size,v,none⟩=some (.int .i64 (AK l v)):=by rw[HR.out.1.cell];exact XS l hlt
   have hx:=hl v;have HS0:Hid (ON l (v+1)=if AK l v=0 then(a,b,f)else(if f=true then a else 2*v+(if AK l v<0 then 1 else 0),2*v+(if AK l v<0 then 1 else 0),true)):=by
    show ON l (v+1)=_;rw[ON,HA.out]
   have hop:=HO.out v wr hlt;generalize AK l v=x at *;rcases(show x=0\/x=1\/x= -1 by omega)with rfl|rfl|rfl
   ·have HS:Hid (ON l (v+1)=(a,b,f)):=HS0.out;clear HS0;go_wp2_with fail;go_roundw;case rel=>exact⟨v+1,a,b,f,by omega,by go_num,rfl,rfl,rfl,HS.out,HR.out⟩
    case measure=>simp[intOf];omega
   ·cases f with
    |false=>
     have HS:Hid (ON l (v+1)=(2*v,2*v,true)):=HS0.out;clear HS0;go_wp2_with fail;go_roundw;case rel=>exact⟨v+1,2*v,2*v,true,by omega,by go_num,by first|rfl|(congr 1),by first|rfl|(congr 1),rfl,HS.out,HR.out⟩
     case measure=>simp[intOf];omega
    |true=>
     have HS:Hid (ON l (v+1)=(a,2*v,true)):=HS0.out;clear HS0;go_wp2_with fail;go_roundw;case rel=>exact⟨v+1,a,2*v,true,by omega,by go_num,rfl,by first|rfl|(congr 1),rfl,HS.out,HR.out⟩
     case measure=>simp[intOf];omega
   ·cases f with
    |false=>
     have HS:Hid (ON l (v+1)=(2*v+1,2*v+1,true)):=HS0.out;clear HS0;go_wp2_with fail;refine hop.mono ?_;rintro e w2 ⟨rfl,hw2⟩;subst hw2;go_wp2_with fail;go_roundw;case rel=>exact⟨v+1,2*v+1,2*v+1,true,by omega,by go_num,by first|rfl|(congr 1),by first|rfl|(congr 1),rfl,HS.out,HR.out⟩
     case measure=>simp[intOf];omega
    |true=>
     have HS:Hid (ON l (v+1)=(a,2*v+1,true)):=HS0.out;clear HS0;go_wp2_with fail;refine hop.mono ?_;rintro e w2 ⟨rfl,hw2⟩;subst hw2;go_wp2_with fail;go_roundw;case rel=>exact⟨v+1,a,2*v+1,true,by omega,by go_num,rfl,by first|rfl|(congr 1),rfl,HS.out,HR.out⟩
     case measure=>simp[intOf];omega
  ·have hv4:v=4:=by omega
   subst hv4;have HE:Hid (CF l=a/\C4 l=b):=⟨by unfold CF;rw[HA.out],by unfold C4;rw[HA.out]⟩
   go_wp2_with fail
   go_ret2
   exact⟨by rw[HE.out.1,HE.out.2];rfl,HR.out.2⟩
theorem Fw(l:List Int)(hl:∀i, -1<=AK l i/\AK l i<=1)(hS:Sm M):
  Calls Tryz.prog 116 #[.agg (oc e0 M),v4 l] w λe w'=>e=.returned (.int .i64 (mo M (CF l) (C4 l)))/\Below w.heap.size w w':=by
 have hz:=Bn;have h8:=Cx l 4 (Nat.le_refl _);have HSd:Hid (∀w1,Calls Tryz.prog 142 #[v4 l] w1 λe w'=>e=.returned (.tuple #[.int .i64 ((CF l:Nat):Int),.int .i64 ((C4 l:Nat):Int)])/\Below w1.heap.size w1 w'):=λw1=>Ji l hl;have HMo:Hid (∀w1,Calls Tryz.prog 139 #[.agg (oc e0 M),.int .i64 ((CF l:Nat):Int),.int .i64 ((C4 l:Nat):Int)] w1 λe w'=>e=.returned (.int .i64 (mo M (CF l) (C4 l)))/\Below w1.heap.size w1 w'):=λw1=>PJ _ _ h8.1 h8.2 (by have:=hS (CF l*8+C4 l) (by have h1:CF l<8:=h8.1;have h2:C4 l<8:=h8.2;omega);omega);obtain⟨w0,hw0⟩:∃w0,w0=(w.alloc (.cells (oc e0 M) tO)).alloc (.cells (c4 l) FS):=⟨_,rfl⟩
 have H0:Hid (AL w0 w.heap.size e0 M/\Below w.heap.size w w0/\w0.heap.size=w.heap.size+2):=by
  refine⟨by rw[hw0];exact At.allocH (At.new _ _ _) _,by rw[hw0];exact((Below.refl _ _).alloc (Nat.le_refl _) _).alloc (by simp) _,by rw[hw0];simp⟩
 have hsd:=HSd.out w0;rw[hw0]at hsd;generalize mo M (CF l) (C4 l)=g at *;generalize CF l=i at *;generalize C4 l=j at *;obtain⟨BW,hBW⟩:∃BW:World->Prop,BW=λw'=>Below w0.heap.size w0 w':=⟨_,rfl⟩
 have hsd':Calls Tryz.prog 142 #[v4 l] w0 λe w'=>e=.returned (.tuple #[.int .i64 (i:Int),.int .i64 (j:Int)])/\BW w':=by rw[hBW];exact HSd.out w0
 rw[hw0]at hsd';clear hS h8 hsd;unfold v4 c4 at hsd';unfold v4;go_enter Tryz.func116,Tryz.ntmps116;go_wp2_with fail;refine hsd'.mono ?_;rintro e w1 ⟨rfl,hb1⟩;rw[hBW]at hb1;have s0:=H0.out.2.2;have s1:=hb1.size;have H1:Hid (AL w1 w.heap.size e0 M/\Below w.heap.size w w1):=⟨At.keep H0.out.1 hb1 (by omega),H0.out.2.1.trans (hb1.mono (by omega))⟩
 have hmo:=HMo.out w1;clear hb1 hsd';go_wp2_with (refine AH rfl (.tmp 2) rfl rfl H1.out.1 ?_);refine hmo.mono ?_;rintro e w2 ⟨rfl,hb2⟩;go_wp2_with fail;go_ret;exact⟨rfl,H1.out.2.trans (hb2.mono H1.out.2.size)⟩
def Dv(l:List Int):List Int:=[-AK l 0, -AK l 1, -AK l 2, -AK l 3]
def Yj(l:List Int):Nat->List Int
 |0=>[AK l 0,AK l 1,AK l 2,AK l 3]
 |j+1=>(Yj l j).set j (-AK l j)
theorem Pg{fn:Func}{t:Tmp}{b:Nat}{l:List Int}(h:fn.results=#[.cell t FS])(tmps:Array Value)(hp:tmps.getD t undef=.pointer (some ⟨b,0,none⟩))(hat:At w b (c4 l) FS):
  (results fn tmps).run Tryz.prog w=.ok (v4 l) w:=by
 have hp':tmps[t]?.getD undef=.pointer (some ⟨b,0,none⟩):=by simpa using hp
 have hl:(loadVar FS ⟨b,0,none⟩).run Tryz.prog w=.ok (v4 l) w:=run_loadVar_row w b FS FS (c4 l) (0,0) _ hat Tryz.underlying117 rfl (by kernel_rfl);simp[results,h,hp',asAddr,hl]
theorem Py{b:Nat}{c:Array Value}(h:At w b c FS)(hc:c.size=4)(l:List Int):∃w1,(Instr.storeAt FS (.pointer (some ⟨b,0,none⟩)) (v4 l)).run Tryz.prog w=.ok () w1/\At w1 b (c4 l) FS/\BC b w w1:=by
 refine⟨w.setRow b (c4 l),?_,setRow_heap w b c (c4 l) FS (0,0) h,⟨rfl,rfl,rfl,by simp[World.setRow],λk _ hk=>setRow_other w b k _ (λe=>hk e)⟩⟩;simp only[Instr.storeAt,Instr.sureAddr,Sem.run_bind,Sem.run_pure,Result.andThen];exact run_storeVar_row w b FS FS c (c4 l) h (by kernel_rfl) (by rw[hc];rfl) (by simp[c4,Value.oneCell'])
theorem JU{ops:Array Oper}{rest:List Oper}{o:Oper}{a:Act}{Q:Exit->Act->World->Prop}{b:Nat}{c:Array Value}(hg:o.guard=none)(p x:Operand)(hop:o.op=Op.store FS p x)(hp:a.eval p=.pointer (some ⟨b,0,none⟩))(l:List Int)(hx:a.eval x=v4 l)(hat:At w b c FS)(hc:c.size=4)
  (hK:∀w1,At w1 b (c4 l) FS->BC b w w1->wpList Tryz.prog ops Q rest (a.put o.dst undef) w1):wpList Tryz.prog ops Q (o::rest) a w:=by
 refine wpList_plain hg λK hK'=>?_;obtain⟨w1,h1,h2,h3⟩:=Py hat hc l;unfold Oper.wp;simp[execOp,hop,hp,hx,h1,Result.andThen,Oper.upon];exact hK' _ _ (hK w1 h2 h3)
theorem YU(l:List Int):∀j,j<4->(c4 (Yj l j))[j]?=some (.int .i64 (AK l j))
 |0,_=>rfl
 |1,_=>rfl
 |2,_=>rfl
 |3,_=>rfl
 |n+4,h=>absurd h (by omega)
theorem WY(l:List Int):∀j,j<4->(c4 (Yj l j)).setIfInBounds j (.int .i64 (-AK l j))=c4 (Yj l (j+1))
 |0,_=>rfl
 |1,_=>rfl
 |2,_=>rfl
 |3,_=>rfl
 |n+4,h=>absurd h (by omega)
theorem Ng(l:List Int)(hl:∀i, -1<=AK l i/\AK l i<=1):
  Calls Tryz.prog 114 #[v4 l] w λe w'=>e=.returned (v4 (Dv l))/\Below w.heap.size w w':=by
 obtain⟨w0,hw0⟩:∃w0,w0=(w.alloc (.cells (c4 l) FS)).alloc (.cells (c4 [0,0,0,0]) FS):=⟨_,rfl⟩
 have H0:Hid (At w0 w.heap.size (c4 (Yj l 0)) FS/\At w0 (w.heap.size+1) (c4 [0,0,0,0]) FS/\Below w.heap.size w w0):=by
  refine⟨by rw[hw0];exact At.allocH (At.new _ _ _) _,?_,by rw[hw0];exact((Below.refl _ _).alloc (Nat.le_refl _) _).alloc (by simp) _⟩;have:=At.new (w.alloc (.cells (c4 l) FS)) (c4 [0,0,0,0]) FS;rw[show(w.alloc (.cells (c4 l) FS)).heap.size=w.heap.size+1 by simp]at this;rw[hw0];exact this
 unfold c4 at hw0;unfold v4;go_enter Tryz.func114,Tryz.ntmps114;go_wp2_with fail;go_loopw [3] (λiv wr=>∃(v:Nat),v<=4/\iv=.int .i64 v/\Hid (At wr w.heap.size (c4 (Yj l v)) FS/\At wr (w.heap.size+1) (c4 [0,0,0,0]) FS/\Below w.heap.size w wr)) (λiv _=>4-(intOf iv).toNat);case atStart=>exact⟨0,by omega,rfl,by have:=H0.out;rw[hw0]at this;exact this⟩
 case round=>
  obtain⟨v,hv,rfl,HR⟩:=hrel;clear H0 hw0;by_cases hlt:v<4
  ·have hvi:(v:Int)<4:=by omega
   have cx:wr.cell? ⟨w.heap.size,v,none⟩=some (.int .i64 (AK l v)):=by rw[HR.out.1.cell];exact YU l v hlt
   have cf:=HR.out.1.free;have hl1:=HR.out.1.lt;have hx:=hl v;have HT:Hid (_=_):=WY l v hlt;generalize AK l v=x at *;go_wp2_with fail;go_roundw;case rel=>
    refine⟨v+1,by omega,by go_num,?_,HR.out.2.1.other _ _ (by omega),HR.out.2.2.setCell (Nat.le_refl _) _⟩;rw[<-HT.out];exact HR.out.1.put v _
   case measure=>simp[intOf];omega
  ·have hv4:v=4:=by omega
   subst hv4;have y0:=HR.out.1.cell 0;have y1:=HR.out.1.cell 1;have y2:=HR.out.1.cell 2;have y3:=HR.out.1.cell 3;have HN:Hid (v4 (Dv l)=.agg #[.int .i64 (-AK l 0),.int .i64 (-AK l 1),.int .i64 (-AK l 2),.int .i64 (-AK l 3)]):=rfl;have z0:wr.cell? ⟨w.heap.size,0,none⟩=some (.int .i64 (-AK l 0)):=y0;have z1:wr.cell? ⟨w.heap.size,1,none⟩=some (.int .i64 (-AK l 1)):=y1;have z2:wr.cell? ⟨w.heap.size,2,none⟩=some (.int .i64 (-AK l 2)):=y2;have z3:wr.cell? ⟨w.heap.size,3,none⟩=some (.int .i64 (-AK l 3)):=y3;clear y0 y1 y2 y3;go_wp2_with (refine JU (b:=w.heap.size+1) (c:=c4 [0,0,0,0]) rfl (.tmp 2) (.tmp 14) rfl rfl (Dv l) rfl HR.out.2.1 rfl ?_;intro w5 h5a h5b);try simp only[Exit.inBlock,Exit.then]
   refine bodyPost_ret (Pg (b:=w.heap.size+1) (l:=Dv l) rfl _ rfl h5a) rfl ?_;exact⟨rfl,HR.out.2.2.trans (h5b.below (by omega) HR.out.2.2.size)⟩
end Go.Proofs.YtffajooegiempaaGreatDoor
namespace Go.Proofs.YtffajooegiempaaGreatDoor
structure St where
 kind:Int
 var:Int
 star:Bool
 sg:List Int
 num:Int
 mid:Nat
 fin:Nat
structure Bk where
 of_:Nat
 second:Bool
structure Rd where
 state:Int
 st:List St
 op:List Bk
 sign:Int
 neg:Bool
 dig:Int
def AY:St:=⟨0,0,false,[0,0,0,0],0,0,0⟩
def Zz:Bk:=⟨0,false⟩
def cur(m:Rd):St:=m.st.getD (m.st.length-1) AY
def AE(m:Rd)(s:St):Rd:={m with st:=m.st.set (m.st.length-1) s}
def top(m:Rd):Bk:=m.op.getD (m.op.length-1) Zz
def AG(m:Rd):Int:=if(cur m).kind=33 then 59 else 123
def BN(m:Rd)(k v nx:Int):Option Rd:=
 if m.st.length=20 then none else some {m with st:=m.st++[⟨k,v,false,[0,0,0,0],0,0,m.st.length+1⟩],state:=nx}
def Ba(m:Rd):Option Rd:=
 let b:=top m
 let s:=m.st.getD b.of_ AY
 if s.kind=63/\b.second=false then some {m with st:=m.st.set b.of_ {s with fin:=m.st.length,mid:=m.st.length},state:=125}
 else some {m with st:=m.st.set b.of_ {s with fin:=m.st.length},op:=m.op.take (m.op.length-1)}
def AP(m:Rd)(c:Int):Option Rd:=
 if 97<=c/\c<=100 then BN m 61 (c-97) 61
 else if c=63\/c=64 then(if m.op.length<4 then BN m c 0 99 else none)
 else if c=33 then BN m c 0 99
 else if c=125/\0<m.op.length then Ba m
 else none
def AT(m:Rd)(c:Int)(pos:Bool)(nx:Int):Option Rd:=
 let d:=if m.state=nx then m.dig else 0
 let u:=if m.state=nx then(cur m).num else 0
 if c<48\/57<c\/d=2\/(d=1/\u=0)\/(pos=true/\c=48)then none
 else some {AE m {cur m with num:=10*u+(c-48)}with dig:=d+1,state:=nx}
def Bp(m:Rd)(v:Nat)(x:Int)(nx:Int):Rd:=
 {AE m {cur m with sg:=(cur m).sg.set v x}with sign:=x,state:=nx}
def CW(m:Rd):Rd:={AE m {cur m with num:=m.sign*(cur m).num}with state:=115}
def AO(m:Rd)(c:Int):Option Rd:=
 if m.state=118 then
  (if c=42 then some {AE m {cur m with star:=true}with state:=59}
   else if c=45 then some {m with sign:= -1,state:=86}
   else if 97<=c/\c<=100 then some (Bp m (c-97).toNat 1 120)
   else AT {m with sign:=1} c false 110)
 else if m.state=86 then
  (if 97<=c/\c<=100 then some (Bp m (c-97).toNat m.sign 120)
   else AT m c true 110)
 else if m.state=120 then
  (if c=43 then some {m with sign:=1,state:=121}
   else if c=45 then some {m with sign:= -1,state:=121}
   else if c=59 then some (CW m)
   else none)
 else if m.state=121 then AT m c false 110
 else(if c=59 then some (CW m)else AT m c false 110)
def Ac(m:Rd)(c:Int):Option Rd:=
 if m.state=59 then(if c=59 then some {m with state:=115}else none)
 else if c≠123\/m.op.length=4 then none
 else some {m with op:=m.op++[⟨m.st.length-1,false⟩],state:=115}
def AF(m:Rd)(c:Int):Option Rd:=
 if m.state=99 then
  (if c=42 then some {AE m {cur m with star:=true}with state:=AG m}
   else if c=45 then some {m with sign:= -1,state:=67}
   else if 97<=c/\c<=100 then some (Bp m (c-97).toNat 1 100)
   else none)
 else if m.state=67 then
  (if 97<=c/\c<=100 then some (Bp m (c-97).toNat m.sign 100)else none)
 else if m.state=100 then
  (if c=43 then some {m with sign:=1,state:=101}
   else if c=45 then some {m with sign:= -1,state:=101}
   else if c=60 then some {m with state:=60}
   else none)
 else if m.state=101 then
  (if 97<=c/\c<=100 then(if(cur m).sg.getD (c-97).toNat 0=0 then some (Bp m (c-97).toNat m.sign 102)else none)else none)
 else if m.state=102 then(if c=60 then some {m with state:=60}else none)
 else if m.state=60 then(if c=61 then some {m with neg:=false,state:=98}else none)
 else if m.state=98 then(if c=45 then some {m with neg:=true,state:=66}else AT m c false 109)
 else if m.state=66 then AT m c true 109
 else if m.state=109 then
  (if c=59\/c=123 then Ac {AE m {cur m with num:=if m.neg then -(cur m).num else(cur m).num}with state:=AG m} c
   else AT m c false 109)
 else(if c=123 then some {m with op:=m.op.set (m.op.length-1) {top m with second:=true},state:=115}else none)
def AM(m:Rd)(c:Int):Option Rd:=
 if m.state=115 then AP m c
 else if m.state=61 then(if c=61 then some {m with state:=118}else none)
 else if m.state=118\/m.state=86\/m.state=120\/m.state=121\/m.state=110 then AO m c
 else if m.state=59\/m.state=123 then Ac m c
 else AF m c
structure Ok(m:Rd):Prop where
 states:m.state=115\/m.state=61\/(m.state=118\/m.state=86\/m.state=120\/m.state=121\/m.state=110)\/(m.state=59\/m.state=123)\/
  (m.state=99\/m.state=67\/m.state=100\/m.state=101\/m.state=102\/m.state=60\/m.state=98\/m.state=66\/m.state=109\/m.state=125)
 some_:m.state≠115->0<m.st.length
 len:m.st.length<=20
 oplen:m.op.length<=4
 ofs:∀b,b∈m.op->b.of_<m.st.length
 sgn: -1<=m.sign/\m.sign<=1
 digs:0<=m.dig/\m.dig<=2
 nums:∀s,s∈m.st-> -99<=s.num/\s.num<=99
 sgl:∀s,s∈m.st->s.sg.length=4
 inNum:m.state=110\/m.state=109->(m.dig=1/\0<=(cur m).num/\(cur m).num<=9)\/(m.dig=2/\0<=(cur m).num/\(cur m).num<=99)
 open_:m.state=125->0<m.op.length
variable {m m':Rd}
theorem BV(m:Rd)(s:St):(AE m s).st.length=m.st.length:=by simp[AE]
theorem Ft{s t:St}(h:t∈(AE m s).st):t∈m.st\/t=s:=List.mem_or_eq_of_mem_set h
theorem Ww(hn:0<m.st.length):m.st[m.st.length-1]?=some (cur m):=by
 unfold cur;rw[List.getD_eq_getElem?_getD,List.getElem?_eq_getElem (by omega)];rfl
theorem E_(hn:0<m.st.length):cur m∈m.st:=List.mem_of_getElem? (Ww hn)
theorem CD(hn:0<m.st.length)(s:St):cur (AE m s)=s:=by
 have h:(AE m s).st[m.st.length-1]?=some s:=by simp[AE,List.getElem?_set];omega
 unfold cur;rw[List.getD_eq_getElem?_getD,BV,h];rfl
def EN(x:Int):Prop:=x=115\/x=61\/(x=118\/x=86\/x=120\/x=121\/x=110)\/(x=59\/x=123)\/(x=99\/x=67\/x=100\/x=101\/x=102\/x=60\/x=98\/x=66\/x=109)
theorem Ok.fields(ok:Ok m)(hn:0<m.st.length)(x sg:Int)(ng:Bool)(d:Int)(hs:EN x)(h1: -1<=sg/\sg<=1)(h2:0<=d/\d<=2)
  (h5:x=110\/x=109->(d=1/\0<=(cur m).num/\(cur m).num<=9)\/(d=2/\0<=(cur m).num/\(cur m).num<=99)):Ok {m with state:=x,sign:=sg,neg:=ng,dig:=d} where
 states:=by unfold EN at hs;show x=_\/_;simp only;omega
 some_:=λ_=>hn
 len:=ok.len
 oplen:=ok.oplen
 ofs:=ok.ofs
 sgn:=h1
 digs:=h2
 nums:=ok.nums
 sgl:=ok.sgl
 inNum:=h5
 open_:=λh=>by exfalso;have h':x=125:=h;unfold EN at hs;omega
theorem Ok.setC(ok:Ok m)(hn:0<m.st.length)(hx:m.state≠110/\m.state≠109)(s:St)(h3: -99<=s.num/\s.num<=99)(h4:s.sg.length=4):Ok (AE m s) where
 states:=ok.states
 some_:=λ_=>by rw[BV];exact hn
 len:=by rw[BV];exact ok.len
 oplen:=ok.oplen
 ofs:=λb hb=>by rw[BV];exact ok.ofs b hb
 sgn:=ok.sgn
 digs:=ok.digs
 nums:=λt ht=>(Ft ht).elim (λh=>ok.nums t h) (λh=>by rw[h];exact h3)
 sgl:=λt ht=>(Ft ht).elim (λh=>ok.sgl t h) (λh=>by rw[h];exact h4)
 inNum:=λh=>by exfalso;have h':m.state=110\/m.state=109:=h;omega
 open_:=ok.open_
theorem Ok.put(ok:Ok m)(hn:0<m.st.length)(s:St)(x sg:Int)(ng:Bool)(d:Int)(hs:EN x)(h1: -1<=sg/\sg<=1)(h2:0<=d/\d<=2)(h3: -99<=s.num/\s.num<=99)(h4:s.sg.length=4)
  (h5:x=110\/x=109->(d=1/\0<=s.num/\s.num<=9)\/(d=2/\0<=s.num/\s.num<=99)):Ok {AE m s with state:=x,sign:=sg,neg:=ng,dig:=d}:=by
 have o1:Ok {m with state:=115}:=ok.fields hn 115 m.sign m.neg m.dig (.inl rfl) ok.sgn ok.digs (λh=>by omega);have o2:=o1.setC hn ⟨(by decide:(115:Int)≠110),(by decide:(115:Int)≠109)⟩ s h3 h4;have hl:0<(AE {m with state:=115} s).st.length:=by rw[BV];exact hn
 exact o2.fields hl x sg ng d hs h1 h2 (by rw[CD (m:={m with state:=115}) hn];exact h5)
theorem Ok.push(ok:Ok m)(hl:m.st.length≠20)(s:St)(x:Int)(hx:x=61\/x=99)(h3: -99<=s.num/\s.num<=99)(h4:s.sg.length=4):Ok {m with st:=m.st++[s],state:=x} where
 states:=by show x=_\/_;simp only;omega
 some_:=λ_=>by simp
 len:=by have:=ok.len;simp;omega
 oplen:=ok.oplen
 ofs:=λb hb=>by have:=ok.ofs b hb;simp;omega
 sgn:=ok.sgn
 digs:=ok.digs
 nums:=λt ht=>by
  rcases List.mem_append.1 ht with h|h
  ·exact ok.nums t h
  ·rw[List.mem_singleton.1 h];exact h3
 sgl:=λt ht=>by
  rcases List.mem_append.1 ht with h|h
  ·exact ok.sgl t h
  ·rw[List.mem_singleton.1 h];exact h4
 inNum:=λh=>by exfalso;have h':x=110\/x=109:=h;omega
 open_:=λh=>by exfalso;have h':x=125:=h;omega
theorem Ok.begin_(ok:Ok m){k v x:Int}(hx:x=61\/x=99)(h:BN m k v x=some m'):Ok m':=by
 unfold BN at h;split at h
 ·cases h
 ·rename_i hl;cases h
  exact ok.push hl _ x hx ⟨(by decide:(-99:Int)<=0),(by decide:(0:Int)<=99)⟩ rfl
theorem Gl{c x:Int}{pos:Bool}(h:AT m c pos x=some m'):∃d u,((m.state=x/\d=m.dig/\u=(cur m).num)\/(m.state≠x/\d=0/\u=0))/\
  ¬(c<48\/57<c\/d=2\/(d=1/\u=0)\/(pos=true/\c=48))/\m'={AE m {cur m with num:=10*u+(c-48)}with dig:=d+1,state:=x}:=by
 simp only[AT]at h;by_cases e:m.state=x
 ·rw[if_pos e,if_pos e]at h;by_cases hc:c<48\/57<c\/m.dig=2\/(m.dig=1/\(cur m).num=0)\/(pos=true/\c=48)
  ·rw[if_pos hc]at h;cases h
  ·rw[if_neg hc]at h;exact⟨_,_,.inl ⟨e,rfl,rfl⟩,hc,(Option.some.inj h).symm⟩
 ·rw[if_neg e,if_neg e]at h;by_cases hc:c<48\/57<c\/(0:Int)=2\/((0:Int)=1/\(0:Int)=0)\/(pos=true/\c=48)
  ·rw[if_pos hc]at h;cases h
  ·rw[if_neg hc]at h;exact⟨_,_,.inr ⟨e,rfl,rfl⟩,hc,(Option.some.inj h).symm⟩
theorem Ok.digit(ok:Ok m)(hn:0<m.st.length){c x:Int}{pos:Bool}(hx:x=110\/x=109)(h:AT m c pos x=some m'):Ok m':=by
 obtain⟨d,u,hdu,hc,rfl⟩:=Gl h;have hin:=ok.inNum;have hnum:=ok.nums (Go.Proofs.YtffajooegiempaaGreatDoor.cur m) (E_ hn);have hsg:=ok.sgl (Go.Proofs.YtffajooegiempaaGreatDoor.cur m) (E_ hn);have hd:=ok.digs;have key:0<=d/\d<=1/\0<=u/\(d=0->u=0)/\u<=9:=by
  rcases hdu with⟨e,rfl,rfl⟩|⟨_,rfl,rfl⟩
  ·have:=hin (by omega);omega
  ·omega
 refine ok.put hn _ x m.sign m.neg (d+1) (by unfold EN;omega) ok.sgn (by omega) ?_ hsg ?_
 ·show -99<=10*u+(c-48)/\10*u+(c-48)<=99;omega
 ·intro _;show(d+1=1/\0<=10*u+(c-48)/\10*u+(c-48)<=9)\/(d+1=2/\0<=10*u+(c-48)/\10*u+(c-48)<=99)
  omega
theorem Ok.shut(ok:Ok m)(hs:m.state=115)(ho:0<m.op.length)(h:Ba m=some m'):Ok m':=by
 have htop:m.op[m.op.length-1]?=some (top m):=by
  unfold top;rw[List.getD_eq_getElem?_getD,List.getElem?_eq_getElem (by omega)];rfl
 have hof:(top m).of_<m.st.length:=ok.ofs _ (List.mem_of_getElem? htop);have hmem:m.st.getD (top m).of_ AY∈m.st:=by rw[List.getD_eq_getElem?_getD,List.getElem?_eq_getElem hof];exact List.getElem_mem hof
 have hn:=ok.nums _ hmem;have hg:=ok.sgl _ hmem;simp only[Ba]at h;split at h
 ·cases h
  exact{
   states:=.inr (.inr (.inr (.inr (.inr (.inr (.inr (.inr (.inr (.inr (.inr (.inr (.inr rfl))))))))))))
   some_:=λ_=>by show 0<(m.st.set _ _).length;rw[List.length_set];omega
   len:=by show(m.st.set _ _).length<=20;rw[List.length_set];exact ok.len
   oplen:=ok.oplen
   ofs:=λb hb=>by show b.of_<(m.st.set _ _).length;rw[List.length_set];exact ok.ofs b hb
   sgn:=ok.sgn
   digs:=ok.digs
   nums:=λt ht=>(List.mem_or_eq_of_mem_set ht).elim (λh=>ok.nums t h) (λh=>by rw[h];exact hn)
   sgl:=λt ht=>(List.mem_or_eq_of_mem_set ht).elim (λh=>ok.sgl t h) (λh=>by rw[h];exact hg)
   inNum:=λh=>by exfalso;have h':(125:Int)=110\/(125:Int)=109:=h;omega
   open_:=λ_=>ho}
 ·cases h
  exact{
   states:=.inl hs
   some_:=λh=>absurd hs h
   len:=by show(m.st.set _ _).length<=20;rw[List.length_set];exact ok.len
   oplen:=by show(m.op.take _).length<=4;have:=ok.oplen;simp;omega
   ofs:=λb hb=>by show b.of_<(m.st.set _ _).length;rw[List.length_set];exact ok.ofs b (List.mem_of_mem_take hb)
   sgn:=ok.sgn
   digs:=ok.digs
   nums:=λt ht=>(List.mem_or_eq_of_mem_set ht).elim (λh=>ok.nums t h) (λh=>by rw[h];exact hn)
   sgl:=λt ht=>(List.mem_or_eq_of_mem_set ht).elim (λh=>ok.sgl t h) (λh=>by rw[h];exact hg)
   inNum:=λh=>by exfalso;have h':m.state=110\/m.state=109:=h;omega
   open_:=λh=>by exfalso;have h':m.state=125:=h;omega}
theorem Ok.plain(ok:Ok m)(hn:0<m.st.length){c:Int}(h:Ac m c=some m'):Ok m':=by
 unfold Ac at h;split at h
 ·split at h
  ·cases h;exact ok.fields hn 115 m.sign m.neg m.dig (.inl rfl) ok.sgn ok.digs (λh=>by omega)
  ·cases h
 ·split at h
  ·cases h
  ·rename_i hc;cases h
   have o:=ok.fields hn 115 m.sign m.neg m.dig (.inl rfl) ok.sgn ok.digs (λh=>by omega)
   exact{o with
    oplen:=by have:=ok.oplen;simp;omega
    ofs:=λb hb=>by
     rcases List.mem_append.1 hb with h|h
     ·exact ok.ofs b h
     ·rw[List.mem_singleton.1 h];show m.st.length-1<m.st.length;omega
    open_:=λh=>by exfalso;have h':(115:Int)=125:=h;omega}
theorem Ok.signTo(ok:Ok m)(hn:0<m.st.length)(v:Nat)(y x:Int)(hy: -1<=y/\y<=1)(hx:EN x)(h5:x≠110/\x≠109):Ok (Bp m v y x):=
 ok.put hn _ x y m.neg m.dig hx hy ok.digs (ok.nums (Go.Proofs.YtffajooegiempaaGreatDoor.cur m) (E_ hn)) (by show((cur m).sg.set v y).length=4;rw[List.length_set];exact ok.sgl _ (E_ hn)) (λh=>by omega)
theorem Ok.value(ok:Ok m)(hn:0<m.st.length){c:Int}(_hx:m.state=118\/m.state=86\/m.state=120\/m.state=121\/m.state=110)(h:AO m c=some m'):Ok m':=by
 have hnum:=ok.nums _ (E_ hn);have hsg:=ok.sgl _ (E_ hn);have hs:=ok.sgn;have hd:=ok.digs;have ve:Ok (CW m):=by
  refine ok.put hn _ 115 m.sign m.neg m.dig (.inl rfl) hs hd ?_ hsg (λh=>by omega);show -99<=m.sign*(Go.Proofs.YtffajooegiempaaGreatDoor.cur m).num/\m.sign*(Go.Proofs.YtffajooegiempaaGreatDoor.cur m).num<=99;generalize(Go.Proofs.YtffajooegiempaaGreatDoor.cur m).num=u at *;rcases(show m.sign= -1\/m.sign=0\/m.sign=1 by omega)with e|e|e<;>rw[e]<;>omega
 unfold AO at h;split at h
 ·split at h
  ·cases h;exact ok.put hn _ 59 m.sign m.neg m.dig (by unfold EN;omega) hs hd hnum hsg (λh=>by omega)
  split at h
  ·cases h;exact ok.fields hn 86 (-1) m.neg m.dig (by unfold EN;omega) (by omega) hd (λh=>by omega)
  split at h
  ·cases h;exact ok.signTo hn _ 1 120 (by omega) (by unfold EN;omega) (by omega)
  ·rename_i e _ _ _;exact Ok.digit (ok.fields hn m.state 1 m.neg m.dig (by unfold EN;omega) (by omega) hd (λh=>by omega)) hn (.inl rfl) h
 split at h
 ·split at h
  ·cases h;exact ok.signTo hn _ m.sign 120 hs (by unfold EN;omega) (by omega)
  ·exact ok.digit hn (.inl rfl) h
 split at h
 ·split at h
  ·cases h;exact ok.fields hn 121 1 m.neg m.dig (by unfold EN;omega) (by omega) hd (λh=>by omega)
  split at h
  ·cases h;exact ok.fields hn 121 (-1) m.neg m.dig (by unfold EN;omega) (by omega) hd (λh=>by omega)
  split at h
  ·cases h;exact ve
  ·cases h
 split at h
 ·exact ok.digit hn (.inl rfl) h
 ·split at h
  ·cases h;exact ve
  ·exact ok.digit hn (.inl rfl) h
theorem RL(m:Rd):EN (AG m)/\AG m≠110/\AG m≠109:=by
 unfold AG EN;split<;>omega
theorem Ok.cond(ok:Ok m)(hn:0<m.st.length){c:Int}(h:AF m c=some m')(hx:m.state=99\/m.state=67\/m.state=100\/m.state=101\/m.state=102\/m.state=60\/m.state=98\/m.state=66\/m.state=109\/m.state=125):Ok m':=by
 have hnum:=ok.nums _ (E_ hn);have hsg:=ok.sgl _ (E_ hn);have hs:=ok.sgn;have hd:=ok.digs;have hbi:=RL m;unfold AF at h;rcases hx with hx|hx|hx|hx|hx|hx|hx|hx|hx|hx
 ·rw[hx,if_pos rfl]at h;split at h
  ·cases h;exact ok.put hn _ (AG m) m.sign m.neg m.dig hbi.1 hs hd hnum hsg (λh=>by omega)
  split at h
  ·cases h;exact ok.fields hn 67 (-1) m.neg m.dig (by unfold EN;omega) (by omega) hd (λh=>by omega)
  split at h
  ·cases h;exact ok.signTo hn _ 1 100 (by omega) (by unfold EN;omega) (by omega)
  ·cases h
 ·rw[hx,if_neg (by decide),if_pos rfl]at h;split at h
  ·cases h;exact ok.signTo hn _ m.sign 100 hs (by unfold EN;omega) (by omega)
  ·cases h
 ·rw[hx,if_neg (by decide),if_neg (by decide),if_pos rfl]at h;split at h
  ·cases h;exact ok.fields hn 101 1 m.neg m.dig (by unfold EN;omega) (by omega) hd (λh=>by omega)
  split at h
  ·cases h;exact ok.fields hn 101 (-1) m.neg m.dig (by unfold EN;omega) (by omega) hd (λh=>by omega)
  split at h
  ·cases h;exact ok.fields hn 60 m.sign m.neg m.dig (by unfold EN;omega) hs hd (λh=>by omega)
  ·cases h
 ·rw[hx,if_neg (by decide),if_neg (by decide),if_neg (by decide),if_pos rfl]at h;split at h
  ·split at h
   ·cases h;exact ok.signTo hn _ m.sign 102 hs (by unfold EN;omega) (by omega)
   ·cases h
  ·cases h
 ·rw[hx,if_neg (by decide),if_neg (by decide),if_neg (by decide),if_neg (by decide),if_pos rfl]at h;split at h
  ·cases h;exact ok.fields hn 60 m.sign m.neg m.dig (by unfold EN;omega) hs hd (λh=>by omega)
  ·cases h
 ·rw[hx,if_neg (by decide),if_neg (by decide),if_neg (by decide),if_neg (by decide),if_neg (by decide),if_pos rfl]at h;split at h
  ·cases h;exact ok.fields hn 98 m.sign false m.dig (by unfold EN;omega) hs hd (λh=>by omega)
  ·cases h
 ·rw[hx,if_neg (by decide),if_neg (by decide),if_neg (by decide),if_neg (by decide),if_neg (by decide),if_neg (by decide),if_pos rfl]at h;split at h
  ·cases h;exact ok.fields hn 66 m.sign true m.dig (by unfold EN;omega) hs hd (λh=>by omega)
  ·exact ok.digit hn (.inr rfl) h
 ·rw[hx,if_neg (by decide),if_neg (by decide),if_neg (by decide),if_neg (by decide),if_neg (by decide),if_neg (by decide),if_neg (by decide),if_pos rfl]at h;exact ok.digit hn (.inr rfl) h
 ·rw[hx,if_neg (by decide),if_neg (by decide),if_neg (by decide),if_neg (by decide),if_neg (by decide),if_neg (by decide),if_neg (by decide),if_neg (by decide),if_pos rfl]at h;split at h
  ·refine Ok.plain (m:={AE m {Go.Proofs.YtffajooegiempaaGreatDoor.cur m with num:=if m.neg then -(Go.Proofs.YtffajooegiempaaGreatDoor.cur m).num else(Go.Proofs.YtffajooegiempaaGreatDoor.cur m).num}with state:=AG m}) ?_ (by show 0<(AE _ _).st.length;rw[BV];exact hn) h;refine ok.put hn _ (AG m) m.sign m.neg m.dig hbi.1 hs hd ?_ hsg (λh=>by omega);show -99<=(if m.neg then _ else _)/\(if m.neg then _ else _)<=99;split<;>omega
  ·exact ok.digit hn (.inr rfl) h
 ·rw[hx,if_neg (by decide),if_neg (by decide),if_neg (by decide),if_neg (by decide),if_neg (by decide),if_neg (by decide),if_neg (by decide),if_neg (by decide),if_neg (by decide)]at h;split at h
  ·cases h
   have o:=ok.fields hn 115 m.sign m.neg m.dig (.inl rfl) hs hd (λh=>by omega);have hop:0<m.op.length:=ok.open_ hx;have htop:m.op[m.op.length-1]?=some (top m):=by
    unfold top;rw[List.getD_eq_getElem?_getD,List.getElem?_eq_getElem (by omega)];rfl
   exact{o with
    oplen:=by show(m.op.set _ _).length<=4;rw[List.length_set];exact ok.oplen
    ofs:=λb hb=>by
     rcases List.mem_or_eq_of_mem_set hb with h|h
     ·exact ok.ofs b h
     ·rw[h];exact ok.ofs (top m) (List.mem_of_getElem? htop)
    open_:=λh=>by exfalso;have h':(115:Int)=125:=h;omega}
  ·cases h
theorem Ok.byte(ok:Ok m){c:Int}(h:AM m c=some m'):Ok m':=by
 have hst:=ok.states;unfold AM at h;split at h
 ·rename_i hs;unfold AP at h;split at h
  ·exact ok.begin_ (.inl rfl) h
  split at h
  ·split at h
   ·exact ok.begin_ (.inr rfl) h
   ·cases h
  split at h
  ·exact ok.begin_ (.inr rfl) h
  split at h
  ·rename_i ho;exact ok.shut hs ho.2 h
  ·cases h
 rename_i h115;have hn:=ok.some_ h115;split at h
 ·split at h
  ·cases h;exact ok.fields hn 118 m.sign m.neg m.dig (by unfold EN;omega) ok.sgn ok.digs (λh=>by omega)
  ·cases h
 split at h
 ·rename_i hv;exact ok.value hn hv h
 split at h
 ·exact ok.plain hn h
 ·exact ok.cond hn h (by omega)
def CY:Rd:=⟨115,[],[],0,false,0⟩
theorem Ok.init:Ok CY where
 states:=.inl rfl
 some_:=λh=>absurd rfl h
 len:=by decide
 oplen:=by decide
 ofs:=λb hb=>by cases hb
 sgn:=⟨by decide,by decide⟩
 digs:=⟨by decide,by decide⟩
 nums:=λb hb=>by cases hb
 sgl:=λb hb=>by cases hb
 inNum:=λh=>by exfalso;have h':(115:Int)=110\/(115:Int)=109:=h;omega
 open_:=λh=>by exfalso;have h':(115:Int)=125:=h;omega
def En:Rd->List Int->Option Rd
 |m,[]=>some m
 |m,c::l=>match AM m c with
  |none=>none
  |some m'=>En m' l
theorem Lc(m:Rd)(l:List Int)(c:Int):En m (l++[c])=(En m l).bind λm'=>AM m' c:=by
 induction l generalizing m with
 |nil=>
  simp only[List.nil_append,En,Option.bind_some];cases h:AM m c<;>simp
 |cons a l ih=>
  simp only[List.cons_append,En];cases h:AM m a with
  |none=>simp
  |some m'=>simpa using ih m'
theorem Ok.feed(ok:Ok m){l:List Int}(h:En m l=some m'):Ok m':=by
 induction l generalizing m with
 |nil=>simp only[En]at h;cases h;exact ok
 |cons a l ih=>
  simp only[En]at h;split at h
  ·cases h
  ·rename_i m1 e;exact ih (ok.byte e) h
end Go.Proofs.YtffajooegiempaaGreatDoor
