import Derived.Test.YtffajooegiempaaGreatDoorJ9
set_option maxRecDepth 100000
set_option maxHeartbeats 6400000
namespace Go.Proofs.YtffajooegiempaaGreatDoor
open Go.RowKit
variable {w:World} {r:Nat} {s:ByteArray} {d:Nat × Bool} {vf:Value}
theorem pk_lt {c:Int} (h:pk s d=c) (hc:c ≠ 0):d.1 < s.size/\d.2=false:=by
 unfold pk at h
 split at h
 ·exact absurd h.symm hc
 ·rename_i hb
  refine ⟨?_,by simpa using hb⟩
  rcases Nat.lt_or_ge d.1 s.size with h' | h'
  ·exact h'
  ·rw [List.getD_eq_getElem?_getD,List.getElem?_eq_none (by rw [bytesOf_len]; omega)] at h
   exact absurd h.symm hc
def adv (d:Nat × Bool):Nat × Bool:=(d.1+1,d.2)
def stk (d:Nat × Bool):Nat × Bool:=(d.1,true)
def rSign (s:ByteArray) (d:Nat × Bool):Int × (Nat × Bool):=if pk s d=45 then (-1,adv d) else (1,d)
def rVar (s:ByteArray) (d:Nat × Bool) (not:Int):Int × (Nat × Bool):=if varOf (pk s d)=-1 \/ varOf (pk s d)=not then (0,stk d) else (varOf (pk s d),adv d)
def rNum (s:ByteArray) (d:Nat × Bool) (sg:Int):Int × (Nat × Bool) :=
 if pk s d=48/\0 < sg then (0,adv d)
 else if pk s d < 49 \/ 57 < pk s d then (0,stk d)
 else if 48<=pk s (adv d)/\pk s (adv d)<=57 then (sg*(10*(pk s d - 48)+(pk s (adv d) - 48)),adv (adv d))
 else (sg*(pk s d - 48),adv d)
def rSummand (s:ByteArray) (d:Nat × Bool):Int × (Nat × Bool) :=
 if pk s d=43 then rNum s (adv d) 1
 else if pk s d=45 then (-(rNum s (adv d) 1).1,(rNum s (adv d) 1).2)
 else (0,d)
theorem rSign_le (hd:d.1<=s.size):(rSign s d).2.1<=s.size:=by
 unfold rSign
 split
 ·rename_i h; have:=(pk_lt h (by decide)).1; show d.1+1<=_; omega
 ·exact hd
theorem varOf_ne {c:Int} (h:varOf c ≠ -1):97<=c/\c<=100:=by
 unfold varOf at h
 split at h
 ·assumption
 ·exact absurd rfl h
theorem rVar_le (hd:d.1<=s.size) (x:Int):(rVar s d x).2.1<=s.size:=by
 unfold rVar
 split
 ·exact hd
 ·rename_i h
  have h1:=varOf_ne (fun e=>h (.inl e))
  have:=(pk_lt (s:=s) (d:=d) rfl (by omega)).1
  show d.1+1<=_; omega
theorem rVar_range (x:Int):0<=(rVar s d x).1/\(rVar s d x).1<=3:=by
 unfold rVar
 split
 ·exact ⟨by simp,by simp⟩
 ·rename_i h
  have h1:=varOf_ne (fun e=>h (.inl e))
  show 0<=varOf _/\varOf _<=3
  unfold varOf
  rw [if_pos h1]; omega
theorem rNum_le (hd:d.1<=s.size) (x:Int):(rNum s d x).2.1<=s.size:=by
 unfold rNum
 split
 ·rename_i h; have:=(pk_lt h.1 (by decide)).1; show d.1+1<=_; omega
 split
 ·exact hd
 rename_i h1
 have h2:=(pk_lt (s:=s) (d:=d) rfl (by omega)).1
 split
 ·rename_i h3
  have:=(pk_lt (s:=s) (d:=adv d) rfl (by omega)).1
  show (adv d).1+1<=_; omega
 ·show d.1+1<=_; omega
theorem rNum_range (x:Int) (hx:x=1 \/ x=-1):-99<=(rNum s d x).1/\(rNum s d x).1<=99:=by
 have p1:=pk_range s d
 have p2:=pk_range s (adv d)
 unfold rNum
 split
 ·exact ⟨by simp,by simp⟩
 split
 ·exact ⟨by simp,by simp⟩
 split
 ·show -99<=x*_/\x*_<=99
  rcases hx with rfl | rfl <;> omega
 ·show -99<=x*_/\x*_<=99
  rcases hx with rfl | rfl <;> omega
theorem d_readSign (h:Dat w r s d vf) (hs:s.size<=160) (hd:d.1<=s.size) :
  Calls Tryz.prog 158 #[.pointer (some ⟨r,0,none⟩)] w (DPost w r s vf (rSign s d).2 (.int .i64 (rSign s d).1)):=by
 have hp:=d_take h hs (by omega) 45
 clear h
 by_cases hc:pk s d=45
 ·have HT:Hid (rSign s d=(-1,adv d)):=if_pos hc
  have hk:tk s d 45=(true,adv d):=if_pos hc
  rw [hk] at hp
  clear hc hk
  go_enter Tryz.func158,Tryz.ntmps158
  go_wp2_with (go_at_call 157; refine hp.mono ?_; rintro e w' ⟨rfl,hD,hT⟩)
  go_ret
  rw [HT.out]
  exact ⟨rfl,hD,hT⟩
 ·have HT:Hid (rSign s d=(1,d)):=if_neg hc
  have hk:tk s d 45=(false,d):=if_neg hc
  rw [hk] at hp
  clear hc hk
  go_enter Tryz.func158,Tryz.ntmps158
  go_wp2_with (go_at_call 157; refine hp.mono ?_; rintro e w' ⟨rfl,hD,hT⟩)
  go_ret
  rw [HT.out]
  exact ⟨rfl,hD,hT⟩
theorem d_variableOf (c:Int) (w:World) (h0:0<=c) (h1:c<=255) :
  Calls Tryz.prog 159 #[.int .u8 c] w fun e w'=>e=.returned (.int .i64 (varOf c))/\w'=w:=by
 unfold varOf
 by_cases ha:97<=c
 ·by_cases hb:c<=100
  ·go_enter Tryz.func159,Tryz.ntmps159
   go_wp2
   go_ret
   exact ⟨rfl,rfl⟩
  ·go_enter Tryz.func159,Tryz.ntmps159
   go_wp2
   go_ret
   exact ⟨rfl,rfl⟩
 ·go_enter Tryz.func159,Tryz.ntmps159
  go_wp2
  go_ret
  exact ⟨rfl,rfl⟩
theorem d_readVariable (h:Dat w r s d vf) (hs:s.size<=160) (hd:d.1<=s.size) (x:Int) :
  Calls Tryz.prog 156 #[.pointer (some ⟨r,0,none⟩),.int .i64 x] w (DPost w r s vf (rVar s d x).2 (.int .i64 (rVar s d x).1)):=by
 have hp:=d_peek h hs (by omega)
 obtain ⟨p0,p1⟩:=pk_range s d
 obtain ⟨c0,c1,c2,c3,cf⟩:=h.cells
 have HD:Hid (Dat _ _ _ _ _):=h
 clear h
 by_cases hv:varOf (pk s d)=-1
 ·have HT:Hid (rVar s d x=(0,stk d)):=if_pos (.inl hv)
  have hvo:=fun w=>d_variableOf (pk s d) w p0 p1
  rw [hv] at hvo
  clear hv
  go_enter Tryz.func156,Tryz.ntmps156
  go_wp2_with (first | (go_at_call 84; refine hp.mono ?_; rintro e w' ⟨rfl,k,rfl⟩) | (go_at_call 159; refine (hvo _).mono ?_; rintro e w' ⟨rfl,rfl⟩))
  go_ret
  rw [HT.out]
  exact ⟨rfl,(HD.out.drewN k).stick,((Tch.refl _ _).drewN _).setCell _ _⟩
 ·have bv:(varOf (pk s d) == -1)=false:=by simpa using hv
  have hvo:=fun w=>d_variableOf (pk s d) w p0 p1
  by_cases hx:varOf (pk s d)=x
  ·have HT:Hid (rVar s d x=(0,stk d)):=if_pos (.inr hx)
   have bx:(varOf (pk s d) == x)=true:=by simpa using hx
   clear hv hx
   generalize varOf (pk s d)=v at *
   go_enter Tryz.func156,Tryz.ntmps156
   go_wp2_with (first | (go_at_call 84; refine hp.mono ?_; rintro e w' ⟨rfl,k,rfl⟩) | (go_at_call 159; refine (hvo _).mono ?_; rintro e w' ⟨rfl,rfl⟩))
   go_ret
   rw [HT.out]
   exact ⟨rfl,(HD.out.drewN k).stick,((Tch.refl _ _).drewN _).setCell _ _⟩
  ·have HT:Hid (rVar s d x=(varOf (pk s d),adv d)):=if_neg (fun e=>e.elim hv hx)
   have bx:(varOf (pk s d) == x)=false:=by simpa using hx
   clear hv hx
   generalize varOf (pk s d)=v at *
   go_enter Tryz.func156,Tryz.ntmps156
   go_wp2_with (first | (go_at_call 84; refine hp.mono ?_; rintro e w' ⟨rfl,k,rfl⟩) | (go_at_call 159; refine (hvo _).mono ?_; rintro e w' ⟨rfl,rfl⟩))
   go_ret
   rw [HT.out]
   exact ⟨rfl,(HD.out.drewN k).step,((Tch.refl _ _).drewN _).setCell _ _⟩
end Go.Proofs.YtffajooegiempaaGreatDoor

namespace Go.Proofs.YtffajooegiempaaGreatDoor
open Go.RowKit
variable {w:World} {r:Nat} {s:ByteArray} {d:Nat × Bool} {vf:Value}
theorem Dat.steps (h:Dat w r s d vf):Dat (w.setCell ⟨r,1,none⟩ (.int .i64 ((d.1:Int)+1))) r s (adv d) vf:=h.step
theorem d_readNumber (h:Dat w r s d vf) (hs:s.size<=160) (hd:d.1<=s.size) (x:Int) (hx:x=1 \/ x=-1) :
  Calls Tryz.prog 160 #[.pointer (some ⟨r,0,none⟩),.int .i64 x] w (DPost w r s vf (rNum s d x).2 (.int .i64 (rNum s d x).1)):=by
 have hp:=d_peek h hs (by omega)
 obtain ⟨p0,p1⟩:=pk_range s d
 obtain ⟨q0,q1⟩:=pk_range s (adv d)
 obtain ⟨c0,c1,c2,c3,cf⟩:=h.cells
 have x0:-1<=x:=by omega
 have x1:x<=1:=by omega
 have HD:Hid (Dat _ _ _ _ _):=h
 clear h
 by_cases hz:pk s d=48/\0 < x
 ·have HT:Hid (rNum s d x=(0,adv d)):=if_pos hz
  obtain ⟨hz,hx0⟩:=hz
  rw [hz] at hp
  clear hz hx
  go_enter Tryz.func160,Tryz.ntmps160
  go_wp2_with (go_at_call 84; refine hp.mono ?_; rintro e w' ⟨rfl,k,rfl⟩)
  go_ret
  rw [HT.out]
  exact ⟨rfl,(HD.out.drewN k).step,((Tch.refl _ _).drewN _).setCell _ _⟩
 by_cases hn:pk s d < 49 \/ 57 < pk s d
 ·have HT:Hid (rNum s d x=(0,stk d)):=by show rNum s d x=_; unfold rNum; rw [if_neg hz,if_pos hn]
  by_cases h48:pk s d=48
  ·have hx1:x=-1:=by
    rcases hx with e | e
    ·exact absurd ⟨h48,by omega⟩ hz
    ·exact e
   subst hx1
   rw [h48] at hp
   clear hz hn h48 hx
   go_enter Tryz.func160,Tryz.ntmps160
   go_wp2_with (go_at_call 84; refine hp.mono ?_; rintro e w' ⟨rfl,k,rfl⟩)
   go_ret
   rw [HT.out]
   exact ⟨rfl,(HD.out.drewN k).stick,((Tch.refl _ _).drewN _).setCell _ _⟩
  ·have b48:(pk s d == 48)=false:=by simpa using h48
   clear hz h48 hx
   generalize pk s d=c at *
   rcases hn with hn | hn
   ·go_enter Tryz.func160,Tryz.ntmps160
    go_wp2_with (go_at_call 84; refine hp.mono ?_; rintro e w' ⟨rfl,k,rfl⟩)
    go_ret
    rw [HT.out]
    exact ⟨rfl,(HD.out.drewN k).stick,((Tch.refl _ _).drewN _).setCell _ _⟩
   ·go_enter Tryz.func160,Tryz.ntmps160
    go_wp2_with (go_at_call 84; refine hp.mono ?_; rintro e w' ⟨rfl,k,rfl⟩)
    go_ret
    rw [HT.out]
    exact ⟨rfl,(HD.out.drewN k).stick,((Tch.refl _ _).drewN _).setCell _ _⟩
 ·have n49:49<=pk s d:=by omega
  have n57:pk s d<=57:=by omega
  have b48:(pk s d == 48)=false:=by simp; omega
  have hlt:=(pk_lt (s:=s) (d:=d) rfl (by omega)).1
  by_cases h2:48<=pk s (adv d)/\pk s (adv d)<=57
  ·have HT:Hid (rNum s d x=(x*(10*(pk s d - 48)+(pk s (adv d) - 48)),adv (adv d))):=by show rNum s d x=_; unfold rNum; rw [if_neg hz,if_neg hn,if_pos h2]
   obtain ⟨m0,m1⟩:=h2
   have HW:Hid (_=_):=(show wrap64 (x*(10*(pk s d - 48)+(pk s (adv d) - 48)))=x*(10*(pk s d - 48)+(pk s (adv d) - 48)) from mul_wrap _ _ x0 x1 (by omega) (by omega))
   have hp2:=fun k=>d_peek (d:=adv d) (HD.out.drewN k).steps hs (by show d.1+1<=160; omega)
   clear hz hn hx
   generalize pk s (adv d)=c2 at *
   generalize pk s d=c at *
   go_enter Tryz.func160,Tryz.ntmps160
   go_wp2_with fail
   refine hp.mono ?_
   rintro e w' ⟨rfl,k,rfl⟩
   go_wp2_with fail
   refine (hp2 k).mono ?_
   rintro e w' ⟨rfl,k2,rfl⟩
   go_wp2
   go_ret
   rw [HT.out]
   exact ⟨congrArg (fun z=>Ending.returned (Value.int IntKind.i64 z)) HW.out,(((HD.out.drewN k).steps).drewN k2).step,((((Tch.refl _ _).drewN _).setCell _ _).drewN _).setCell _ _⟩
  ·have HT:Hid (rNum s d x=(x*(pk s d - 48),adv d)):=by show rNum s d x=_; unfold rNum; rw [if_neg hz,if_neg hn,if_neg h2]
   have HW:Hid (_=_):=(show wrap64 (x*(pk s d - 48))=x*(pk s d - 48) from mul_wrap _ _ x0 x1 (by omega) (by omega))
   have hp2:=fun k=>d_peek (d:=adv d) (HD.out.drewN k).steps hs (by show d.1+1<=160; omega)
   clear hz hn hx
   generalize pk s (adv d)=c2 at *
   generalize pk s d=c at *
   by_cases m0:48<=c2
   ·have m1:57 < c2:=by omega
    go_enter Tryz.func160,Tryz.ntmps160
    go_wp2_with fail
    refine hp.mono ?_
    rintro e w' ⟨rfl,k,rfl⟩
    go_wp2_with fail
    refine (hp2 k).mono ?_
    rintro e w' ⟨rfl,k2,rfl⟩
    go_wp2
    go_ret
    rw [HT.out]
    exact ⟨congrArg (fun z=>Ending.returned (Value.int IntKind.i64 z)) HW.out,((HD.out.drewN k).steps).drewN k2,(((Tch.refl _ _).drewN _).setCell _ _).drewN _⟩
   ·go_enter Tryz.func160,Tryz.ntmps160
    go_wp2_with fail
    refine hp.mono ?_
    rintro e w' ⟨rfl,k,rfl⟩
    go_wp2_with fail
    refine (hp2 k).mono ?_
    rintro e w' ⟨rfl,k2,rfl⟩
    go_wp2
    go_ret
    rw [HT.out]
    exact ⟨congrArg (fun z=>Ending.returned (Value.int IntKind.i64 z)) HW.out,((HD.out.drewN k).steps).drewN k2,(((Tch.refl _ _).drewN _).setCell _ _).drewN _⟩
end Go.Proofs.YtffajooegiempaaGreatDoor

namespace Go.Proofs.YtffajooegiempaaGreatDoor
open Go.RowKit
variable {w:World} {r q:Nat} {s:ByteArray} {d:Nat × Bool} {vf:Value}
structure Ds where
 kind:Int
 target:Int
 any:Bool
 sg:List Int
 num:Int
 parent:Int
 block:Int
def sgAt (l:List Int) (i:Nat):Int:=l.getD i 0
def dsCells (x:Ds):Array Value:=#[.int .i64 x.kind,.int .i64 x.target,.bool x.any,.int .i64 (sgAt x.sg 0),.int .i64 (sgAt x.sg 1),.int .i64 (sgAt x.sg 2),.int .i64 (sgAt x.sg 3),.int .i64 x.num,.int .i64 x.parent,.int .i64 x.block]
def DsAt (w:World) (q:Nat) (x:Ds):Prop:=At w q (dsCells x) tDs
structure Tch2 (r q:Nat) (w w':World):Prop where
 os:w'.os=w.os
 tape:w'.tape=w.tape
 output:w'.output=w.output
 size:w'.heap.size=w.heap.size
 block:∀ k,k ≠ r->k ≠ q->w'.heap[k]?=w.heap[k]?
theorem Tch2.refl (r q:Nat) (w:World):Tch2 r q w w:=⟨rfl,rfl,rfl,rfl,fun _ _ _=>rfl⟩
theorem Tch2.trans {a b c:World} (h:Tch2 r q a b) (k:Tch2 r q b c):Tch2 r q a c:=⟨k.os.trans h.os,k.tape.trans h.tape,k.output.trans h.output,k.size.trans h.size,fun i h1 h2=>(k.block i h1 h2).trans (h.block i h1 h2)⟩
theorem Tch.two {a b:World} (h:Tch r a b) (q:Nat):Tch2 r q a b:=⟨h.os,h.tape,h.output,h.size,fun i h1 _=>h.block i h1⟩
theorem Tch2.setCell {a w:World} (h:Tch2 r q a w) (o:Nat) (u:Value):Tch2 r q a (w.setCell ⟨q,o,none⟩ u) :=
 h.trans ⟨rfl,rfl,rfl,by simp [World.setCell],fun k _ hk=>Below.heap_setCell _ _ _ _ hk⟩
theorem Tch2.drewN {a w:World} (h:Tch2 r q a w) (n:Nat):Tch2 r q a (w.drewN n):=⟨h.os,h.tape,h.output,h.size,h.block⟩
theorem DsAt.cells {x:Ds} (h:DsAt w q x):w.cell? ⟨q,0,none⟩=some (.int .i64 x.kind)/\w.cell? ⟨q,1,none⟩=some (.int .i64 x.target)/\w.cell? ⟨q,2,none⟩=some (.bool x.any)/\w.cell? ⟨q,3,none⟩=some (.int .i64 (sgAt x.sg 0))/\w.cell? ⟨q,4,none⟩=some (.int .i64 (sgAt x.sg 1))/\w.cell? ⟨q,5,none⟩=some (.int .i64 (sgAt x.sg 2))/\w.cell? ⟨q,6,none⟩=some (.int .i64 (sgAt x.sg 3))/\w.cell? ⟨q,7,none⟩=some (.int .i64 x.num)/\w.cell? ⟨q,8,none⟩=some (.int .i64 x.parent)/\w.cell? ⟨q,9,none⟩=some (.int .i64 x.block)/\∀ i,w.frozen? ⟨q,i,none⟩=false :=
 ⟨h.cell 0,h.cell 1,h.cell 2,h.cell 3,h.cell 4,h.cell 5,h.cell 6,h.cell 7,h.cell 8,h.cell 9,h.free⟩
theorem DsAt.drewN {x:Ds} (h:DsAt w q x) (k:Nat):DsAt (w.drewN k) q x:=h
theorem DsAt.setAny {x:Ds} (h:DsAt w q x) (b:Bool):DsAt (w.setCell ⟨q,2,none⟩ (.bool b)) q { x with any:=b }:=At.put h 2 (.bool b)
theorem DsAt.setNum {x:Ds} (h:DsAt w q x) (n:Int):DsAt (w.setCell ⟨q,7,none⟩ (.int .i64 n)) q { x with num:=n }:=At.put h 7 (.int .i64 n)
theorem DsAt.setKind {x:Ds} (h:DsAt w q x) (n:Int):DsAt (w.setCell ⟨q,0,none⟩ (.int .i64 n)) q { x with kind:=n }:=At.put h 0 (.int .i64 n)
theorem DsAt.setTarget {x:Ds} (h:DsAt w q x) (n:Int):DsAt (w.setCell ⟨q,1,none⟩ (.int .i64 n)) q { x with target:=n }:=At.put h 1 (.int .i64 n)
theorem DsAt.setSg {x:Ds} (h:DsAt w q x) (hl:x.sg.length=4) (v:Nat) (hv:v < 4) (n:Int):DsAt (w.setCell ⟨q,3+v,none⟩ (.int .i64 n)) q { x with sg:=x.sg.set v n }:=by
 have:=At.put h (3+v) (.int .i64 n)
 unfold DsAt
 have e:dsCells { x with sg:=x.sg.set v n }=(dsCells x).setIfInBounds (3+v) (.int .i64 n):=by
  obtain ⟨kd,tg,an,sg,nm,pa,bl⟩:=x
  match sg,hl with
  | [a,b,c,e],_ =>
   match v,hv with
   | 0,_=>rfl
   | 1,_=>rfl
   | 2,_=>rfl
   | 3,_=>rfl
 rw [e]; exact this
theorem DsAt.ne {x:Ds} (h:DsAt w q x) (k:Dat w r s d vf):q ≠ r:=At.ne h k (by decide)
theorem DsAt.keep {x:Ds} {w':World} (h:DsAt w q x) (t:Tch r w w') (hn:q ≠ r):DsAt w' q x:=t.at_ h hn
theorem Dat.keepq {u:Value} (h:Dat w r s d vf) (o:Nat) (hn:q ≠ r):Dat (w.setCell ⟨q,o,none⟩ u) r s d vf:=At.other h o u (fun e=>hn e.symm)
theorem d_setSign {x:Ds} (h:DsAt w q x) (_hl:x.sg.length=4) (v:Int) (hv0:0<=v) (hv3:v<=3) (n:Int) :
  Calls Tryz.prog 161 #[.pointer (some ⟨q,0,none⟩),.int .i64 v,.int .i64 n] w fun e w'=>e=.returned (.tuple #[])/\w'=w.setCell ⟨q,3+v.toNat,none⟩ (.int .i64 n):=by
 obtain ⟨c0,c1,c2,c3,c4,c5,c6,c7,c8,c9,cf⟩:=h.cells
 clear h
 rcases (show v=0 \/ v=1 \/ v=2 \/ v=3 by omega) with rfl | rfl | rfl | rfl
 all_goals
  go_enter Tryz.func161,Tryz.ntmps161
  go_wp2
  go_end0
  exact ⟨rfl,rfl⟩
theorem d_readSummand (h:Dat w r s d vf) (hs:s.size<=160) (hd:d.1<=s.size) :
  Calls Tryz.prog 162 #[.pointer (some ⟨r,0,none⟩)] w (DPost w r s vf (rSummand s d).2 (.int .i64 (rSummand s d).1)):=by
 have hp:=d_take h hs (by omega) 43
 have HD:Hid (Dat _ _ _ _ _):=h
 clear h
 by_cases hc:pk s d=43
 ·have HT:Hid (rSummand s d=rNum s (adv d) 1):=if_pos hc
  have hk:tk s d 43=(true,adv d):=if_pos hc
  have hlt:=(pk_lt hc (by decide)).1
  rw [hk] at hp
  clear hc hk
  go_enter Tryz.func162,Tryz.ntmps162
  go_wp2_with (go_at_call 157; refine hp.mono ?_; rintro e w' ⟨rfl,hD,hT⟩)
  refine (d_readNumber hD hs (by show d.1+1<=s.size; omega) 1 (.inl rfl)).mono ?_
  rintro e w2 ⟨rfl,hD2,hT2⟩
  go_wp2
  go_ret
  rw [HT.out]
  exact ⟨rfl,hD2,hT.trans hT2⟩
 ·have hk:tk s d 43=(false,d):=if_neg hc
  rw [hk] at hp
  clear hk
  by_cases hm:pk s d=45
  ·have HT:Hid (rSummand s d=(-(rNum s (adv d) 1).1,(rNum s (adv d) 1).2)):=by show rSummand s d=_; unfold rSummand; rw [if_neg hc,if_pos hm]
   have hk2:tk s d 45=(true,adv d):=if_pos hm
   have hlt:=(pk_lt hm (by decide)).1
   obtain ⟨g0,g1⟩:=rNum_range (s:=s) (d:=adv d) 1 (.inl rfl)
   have HK:Hid (_=_):=hk2
   clear hc hm hk2
   go_enter Tryz.func162,Tryz.ntmps162
   go_wp2_with fail
   refine hp.mono ?_
   rintro e w' ⟨rfl,hD,hT⟩
   go_wp2_with fail
   have hq:=d_take hD hs (by omega) 45
   rw [HK.out] at hq
   refine hq.mono ?_
   rintro e w2 ⟨rfl,hD2,hT2⟩
   go_wp2_with fail
   refine (d_readNumber hD2 hs (by show d.1+1<=s.size; omega) 1 (.inl rfl)).mono ?_
   rintro e w3 ⟨rfl,hD3,hT3⟩
   go_wp2
   go_ret
   rw [HT.out]
   exact ⟨rfl,hD3,(hT.trans hT2).trans hT3⟩
  ·have HT:Hid (rSummand s d=(0,d)):=by show rSummand s d=_; unfold rSummand; rw [if_neg hc,if_neg hm]
   have hk2:tk s d 45=(false,d):=if_neg hm
   have HK:Hid (_=_):=hk2
   clear hc hm hk2
   go_enter Tryz.func162,Tryz.ntmps162
   go_wp2_with fail
   refine hp.mono ?_
   rintro e w' ⟨rfl,hD,hT⟩
   go_wp2_with fail
   have hq:=d_take hD hs (by omega) 45
   rw [HK.out] at hq
   refine hq.mono ?_
   rintro e w2 ⟨rfl,hD2,hT2⟩
   go_wp2
   go_ret
   rw [HT.out]
   exact ⟨rfl,hD2,hT.trans hT2⟩
end Go.Proofs.YtffajooegiempaaGreatDoor

namespace Go.Proofs.YtffajooegiempaaGreatDoor
open Go.RowKit
variable {w:World} {r q:Nat} {s:ByteArray} {d:Nat × Bool} {vf:Value} {x:Ds}
def rValue (s:ByteArray) (d:Nat × Bool) (x:Ds):Ds × (Nat × Bool) :=
 if pk s d=42 then ({ x with any:=true },adv d)
 else if varOf (pk s (rSign s d).2)=-1 then ({ x with any:=false,num:=(rNum s (rSign s d).2 (rSign s d).1).1 },(rNum s (rSign s d).2 (rSign s d).1).2)
 else ({ x with any:=false,sg:=x.sg.set (rVar s (rSign s d).2 (-1)).1.toNat (rSign s d).1,num:=(rSummand s (rVar s (rSign s d).2 (-1)).2).1 },(rSummand s (rVar s (rSign s d).2 (-1)).2).2)
def rSecond (s:ByteArray) (d:Nat × Bool) (x:Ds) (first:Int):Ds × (Nat × Bool) :=
 if pk s d=43 \/ pk s d=45 then ({ x with sg:=x.sg.set (rVar s (adv d) first).1.toNat (if pk s d=45 then -1 else 1) },(rVar s (adv d) first).2)
 else (x,d)
def rCond (s:ByteArray) (d:Nat × Bool) (x:Ds):Ds × (Nat × Bool) :=
 if pk s d=42 then ({ x with any:=true },adv d)
 else
  let g:=rSign s d
  let v:=rVar s g.2 (-1)
  let y:=rSecond s v.2 { x with any:=false,sg:=x.sg.set v.1.toNat g.1 } v.1
  let h:=rSign s (nd s (nd s y.2 60) 61)
  let n:=rNum s h.2 h.1
  ({ y.1 with num:=n.1 },n.2)
theorem rSign_or (s:ByteArray) (d:Nat × Bool):(rSign s d).1=1 \/ (rSign s d).1=-1:=by
 unfold rSign; split
 ·exact .inr rfl
 ·exact .inl rfl
theorem nd_le (hd:d.1<=s.size) {c:Int} (hc:c ≠ 0):(nd s d c).1<=s.size:=by
 unfold nd; split
 ·rename_i h; have:=(pk_lt h hc).1; show d.1+1<=_; omega
 ·exact hd
theorem rSummand_le (hd:d.1<=s.size):(rSummand s d).2.1<=s.size:=by
 unfold rSummand; split
 ·rename_i h; have:=(pk_lt h (by decide)).1; exact rNum_le (by show d.1+1<=_; omega) 1
 split
 ·rename_i h; have:=(pk_lt h (by decide)).1; exact rNum_le (d:=adv d) (by show d.1+1<=_; omega) 1
 ·exact hd
theorem rSecond_le (hd:d.1<=s.size) (f:Int):(rSecond s d x f).2.1<=s.size:=by
 unfold rSecond; split
 ·rename_i h
  have:d.1 < s.size:=by
   rcases h with h | h
   ·exact (pk_lt h (by decide)).1
   ·exact (pk_lt h (by decide)).1
  exact rVar_le (d:=adv d) (by show d.1+1<=_; omega) f
 ·exact hd
theorem rSecond_sgl (hl:x.sg.length=4) (f:Int):(rSecond s d x f).1.sg.length=4:=by
 unfold rSecond; split
 ·show (x.sg.set _ _).length=4; rw [List.length_set]; exact hl
 ·exact hl
def SPost (w:World) (r q:Nat) (s:ByteArray) (vf:Value) (y:Ds × (Nat × Bool)):Ending->World->Prop:=fun e w'=>e=.returned (.tuple #[])/\Dat w' r s y.2 vf/\DsAt w' q y.1/\Tch2 r q w w'
theorem d_readValue (h:Dat w r s d vf) (hq:DsAt w q x) (hl:x.sg.length=4) (hs:s.size<=160) (hd:d.1<=s.size) :
  Calls Tryz.prog 147 #[.pointer (some ⟨r,0,none⟩),.pointer (some ⟨q,0,none⟩)] w (SPost w r q s vf (rValue s d x)):=by
 have hp:=d_take h hs (by omega) 42
 have hn:=hq.ne h
 have HD:Hid (Dat _ _ _ _ _):=h
 have HQ:Hid (DsAt _ _ _):=hq
 clear h hq
 by_cases hc:pk s d=42
 ·have HT:Hid (rValue s d x=({ x with any:=true },adv d)):=if_pos hc
  have hk:tk s d 42=(true,adv d):=if_pos hc
  rw [hk] at hp
  clear hc hk
  go_enter Tryz.func147,Tryz.ntmps147
  go_wp2_with fail
  refine (hp).mono ?_
  rintro e w1 ⟨rfl,hD1,hT1⟩
  have hq1:=HQ.out.keep hT1 hn
  obtain ⟨c0,c1,c2,c3,c4,c5,c6,c7,c8,c9,cf⟩:=hq1.cells
  have HQ1:Hid (DsAt _ _ _):=hq1
  clear hq1
  go_wp2
  go_end0
  rw [HT.out]
  exact ⟨rfl,hD1.keepq 2 hn,HQ1.out.setAny true,(hT1.two q).setCell _ _⟩
 ·have hk:tk s d 42=(false,d):=if_neg hc
  rw [hk] at hp
  clear hk
  have hg:=rSign_or s d
  have hgl:=rSign_le (s:=s) (d:=d) hd
  obtain ⟨p0,p1⟩:=pk_range s (rSign s d).2
  have hvr:=rVar_range (s:=s) (d:=(rSign s d).2) (-1)
  have hvl:=rVar_le (s:=s) (d:=(rSign s d).2) hgl (-1)
  by_cases hv:varOf (pk s (rSign s d).2)=-1
  ·have HT:Hid (rValue s d x=({ x with any:=false,num:=(rNum s (rSign s d).2 (rSign s d).1).1 },(rNum s (rSign s d).2 (rSign s d).1).2)):=by show rValue s d x=_; unfold rValue; rw [if_neg hc,if_pos hv]
   have HV:Hid (_=_):=hv
   clear hc hv
   go_enter Tryz.func147,Tryz.ntmps147
   go_wp2_with fail
   refine (hp).mono ?_
   rintro e w1 ⟨rfl,hD1,hT1⟩
   have hq1:=HQ.out.keep hT1 hn
   obtain ⟨c0,c1,c2,c3,c4,c5,c6,c7,c8,c9,cf⟩:=hq1.cells
   have HQ1:Hid (DsAt _ _ _):=hq1.setAny false
   have HD1:Hid (Dat _ _ _ _ _):=hD1.keepq (u:=.bool false) 2 hn
   clear hq1 hD1
   go_wp2_with fail
   refine (d_readSign HD1.out hs hd).mono ?_
   rintro e w2 ⟨rfl,hD2,hT2⟩
   go_wp2_with fail
   refine (d_peek hD2 hs (by omega)).mono ?_
   rintro e w3 ⟨rfl,k3,rfl⟩
   have hvo:=d_variableOf (pk s (rSign s d).2) (w2.drewN k3) p0 p1
   rw [HV.out] at hvo
   go_wp2_with fail
   refine hvo.mono ?_
   rintro e w4 ⟨rfl,rfl⟩
   go_wp2_with fail
   refine (d_readNumber (hD2.drewN k3) hs hgl (rSign s d).1 hg).mono ?_
   rintro e w5 ⟨rfl,hD5,hT5⟩
   have hq5:=((HQ1.out.keep hT2 hn).drewN k3).keep hT5 hn
   obtain ⟨c0,c1,c2,c3,c4,c5,c6,c7,c8,c9,cf⟩:=hq5.cells
   have HQ5:Hid (DsAt _ _ _):=hq5
   clear hq5
   go_wp2
   go_end0
   rw [HT.out]
   exact ⟨rfl,hD5.keepq 7 hn,HQ5.out.setNum _,((((((hT1.two q).setCell _ _).trans (hT2.two q)).drewN _).trans (hT5.two q))).setCell _ _⟩
  ·have HT:Hid (rValue s d x=({ x with any:=false,sg:=x.sg.set (rVar s (rSign s d).2 (-1)).1.toNat (rSign s d).1,num:=(rSummand s (rVar s (rSign s d).2 (-1)).2).1 },(rSummand s (rVar s (rSign s d).2 (-1)).2).2)):=by show rValue s d x=_; unfold rValue; rw [if_neg hc,if_neg hv]
   have bv:(varOf (pk s (rSign s d).2) == -1)=false:=by simpa using hv
   clear hc hv
   go_enter Tryz.func147,Tryz.ntmps147
   go_wp2_with fail
   refine (hp).mono ?_
   rintro e w1 ⟨rfl,hD1,hT1⟩
   have hq1:=HQ.out.keep hT1 hn
   obtain ⟨c0,c1,c2,c3,c4,c5,c6,c7,c8,c9,cf⟩:=hq1.cells
   have HQ1:Hid (DsAt _ _ _):=hq1.setAny false
   have HD1:Hid (Dat _ _ _ _ _):=hD1.keepq (u:=.bool false) 2 hn
   clear hq1 hD1
   go_wp2_with fail
   refine (d_readSign HD1.out hs hd).mono ?_
   rintro e w2 ⟨rfl,hD2,hT2⟩
   go_wp2_with fail
   refine (d_peek hD2 hs (by omega)).mono ?_
   rintro e w3 ⟨rfl,k3,rfl⟩
   go_wp2_with fail
   refine (d_variableOf (pk s (rSign s d).2) (w2.drewN k3) p0 p1).mono ?_
   rintro e w4 ⟨rfl,rfl⟩
   go_wp2_with fail
   refine (d_readVariable (hD2.drewN k3) hs hgl (-1)).mono ?_
   rintro e w5 ⟨rfl,hD5,hT5⟩
   have hq5:=((HQ1.out.keep hT2 hn).drewN k3).keep hT5 hn
   have HQ5:Hid (DsAt _ _ _):=hq5
   clear hq5
   go_wp2_with fail
   refine (d_setSign HQ5.out hl _ hvr.1 hvr.2 _).mono ?_
   rintro e w6 ⟨rfl,rfl⟩
   have HQ6:Hid (DsAt _ _ _):=HQ5.out.setSg hl (rVar s (rSign s d).2 (-1)).1.toNat (by omega) (rSign s d).1
   have HD6:Hid (Dat _ _ _ _ _):=hD5.keepq (u:=.int .i64 (rSign s d).1) (3+(rVar s (rSign s d).2 (-1)).1.toNat) hn
   go_wp2_with fail
   refine (d_readSummand HD6.out hs hvl).mono ?_
   rintro e w7 ⟨rfl,hD7,hT7⟩
   have hq7:=HQ6.out.keep hT7 hn
   obtain ⟨c0,c1,c2,c3,c4,c5,c6,c7,c8,c9,cf⟩:=hq7.cells
   have HQ7:Hid (DsAt _ _ _):=hq7
   clear hq7
   go_wp2
   go_end0
   rw [HT.out]
   exact ⟨rfl,hD7.keepq 7 hn,HQ7.out.setNum _,((((((((hT1.two q).setCell _ _).trans (hT2.two q)).drewN _).trans (hT5.two q)).setCell _ _).trans (hT7.two q))).setCell _ _⟩
theorem d_readSecond (h:Dat w r s d vf) (hq:DsAt w q x) (hl:x.sg.length=4) (hs:s.size<=160) (hd:d.1<=s.size) (f:Int) :
  Calls Tryz.prog 163 #[.pointer (some ⟨r,0,none⟩),.pointer (some ⟨q,0,none⟩),.int .i64 f] w (SPost w r q s vf (rSecond s d x f)):=by
 have hp:=d_peek h hs (by omega)
 obtain ⟨p0,p1⟩:=pk_range s d
 have hn:=hq.ne h
 have HD:Hid (Dat _ _ _ _ _):=h
 have HQ:Hid (DsAt _ _ _):=hq
 clear h hq
 by_cases hc:pk s d=43 \/ pk s d=45
 ·have hlt:d.1 < s.size:=by
   rcases hc with h | h
   ·exact (pk_lt h (by decide)).1
   ·exact (pk_lt h (by decide)).1
  have hnd:∀ c,pk s d=c->nd s d c=adv d:=fun c h=>if_pos h
  have hvr:=rVar_range (s:=s) (d:=adv d) f
  have hvl:=rVar_le (s:=s) (d:=adv d) (by show d.1+1<=_; omega) f
  have HT:Hid (rSecond s d x f=({ x with sg:=x.sg.set (rVar s (adv d) f).1.toNat (if pk s d=45 then -1 else 1) },(rVar s (adv d) f).2)):=if_pos hc
  rcases hc with hc | hc
  ·rw [hc] at hp
   have HT2:Hid (rSecond s d x f=({ x with sg:=x.sg.set (rVar s (adv d) f).1.toNat 1 },(rVar s (adv d) f).2)):=HT.out.trans (by rw [hc]; rfl)
   have HN:Hid (nd s d 43=adv d):=hnd 43 hc
   clear hc hnd HT
   go_enter Tryz.func163,Tryz.ntmps163
   go_wp2_with fail
   refine hp.mono ?_
   rintro e w1 ⟨rfl,k,rfl⟩
   have hne:=d_need (HD.out.drewN k) hs (by omega) 43
   rw [HN.out] at hne
   go_wp2_with fail
   refine (hne).mono ?_
   rintro e w2 ⟨rfl,hD2,hT2⟩
   go_wp2_with fail
   refine (d_readVariable hD2 hs (by show d.1+1<=_; omega) f).mono ?_
   rintro e w3 ⟨rfl,hD3,hT3⟩
   have HQ3:Hid (DsAt _ _ _):=((HQ.out.drewN k).keep hT2 hn).keep hT3 hn
   go_wp2_with fail
   refine (d_setSign HQ3.out hl _ hvr.1 hvr.2 _).mono ?_
   rintro e w4 ⟨rfl,rfl⟩
   go_wp2
   go_end0
   rw [HT2.out]
   exact ⟨rfl,hD3.keepq _ hn,HQ3.out.setSg hl _ (by omega) _,((((((Tch2.refl r q _).drewN _).trans (hT2.two q)).trans (hT3.two q)))).setCell _ _⟩
  ·rw [hc] at hp
   have HT2:Hid (rSecond s d x f=({ x with sg:=x.sg.set (rVar s (adv d) f).1.toNat (-1) },(rVar s (adv d) f).2)):=HT.out.trans (by rw [hc]; rfl)
   have HN:Hid (nd s d 45=adv d):=hnd 45 hc
   clear hc hnd HT
   go_enter Tryz.func163,Tryz.ntmps163
   go_wp2_with fail
   refine hp.mono ?_
   rintro e w1 ⟨rfl,k,rfl⟩
   have hne:=d_need (HD.out.drewN k) hs (by omega) 45
   rw [HN.out] at hne
   go_wp2_with fail
   refine (hne).mono ?_
   rintro e w2 ⟨rfl,hD2,hT2⟩
   go_wp2_with fail
   refine (d_readVariable hD2 hs (by show d.1+1<=_; omega) f).mono ?_
   rintro e w3 ⟨rfl,hD3,hT3⟩
   have HQ3:Hid (DsAt _ _ _):=((HQ.out.drewN k).keep hT2 hn).keep hT3 hn
   go_wp2_with fail
   refine (d_setSign HQ3.out hl _ hvr.1 hvr.2 _).mono ?_
   rintro e w4 ⟨rfl,rfl⟩
   go_wp2
   go_end0
   rw [HT2.out]
   exact ⟨rfl,hD3.keepq _ hn,HQ3.out.setSg hl _ (by omega) _,((((((Tch2.refl r q _).drewN _).trans (hT2.two q)).trans (hT3.two q)))).setCell _ _⟩
 ·have HT:Hid (rSecond s d x f=(x,d)):=if_neg hc
  have b1:(pk s d != 43)=true:=by rw [bne_iff_ne]; exact fun e=>hc (.inl e)
  have b2:(pk s d != 45)=true:=by rw [bne_iff_ne]; exact fun e=>hc (.inr e)
  clear hc
  generalize pk s d=c at *
  go_enter Tryz.func163,Tryz.ntmps163
  go_wp2_with fail
  refine hp.mono ?_
  rintro e w1 ⟨rfl,k,rfl⟩
  go_wp2
  go_end0
  rw [HT.out]
  exact ⟨rfl,HD.out.drewN k,HQ.out.drewN k,(Tch2.refl r q _).drewN _⟩
theorem d_readCondition (h:Dat w r s d vf) (hq:DsAt w q x) (hl:x.sg.length=4) (hs:s.size<=160) (hd:d.1<=s.size) :
  Calls Tryz.prog 148 #[.pointer (some ⟨r,0,none⟩),.pointer (some ⟨q,0,none⟩)] w (SPost w r q s vf (rCond s d x)):=by
 have hp:=d_take h hs (by omega) 42
 have hn:=hq.ne h
 have HD:Hid (Dat _ _ _ _ _):=h
 have HQ:Hid (DsAt _ _ _):=hq
 clear h hq
 by_cases hc:pk s d=42
 ·have HT:Hid (rCond s d x=({ x with any:=true },adv d)):=if_pos hc
  have hk:tk s d 42=(true,adv d):=if_pos hc
  rw [hk] at hp
  clear hc hk
  go_enter Tryz.func148,Tryz.ntmps148
  go_wp2_with fail
  refine (hp).mono ?_
  rintro e w1 ⟨rfl,hD1,hT1⟩
  have hq1:=HQ.out.keep hT1 hn
  obtain ⟨c0,c1,c2,c3,c4,c5,c6,c7,c8,c9,cf⟩:=hq1.cells
  have HQ1:Hid (DsAt _ _ _):=hq1
  clear hq1
  go_wp2
  go_end0
  rw [HT.out]
  exact ⟨rfl,hD1.keepq 2 hn,HQ1.out.setAny true,(hT1.two q).setCell _ _⟩
 ·have hk:tk s d 42=(false,d):=if_neg hc
  rw [hk] at hp
  clear hk
  obtain ⟨g,hG⟩:∃ g,g=rSign s d:=⟨_,rfl⟩
  obtain ⟨v,hV⟩:∃ v,v=rVar s g.2 (-1):=⟨_,rfl⟩
  obtain ⟨y,hY⟩:∃ y,y=rSecond s v.2 { x with any:=false,sg:=x.sg.set v.1.toNat g.1 } v.1:=⟨_,rfl⟩
  obtain ⟨z,hZ⟩:∃ z,z=rSign s (nd s (nd s y.2 60) 61):=⟨_,rfl⟩
  have HT:Hid (rCond s d x=({ y.1 with num:=(rNum s z.2 z.1).1 },(rNum s z.2 z.1).2)):=by
   show rCond s d x=_; unfold rCond; rw [if_neg hc,hZ,hY,hV,hG]
  have hg:g.1=1 \/ g.1=-1:=by rw [hG]; exact rSign_or s d
  have hgl:g.2.1<=s.size:=by rw [hG]; exact rSign_le hd
  have hvr:0<=v.1/\v.1<=3:=by rw [hV]; exact rVar_range (-1)
  have hvl:v.2.1<=s.size:=by rw [hV]; exact rVar_le hgl (-1)
  have hyl:y.2.1<=s.size:=by rw [hY]; exact rSecond_le hvl v.1
  have h60:(nd s y.2 60).1<=s.size:=nd_le hyl (by decide)
  have h61:(nd s (nd s y.2 60) 61).1<=s.size:=nd_le h60 (by decide)
  have hz:z.1=1 \/ z.1=-1:=by rw [hZ]; exact rSign_or s _
  have hzl:z.2.1<=s.size:=by rw [hZ]; exact rSign_le h61
  have HG:Hid (g=rSign s d):=hG
  have HV:Hid (v=rVar s g.2 (-1)):=hV
  have HY:Hid (y=rSecond s v.2 { x with any:=false,sg:=x.sg.set v.1.toNat g.1 } v.1):=hY
  have HZ:Hid (z=rSign s (nd s (nd s y.2 60) 61)):=hZ
  clear hc hG hV hY hZ
  go_enter Tryz.func148,Tryz.ntmps148
  go_wp2_with fail
  refine (hp).mono ?_
  rintro e w1 ⟨rfl,hD1,hT1⟩
  have hq1:=HQ.out.keep hT1 hn
  obtain ⟨c0,c1,c2,c3,c4,c5,c6,c7,c8,c9,cf⟩:=hq1.cells
  have HQ1:Hid (DsAt _ _ _):=hq1.setAny false
  have HD1:Hid (Dat _ _ _ _ _):=hD1.keepq (u:=.bool false) 2 hn
  clear hq1 hD1
  have k2:=d_readSign HD1.out hs hd
  rw [<- HG.out] at k2
  go_wp2_with fail
  refine (k2).mono ?_
  rintro e w2 ⟨rfl,hD2,hT2⟩
  have k3:=d_readVariable hD2 hs hgl (-1)
  rw [<- HV.out] at k3
  go_wp2_with fail
  refine (k3).mono ?_
  rintro e w3 ⟨rfl,hD3,hT3⟩
  have HQ3:Hid (DsAt _ _ _):=(HQ1.out.keep hT2 hn).keep hT3 hn
  go_wp2_with fail
  refine (d_setSign HQ3.out hl _ hvr.1 hvr.2 _).mono ?_
  rintro e w4 ⟨rfl,rfl⟩
  have HQ4:Hid (DsAt _ _ _):=HQ3.out.setSg hl v.1.toNat (by omega) g.1
  have HD4:Hid (Dat _ _ _ _ _):=hD3.keepq (u:=.int .i64 g.1) (3+v.1.toNat) hn
  have k5:=d_readSecond HD4.out HQ4.out (by show (x.sg.set _ _).length=4; rw [List.length_set]; exact hl) hs hvl v.1
  rw [show rSecond s v.2 { x with any:=false,sg:=x.sg.set v.1.toNat g.1 } v.1=y from HY.out.symm] at k5
  go_wp2_with fail
  refine k5.mono ?_
  rintro e w5 ⟨rfl,hD5,hQ5,hT5⟩
  have HQ5:Hid (DsAt _ _ _):=hQ5
  clear hQ5
  go_wp2_with fail
  refine (d_need hD5 hs (by omega) 60).mono ?_
  rintro e w6 ⟨rfl,hD6,hT6⟩
  go_wp2_with fail
  refine (d_need hD6 hs (by omega) 61).mono ?_
  rintro e w7 ⟨rfl,hD7,hT7⟩
  have k8:=d_readSign hD7 hs h61
  rw [<- HZ.out] at k8
  go_wp2_with fail
  refine (k8).mono ?_
  rintro e w8 ⟨rfl,hD8,hT8⟩
  go_wp2_with fail
  refine (d_readNumber hD8 hs hzl z.1 hz).mono ?_
  rintro e w9 ⟨rfl,hD9,hT9⟩
  have hq9:=(((HQ5.out.keep hT6 hn).keep hT7 hn).keep hT8 hn).keep hT9 hn
  obtain ⟨c0,c1,c2,c3,c4,c5,c6,c7,c8,c9,cf⟩:=hq9.cells
  have HQ9:Hid (DsAt _ _ _):=hq9
  clear hq9
  go_wp2
  go_end0
  rw [HT.out]
  exact ⟨rfl,hD9.keepq 7 hn,HQ9.out.setNum _,(((((((((((hT1.two q).setCell _ _).trans (hT2.two q)).trans (hT3.two q)).setCell _ _).trans hT5).trans (hT6.two q)).trans (hT7.two q)).trans (hT8.two q)).trans (hT9.two q))).setCell _ _⟩
end Go.Proofs.YtffajooegiempaaGreatDoor

namespace Go.Proofs.YtffajooegiempaaGreatDoor
open Go.RowKit
variable {w:World} {r q:Nat} {s:ByteArray} {d:Nat × Bool} {vf:Value} {x:Ds}
def blocksOf (k:Int):Int:=if k=2 then 2 else if k=3 then 1 else 0
theorem d_blocks (k t:Int) (an:Bool) (g0 g1 g2 g3 n p b:Int) (w:World) :
  Calls Tryz.prog 101 #[.agg #[.int .i64 k,.int .i64 t,.bool an,.int .i64 g0,.int .i64 g1,.int .i64 g2,.int .i64 g3,.int .i64 n,.int .i64 p,.int .i64 b]] w fun e w'=>e=.returned (.int .i64 (blocksOf k))/\∃ o,w'=w.alloc o:=by
 unfold blocksOf
 by_cases h2:k=2
 ·subst h2
  go_enter Tryz.func101,Tryz.ntmps101
  go_wp2
  go_ret
  exact ⟨rfl,_,rfl⟩
 ·have b2:(k == 2)=false:=by simpa using h2
  by_cases h3:k=3
  ·subst h3
   clear h2 b2
   go_enter Tryz.func101,Tryz.ntmps101
   go_wp2
   go_ret
   exact ⟨rfl,_,rfl⟩
  ·have b3:(k == 3)=false:=by simpa using h3
   rw [if_neg h2,if_neg h3]
   clear h2 h3
   go_enter Tryz.func101,Tryz.ntmps101
   go_wp2
   go_ret
   exact ⟨rfl,_,rfl⟩
structure Fr2 (r q:Nat) (w w':World):Prop where
 os:w'.os=w.os
 tape:w'.tape=w.tape
 output:w'.output=w.output
 size:w.heap.size<=w'.heap.size
 block:∀ k,k < w.heap.size->k ≠ r->k ≠ q->w'.heap[k]?=w.heap[k]?
theorem Fr2.trans {a b c:World} (h:Fr2 r q a b) (k:Fr2 r q b c):Fr2 r q a c:=⟨k.os.trans h.os,k.tape.trans h.tape,k.output.trans h.output,Nat.le_trans h.size k.size,fun i h0 h1 h2=>(k.block i (Nat.lt_of_lt_of_le h0 h.size) h1 h2).trans (h.block i h0 h1 h2)⟩
theorem Tch2.fr {a b:World} (h:Tch2 r q a b):Fr2 r q a b:=⟨h.os,h.tape,h.output,by have:=h.size; omega,fun i _ h1 h2=>h.block i h1 h2⟩
theorem Fr2.alloc {a w:World} (h:Fr2 r q a w) (o:Obj):Fr2 r q a (w.alloc o) :=
 h.trans ⟨rfl,rfl,rfl,by simp,fun k hk _ _=>Below.heap_alloc _ _ _ hk⟩
theorem At.alloc {b:Nat} {c:Array Value} {t:TypeId} (h:At w b c t) (o:Obj):At (w.alloc o) b c t:=h.same (Below.heap_alloc _ _ _ h.lt)
theorem Dat.alloc (h:Dat w r s d vf) (o:Obj):Dat (w.alloc o) r s d vf:=At.alloc h o
theorem DsAt.alloc (h:DsAt w q x) (o:Obj):DsAt (w.alloc o) q x:=At.alloc h o
def FPost (w:World) (r q:Nat) (s:ByteArray) (vf:Value) (y:Ds × (Nat × Bool)):Ending->World->Prop:=fun e w'=>e=.returned (.tuple #[])/\Dat w' r s y.2 vf/\DsAt w' q y.1/\Fr2 r q w w'
def rKind (s:ByteArray) (d:Nat × Bool) (x:Ds) (dp:Int):Ds × (Nat × Bool) :=
 if pk s d=33 then ({ x with kind:=1 },adv d)
 else if pk s d=63 then ({ x with kind:=2 },if 4<=dp then stk d else adv d)
 else if pk s d=64 then ({ x with kind:=3 },if 4<=dp then stk d else adv d)
 else ({ x with kind:=0,target:=(rVar s d (-1)).1 },(rVar s d (-1)).2)
theorem d_readKind (h:Dat w r s d vf) (hq:DsAt w q x) (hs:s.size<=160) (hd:d.1<=s.size) (dp:Int) :
  Calls Tryz.prog 145 #[.pointer (some ⟨r,0,none⟩),.pointer (some ⟨q,0,none⟩),.int .i64 dp] w (FPost w r q s vf (rKind s d x dp)):=by
 have hp:=d_peek h hs (by omega)
 obtain ⟨p0,p1⟩:=pk_range s d
 have hn:=hq.ne h
 have hlr:r < w.heap.size:=At.lt h
 have hlq:q < w.heap.size:=At.lt hq
 have nrq:r ≠ q:=fun e=>hn e.symm
 obtain ⟨c0,c1,c2,c3,c4,c5,c6,c7,c8,c9,cf⟩:=hq.cells
 obtain ⟨r0,r1,r2,r3,rf⟩:=h.cells
 have HD:Hid (Dat _ _ _ _ _):=h
 have HQ:Hid (DsAt _ _ _):=hq
 clear h hq
 generalize sgAt x.sg 0=g0 at *
 generalize sgAt x.sg 1=g1 at *
 generalize sgAt x.sg 2=g2 at *
 generalize sgAt x.sg 3=g3 at *
 by_cases h33:pk s d=33
 ·have HT:Hid (rKind s d x dp=({ x with kind:=1 },adv d)):=if_pos h33
  have HN:Hid (nd s d 33=adv d):=if_pos h33
  rw [h33] at hp
  clear h33
  go_enter Tryz.func145,Tryz.ntmps145
  go_wp2_with fail
  refine hp.mono ?_
  rintro e w1 ⟨rfl,k,rfl⟩
  go_wp2_with fail
  refine (d_blocks _ _ _ _ _ _ _ _ _ _ _).mono ?_
  rintro e w2 ⟨rfl,o,rfl⟩
  have hne:=d_need (((HD.out.drewN k).keepq (u:=.int .i64 1) 0 hn).alloc o) hs (by omega) 33
  rw [HN.out] at hne
  go_wp2_with fail
  refine hne.mono ?_
  rintro e w3 ⟨rfl,hD3,hT3⟩
  go_wp2
  go_end0
  rw [HT.out]
  exact ⟨rfl,hD3,(((HQ.out.drewN k).setKind 1).alloc o).keep hT3 hn,((((Tch2.refl r q _).drewN k).setCell _ _).fr.alloc o).trans (hT3.two q).fr⟩
 have b33:(pk s d == 33)=false:=by simpa using h33
 by_cases h63:pk s d=63
 ·have HN:Hid (nd s d 63=adv d):=if_pos h63
  by_cases h4:4<=dp
  ·have HT:Hid (rKind s d x dp=({ x with kind:=2 },stk d)):=by show rKind s d x dp=_; unfold rKind; rw [if_neg h33,if_pos h63,if_pos h4]
   rw [h63] at hp
   clear h33 b33 h63
   go_enter Tryz.func145,Tryz.ntmps145
   go_wp2_with fail
   refine hp.mono ?_
   rintro e w1 ⟨rfl,k,rfl⟩
   go_wp2_with fail
   refine (d_blocks _ _ _ _ _ _ _ _ _ _ _).mono ?_
   rintro e w2 ⟨rfl,o,rfl⟩
   go_wp2
   go_end0
   rw [HT.out]
   exact ⟨rfl,(((HD.out.drewN k).keepq 0 hn).stick).alloc o,(((HQ.out.drewN k).setKind 2).keep ((Tch.refl r _).setCell _ _) hn).alloc o,((((Tch2.refl r q _).drewN k).setCell _ _).trans (((Tch.refl r _).setCell _ _).two q)).fr.alloc o⟩
  ·have HT:Hid (rKind s d x dp=({ x with kind:=2 },adv d)):=by show rKind s d x dp=_; unfold rKind; rw [if_neg h33,if_pos h63,if_neg h4]
   rw [h63] at hp
   clear h33 b33 h63
   go_enter Tryz.func145,Tryz.ntmps145
   go_wp2_with fail
   refine hp.mono ?_
   rintro e w1 ⟨rfl,k,rfl⟩
   go_wp2_with fail
   refine (d_blocks _ _ _ _ _ _ _ _ _ _ _).mono ?_
   rintro e w2 ⟨rfl,o,rfl⟩
   have hne:=d_need (((HD.out.drewN k).keepq (u:=.int .i64 2) 0 hn).alloc o) hs (by omega) 63
   rw [HN.out] at hne
   go_wp2_with fail
   refine hne.mono ?_
   rintro e w3 ⟨rfl,hD3,hT3⟩
   go_wp2
   go_end0
   rw [HT.out]
   exact ⟨rfl,hD3,(((HQ.out.drewN k).setKind 2).alloc o).keep hT3 hn,((((Tch2.refl r q _).drewN k).setCell _ _).fr.alloc o).trans (hT3.two q).fr⟩
 have b63:(pk s d == 63)=false:=by simpa using h63
 by_cases h64:pk s d=64
 ·have HN:Hid (nd s d 64=adv d):=if_pos h64
  by_cases h4:4<=dp
  ·have HT:Hid (rKind s d x dp=({ x with kind:=3 },stk d)):=by show rKind s d x dp=_; unfold rKind; rw [if_neg h33,if_neg h63,if_pos h64,if_pos h4]
   rw [h64] at hp
   clear h33 b33 h63 b63 h64
   go_enter Tryz.func145,Tryz.ntmps145
   go_wp2_with fail
   refine hp.mono ?_
   rintro e w1 ⟨rfl,k,rfl⟩
   go_wp2_with fail
   refine (d_blocks _ _ _ _ _ _ _ _ _ _ _).mono ?_
   rintro e w2 ⟨rfl,o,rfl⟩
   go_wp2
   go_end0
   rw [HT.out]
   exact ⟨rfl,(((HD.out.drewN k).keepq 0 hn).stick).alloc o,(((HQ.out.drewN k).setKind 3).keep ((Tch.refl r _).setCell _ _) hn).alloc o,((((Tch2.refl r q _).drewN k).setCell _ _).trans (((Tch.refl r _).setCell _ _).two q)).fr.alloc o⟩
  ·have HT:Hid (rKind s d x dp=({ x with kind:=3 },adv d)):=by show rKind s d x dp=_; unfold rKind; rw [if_neg h33,if_neg h63,if_pos h64,if_neg h4]
   rw [h64] at hp
   clear h33 b33 h63 b63 h64
   go_enter Tryz.func145,Tryz.ntmps145
   go_wp2_with fail
   refine hp.mono ?_
   rintro e w1 ⟨rfl,k,rfl⟩
   go_wp2_with fail
   refine (d_blocks _ _ _ _ _ _ _ _ _ _ _).mono ?_
   rintro e w2 ⟨rfl,o,rfl⟩
   have hne:=d_need (((HD.out.drewN k).keepq (u:=.int .i64 3) 0 hn).alloc o) hs (by omega) 64
   rw [HN.out] at hne
   go_wp2_with fail
   refine hne.mono ?_
   rintro e w3 ⟨rfl,hD3,hT3⟩
   go_wp2
   go_end0
   rw [HT.out]
   exact ⟨rfl,hD3,(((HQ.out.drewN k).setKind 3).alloc o).keep hT3 hn,((((Tch2.refl r q _).drewN k).setCell _ _).fr.alloc o).trans (hT3.two q).fr⟩
 have b64:(pk s d == 64)=false:=by simpa using h64
 have HT:Hid (rKind s d x dp=({ x with kind:=0,target:=(rVar s d (-1)).1 },(rVar s d (-1)).2)):=by show rKind s d x dp=_; unfold rKind; rw [if_neg h33,if_neg h63,if_neg h64]
 clear h33 h63 h64
 generalize pk s d=c at *
 go_enter Tryz.func145,Tryz.ntmps145
 go_wp2_with fail
 refine hp.mono ?_
 rintro e w1 ⟨rfl,k,rfl⟩
 go_wp2_with fail
 refine (d_readVariable ((HD.out.drewN k).keepq (u:=.int .i64 0) 0 hn) hs hd (-1)).mono ?_
 rintro e w3 ⟨rfl,hD3,hT3⟩
 have hq3:=((HQ.out.drewN k).setKind 0).keep hT3 hn
 obtain ⟨c0,c1,c2,c3,c4,c5,c6,c7,c8,c9,cf⟩:=hq3.cells
 have HQ3:Hid (DsAt _ _ _):=hq3
 clear hq3
 go_wp2
 go_end0
 rw [HT.out]
 exact ⟨rfl,hD3.keepq 1 hn,HQ3.out.setTarget _,((((Tch2.refl r q _).drewN k).setCell _ _).trans (hT3.two q)).setCell _ _ |>.fr⟩
end Go.Proofs.YtffajooegiempaaGreatDoor

