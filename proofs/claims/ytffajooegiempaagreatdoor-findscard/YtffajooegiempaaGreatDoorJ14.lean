import Derived.Test.YtffajooegiempaaGreatDoorJ13
set_option maxRecDepth 100000
set_option maxHeartbeats 6400000
namespace Go.Proofs.YtffajooegiempaaGreatDoor
open Go.RowKit
variable {w:World}
abbrev tNk:TypeId:=3
def px (k:Nat):Nat:=[0,0,0,1,1,2].getD k 0
def py (k:Nat):Nat:=[1,2,3,2,3,3].getD k 0
def fst (k:Nat) (sx sy:Int) (t:Nat):List Int:=if k < t then ([0,0,0,0].set (px k) sx).set (py k) sy else [0,0,0,0]
theorem k_form_lo (f:Nat) (hf:f < 8):Calls Tryz.prog 96 #[.int .i64 (f:Int)] w fun e w'=>e=.returned (.slice (some ⟨w.heap.size,0,none⟩) 4 4)/\At w' w.heap.size (ic (frm f)) tNk/\Below w.heap.size w w':=by
 have hmk:∀ w,(Instr.makeSlice 32 (.int .i64 4) (.int .i64 4)).run Tryz.prog w=.ok (.slice (some ⟨w.heap.size,0,none⟩) 4 4) (w.alloc (.cells #[.int .i64 0,.int .i64 0,.int .i64 0,.int .i64 0] tNk)):=fun _=>by kernel_rfl
 have HB:Hid (∀ o,Below w.heap.size w (w.alloc o)):=fun o=>(Below.refl _ _).alloc (Nat.le_refl _) _
 rcases (show f=0 \/ f=1 \/ f=2 \/ f=3 \/ f=4 \/ f=5 \/ f=6 \/ f=7 by omega) with rfl | rfl | rfl | rfl | rfl | rfl | rfl | rfl
 all_goals
  go_enter Tryz.func96,Tryz.ntmps96
  go_wp2_with fail
  go_ret
  refine ⟨rfl,?_,?_⟩
  ·exact At.new _ _ _
  ·exact HB.out _
theorem form_parts:∀ f:Nat,f < 32->8<=f->((f:Int) - 8).tdiv 4=(((f - 8) / 4:Nat):Int)/\(((f:Int) - 8).tmod 4).tdiv 2=(((f - 8) % 4 / 2:Nat):Int)/\((f:Int) - 8).tmod 2=(((f - 8) % 2:Nat):Int)/\(f - 8) / 4 < 6/\(f - 8) % 4 / 2 < 2/\(f - 8) % 2 < 2 /\
  frm f=fst ((f - 8) / 4) (1 - (((f - 8) % 4 / 2:Nat):Int)*2) (1 - (((f - 8) % 2:Nat):Int)*2) 6:=by decide
def tx (x:Nat):Nat:=[0,3,5,6,6].getD x 6
theorem k_form_hi (f:Nat) (hf:f < 32) (hf8:8<=f):Calls Tryz.prog 96 #[.int .i64 (f:Int)] w fun e w'=>e=.returned (.slice (some ⟨w.heap.size,0,none⟩) 4 4)/\At w' w.heap.size (ic (frm f)) tNk/\Below w.heap.size w w':=by
 have hmk:∀ w,(Instr.makeSlice 32 (.int .i64 4) (.int .i64 4)).run Tryz.prog w=.ok (.slice (some ⟨w.heap.size,0,none⟩) 4 4) (w.alloc (.cells #[.int .i64 0,.int .i64 0,.int .i64 0,.int .i64 0] tNk)):=fun _=>by kernel_rfl
 have HA:Hid (At (w.alloc (.cells #[.int .i64 0,.int .i64 0,.int .i64 0,.int .i64 0] tNk)) w.heap.size (ic [0,0,0,0]) tNk):=At.new _ _ _
 have HB:Hid (∀ o,Below w.heap.size w (w.alloc o)):=fun o=>(Below.refl _ _).alloc (Nat.le_refl _) _
 obtain ⟨p1,p2,p3,p4,p5,p6,p7⟩:=form_parts f hf hf8
 have HF:Hid (_=_):=p7
 have hfi:¬ (f:Int) < 8:=by omega
 have hfu:(f:Int) < 32:=by omega
 generalize (f - 8) / 4=k at *
 obtain ⟨a,ha⟩:∃ a:Int,a=(((f - 8) % 4 / 2:Nat):Int):=⟨_,rfl⟩
 obtain ⟨c,hc⟩:∃ c:Int,c=(((f - 8) % 2:Nat):Int):=⟨_,rfl⟩
 have HA2:Hid (((f:Int) - 8) % 4 / 2=a):=by show _=a; omega
 rw [<- ha] at p2 HF
 rw [<- hc] at p3 HF
 have a0:0<=a:=by omega
 have a1:a<=1:=by omega
 have c0':0<=c:=by omega
 have c1':c<=1:=by omega
 have HS:Hid (fst k (1 - a*2) (1 - c*2) 0=[0,0,0,0]):=by show fst _ _ _ _=_; unfold fst; rw [if_neg (by omega)]
 clear ha hc p5 p6 p7 hf
 go_enter Tryz.func96,Tryz.ntmps96
 go_wp2_with fail
 go_loopw [4,5] (fun kv xv wr=>∃ (x:Nat),x<=4/\xv=.int .i64 x/\kv=.int .i64 ((k:Int) - ((tx x:Nat):Int))/\Hid (At wr w.heap.size (ic (fst k (1 - a*2) (1 - c*2) (tx x))) tNk/\Below w.heap.size w wr)) (fun _ xv _=>4 - (intOf xv).toNat)
 case atStart=>exact ⟨0,by omega,rfl,by show Value.int .i64 (k:Int)=.int .i64 ((k:Int) - ((0:Nat):Int)); rw [show ((0:Nat):Int)=0 from rfl,Int.sub_zero],by show At _ _ (ic (fst k (1 - a*2) (1 - c*2) 0)) _; rw [HS.out]; exact HA.out,HB.out _⟩
 case round =>
  obtain ⟨x,hx,rfl,rfl,HR⟩:=hrel
  rcases (show x=0 \/ x=1 \/ x=2 \/ x=3 \/ x=4 by omega) with rfl | rfl | rfl | rfl | rfl
  ·have hx4:(0:Nat) < 4:=by omega
   obtain ⟨w4,rfl⟩:∃ w4,w4=wr:=⟨_,rfl⟩
   go_wp2_with fail
   go_loopw [4,6] (fun kv yv wr=>∃ (y:Nat),0+1<=y/\y<=4/\yv=.int .i64 y/\kv=.int .i64 ((k:Int) - ((0+(y - 0 - 1):Nat):Int))/\Hid (At wr w.heap.size (ic (fst k (1 - a*2) (1 - c*2) (0+(y - 0 - 1)))) tNk/\Below w.heap.size w wr)) (fun _ yv _=>4 - (intOf yv).toNat)
   case atStart=>exact ⟨1,by omega,by omega,rfl,rfl,HR.out⟩
   case round =>
    obtain ⟨y,hy1,hy2,rfl,rfl,HQ⟩:=hrel
    by_cases hlt:y < 4
    ·rcases (show y=1 \/ y=2 \/ y=3 by omega) with rfl | rfl | rfl
     ·by_cases hk:k=0
      ·subst hk
       have c0:=HQ.out.1.cell 0
       have c1:=HQ.out.1.cell 1
       have c2:=HQ.out.1.cell 2
       have c3:=HQ.out.1.cell 3
       have cf:=HQ.out.1.free
       have hbl:=HQ.out.1.lt
       have e00:fst 0 (1 - a*2) (1 - c*2) 0=[0,0,0,0]:=rfl
       rw [e00] at c0 c1 c2 c3
       simp [ic] at c0 c1 c2 c3
       go_wp2_with fail
       go_roundw
       case rel =>
        refine ⟨1+1,by omega,by omega,rfl,rfl,?_,?_⟩
        ·try rw [HA2.out]
         exact (HQ.out.1.put (px 0) (.int .i64 (1 - a*2))).put (py 0) (.int .i64 (1 - c*2))
        ·exact (HQ.out.2.setCell (by show w.heap.size<=w.heap.size; omega) _).setCell (by show w.heap.size<=w.heap.size; omega) _
       case measure=>simp [intOf]
      ·have hkb:((k:Int) - 0 == 0)=false:=by rw [beq_eq_false_iff_ne]; omega
       have HE:Hid (fst k (1 - a*2) (1 - c*2) (0+1)=fst k (1 - a*2) (1 - c*2) 0):=by
        show fst _ _ _ _=_
        unfold fst
        by_cases q:k < 0
        ·rw [if_pos q,if_pos (by omega)]
        ·rw [if_neg q,if_neg (by omega)]
       go_wp2_with fail
       go_roundw
       case rel =>
        refine ⟨1+1,by omega,by omega,rfl,?_,?_,HQ.out.2⟩
        ·first | rfl | (congr 1; omega) | (congr 1; simp; omega)
        ·show At _ _ (ic (fst k (1 - a*2) (1 - c*2) (0+1))) _
         rw [HE.out]; exact HQ.out.1
       case measure=>simp [intOf]
     ·by_cases hk:k=1
      ·subst hk
       have c0:=HQ.out.1.cell 0
       have c1:=HQ.out.1.cell 1
       have c2:=HQ.out.1.cell 2
       have c3:=HQ.out.1.cell 3
       have cf:=HQ.out.1.free
       have hbl:=HQ.out.1.lt
       have e00:fst 1 (1 - a*2) (1 - c*2) 1=[0,0,0,0]:=rfl
       rw [e00] at c0 c1 c2 c3
       simp [ic] at c0 c1 c2 c3
       go_wp2_with fail
       go_roundw
       case rel =>
        refine ⟨2+1,by omega,by omega,rfl,rfl,?_,?_⟩
        ·try rw [HA2.out]
         exact (HQ.out.1.put (px 1) (.int .i64 (1 - a*2))).put (py 1) (.int .i64 (1 - c*2))
        ·exact (HQ.out.2.setCell (by show w.heap.size<=w.heap.size; omega) _).setCell (by show w.heap.size<=w.heap.size; omega) _
       case measure=>simp [intOf]
      ·have hkb:((k:Int) - 1 == 0)=false:=by rw [beq_eq_false_iff_ne]; omega
       have HE:Hid (fst k (1 - a*2) (1 - c*2) (1+1)=fst k (1 - a*2) (1 - c*2) 1):=by
        show fst _ _ _ _=_
        unfold fst
        by_cases q:k < 1
        ·rw [if_pos q,if_pos (by omega)]
        ·rw [if_neg q,if_neg (by omega)]
       go_wp2_with fail
       go_roundw
       case rel =>
        refine ⟨2+1,by omega,by omega,rfl,?_,?_,HQ.out.2⟩
        ·first | rfl | (congr 1; omega) | (congr 1; simp; omega)
        ·show At _ _ (ic (fst k (1 - a*2) (1 - c*2) (1+1))) _
         rw [HE.out]; exact HQ.out.1
       case measure=>simp [intOf]
     ·by_cases hk:k=2
      ·subst hk
       have c0:=HQ.out.1.cell 0
       have c1:=HQ.out.1.cell 1
       have c2:=HQ.out.1.cell 2
       have c3:=HQ.out.1.cell 3
       have cf:=HQ.out.1.free
       have hbl:=HQ.out.1.lt
       have e00:fst 2 (1 - a*2) (1 - c*2) 2=[0,0,0,0]:=rfl
       rw [e00] at c0 c1 c2 c3
       simp [ic] at c0 c1 c2 c3
       go_wp2_with fail
       go_roundw
       case rel =>
        refine ⟨3+1,by omega,by omega,rfl,rfl,?_,?_⟩
        ·try rw [HA2.out]
         exact (HQ.out.1.put (px 2) (.int .i64 (1 - a*2))).put (py 2) (.int .i64 (1 - c*2))
        ·exact (HQ.out.2.setCell (by show w.heap.size<=w.heap.size; omega) _).setCell (by show w.heap.size<=w.heap.size; omega) _
       case measure=>simp [intOf]
      ·have hkb:((k:Int) - 2 == 0)=false:=by rw [beq_eq_false_iff_ne]; omega
       have HE:Hid (fst k (1 - a*2) (1 - c*2) (2+1)=fst k (1 - a*2) (1 - c*2) 2):=by
        show fst _ _ _ _=_
        unfold fst
        by_cases q:k < 2
        ·rw [if_pos q,if_pos (by omega)]
        ·rw [if_neg q,if_neg (by omega)]
       go_wp2_with fail
       go_roundw
       case rel =>
        refine ⟨3+1,by omega,by omega,rfl,?_,?_,HQ.out.2⟩
        ·first | rfl | (congr 1; omega) | (congr 1; simp; omega)
        ·show At _ _ (ic (fst k (1 - a*2) (1 - c*2) (2+1))) _
         rw [HE.out]; exact HQ.out.1
       case measure=>simp [intOf]
    ·have hy4:y=4:=by omega
     subst hy4
     go_wp2_with fail
     go_roundw
     case rel=>exact ⟨0+1,by omega,rfl,rfl,HQ.out⟩
     case measure=>simp [intOf]
  ·have hx4:(1:Nat) < 4:=by omega
   obtain ⟨w4,rfl⟩:∃ w4,w4=wr:=⟨_,rfl⟩
   go_wp2_with fail
   go_loopw [4,6] (fun kv yv wr=>∃ (y:Nat),1+1<=y/\y<=4/\yv=.int .i64 y/\kv=.int .i64 ((k:Int) - ((3+(y - 1 - 1):Nat):Int))/\Hid (At wr w.heap.size (ic (fst k (1 - a*2) (1 - c*2) (3+(y - 1 - 1)))) tNk/\Below w.heap.size w wr)) (fun _ yv _=>4 - (intOf yv).toNat)
   case atStart=>exact ⟨2,by omega,by omega,rfl,rfl,HR.out⟩
   case round =>
    obtain ⟨y,hy1,hy2,rfl,rfl,HQ⟩:=hrel
    by_cases hlt:y < 4
    ·rcases (show y=2 \/ y=3 by omega) with rfl | rfl
     ·by_cases hk:k=3
      ·subst hk
       have c0:=HQ.out.1.cell 0
       have c1:=HQ.out.1.cell 1
       have c2:=HQ.out.1.cell 2
       have c3:=HQ.out.1.cell 3
       have cf:=HQ.out.1.free
       have hbl:=HQ.out.1.lt
       have e00:fst 3 (1 - a*2) (1 - c*2) 3=[0,0,0,0]:=rfl
       rw [e00] at c0 c1 c2 c3
       simp [ic] at c0 c1 c2 c3
       go_wp2_with fail
       go_roundw
       case rel =>
        refine ⟨2+1,by omega,by omega,rfl,rfl,?_,?_⟩
        ·try rw [HA2.out]
         exact (HQ.out.1.put (px 3) (.int .i64 (1 - a*2))).put (py 3) (.int .i64 (1 - c*2))
        ·exact (HQ.out.2.setCell (by show w.heap.size<=w.heap.size; omega) _).setCell (by show w.heap.size<=w.heap.size; omega) _
       case measure=>simp [intOf]
      ·have hkb:((k:Int) - 3 == 0)=false:=by rw [beq_eq_false_iff_ne]; omega
       have HE:Hid (fst k (1 - a*2) (1 - c*2) (3+1)=fst k (1 - a*2) (1 - c*2) 3):=by
        show fst _ _ _ _=_
        unfold fst
        by_cases q:k < 3
        ·rw [if_pos q,if_pos (by omega)]
        ·rw [if_neg q,if_neg (by omega)]
       go_wp2_with fail
       go_roundw
       case rel =>
        refine ⟨2+1,by omega,by omega,rfl,?_,?_,HQ.out.2⟩
        ·first | rfl | (congr 1; omega) | (congr 1; simp; omega)
        ·show At _ _ (ic (fst k (1 - a*2) (1 - c*2) (3+1))) _
         rw [HE.out]; exact HQ.out.1
       case measure=>simp [intOf]
     ·by_cases hk:k=4
      ·subst hk
       have c0:=HQ.out.1.cell 0
       have c1:=HQ.out.1.cell 1
       have c2:=HQ.out.1.cell 2
       have c3:=HQ.out.1.cell 3
       have cf:=HQ.out.1.free
       have hbl:=HQ.out.1.lt
       have e00:fst 4 (1 - a*2) (1 - c*2) 4=[0,0,0,0]:=rfl
       rw [e00] at c0 c1 c2 c3
       simp [ic] at c0 c1 c2 c3
       go_wp2_with fail
       go_roundw
       case rel =>
        refine ⟨3+1,by omega,by omega,rfl,rfl,?_,?_⟩
        ·try rw [HA2.out]
         exact (HQ.out.1.put (px 4) (.int .i64 (1 - a*2))).put (py 4) (.int .i64 (1 - c*2))
        ·exact (HQ.out.2.setCell (by show w.heap.size<=w.heap.size; omega) _).setCell (by show w.heap.size<=w.heap.size; omega) _
       case measure=>simp [intOf]
      ·have hkb:((k:Int) - 4 == 0)=false:=by rw [beq_eq_false_iff_ne]; omega
       have HE:Hid (fst k (1 - a*2) (1 - c*2) (4+1)=fst k (1 - a*2) (1 - c*2) 4):=by
        show fst _ _ _ _=_
        unfold fst
        by_cases q:k < 4
        ·rw [if_pos q,if_pos (by omega)]
        ·rw [if_neg q,if_neg (by omega)]
       go_wp2_with fail
       go_roundw
       case rel =>
        refine ⟨3+1,by omega,by omega,rfl,?_,?_,HQ.out.2⟩
        ·first | rfl | (congr 1; omega) | (congr 1; simp; omega)
        ·show At _ _ (ic (fst k (1 - a*2) (1 - c*2) (4+1))) _
         rw [HE.out]; exact HQ.out.1
       case measure=>simp [intOf]
    ·have hy4:y=4:=by omega
     subst hy4
     go_wp2_with fail
     go_roundw
     case rel=>exact ⟨1+1,by omega,rfl,rfl,HQ.out⟩
     case measure=>simp [intOf]
  ·have hx4:(2:Nat) < 4:=by omega
   obtain ⟨w4,rfl⟩:∃ w4,w4=wr:=⟨_,rfl⟩
   go_wp2_with fail
   go_loopw [4,6] (fun kv yv wr=>∃ (y:Nat),2+1<=y/\y<=4/\yv=.int .i64 y/\kv=.int .i64 ((k:Int) - ((5+(y - 2 - 1):Nat):Int))/\Hid (At wr w.heap.size (ic (fst k (1 - a*2) (1 - c*2) (5+(y - 2 - 1)))) tNk/\Below w.heap.size w wr)) (fun _ yv _=>4 - (intOf yv).toNat)
   case atStart=>exact ⟨3,by omega,by omega,rfl,rfl,HR.out⟩
   case round =>
    obtain ⟨y,hy1,hy2,rfl,rfl,HQ⟩:=hrel
    by_cases hlt:y < 4
    ·obtain rfl:y=3:=by omega
     by_cases hk:k=5
     ·subst hk
      have c0:=HQ.out.1.cell 0
      have c1:=HQ.out.1.cell 1
      have c2:=HQ.out.1.cell 2
      have c3:=HQ.out.1.cell 3
      have cf:=HQ.out.1.free
      have hbl:=HQ.out.1.lt
      have e00:fst 5 (1 - a*2) (1 - c*2) 5=[0,0,0,0]:=rfl
      rw [e00] at c0 c1 c2 c3
      simp [ic] at c0 c1 c2 c3
      go_wp2_with fail
      go_roundw
      case rel =>
       refine ⟨3+1,by omega,by omega,rfl,rfl,?_,?_⟩
       ·try rw [HA2.out]
        exact (HQ.out.1.put (px 5) (.int .i64 (1 - a*2))).put (py 5) (.int .i64 (1 - c*2))
       ·exact (HQ.out.2.setCell (by show w.heap.size<=w.heap.size; omega) _).setCell (by show w.heap.size<=w.heap.size; omega) _
      case measure=>simp [intOf]
     ·have hkb:((k:Int) - 5 == 0)=false:=by rw [beq_eq_false_iff_ne]; omega
      have HE:Hid (fst k (1 - a*2) (1 - c*2) (5+1)=fst k (1 - a*2) (1 - c*2) 5):=by
       show fst _ _ _ _=_
       unfold fst
       by_cases q:k < 5
       ·rw [if_pos q,if_pos (by omega)]
       ·rw [if_neg q,if_neg (by omega)]
      go_wp2_with fail
      go_roundw
      case rel =>
       refine ⟨3+1,by omega,by omega,rfl,?_,?_,HQ.out.2⟩
       ·first | rfl | (congr 1; omega) | (congr 1; simp; omega)
       ·show At _ _ (ic (fst k (1 - a*2) (1 - c*2) (5+1))) _
        rw [HE.out]; exact HQ.out.1
      case measure=>simp [intOf]
    ·have hy4:y=4:=by omega
     subst hy4
     go_wp2_with fail
     go_roundw
     case rel=>exact ⟨2+1,by omega,rfl,rfl,HQ.out⟩
     case measure=>simp [intOf]
  ·have hx4:(3:Nat) < 4:=by omega
   obtain ⟨w4,rfl⟩:∃ w4,w4=wr:=⟨_,rfl⟩
   go_wp2_with fail
   go_loopw [4,6] (fun kv yv wr=>∃ (y:Nat),3+1<=y/\y<=4/\yv=.int .i64 y/\kv=.int .i64 ((k:Int) - ((6+(y - 3 - 1):Nat):Int))/\Hid (At wr w.heap.size (ic (fst k (1 - a*2) (1 - c*2) (6+(y - 3 - 1)))) tNk/\Below w.heap.size w wr)) (fun _ yv _=>4 - (intOf yv).toNat)
   case atStart=>exact ⟨4,by omega,by omega,rfl,rfl,HR.out⟩
   case round =>
    obtain ⟨y,hy1,hy2,rfl,rfl,HQ⟩:=hrel
    have hy4:y=4:=by omega
    subst hy4
    go_wp2_with fail
    go_roundw
    case rel=>exact ⟨3+1,by omega,rfl,rfl,HQ.out⟩
    case measure=>simp [intOf]
  ·go_wp2_with fail
   go_ret
   exact ⟨rfl,by rw [HF.out]; exact HR.out.1,HR.out.2⟩
end Go.Proofs.YtffajooegiempaaGreatDoor

namespace Go.Proofs.YtffajooegiempaaGreatDoor
open Go.RowKit
variable {w:World}
def cO (v:List Int):Nat->Nat
 | 0=>0
 | i+1=>cO v i+(if gAt v i=1 \/ gAt v i=-1 then 1 else 0)
def cT (v:List Int):Nat->Nat
 | 0=>0
 | i+1=>cT v i+(if gAt v i=2 \/ gAt v i=-2 then 1 else 0)
theorem four_of {l:List Int} (h:l.length=4):∃ a b c d,l=[a,b,c,d]:=by
 match l,h with
 | [a,b,c,d],_=>exact ⟨a,b,c,d,rfl⟩
theorem bool_or_if (x y z:Int):(if (x == y || x == z)=true then 1 else 0:Nat)=if x=y \/ x=z then 1 else 0:=by
 simp only [Bool.or_eq_true,beq_iff_eq]
theorem onesV_c {l:List Int} (h:l.length=4):onesV l=cO l 4:=by
 obtain ⟨a,b,c,d,rfl⟩:=four_of h
 simp only [onesV,List.countP_cons,List.countP_nil,cO,gAt,List.getD_cons_zero,List.getD_cons_succ,bool_or_if]
 omega
theorem twosV_c {l:List Int} (h:l.length=4):twosV l=cT l 4:=by
 obtain ⟨a,b,c,d,rfl⟩:=four_of h
 simp only [twosV,List.countP_cons,List.countP_nil,cT,gAt,List.getD_cons_zero,List.getD_cons_succ,bool_or_if]
 omega
def preH (l:List Int):Nat->List Int
 | 0=>[0,0,0,0]
 | j+1=>(preH l j).set j ((gAt l j).tdiv 2)
theorem preH_4 {l:List Int} (h:l.length=4):preH l 4=halfV l:=by
 obtain ⟨a,b,c,d,rfl⟩:=four_of h
 rfl
theorem floor2 (c:Int):(c.tmod 2 < 0->c / 2=c.tdiv 2 - 1)/\(¬ c.tmod 2 < 0->c / 2=c.tdiv 2):=by
 have h:=Int.tmod_def c 2
 have t:=tdiv2 c
 rcases Int.lt_or_le c 0 with e | e
 ·have:=t.2 e; constructor <;> intro _ <;> omega
 ·have:=t.1 e; constructor <;> intro _ <;> omega
theorem ret2_eq {a b c d:Int} (h:a=c) (k:b=d):Ending.returned (.tuple #[.int .i64 a,.int .i64 b])=.returned (.tuple #[.int .i64 c,.int .i64 d]):=by rw [h,k]
theorem r_follow (u:Value) (l:List Int) (hl:l.length=4) (hu:Reads w u l) (hv:∀ i,i < 4->-2<=gAt l i/\gAt l i<=2) (c:Int) (hc:-4000000000000000000<=c/\c<=4000000000000000000) :
  Calls Tryz.prog 129 #[u,.int .i64 c] w fun e w'=>e=.returned (.tuple #[.int .i64 (folV l c).1,.int .i64 (folV l c).2])/\Below w.heap.size w w':=by
 have hmk:∀ w,(Instr.makeSlice 32 (.int .i64 4) (.int .i64 4)).run Tryz.prog w=.ok (.slice (some ⟨w.heap.size,0,none⟩) 4 4) (w.alloc (.cells #[.int .i64 0,.int .i64 0,.int .i64 0,.int .i64 0] tNk)):=fun _=>by kernel_rfl
 have HN1:Hid (∀ w1,Below w.heap.size w w1->Calls Tryz.prog 98 #[u] w1 fun e w'=>e=.returned (.int .i64 (numV l))/\Below w1.heap.size w1 w'):=fun w1 hb=>r_number u l hl (hu.keep hb) (fun i hi=>by have:=hv i hi; omega)
 have HN2:Hid (∀ w1,At w1 w.heap.size (ic (preH l 4)) tNk->Calls Tryz.prog 98 #[.slice (some ⟨w.heap.size,0,none⟩) 4 4] w1 fun e w'=>e=.returned (.int .i64 (numV (halfV l)))/\Below w1.heap.size w1 w'):=by
  intro w1 h1
  rw [preH_4 hl] at h1
  have hh:(halfV l).length=4:=by unfold halfV; rw [List.length_map]; exact hl
  refine r_number _ (halfV l) hh (Reads.at_ h1 hh (Nat.le_refl _) (fun i hi=>ic_get _ _ (by omega))) (fun i hi=>?_)
  have:gAt (halfV l) i=(gAt l i).tdiv 2:=by
   obtain ⟨a,b,c,d,rfl⟩:=four_of hl
   rcases (show i=0 \/ i=1 \/ i=2 \/ i=3 by omega) with rfl | rfl | rfl | rfl <;> rfl
  rw [this]
  have:=tdiv2_le (gAt l i)
  have:=hv i hi
  omega
 have HK:Hid (onesV l=cO l 4/\twosV l=cT l 4):=⟨onesV_c hl,twosV_c hl⟩
 have hfl:=floor2 c
 have HFl:Hid (_/\_):=hfl
 clear hfl
 obtain ⟨c0,c1⟩:=hc
 have tc:=tdiv2_le c
 obtain ⟨au,cu,rfl,hcu,h0⟩:=hu
 obtain ⟨p,off,rfl,hp,hcell⟩:=h0 (by omega)
 have HC:Hid (∀ i,i < 4->w.cell? ⟨p,off+i,none⟩=some (.int .i64 (gAt l i))):=fun i hi=>hcell i (by omega)
 have HL:Hid (l.length=4):=hl
 rw [hl] at HN1 |-
 have HA:Hid (At (w.alloc (.cells #[.int .i64 0,.int .i64 0,.int .i64 0,.int .i64 0] tNk)) w.heap.size (ic [0,0,0,0]) tNk):=At.new _ _ _
 have HB:Hid (∀ o,Below w.heap.size w (w.alloc o)):=fun o=>(Below.refl _ _).alloc (Nat.le_refl _) _
 clear h0 hcell hcu hl
 go_enter Tryz.func129,Tryz.ntmps129
 go_wp2_with fail
 go_loopw [6,7,8] (fun ov tv i wr=>∃ (j:Nat) (o t:Int),j<=4/\ov=.int .i64 o/\tv=.int .i64 t/\i=.int .i64 j/\wr=w/\Hid (o=((cO l j:Nat):Int)/\t=((cT l j:Nat):Int))/\0<=o/\o<=(j:Int)/\0<=t/\t<=(j:Int)) (fun _ _ i _=>4 - (intOf i).toNat)
 case atStart=>exact ⟨0,0,0,by omega,rfl,rfl,rfl,rfl,⟨rfl,rfl⟩,by omega,by omega,by omega,by omega⟩
 case round =>
  obtain ⟨j,o,t,hj,rfl,rfl,rfl,hw,HR,o0,o1,t0,t1⟩:=hrel
  replace hw:=hw.symm
  subst hw
  by_cases hlt:j < 4
  ·have hji:(j:Int) < 4:=by omega
   have cx:=HC.out j hlt
   have hx:=hv j hlt
   obtain ⟨a,ha⟩:∃ a,a=gAt l j:=⟨_,rfl⟩
   have HG:Hid (gAt l j=a):=ha.symm
   rw [<- ha] at cx hx
   clear ha
   rcases (show a=-2 \/ a=-1 \/ a=0 \/ a=1 \/ a=2 by omega) with e | e | e | e | e
   ·subst e
    have HS:Hid (cO l (j+1)=cO l j+0/\cT l (j+1)=cT l j+1):=by
     refine ⟨?_,?_⟩
     ·show cO l j+_=_
      rw [HG.out]; rfl
     ·show cT l j+_=_
      rw [HG.out]; rfl
    go_wp2_with fail
    go_roundw
    case rel=>exact ⟨j+1,o+0,t+1,by omega,by first | rfl | (congr 1; omega),by first | rfl | (congr 1; omega),by go_num,by simp,⟨by rw [HS.out.1,HR.out.1]; simp,by rw [HS.out.2,HR.out.2]; simp⟩,by omega,by omega,by omega,by omega⟩
    case measure=>simp [intOf]; omega
   ·subst e
    have HS:Hid (cO l (j+1)=cO l j+1/\cT l (j+1)=cT l j+0):=by
     refine ⟨?_,?_⟩
     ·show cO l j+_=_
      rw [HG.out]; rfl
     ·show cT l j+_=_
      rw [HG.out]; rfl
    go_wp2_with fail
    go_roundw
    case rel=>exact ⟨j+1,o+1,t+0,by omega,by first | rfl | (congr 1; omega),by first | rfl | (congr 1; omega),by go_num,by simp,⟨by rw [HS.out.1,HR.out.1]; simp,by rw [HS.out.2,HR.out.2]; simp⟩,by omega,by omega,by omega,by omega⟩
    case measure=>simp [intOf]; omega
   ·subst e
    have HS:Hid (cO l (j+1)=cO l j+0/\cT l (j+1)=cT l j+0):=by
     refine ⟨?_,?_⟩
     ·show cO l j+_=_
      rw [HG.out]; rfl
     ·show cT l j+_=_
      rw [HG.out]; rfl
    go_wp2_with fail
    go_roundw
    case rel=>exact ⟨j+1,o+0,t+0,by omega,by first | rfl | (congr 1; omega),by first | rfl | (congr 1; omega),by go_num,by simp,⟨by rw [HS.out.1,HR.out.1]; simp,by rw [HS.out.2,HR.out.2]; simp⟩,by omega,by omega,by omega,by omega⟩
    case measure=>simp [intOf]; omega
   ·subst e
    have HS:Hid (cO l (j+1)=cO l j+1/\cT l (j+1)=cT l j+0):=by
     refine ⟨?_,?_⟩
     ·show cO l j+_=_
      rw [HG.out]; rfl
     ·show cT l j+_=_
      rw [HG.out]; rfl
    go_wp2_with fail
    go_roundw
    case rel=>exact ⟨j+1,o+1,t+0,by omega,by first | rfl | (congr 1; omega),by first | rfl | (congr 1; omega),by go_num,by simp,⟨by rw [HS.out.1,HR.out.1]; simp,by rw [HS.out.2,HR.out.2]; simp⟩,by omega,by omega,by omega,by omega⟩
    case measure=>simp [intOf]; omega
   ·subst e
    have HS:Hid (cO l (j+1)=cO l j+0/\cT l (j+1)=cT l j+1):=by
     refine ⟨?_,?_⟩
     ·show cO l j+_=_
      rw [HG.out]; rfl
     ·show cT l j+_=_
      rw [HG.out]; rfl
    go_wp2_with fail
    go_roundw
    case rel=>exact ⟨j+1,o+0,t+1,by omega,by first | rfl | (congr 1; omega),by first | rfl | (congr 1; omega),by go_num,by simp,⟨by rw [HS.out.1,HR.out.1]; simp,by rw [HS.out.2,HR.out.2]; simp⟩,by omega,by omega,by omega,by omega⟩
    case measure=>simp [intOf]; omega
  ·have hj4:j=4:=by omega
   subst hj4
   have HO:Hid (o=((onesV l:Nat):Int)/\t=((twosV l:Nat):Int)):=⟨by rw [HK.out.1]; exact HR.out.1,by rw [HK.out.2]; exact HR.out.2⟩
   have HKd:Hid (kd l=if onesV l=0/\twosV l=0 then 1 else if onesV l=0/\twosV l=1 then 2 else if twosV l=0/\0 < onesV l/\onesV l < 3 then 3 else 0):=rfl
   have HFo:Hid (folV l c=if kd l=1/\c < 0 then (-2,0) else if kd l=2 then (numV (halfV l),c / 2) else if kd l=3 then (numV l,c) else (-1,0)):=rfl
   clear HR HK
   by_cases eo:o=0
   ·by_cases et:t=0
    ·have hk:kd l=1:=by rw [HKd.out,if_pos (by have:=HO.out; omega)]
     by_cases ec:c < 0
     ·have HF:Hid (folV l c=(-2,0)):=by show folV l c=_; rw [HFo.out,if_pos ⟨hk,ec⟩]
      subst eo et
      clear hk HKd HFo HO
      go_wp2_with fail
      go_ret2
      exact ⟨by rw [HF.out]; rfl,Below.refl _ _⟩
     ·have HF:Hid (folV l c=(-1,0)):=by show folV l c=_; rw [HFo.out,if_neg (fun z=>ec z.2),hk,if_neg (by decide),if_neg (by decide)]
      subst eo et
      clear hk HKd HFo HO
      go_wp2_with fail
      go_ret2
      exact ⟨by rw [HF.out]; rfl,Below.refl _ _⟩
    ·by_cases et1:t=1
     ·have hk:kd l=2:=by rw [HKd.out,if_neg (by have:=HO.out; omega),if_pos (by have:=HO.out; omega)]
      have HF:Hid (folV l c=(numV (halfV l),c / 2)):=by show folV l c=_; rw [HFo.out,hk,if_neg (fun z=>absurd z.1 (by decide)),if_pos rfl]
      subst eo et1
      clear hk HKd HFo HO et
      go_wp2_with fail
      go_loopw [10] (fun i wr=>∃ (j:Nat),j<=4/\i=.int .i64 j/\Hid (At wr w.heap.size (ic (preH l j)) tNk/\Below w.heap.size w wr)) (fun i _=>4 - (intOf i).toNat)
      case atStart=>exact ⟨0,by omega,rfl,HA.out,HB.out _⟩
      case round =>
       obtain ⟨k,hk,rfl,HQ⟩:=hrel
       have hlen:(preH l k).length=4:=by
        rcases (show k=0 \/ k=1 \/ k=2 \/ k=3 \/ k=4 by omega) with rfl | rfl | rfl | rfl | rfl <;> rfl
       rcases (show k=0 \/ k=1 \/ k=2 \/ k=3 \/ k=4 by omega) with rfl | rfl | rfl | rfl | rfl
       ·have c0:=HQ.out.1.cell 0
        rw [ic_get _ _ (by rw [hlen]; omega)] at c0
        have cf:=HQ.out.1.free
        have hbl:=HQ.out.1.lt
        have a0:=(HQ.out.2.cell (B:=w.heap.size) (p:=⟨p,off+0,none⟩) hp).trans (HC.out 0 (by omega))
        have hx:=hv 0 (by omega)
        have ta:=tdiv2_le (gAt l 0)
        have HP:Hid (preH l (0+1)=(preH l 0).set 0 ((gAt l 0).tdiv 2)):=rfl
        try rw [Nat.add_zero] at a0
        generalize gAt l 0=x at *
        generalize preH l 0=y at *
        go_wp2_with fail
        go_roundw
        case rel =>
         refine ⟨0+1,by omega,rfl,?_,HQ.out.2.setCell (by show w.heap.size<=w.heap.size; omega) _⟩
         rw [HP.out,<- ic_set]
         exact HQ.out.1.put 0 _
        case measure=>simp [intOf]
       ·have c1:=HQ.out.1.cell 1
        rw [ic_get _ _ (by rw [hlen]; omega)] at c1
        have cf:=HQ.out.1.free
        have hbl:=HQ.out.1.lt
        have a1:=(HQ.out.2.cell (B:=w.heap.size) (p:=⟨p,off+1,none⟩) hp).trans (HC.out 1 (by omega))
        have hx:=hv 1 (by omega)
        have ta:=tdiv2_le (gAt l 1)
        have HP:Hid (preH l (1+1)=(preH l 1).set 1 ((gAt l 1).tdiv 2)):=rfl
        try rw [Nat.add_zero] at a1
        generalize gAt l 1=x at *
        generalize preH l 1=y at *
        go_wp2_with fail
        go_roundw
        case rel =>
         refine ⟨1+1,by omega,rfl,?_,HQ.out.2.setCell (by show w.heap.size<=w.heap.size; omega) _⟩
         rw [HP.out,<- ic_set]
         exact HQ.out.1.put 1 _
        case measure=>simp [intOf]
       ·have c2:=HQ.out.1.cell 2
        rw [ic_get _ _ (by rw [hlen]; omega)] at c2
        have cf:=HQ.out.1.free
        have hbl:=HQ.out.1.lt
        have a2:=(HQ.out.2.cell (B:=w.heap.size) (p:=⟨p,off+2,none⟩) hp).trans (HC.out 2 (by omega))
        have hx:=hv 2 (by omega)
        have ta:=tdiv2_le (gAt l 2)
        have HP:Hid (preH l (2+1)=(preH l 2).set 2 ((gAt l 2).tdiv 2)):=rfl
        try rw [Nat.add_zero] at a2
        generalize gAt l 2=x at *
        generalize preH l 2=y at *
        go_wp2_with fail
        go_roundw
        case rel =>
         refine ⟨2+1,by omega,rfl,?_,HQ.out.2.setCell (by show w.heap.size<=w.heap.size; omega) _⟩
         rw [HP.out,<- ic_set]
         exact HQ.out.1.put 2 _
        case measure=>simp [intOf]
       ·have c3:=HQ.out.1.cell 3
        rw [ic_get _ _ (by rw [hlen]; omega)] at c3
        have cf:=HQ.out.1.free
        have hbl:=HQ.out.1.lt
        have a3:=(HQ.out.2.cell (B:=w.heap.size) (p:=⟨p,off+3,none⟩) hp).trans (HC.out 3 (by omega))
        have hx:=hv 3 (by omega)
        have ta:=tdiv2_le (gAt l 3)
        have HP:Hid (preH l (3+1)=(preH l 3).set 3 ((gAt l 3).tdiv 2)):=rfl
        try rw [Nat.add_zero] at a3
        generalize gAt l 3=x at *
        generalize preH l 3=y at *
        go_wp2_with fail
        go_roundw
        case rel =>
         refine ⟨3+1,by omega,rfl,?_,HQ.out.2.setCell (by show w.heap.size<=w.heap.size; omega) _⟩
         rw [HP.out,<- ic_set]
         exact HQ.out.1.put 3 _
        case measure=>simp [intOf]
       ·clear hlen
        go_wp2_with fail
        refine (HN2.out _ HQ.out.1).mono ?_
        rintro e w3 ⟨rfl,hb3⟩
        have H3:Hid (Below w.heap.size w w3):=HQ.out.2.trans (hb3.mono HQ.out.2.size)
        clear hb3
        by_cases er:c.tmod 2 < 0
        ·have HG:Hid (c / 2=c.tdiv 2 - 1):=HFl.out.1 er
         go_wp2_with fail
         go_ret2
         exact ⟨by rw [HF.out]; exact ret2_eq rfl (by show _=c / 2; rw [HG.out]),H3.out⟩
        ·have HG:Hid (c / 2=c.tdiv 2):=HFl.out.2 (by omega)
         go_wp2_with fail
         go_ret2
         exact ⟨by rw [HF.out]; exact ret2_eq rfl (by show _=c / 2; rw [HG.out]),H3.out⟩
     ·have hk:kd l=0:=by rw [HKd.out,if_neg (by have:=HO.out; omega),if_neg (by have:=HO.out; omega),if_neg (by have:=HO.out; omega)]
      have HF:Hid (folV l c=(-1,0)):=by show folV l c=_; rw [HFo.out,hk,if_neg (fun z=>absurd z.1 (by decide)),if_neg (by decide),if_neg (by decide)]
      have b1:(t == 0)=false:=by simpa using et
      have b2:(t == 1)=false:=by simpa using et1
      subst eo
      clear hk HKd HFo HO et et1
      go_wp2_with fail
      go_ret2
      exact ⟨by rw [HF.out]; rfl,Below.refl _ _⟩
   ·have b0:(o == 0)=false:=by simpa using eo
    by_cases et:t=0
    ·by_cases e3:o < 3
     ·have hk:kd l=3:=by rw [HKd.out,if_neg (by have:=HO.out; omega),if_neg (by have:=HO.out; omega),if_pos (by have:=HO.out; omega)]
      have HF:Hid (folV l c=(numV l,c)):=by show folV l c=_; rw [HFo.out,hk,if_neg (fun z=>absurd z.1 (by decide)),if_neg (by decide),if_pos rfl]
      have hpos:0 < o:=by omega
      subst et
      clear hk HKd HFo HO eo
      go_wp2_with fail
      refine (HN1.out _ (Below.refl _ _)).mono ?_
      rintro e w3 ⟨rfl,hb3⟩
      go_wp2_with fail
      go_ret2
      exact ⟨by rw [HF.out]; exact ret2_eq rfl rfl,hb3⟩
     ·have hk:kd l=0:=by rw [HKd.out,if_neg (by have:=HO.out; omega),if_neg (by have:=HO.out; omega),if_neg (by have:=HO.out; omega)]
      have HF:Hid (folV l c=(-1,0)):=by show folV l c=_; rw [HFo.out,hk,if_neg (fun z=>absurd z.1 (by decide)),if_neg (by decide),if_neg (by decide)]
      have hpos:0 < o:=by omega
      subst et
      clear hk HKd HFo HO eo
      go_wp2_with fail
      go_ret2
      exact ⟨by rw [HF.out]; rfl,Below.refl _ _⟩
    ·have hk:kd l=0:=by rw [HKd.out,if_neg (by have:=HO.out; omega),if_neg (by have:=HO.out; omega),if_neg (by have:=HO.out; omega)]
     have HF:Hid (folV l c=(-1,0)):=by show folV l c=_; rw [HFo.out,hk,if_neg (fun z=>absurd z.1 (by decide)),if_neg (by decide),if_neg (by decide)]
     have b1:(t == 0)=false:=by simpa using et
     clear hk HKd HFo HO eo et
     go_wp2_with fail
     go_ret2
     exact ⟨by rw [HF.out]; rfl,Below.refl _ _⟩
end Go.Proofs.YtffajooegiempaaGreatDoor

