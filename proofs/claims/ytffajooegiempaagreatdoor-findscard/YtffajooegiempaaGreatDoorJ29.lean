import Derived.Test.YtffajooegiempaaGreatDoorJ28
import Derived.Deep.RegionHeld3
import Derived.Deep.MidRow
set_option maxRecDepth 100000
set_option maxHeartbeats 6400000
namespace Go.Proofs.YtffajooegiempaaGreatDoor
open Go.RowKit
variable {w w':World} {g cap:Nat} {F:List Ds}
def twoD (x:Int × Int):Ending:=.returned (.tuple #[.int .i64 x.1,.int .i64 x.2])
theorem d_next_out (ao:Option Addr) (n:Nat) (hn:n<=20) (pt way:Int) (hp:pt < 0 \/ (n:Int)<=pt) (w:World) :
  Calls Tryz.prog 68 #[.agg #[.slice ao n cap],.int .i64 pt,.int .i64 way] w fun e w'=>e=twoD (0,2)/\Below w.heap.size w w':=by
 have HB:Hid (∀ o1,Below w.heap.size w (w.alloc o1)):=fun o1=>(Below.refl _ _).alloc (Nat.le_refl _) _
 have HAt:Hid (∀ w1,Calls Tryz.prog 79 #[.agg #[.slice ao n cap],.int .i64 pt,.int .i64 way] w1 fun e w'=>e=.returned (.tuple #[dsv zDs,.int .i64 2])/\Below w1.heap.size w1 w'):=fun w1=>d_with_out ao n hn pt way hp
 unfold dsv zDs newDs at HAt
 clear hp
 go_enter Tryz.func68,Tryz.ntmps68
 go_wp2_with fail
 refine (HAt.out _).mono ?_
 rintro e w1 ⟨rfl,hb1⟩
 have H1:Hid (Below w.heap.size w w1):=(HB.out _).trans (hb1.mono (by simp))
 have hs1:=H1.out.size
 clear hb1
 go_wp2_with fail
 go_ret2
 exact ⟨rfl,H1.out.alloc hs1 _⟩
theorem d_next_in (h:PRow w g F) (hl:F.length<=20) (hpar:∀ (k:Nat) (x:Ds),F[k]?=some x->-1<=x.parent/\x.parent < (k:Int)) (k:Nat) (hk:k < F.length) (way:Int) :
  Calls Tryz.prog 68 #[.agg #[.slice (some ⟨g,0,none⟩) F.length cap],.int .i64 (k:Int),.int .i64 way] w fun e w'=>e=twoD (nextP F k way)/\Below w.heap.size w w':=by
 have hg:=h.1
 have hki:(k:Int) < (F.length:Int):=by omega
 have HP:Hid (PRow w g F):=h
 have HPar:Hid (∀ (k:Nat) (x:Ds),F[k]?=some x->-1<=x.parent/\x.parent < (k:Int)):=hpar
 have HB:Hid (∀ o1,Below w.heap.size w (w.alloc o1)):=fun o1=>(Below.refl _ _).alloc (Nat.le_refl _) _
 have HN:Hid (nextP F k way=if way < 0 \/ waysP (F.getD k (newDs 0 0)).kind<=way then (0,2) else if blocksOf (F.getD k (newDs 0 0)).kind<=way then (followP F 21 k,0) else if firstP F k way ((k:Int)+1) ≠ -1 then (firstP F k way ((k:Int)+1),0) else if (F.getD k (newDs 0 0)).kind=3 then ((k:Int),0) else (followP F 21 k,0)):=by
  show nextP F k way=_
  unfold nextP
  rw [if_neg (by omega),Int.toNat_natCast]
 have HAt:Hid (∀ w1,Below w.heap.size w w1->Calls Tryz.prog 79 #[.agg #[.slice (some ⟨g,0,none⟩) F.length cap],.int .i64 (k:Int),.int .i64 way] w1 fun e w' =>
   e=.returned (.tuple #[dsv (if way < 0 \/ waysP (F.getD k (newDs 0 0)).kind<=way then zDs else F.getD k (newDs 0 0)),.int .i64 (if way < 0 \/ waysP (F.getD k (newDs 0 0)).kind<=way then 2 else 0)])/\Below w1.heap.size w1 w'):=fun w1 hb=>d_with_in (HP.out.keep hb) k hk way
 clear h hpar
 generalize F.getD k (newDs 0 0)=x at *
 by_cases hbad:way < 0 \/ waysP x.kind<=way
 ·have HE:Hid (_=_):=HN.out.trans (if_pos hbad)
  rw [if_pos hbad,if_pos hbad] at HAt
  unfold dsv zDs newDs at HAt
  clear HN hbad
  go_enter Tryz.func68,Tryz.ntmps68
  go_wp2_with fail
  refine (HAt.out _ (HB.out _)).mono ?_
  rintro e w1 ⟨rfl,hb1⟩
  have p1:w1.cell? ⟨w.heap.size,0,none⟩=some (.slice (some ⟨g,0,none⟩) F.length cap):=by
   rw [hb1.cell (p:=⟨w.heap.size,0,none⟩) (by simp)]
   exact World.cell?_alloc_at _ _ _ _ rfl
  have H1:Hid (Below w.heap.size w w1):=(HB.out _).trans (hb1.mono (by simp))
  have hs1:w.heap.size+1<=w1.heap.size:=by have:=hb1.size; simp at this; omega
  have hlt1:w.heap.size < w1.heap.size:=by omega
  have hB:Hid (∀ o1 o2:Obj,Below w.heap.size w ((w1.alloc o1).alloc o2)):=fun o1 o2=>(H1.out.alloc (by omega) _).alloc (by simp; omega) _
  clear hb1
  go_wp2_with fail
  go_ret2
  exact ⟨by rw [HE.out]; rfl,H1.out.alloc (by omega) _⟩
 have HN2:Hid (_=_):=HN.out.trans (if_neg hbad)
 rw [if_neg hbad,if_neg hbad] at HAt
 unfold dsv at HAt
 clear HN hbad
 by_cases hb:blocksOf x.kind<=way
 ·have HE:Hid (_=_):=HN2.out.trans (if_pos hb)
  clear HN2
  go_enter Tryz.func68,Tryz.ntmps68
  go_wp2_with fail
  refine (HAt.out _ (HB.out _)).mono ?_
  rintro e w1 ⟨rfl,hb1⟩
  have p1:w1.cell? ⟨w.heap.size,0,none⟩=some (.slice (some ⟨g,0,none⟩) F.length cap):=by
   rw [hb1.cell (p:=⟨w.heap.size,0,none⟩) (by simp)]
   exact World.cell?_alloc_at _ _ _ _ rfl
  have H1:Hid (Below w.heap.size w w1):=(HB.out _).trans (hb1.mono (by simp))
  have hs1:w.heap.size+1<=w1.heap.size:=by have:=hb1.size; simp at this; omega
  have hlt1:w.heap.size < w1.heap.size:=by omega
  have hB:Hid (∀ o1 o2:Obj,Below w.heap.size w ((w1.alloc o1).alloc o2)):=fun o1 o2=>(H1.out.alloc (by omega) _).alloc (by simp; omega) _
  clear hb1
  go_wp2_with fail
  refine (d_blocks _ _ _ _ _ _ _ _ _ _ _).mono ?_
  rintro e w2 ⟨rfl,o2,rfl⟩
  go_wp2_with fail
  refine (d_following (HP.out.keep (hB.out _ _)) hl HPar.out (k:Int) (by omega) (by omega)).mono ?_
  rintro e w4 ⟨rfl,hb4⟩
  go_wp2_with fail
  go_ret2
  exact ⟨by rw [HE.out]; rfl,(hB.out _ _).trans (hb4.mono (by simp; omega))⟩
 have HN3:Hid (_=_):=HN2.out.trans (if_neg hb)
 clear HN2
 have HFI:Hid (∀ (w2:World) (hP:PRow w2 g F),Calls Tryz.prog 103 #[.agg #[.slice (some ⟨g,0,none⟩) F.length cap],.int .i64 (k:Int),.int .i64 way,.int .i64 ((k:Int)+1)] w2 fun e w'=>e=.returned (.int .i64 (firstP F k way ((k:Int)+1)))/\Below w2.heap.size w2 w'):=fun w2 hP=>d_firstIn (cap:=cap) hP hl k way ((k:Int)+1)
 generalize firstP F k way ((k:Int)+1)=fi at *
 by_cases hfi:fi=-1
 ·subst hfi
  have HN4:Hid (_=_):=HN3.out.trans (if_neg (by decide))
  clear HN3
  by_cases h3:x.kind=3
  ·have HE:Hid (_=_):=HN4.out.trans (if_pos h3)
   clear HN4
   have HK:Hid (x.kind=3):=h3
   clear h3
   go_enter Tryz.func68,Tryz.ntmps68
   go_wp2_with fail
   refine (HAt.out _ (HB.out _)).mono ?_
   rintro e w1 ⟨rfl,hb1⟩
   have p1:w1.cell? ⟨w.heap.size,0,none⟩=some (.slice (some ⟨g,0,none⟩) F.length cap):=by
    rw [hb1.cell (p:=⟨w.heap.size,0,none⟩) (by simp)]
    exact World.cell?_alloc_at _ _ _ _ rfl
   have H1:Hid (Below w.heap.size w w1):=(HB.out _).trans (hb1.mono (by simp))
   have hs1:w.heap.size+1<=w1.heap.size:=by have:=hb1.size; simp at this; omega
   have hlt1:w.heap.size < w1.heap.size:=by omega
   have hB:Hid (∀ o1 o2:Obj,Below w.heap.size w ((w1.alloc o1).alloc o2)):=fun o1 o2=>(H1.out.alloc (by omega) _).alloc (by simp; omega) _
   clear hb1
   go_wp2_with fail
   refine (d_blocks _ _ _ _ _ _ _ _ _ _ _).mono ?_
   rintro e w2 ⟨rfl,o2,rfl⟩
   go_wp2_with fail
   refine (HFI.out _ (HP.out.keep (hB.out _ _))).mono ?_
   rintro e w3 ⟨rfl,hb3⟩
   have hsz3:=hb3.size
   simp at hsz3
   have s0:w3.cell? ⟨w1.heap.size,0,none⟩=some (.int .i64 x.kind):=by
    rw [hb3.cell (p:=⟨w1.heap.size,0,none⟩) (by simp; omega),World.cell?_alloc_past _ _ _ (by simp)]
    exact World.cell?_alloc_at _ _ _ _ rfl
   have p0:w3.cell? ⟨w.heap.size,0,none⟩=some (.slice (some ⟨g,0,none⟩) F.length cap):=by
    rw [hb3.cell (p:=⟨w.heap.size,0,none⟩) (by simp; omega),World.cell?_alloc_past _ _ _ (by simp; omega),World.cell?_alloc_past _ _ _ (by omega)]
    exact p1
   have HB3:Hid (Below w.heap.size w w3):=(hB.out _ _).trans (hb3.mono (by simp; omega))
   clear hb3
   have s0':w3.cell? ⟨w1.heap.size,0,none⟩=some (.int .i64 3):=by rw [s0,HK.out]
   clear s0
   go_wp2_with fail
   go_ret2
   exact ⟨by rw [HE.out]; rfl,HB3.out⟩
  ·have HE:Hid (_=_):=HN4.out.trans (if_neg h3)
   have b3:(x.kind == 3)=false:=by simpa using h3
   clear HN4 h3
   go_enter Tryz.func68,Tryz.ntmps68
   go_wp2_with fail
   refine (HAt.out _ (HB.out _)).mono ?_
   rintro e w1 ⟨rfl,hb1⟩
   have p1:w1.cell? ⟨w.heap.size,0,none⟩=some (.slice (some ⟨g,0,none⟩) F.length cap):=by
    rw [hb1.cell (p:=⟨w.heap.size,0,none⟩) (by simp)]
    exact World.cell?_alloc_at _ _ _ _ rfl
   have H1:Hid (Below w.heap.size w w1):=(HB.out _).trans (hb1.mono (by simp))
   have hs1:w.heap.size+1<=w1.heap.size:=by have:=hb1.size; simp at this; omega
   have hlt1:w.heap.size < w1.heap.size:=by omega
   have hB:Hid (∀ o1 o2:Obj,Below w.heap.size w ((w1.alloc o1).alloc o2)):=fun o1 o2=>(H1.out.alloc (by omega) _).alloc (by simp; omega) _
   clear hb1
   go_wp2_with fail
   refine (d_blocks _ _ _ _ _ _ _ _ _ _ _).mono ?_
   rintro e w2 ⟨rfl,o2,rfl⟩
   go_wp2_with fail
   refine (HFI.out _ (HP.out.keep (hB.out _ _))).mono ?_
   rintro e w3 ⟨rfl,hb3⟩
   have hsz3:=hb3.size
   simp at hsz3
   have s0:w3.cell? ⟨w1.heap.size,0,none⟩=some (.int .i64 x.kind):=by
    rw [hb3.cell (p:=⟨w1.heap.size,0,none⟩) (by simp; omega),World.cell?_alloc_past _ _ _ (by simp)]
    exact World.cell?_alloc_at _ _ _ _ rfl
   have p0:w3.cell? ⟨w.heap.size,0,none⟩=some (.slice (some ⟨g,0,none⟩) F.length cap):=by
    rw [hb3.cell (p:=⟨w.heap.size,0,none⟩) (by simp; omega),World.cell?_alloc_past _ _ _ (by simp; omega),World.cell?_alloc_past _ _ _ (by omega)]
    exact p1
   have HB3:Hid (Below w.heap.size w w3):=(hB.out _ _).trans (hb3.mono (by simp; omega))
   clear hb3
   go_wp2_with fail
   refine (d_following (HP.out.keep HB3.out) hl HPar.out (k:Int) (by omega) (by omega)).mono ?_
   rintro e w4 ⟨rfl,hb4⟩
   go_wp2_with fail
   go_ret2
   exact ⟨by rw [HE.out]; rfl,HB3.out.trans (hb4.mono HB3.out.size)⟩
 ·have HE:Hid (_=_):=HN3.out.trans (if_pos hfi)
  have bf:(fi != -1)=true:=by rw [bne_iff_ne]; exact hfi
  clear HN3 hfi
  go_enter Tryz.func68,Tryz.ntmps68
  go_wp2_with fail
  refine (HAt.out _ (HB.out _)).mono ?_
  rintro e w1 ⟨rfl,hb1⟩
  have p1:w1.cell? ⟨w.heap.size,0,none⟩=some (.slice (some ⟨g,0,none⟩) F.length cap):=by
   rw [hb1.cell (p:=⟨w.heap.size,0,none⟩) (by simp)]
   exact World.cell?_alloc_at _ _ _ _ rfl
  have H1:Hid (Below w.heap.size w w1):=(HB.out _).trans (hb1.mono (by simp))
  have hs1:w.heap.size+1<=w1.heap.size:=by have:=hb1.size; simp at this; omega
  have hlt1:w.heap.size < w1.heap.size:=by omega
  have hB:Hid (∀ o1 o2:Obj,Below w.heap.size w ((w1.alloc o1).alloc o2)):=fun o1 o2=>(H1.out.alloc (by omega) _).alloc (by simp; omega) _
  clear hb1
  go_wp2_with fail
  refine (d_blocks _ _ _ _ _ _ _ _ _ _ _).mono ?_
  rintro e w2 ⟨rfl,o2,rfl⟩
  go_wp2_with fail
  refine (HFI.out _ (HP.out.keep (hB.out _ _))).mono ?_
  rintro e w3 ⟨rfl,hb3⟩
  have hsz3:=hb3.size
  simp at hsz3
  have s0:w3.cell? ⟨w1.heap.size,0,none⟩=some (.int .i64 x.kind):=by
   rw [hb3.cell (p:=⟨w1.heap.size,0,none⟩) (by simp; omega),World.cell?_alloc_past _ _ _ (by simp)]
   exact World.cell?_alloc_at _ _ _ _ rfl
  have p0:w3.cell? ⟨w.heap.size,0,none⟩=some (.slice (some ⟨g,0,none⟩) F.length cap):=by
   rw [hb3.cell (p:=⟨w.heap.size,0,none⟩) (by simp; omega),World.cell?_alloc_past _ _ _ (by simp; omega),World.cell?_alloc_past _ _ _ (by omega)]
   exact p1
  have HB3:Hid (Below w.heap.size w w3):=(hB.out _ _).trans (hb3.mono (by simp; omega))
  clear hb3
  clear s0
  go_wp2_with fail
  go_ret2
  exact ⟨by rw [HE.out]; rfl,HB3.out⟩
end Go.Proofs.YtffajooegiempaaGreatDoor

namespace Go.Proofs.YtffajooegiempaaGreatDoor
open Go.RowKit
variable {w:World} {s:ByteArray}
def allN (f:Nat->Bool):Nat->Bool
 | 0=>true
 | n+1=>allN f n && f n
theorem allN_no {f:Nat->Bool} {n i:Nat} (hi:i < n) (h:f i=false):allN f n=false:=by
 induction n with
 | zero=>cases hi
 | succ n ih =>
  show (allN f n && f n)=false
  rcases Nat.lt_or_ge i n with q | q
  ·rw [ih q]; rfl
  ·rw [show n=i by omega,h,Bool.and_false]
def wayP (F:List Ds) (L:List (Option (List Int))) (k way:Nat):Bool :=
 wiB (poE (cE (atL L k)) (cM (atL L k)) (F.getD k (newDs 0 0)) way) (cE (atL L (nextP F k way).1)) (poM (cE (atL L k)) (cM (atL L k)) (F.getD k (newDs 0 0)) way) (cM (atL L (nextP F k way).1))
def chkP (F:List Ds) (L:List (Option (List Int))) (k:Nat):Int :=
 if sfP (cE (atL L k)) (cM (atL L k)) (F.getD k (newDs 0 0))=false then 6 else if allN (wayP F L k) (waysP (F.getD k (newDs 0 0)).kind).toNat then 0 else 7
theorem next_z (F:List Ds) (k:Nat) (hk:k < F.length) (way:Nat) (h:(way:Int) < waysP (F.getD k (newDs 0 0)).kind):(nextP F k way).2=0:=by
 unfold nextP
 rw [if_neg (by omega),if_neg (by rw [Int.toNat_natCast]; omega)]
 split
 ·rfl
 ·split
  ·rfl
  ·split <;> rfl
theorem ways_rng (x:Int):1<=waysP x/\waysP x<=2:=by
 unfold waysP
 split <;> omega
abbrev tPr:TypeId:=43
def CB (w wr:World) (B7 B9:Nat) (e1:Bool) (M1:Nat->Int) (x:Ds) (pv:Value):Prop:=OAt wr B9 e1 M1/\At wr B7 (dsCells x) tDs/\At wr w.heap.size #[pv] tPr/\Below w.heap.size w wr
theorem CB.keep {wr w':World} {B7 B9:Nat} {e1:Bool} {M1:Nat->Int} {x:Ds} {pv:Value} (h:CB w wr B7 B9 e1 M1 x pv) (hb:Below wr.heap.size wr w'):CB w w' B7 B9 e1 M1 x pv :=
 ⟨At.keep h.1 hb (At.lt h.1),h.2.1.keep hb h.2.1.lt,h.2.2.1.keep hb h.2.2.1.lt,h.2.2.2.trans (hb.mono h.2.2.2.size)⟩
theorem c_checkPoint {g0 cap g k:Nat} {F:List Ds} {L:List (Option (List Int))} (hP:PRow w g0 F) (hl:F.length<=20) (hpar:∀ (k:Nat) (x:Ds),F[k]?=some x->-1<=x.parent/\x.parent < (k:Int)) (hk:k < F.length) (hO:ORow w g L)
  (hx:DsG (F.getD k (newDs 0 0))) (ht:0<=(F.getD k (newDs 0 0)).target/\(F.getD k (newDs 0 0)).target < 4) (hM:∀ j,j < 64->-20000000000<=cM (atL L k) j/\cM (atL L k) j<=1000000) (hS:cE (atL L k)=false->Sh (cM (atL L k))) :
  Calls Tryz.prog 91 #[.agg #[.slice (some ⟨g0,0,none⟩) F.length cap],.slice (some ⟨g,0,none⟩) L.length 21,.int .i64 (k:Int)] w fun e w'=>e=.returned (.int .i64 (chkP F L k))/\Below w.heap.size w w':=by
 have HAt:Hid (∀ w1,Below w.heap.size w w1->Calls Tryz.prog 81 #[.agg #[.slice (some ⟨g0,0,none⟩) F.length cap],.int .i64 (k:Int)] w1 fun e w'=>e=.returned (.tuple #[dsv (F.getD k (newDs 0 0)),.int .i64 0])/\Below w1.heap.size w1 w'):=fun w1 hb=>d_at_in (hP.keep hb) k hk
 have HNx:Hid (∀ w1 (way:Nat),(way:Int) < waysP (F.getD k (newDs 0 0)).kind->Below w.heap.size w w1->Calls Tryz.prog 68 #[.agg #[.slice (some ⟨g0,0,none⟩) F.length cap],.int .i64 (k:Int),.int .i64 (way:Int)] w1 fun e w'=>e=.returned (.tuple #[.int .i64 (nextP F k way).1,.int .i64 0])/\Below w1.heap.size w1 w'):=fun w1 way hw hb=>by
  have:=d_next_in (cap:=cap) (hP.keep hb) hl hpar k hk (way:Int)
  unfold twoD at this
  rw [next_z F k hk way hw] at this
  exact this
 have HCl:Hid (∀ w1 pt,Below w.heap.size w w1->Calls Tryz.prog 90 #[.slice (some ⟨g,0,none⟩) L.length 21,.int .i64 pt] w1 fun e w'=>e=.returned (.agg (oc (cE (atL L pt)) (cM (atL L pt))))/\Below w1.heap.size w1 w'):=fun w1 pt hb=>c_claimAt (hO.keep hb) pt
 have HSf:Hid (∀ w1,Calls Tryz.prog 82 #[dsv (F.getD k (newDs 0 0)),.agg (oc (cE (atL L k)) (cM (atL L k)))] w1 fun e w'=>e=.returned (.bool (sfP (cE (atL L k)) (cM (atL L k)) (F.getD k (newDs 0 0))))/\Below w1.heap.size w1 w'):=fun w1=>e_safe _ hx (fun j hj=>by have:=hM j hj; omega)
 have HPo:Hid (∀ w1 (way:Nat),Calls Tryz.prog 80 #[dsv (F.getD k (newDs 0 0)),.int .i64 (way:Int),.agg (oc (cE (atL L k)) (cM (atL L k)))] w1 fun e w'=>e=.returned (.agg (oc (poE (cE (atL L k)) (cM (atL L k)) (F.getD k (newDs 0 0)) way) (poM (cE (atL L k)) (cM (atL L k)) (F.getD k (newDs 0 0)) way)))/\Below w1.heap.size w1 w'):=fun w1 way=>e_post _ hx ht (way:Int) hM hS
 have HC:Hid (chkP F L k=if sfP (cE (atL L k)) (cM (atL L k)) (F.getD k (newDs 0 0))=false then 6 else if allN (wayP F L k) (waysP (F.getD k (newDs 0 0)).kind).toNat then 0 else 7):=rfl
 have HWi:Hid (∀ way:Nat,wayP F L k way=wiB (poE (cE (atL L k)) (cM (atL L k)) (F.getD k (newDs 0 0)) way) (cE (atL L (nextP F k way).1)) (poM (cE (atL L k)) (cM (atL L k)) (F.getD k (newDs 0 0)) way) (cM (atL L (nextP F k way).1))):=fun way=>rfl
 clear hP hl hpar hO hx ht hM hS hk
 generalize wayP F L k=wp at *
 generalize F.getD k (newDs 0 0)=x at *
 have HCk:=fun w1 hb=>HCl.out w1 (k:Int) hb
 have HCk:Hid (∀ w1,Below w.heap.size w w1->Calls Tryz.prog 90 #[.slice (some ⟨g,0,none⟩) L.length 21,.int .i64 (k:Int)] w1 fun e w'=>e=.returned (.agg (oc (cE (atL L k)) (cM (atL L k))))/\Below w1.heap.size w1 w'):=HCk
 generalize cE (atL L k)=e1 at *
 generalize cM (atL L k)=M1 at *
 have hwr:=ways_rng x.kind
 obtain ⟨n,hn⟩:∃ n:Nat,waysP x.kind=(n:Int):=⟨(waysP x.kind).toNat,by omega⟩
 have HW:Hid (∀ w1,Calls Tryz.prog 111 #[dsv x] w1 fun e w'=>e=.returned (.int .i64 (n:Int))/\Below w1.heap.size w1 w'):=fun w1=>by
  rw [<- hn]
  exact (d_ways _ _ _ _ _ _ _ _ _ _ w1).mono fun e w' ⟨h1,o,h2⟩=>⟨h1,by rw [h2]; exact (Below.refl _ _).alloc (Nat.le_refl _) _⟩
 rw [hn] at HC HNx
 rw [Int.toNat_natCast] at HC
 unfold dsv at HAt HSf HPo HW
 have hn2:n<=2:=by omega
 clear hwr hn
 have hz:=o_zero
 obtain ⟨pv,hpv⟩:∃ pv,pv=Value.slice (some ⟨g0,0,none⟩) F.length cap:=⟨_,rfl⟩
 go_enter Tryz.func91,Tryz.ntmps91
 go_wp2_with fail
 refine (HAt.out _ ((Below.refl _ _).alloc (Nat.le_refl _) _)).mono ?_
 rintro e w1 ⟨rfl,hb1⟩
 have H1:Hid (At w1 w.heap.size #[pv] tPr/\Below w.heap.size w w1):=by rw [hpv]; exact ⟨At.keep (At.new w _ _) hb1 (by simp),((Below.refl _ _).alloc (Nat.le_refl _) _).trans (hb1.mono (by simp))⟩
 have HCk2:Hid (∀ ob,Calls Tryz.prog 90 #[.slice (some ⟨g,0,none⟩) L.length 21,.int .i64 (k:Int)] (w1.alloc ob) fun e w'=>e=.returned (.agg (oc e1 M1))/\Below (w1.alloc ob).heap.size (w1.alloc ob) w'):=fun ob=>HCk.out _ (H1.out.2.alloc H1.out.2.size _)
 clear hb1 HCk
 go_wp2_with fail
 refine (HCk2.out _).mono ?_
 rintro e w2 ⟨rfl,hb2⟩
 obtain ⟨w3,hst3,hat3,hb3,hs3⟩:=o_fresh w2 e1 M1
 have hs2:w1.heap.size+1<=w2.heap.size:=by have:=hb2.size; simpa using this
 have H3:Hid (CB w w3 w1.heap.size w2.heap.size e1 M1 x pv):=by
  have hA2:At w2 w1.heap.size (dsCells x) tDs:=At.keep (At.new w1 (dsCells x) tDs) hb2 (by simp)
  have hA1:At w2 w.heap.size #[pv] tPr:=At.keep (At.allocH H1.out.1 _) hb2 (by have:=H1.out.1.lt; simp; omega)
  have hB2:Below w.heap.size w w2:=(H1.out.2.alloc H1.out.2.size _).trans (hb2.mono (by have:=H1.out.2.size; simp; omega))
  exact ⟨hat3,hA2.keep hb3 hA2.lt,hA1.keep hb3 hA1.lt,hB2.trans (hb3.mono hB2.size)⟩
 clear hb2 hat3 hb3 HCk2
 have y0:w3.cell? ⟨w1.heap.size,0,none⟩=some (.int .i64 x.kind):=(H3.out.2.1).cell 0
 have y1:w3.cell? ⟨w1.heap.size,1,none⟩=some (.int .i64 x.target):=(H3.out.2.1).cell 1
 have y2:w3.cell? ⟨w1.heap.size,2,none⟩=some (.bool x.any):=(H3.out.2.1).cell 2
 have y3:w3.cell? ⟨w1.heap.size,3,none⟩=some (.int .i64 (sgAt x.sg 0)):=(H3.out.2.1).cell 3
 have y4:w3.cell? ⟨w1.heap.size,4,none⟩=some (.int .i64 (sgAt x.sg 1)):=(H3.out.2.1).cell 4
 have y5:w3.cell? ⟨w1.heap.size,5,none⟩=some (.int .i64 (sgAt x.sg 2)):=(H3.out.2.1).cell 5
 have y6:w3.cell? ⟨w1.heap.size,6,none⟩=some (.int .i64 (sgAt x.sg 3)):=(H3.out.2.1).cell 6
 have y7:w3.cell? ⟨w1.heap.size,7,none⟩=some (.int .i64 x.num):=(H3.out.2.1).cell 7
 have y8:w3.cell? ⟨w1.heap.size,8,none⟩=some (.int .i64 x.parent):=(H3.out.2.1).cell 8
 have y9:w3.cell? ⟨w1.heap.size,9,none⟩=some (.int .i64 x.block):=(H3.out.2.1).cell 9
 go_wp2_with (refine wpList_load_o rfl (.tmp 9) rfl rfl H3.out.1 ?_)
 refine (HSf.out w3).mono ?_
 rintro e w4 ⟨rfl,hb4⟩
 have H4:Hid (CB w w4 w1.heap.size w2.heap.size e1 M1 x pv):=H3.out.keep hb4
 clear hb4 HSf y0 y1 y2 y3 y4 y5 y6 y7 y8 y9 H3
 cases hsf:sfP e1 M1 x with
 | false =>
  have HE:Hid (chkP F L k=6):=by show _=_; rw [HC.out,if_pos hsf]
  clear hsf
  go_wp2_with fail
  go_ret
  exact ⟨by rw [HE.out]; rfl,H4.out.2.2.2⟩
 | true =>
  have HE:Hid (chkP F L k=if allN wp n=true then 0 else 7):=by show _=_; rw [HC.out,if_neg (by rw [hsf]; decide)]
  clear hsf HC
  go_wp2_with fail
  go_loopw [10] (fun iv wr=>∃ i:Nat,i<=n/\iv=.int .i64 (i:Int)/\Hid (allN wp i=true/\CB w wr w1.heap.size w2.heap.size e1 M1 x pv)) (fun iv _=>n - (intOf iv).toNat)
  case atStart=>exact ⟨0,by omega,rfl,rfl,H4.out⟩
  case round =>
   obtain ⟨i,hi,rfl,HR⟩:=hrel
   have y0:wr.cell? ⟨w1.heap.size,0,none⟩=some (.int .i64 x.kind):=(HR.out.2.2.1).cell 0
   have y1:wr.cell? ⟨w1.heap.size,1,none⟩=some (.int .i64 x.target):=(HR.out.2.2.1).cell 1
   have y2:wr.cell? ⟨w1.heap.size,2,none⟩=some (.bool x.any):=(HR.out.2.2.1).cell 2
   have y3:wr.cell? ⟨w1.heap.size,3,none⟩=some (.int .i64 (sgAt x.sg 0)):=(HR.out.2.2.1).cell 3
   have y4:wr.cell? ⟨w1.heap.size,4,none⟩=some (.int .i64 (sgAt x.sg 1)):=(HR.out.2.2.1).cell 4
   have y5:wr.cell? ⟨w1.heap.size,5,none⟩=some (.int .i64 (sgAt x.sg 2)):=(HR.out.2.2.1).cell 5
   have y6:wr.cell? ⟨w1.heap.size,6,none⟩=some (.int .i64 (sgAt x.sg 3)):=(HR.out.2.2.1).cell 6
   have y7:wr.cell? ⟨w1.heap.size,7,none⟩=some (.int .i64 x.num):=(HR.out.2.2.1).cell 7
   have y8:wr.cell? ⟨w1.heap.size,8,none⟩=some (.int .i64 x.parent):=(HR.out.2.2.1).cell 8
   have y9:wr.cell? ⟨w1.heap.size,9,none⟩=some (.int .i64 x.block):=(HR.out.2.2.1).cell 9
   have hl7:=HR.out.2.2.1.lt
   go_wp2_with fail
   refine (HW.out wr).mono ?_
   rintro e w5 ⟨rfl,hb5⟩
   have H5:Hid (CB w w5 w1.heap.size w2.heap.size e1 M1 x pv):=HR.out.2.keep hb5
   clear hb5 y0 y1 y2 y3 y4 y5 y6 y7 y8 y9
   by_cases hin:i < n
   ·have hii:(i:Int) < (n:Int):=by omega
    have c3:w5.cell? ⟨w.heap.size,0,none⟩=some (.slice (some ⟨g0,0,none⟩) F.length cap):=by rw [<- hpv]; exact H5.out.2.2.1.cell 0
    have hnx:=HNx.out w5 i hii H5.out.2.2.2
    have HWi2:Hid (wp i=wiB (poE e1 M1 x i) (cE (atL L (nextP F k i).1)) (poM e1 M1 x i) (cM (atL L (nextP F k i).1))):=HWi.out i
    generalize (nextP F k i).1=q at *
    have HCq:Hid (∀ w1,Below w.heap.size w w1->Calls Tryz.prog 90 #[.slice (some ⟨g,0,none⟩) L.length 21,.int .i64 q] w1 fun e w'=>e=.returned (.agg (oc (cE (atL L q)) (cM (atL L q))))/\Below w1.heap.size w1 w'):=fun w1 hb=>HCl.out w1 q hb
    have HPi:Hid _:=fun w1=>HPo.out w1 i
    generalize cE (atL L q)=e3 at *
    generalize cM (atL L q)=M3 at *
    generalize poE e1 M1 x i=e4 at *
    generalize poM e1 M1 x i=M4 at *
    go_wp2_with fail
    refine hnx.mono ?_
    rintro e w6 ⟨rfl,hb6⟩
    have H6:Hid (CB w w6 w1.heap.size w2.heap.size e1 M1 x pv):=H5.out.keep hb6
    clear hb6 hnx c3
    go_wp2_with fail
    refine (HCq.out w6 H6.out.2.2.2).mono ?_
    rintro e w7 ⟨rfl,hb7⟩
    obtain ⟨w8,hst8,hat8,hb8,hs8⟩:=o_fresh w7 e3 M3
    have H8:Hid (OAt w8 w7.heap.size e3 M3/\CB w w8 w1.heap.size w2.heap.size e1 M1 x pv):=⟨hat8,(H6.out.keep hb7).keep hb8⟩
    clear hb7 hat8 hb8
    have y0:w8.cell? ⟨w1.heap.size,0,none⟩=some (.int .i64 x.kind):=(H8.out.2.2.1).cell 0
    have y1:w8.cell? ⟨w1.heap.size,1,none⟩=some (.int .i64 x.target):=(H8.out.2.2.1).cell 1
    have y2:w8.cell? ⟨w1.heap.size,2,none⟩=some (.bool x.any):=(H8.out.2.2.1).cell 2
    have y3:w8.cell? ⟨w1.heap.size,3,none⟩=some (.int .i64 (sgAt x.sg 0)):=(H8.out.2.2.1).cell 3
    have y4:w8.cell? ⟨w1.heap.size,4,none⟩=some (.int .i64 (sgAt x.sg 1)):=(H8.out.2.2.1).cell 4
    have y5:w8.cell? ⟨w1.heap.size,5,none⟩=some (.int .i64 (sgAt x.sg 2)):=(H8.out.2.2.1).cell 5
    have y6:w8.cell? ⟨w1.heap.size,6,none⟩=some (.int .i64 (sgAt x.sg 3)):=(H8.out.2.2.1).cell 6
    have y7:w8.cell? ⟨w1.heap.size,7,none⟩=some (.int .i64 x.num):=(H8.out.2.2.1).cell 7
    have y8:w8.cell? ⟨w1.heap.size,8,none⟩=some (.int .i64 x.parent):=(H8.out.2.2.1).cell 8
    have y9:w8.cell? ⟨w1.heap.size,9,none⟩=some (.int .i64 x.block):=(H8.out.2.2.1).cell 9
    go_wp2_with (refine wpList_load_o rfl (.tmp 9) rfl rfl H8.out.2.1 ?_)
    refine (HPi.out w8).mono ?_
    rintro e w9 ⟨rfl,hb9⟩
    obtain ⟨w10,hst10,hat10,hb10,hs10⟩:=o_fresh w9 e4 M4
    have H10:Hid (OAt w10 w9.heap.size e4 M4/\OAt w10 w7.heap.size e3 M3/\CB w w10 w1.heap.size w2.heap.size e1 M1 x pv):=by
     have h9:OAt w9 w7.heap.size e3 M3:=At.keep H8.out.1 hb9 (At.lt H8.out.1)
     exact ⟨hat10,At.keep h9 hb10 (At.lt h9),(H8.out.2.keep hb9).keep hb10⟩
    clear hb9 hat10 hb10 y0 y1 y2 y3 y4 y5 y6 y7 y8 y9
    go_wp2_with (first | refine wpList_load_o rfl (.tmp 14) rfl rfl H10.out.1 ?_ | refine wpList_load_o rfl (.tmp 13) rfl rfl H10.out.2.1 ?_)
    refine (o_within (w:=w10) (e1:=e4) (e2:=e3) (M:=M4) (N:=M3)).mono ?_
    rintro e w11 ⟨rfl,hb11⟩
    have H11:Hid (CB w w11 w1.heap.size w2.heap.size e1 M1 x pv):=H10.out.2.2.keep hb11
    clear hb11
    cases hwi:wiB e4 e3 M4 M3 with
    | false =>
     have HE7:Hid (chkP F L k=7):=by show _=_; rw [HE.out,if_neg (by rw [allN_no hin (HWi2.out.trans hwi)]; decide)]
     clear hwi
     go_wp2_with fail
     go_ret
     exact ⟨by rw [HE7.out]; rfl,H11.out.2.2.2⟩
    | true =>
     have HE8:Hid (allN wp (i+1)=true):=by show (allN wp i && wp i)=true; rw [HR.out.1,HWi2.out,hwi]; rfl
     clear hwi
     go_wp2_with fail
     go_roundw
     case rel=>exact ⟨i+1,by omega,by go_num,HE8.out,H11.out⟩
     case measure=>simp [intOf]; omega
   ·have hie:i=n:=by omega
    subst hie
    have HE0:Hid (chkP F L k=0):=by show _=_; rw [HE.out,if_pos HR.out.1]
    go_wp2_with fail
    go_ret
    exact ⟨by rw [HE0.out]; rfl,H5.out.2.2.2⟩
end Go.Proofs.YtffajooegiempaaGreatDoor

namespace Go.Proofs.YtffajooegiempaaGreatDoor
open Go.RowKit
structure Pl where
 e:Bool
 M:Nat->Int
 wt:Bool
def p0:Pl:=⟨true,fun _=>0,false⟩
abbrev SS:=List Pl × Bool
def clmS (s:SS) (pt:Int) (e:Bool) (M:Nat->Int):SS :=
 if pt < 0 \/ (s.1.length:Int)<=pt then s
 else if wiB e (s.1.getD pt.toNat p0).e M (s.1.getD pt.toNat p0).M=true then s
 else (s.1.set pt.toNat ⟨joE (s.1.getD pt.toNat p0).e e,joM (s.1.getD pt.toNat p0).e e (s.1.getD pt.toNat p0).M M,true⟩,true)
def wysS (F:List Ds) (k:Nat) (e:Bool) (M:Nat->Int) (s:SS):Nat->SS
 | 0=>s
 | n+1=>clmS (wysS F k e M s n) (nextP F k n).1 (poE e M (F.getD k (newDs 0 0)) n) (poM e M (F.getD k (newDs 0 0)) n)
def flwS (F:List Ds) (k:Nat) (e:Bool) (M:Nat->Int) (s:SS):SS :=
 if k < F.length then (if sfP e M (F.getD k (newDs 0 0))=true then wysS F k e M s (waysP (F.getD k (newDs 0 0)).kind).toNat else s) else s
def pntS (F:List Ds) (k:Nat) (s:SS):SS :=
 if (s.1.getD k p0).wt=true then flwS F k (s.1.getD k p0).e (s.1.getD k p0).M (s.1.set k ⟨(s.1.getD k p0).e,(s.1.getD k p0).M,false⟩,s.2) else s
def rndS (F:List Ds) (s:SS):Nat->SS
 | 0=>(s.1,false)
 | n+1=>pntS F n (rndS F s n)
def itS (F:List Ds):Nat->SS->SS
 | 0,s=>s
 | r+1,s=>if s.2=true then itS F r (rndS F s s.1.length) else s
theorem clmS_len (s:SS) (pt:Int) (e:Bool) (M:Nat->Int):(clmS s pt e M).1.length=s.1.length:=by
 unfold clmS
 split
 ·rfl
 ·split
  ·rfl
  ·simp
theorem wysS_len (F:List Ds) (k:Nat) (e:Bool) (M:Nat->Int) (s:SS):∀ n,(wysS F k e M s n).1.length=s.1.length
 | 0=>rfl
 | n+1=>by rw [wysS,clmS_len,wysS_len F k e M s n]
theorem flwS_len (F:List Ds) (k:Nat) (e:Bool) (M:Nat->Int) (s:SS):(flwS F k e M s).1.length=s.1.length:=by
 unfold flwS
 split
 ·split
  ·exact wysS_len F k e M s _
  ·rfl
 ·rfl
theorem pntS_len (F:List Ds) (k:Nat) (s:SS):(pntS F k s).1.length=s.1.length:=by
 unfold pntS
 split
 ·rw [flwS_len]; simp
 ·rfl
theorem rndS_len (F:List Ds) (s:SS):∀ n,(rndS F s n).1.length=s.1.length
 | 0=>rfl
 | n+1=>by rw [rndS,pntS_len,rndS_len F s n]
def plc (p:Pl):List Value:=(oc p.e p.M).toList ++ [.bool p.wt]
theorem plc_len (p:Pl):(plc p).length=66:=by simp [plc,oc_size]
theorem plc_oc (p:Pl) {k:Nat} (hk:k < 65):(plc p)[k]?=(oc p.e p.M)[k]?:=by
 unfold plc
 rw [List.getElem?_append_left (by simp [oc_size]; omega)]
 simp
theorem plc_wt (p:Pl):(plc p)[65]?=some (.bool p.wt):=by
 unfold plc
 rw [List.getElem?_append_right (by simp [oc_size])]
 simp [oc_size]
abbrev tSe:TypeId:=86
abbrev tPl:TypeId:=128
structure On2 (s g:Nat) (w w':World):Prop where
 os:w'.os=w.os
 tape:w'.tape=w.tape
 output:w'.output=w.output
 size:w.heap.size<=w'.heap.size
 block:∀ k,k < w.heap.size->k ≠ s->k ≠ g->w'.heap[k]?=w.heap[k]?
variable {s g:Nat} {w w' a b c:World}
theorem On2.refl (s g:Nat) (w:World):On2 s g w w:=⟨rfl,rfl,rfl,Nat.le_refl _,fun _ _ _ _=>rfl⟩
theorem On2.trans (h:On2 s g a b) (k:On2 s g b c):On2 s g a c :=
 ⟨k.os.trans h.os,k.tape.trans h.tape,k.output.trans h.output,Nat.le_trans h.size k.size,fun i hi h1 h2=>(k.block i (Nat.lt_of_lt_of_le hi h.size) h1 h2).trans (h.block i hi h1 h2)⟩
theorem On2.of {B:Nat} (h:Below B w w') (hB:w.heap.size<=B) (s g:Nat):On2 s g w w':=⟨h.os,h.tape,h.output,h.size,fun k hk _ _=>h.block k (by omega)⟩
theorem On2.setCell (h:On2 s g a b) {q:Nat} (hq:q=s \/ q=g) (o:Nat) (u:Value):On2 s g a (b.setCell ⟨q,o,none⟩ u) :=
 ⟨h.os,h.tape,h.output,by have:=h.size; simpa [World.setCell] using this,fun k hk h1 h2=>(Below.heap_setCell _ _ _ _ (by show k ≠ q; omega)).trans (h.block k hk h1 h2)⟩
theorem On2.setCells:∀ (vs:List Value) (o:Nat) (b:World),On2 s g a b->On2 s g a (b.setCells g o vs)
 | [],_,_,h=>h
 | _ :: r,o,_,h=>On2.setCells r (o+1) _ (h.setCell (.inr rfl) o _)
theorem On2.below (h:On2 s g a b) {B:Nat} (h1:B<=s) (h2:B<=g) (h3:B<=a.heap.size):Below B a b:=⟨h.os,h.tape,h.output,h.size,fun k hk=>h.block k (by omega) (by omega) (by omega)⟩
theorem On2.at_ {q:Nat} {c:Array Value} {t:TypeId} (h:On2 s g w w') (ha:At w q c t) (h1:q ≠ s) (h2:q ≠ g):At w' q c t:=ha.same (h.block q ha.lt h1 h2)
theorem On2.cell (h:On2 s g w w') {q:Nat} (hq:q < w.heap.size) (h1:q ≠ s) (h2:q ≠ g) (i:Nat):w'.cell? ⟨q,i,none⟩=w.cell? ⟨q,i,none⟩:=World.cell?_of_block (a:=⟨q,i,none⟩) (h.block q hq h1 h2)
theorem At.setCells {t:TypeId}:∀ (vs:List Value) (o:Nat) (C:Array Value) (w:World),At w g C t->∃ C',At (w.setCells g o vs) g C' t/\C'.size=C.size
 | [],_,C,_,h=>⟨C,h,rfl⟩
 | v :: r,o,C,w,h=>by
  obtain ⟨C',h1,h2⟩:=At.setCells r (o+1) _ _ (h.put o v)
  exact ⟨C',h1,by rw [h2]; simp⟩
structure SSt (w:World) (s g:Nat) (pv:Value) (P:SS):Prop where
 sa:At w s #[pv,.slice (some ⟨g,0,none⟩) P.1.length 21,.bool P.2] tSe
 ga:∃ C,At w g C tPl/\P.1.length*66<=C.size
 pl:∀ i k,i < P.1.length->k < 66->w.cell? ⟨g,i*66+k,none⟩=(plc (P.1.getD i p0))[k]?
theorem SSt.ne {pv:Value} {P:SS} (h:SSt w s g pv P):s ≠ g:=by
 obtain ⟨C,h1,_⟩:=h.ga
 exact At.ne h.sa h1 (by decide)
theorem SSt.glt {pv:Value} {P:SS} (h:SSt w s g pv P):g < w.heap.size:=by
 obtain ⟨C,h1,_⟩:=h.ga
 exact h1.lt
theorem SSt.keep {pv:Value} {P:SS} (h:SSt w s g pv P) (hb:Below w.heap.size w w'):SSt w' s g pv P:=by
 obtain ⟨C,h1,h2⟩:=h.ga
 exact ⟨h.sa.keep hb h.sa.lt,⟨C,h1.keep hb h1.lt,h2⟩,fun i k hi hk=>(hb.cell (by exact h1.lt)).trans (h.pl i k hi hk)⟩
theorem SSt.there {pv:Value} {P:SS} (h:SSt w s g pv P) {i:Nat} (hi:i < P.1.length):w.there g (i*66) 65:=by
 obtain ⟨C,h1,h2⟩:=h.ga
 intro j hj
 refine ⟨?_,h1.free _⟩
 rw [h1.cell,Array.getElem?_eq_getElem (show i*66+j < C.size by omega)]
 rfl
theorem SSt.oct {pv:Value} {P:SS} (h:SSt w s g pv P) {i:Nat} (hi:i < P.1.length):w.rangeAt g (i*66) (oc (P.1.getD i p0).e (P.1.getD i p0).M).toList:=by
 intro j v hv
 have hj:j < 65:=by
  rcases Nat.lt_or_ge j 65 with q | q
  ·exact q
  ·rw [List.getElem?_eq_none (by simp [oc_size]; omega)] at hv; cases hv
 rw [h.pl i j hi (by omega),plc_oc _ hj,<- Array.getElem?_toList]
 exact hv
theorem SSt.row {pv:Value} {P:SS} (h:SSt w s g pv P) {i:Nat} (hi:i < P.1.length):w.rangeAt g (i*66) (plc (P.1.getD i p0)):=by
 intro j v hv
 have hj:j < 66:=by
  rcases Nat.lt_or_ge j 66 with q | q
  ·exact q
  ·rw [List.getElem?_eq_none (by rw [plc_len]; omega)] at hv; cases hv
 rw [h.pl i j hi hj]
 exact hv
theorem plset_at {P:List Pl} {k:Nat} (hk:k < P.length) (i:Nat) (p:Pl):(P.set k p).getD i p0=if i=k then p else P.getD i p0:=by
 rw [List.getD_eq_getElem?_getD,List.getElem?_set]
 by_cases e:k=i
 ·subst e; simp [hk]
 ·rw [if_neg e,if_neg (Ne.symm e),List.getD_eq_getElem?_getD]
theorem SSt.setO {pv:Value} {P:SS} (h:SSt w s g pv P) {k:Nat} (hk:k < P.1.length) (e:Bool) (M:Nat->Int):SSt (w.setCells g (k*66) (oc e M).toList) s g pv (P.1.set k ⟨e,M,(P.1.getD k p0).wt⟩,P.2):=by
 obtain ⟨C,h1,h2⟩:=h.ga
 have hth:=h.there hk
 have hl:(oc e M).toList.length=65:=by simp [oc_size]
 refine ⟨?_,?_,?_⟩
 ·have:=(On2.setCells (s:=g) (g:=g) (oc e M).toList (k*66) w (On2.refl g g w)).at_ h.sa h.ne h.ne
  simpa using this
 ·obtain ⟨C',h3,h4⟩:=At.setCells (oc e M).toList (k*66) C w h1
  exact ⟨C',h3,by simp; omega⟩
 ·intro i j hi hj
  have hi':i < P.1.length:=by simpa using hi
  show _=(plc ((P.1.set k ⟨e,M,(P.1.getD k p0).wt⟩).getD i p0))[j]?
  rw [plset_at hk]
  by_cases c:i=k
  ·subst c
   rw [if_pos rfl]
   by_cases hj5:j < 65
   ·rw [World.cell?_setCells_in g _ (i*66) w (fun q hq=>(hth q (by omega)).1) j (by omega),plc_oc _ hj5,<- Array.getElem?_toList]
    exact (List.getElem?_eq_getElem (by rw [hl]; exact hj5)).symm
   ·have:j=65:=by omega
    subst this
    rw [World.cell?_setCells_out g _ (i*66) w _ (fun _ _=>.inr (by show _<=i*66+65; omega)),h.pl i 65 hi' (by omega),plc_wt,plc_wt]
  ·rw [if_neg c,World.cell?_setCells_out g _ (k*66) w _ (fun _ _=>by show i*66+j < k*66 \/ _<=i*66+j; omega)]
   exact h.pl i j hi' hj
theorem SSt.setW {pv:Value} {P:SS} (h:SSt w s g pv P) {k:Nat} (hk:k < P.1.length) (v:Bool):SSt (w.setCell ⟨g,k*66+65,none⟩ (.bool v)) s g pv (P.1.set k ⟨(P.1.getD k p0).e,(P.1.getD k p0).M,v⟩,P.2):=by
 obtain ⟨C,h1,h2⟩:=h.ga
 refine ⟨?_,?_,?_⟩
 ·have:=h.sa.other (a:=g) (k*66+65) (.bool v) h.ne
  simpa using this
 ·exact ⟨_,h1.put _ _,by simpa using h2⟩
 ·intro i j hi hj
  have hi':i < P.1.length:=by simpa using hi
  show _=(plc ((P.1.set k ⟨(P.1.getD k p0).e,(P.1.getD k p0).M,v⟩).getD i p0))[j]?
  rw [plset_at hk]
  have hold:=h.pl i j hi' hj
  by_cases c:i=k/\j=65
  ·obtain ⟨rfl,rfl⟩:=c
   rw [if_pos rfl,plc_wt]
   rw [plc_wt] at hold
   exact World.cell?_setCell_same _ _ _ hold
  ·rw [World.cell?_setCell_other _ _ _ _ (fun z=>by
    have:=congrArg Addr.off z
    exact c (by have:k*66+65=i*66+j:=this; omega)),hold]
   by_cases c2:i=k
   ·subst c2
    rw [if_pos rfl,plc_oc _ (show j < 65 by omega),plc_oc _ (show j < 65 by omega)]
   ·rw [if_neg c2]
theorem SSt.setG {pv:Value} {P:SS} (h:SSt w s g pv P) (v:Bool):SSt (w.setCell ⟨s,2,none⟩ (.bool v)) s g pv (P.1,v):=by
 obtain ⟨C,h1,h2⟩:=h.ga
 refine ⟨?_,?_,?_⟩
 ·have:=h.sa.put 2 (.bool v)
  simpa using this
 ·exact ⟨C,h1.other _ _ (Ne.symm h.ne),h2⟩
 ·intro i j hi hj
  rw [World.cell?_setCell_other _ _ _ _ (fun z=>h.ne (congrArg Addr.block z))]
  exact h.pl i j hi hj
end Go.Proofs.YtffajooegiempaaGreatDoor

