import Derived.Test.YtffajooegiempaaGreatDoorJ24
set_option maxRecDepth 100000
set_option maxHeartbeats 6400000
namespace Go.Proofs.YtffajooegiempaaGreatDoor
open Go.RowKit
variable {w:World} {e0:Bool} {M:Nat->Int}
theorem o_setSum0 (h:Sh M) (t:Nat) (ht:t < 4) (l:List Int) (hl:∀ i,-1<=gAt l i/\gAt l i<=1) (n:Int) (hn:-99<=n/\n<=99) (h1:sd1 l=opp (sd2 l)) :
  Calls Tryz.prog 141 #[.agg (oc e0 M),.int .i64 (t:Int),v4 l,.int .i64 n] w fun e w'=>e=.returned (.agg (oc e0 (sbT M t n n)))/\Below w.heap.size w w':=by
 have hz:=o_zero
 have h8:=sdS_lt l 4 (Nat.le_refl _)
 have HSd:Hid (∀ w1,Calls Tryz.prog 142 #[v4 l] w1 fun e w'=>e=.returned (.tuple #[.int .i64 ((sd1 l:Nat):Int),.int .i64 ((sd2 l:Nat):Int)])/\Below w1.heap.size w1 w'):=fun w1=>o_sides l hl
 have HSb:Hid (∀ w1,Calls Tryz.prog 140 #[.agg (oc e0 M),.int .i64 (t:Int),.int .i64 n,.int .i64 n] w1 fun e w'=>e=.returned (.agg (oc e0 (sbT M t n n)))/\Below w1.heap.size w1 w'):=fun w1=>o_setBetween h t ht n n ⟨by omega,by omega⟩ ⟨by omega,by omega⟩
 have hf8:sd1 l < 8:=h8.1
 have hs8:sd2 l < 8:=h8.2
 generalize sd1 l=f at *
 generalize sd2 l=s at *
 subst h1
 have HOp:Hid (∀ w1,Calls Tryz.prog 153 #[.int .i64 (s:Int)] w1 fun e w'=>e=.returned (.int .i64 ((opp s:Nat):Int))/\w'=w1):=fun w1=>o_opposite s hs8 w1
 obtain ⟨w0,hw0⟩:∃ w0,w0=((w.alloc (.cells (oc e0 M) tO)).alloc (.cells (c4 l) tV4)).alloc (.cells (oc false fun _=>0) tO):=⟨_,rfl⟩
 have H0:Hid (OAt w0 w.heap.size e0 M/\OAt w0 (w.heap.size+2) false (fun _=>0)/\Below w.heap.size w w0/\w0.heap.size=w.heap.size+3):=by
  refine ⟨by rw [hw0]; exact At.allocH (At.allocH (At.new _ _ _) _) _,?_,by rw [hw0]; exact (((Below.refl _ _).alloc (Nat.le_refl _) _).alloc (by simp) _).alloc (by simp; omega) _,by rw [hw0]; simp⟩
  have:=At.new ((w.alloc (.cells (oc e0 M) tO)).alloc (.cells (c4 l) tV4)) (oc false fun _=>0) tO
  rw [show ((w.alloc (.cells (oc e0 M) tO)).alloc (.cells (c4 l) tV4)).heap.size=w.heap.size+2 by simp] at this
  rw [hw0]; exact this
 obtain ⟨BW,hBW⟩:∃ BW:World->Prop,BW=fun w'=>Below w0.heap.size w0 w':=⟨_,rfl⟩
 have hsd:Calls Tryz.prog 142 #[v4 l] w0 fun e w'=>e=.returned (.tuple #[.int .i64 ((opp s:Nat):Int),.int .i64 (s:Int)])/\BW w':=by rw [hBW]; exact HSd.out w0
 rw [hw0] at hsd
 unfold v4 c4 at hsd
 unfold v4
 clear HSd h8 h
 go_enter Tryz.func141,Tryz.ntmps141
 go_wp2_with fail
 refine hsd.mono ?_
 rintro e w1 ⟨rfl,hb1⟩
 rw [hBW] at hb1
 have H1:Hid (OAt w1 w.heap.size e0 M/\OAt w1 (w.heap.size+2) false (fun _=>0)/\Below w.heap.size w w1/\w.heap.size+3<=w1.heap.size):=by
  have s0:=H0.out.2.2.2
  have s1:=hb1.size
  exact ⟨At.keep H0.out.1 hb1 (by omega),At.keep H0.out.2.1 hb1 (by omega),H0.out.2.2.1.trans (hb1.mono (by omega)),by omega⟩
 clear hb1 hsd hBW hw0 H0
 have hop:=HOp.out w1
 have hsb:=HSb.out w1
 go_wp2_with fail
 refine hop.mono ?_
 rintro e w2 ⟨rfl,hw2⟩
 subst hw2
 clear hop
 go_wp2_with (refine wpList_load_o rfl (.tmp 4) rfl rfl H1.out.1 ?_)
 refine hsb.mono ?_
 rintro e w3 ⟨rfl,hb3⟩
 have H3:Hid (OAt w3 (w.heap.size+2) false (fun _=>0)/\Below w.heap.size w w3):=by
  have s1:=H1.out.2.2.2
  exact ⟨At.keep H1.out.2.1 hb3 (by omega),H1.out.2.2.1.trans (hb3.mono (by omega))⟩
 clear hb3 hsb
 generalize hTT:sbT M t n n=T at *
 have HTT:Hid (sbT M t n n=T):=hTT
 clear hTT HSb
 obtain ⟨w7,hst7,hat7,ho7⟩:=o_store H3.out.1 e0 T
 have H7:Hid (OAt w7 (w.heap.size+2) e0 T/\Below w.heap.size w w7):=⟨hat7,H3.out.2.trans (ho7.below (by omega) H3.out.2.size)⟩
 clear hat7 ho7
 go_wp2_with fail
 try simp only [Exit.inBlock,Exit.then]
 refine bodyPost_ret (results_o rfl _ rfl H7.out.1) rfl ?_
 exact ⟨by rw [HTT.out],H7.out.2⟩
def asM (M:Nat->Int) (x:Ds):Nat->Int:=if x.any=true then sbT M x.target.toNat (-999) 999 else if sd1 x.sg=opp (sd2 x.sg) then sbT M x.target.toNat x.num x.num else ssF M x.target.toNat (sd1 x.sg) x.num 64
def poE (e:Bool) (M:Nat->Int) (x:Ds) (way:Int):Bool:=if e=true then e else if x.kind=0 then e else if x.any=true then e else if way=0 then atE e M x.sg x.num else atE e M (ngL x.sg) (-x.num - 1)
def poM (e:Bool) (M:Nat->Int) (x:Ds) (way:Int):Nat->Int:=if e=true then M else if x.kind=0 then asM M x else if x.any=true then M else if way=0 then atM e M x.sg x.num else atM e M (ngL x.sg) (-x.num - 1)
theorem e_assigned (x:Ds) (hx:DsG x) (ht:0<=x.target/\x.target < 4) (hS:Sh M) :
  Calls Tryz.prog 112 #[dsv x,.agg (oc e0 M)] w fun e w'=>e=.returned (.agg (oc e0 (asM M x)))/\Below w.heap.size w w':=by
 have hz:=o_zero
 obtain ⟨t,htt⟩:∃ t:Nat,x.target=(t:Int):=⟨x.target.toNat,by omega⟩
 have htn:x.target.toNat=t:=by omega
 have ht4:t < 4:=by omega
 obtain ⟨w0,hw0⟩:∃ w0,w0=((w.alloc (.cells (dsCells x) tDs)).alloc (.cells (oc e0 M) tO)).alloc (.cells (oc false fun _=>0) tO):=⟨_,rfl⟩
 have H0:Hid (At w0 w.heap.size (dsCells x) tDs/\OAt w0 (w.heap.size+1) e0 M/\OAt w0 (w.heap.size+2) false (fun _=>0)/\Below w.heap.size w w0/\w0.heap.size=w.heap.size+3):=by
  refine ⟨by rw [hw0]; exact At.allocH (At.allocH (At.new _ _ _) _) _,?_,?_,by rw [hw0]; exact (((Below.refl _ _).alloc (Nat.le_refl _) _).alloc (by simp) _).alloc (by simp; omega) _,by rw [hw0]; simp⟩
  ·have:=At.allocH (At.new (w.alloc (.cells (dsCells x) tDs)) (oc e0 M) tO) (.cells (oc false fun _=>0) tO)
   rw [show (w.alloc (.cells (dsCells x) tDs)).heap.size=w.heap.size+1 by simp] at this
   rw [hw0]; exact this
  ·have:=At.new ((w.alloc (.cells (dsCells x) tDs)).alloc (.cells (oc e0 M) tO)) (oc false fun _=>0) tO
   rw [show ((w.alloc (.cells (dsCells x) tDs)).alloc (.cells (oc e0 M) tO)).heap.size=w.heap.size+2 by simp] at this
   rw [hw0]; exact this
 have HA0:=H0.out.2.1
 obtain ⟨BW,hBW⟩:∃ BW:World->Prop,BW=fun w'=>Below w0.heap.size w0 w':=⟨_,rfl⟩
 cases ha:x.any with
 | true =>
  have HE:Hid (asM M x=sbT M t (-999) 999):=by show asM M x=_; unfold asM; rw [if_pos ha,htn]
  have hsb:Calls Tryz.prog 140 #[.agg (oc e0 M),.int .i64 (t:Int),.int .i64 (-999),.int .i64 999] w0 fun e w'=>e=.returned (.agg (oc e0 (sbT M t (-999) 999)))/\BW w':=by rw [hBW]; exact o_setBetween hS t ht4 (-999) 999 ⟨by omega,by omega⟩ ⟨by omega,by omega⟩
  rw [hw0] at hsb HA0
  unfold dsCells at hsb HA0
  unfold dsv
  rw [ha,htt] at hsb HA0 |-
  generalize sbT M t (-999) 999=T at *
  clear hS hx ht hw0
  go_enter Tryz.func112,Tryz.ntmps112
  go_wp2_with (refine wpList_load_o rfl (.tmp 3) rfl rfl HA0 ?_)
  refine hsb.mono ?_
  rintro e w1 ⟨rfl,hb1⟩
  rw [hBW] at hb1
  have H1:Hid (OAt w1 (w.heap.size+2) false (fun _=>0)/\Below w.heap.size w w1):=by
   have s0:=H0.out.2.2.2.2
   exact ⟨At.keep H0.out.2.2.1 hb1 (by omega),H0.out.2.2.2.1.trans (hb1.mono (by omega))⟩
  clear hb1 hBW H0
  obtain ⟨w7,hst7,hat7,ho7⟩:=o_store H1.out.1 e0 T
  have H7:Hid (OAt w7 (w.heap.size+2) e0 T/\Below w.heap.size w w7):=⟨hat7,H1.out.2.trans (ho7.below (by omega) H1.out.2.size)⟩
  clear hat7 ho7
  go_wp2_with fail
  try simp only [Exit.inBlock,Exit.then]
  refine bodyPost_ret (results_o rfl _ rfl H7.out.1) rfl ?_
  exact ⟨by rw [HE.out],H7.out.2⟩
 | false =>
  have hss:∃ T,asM M x=T/\∀ w1,Calls Tryz.prog 141 #[.agg (oc e0 M),.int .i64 (t:Int),v4 x.sg,.int .i64 x.num] w1 fun e w'=>e=.returned (.agg (oc e0 T))/\Below w1.heap.size w1 w':=by
   refine ⟨_,rfl,fun w1=>?_⟩
   unfold asM
   rw [ha,if_neg (by decide),htn]
   by_cases q:sd1 x.sg=opp (sd2 x.sg)
   ·rw [if_pos q]; exact o_setSum0 hS t ht4 x.sg hx.sg x.num hx.num q
   ·rw [if_neg q]; exact o_setSum hS t ht4 x.sg hx.sg x.num hx.num q
  obtain ⟨T,hT,hss⟩:=hss
  have HE:Hid (asM M x=T):=hT
  have hsb:Calls Tryz.prog 141 #[.agg (oc e0 M),.int .i64 (t:Int),v4 x.sg,.int .i64 x.num] w0 fun e w'=>e=.returned (.agg (oc e0 T))/\BW w':=by rw [hBW]; exact hss w0
  rw [hw0] at hsb HA0
  unfold dsCells at hsb HA0
  unfold v4 at hsb
  unfold dsv
  rw [ha,htt] at hsb HA0 |-
  clear hS hx ht hw0 hss hT
  go_enter Tryz.func112,Tryz.ntmps112
  go_wp2_with (refine wpList_load_o rfl (.tmp 3) rfl rfl HA0 ?_)
  refine hsb.mono ?_
  rintro e w1 ⟨rfl,hb1⟩
  rw [hBW] at hb1
  have H1:Hid (OAt w1 (w.heap.size+2) false (fun _=>0)/\Below w.heap.size w w1):=by
   have s0:=H0.out.2.2.2.2
   exact ⟨At.keep H0.out.2.2.1 hb1 (by omega),H0.out.2.2.2.1.trans (hb1.mono (by omega))⟩
  clear hb1 hBW H0
  obtain ⟨w7,hst7,hat7,ho7⟩:=o_store H1.out.1 e0 T
  have H7:Hid (OAt w7 (w.heap.size+2) e0 T/\Below w.heap.size w w7):=⟨hat7,H1.out.2.trans (ho7.below (by omega) H1.out.2.size)⟩
  clear hat7 ho7
  go_wp2_with fail
  try simp only [Exit.inBlock,Exit.then]
  refine bodyPost_ret (results_o rfl _ rfl H7.out.1) rfl ?_
  exact ⟨by rw [HE.out],H7.out.2⟩
end Go.Proofs.YtffajooegiempaaGreatDoor

namespace Go.Proofs.YtffajooegiempaaGreatDoor
variable {C:Nat->Int}
def vz (f t:Nat):List Int:=(frm f).set t 0
def vad (a l:List Int) (k:Int):List Int:=[gAt a 0+k*gAt l 0,gAt a 1+k*gAt l 1,gAt a 2+k*gAt l 2,gAt a 3+k*gAt l 3]
def asV (f t:Nat) (star:Bool) (l:List Int):List Int:=if gAt (frm f) t ≠ 0/\star=false then vad (vz f t) l (gAt (frm f) t) else vz f t
def asN (f t:Nat) (star:Bool) (num:Int):Int:=if gAt (frm f) t=0 then 0 else if star=true then 999 else gAt (frm f) t*num
def pn (g n:Int):Int:=if g=NB then NB else g+n
def asD (C:Nat->Int) (u:St) (f:Nat):Int:=pn (grE C (asV f u.var.toNat u.star u.sg)) (asN f u.var.toNat u.star u.num)
def tbB (f t:Nat):Bool :=
 (decide (gAt (frm f) t=0) && !decide (isT t (fs f)) && !decide (isT t (ss f)) && decide (numV (vz f t)=f)) ||
 (decide (f < 8) && decide (isT t (fs f)) && decide (numV (vz f t)=-1) && z4 (vz f t) && decide (gAt (frm f) t=if fs f=2*t then 1 else -1)) ||
 (decide (8<=f) && decide (isT t (fs f)) && !decide (isT t (ss f)) && decide (numV (vz f t)=ss f) && decide (gAt (frm f) t=if fs f=2*t then 1 else -1)) ||
 (decide (8<=f) && decide (isT t (ss f)) && !decide (isT t (fs f)) && decide (numV (vz f t)=fs f) && decide (gAt (frm f) t=if ss f=2*t then 1 else -1))
theorem tbB_all:∀ t:Nat,t < 4->∀ f,f < 32->tbB f t=true:=by decide +kernel
theorem mo_bd (C:Nat->Int) {j:Nat} (hj:j < 8):mo C j j=bd C j:=by
 obtain ⟨e1,e2⟩:=fs_lo j hj
 unfold mo bd
 rw [e1,e2]
theorem grE_num {l:List Int} {f:Nat} (h:numV l=(f:Int)):grE C l=bd C f:=by
 unfold grE
 rw [h,if_pos (by omega),Int.toNat_natCast]
theorem grE_zero {l:List Int} (h:numV l=-1) (hz:z4 l=true):grE C l=0:=by
 unfold grE
 rw [h,if_neg (by decide),if_pos hz]
theorem bt_bd (C:Nat->Int) {t:Nat} (ht:t < 4) {lo hi:Int} (hlo:-999<=lo/\lo<=999) (hhi:-999<=hi/\hi<=999) {f:Nat} (hf:f < 32) :
  bd (sbT C t lo hi) f=pn (grE C (vz f t)) (if gAt (frm f) t=0 then 0 else if gAt (frm f) t=1 then hi else -lo):=by
 have a1:=fs_lt f hf
 have a2:=ss_lt f hf
 have T:=tbB_all t ht f hf
 unfold tbB at T
 simp only [Bool.or_eq_true,Bool.and_eq_true,Bool.not_eq_true',decide_eq_true_eq,decide_eq_false_iff_not] at T
 have hu:∀ i,isT t i->uF C t lo hi i=(if i=2*t then hi else -lo)/\(-999<=uF C t lo hi i/\uF C t lo hi i<=999):=by
  intro i q
  unfold uF
  by_cases z:i=2*t
  ·rw [if_pos z,if_pos z]; exact ⟨rfl,hhi⟩
  ·rw [if_neg z,if_neg z,if_pos (q.resolve_left z)]; exact ⟨rfl,by omega⟩
 rcases T with ((⟨⟨⟨k,n1⟩,n2⟩,hn⟩ | ⟨⟨⟨⟨f8,n1⟩,hn⟩,hz⟩,k⟩) | ⟨⟨⟨⟨f8,n1⟩,n2⟩,hn⟩,k⟩) | ⟨⟨⟨⟨f8,n1⟩,n2⟩,hn⟩,k⟩
 ·rw [grE_num hn,if_pos k]
  have e:bd (sbT C t lo hi) f=bd C f:=by
   unfold bd
   rw [sbT_at C ht hlo hhi a1 a2]
   unfold sbG
   rw [if_neg n1,if_neg n2]
  rw [e]
  unfold pn
  by_cases q:bd C f=NB
  ·rw [if_pos q,q]
  ·rw [if_neg q,Int.add_zero]
 ·obtain ⟨e1,e2⟩:=fs_lo f f8
  rw [grE_zero hn hz]
  have hval:sbT C t lo hi (f*8+f)=if f=2*t then 2*hi else 2*-lo:=by
   rw [sbT_at C ht hlo hhi f8 f8]
   unfold sbG
   rw [e1] at n1
   rw [if_pos n1,if_pos n1,if_pos rfl]
  have e:bd (sbT C t lo hi) f=if fs f=2*t then hi else -lo:=by
   unfold bd
   rw [e1,e2,hval]
   by_cases z:f=2*t
   ·rw [if_pos z,if_pos z,if_pos ⟨rfl,by unfold NB; omega⟩]
    have:=tdiv_even (x:=2*hi) (by omega)
    omega
   ·rw [if_neg z,if_neg z,if_pos ⟨rfl,by unfold NB; omega⟩]
    have:=tdiv_even (x:=2*-lo) (by omega)
    omega
  rw [e,k]
  unfold pn
  rw [if_neg (show ¬ (0:Int)=NB by decide)]
  by_cases z:fs f=2*t
  ·rw [if_pos z,if_pos z,if_neg (by omega),if_pos rfl,Int.zero_add]
  ·rw [if_neg z,if_neg z,if_neg (by omega),if_neg (by omega),Int.zero_add]
 ·rw [grE_num hn]
  have e:bd (sbT C t lo hi) f=pl (uF C t lo hi (fs f)) (bd C (ss f)):=by
   unfold bd
   rw [sbT_at C ht hlo hhi a1 a2,if_neg (fun z=>fs_hi f hf f8 z.1)]
   unfold sbG
   rw [if_pos n1,if_neg n2,mo_bd C a2]
   rfl
  obtain ⟨u1,u2⟩:=hu _ n1
  rw [e,u1,k]
  unfold pn pl
  by_cases q:bd C (ss f)=NB
  ·rw [if_pos (.inr q),if_pos q]
  ·rw [if_neg q,if_neg (fun z=>z.elim (fun y=>by rw [<- u1] at y; unfold NB at y; omega) q)]
   by_cases z:fs f=2*t
   ·rw [if_pos z,if_pos z,if_neg (by omega),if_pos rfl,Int.add_comm]
   ·rw [if_neg z,if_neg z,if_neg (by omega),if_neg (by omega),Int.add_comm]
 ·rw [grE_num hn]
  have e:bd (sbT C t lo hi) f=pl (uF C t lo hi (ss f)) (bd C (fs f)):=by
   unfold bd
   rw [sbT_at C ht hlo hhi a1 a2,if_neg (fun z=>fs_hi f hf f8 z.1)]
   unfold sbG
   rw [if_neg n2,if_pos n1,mo_bd C a1]
   rfl
  obtain ⟨u1,u2⟩:=hu _ n1
  rw [e,u1,k]
  unfold pn pl
  by_cases q:bd C (fs f)=NB
  ·rw [if_pos (.inr q),if_pos q]
  ·rw [if_neg q,if_neg (fun z=>z.elim (fun y=>by rw [<- u1] at y; unfold NB at y; omega) q)]
   by_cases z:ss f=2*t
   ·rw [if_pos z,if_pos z,if_neg (by omega),if_pos rfl,Int.add_comm]
   ·rw [if_neg z,if_neg z,if_neg (by omega),if_neg (by omega),Int.add_comm]
def kk (t i:Nat):Int:=if i=2*t then 1 else if i=2*t+1 then -1 else 0
theorem add_kk (t:Nat) (n:Int) (i:Nat):addF t n i=kk t i*n:=by
 unfold addF kk
 split
 ·omega
 ·split <;> omega
def tsV (t f1 f:Nat):List Int:=if gAt (frm f) t ≠ 0 then vad (vz f t) (frm f1) (gAt (frm f) t) else vz f t
def tsB (t f1 f:Nat):Bool :=
 (decide (f < 8) && decide (numV (tsV t f1 f)=orgF t f1 f) && decide (kk t f=gAt (frm f) t)) ||
 (decide (8<=f) && decide (kk t (fs f)+kk t (ss f)=gAt (frm f) t) &&
  ((decide (orgF t f1 (ss f)=orgF t f1 (fs f)) && decide (numV (tsV t f1 f)=-1) && !z4 (tsV t f1 f) && decide (numV (halfV (tsV t f1 f))=orgF t f1 (fs f))) ||
   (decide (orgF t f1 (ss f)=opp (orgF t f1 (fs f))) && decide (numV (tsV t f1 f)=-1) && z4 (tsV t f1 f)) ||
   (decide (orgF t f1 (ss f) ≠ orgF t f1 (fs f)) && decide (orgF t f1 (ss f) ≠ opp (orgF t f1 (fs f))) && decide (numV (tsV t f1 f)=nf (orgF t f1 (fs f)) (orgF t f1 (ss f))))))
theorem tsB_all:∀ t:Nat,t < 4->∀ f1,f1 < 8->∀ f,f < 32->tsB t f1 f=true:=by decide +kernel
theorem ss_bd (h:TC C) (hb:Bd 56000 C) {t f1:Nat} (ht:t < 4) (hf1:f1 < 8) {n:Int} (hn:-999<=n/\n<=999) {f:Nat} (hf:f < 32) :
  bd (ssF C t f1 n 64) f=pn (grE C (tsV t f1 f)) (gAt (frm f) t*n):=by
 have a1:=fs_lt f hf
 have a2:=ss_lt f hf
 have o1:=org_lt (t:=t) hf1 a1
 have o2:=org_lt (t:=t) hf1 a2
 have T:=tsB_all t ht f1 hf1 f hf
 unfold tsB at T
 simp only [Bool.or_eq_true,Bool.and_eq_true,Bool.not_eq_true',decide_eq_true_eq] at T
 have hb':Bd 60000 C:=hb.mono (by decide)
 have r1:=add_rng (t:=t) hn (fs f)
 have r2:=add_rng (t:=t) hn (ss f)
 have P:=pl_small (hb' (orgF t f1 (fs f)*8+orgF t f1 (ss f)) (by omega)) (a:=addF t n (fs f)+addF t n (ss f)) ⟨by omega,by omega⟩
 unfold bd
 rw [ss_at C t f1 n a1 a2]
 rcases T with ⟨⟨f8,hv⟩,k⟩ | ⟨⟨f8,k⟩,T⟩
 ·obtain ⟨e1,e2⟩:=fs_lo f f8
  rw [grE_num hv,<- k]
  rw [e1,e2] at P |-
  rw [add_kk] at P |-
  have L:=h.lo (org_lt (t:=t) hf1 f8)
  unfold pn
  by_cases q:C (orgF t f1 f*8+orgF t f1 f)=NB
  ·rw [P.1 q,if_neg (fun z=>z.2 rfl),if_pos (L.1 q)]
  ·obtain ⟨p1,p2⟩:=P.2 q
   obtain ⟨l1,l2⟩:=L.2 q
   rw [if_pos ⟨rfl,p2⟩,if_neg l2,p1,<- l1]
   have:=tdiv_even (x:=2*bd C (orgF t f1 f)+(kk t f*n+kk t f*n)) (by omega)
   omega
 ·have hne:=fs_hi f hf f8
  rw [if_neg (fun z=>hne z.1)]
  have ek:addF t n (fs f)+addF t n (ss f)=gAt (frm f) t*n:=by rw [add_kk,add_kk,<- k,Int.add_mul]
  rw [ek] at P |-
  unfold pn
  rcases T with (⟨⟨⟨q1,q2⟩,q3⟩,q4⟩ | ⟨⟨q1,q2⟩,q3⟩) | ⟨⟨q1,q2⟩,q3⟩
  ·have L:=h.lo o1
   have hg:grE C (tsV t f1 f)=if bd C (orgF t f1 (fs f))=NB then NB else 2*bd C (orgF t f1 (fs f)):=by
    unfold grE
    rw [q2,if_neg (by decide),q3,if_neg (by decide),q4,Int.toNat_natCast]
   rw [hg]
   rw [q1] at P |-
   by_cases q:C (orgF t f1 (fs f)*8+orgF t f1 (fs f))=NB
   ·rw [P.1 q,if_pos (L.1 q),if_pos rfl]
   ·obtain ⟨p1,p2⟩:=P.2 q
    obtain ⟨l1,l2⟩:=L.2 q
    have:=(hb' (orgF t f1 (fs f)*8+orgF t f1 (fs f)) (by omega)).resolve_left q
    rw [if_neg l2,if_neg (by unfold NB; omega),p1,l1]
  ·rw [grE_zero q2 q3,if_neg (by decide)]
   have z:C (orgF t f1 (fs f)*8+orgF t f1 (ss f))=0:=by rw [q1]; exact h.zero _ o1
   rw [(P.2 (by rw [z]; decide)).1,z]
  ·rw [grE_num q3,bd_nf h.sym o1 o2 (fun z=>q1 z.symm) q2]
   by_cases q:C (orgF t f1 (fs f)*8+orgF t f1 (ss f))=NB
   ·rw [P.1 q,if_pos q]
   ·rw [(P.2 q).1,if_neg q]
def oneB (l:List Int):Bool:=decide (1 < nz l) || (decide (l=[0,0,0,0]) && decide (sd1 l=opp (sd2 l))) || (List.range 8).any fun f=>decide (l=frm f) && decide (sd1 l=f) && decide (sd1 l ≠ opp (sd2 l))
theorem oneB_all:(sg3.all fun a=>sg3.all fun b=>sg3.all fun c=>sg3.all fun d=>oneB [a,b,c,d])=true:=by decide +kernel
theorem one_of {l:List Int} (hl:l.length=4) (h:∀ i,-1<=gAt l i/\gAt l i<=1) (h1:nz l<=1):(l=[0,0,0,0]/\sd1 l=opp (sd2 l)) \/ ∃ f,f < 8/\l=frm f/\sd1 l=f/\sd1 l ≠ opp (sd2 l):=by
 obtain ⟨a,b,c,d,rfl⟩:=four_of hl
 have t:=oneB_all
 simp only [List.all_eq_true] at t
 have t':=t a (mem_sg3 (h 0)) b (mem_sg3 (h 1)) c (mem_sg3 (h 2)) d (mem_sg3 (h 3))
 unfold oneB at t'
 simp only [Bool.or_eq_true,Bool.and_eq_true,decide_eq_true_eq,List.any_eq_true,List.mem_range] at t'
 rcases t' with (q | q) | ⟨f,hf,⟨q1,q2⟩,q3⟩
 ·omega
 ·exact .inl q
 ·exact .inr ⟨f,hf,q1,q2,q3⟩
theorem vad_zero (f t:Nat) (k:Int):f < 32->t < 4->vad (vz f t) [0,0,0,0] k=vz f t:=by
 intro hf ht
 have hz:∀ i:Nat,i < 4->gAt [0,0,0,0] i=(0:Int):=by decide
 unfold vad
 rw [hz 0 (by omega),hz 1 (by omega),hz 2 (by omega),hz 3 (by omega)]
 simp only [Int.mul_zero,Int.add_zero]
 exact (show ∀ t:Nat,t < 4->∀ f,f < 32->[gAt (vz f t) 0,gAt (vz f t) 1,gAt (vz f t) 2,gAt (vz f t) 3]=vz f t by decide +kernel) t ht f hf
theorem frm_k:∀ t:Nat,t < 4->∀ f,f < 32->gAt (frm f) t=0 \/ gAt (frm f) t=1 \/ gAt (frm f) t=-1:=by decide +kernel
theorem cls_vz:∀ t:Nat,t < 4->∀ f,f < 32->clsB (vz f t)=true/\(vz f t).length=4/\∀ i,i < 4->-2<=gAt (vz f t) i/\gAt (vz f t) i<=2:=by decide +kernel
theorem cls_ts:∀ t:Nat,t < 4->∀ f1,f1 < 8->∀ f,f < 32->clsB (tsV t f1 f)=true/\(tsV t f1 f).length=4/\∀ i,i < 4->-2<=gAt (tsV t f1 f) i/\gAt (tsV t f1 f) i<=2:=by decide +kernel
theorem asV_star (f t:Nat) (l:List Int):asV f t true l=vz f t:=if_neg (fun z=>by cases z.2)
theorem asV_none {f t:Nat} (hf:f < 32) (ht:t < 4):asV f t false [0,0,0,0]=vz f t:=by
 unfold asV
 split
 ·exact vad_zero f t _ hf ht
 ·rfl
theorem asV_one (f t f1:Nat):asV f t false (frm f1)=tsV t f1 f:=by
 unfold asV tsV
 by_cases q:gAt (frm f) t ≠ 0
 ·rw [if_pos ⟨q,rfl⟩,if_pos q]
 ·rw [if_neg (fun z=>q z.1),if_neg q]
theorem as_same (h:TC C) (hb:Bd 56000 C) {x:Ds} {u:St} (hc:Cor x u) (hu:StG u) (hv:0<=u.var/\u.var<=3) (h1:nz u.sg<=1) {f:Nat} (hf:f < 32):bd (asM C x) f=asD C u f:=by
 obtain ⟨_,c1,c2,c3,c4⟩:=hc
 have n:=hu.num
 unfold asM asD
 rw [<- c1,<- c2,<- c3,<- c4]
 have ht:u.var.toNat < 4:=by omega
 have hk:=frm_k _ ht f hf
 generalize u.var.toNat=t at *
 unfold asN
 cases hs:u.star with
 | true =>
  rw [if_pos rfl,asV_star,bt_bd C ht ⟨by omega,by omega⟩ ⟨by omega,by omega⟩ hf,if_pos rfl]
  congr 1
  by_cases q:gAt (frm f) t=0
  ·rw [if_pos q,if_pos q]
  ·rw [if_neg q,if_neg q]
   split <;> omega
 | false =>
  rw [if_neg (show ¬ (false=true) by decide),if_neg (show ¬ (false=true) by decide)]
  rcases one_of hu.len hu.sg h1 with ⟨e1,e2⟩ | ⟨f1,hf1,e1,e2,e3⟩
  ·rw [if_pos e2,e1,asV_none hf ht,bt_bd C ht ⟨by omega,by omega⟩ ⟨by omega,by omega⟩ hf]
   congr 1
   by_cases q:gAt (frm f) t=0
   ·rw [if_pos q,if_pos q]
   ·rw [if_neg q,if_neg q]
    rcases hk with z | z | z
    ·exact absurd z q
    ·rw [z,if_pos rfl]; omega
    ·rw [z,if_neg (by decide)]; omega
  ·rw [if_neg e3,e2,ss_bd h hb ht hf1 ⟨by omega,by omega⟩ hf]
   rw [e1,asV_one]
   congr 1
   by_cases q:gAt (frm f) t=0
   ·rw [if_pos q,q]; omega
   ·rw [if_neg q]
theorem cls_as {u:St} (hu:StG u) (hv:0<=u.var/\u.var<=3) (h1:nz u.sg<=1) {f:Nat} (hf:f < 32):clsB (asV f u.var.toNat u.star u.sg)=true/\(asV f u.var.toNat u.star u.sg).length=4/\∀ i,i < 4->-2<=gAt (asV f u.var.toNat u.star u.sg) i/\gAt (asV f u.var.toNat u.star u.sg) i<=2:=by
 have ht:u.var.toNat < 4:=by omega
 generalize u.var.toNat=t at *
 cases hs:u.star with
 | true=>rw [asV_star]; exact cls_vz t ht f hf
 | false =>
  rcases one_of hu.len hu.sg h1 with ⟨e1,e2⟩ | ⟨f1,hf1,e1,e2,e3⟩
  ·rw [e1,asV_none hf ht]; exact cls_vz t ht f hf
  ·rw [e1,asV_one]; exact cls_ts t ht f1 hf1 f hf
end Go.Proofs.YtffajooegiempaaGreatDoor

namespace Go.Proofs.YtffajooegiempaaGreatDoor
open Go.RowKit
variable {w:World} {C:Nat->Int}
def preV (a l:List Int) (k:Int):Nat->List Int
 | 0=>a
 | j+1=>(preV a l k j).set j (gAt a j+k*gAt l j)
theorem preV_at (a l:List Int) (k:Int) (ha:a.length=4):∀ j,j<=4->(preV a l k j).length=4/\∀ i,j<=i->(preV a l k j).getD i 0=gAt a i
 | 0,_=>⟨ha,fun _ _=>rfl⟩
 | j+1,hj=>by
  obtain ⟨h1,h2⟩:=preV_at a l k ha j (by omega)
  refine ⟨by rw [preV,List.length_set]; exact h1,fun i hi=>?_⟩
  rw [preV,<- h2 i (by omega)]
  simp [List.getD,show ¬ j=i by omega]
theorem preV_4 (a l:List Int) (k:Int) (ha:a.length=4):preV a l k 4=vad a l k:=by
 obtain ⟨x,y,z,t,rfl⟩:=four_of ha
 rfl
def tOut (w:World) (R:Nat->Int):Ending->World->Prop:=fun e w'=>Below w.heap.size w w'/\∃ g,e=.returned (.slice (some ⟨g,0,none⟩) 32 32)/\w.heap.size<=g/\At w' g (ic (rl R)) tNk
theorem r_assigned (hS:Sm C) (uv:Value) (u:St) (hu:StG u) (hv:0<=u.var/\u.var<=3) (h1:nz u.sg<=1) (hr:Reads w uv (bdL C)) (p q:Nat) (hp:p < w.heap.size)
  (x1:w.cell? ⟨p,1,none⟩=some (.int .i64 u.var)) (x2:w.cell? ⟨p,2,none⟩=some (.bool u.star)) (x3:w.cell? ⟨p,3,none⟩=some (.slice (some ⟨q,0,none⟩) 4 4)) (x4:w.cell? ⟨p,4,none⟩=some (.int .i64 u.num)) (hq:At w q (ic u.sg) tNk) :
  Calls Tryz.prog 60 #[uv,.pointer (some ⟨p,0,none⟩)] w (tOut w (asD C u)):=by
 have hmk:∀ w,(Instr.makeSlice 32 (.int .i64 32) (.int .i64 32)).run Tryz.prog w=.ok (.slice (some ⟨w.heap.size,0,none⟩) 32 32) (w.alloc (.cells (ic (rl fun _=>0)) tNk)):=fun _=>by kernel_rfl
 obtain ⟨t,htt⟩:∃ t:Nat,u.var=(t:Int):=⟨u.var.toNat,by omega⟩
 have htn:u.var.toNat=t:=by omega
 have ht4:t < 4:=by omega
 have hti:(t:Int) < 4:=by omega
 rw [htt] at x1
 have HCls:Hid (∀ f,f < 32->(asV f t u.star u.sg).length=4/\(∀ i,i < 4->-2<=gAt (asV f t u.star u.sg) i/\gAt (asV f t u.star u.sg) i<=2)/\clsB (asV f t u.star u.sg)=true):=fun f hf=>by
  have:=cls_as hu hv h1 hf
  rw [htn] at this
  exact ⟨this.2.1,this.2.2,this.1⟩
 have HDs:Hid (∀ f,asD C u f=pn (grE C (asV f t u.star u.sg)) (asN f t u.star u.num)):=fun f=>by unfold asD; rw [htn]
 have HGr:Hid (∀ w1 b l,At w1 b (ic l) tNk/\Below w.heap.size w w1->l.length=4->(∀ i,i < 4->-2<=gAt l i/\gAt l i<=2)->clsB l=true->Calls Tryz.prog 97 #[uv,.slice (some ⟨b,0,none⟩) 4 4] w1 fun e w'=>e=.returned (.int .i64 (grE C l))/\Below w1.heap.size w1 w'):=fun w1 b l hw1 h4 hl hc =>
  r_greatest2 C uv _ l h4 hl hc hS (hr.keep hw1.2) (Reads.at_ hw1.1 h4 (Nat.le_refl _) (fun i hi=>ic_get _ _ (by omega)))
 have HRg:Hid (∀ f,f < 32->-400000000000000000<=grE C (asV f t u.star u.sg)/\grE C (asV f t u.star u.sg)<=3000000000000):=by
  intro f hf
  have hcl:=(HCls.out f hf).2.2
  unfold clsB at hcl
  unfold grE
  split
  ·have hlt:numV (asV f t u.star u.sg) < 32:=by
    simp only [Bool.or_eq_true,Bool.and_eq_true,decide_eq_true_eq] at hcl
    omega
   have:=bd_rng hS (show (numV (asV f t u.star u.sg)).toNat < 32 by omega)
   omega
  ·split
   ·omega
   ·rename_i h1 h2
    have hlt:numV (halfV (asV f t u.star u.sg)) < 32:=by
     have h2':z4 (asV f t u.star u.sg)=false:=by simpa using h2
     rw [h2'] at hcl
     simp only [Bool.or_eq_true,Bool.and_eq_true,decide_eq_true_eq] at hcl
     rcases hcl with (h | h) | h
     ·omega
     ·cases h.2
     ·exact h.2
    have:=bd_rng hS (show (numV (halfV (asV f t u.star u.sg))).toNat < 32 by omega)
    split
    ·unfold NB; omega
    ·omega
 have HFk:Hid (∀ f,f < 32->gAt (frm f) t=0 \/ gAt (frm f) t=1 \/ gAt (frm f) t=-1):=frm_k t ht4
 have HFl:Hid (∀ f,f < 32->(frm f).length=4):=(show ∀ f:Nat,f < 32->(frm f).length=4 by decide)
 obtain ⟨n1,n2⟩:=hu.num
 have hsg:=hu.sg
 have HQl:Hid (At w q (ic u.sg) tNk/\u.sg.length=4):=⟨hq,hu.len⟩
 have hql:=hq.lt
 have HX:Hid (∀ w1,Below w.heap.size w w1->(w1.cell? ⟨p,1,none⟩=some (.int .i64 (t:Int))/\w1.cell? ⟨p,2,none⟩=some (.bool u.star)/\w1.cell? ⟨p,3,none⟩=some (.slice (some ⟨q,0,none⟩) 4 4)/\w1.cell? ⟨p,4,none⟩=some (.int .i64 u.num))/\p < w1.heap.size):=fun w1 hb =>
  ⟨⟨(hb.cell (p:=⟨p,1,none⟩) hp).trans x1,(hb.cell (p:=⟨p,2,none⟩) hp).trans x2,(hb.cell (p:=⟨p,3,none⟩) hp).trans x3,(hb.cell (p:=⟨p,4,none⟩) hp).trans x4⟩,Nat.lt_of_lt_of_le hp hb.size⟩
 have HA0:Hid (At (w.alloc (.cells (ic (rl fun _=>0)) tNk)) w.heap.size (ic (rl fun _=>0)) tNk/\Below w.heap.size w (w.alloc (.cells (ic (rl fun _=>0)) tNk))):=⟨At.new _ _ _,(Below.refl _ _).alloc (Nat.le_refl _) _⟩
 obtain ⟨zl,hzl⟩:∃ zl,zl=ic (rl fun _=>0):=⟨_,rfl⟩
 rw [<- hzl] at hmk
 obtain ⟨Z,hZ⟩:∃ Z:Nat->Int,Z=fun _=>0:=⟨_,rfl⟩
 rw [<- hzl] at HA0
 have HA0':Hid (At (w.alloc (.cells zl tNk)) w.heap.size (ic (rl Z)) tNk/\Below w.heap.size w (w.alloc (.cells zl tNk))):=by rw [hZ,<- hzl]; exact HA0.out
 obtain ⟨ao,ca,rfl,-,-⟩:=hr
 clear hzl hZ HA0 hq hS hu hv h1 htn htt x1 x2 x3 x4
 go_enter Tryz.func60,Tryz.ntmps60
 go_wp2_with fail
 go_loopw [6] (fun fv wr=>∃ (f:Nat) (R:Nat->Int),f<=32/\fv=.int .i64 f/\Hid (At wr w.heap.size (ic (rl R)) tNk/\(∀ j,j < f->R j=asD C u j)/\Below w.heap.size w wr)) (fun fv _=>32 - (intOf fv).toNat)
 case atStart=>exact ⟨0,Z,by omega,rfl,HA0'.out.1,fun j hj=>absurd hj (by omega),HA0'.out.2⟩
 case round =>
  obtain ⟨f,R,hf,rfl,HR⟩:=hrel
  by_cases hlt:f < 32
  ·have hfi:(f:Int) < 32:=by omega
   have hfm:=r_form (w:=wr) f hlt
   have HCl:=(show Hid (_/\_/\_) from HCls.out f hlt)
   obtain ⟨nn,hnn⟩:∃ nn,nn=asN f t u.star u.num:=⟨_,rfl⟩
   have HDf:Hid (asD C u f=pn (grE C (asV f t u.star u.sg)) nn):=by rw [hnn]; exact HDs.out f
   have HNn:Hid (nn=if gAt (frm f) t=0 then 0 else if u.star=true then 999 else gAt (frm f) t*u.num):=hnn
   have HAs:Hid (asV f t u.star u.sg=if gAt (frm f) t ≠ 0/\u.star=false then vad (vz f t) u.sg (gAt (frm f) t) else vz f t):=rfl
   clear hnn
   go_wp2_with fail
   refine hfm.mono ?_
   rintro e w2 ⟨rfl,ha2,hb2⟩
   obtain ⟨B2,hB2⟩:∃ B2,B2=wr.heap.size:=⟨_,rfl⟩
   rw [<- hB2] at ha2 |-
   have hBB:w.heap.size < B2:=by rw [hB2]; exact HR.out.1.lt
   have H2:Hid (At w2 B2 (ic (frm f)) tNk/\At w2 w.heap.size (ic (rl R)) tNk/\Below w.heap.size w w2):=⟨ha2,At.keep HR.out.1 hb2 HR.out.1.lt,HR.out.2.2.trans (hb2.mono HR.out.2.2.size)⟩
   have ck:w2.cell? ⟨B2,t,none⟩=some (.int .i64 (gAt (frm f) t)):=by rw [ha2.cell]; exact ic_get _ _ (by rw [HFl.out f hlt]; exact ht4)
   have cf2:=ha2.free
   have hB2l:=ha2.lt
   obtain ⟨⟨y1,y2,y3,y4⟩,hpl⟩:=HX.out w2 H2.out.2.2
   have hpB:p ≠ B2:=by omega
   have hkk:=HFk.out f hlt
   clear hfm ha2 hb2 hB2
   generalize hk:gAt (frm f) t=k at *
   have H3:Hid (At (w2.setCell ⟨B2,t,none⟩ (.int .i64 0)) B2 (ic (vz f t)) tNk/\At (w2.setCell ⟨B2,t,none⟩ (.int .i64 0)) w.heap.size (ic (rl R)) tNk/\Below w.heap.size w (w2.setCell ⟨B2,t,none⟩ (.int .i64 0))):=by
    refine ⟨?_,H2.out.2.1.other _ _ (by omega),H2.out.2.2.setCell (by show w.heap.size<=B2; omega) _⟩
    unfold vz
    rw [<- ic_set]
    exact H2.out.1.put t _
   by_cases k0:k=0
   ·subst k0
    have hnz:nn=0:=by rw [HNn.out,if_pos rfl]
    subst hnz
    have HV:Hid (asV f t u.star u.sg=vz f t):=by show _=_; rw [HAs.out,if_neg (fun z=>z.1 rfl)]
    have H4:Hid (At (w2.setCell ⟨B2,t,none⟩ (.int .i64 0)) B2 (ic (asV f t u.star u.sg)) tNk/\Below w.heap.size w (w2.setCell ⟨B2,t,none⟩ (.int .i64 0))):=by rw [HV.out]; exact ⟨H3.out.1,H3.out.2.2⟩
    clear HV HAs HNn
    have hgr:=HGr.out _ B2 (asV f t u.star u.sg) H4.out HCl.out.1 HCl.out.2.1 HCl.out.2.2
    go_wp2_with fail
    refine hgr.mono ?_
    rintro e w7 ⟨rfl,hb7⟩
    have H7:Hid (At w7 w.heap.size (ic (rl R)) tNk/\Below w.heap.size w w7):=⟨At.keep H3.out.2.1 hb7 (At.lt H3.out.2.1),(H3.out.2.2).trans (hb7.mono (H3.out.2.2).size)⟩
    have cf7:=H7.out.1.free
    have hb7l:=H7.out.1.lt
    obtain ⟨x7,hx7⟩:∃ x,w7.cell? ⟨w.heap.size,f,none⟩=some x:=⟨_,rl_cell H7.out.1 hlt⟩
    clear hb7 hgr
    obtain ⟨g1,g2⟩:=HRg.out f hlt
    have HD:Hid (asD C u f=pn (grE C (asV f t u.star u.sg)) 0):=HDf.out
    generalize grE C (asV f t u.star u.sg)=gg at *
    by_cases eg:gg=1000000
    ·subst eg
     have HDD:Hid (asD C u f=1000000):=by show _=_; rw [HD.out]; rfl
     go_wp2_with fail
     go_roundw
     case rel=>exact ⟨f+1,upd R f 1000000,by omega,by go_num,by rw [<- rl_set,<- ic_set]; exact H7.out.1.put f _,fun j hj=>by
      by_cases e:j=f
      ·rw [e,upd_same,HDD.out]
      ·rw [upd_other _ _ e]; exact HR.out.2.1 j (by omega),H7.out.2.setCell (Nat.le_refl _) _⟩
     case measure=>simp [intOf]; omega
    ·have eg':(gg != 1000000)=true:=by rw [bne_iff_ne]; exact eg
     have HDD:Hid (asD C u f=gg):=by show _=_; rw [HD.out]; exact (if_neg eg).trans (by omega)
     go_wp2_with fail
     go_roundw
     case rel=>exact ⟨f+1,upd (upd R f 1000000) f (gg),by omega,by go_num,by rw [<- rl_set,<- rl_set,<- ic_set,<- ic_set]; exact (H7.out.1.put f _).put f _,fun j hj=>by
      by_cases e:j=f
      ·rw [e,upd_same,HDD.out]
      ·rw [upd_other _ _ e,upd_other _ _ e]; exact HR.out.2.1 j (by omega),(H7.out.2.setCell (Nat.le_refl _) _).setCell (Nat.le_refl _) _⟩
     case measure=>simp [intOf]; omega
   ·have hk':(k != 0)=true:=by rw [bne_iff_ne]; exact k0
    have hkr:-1<=k/\k<=1:=by omega
    obtain ⟨hk1,hk2⟩:=hkr
    cases hst:u.star with
    | true =>
     have hnz:nn=999:=by rw [HNn.out,if_neg k0,if_pos hst]
     subst hnz
     have HV:Hid (asV f t u.star u.sg=vz f t):=by show _=_; rw [HAs.out,if_neg (fun z=>by rw [hst] at z; cases z.2)]
     have H4:Hid (At (w2.setCell ⟨B2,t,none⟩ (.int .i64 0)) B2 (ic (asV f t u.star u.sg)) tNk/\Below w.heap.size w (w2.setCell ⟨B2,t,none⟩ (.int .i64 0))):=by rw [HV.out]; exact ⟨H3.out.1,H3.out.2.2⟩
     rw [hst] at y2
     clear HV HAs HNn k0
     have hgr:=HGr.out _ B2 (asV f t u.star u.sg) H4.out HCl.out.1 HCl.out.2.1 HCl.out.2.2
     go_wp2_with fail
     refine hgr.mono ?_
     rintro e w7 ⟨rfl,hb7⟩
     have H7:Hid (At w7 w.heap.size (ic (rl R)) tNk/\Below w.heap.size w w7):=⟨At.keep H3.out.2.1 hb7 (At.lt H3.out.2.1),(H3.out.2.2).trans (hb7.mono (H3.out.2.2).size)⟩
     have cf7:=H7.out.1.free
     have hb7l:=H7.out.1.lt
     obtain ⟨x7,hx7⟩:∃ x,w7.cell? ⟨w.heap.size,f,none⟩=some x:=⟨_,rl_cell H7.out.1 hlt⟩
     clear hb7 hgr
     obtain ⟨g1,g2⟩:=HRg.out f hlt
     have HD:Hid (asD C u f=pn (grE C (asV f t u.star u.sg)) 999):=HDf.out
     generalize grE C (asV f t u.star u.sg)=gg at *
     by_cases eg:gg=1000000
     ·subst eg
      have HDD:Hid (asD C u f=1000000):=by show _=_; rw [HD.out]; rfl
      go_wp2_with fail
      go_roundw
      case rel=>exact ⟨f+1,upd R f 1000000,by omega,by go_num,by rw [<- rl_set,<- ic_set]; exact H7.out.1.put f _,fun j hj=>by
       by_cases e:j=f
       ·rw [e,upd_same,HDD.out]
       ·rw [upd_other _ _ e]; exact HR.out.2.1 j (by omega),H7.out.2.setCell (Nat.le_refl _) _⟩
      case measure=>simp [intOf]; omega
     ·have eg':(gg != 1000000)=true:=by rw [bne_iff_ne]; exact eg
      have HDD:Hid (asD C u f=gg+999):=by show _=_; rw [HD.out]; exact (if_neg eg).trans (by omega)
      go_wp2_with fail
      go_roundw
      case rel=>exact ⟨f+1,upd (upd R f 1000000) f (gg+999),by omega,by go_num,by rw [<- rl_set,<- rl_set,<- ic_set,<- ic_set]; exact (H7.out.1.put f _).put f _,fun j hj=>by
       by_cases e:j=f
       ·rw [e,upd_same,HDD.out]
       ·rw [upd_other _ _ e,upd_other _ _ e]; exact HR.out.2.1 j (by omega),(H7.out.2.setCell (Nat.le_refl _) _).setCell (Nat.le_refl _) _⟩
      case measure=>simp [intOf]; omega
    | false =>
     have hnz:nn=k*u.num:=by rw [HNn.out,if_neg k0,hst,if_neg (by decide)]
     have HV:Hid (asV f t u.star u.sg=vad (vz f t) u.sg k):=by show _=_; rw [HAs.out,if_pos ⟨k0,hst⟩]
     have hkn:-99<=k*u.num/\k*u.num<=99:=by
      rcases hkk with z | z | z
      ·exact absurd z k0
      ·rw [z]; omega
      ·rw [z]; omega
     obtain ⟨kn1,kn2⟩:=hkn
     have HNk:Hid (nn=k*u.num):=hnz
     rw [hst] at y2
     have hvl:(vz f t).length=4:=by unfold vz; rw [List.length_set]; exact HFl.out f hlt
     have HPv:=(show Hid (∀ j,j<=4->_) from preV_at (vz f t) u.sg k hvl)
     have HP4:Hid (preV (vz f t) u.sg k 4=asV f t u.star u.sg):=by show _=_; rw [preV_4 _ _ _ hvl,HV.out]
     have HVr:Hid (∀ i,i < 4->-1<=gAt (vz f t) i/\gAt (vz f t) i<=1):=(show ∀ t:Nat,t < 4->∀ f,f < 32->∀ i,i < 4->-1<=gAt (vz f t) i/\gAt (vz f t) i<=1 by decide +kernel) t ht4 f hlt
     obtain ⟨w3,hw3⟩:∃ w3,w3=w2.setCell ⟨B2,t,none⟩ (.int .i64 0):=⟨_,rfl⟩
     have hmul:∀ z:Int,-1<=z->z<=1->-1<=k*z/\k*z<=1:=by
      intro z z1 z2
      rcases hkk with y | y | y
      ·exact absurd y k0
      ·rw [y]; omega
      ·rw [y]; omega
     have HMul:Hid (∀ z:Int,-1<=z->z<=1->-1<=k*z/\k*z<=1):=hmul
     clear hnz HV HAs HNn hkk hvl hmul hw3
     go_wp2_with fail
     go_loopw [10] (fun jv wx=>∃ (j:Nat),j<=4/\jv=.int .i64 j/\Hid (At wx B2 (ic (preV (vz f t) u.sg k j)) tNk/\At wx w.heap.size (ic (rl R)) tNk/\Below w.heap.size w wx)) (fun jv _=>4 - (intOf jv).toNat)
     case atStart=>exact ⟨0,by omega,rfl,H3.out⟩
     case round =>
      obtain ⟨j,hj,rfl,HQ⟩:=hrel
      by_cases hlj:j < 4
      ·have hji:(j:Int) < 4:=by omega
       obtain ⟨w8,rfl⟩:∃ w8,w8=wr:=⟨_,rfl⟩
       have ca:w8.cell? ⟨B2,j,none⟩=some (.int .i64 (gAt (vz f t) j)):=by
        obtain ⟨q1,q2⟩:=HPv.out j hj
        rw [HQ.out.1.cell,ic_get _ _ (by omega),q2 j (Nat.le_refl _)]
       have cb:w8.cell? ⟨q,j,none⟩=some (.int .i64 (gAt u.sg j)):=by
        rw [HQ.out.2.2.cell (p:=⟨q,j,none⟩) hql,HQl.out.1.cell]; exact ic_get _ _ (by rw [HQl.out.2]; exact hlj)
       obtain ⟨⟨z1,z2,z3,z4'⟩,hpl8⟩:=HX.out w8 HQ.out.2.2
       have cf:=HQ.out.1.free
       have hl1:=HQ.out.1.lt
       have hq8:q < w8.heap.size:=Nat.lt_of_lt_of_le hql HQ.out.2.2.size
       have hr1:=HVr.out j hlj
       have hr2:=hsg j
       have hr3:=HMul.out _ hr2.1 hr2.2
       obtain ⟨r11,r12⟩:=hr1
       obtain ⟨r21,r22⟩:=hr2
       obtain ⟨r31,r32⟩:=hr3
       have HP:Hid (preV (vz f t) u.sg k (j+1)=(preV (vz f t) u.sg k j).set j (gAt (vz f t) j+k*gAt u.sg j)):=rfl
       have hqB:q ≠ B2:=by omega
       generalize gAt (vz f t) j=a at *
       generalize gAt u.sg j=c at *
       go_wp2_with fail
       go_region
       all_goals
        go_wp2_with fail
        go_roundw
        case rel =>
         refine ⟨j+1,by omega,by go_num,?_,?_,?_⟩
         ·rw [HP.out,<- ic_set]
          exact At.drewN (HQ.out.1.put j _) 1
         ·exact At.drewN (HQ.out.2.1.other _ _ (by omega)) 1
         ·exact below_drewN (HQ.out.2.2.setCell (by show w.heap.size<=B2; omega) _) 1
        case measure=>simp [intOf]; omega
      ·have hj4:j=4:=by omega
       subst hj4
       have H4:Hid (At wr B2 (ic (asV f t u.star u.sg)) tNk/\Below w.heap.size w wr):=by rw [<- HP4.out]; exact ⟨HQ.out.1,HQ.out.2.2⟩
       rw [HNk.out] at HDf
       clear hlj
       have hgr:=HGr.out _ B2 (asV f t u.star u.sg) H4.out HCl.out.1 HCl.out.2.1 HCl.out.2.2
       go_wp2_with fail
       refine hgr.mono ?_
       rintro e w7 ⟨rfl,hb7⟩
       have H7:Hid (At w7 w.heap.size (ic (rl R)) tNk/\Below w.heap.size w w7):=⟨At.keep HQ.out.2.1 hb7 (At.lt HQ.out.2.1),(HQ.out.2.2).trans (hb7.mono (HQ.out.2.2).size)⟩
       have cf7:=H7.out.1.free
       have hb7l:=H7.out.1.lt
       obtain ⟨x7,hx7⟩:∃ x,w7.cell? ⟨w.heap.size,f,none⟩=some x:=⟨_,rl_cell H7.out.1 hlt⟩
       clear hb7 hgr
       obtain ⟨g1,g2⟩:=HRg.out f hlt
       have HD:Hid (asD C u f=pn (grE C (asV f t u.star u.sg)) (k*u.num)):=HDf.out
       generalize grE C (asV f t u.star u.sg)=gg at *
       by_cases eg:gg=1000000
       ·subst eg
        have HDD:Hid (asD C u f=1000000):=by show _=_; rw [HD.out]; rfl
        go_wp2_with fail
        go_roundw
        case rel=>exact ⟨f+1,upd R f 1000000,by omega,by go_num,by rw [<- rl_set,<- ic_set]; exact H7.out.1.put f _,fun j hj=>by
         by_cases e:j=f
         ·rw [e,upd_same,HDD.out]
         ·rw [upd_other _ _ e]; exact HR.out.2.1 j (by omega),H7.out.2.setCell (Nat.le_refl _) _⟩
        case measure=>simp [intOf]; omega
       ·have eg':(gg != 1000000)=true:=by rw [bne_iff_ne]; exact eg
        have HDD:Hid (asD C u f=gg+k*u.num):=by show _=_; rw [HD.out]; exact (if_neg eg).trans (by omega)
        go_wp2_with fail
        go_roundw
        case rel=>exact ⟨f+1,upd (upd R f 1000000) f (gg+k*u.num),by omega,by go_num,by rw [<- rl_set,<- rl_set,<- ic_set,<- ic_set]; exact (H7.out.1.put f _).put f _,fun j hj=>by
         by_cases e:j=f
         ·rw [e,upd_same,HDD.out]
         ·rw [upd_other _ _ e,upd_other _ _ e]; exact HR.out.2.1 j (by omega),(H7.out.2.setCell (Nat.le_refl _) _).setCell (Nat.le_refl _) _⟩
        case measure=>simp [intOf]; omega
  ·have hf32:f=32:=by omega
   subst hf32
   have HRR:Hid (rl R=rl (asD C u)):=by
    show _=_
    unfold rl
    exact List.map_congr_left fun j hj=>HR.out.2.1 j (by simpa using hj)
   go_wp2_with fail
   go_ret
   exact ⟨HR.out.2.2,w.heap.size,rfl,Nat.le_refl _,by rw [<- HRR.out]; exact HR.out.1⟩
end Go.Proofs.YtffajooegiempaaGreatDoor

