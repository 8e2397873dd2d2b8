import Derived.Test.YtffajooegiempaaGreatDoorJ34
set_option maxRecDepth 100000
set_option maxHeartbeats 6400000
namespace Go.Proofs.YtffajooegiempaaGreatDoor
open Go.RowKit
variable {w:World}
theorem atL_nat (L:List (Option (List Int))) (k:Nat):atL L (k:Int)=L.getD k none:=by
 unfold atL
 rw [if_neg (by omega),Int.toNat_natCast]
theorem allN_true:∀ n,allN (fun _=>true) n=true
 | 0=>rfl
 | n+1=>by show (allN (fun _=>true) n && true)=true; rw [allN_true n]; rfl
theorem chk_none {F:List Ds} {L:List (Option (List Int))} {k:Nat} (h:L.getD k none=none):chkP F L k=0:=by
 unfold chkP
 rw [atL_nat,h]
 have e:sfP (cE none) (cM none) (F.getD k (newDs 0 0))=true:=rfl
 rw [e,if_neg (by decide)]
 have e2:wayP F L k=fun _=>true:=by
  funext way
  unfold wayP
  rw [atL_nat,h]
  have e3:poE (cE none) (cM none) (F.getD k (newDs 0 0)) way=true:=rfl
  rw [e3]
  rfl
 rw [e2,if_pos (allN_true _)]
theorem RdL.isSlice {v:Value} {r:Option (List Int)} (h:RdL w v r):∃ a n c,v=.slice a n c:=by
 cases r with
 | none=>exact ⟨_,_,_,h⟩
 | some o=>obtain ⟨_,a,n,c,e⟩:=h; exact ⟨_,_,_,e⟩
def RkSays (F:List Ds) (L:List (Option (List Int))) (r:Int × Int):Prop:=if wiB false (cE (atL L 0)) (fun _=>0) (cM (atL L 0))=false then r=(5,0) else CkSays (chkP F L) F.length r
theorem r_checked {B r:Nat} {m:Rd} {vs vo:Value} {P Q O:Nat->Nat} {l:List Int} {F:List Ds} {L:List (Option (List Int))} (h:Rep B w r m vs vo P Q O) (hp:progOf l=some m) (hW:Whole F m.st) (hl:F.length<=20) (v:Value) (hv:ReadsL w v L) (hn:L.length=F.length+1) (hok:∀ r,r ∈ L->okp r) :
  Calls Tryz.prog 25 #[.pointer (some ⟨r,0,none⟩),v] w fun e w'=>∃ a b,e=.returned (.tuple #[.int .i64 a,.int .i64 b])/\RkSays F L (a,b)/\Below w.heap.size w w':=by
 have hq1:∀ (w:World) (a:Option Addr) (n c:Nat),(binOp .eql 32 (.slice a n c) (.slice none 0 0)).run Tryz.prog w=.ok (.bool a.isNone) w:=fun w a n c=>Lib.run_eql_slice_nil w 32 tN a n c 0 0 Tryz.underlying32
 have hSl:F.length=m.st.length:=hW.1.len
 obtain ⟨ao,cap,rfl,hcap,h0⟩:=hv
 obtain ⟨b,off,rfl,hblt,hcell⟩:=h0 (by omega)
 have HC:Hid (∀ w1,Below w.heap.size w w1->∀ i,i < F.length+1->∃ a nn c,w1.cell? ⟨b,off+i,none⟩=some (.slice a nn c)/\RdL w1 (.slice a nn c) (L.getD i none)):=fun w1 hb i hi=>by
  obtain ⟨x,h1,h2⟩:=hcell i (by omega)
  obtain ⟨a,nn,c,rfl⟩:=h2.isSlice
  exact ⟨a,nn,c,(hb.cell (by exact hblt)).trans h1,h2.keep hb⟩
 have HSt:Hid (∀ w1 a nn c,RdL w1 (.slice a nn c) (L.getD 0 none)->Calls Tryz.prog 63 #[.slice a nn c] w1 fun e w'=>e=.returned (.bool (wiB false (cE (atL L 0)) (fun _=>0) (cM (atL L 0))))/\Below w1.heap.size w1 w'):=fun w1 a nn c hr=>by
  have e0:atL L 0=L.getD 0 none:=atL_nat L 0
  rw [e0]
  exact r_starts _ _ (getD_ok hok 0) hr
 have HSf:Hid (∀ w1,Below w.heap.size w w1->∀ k,k < F.length->∀ o a nn c,L.getD k none=some o->RdL w1 (.slice a nn c) (some o)->Calls Tryz.prog 64 #[.pointer (some ⟨r,0,none⟩),.int .i64 (k:Int),.slice a nn c] w1 fun e w'=>e=.returned (.bool (sfP (cE (atL L k)) (cM (atL L k)) (F.getD k (newDs 0 0))))/\Below w1.heap.size w1 w'):=fun w1 hb k hk o a nn c hr hrd=>by
  have ho:okL o:=okp_ok (by rw [<- hr]; exact getD_ok hok k)
  rw [atL_nat,hr]
  show Calls Tryz.prog 64 _ w1 fun e w'=>e=.returned (.bool (sfP (ovE o) (ovM o) (F.getD k (newDs 0 0))))/\_
  rw [sf_same (dsg_of hp hW hk).2 (stg_of hp k) ho]
  exact r_safe (h.keep hb) k (by omega) (stg_of hp k) _ o ho hrd.1
 have HWy:Hid (∀ w1,Below w.heap.size w w1->∀ k:Nat,k < F.length->Calls Tryz.prog 21 #[.pointer (some ⟨r,0,none⟩),.int .i64 (k:Int)] w1 fun e w'=>e=.returned (.int .i64 (waysP (F.getD k (newDs 0 0)).kind))/\w'=w1):=fun w1 hb k hk=>by
  have:=(h.keep hb).ways (k:Int)
  rw [if_neg (by omega),Int.toNat_natCast,<- ways_same hW hk] at this
  exact this
 have HAf:Hid (∀ w1,Below w.heap.size w w1->∀ k,k < F.length->∀ o a nn c way,L.getD k none=some o->RdL w1 (.slice a nn c) (some o)->Calls Tryz.prog 22 #[.pointer (some ⟨r,0,none⟩),.int .i64 (k:Int),.int .i64 way,.slice a nn c] w1 (LSays w1 (poE (cE (atL L k)) (cM (atL L k)) (F.getD k (newDs 0 0)) way) (poM (cE (atL L k)) (cM (atL L k)) (F.getD k (newDs 0 0)) way))):=fun w1 hb k hk o a nn c way hr hrd=>by
  have ho:okL o:=okp_ok (by rw [<- hr]; exact getD_ok hok k)
  rw [atL_nat,hr]
  exact r_after (h.keep hb) k (by omega) (stq_of hp (by omega)) (dsg_of hp hW hk).2 way _ (ovE o) ⟨_,_,_,rfl⟩ (r_closed_ok _ o ho hrd.1) (fun he=>ov_tq ho he)
 have HNx:Hid (∀ w1,Below w.heap.size w w1->∀ (k way:Nat),k < F.length->(way:Int) < waysP (F.getD k (newDs 0 0)).kind->Calls Tryz.prog 23 #[.pointer (some ⟨r,0,none⟩),.int .i64 (k:Int),.int .i64 (way:Int)] w1 fun e w'=>e=.returned (.int .i64 (nextP F k way).1)/\Below w1.heap.size w1 w'):=fun w1 hb k way hk hw=>by
  have e:=next_same hW hl k hk way
  rw [if_neg (by rw [<- ways_same hW hk]; omega)] at e
  rw [e]
  exact ((h.keep hb).next (by omega) k (by omega) way).mono fun e w' ⟨h1,j,h2⟩=>⟨h1,by rw [h2]; exact below_drewN (Below.refl _ _) j⟩
 have HIn:Hid (∀ w1 (k way qn:Nat) u a nn c,k < F.length->(nextP F k way).1=(qn:Int)->LV w1 (poE (cE (atL L k)) (cM (atL L k)) (F.getD k (newDs 0 0)) way) (poM (cE (atL L k)) (cM (atL L k)) (F.getD k (newDs 0 0)) way) u->RdL w1 (.slice a nn c) (L.getD qn none)->Calls Tryz.prog 65 #[u,.slice a nn c] w1 fun e w'=>e=.returned (.bool (wayP F L k way))/\Below w1.heap.size w1 w'):=fun w1 k way qn u a nn c hk hq hu hrd=>by
  unfold wayP
  rw [hq,atL_nat L qn]
  refine r_inside_t u _ _ (fun he=>?_) (getD_ok hok qn) hu hrd
  have hD:=dsg_of hp hW hk
  have hqs:=stq_of hp (show k < m.st.length by omega)
  have ht:0<=(F.getD k (newDs 0 0)).target/\(F.getD k (newDs 0 0)).target < 4:=by rw [<- hD.2.2.1]; exact ⟨hqs.var.1,by have:=hqs.var.2; omega⟩
  have hS:=po_sm (c_rng (atL_ok hok (k:Int))) (c_sh (atL_ok hok (k:Int))) hD.1 ht way
  cases hce:cE (atL L k) with
  | true=>rw [hce] at he; cases he
  | false =>
   rw [hce] at he hS
   exact ⟨po_tc (c_tq (atL_ok hok _) hce) hD.1 hqs hD.2 way he,hS⟩
 have HLn:Hid (∀ w1,Below w.heap.size w w1->∃ sa sc,w1.cell? ⟨r,1,none⟩=some (.slice sa F.length sc)):=fun w1 hb=>by
  obtain ⟨sa,sc,hvs⟩:=(h.keep hb).slen'
  obtain ⟨_,r1,_⟩:=(h.keep hb).rdc
  rw [hvs,<- hSl] at r1
  exact ⟨sa,sc,r1⟩
 have HNi:Hid (∀ (k way:Nat),k < F.length->(way:Int) < waysP (F.getD k (newDs 0 0)).kind->∃ qn:Nat,(nextP F k way).1=(qn:Int)/\qn < F.length+1):=fun k way hk hw=>by
  have:=nextP_in (F:=F) k way (next_z F k hk way hw)
  exact ⟨(nextP F k way).1.toNat,by omega,by omega⟩
 have HCk:Hid (∀ k,chkP F L k=if sfP (cE (atL L k)) (cM (atL L k)) (F.getD k (newDs 0 0))=false then 6 else if allN (wayP F L k) (waysP (F.getD k (newDs 0 0)).kind).toNat then 0 else 7):=fun k=>rfl
 have HNo:Hid (∀ k,L.getD k none=none->chkP F L k=0):=fun k hk=>chk_none hk
 have HWr:Hid (∀ k,1<=waysP (F.getD k (newDs 0 0)).kind/\waysP (F.getD k (newDs 0 0)).kind<=2):=fun k=>ways_rng _
 have hr0:r < w.heap.size:=h.rd.lt
 have HK5:Hid (wiB false (cE (atL L 0)) (fun _=>0) (cM (atL L 0))=false->RkSays F L (5,0)):=fun q=>by show RkSays F L (5,0); unfold RkSays; rw [if_pos q]
 have HKk:Hid (wiB false (cE (atL L 0)) (fun _=>0) (cM (atL L 0))=true->∀ r,CkSays (chkP F L) F.length r->RkSays F L r):=fun q r h=>by show RkSays F L r; unfold RkSays; rw [if_neg (by rw [q]; decide)]; exact h
 clear h hp hW h0 hcell hok hcap hSl
 generalize chkP F L=f at *
 rw [hn]
 generalize hnn:F.length=n at *
 obtain ⟨a0,n0,c0,cx0,hrd0⟩:=HC.out w (Below.refl _ _) 0 (by omega)
 have cx00:w.cell? ⟨b,off,none⟩=some (.slice a0 n0 c0):=cx0
 have hst:=HSt.out w _ _ _ hrd0
 have h0n:(0:Int) < ((n+1:Nat):Int):=by omega
 clear hrd0 HSt
 generalize wiB false (cE (atL L 0)) (fun _=>0) (cM (atL L 0))=st at *
 go_enter Tryz.func25,Tryz.ntmps25
 go_wp2_with fail
 refine hst.mono ?_
 rintro e w1 ⟨rfl,hb1⟩
 have HB1:Hid (Below w.heap.size w w1):=hb1
 clear hb1 hst cx0 cx00
 cases st with
 | false =>
  have HK6:Hid (RkSays F L (5,0)):=HK5.out rfl
  clear HK5 HKk
  go_wp2_with fail
  go_ret2
  exact ⟨_,_,rfl,HK6.out,HB1.out⟩
 | true =>
  have HKl:Hid (∀ r,CkSays f n r->RkSays F L r):=HKk.out rfl
  clear HK5 HKk
  go_wp2_with fail
  go_loopw [6,7] (fun okv pv wr=>∃ (i:Nat) (bb:Bool),i<=n/\okv=.bool bb/\pv=.int .i64 (i:Int)/\Hid ((∀ j,j < i->f j=0)/\Below w.heap.size w wr)) (fun _ pv _=>n - (intOf pv).toNat)
  case atStart=>exact ⟨0,_,by omega,rfl,rfl,fun j hj=>by omega,HB1.out⟩
  case round =>
   obtain ⟨i,bb,hi,rfl,rfl,HR⟩:=hrel
   obtain ⟨sa,sc,cl⟩:=HLn.out wr HR.out.2
   by_cases hin:i < n
   ·have hii:(i:Int) < (n:Int):=by omega
    have hii1:(i:Int) < ((n+1:Nat):Int):=by omega
    obtain ⟨a,nn,c,cx,hrd⟩:=HC.out wr HR.out.2 i (by omega)
    have HA:Hid (f i=0->∀ j,j < i+1->f j=0):=fun h0 j hj=>by
     rcases Nat.lt_or_ge j i with q | q
     ·exact HR.out.1 j q
     ·rw [show j=i by omega]; exact h0
    cases hr:L.getD i none with
    | none =>
     rw [hr] at hrd
     have hrd':Value.slice a nn c=.slice none 0 0:=hrd
     cases hrd'
     have HF:Hid (∀ j,j < i+1->f j=0):=HA.out (HNo.out i hr)
     clear hrd
     go_wp2_with fail
     go_roundw
     case rel=>exact ⟨i+1,bb,by omega,rfl,by go_num,HF.out,HR.out.2⟩
     case measure=>simp [intOf]; omega
    | some o =>
     rw [hr] at hrd
     obtain ⟨a',nn',c',e'⟩:=id hrd.2
     cases e'
     have hsf:=HSf.out wr HR.out.2 i (by omega) o _ _ _ hr hrd
     have HCi:Hid (f i=if sfP (cE (atL L i)) (cM (atL L i)) (F.getD i (newDs 0 0))=false then 6 else if allN (wayP F L i) (waysP (F.getD i (newDs 0 0)).kind).toNat then 0 else 7):=HCk.out i
     have HHr:Hid (L.getD i none=some o):=hr
     clear hrd hr
     generalize sfP (cE (atL L i)) (cM (atL L i)) (F.getD i (newDs 0 0))=sf at *
     go_wp2_with fail
     refine hsf.mono ?_
     rintro e w2 ⟨rfl,hb2⟩
     have H2:Hid (Below w.heap.size w w2):=HR.out.2.trans (hb2.mono HR.out.2.size)
     clear hb2 hsf cx cl
     cases sf with
     | false =>
      have HF:Hid (f i=6):=HCi.out.trans (if_pos rfl)
      clear HCi
      go_wp2_with fail
      go_ret2
      exact ⟨_,_,rfl,HKl.out _ (.inr ⟨i,hin,HR.out.1,by rw [HF.out]; decide,by rw [HF.out]⟩),H2.out⟩
     | true =>
      have HCj:Hid (f i=if allN (wayP F L i) (waysP (F.getD i (newDs 0 0)).kind).toNat then 0 else 7):=HCi.out.trans (if_neg (by decide))
      have hwy:=HWy.out w2 H2.out i (by omega)
      have hwr:=HWr.out i
      have HNxi:Hid (∀ w1,Below w.heap.size w w1->∀ (way:Nat),(way:Int) < waysP (F.getD i (newDs 0 0)).kind->∃ qn:Nat,qn < n+1/\(nextP F i way).1=(qn:Int)/\Calls Tryz.prog 23 #[.pointer (some ⟨r,0,none⟩),.int .i64 (i:Int),.int .i64 (way:Int)] w1 fun e w'=>e=.returned (.int .i64 (qn:Int))/\Below w1.heap.size w1 w'):=fun w1 hb way hw=>by
       obtain ⟨qn,q1,q2⟩:=HNi.out i way (by omega) hw
       have:=HNx.out w1 hb i way (by omega) hw
       rw [q1] at this
       exact ⟨qn,q2,q1,this⟩
      have HAfi:Hid (∀ w1,Below w.heap.size w w1->∀ a nn c (way:Nat),RdL w1 (.slice a nn c) (some o)->Calls Tryz.prog 22 #[.pointer (some ⟨r,0,none⟩),.int .i64 (i:Int),.int .i64 (way:Int),.slice a nn c] w1 fun e w'=>∃ a' n' c',e=.returned (.slice a' n' c')/\Below w1.heap.size w1 w'/\LV w' (poE (cE (atL L i)) (cM (atL L i)) (F.getD i (newDs 0 0)) way) (poM (cE (atL L i)) (cM (atL L i)) (F.getD i (newDs 0 0)) way) (.slice a' n' c')):=fun w1 hb a nn c way hrd=>by
       refine (HAf.out w1 hb i (by omega) o a nn c way HHr.out hrd).mono ?_
       rintro e w' ⟨hb',⟨h1,rfl⟩ | ⟨h1,g,rfl,hg,ha⟩⟩
       ·exact ⟨_,_,_,rfl,hb',.inl ⟨h1,rfl⟩⟩
       ·exact ⟨_,_,_,rfl,hb',.inr ⟨h1,g,rfl,ha⟩⟩
      have HIni:Hid (∀ w1 (way qn:Nat) u a nn c,(nextP F i way).1=(qn:Int)->LV w1 (poE (cE (atL L i)) (cM (atL L i)) (F.getD i (newDs 0 0)) way) (poM (cE (atL L i)) (cM (atL L i)) (F.getD i (newDs 0 0)) way) u->RdL w1 (.slice a nn c) (L.getD qn none)->Calls Tryz.prog 65 #[u,.slice a nn c] w1 fun e w'=>e=.returned (.bool (wayP F L i way))/\Below w1.heap.size w1 w'):=fun w1 way qn u a nn c hq hu hrd=>HIn.out w1 i way qn u a nn c (by omega) hq hu hrd
      have HCx:Hid (∀ w1,Below w.heap.size w w1->∀ j,j < n+1->∃ a nn c,w1.cell? ⟨b,off+j,none⟩=some (.slice a nn c)/\RdL w1 (.slice a nn c) (L.getD j none)):=HC.out
      clear HCi HSf HWy HAf HNx HIn HNi HCk HWr
      generalize wayP F L i=wp at *
      obtain ⟨kn,hkn⟩:∃ kn:Nat,waysP (F.getD i (newDs 0 0)).kind=(kn:Int):=⟨(waysP (F.getD i (newDs 0 0)).kind).toNat,by omega⟩
      rw [hkn] at HCj hwy hwr HNxi
      rw [Int.toNat_natCast] at HCj
      clear hkn
      go_wp2_with fail
      refine hwy.mono ?_
      rintro e w3 ⟨rfl,rfl⟩
      clear hwy
      go_wp2_with fail
      go_loopw [6,9] (fun okv yv wq=>∃ (y:Nat) (bb:Bool),y<=kn/\okv=.bool bb/\yv=.int .i64 (y:Int)/\Hid (allN wp y=true/\Below w.heap.size w wq)) (fun _ yv _=>kn - (intOf yv).toNat)
      case atStart=>exact ⟨0,_,by omega,rfl,rfl,rfl,H2.out⟩
      case round =>
       obtain ⟨y,bb',hy,rfl,rfl,HQ⟩:=hrel
       by_cases hyn:y < kn
       ·have hyi:(y:Int) < (kn:Int):=by omega
        obtain ⟨a1,n1,c1,cx1,hrd1⟩:=HCx.out wr HQ.out.2 i (by omega)
        rw [HHr.out] at hrd1
        have haf:=HAfi.out wr HQ.out.2 a1 n1 c1 y hrd1
        clear hrd1
        go_wp2_with fail
        refine haf.mono ?_
        rintro e w4 ⟨ua,un,uc,rfl,hb4,hu4⟩
        have H4:Hid (Below w.heap.size w w4/\LV w4 (poE (cE (atL L i)) (cM (atL L i)) (F.getD i (newDs 0 0)) y) (poM (cE (atL L i)) (cM (atL L i)) (F.getD i (newDs 0 0)) y) (.slice ua un uc)):=⟨HQ.out.2.trans (hb4.mono HQ.out.2.size),hu4⟩
        clear hb4 hu4 haf cx1
        obtain ⟨qn,hqn,hqe,hnx⟩:=HNxi.out w4 H4.out.1 y hyi
        have HQe:Hid ((nextP F i y).1=(qn:Int)):=hqe
        clear hqe
        go_wp2_with fail
        refine hnx.mono ?_
        rintro e w5 ⟨rfl,hb5⟩
        have H5:Hid (Below w.heap.size w w5/\LV w5 (poE (cE (atL L i)) (cM (atL L i)) (F.getD i (newDs 0 0)) y) (poM (cE (atL L i)) (cM (atL L i)) (F.getD i (newDs 0 0)) y) (.slice ua un uc)):=⟨H4.out.1.trans (hb5.mono H4.out.1.size),H4.out.2.keep hb5⟩
        clear hb5 hnx
        obtain ⟨a2,n2,c2,cx2,hrd2⟩:=HCx.out w5 H5.out.1 qn hqn
        have hqi:(qn:Int) < ((n+1:Nat):Int):=by omega
        have his:=HIni.out w5 y qn _ a2 n2 c2 HQe.out H5.out.2 hrd2
        clear hrd2
        go_wp2_with fail
        refine his.mono ?_
        rintro e w6 ⟨rfl,hb6⟩
        have H6:Hid (Below w.heap.size w w6):=H5.out.1.trans (hb6.mono H5.out.1.size)
        clear hb6 his cx2
        cases hwp:wp y with
        | false =>
         have HF:Hid (f i=7):=HCj.out.trans (if_neg (by rw [allN_no hyn hwp]; decide))
         clear hwp
         go_wp2_with fail
         go_ret2
         exact ⟨_,_,rfl,HKl.out _ (.inr ⟨i,hin,HR.out.1,by rw [HF.out]; decide,by rw [HF.out]⟩),H6.out⟩
        | true =>
         have HE8:Hid (allN wp (y+1)=true):=by show (allN wp y && wp y)=true; rw [HQ.out.1,hwp]; rfl
         clear hwp
         go_wp2_with fail
         go_roundw
         case rel=>exact ⟨y+1,_,by omega,rfl,by go_num,HE8.out,H6.out⟩
         case measure=>simp [intOf]; omega
       ·have hye:y=kn:=by omega
        subst hye
        have HF:Hid (∀ j,j < i+1->f j=0):=HA.out (HCj.out.trans (if_pos HQ.out.1))
        go_wp2_with fail
        go_roundw
        case rel=>exact ⟨i+1,_,by omega,rfl,by go_num,HF.out,HQ.out.2⟩
        case measure=>simp [intOf]; omega
   ·have hie:i=n:=by omega
    subst hie
    go_wp2_with fail
    go_ret2
    exact ⟨_,_,rfl,HKl.out _ (.inl ⟨HR.out.1,rfl⟩),HR.out.2⟩
end Go.Proofs.YtffajooegiempaaGreatDoor

namespace Go.Proofs.YtffajooegiempaaGreatDoor
open Go.RowKit
variable {M N:Nat->Int} {F:List Ds} {c:Int}
structure Wv (c:Int) (M:Nat->Int):Prop where
 tc:TC M
 box:∀ i,i < 8->M (i*8+i)<=2*c
theorem Wv.mono {d:Int} (h:Wv c M) (hd:c<=d):Wv d M:=⟨h.tc,fun i hi=>by have:=h.box i hi; omega⟩
theorem Wv.ne (h:Wv c M) (hc:c<=9000) {i:Nat} (hi:i < 8):M (i*8+i) ≠ NB:=by have:=h.box i hi; unfold NB; omega
theorem Wv.up (h:Wv c M) (hc:c<=9000) {i j:Nat} (hi:i < 8) (hj:j < 8):M (i*8+j) ≠ NB/\M (i*8+j)<=2*c:=by
 obtain ⟨a,b⟩:=h.tc.half i j hi hj (h.ne hc hi) (h.ne hc hj)
 have:=h.box i hi
 have:=h.box j hj
 exact ⟨a,by omega⟩
theorem Wv.lo (h:Wv c M) (hc:c<=9000) {i j:Nat} (hi:i < 8) (hj:j < 8):-(2*c)<=M (i*8+j):=by
 have t:=h.tc.tri (opp j) (opp_lt hj) i (opp i) hi (opp_lt hi)
 rw [h.tc.zero i hi,opp_opp j hj] at t
 have a:=h.up hc hi hj
 have b:=h.up hc (opp_lt hj) (opp_lt hi)
 rcases t with q | q | q
 ·exact absurd q a.1
 ·exact absurd q b.1
 ·omega
theorem Wv.all (h:Wv c M) (hc:c<=9000) {k:Nat} (hk:k < 64):M k ≠ NB/\-(2*c)<=M k/\M k<=2*c:=by
 have e:k=k / 8*8+k % 8:=by omega
 rw [e]
 have a:=h.up hc (i:=k / 8) (j:=k % 8) (by omega) (by omega)
 exact ⟨a.1,h.lo hc (by omega) (by omega),a.2⟩
theorem Wv.tq (h:Wv c M) (hc:c<=9000):TQ M:=⟨h.tc,fun k hk=>.inr (by have:=h.all hc hk; omega),fun k hk=>by have:=h.all hc hk; omega⟩
theorem Wv.sm (h:Wv c M) (hc:c<=9000):Sm M:=fun k hk=>by have:=h.all hc hk; omega
theorem wv_zero (hc:0<=c):Wv c (fun _=>0):=⟨tc_zero,fun _ _=>by show (0:Int)<=2*c; omega⟩
theorem wv_join (hc:c<=9000) (h:Wv c M) (k:Wv c N):Wv c (jF M N 64):=by
 have fin:∀ {a:Nat},a < 64->jF M N 64 a ≠ NB/\jF M N 64 a<=2*c:=fun {a} ha=>by
  rcases (jF_mx M N ha).1 with e | e <;> rw [e]
  ·exact ⟨(h.all hc ha).1,(h.all hc ha).2.2⟩
  ·exact ⟨(k.all hc ha).1,(k.all hc ha).2.2⟩
 refine ⟨⟨?_,?_,?_,?_,?_,?_⟩,fun i hi=>(fin (by omega)).2⟩
 ·intro s hs i j hi hj
  have o1:=opp_lt hs
  have a1:=jF_mx M N (a:=i*8+j) (by omega)
  have a2:=jF_mx M N (a:=i*8+opp s) (by omega)
  have a3:=jF_mx M N (a:=s*8+j) (by omega)
  refine .inr (.inr ⟨(fin (by omega)).1,?_⟩)
  have t1:=h.tc.tri s hs i j hi hj
  have t2:=k.tc.tri s hs i j hi hj
  have n1:=h.up hc hi o1
  have n2:=h.up hc hs hj
  have n3:=k.up hc hi o1
  have n4:=k.up hc hs hj
  rcases t1 with q | q | q
  ·exact absurd q n1.1
  ·exact absurd q n2.1
  ·rcases t2 with r | r | r
   ·exact absurd r n3.1
   ·exact absurd r n4.1
   ·rcases a1.1 with e | e <;> rw [e] <;> omega
 ·intro i hi
  have o:=opp_lt hi
  rcases (jF_mx M N (a:=i*8+opp i) (by omega)).1 with e | e <;> rw [e]
  ·exact h.tc.zero i hi
  ·exact k.tc.zero i hi
 ·intro i hi
  rcases (jF_mx M N (a:=i*8+i) (by omega)).1 with e | e <;> rw [e]
  ·exact h.tc.even i hi
  ·exact k.tc.even i hi
 ·intro i j hi hj _ _
  refine ⟨(fin (by omega)).1,?_⟩
  have a1:=jF_mx M N (a:=i*8+j) (by omega)
  have a2:=jF_mx M N (a:=i*8+i) (by omega)
  have a3:=jF_mx M N (a:=j*8+j) (by omega)
  have t1:=(h.tc.half i j hi hj (h.ne hc hi) (h.ne hc hj)).2
  have t2:=(k.tc.half i j hi hj (k.ne hc hi) (k.ne hc hj)).2
  rcases a1.1 with e | e <;> rw [e] <;> omega
 ·intro i j hi hj
  rw [jF_eq,jF_eq,h.tc.sym i j hi hj,k.tc.sym i j hi hj]
  by_cases q:M (j*8+i) < N (j*8+i)
  ·rw [if_pos ⟨by omega,q⟩,if_pos ⟨by omega,q⟩]
  ·rw [if_neg (fun z=>q z.2),if_neg (fun z=>q z.2)]
 ·intro a ha
  have:=fin ha
  exact .inr (by omega)
theorem gr_diag_v (h:Wv c M) (hc:c<=9000) {i:Nat} (hi:i < 8):2*mo M i i=M (i*8+i):=by
 exact ((mo_tc h.tc hi).2 (h.ne hc hi)).1
theorem wv_post (h:Wv c M) (hc:c<=9000) (h9:999<=c) {x:Ds} (hx:DQ x) (way:Int) (he:poE false M x way=false):Wv (c+99) (poM false M x way):=by
 have n:=hx.g.num
 have ht:=hx.tg
 have hT:=h.tq hc
 unfold poE at he
 unfold poM
 rw [if_neg (by decide)] at he |-
 by_cases k0:x.kind=0
 ·rw [if_pos k0]
  unfold asM
  have bt:∀ {lo hi:Int},-999<=lo->hi<=999->lo<=hi->Wv (c+99) (sbT M x.target.toNat lo hi):=fun {lo hi} h1 h2 h3=>by
   have hlo:-999<=lo/\lo<=999:=⟨h1,by omega⟩
   have hhi:-999<=hi/\hi<=999:=⟨by omega,h2⟩
   refine ⟨(bt_tc h.tc hT.top (by omega) hlo hhi h3).1,fun i hi'=>?_⟩
   rw [sbT_at M (by omega) hlo hhi hi' hi']
   unfold sbG
   by_cases ti:isT x.target.toNat i
   ·rw [if_pos ti,if_pos ti,if_pos rfl]
    split <;> omega
   ·rw [if_neg ti,if_neg ti]
    have:=h.box i hi'
    omega
  by_cases a:x.any=true
  ·rw [if_pos a]
   exact bt (by omega) (by omega) (by omega)
  ·rw [if_neg a]
   by_cases q:sd1 x.sg=opp (sd2 x.sg)
   ·rw [if_pos q]
    exact bt (by omega) (by omega) (Int.le_refl _)
   ·rw [if_neg q]
    have hf:=(sdS_lt x.sg 4 (Nat.le_refl _)).1
    have hf':sd1 x.sg < 8:=hf
    refine ⟨(ss_tc h.tc hT.top (by omega) hf ⟨by omega,by omega⟩).1,fun i hi=>?_⟩
    rw [ss_at M _ _ _ hi hi]
    have b0:=h.box i hi
    have b1:=h.box _ hf'
    have b2:=h.box _ (opp_lt hf')
    unfold orgF addF
    by_cases i1:i=2*x.target.toNat
    ·rw [if_pos i1,if_pos i1]
     unfold pl
     rw [if_neg (fun z=>z.elim (h.ne hc hf') (fun q=>by unfold NB at q; omega))]
     omega
    ·rw [if_neg i1,if_neg i1]
     by_cases i2:i=2*x.target.toNat+1
     ·rw [if_pos i2,if_pos i2]
      unfold pl
      rw [if_neg (fun z=>z.elim (h.ne hc (opp_lt hf')) (fun q=>by unfold NB at q; omega))]
      omega
     ·rw [if_neg i2,if_neg i2]
      unfold pl
      rw [if_neg (fun z=>z.elim (h.ne hc hi) (fun q=>by unfold NB at q; omega))]
      omega
 ·rw [if_neg k0] at he |-
  cases ha:x.any with
  | true=>rw [if_pos rfl]; exact h.mono (by omega)
  | false =>
   rw [ha,if_neg (by decide)] at he
   rw [if_neg (by decide)]
   have hz1:1<=nz x.sg:=(hx.fc k0).resolve_left (by rw [ha]; decide)
   have fin:∀ {l:List Int} {d:Int},l.length=4->(∀ i,-1<=gAt l i/\gAt l i<=1)->1<=nz l->nz l<=2->d<=1000->atE false M l d=false->Wv (c+99) (atM false M l d):=fun {l d} a1 a2 a3 a4 a5 a6=>by
    refine ⟨at_tc hT a1 a2 a3 a4 a5 a6,fun i hi=>?_⟩
    obtain ⟨f,hf,hnf,hgr,hs1,hs2⟩:=grP_form h.tc a1 a2 a3 a4
    have b0:=h.box i hi
    unfold atM
    by_cases q:atS false M l d=true
    ·rw [if_pos q]; omega
    ·rw [if_neg q]
     have e:lm M (sd1 l) (sd2 l) d=sb M f d:=by rw [hs1,hs2]; rfl
     rw [e]
     have s1:=sharp_le (sb M f d) (i*8+i)
     have hd':¬ grP M l<=d:=by
      unfold atS at q
      simpa using q
     rw [hgr] at hd'
     rw [sb_at M hf (by unfold NB; omega) hi hi] at s1
     split at s1
     ·rename_i z
      obtain ⟨n1,n2,n3,n4,n5,n6⟩:=nf_fs f hf
      have f8:f < 8:=by
       rcases Nat.lt_or_ge f 8 with r | r
       ·exact r
       ·exact absurd (show fs f=ss f by omega) (fs_hi f hf r)
      rw [if_pos f8] at s1
      have hb:bd M f=mo M f f:=by
       obtain ⟨q1,q2⟩:=fs_lo f f8
       unfold bd mo
       rw [q1,q2]
      have hd:=gr_diag_v h hc f8
      have hif:i=f:=by
       obtain ⟨q1,q2⟩:=fs_lo f f8
       omega
      rw [hb] at hd'
      rw [<- hif] at hd' hd
      omega
     ·omega
   by_cases w0:way=0
   ·rw [if_pos w0] at he |-
    exact fin hx.len hx.g.sg hz1 hx.nz2 (by omega) he
   ·rw [if_neg w0] at he |-
    exact fin (ngL_len _) (ngL_rng hx.g.sg) (by rw [nz_ngL hx.len]; exact hz1) (by rw [nz_ngL hx.len]; exact hx.nz2) (by omega) he
def jnO:Option (Nat->Int)->Bool->(Nat->Int)->Option (Nat->Int)
 | r,true,_=>r
 | none,false,M=>some M
 | some A,false,M=>some (jF A M 64)
abbrev Kl:=List (Option (Nat->Int))
inductive Bld (F:List Ds):Nat->Kl->Prop
 | beg:Bld F 0 (some (fun _=>0) :: List.replicate F.length none)
 | stp {t:Nat} {K:Kl} {k:Nat} {M:Nat->Int} (q:Nat) (way:Int):Bld F t K->k < F.length->K.getD k none=some M->Bld F (t+1) (K.set q (jnO (K.getD q none) (poE false M (F.getD k (newDs 0 0)) way) (poM false M (F.getD k (newDs 0 0)) way)))
theorem Bld.len {t:Nat} {K:Kl} (h:Bld F t K):K.length=F.length+1:=by
 induction h with
 | beg=>simp
 | stp q way _ _ _ ih=>rw [List.length_set]; exact ih
theorem kset_at (K:Kl) (q i:Nat) (o:Option (Nat->Int)):(K.set q o).getD i none=if q=i/\q < K.length then o else K.getD i none:=by
 rw [List.getD_eq_getElem?_getD,List.getD_eq_getElem?_getD,List.getElem?_set]
 by_cases e:q=i
 ·subst e
  by_cases l:q < K.length
  ·rw [if_pos rfl,if_pos l,if_pos ⟨rfl,l⟩]; rfl
  ·rw [if_pos rfl,if_neg l,if_neg (fun z=>l z.2),List.getElem?_eq_none (by omega)]
 ·rw [if_neg e,if_neg (fun z=>e z.1)]
theorem jnO_keep {P:(Nat->Int)->Prop} (hj:∀ A B,P A->P B->P (jF A B 64)) {r:Option (Nat->Int)} {e:Bool} {M:Nat->Int} (hr:∀ A,r=some A->P A) (hM:e=false->P M):∀ A,jnO r e M=some A->P A:=by
 intro A h
 cases e with
 | true=>cases r <;> exact hr A h
 | false =>
  cases r with
  | none=>cases h; exact hM rfl
  | some B=>cases h; exact hj _ _ (hr B rfl) (hM rfl)
theorem beg_at (i:Nat) (A:Nat->Int) (h:(some (fun _=>(0:Int)) :: List.replicate F.length none:Kl).getD i none=some A):A=fun _=>0:=by
 cases i with
 | zero=>cases h; rfl
 | succ i =>
  rw [List.getD_cons_succ,List.getD_eq_getElem?_getD,List.getElem?_replicate] at h
  split at h <;> cases h
theorem Bld.wv (hD:∀ k,k < F.length->DQ (F.getD k (newDs 0 0))) {t:Nat} {K:Kl} (h:Bld F t K) (ht:t<=40):∀ i A,K.getD i none=some A->Wv (999+99*t) A:=by
 induction h with
 | beg=>intro i A hA; rw [beg_at i A hA]; exact wv_zero (by omega)
 | @stp t K k M q way _ hk hM ih =>
  intro i A hA
  have ih':=ih (by omega)
  have e1:(999:Int)+99*((t+1:Nat):Int)=999+99*(t:Int)+99:=by omega
  rw [e1]
  rw [kset_at] at hA
  split at hA
  ·refine jnO_keep (P:=Wv (999+99*(t:Int)+99)) (fun A B a b=>wv_join (by omega) a b) (fun A h=>(ih' q A h).mono (by omega)) (fun he=>wv_post (ih' k M hM) (by omega) (by omega) (hD k hk) way he) A hA
  ·exact (ih' i A hA).mono (by omega)
def Grw (K K':Kl):Prop:=∀ i A,K.getD i none=some A->∃ B,K'.getD i none=some B/\Le A B
theorem Grw.refl (K:Kl):Grw K K:=fun _ A h=>⟨A,h,fun _ _=>Int.le_refl _⟩
theorem Grw.trans {K K' K'':Kl} (h:Grw K K') (h':Grw K' K''):Grw K K'':=fun i A hA=>by
 obtain ⟨B,hB,l⟩:=h i A hA
 obtain ⟨C,hC,l'⟩:=h' i B hB
 exact ⟨C,hC,l.trans l'⟩
theorem grw_set (K:Kl) (q:Nat) (e:Bool) (M:Nat->Int):Grw K (K.set q (jnO (K.getD q none) e M)):=fun i A hA=>by
 rw [kset_at]
 split
 ·rename_i z
  obtain ⟨rfl,_⟩:=z
  rw [hA]
  cases e with
  | true=>exact ⟨A,rfl,fun _ _=>Int.le_refl _⟩
  | false=>exact ⟨_,rfl,fun a ha=>(jF_mx A M ha).2.1⟩
 ·exact ⟨A,hA,fun _ _=>Int.le_refl _⟩
theorem Bld.wn (hD:∀ k,k < F.length->DQ (F.getD k (newDs 0 0))) {t:Nat} {K:Kl} (h:Bld F t K) {Z:Kl} (hZ:∀ k,k < F.length->∀ A,Z.getD k none=some A->(∀ a,a < 64->A a<=NB)/\sfP false A (F.getD k (newDs 0 0))=true) (hg:Grw K Z):∀ i A,K.getD i none=some A->Wn A:=by
 induction h with
 | beg=>intro i A hA; rw [beg_at i A hA]; exact wn_zero
 | @stp t K k M q way _ hk hM ih =>
  intro i A hA
  have ih':=ih ((grw_set K q _ _).trans hg)
  obtain ⟨B,hB,hl⟩:=((grw_set K q _ _).trans hg) k M hM
  have hs:sfP false M (F.getD k (newDs 0 0))=true:=sf_mono hl (hZ k hk B hB).1 (hD k hk) (hZ k hk B hB).2
  rw [kset_at] at hA
  split at hA
  ·exact jnO_keep (P:=Wn) (fun A B a b=>wn_join a b) (fun A h=>ih' q A h) (fun he=>wn_post (ih' k M hM) (hD k hk) hs way he) A hA
  ·exact ih' i A hA
theorem leF_right {A B B':Nat->Int}:∀ n,(∀ f,f < n->B f=B' f)->leF A B n=leF A B' n
 | 0,_=>rfl
 | n+1,h=>by
  show (leF A B n && decide (A n<=B n))=(leF A B' n && decide (A n<=B' n))
  rw [leF_right n (fun f hf=>h f (by omega)),h n (by omega)]
def insK (e:Bool) (M:Nat->Int):Option (Nat->Int)->Bool
 | none=>e
 | some N=>e || leF (bd M) (bd N) 32
structure KOk (F:List Ds) (K:Kl):Prop where
 st:∃ A,K.getD 0 none=some A/\leF (fun _=>0) (bd A) 32=true
 sf:∀ k,k < F.length->∀ A,K.getD k none=some A->sfP false A (F.getD k (newDs 0 0))=true
 wy:∀ k,k < F.length->∀ A,K.getD k none=some A->∀ way:Nat,(way:Int) < waysP (F.getD k (newDs 0 0)).kind->insK (poE false A (F.getD k (newDs 0 0)) way) (poM false A (F.getD k (newDs 0 0)) way) (K.getD (nextP F k way).1.toNat none)=true
def lsK (K:Kl):List (Option (List Int)):=K.map (Option.map bdL)
theorem lsK_at (K:Kl) (k:Nat):atL (lsK K) (k:Int)=(K.getD k none).map bdL:=by
 rw [atL_nat,List.getD_eq_getElem?_getD,List.getD_eq_getElem?_getD]
 unfold lsK
 rw [List.getElem?_map]
 cases K[k]? <;> rfl
theorem Bld.cert (hD:∀ k,k < F.length->DQ (F.getD k (newDs 0 0))) {t:Nat} {K:Kl} (h:Bld F t K) (ht:t<=40) (hK:KOk F K):CertOk F (lsK K):=by
 have hv:=h.wv hD ht
 have hw:=h.wn hD (Z:=K) (fun k hk A hA=>⟨(hv k A hA).tc.hi,hK.sf k hk A hA⟩) (Grw.refl K)
 have ok1:∀ A,Wn A->okp (some (bdL A)):=fun A h l e=>by
  cases e
  exact ⟨bdL_len _,fun f hf=>by rw [bdL_getD _ hf]; exact bd_small h hf⟩
 have hok:∀ r,r ∈ lsK K->okp r:=by
  intro r hr
  obtain ⟨o,ho,rfl⟩:=List.mem_map.1 hr
  cases o with
  | none=>intro l e; cases e
  | some A =>
   obtain ⟨i,hi⟩:=List.mem_iff_getElem?.1 ho
   exact ok1 A (hw i A (by rw [List.getD_eq_getElem?_getD,hi]; rfl))
 have to:∀ {e:Bool} {A:Nat->Int} {k:Nat},(e=false->TC A)->insK e A (K.getD k none)=true->wiB e (cE (atL (lsK K) (k:Int))) A (cM (atL (lsK K) (k:Int)))=true:=fun {e A k} hT hi=>by
  rw [lsK_at]
  cases hr:K.getD k none with
  | none=>rw [hr] at hi; exact wi_iff.2 (.inl hi)
  | some N =>
   rw [hr] at hi
   rw [show Option.map bdL (some N)=some (bdL N) from rfl,ins_same hT (ok1 N (hw k N hr))]
   show (e || leF (bd A) (fun f=>(bdL N).getD f 0) 32)=true
   have el:leF (bd A) (fun f=>(bdL N).getD f 0) 32=leF (bd A) (bd N) 32:=leF_right 32 (fun f hf=>bdL_getD N hf)
   rw [el]
   exact hi
 refine ⟨hok,?_,?_⟩
 ·obtain ⟨A,hA,hl⟩:=hK.st
  refine to (k:=0) (fun _=>tc_zero) ?_
  rw [hA]
  show (false || leF (bd fun _=>0) (bd A) 32)=true
  rw [show bd (fun _=>0)=fun _=>0 from funext bd_zero]
  exact hl
 ·intro k hk
  have hx:=hD k hk
  cases hr:K.getD k none with
  | none=>exact chk_none (by rw [<- atL_nat,lsK_at,hr]; rfl)
  | some A =>
   have hA:=hw k A hr
   have hs:=ls_same hA
   have ea:atL (lsK K) (k:Int)=some (bdL A):=by rw [lsK_at,hr]; rfl
   have hT:TQ (ovM (bdL A)):=c_tq (r:=some (bdL A)) (ok1 A hA) hs.1
   have hWn:Wn (ovM (bdL A)):=⟨hT.tc,fun i hi=>Int.le_trans (hs.2.2 (i*8+i) (by omega)) (hA.box i hi)⟩
   unfold chkP
   rw [ea]
   show (if sfP (ovE (bdL A)) (ovM (bdL A)) (F.getD k (newDs 0 0))=false then (6:Int) else _)=0
   rw [hs.1,sf_mono hs.2.2 hA.tc.hi hx (hK.sf k hk A hr),if_neg (by decide),if_pos]
   have all:∀ n,n<=(waysP (F.getD k (newDs 0 0)).kind).toNat->allN (wayP F (lsK K) k) n=true:=by
    intro n
    induction n with
    | zero=>intro _; rfl
    | succ n ih =>
     intro hn
     show (allN (wayP F (lsK K) k) n && wayP F (lsK K) k n)=true
     rw [ih (by omega),Bool.true_and]
     have hz:=nextP_in (F:=F) k n (next_z F k hk n (by omega))
     obtain ⟨q,hq⟩:∃ q:Nat,(nextP F k n).1=(q:Int):=⟨_,(Int.toNat_of_nonneg hz.1).symm⟩
     have hi:=hK.wy k hk A hr n (by omega)
     rw [hq,Int.toNat_natCast] at hi
     unfold wayP
     rw [hq,ea]
     show wiB (poE (ovE (bdL A)) (ovM (bdL A)) (F.getD k (newDs 0 0)) n) _ (poM (ovE (bdL A)) (ovM (bdL A)) (F.getD k (newDs 0 0)) n) _=true
     rw [hs.1]
     cases hpe:poE false (ovM (bdL A)) (F.getD k (newDs 0 0)) n with
     | true=>exact wi_iff.2 (.inl rfl)
     | false =>
      obtain ⟨a,b⟩:=po_mono hWn hA.tq hs.2.2 hx n hpe
      rw [a] at hi
      have hP:=wn_post hA hx (hK.sf k hk A hr) n a
      obtain ⟨_,c2,c3⟩:=(wi_iff.1 (to (fun _=>hP.tc) hi)).resolve_left (by decide)
      exact wi_iff.2 (.inr ⟨rfl,c2,b.trans c3⟩)
   exact all _ (Nat.le_refl _)
end Go.Proofs.YtffajooegiempaaGreatDoor

