import Derived.Test.YtffajooegiempaaGreatDoorJ15
set_option maxRecDepth 100000
set_option maxHeartbeats 6400000
namespace Go.Proofs.YtffajooegiempaaGreatDoor
open Go.RowKit
variable {B:Nat}{w w':World}{r:Nat}{m:Rd}{vs vo:Value}{P Q O:Nat->Nat}
theorem AZ.start(h:AZ B w r m vs vo P Q O)(ok:Ok m)(hB:B<=w.heap.size)(c:Int)(h0:0<=c)(h1:c<=255):
  Calls Tryz.prog 92 #[.pointer (some ⟨r,0,none⟩),.int .u8 c] w (D2 B w r (AP m c)):=by
 obtain⟨r0,r1,r2,r3,r4,r5,rf⟩:=h.rdc;have geR:=h.geR;have hlen:=ok.len;have holen:=ok.oplen;obtain⟨ao,cap,hvo⟩:=h.olen;by_cases hv:97<=c/\c<=100
 ·obtain⟨hva,hvb⟩:=hv;by_cases h20:m.st.length=20
  ·have HY:Hid (AP m c=none):=by show AP m c=_;unfold AP BN;rw[if_pos ⟨hva,hvb⟩,if_pos h20]
   have HR:Hid (AZ _ _ _ _ _ _ _ _ _):=h;have OK:Hid (Ok m):=ok;clear h ok;go_enter Tryz.func92,Tryz.ntmps92;go_wp2_with (first|(go_at_call 123;refine(As c _ hva hvb).mono ?_;rintro e w' ⟨rfl,rfl⟩)|(go_at_call 124;refine(HR.out.beginFull h20 _ _).mono ?_;rintro e w' ⟨rfl,rfl⟩));go_ret;exact Av HY.out (Below.setCell (Below.refl _ _) geR _)
  ·have HY:Hid (AP m c=some {m with st:=m.st++[⟨61,c-97,false,[0,0,0,0],0,0,m.st.length+1⟩],state:=61}):=by
    show AP m c=_;unfold AP BN;rw[if_pos ⟨hva,hvb⟩,if_neg h20]
   replace h20:m.st.length<20:=by omega
   have HR:Hid (AZ _ _ _ _ _ _ _ _ _):=h;have OK:Hid (Ok m):=ok;clear h ok;go_enter Tryz.func92,Tryz.ntmps92;go_wp2_with (first|(go_at_call 123;refine(As c _ hva hvb).mono ?_;rintro e w' ⟨rfl,rfl⟩)|(go_at_call 124;refine(HR.out.begin_ h20 _ _ hB).mono ?_;rintro e w' ⟨rfl,hb,vs',P',Q',hr⟩;have hr0:=hr.rdc.1;have hr2:=hr.rdc.2.2.1;have hrf:=hr.rdc.2.2.2.2.2.2;have HQ:Hid (AZ _ _ _ _ _ _ _ _ _):=hr;clear hr));go_ret;exact Aq HY.out (Below.setCell hb geR _) (HQ.out.setRd 0 (.int .u8 61) _ rfl rfl rfl)
 by_cases hq:c=63\/c=64
 ·have b33:(c==33)=false:=by rcases hq with rfl|rfl<;>rfl
  have hqb:((c==63)||(c==64))=true:=by rcases hq with rfl|rfl<;>rfl
  by_cases h20:m.st.length=20
  ·have HY:Hid (AP m c=none):=by show AP m c=_;unfold AP BN;rw[if_neg hv,if_pos hq];simp[h20]
   subst hvo;clear hqb;rcases hq with rfl|rfl
   ·have HR:Hid (AZ _ _ _ _ _ _ _ _ _):=h;have OK:Hid (Ok m):=ok;clear h ok;go_enter Tryz.func92,Tryz.ntmps92;go_wp2_with (first|(go_at_call 123;refine(AN _ _ (by omega) (by omega) (by omega)).mono ?_;rintro e w' ⟨rfl,rfl⟩)|(go_at_call 124;refine(HR.out.beginFull h20 _ _).mono ?_;rintro e w' ⟨rfl,rfl⟩));go_ret;exact Av HY.out (Below.setCell (Below.refl _ _) geR _)
   ·have HR:Hid (AZ _ _ _ _ _ _ _ _ _):=h;have OK:Hid (Ok m):=ok;clear h ok;go_enter Tryz.func92,Tryz.ntmps92;go_wp2_with (first|(go_at_call 123;refine(AN _ _ (by omega) (by omega) (by omega)).mono ?_;rintro e w' ⟨rfl,rfl⟩)|(go_at_call 124;refine(HR.out.beginFull h20 _ _).mono ?_;rintro e w' ⟨rfl,rfl⟩));go_ret;exact Av HY.out (Below.setCell (Below.refl _ _) geR _)
  ·by_cases h4:m.op.length<4
   ·have HY:Hid (AP m c=some {m with st:=m.st++[⟨c,0,false,[0,0,0,0],0,0,m.st.length+1⟩],state:=99}):=by
     show AP m c=_;unfold AP BN;rw[if_neg hv,if_pos hq,if_pos h4,if_neg h20]
    replace h20:m.st.length<20:=by omega
    have d4:decide (((m.op.length:Nat):Int)<4)=true:=by simp;omega
    subst hvo;clear hqb;rcases hq with rfl|rfl
    ·have HR:Hid (AZ _ _ _ _ _ _ _ _ _):=h;have OK:Hid (Ok m):=ok;clear h ok;go_enter Tryz.func92,Tryz.ntmps92;go_wp2_with (first|(go_at_call 123;refine(AN _ _ (by omega) (by omega) (by omega)).mono ?_;rintro e w' ⟨rfl,rfl⟩)|(go_at_call 124;refine(HR.out.begin_ h20 _ _ hB).mono ?_;rintro e w' ⟨rfl,hb,vs',P',Q',hr⟩;have hr0:=hr.rdc.1;have hr2:=hr.rdc.2.2.1;have hrf:=hr.rdc.2.2.2.2.2.2;have HQ:Hid (AZ _ _ _ _ _ _ _ _ _):=hr;clear hr));go_ret;exact Aq HY.out (Below.setCell hb geR _) (HQ.out.setRd 0 (.int .u8 99) _ rfl rfl rfl)
    ·have HR:Hid (AZ _ _ _ _ _ _ _ _ _):=h;have OK:Hid (Ok m):=ok;clear h ok;go_enter Tryz.func92,Tryz.ntmps92;go_wp2_with (first|(go_at_call 123;refine(AN _ _ (by omega) (by omega) (by omega)).mono ?_;rintro e w' ⟨rfl,rfl⟩)|(go_at_call 124;refine(HR.out.begin_ h20 _ _ hB).mono ?_;rintro e w' ⟨rfl,hb,vs',P',Q',hr⟩;have hr0:=hr.rdc.1;have hr2:=hr.rdc.2.2.1;have hrf:=hr.rdc.2.2.2.2.2.2;have HQ:Hid (AZ _ _ _ _ _ _ _ _ _):=hr;clear hr));go_ret;exact Aq HY.out (Below.setCell hb geR _) (HQ.out.setRd 0 (.int .u8 99) _ rfl rfl rfl)
   ·have HY:Hid (AP m c=none):=by show AP m c=_;unfold AP;rw[if_neg hv,if_pos hq,if_neg h4]
    replace h20:m.st.length<20:=by omega
    have d4:decide (((m.op.length:Nat):Int)<4)=false:=by simp;omega
    clear h4;subst hvo;clear hqb;rcases hq with rfl|rfl
    ·have HR:Hid (AZ _ _ _ _ _ _ _ _ _):=h;have OK:Hid (Ok m):=ok;clear h ok;go_enter Tryz.func92,Tryz.ntmps92;go_wp2_with (first|(go_at_call 123;refine(AN _ _ (by omega) (by omega) (by omega)).mono ?_;rintro e w' ⟨rfl,rfl⟩)|(go_at_call 124;refine(HR.out.begin_ h20 _ _ hB).mono ?_;rintro e w' ⟨rfl,hb,vs',P',Q',hr⟩;have hr0:=hr.rdc.1;have hr2:=hr.rdc.2.2.1;have hrf:=hr.rdc.2.2.2.2.2.2;have HQ:Hid (AZ _ _ _ _ _ _ _ _ _):=hr;clear hr));go_ret;exact Av HY.out (Below.setCell hb geR _)
    ·have HR:Hid (AZ _ _ _ _ _ _ _ _ _):=h;have OK:Hid (Ok m):=ok;clear h ok;go_enter Tryz.func92,Tryz.ntmps92;go_wp2_with (first|(go_at_call 123;refine(AN _ _ (by omega) (by omega) (by omega)).mono ?_;rintro e w' ⟨rfl,rfl⟩)|(go_at_call 124;refine(HR.out.begin_ h20 _ _ hB).mono ?_;rintro e w' ⟨rfl,hb,vs',P',Q',hr⟩;have hr0:=hr.rdc.1;have hr2:=hr.rdc.2.2.1;have hrf:=hr.rdc.2.2.2.2.2.2;have HQ:Hid (AZ _ _ _ _ _ _ _ _ _):=hr;clear hr));go_ret;exact Av HY.out (Below.setCell hb geR _)
 have b63:(c==63)=false:=by simp;omega
 have b64:(c==64)=false:=by simp;omega
 by_cases h33:c=33
 ·by_cases h20:m.st.length=20
  ·have HY:Hid (AP m c=none):=by show AP m c=_;unfold AP BN;rw[if_neg hv,if_neg hq,if_pos h33,if_pos h20]
   subst h33;clear b63 b64;have HR:Hid (AZ _ _ _ _ _ _ _ _ _):=h;have OK:Hid (Ok m):=ok;clear h ok;go_enter Tryz.func92,Tryz.ntmps92;go_wp2_with (first|(go_at_call 123;refine(AN _ _ (by omega) (by omega) (by omega)).mono ?_;rintro e w' ⟨rfl,rfl⟩)|(go_at_call 124;refine(HR.out.beginFull h20 _ _).mono ?_;rintro e w' ⟨rfl,rfl⟩));go_ret;exact Av HY.out (Below.setCell (Below.refl _ _) geR _)
  ·have HY:Hid (AP m c=some {m with st:=m.st++[⟨c,0,false,[0,0,0,0],0,0,m.st.length+1⟩],state:=99}):=by
    show AP m c=_;unfold AP BN;rw[if_neg hv,if_neg hq,if_pos h33,if_neg h20]
   replace h20:m.st.length<20:=by omega
   subst h33;clear b63 b64;have HR:Hid (AZ _ _ _ _ _ _ _ _ _):=h;have OK:Hid (Ok m):=ok;clear h ok;go_enter Tryz.func92,Tryz.ntmps92;go_wp2_with (first|(go_at_call 123;refine(AN _ _ (by omega) (by omega) (by omega)).mono ?_;rintro e w' ⟨rfl,rfl⟩)|(go_at_call 124;refine(HR.out.begin_ h20 _ _ hB).mono ?_;rintro e w' ⟨rfl,hb,vs',P',Q',hr⟩;have hr0:=hr.rdc.1;have hr2:=hr.rdc.2.2.1;have hrf:=hr.rdc.2.2.2.2.2.2;have HQ:Hid (AZ _ _ _ _ _ _ _ _ _):=hr;clear hr));go_ret;exact Aq HY.out (Below.setCell hb geR _) (HQ.out.setRd 0 (.int .u8 99) _ rfl rfl rfl)
 have b33:(c==33)=false:=by simpa using h33
 by_cases h125:c=125
 ·by_cases ho:0<m.op.length
  ·have HY:Hid (AP m c=Ba m):=by show AP m c=_;unfold AP;rw[if_neg hv,if_neg hq,if_neg h33,if_pos ⟨h125,ho⟩]
   subst h125;subst hvo;clear b63 b64 b33;have HR:Hid (AZ _ _ _ _ _ _ _ _ _):=h;have OK:Hid (Ok m):=ok;clear h ok;go_enter Tryz.func92,Tryz.ntmps92;go_wp2_with (first|(go_at_call 123;refine(AN _ _ (by omega) (by omega) (by omega)).mono ?_;rintro e w' ⟨rfl,rfl⟩)|(go_at_call 125;refine(HR.out.shut OK.out ho).mono ?_;rintro e w' ⟨rfl,hb,hr⟩));go_ret;exact Bg HY.out (Below.refl _ _) hb hr
  ·have HY:Hid (AP m c=none):=by show AP m c=_;unfold AP;rw[if_neg hv,if_neg hq,if_neg h33,if_neg (λe=>ho e.2)]
   have ho0:m.op.length=0:=by omega
   rw[hvo,ho0]at r2;subst h125;clear b63 b64 b33 hvo ho ho0;have HR:Hid (AZ _ _ _ _ _ _ _ _ _):=h;have OK:Hid (Ok m):=ok;clear h ok;go_enter Tryz.func92,Tryz.ntmps92;go_wp2_with (go_at_call 123;refine(AN _ _ (by omega) (by omega) (by omega)).mono ?_;rintro e w' ⟨rfl,rfl⟩);go_ret;exact Av HY.out (Below.refl _ _)
 ·have b125:(c==125)=false:=by simpa using h125
  have HY:Hid (AP m c=none):=by show AP m c=_;unfold AP;rw[if_neg hv,if_neg hq,if_neg h33,if_neg (λe=>h125 e.1)]
  clear h125 h33 hq;have HR:Hid (AZ _ _ _ _ _ _ _ _ _):=h;have OK:Hid (Ok m):=ok;clear h ok;go_enter Tryz.func92,Tryz.ntmps92;go_wp2_with (go_at_call 123;refine(AN _ _ (by omega) (by omega) hv).mono ?_;rintro e w' ⟨rfl,rfl⟩);go_ret;exact Av HY.out (Below.refl _ _)
theorem AZ.condM(h:AZ B w r m vs vo P Q O)(ok:Ok m)(hn:0<m.st.length)(hB:B<=w.heap.size)(c:Int)(h0:0<=c)(h1:c<=255)(hx:m.state=109):
  Calls Tryz.prog 94 #[.pointer (some ⟨r,0,none⟩),.int .u8 c] w (D2 B w r (AF m c)):=by
 have hc:=h.now hn ok.len;have hcur:=AZ.curs hn;obtain⟨c0,c1,c2,c3,c4,c5,c6,f7,f8,n9,n10,n11⟩:=h.stc _ _ hcur;obtain⟨r0,r1,r2,r3,r4,r5,rf⟩:=h.rdc;have geR:=h.geR;obtain⟨geP,geQ⟩:=h.geC hn;obtain⟨sg0,sg1⟩:=ok.sgn;obtain⟨nu0,nu1⟩:=ok.nums (cur m) (List.mem_of_getElem? hcur);have HC:Hid (_=_):=hcur;clear hcur;rw[hx]at r0;have HX:Hid (_=_):=hx;clear hx;have nrp:r≠P (m.st.length-1):=λe=>n9 e.symm;have nrq:r≠Q (m.st.length-1):=λe=>n10 e.symm;have npq:P (m.st.length-1)≠Q (m.st.length-1):=λe=>n11 e.symm;by_cases h59:c=59
 ·subst h59;have HY:Hid (AF m 59=Ac {AE m {cur m with num:=if m.neg then -(cur m).num else(cur m).num}with state:=AG m} 59):=by show AF m 59=_;unfold AF;rw[HX.out,if_neg (by decide),if_neg (by decide),if_neg (by decide),if_neg (by decide),if_neg (by decide),if_neg (by decide),if_neg (by decide),if_neg (by decide),if_pos rfl,if_pos (by decide)]
  cases hneg:m.neg
  ·rw[hneg]at r4
   have HZ:Hid (AF m 59=Ac {m with state:=AG m} 59):=HY.out.trans (by
    have e:({cur m with num:=if m.neg then -(cur m).num else(cur m).num}:St)=cur m:=by rw[hneg];rfl
    rw[e,Hy hn])
   clear hneg HY;have HR:Hid (AZ _ _ _ _ _ _ _ _ _):=h;have OK:Hid (Ok m):=ok;clear h ok;go_enter Tryz.func94,Tryz.ntmps94;go_wp2_with (first|(go_at_call 126;refine hc.mono ?_;rintro e w' ⟨rfl,k,rfl⟩)|(go_at_call 123;refine(AN _ _ (by omega) (by omega) (by omega)).mono ?_;rintro e w' ⟨rfl,rfl⟩));have e1:=HR.out.drewN k;refine(e1.behind (by first|exact hn|(rw[BL];exact hn)) (by first|exact OK.out.len|(rw[BL];exact OK.out.len))).mono ?_;rintro e w' ⟨rfl,k2,rfl⟩;have e2:=(HR.out.drewN (k+k2)).setRd 0 (.int .u8 (AG m)) {m with state:=AG m} rfl rfl rfl;have HE:Hid (AZ _ _ _ _ _ _ _ _ _):=e2;clear e1 e2;go_wp2_with fail;refine(HE.out.bytePlain (by first|exact OK.out.len|(show(AE _ _).st.length<=20;rw[BL];exact OK.out.len)) OK.out.oplen (by first|exact hn|(show 0<(AE _ _).st.length;rw[BL];exact hn)) (by simpa using hB) _ (by omega) (by omega) (by show AG _=59\/AG _=123;exact Dh _)).mono ?_;rintro e w' ⟨rfl,hb,hr⟩;go_wp2;go_ret;exact Bg HZ.out (Below.setCell (below_drewN (Below.refl _ _) _) geR _) hb hr
  ·rw[hneg]at r4;have HZ:Hid (AF m 59=Ac {AE m {cur m with num:= -(cur m).num}with state:=AG m} 59):=HY.out.trans (by rw[hneg];rfl);have HBe:Hid (AG (AE m {cur m with num:= -(cur m).num})=AG m):=by show AG _=_;unfold AG;rw[Hi hn]
   clear hneg HY;have HR:Hid (AZ _ _ _ _ _ _ _ _ _):=h;have OK:Hid (Ok m):=ok;clear h ok;go_enter Tryz.func94,Tryz.ntmps94;go_wp2_with (first|(go_at_call 126;refine hc.mono ?_;rintro e w' ⟨rfl,k,rfl⟩)|(go_at_call 123;refine(AN _ _ (by omega) (by omega) (by omega)).mono ?_;rintro e w' ⟨rfl,rfl⟩));have e1:=(HR.out.drewN k).setC hn {cur m with num:= -(cur m).num} 4 (.int .i64 (-(cur m).num)) rfl rfl;refine(e1.behind (by first|exact hn|(rw[BL];exact hn)) (by first|exact OK.out.len|(rw[BL];exact OK.out.len))).mono ?_;rintro e w' ⟨rfl,k2,rfl⟩;have e2:=(e1.drewN k2).setRd 0 (.int .u8 (AG (AE m {cur m with num:= -(cur m).num}))) {(AE m {cur m with num:= -(cur m).num})with state:=AG (AE m {cur m with num:= -(cur m).num})} rfl rfl rfl;have HE:Hid (AZ _ _ _ _ _ _ _ _ _):=e2;clear e1 e2;go_wp2_with fail;refine(HE.out.bytePlain (by first|exact OK.out.len|(show(AE _ _).st.length<=20;rw[BL];exact OK.out.len)) OK.out.oplen (by first|exact hn|(show 0<(AE _ _).st.length;rw[BL];exact hn)) (by simpa using hB) _ (by omega) (by omega) (by show AG _=59\/AG _=123;exact Dh _)).mono ?_;rintro e w' ⟨rfl,hb,hr⟩;go_wp2;go_ret;refine Bg (HZ.out.trans ?_) (Below.setCell (below_drewN (Below.setCell (below_drewN (Below.refl _ _) _) geP _) _) geR _) hb hr;rw[HBe.out]
 by_cases h123:c=123
 ·subst h123;clear h59;have HY:Hid (AF m 123=Ac {AE m {cur m with num:=if m.neg then -(cur m).num else(cur m).num}with state:=AG m} 123):=by show AF m 123=_;unfold AF;rw[HX.out,if_neg (by decide),if_neg (by decide),if_neg (by decide),if_neg (by decide),if_neg (by decide),if_neg (by decide),if_neg (by decide),if_neg (by decide),if_pos rfl,if_pos (by decide)]
  cases hneg:m.neg
  ·rw[hneg]at r4
   have HZ:Hid (AF m 123=Ac {m with state:=AG m} 123):=HY.out.trans (by
    have e:({cur m with num:=if m.neg then -(cur m).num else(cur m).num}:St)=cur m:=by rw[hneg];rfl
    rw[e,Hy hn])
   clear hneg HY;have HR:Hid (AZ _ _ _ _ _ _ _ _ _):=h;have OK:Hid (Ok m):=ok;clear h ok;go_enter Tryz.func94,Tryz.ntmps94;go_wp2_with (first|(go_at_call 126;refine hc.mono ?_;rintro e w' ⟨rfl,k,rfl⟩)|(go_at_call 123;refine(AN _ _ (by omega) (by omega) (by omega)).mono ?_;rintro e w' ⟨rfl,rfl⟩));have e1:=HR.out.drewN k;refine(e1.behind (by first|exact hn|(rw[BL];exact hn)) (by first|exact OK.out.len|(rw[BL];exact OK.out.len))).mono ?_;rintro e w' ⟨rfl,k2,rfl⟩;have e2:=(HR.out.drewN (k+k2)).setRd 0 (.int .u8 (AG m)) {m with state:=AG m} rfl rfl rfl;have HE:Hid (AZ _ _ _ _ _ _ _ _ _):=e2;clear e1 e2;go_wp2_with fail;refine(HE.out.bytePlain (by first|exact OK.out.len|(show(AE _ _).st.length<=20;rw[BL];exact OK.out.len)) OK.out.oplen (by first|exact hn|(show 0<(AE _ _).st.length;rw[BL];exact hn)) (by simpa using hB) _ (by omega) (by omega) (by show AG _=59\/AG _=123;exact Dh _)).mono ?_;rintro e w' ⟨rfl,hb,hr⟩;go_wp2;go_ret;exact Bg HZ.out (Below.setCell (below_drewN (Below.refl _ _) _) geR _) hb hr
  ·rw[hneg]at r4;have HZ:Hid (AF m 123=Ac {AE m {cur m with num:= -(cur m).num}with state:=AG m} 123):=HY.out.trans (by rw[hneg];rfl);have HBe:Hid (AG (AE m {cur m with num:= -(cur m).num})=AG m):=by show AG _=_;unfold AG;rw[Hi hn]
   clear hneg HY;have HR:Hid (AZ _ _ _ _ _ _ _ _ _):=h;have OK:Hid (Ok m):=ok;clear h ok;go_enter Tryz.func94,Tryz.ntmps94;go_wp2_with (first|(go_at_call 126;refine hc.mono ?_;rintro e w' ⟨rfl,k,rfl⟩)|(go_at_call 123;refine(AN _ _ (by omega) (by omega) (by omega)).mono ?_;rintro e w' ⟨rfl,rfl⟩));have e1:=(HR.out.drewN k).setC hn {cur m with num:= -(cur m).num} 4 (.int .i64 (-(cur m).num)) rfl rfl;refine(e1.behind (by first|exact hn|(rw[BL];exact hn)) (by first|exact OK.out.len|(rw[BL];exact OK.out.len))).mono ?_;rintro e w' ⟨rfl,k2,rfl⟩;have e2:=(e1.drewN k2).setRd 0 (.int .u8 (AG (AE m {cur m with num:= -(cur m).num}))) {(AE m {cur m with num:= -(cur m).num})with state:=AG (AE m {cur m with num:= -(cur m).num})} rfl rfl rfl;have HE:Hid (AZ _ _ _ _ _ _ _ _ _):=e2;clear e1 e2;go_wp2_with fail;refine(HE.out.bytePlain (by first|exact OK.out.len|(show(AE _ _).st.length<=20;rw[BL];exact OK.out.len)) OK.out.oplen (by first|exact hn|(show 0<(AE _ _).st.length;rw[BL];exact hn)) (by simpa using hB) _ (by omega) (by omega) (by show AG _=59\/AG _=123;exact Dh _)).mono ?_;rintro e w' ⟨rfl,hb,hr⟩;go_wp2;go_ret;refine Bg (HZ.out.trans ?_) (Below.setCell (below_drewN (Below.setCell (below_drewN (Below.refl _ _) _) geP _) _) geR _) hb hr;rw[HBe.out]
 have b59:(c==59)=false:=by simpa using h59
 have b123:(c==123)=false:=by simpa using h123
 have HY:Hid (AF m c=AT m c false 109):=by show AF m c=_;unfold AF;rw[HX.out,if_neg (by decide),if_neg (by decide),if_neg (by decide),if_neg (by decide),if_neg (by decide),if_neg (by decide),if_neg (by decide),if_neg (by decide),if_pos rfl,if_neg (λe=>e.elim h59 h123)]
 clear h59 h123;by_cases hv:97<=c/\c<=100
 ·obtain⟨hva,hvb⟩:=hv;have HR:Hid (AZ _ _ _ _ _ _ _ _ _):=h;have OK:Hid (Ok m):=ok;clear h ok;go_enter Tryz.func94,Tryz.ntmps94;go_wp2_with (first|(go_at_call 126;refine hc.mono ?_;rintro e w' ⟨rfl,k,rfl⟩)|(go_at_call 123;refine(As c _ hva hvb).mono ?_;rintro e w' ⟨rfl,rfl⟩));refine((HR.out.drewN k).digit OK.out hn c false h0 h1 109).mono ?_;rintro e w' ⟨rfl,hb,hr⟩;go_wp2;go_ret;exact Bg HY.out (below_drewN (Below.refl _ _) _) hb hr
 ·have HR:Hid (AZ _ _ _ _ _ _ _ _ _):=h;have OK:Hid (Ok m):=ok;clear h ok;go_enter Tryz.func94,Tryz.ntmps94;go_wp2_with (first|(go_at_call 126;refine hc.mono ?_;rintro e w' ⟨rfl,k,rfl⟩)|(go_at_call 123;refine(AN _ _ (by omega) (by omega) (by omega)).mono ?_;rintro e w' ⟨rfl,rfl⟩));refine((HR.out.drewN k).digit OK.out hn c false h0 h1 109).mono ?_;rintro e w' ⟨rfl,hb,hr⟩;go_wp2;go_ret;exact Bg HY.out (below_drewN (Below.refl _ _) _) hb hr
theorem AZ.condZ(h:AZ B w r m vs vo P Q O)(ok:Ok m)(hn:0<m.st.length)(_hB:B<=w.heap.size)(c:Int)(h0:0<=c)(h1:c<=255)(hx:m.state=125):
  Calls Tryz.prog 94 #[.pointer (some ⟨r,0,none⟩),.int .u8 c] w (D2 B w r (AF m c)):=by
 have hc:=h.now hn ok.len;have hcur:=AZ.curs hn;obtain⟨c0,c1,c2,c3,c4,c5,c6,f7,f8,n9,n10,n11⟩:=h.stc _ _ hcur;obtain⟨r0,r1,r2,r3,r4,r5,rf⟩:=h.rdc;have geR:=h.geR;obtain⟨geP,geQ⟩:=h.geC hn;obtain⟨sg0,sg1⟩:=ok.sgn;obtain⟨nu0,nu1⟩:=ok.nums (cur m) (List.mem_of_getElem? hcur);have HC:Hid (_=_):=hcur;clear hcur;rw[hx]at r0;have HX:Hid (_=_):=hx;clear hx;have nrp:r≠P (m.st.length-1):=λe=>n9 e.symm;have nrq:r≠Q (m.st.length-1):=λe=>n10 e.symm;have npq:P (m.st.length-1)≠Q (m.st.length-1):=λe=>n11 e.symm;have ho:=ok.open_ HX.out;have ht:=ZY ho;have hol:=ok.oplen;obtain⟨go,capo,hvo,hrowo,ngor,hcapo,ngop,ngo⟩:=h.rowO ho;obtain⟨o0,o1,of,nor,nop⟩:=h.opc _ _ ht;have hg2:=hrowo (m.op.length-1) (by omega);unfold PR at hg2;have geO:=h.geO (m.op.length-1) (by omega);have nro:r≠O (m.op.length-1):=λe=>nor e.symm;subst hvo;have HT:Hid (m.op[m.op.length-1]?=some (top m)):=ht;clear ht nop ngo ngop hrowo;by_cases h123:c=123
 ·subst h123;have HY:Hid (AF m 123=some {m with op:=m.op.set (m.op.length-1) {top m with second:=true},state:=115}):=by show AF m 123=_;unfold AF;rw[HX.out,if_neg (by decide),if_neg (by decide),if_neg (by decide),if_neg (by decide),if_neg (by decide),if_neg (by decide),if_neg (by decide),if_neg (by decide),if_neg (by decide),if_pos rfl]
  have HR:Hid (AZ _ _ _ _ _ _ _ _ _):=h;have OK:Hid (Ok m):=ok;clear h ok;go_enter Tryz.func94,Tryz.ntmps94;go_wp2_with (first|(go_at_call 126;refine hc.mono ?_;rintro e w' ⟨rfl,k,rfl⟩)|(go_at_call 123;refine(AN _ _ (by omega) (by omega) (by omega)).mono ?_;rintro e w' ⟨rfl,rfl⟩));go_quiet (fail);go_wp2;go_ret;exact Aq HY.out (Below.setCell (Below.setCell (below_drewN (Below.refl _ _) _) geO _) geR _) (((HR.out.drewN _).setBk (m.op.length-1) (top m) {top m with second:=true} HT.out 1 (.bool true) _ rfl rfl).setRd 0 (.int .u8 115) _ rfl rfl rfl)
 have b123:(c==123)=false:=by simpa using h123
 have n123:(c != 123)=true:=by simpa using h123
 have HY:Hid (AF m c=none):=by show AF m c=_;unfold AF;rw[HX.out,if_neg (by decide),if_neg (by decide),if_neg (by decide),if_neg (by decide),if_neg (by decide),if_neg (by decide),if_neg (by decide),if_neg (by decide),if_neg (by decide),if_neg h123]
 clear h123;have HR:Hid (AZ _ _ _ _ _ _ _ _ _):=h;have OK:Hid (Ok m):=ok;clear h ok;by_cases hv:97<=c/\c<=100
 ·obtain⟨hva,hvb⟩:=hv;go_enter Tryz.func94,Tryz.ntmps94;go_wp2_with (first|(go_at_call 126;refine hc.mono ?_;rintro e w' ⟨rfl,k,rfl⟩)|(go_at_call 123;refine(As c _ hva hvb).mono ?_;rintro e w' ⟨rfl,rfl⟩));go_ret;exact Av HY.out (below_drewN (Below.refl _ _) _)
 ·go_enter Tryz.func94,Tryz.ntmps94;go_wp2_with (first|(go_at_call 126;refine hc.mono ?_;rintro e w' ⟨rfl,k,rfl⟩)|(go_at_call 123;refine(AN _ _ (by omega) (by omega) (by omega)).mono ?_;rintro e w' ⟨rfl,rfl⟩));go_ret;exact Av HY.out (below_drewN (Below.refl _ _) _)
theorem AZ.value(h:AZ B w r m vs vo P Q O)(ok:Ok m)(c:Int)(h0:0<=c)(h1:c<=255)(hx:m.state=118\/m.state=86\/m.state=120\/m.state=121\/m.state=110):
  Calls Tryz.prog 93 #[.pointer (some ⟨r,0,none⟩),.int .u8 c] w (D2 B w r (AO m c)):=by
 have hn:=ok.some_ (by omega);rcases hx with hx|hx|hx|hx|hx
 ·exact h.valueV ok hn c h0 h1 hx
 ·exact h.valueVV ok hn c h0 h1 hx
 ·exact h.valueX ok hn c h0 h1 hx
 ·exact h.valueY ok hn c h0 h1 hx
 ·exact h.valueN ok hn c h0 h1 hx
theorem AZ.cond(h:AZ B w r m vs vo P Q O)(ok:Ok m)(hB:B<=w.heap.size)(c:Int)(h0:0<=c)(h1:c<=255)
  (hx:m.state=99\/m.state=67\/m.state=100\/m.state=101\/m.state=102\/m.state=60\/m.state=98\/m.state=66\/m.state=109\/m.state=125):
  Calls Tryz.prog 94 #[.pointer (some ⟨r,0,none⟩),.int .u8 c] w (D2 B w r (AF m c)):=by
 have hn:=ok.some_ (by omega);rcases hx with hx|hx|hx|hx|hx|hx|hx|hx|hx|hx
 ·exact h.condC ok hn hB c h0 h1 hx
 ·exact h.condCC ok hn hB c h0 h1 hx
 ·exact h.condD ok hn hB c h0 h1 hx
 ·exact h.condE ok hn hB c h0 h1 hx
 ·exact h.condF ok hn hB c h0 h1 hx
 ·exact h.condL ok hn hB c h0 h1 hx
 ·exact h.condB ok hn hB c h0 h1 hx
 ·exact h.condBB ok hn hB c h0 h1 hx
 ·exact h.condM ok hn hB c h0 h1 hx
 ·exact h.condZ ok hn hB c h0 h1 hx
theorem AZ.byte(h:AZ B w r m vs vo P Q O)(ok:Ok m)(hB:B<=w.heap.size)(c:Int)(h0:0<=c)(h1:c<=255):
  Calls Tryz.prog 58 #[.pointer (some ⟨r,0,none⟩),.int .u8 c] w (D2 B w r (AM m c)):=by
 obtain⟨r0,r1,r2,r3,r4,r5,rf⟩:=h.rdc;have geR:=h.geR;rcases ok.states with hx|hx|hx|hx|hx
 ·have HY:Hid (AM m c=AP m c):=by show AM m c=_;unfold AM;rw[if_pos hx]
  have hc:=h.start ok hB c h0 h1;rw[hx]at r0;clear hx h ok;go_enter Tryz.func58,Tryz.ntmps58;go_wp2_with (go_at_call 92;refine hc.mono ?_;rintro e w' ⟨rfl,hb,hr⟩);go_ret;exact Bg HY.out (Below.refl _ _) hb hr
 ·rw[hx]at r0;by_cases hc:c=61
  ·subst hc;have HY:Hid (AM m 61=some {m with state:=118}):=by show AM m 61=_;unfold AM;rw[hx,if_neg (by decide),if_pos rfl,if_pos rfl]
   have HR:Hid (AZ _ _ _ _ _ _ _ _ _):=h;clear h ok hx;go_enter Tryz.func58,Tryz.ntmps58;go_wp2_with fail;go_ret;exact Aq HY.out (Below.setCell (Below.refl _ _) geR _) (HR.out.setRd 0 (.int .u8 118) _ rfl rfl rfl)
  ·have HY:Hid (AM m c=none):=by show AM m c=_;unfold AM;rw[hx,if_neg (by decide),if_pos rfl,if_neg hc]
   have bc:(c==61)=false:=by simpa using hc
   clear h ok hx hc;go_enter Tryz.func58,Tryz.ntmps58;go_wp2_with fail;go_ret;exact Av HY.out (Below.setCell (Below.refl _ _) geR _)
 ·have HY:Hid (AM m c=AO m c):=El hx c;have hc:=h.value ok c h0 h1 hx;have HR:Hid (AZ _ _ _ _ _ _ _ _ _):=h;clear h ok;rcases hx with hx|hx|hx|hx|hx;all_goals
   rw[hx]at r0;clear hx;go_enter Tryz.func58,Tryz.ntmps58;go_wp2_with (go_at_call 93;refine hc.mono ?_;rintro e w' ⟨rfl,hb,hr⟩);go_ret;exact Bg HY.out (Below.refl _ _) hb hr
 ·rw[Hh hx];exact h.bytePlain ok.len ok.oplen (ok.some_ (by omega)) hB c h0 h1 hx
 ·have HY:Hid (AM m c=AF m c):=Cd hx c;have hc:=h.cond ok hB c h0 h1 hx;have HR:Hid (AZ _ _ _ _ _ _ _ _ _):=h;clear h ok;rcases hx with hx|hx|hx|hx|hx|hx|hx|hx|hx|hx;all_goals
   rw[hx]at r0;clear hx;go_enter Tryz.func58,Tryz.ntmps58;go_wp2_with (go_at_call 94;refine hc.mono ?_;rintro e w' ⟨rfl,hb,hr⟩);go_ret;exact Bg HY.out (Below.refl _ _) hb hr
theorem UK(w:World):AZ w.heap.size (w.alloc (.cells (Ii CY (.slice none 0 0) (.slice none 0 0)) tR)) w.heap.size CY (.slice none 0 0) (.slice none 0 0) id id id where
 rd:=by
  show(w.heap.push _)[w.heap.size]?=_;rw[Array.getElem?_push,if_pos rfl]
 rs:=World.ownsRow_nil _ _ _ _
 ro:=World.ownsRow_nil _ _ _ _
 st:=by intro i s h;simp[CY]at h
 op:=by intro i s h;simp[CY]at h
 injP:=by intro i j h;exact absurd h (by simp[CY])
 injQ:=by intro i j h;exact absurd h (by simp[CY])
 injO:=by intro i j h;exact absurd h (by simp[CY])
 geR:=Nat.le_refl _
 geP:=by intro i h;exact absurd h (by simp[CY])
 geO:=by intro i h;exact absurd h (by simp[CY])
def Js(w:World)(l:List Int):Ending->World->Prop:=λe w'=>
 Below w.heap.size w w'/\w.heap.size<w'.heap.size/\
  match BH CY l 0 with
  |(n,none)=>e=.returned (.tuple #[.pointer (some ⟨w.heap.size,0,none⟩),.int .i64 n,.bool false])
  |(n,some m)=>e=.returned (.tuple #[.pointer (some ⟨w.heap.size,0,none⟩),.int .i64 n,.bool (BS m)])/\Ok m/\∃vs vo P Q O,AZ w.heap.size w' w.heap.size m vs vo P Q O
theorem LE{w w':World}{l:List Int}{m:Rd}{k:Nat}{c:Int}(hb:Below w.heap.size w w')(hz:w.heap.size<w'.heap.size)(h:En CY (l.take k)=some m)(hc:l[k]?=some c)(hs:AM m c=none):
  Js w l (.returned (.tuple #[.pointer (some ⟨w.heap.size,0,none⟩),.int .i64 k,.bool false])) w':=by
 refine⟨hb,hz,?_⟩;rw[Hc (n:=0) h hc hs,Nat.zero_add]
theorem FQ{w w':World}{l:List Int}{m:Rd}{vs vo:Value}{P Q O:Nat->Nat}{b:Bool}{n:Nat}(hb:Below w.heap.size w w')(hz:w.heap.size<w'.heap.size)(h:En CY l=some m)(ok:Ok m)(hr:AZ w.heap.size w' w.heap.size m vs vo P Q O)(hd:BS m=b)(hl:l.length=n):
  Js w l (.returned (.tuple #[.pointer (some ⟨w.heap.size,0,none⟩),.int .i64 n,.bool b])) w':=by
 refine⟨hb,hz,?_⟩;rw[EH (n:=0) h,Nat.zero_add,hl];exact⟨by rw[hd],ok,_,_,_,_,_,hr⟩
theorem OL(s:ByteArray)(w:World)(hs:s.size<=160):
  Calls Tryz.prog 20 #[.string s] w (Js w (AA s)):=by
 have HI:Hid (AZ _ _ _ _ _ _ _ _ _):=UK w;go_enter Tryz.func20,Tryz.ntmps20;go_wp2;go_loopw [6] (λi wr=>∃k:Nat,k<=s.size/\i=.int .i64 k/\w.heap.size<wr.heap.size/\Below w.heap.size w wr/\∃m,En CY ((AA s).take k)=some m/\∃vs vo P Q O,AZ w.heap.size wr w.heap.size m vs vo P Q O) (λi _=>s.size-(intOf i).toNat);case atStart=>exact⟨0,Nat.zero_le _,rfl,by simp,(Below.refl _ _).alloc (Nat.le_refl _) _,CY,rfl,_,_,_,_,_,HI.out⟩
 case round=>
  obtain⟨k,hk,rfl,hz,hbel,m,hfeed,vs,vo,P,Q,O,hrep⟩:=hrel;have ok:=Ok.init.feed hfeed;have HF:Hid (_=_):=hfeed;clear hfeed;by_cases hlt:k<s.size
  ·have hb0:(0:Int)<=((s[k]).toNat:Int):=by omega
   have hb1:((s[k]).toNat:Int)<=255:=by have:=(s[k]).toNat_lt;omega
   have hc:=hrep.byte ok (by omega) ((s[k]).toNat:Int) hb0 hb1;have HG:Hid (_=_):=Ck s k hlt;have HT:Hid (_=_):=IG s k hlt;have OK:Hid (Ok m):=ok;have HR:Hid (AZ _ _ _ _ _ _ _ _ _):=hrep;clear ok hrep;cases hst:AM m ((s[k]).toNat:Int)with
   |none=>
    rw[hst]at hc;have HS:Hid (_=_):=hst;clear hst;go_wp2_with (go_at_call 58;refine hc.mono ?_;rintro e w' ⟨rfl,hb,hr⟩)
    go_ret3
    exact LE (hbel.trans hb) (Nat.lt_of_lt_of_le hz hb.size) HF.out HG.out HS.out
   |some m'=>
    rw[hst]at hc;have HS:Hid (_=_):=hst;clear hst;go_wp2_with (go_at_call 58;refine hc.mono ?_;rintro e w' ⟨rfl,hb,hr⟩);go_roundw;case rel=>exact⟨k+1,by omega,by go_num,Nat.lt_of_lt_of_le hz hb.size,hbel.trans hb,m',by rw[HT.out,Lc,HF.out];exact HS.out,hr m' rfl⟩
    case measure=>simp[intOf];omega
  ·have hke:k=s.size:=by omega
   have hall:(AA s).take k=AA s:=List.take_of_length_le (by rw[AR];omega);have HF2:Hid (En CY (AA s)=some m):=by show En CY (AA s)=some m;rw[<-hall];exact HF.out
   obtain⟨r0,r1,r2,r3,r4,r5,rf⟩:=hrep.rdc;obtain⟨ao,cap,hvo⟩:=hrep.olen;rw[hvo]at r2;have hol:=ok.oplen;have OK:Hid (Ok m):=ok;have HR:Hid (AZ _ _ _ _ _ _ _ _ _):=hrep;have HL:Hid ((AA s).length=s.size):=AR s;clear ok hrep hall hke hvo;by_cases h115:m.state=115
   ·rw[h115]at r0;by_cases h0:m.op.length=0
    ·have HD:Hid (BS m=true):=by show BS m=true;simp[BS,h115,h0]
     rw[h0]at r2;clear h115 h0;go_wp2;go_quiet (fail);go_wp2
     go_ret3
     exact FQ (below_drewN hbel _) hz HF2.out OK.out (HR.out.drewN _) HD.out HL.out
    ·have HD:Hid (BS m=false):=by show BS m=false;simp[BS,h0]
     have b0:(((m.op.length:Nat):Int)==0)=false:=by rw[beq_eq_false_iff_ne];omega
     clear h115 h0;go_wp2;go_quiet (fail);go_wp2
     go_ret3
     exact FQ (below_drewN hbel _) hz HF2.out OK.out (HR.out.drewN _) HD.out HL.out
   ·have HD:Hid (BS m=false):=by show BS m=false;simp[BS,h115]
    have b115:(m.state==115)=false:=by simpa using h115
    clear h115;go_wp2;go_quiet (fail);go_wp2
    go_ret3
    exact FQ (below_drewN hbel _) hz HF2.out OK.out (HR.out.drewN _) HD.out HL.out
theorem Ey(s:ByteArray)(w:World)(hm:s.size<=maxLen):
  Calls Tryz.prog 6 #[.string s] w λe w'=>e=FK (Bv (AA s))/\Below w.heap.size w w':=by
 unfold maxLen at hm;have hl:=AR s;by_cases h:160<s.size
 ·have HS:Hid (Bv (AA s)=(0,1,0)):=by show Bv _=_;unfold Bv;rw[if_pos (by omega)]
  clear hl;go_enter Tryz.func6,Tryz.ntmps6;go_wp2_with fail
  go_ret3
  exact⟨by rw[HS.out];rfl,Below.refl _ _⟩
 ·have hr:=OL s w (by omega)
  have HS:Hid (Bv (AA s)=match BH CY (AA s) 0 with
   |(n,none)=>(0,1,n)
   |(n,some m)=>if BS m then((m.st.length:Int)+1,0,0)else(0,1,n)):=by show Bv _=_;unfold Bv;rw[if_neg (by omega)];rfl
  clear hl;rcases hrf:BH CY (AA s) 0 with⟨n,_|m⟩
  ·rw[hrf]at HS
   have hr':=hr.mono (R':=λe w'=>e=.returned (.tuple #[.pointer (some ⟨w.heap.size,0,none⟩),.int .i64 n,.bool false])/\Below w.heap.size w w') (by
    rintro e w' ⟨hb,hz,hm⟩;rw[hrf]at hm
    exact⟨hm,hb⟩)
   clear hr hrf;go_enter Tryz.func6,Tryz.ntmps6;go_wp2_with (go_at_call 20;refine hr'.mono ?_;rintro e w' ⟨rfl,hb⟩)
   go_ret3
   exact⟨by rw[HS.out];rfl,hb⟩
  ·rw[hrf]at HS
   have hr':=hr.mono (R':=λe w'=>e=.returned (.tuple #[.pointer (some ⟨w.heap.size,0,none⟩),.int .i64 n,.bool (BS m)])/\Below w.heap.size w w'/\m.st.length<=20/\∃ao cap,w'.cell? ⟨w.heap.size,1,none⟩=some (.slice ao m.st.length cap)) (by
    rintro e w' ⟨hb,hz,hm⟩;rw[hrf]at hm;obtain⟨he,ok,vs,vo,P,Q,O,hrep⟩:=hm;obtain⟨ao,cap,hv⟩:=hrep.slen
    exact⟨he,hb,ok.len,ao,cap,by rw[<-hv];exact hrep.rdc.2.1⟩)
   clear hr hrf;cases hd:BS m
   ·have HS2:Hid (Bv (AA s)=(0,1,(n:Int))):=HS.out.trans (by simp[hd]);rw[hd]at hr';clear hd HS;go_enter Tryz.func6,Tryz.ntmps6;go_wp2_with (go_at_call 20;refine hr'.mono ?_;rintro e w' ⟨rfl,hb,hlen,ao,cap,hcell⟩)
    go_ret3
    exact⟨by rw[HS2.out];rfl,hb⟩
   ·have HS2:Hid (Bv (AA s)=((m.st.length:Int)+1,0,0)):=HS.out.trans (by simp[hd]);rw[hd]at hr';clear hd HS;go_enter Tryz.func6,Tryz.ntmps6;go_wp2_with (go_at_call 20;refine hr'.mono ?_;rintro e w' ⟨rfl,hb,hlen,ao,cap,hcell⟩)
    go_ret3
    exact⟨by rw[HS2.out];rfl,hb⟩
end Go.Proofs.YtffajooegiempaaGreatDoor
namespace Go.Proofs.YtffajooegiempaaGreatDoor
def Ay(S:List St)(i:Nat):Nat->Int
 |0=> -1
 |k+1=>if i<(S.getD k AY).fin then(k:Int)else Ay S i k
def G6(u:St)(i:Nat):Nat:=if u.kind=63/\i<u.mid then u.mid else u.fin
def Bx(S:List St):Nat->Nat->Int
 |0,_=>0
 |n+1,i=>if Ay S i i<0 then((S.getD i AY).fin:Int)
  else if(S.getD i AY).fin<G6 (S.getD (Ay S i i).toNat AY) i then((S.getD i AY).fin:Int)
  else if(S.getD (Ay S i i).toNat AY).kind=64 then Ay S i i
  else Bx S n (Ay S i i).toNat
def DE(u:St):Int:=if u.kind=61\/u.kind=33 then 1 else 2
def BZ(S:List St)(p:Nat)(way:Int):Int:=
 let u:=S.getD p AY
 let f:=Bx S 21 p
 if u.kind=61\/u.kind=33\/(u.kind=64/\way=1)then f
 else if u.kind=64/\u.fin=p+1 then p
 else if u.kind=64 then(p:Int)+1
 else if way=0/\p+1<u.mid then(p:Int)+1
 else if way=1/\u.mid<u.fin then u.mid
 else f
theorem Nw(S:List St)(i:Nat):∀k, -1<=Ay S i k/\Ay S i k<k:=by
 intro k;induction k with
 |zero=>unfold Ay;omega
 |succ k ih=>
  unfold Ay;split
  ·omega
  ·omega
end Go.Proofs.YtffajooegiempaaGreatDoor
namespace Go.Proofs.YtffajooegiempaaGreatDoor
open Go.RowKit
variable {B:Nat}{w w':World}{r:Nat}{m:Rd}{vs vo:Value}{P Q O:Nat->Nat}
theorem AZ.gets{j:Nat}(hj:j<m.st.length):m.st[j]?=some (m.st.getD j AY):=by rw[List.getD_eq_getElem?_getD,List.getElem?_eq_getElem hj];rfl
theorem AZ.slen'(h:AZ B w r m vs vo P Q O):∃ao cap,vs=.slice ao m.st.length cap:=by
 obtain⟨_,h2⟩:=h.rs;rcases h2 with⟨rfl,e⟩|⟨g,cap,c,rfl,_⟩
 ·exact⟨none,0,by rw[e]⟩
 ·exact⟨_,cap,rfl⟩
theorem AZ.ways(h:AZ B w r m vs vo P Q O)(p:Int):
  Calls Tryz.prog 21 #[.pointer (some ⟨r,0,none⟩),.int .i64 p] w λe w'=>e=.returned (.int .i64 (if p<0\/(m.st.length:Int)<=p then 0 else DE (m.st.getD p.toNat AY)))/\w'=w:=by
 obtain⟨ao,cap,hvs⟩:=h.slen';obtain⟨r0,r1,r2,r3,r4,r5,rf⟩:=h.rdc;by_cases h0:p<0
 ·rw[if_pos (.inl h0)];clear h r0 r2 r3 r4 r5 rf;go_enter Tryz.func21,Tryz.ntmps21;go_wp2_with fail;go_ret;exact⟨rfl,rfl⟩
 by_cases h1:(m.st.length:Int)<=p
 ·rw[if_pos (.inr h1)];rw[hvs]at r1;clear h r0 r2 r3 r4 r5 rf;go_enter Tryz.func21,Tryz.ntmps21;go_wp2_with fail;go_ret;exact⟨rfl,rfl⟩
 rw[if_neg (λe=>e.elim h0 h1)];obtain⟨k,rfl⟩:∃k:Nat,p=k:=⟨p.toNat,by omega⟩
 rw[Int.toNat_natCast];have hk:k<m.st.length:=by omega
 obtain⟨g,cap',hvs',hrow,_⟩:=h.row (by omega);rw[hvs']at r1;have hc:w.cell? ⟨g,k,none⟩=some (.pointer (some ⟨P k,0,none⟩)):=hrow k hk;obtain⟨c0, -⟩:=h.stc k _ (AZ.gets hk);have hki:(k:Int)<(m.st.length:Int):=by omega
 unfold DE;clear h hrow hvs hvs' r0 r2 r3 r4 r5 rf h1;generalize m.st.getD k AY=u at *;generalize P k=q at *;by_cases k61:u.kind=61
 ·rw[if_pos (.inl k61)];rw[k61]at c0;clear k61;go_enter Tryz.func21,Tryz.ntmps21;go_wp2_with fail;go_ret;exact⟨rfl,rfl⟩
 have b61:(u.kind==61)=false:=by simpa using k61
 by_cases k33:u.kind=33
 ·rw[if_pos (.inr k33)];rw[k33]at c0;clear k33 k61 b61;go_enter Tryz.func21,Tryz.ntmps21;go_wp2_with fail;go_ret;exact⟨rfl,rfl⟩
 have b33:(u.kind==33)=false:=by simpa using k33
 rw[if_neg (λe=>e.elim k61 k33)];clear k33 k61;go_enter Tryz.func21,Tryz.ntmps21;go_wp2_with fail;go_ret;exact⟨rfl,rfl⟩
def AV(l:List Int):Option Rd:=
 if 160<l.length then none else match(BH CY l 0).2 with
  |none=>none
  |some m=>if BS m then some m else none
theorem EQ{l:List Int}(h:AV l=none):(Bv l).2.1=1:=by
 unfold AV at h;unfold Bv;split at h
 ·rename_i e;rw[if_pos e]
 ·rename_i e;rw[if_neg e];rcases hr:BH CY l 0 with⟨n,_|m⟩
  ·rfl
  ·rw[hr]at h;simp only at h|-;cases hd:BS m
   ·simp
   ·rw[hd]at h;simp at h
theorem Au{l:List Int}{m:Rd}(h:AV l=some m):l.length<=160/\(∃n,BH CY l 0=(n,some m))/\BS m=true/\Bv l=((m.st.length:Int)+1,0,0):=by
 unfold AV at h;split at h
 ·cases h
 ·rename_i e;rcases hr:BH CY l 0 with⟨n,_|m'⟩
  ·rw[hr]at h;cases h
  ·rw[hr]at h;simp only at h;cases hd:BS m'
   ·rw[hd]at h;simp at h
   ·rw[hd]at h;simp at h;subst h;refine⟨by omega,⟨n,rfl⟩,hd,?_⟩;unfold Bv;rw[if_neg e,hr];simp[hd]
def two(x:Int×Int):Ending:=.returned (.tuple #[.int .i64 x.1,.int .i64 x.2])
theorem Gx{s:ByteArray}{m:Rd}(hp:AV (AA s)=some m)(w:World):
  Calls Tryz.prog 20 #[.string s] w λe w'=>∃n:Nat,e=.returned (.tuple #[.pointer (some ⟨w.heap.size,0,none⟩),.int .i64 n,.bool true])/\Below w.heap.size w w'/\m.st.length<=20/\∃vs vo P Q O,AZ w.heap.size w' w.heap.size m vs vo P Q O:=by
 obtain⟨hl,⟨n,hr⟩,hd,_⟩:=Au hp;refine(OL s w (by rw[<-AR];exact hl)).mono ?_;rintro e w' ⟨hb,_,h⟩;rw[hr]at h;obtain⟨he,ok,hrep⟩:=h;exact⟨n,by rw[he,hd],hb,ok.len,hrep⟩
end Go.Proofs.YtffajooegiempaaGreatDoor
namespace Go.Proofs.YtffajooegiempaaGreatDoor
open Go.RowKit
variable {B B2:Nat}{w w':World}{r:Nat}{m:Rd}{vs vo:Value}{P Q O:Nat->Nat}
theorem AZ.keep(h:AZ B w r m vs vo P Q O)(hb:Below w.heap.size w w'):AZ B w' r m vs vo P Q O where
 rd:=h.rd.keep hb h.rd.lt
 rs:=Ed h.rs (λg hg=>hb.block g (h.rs.lt g hg).2)
 ro:=Ed h.ro (λg hg=>hb.block g (h.ro.lt g hg).2)
 st:=λi s hi=>by
  obtain⟨a,b⟩:=h.st i s hi;exact⟨a.keep hb a.lt,b.keep hb b.lt⟩
 op:=λi b hi=>(h.op i b hi).keep hb (h.op i b hi).lt
 injP:=h.injP
 injQ:=h.injQ
 injO:=h.injO
 geR:=h.geR
 geP:=h.geP
 geO:=h.geO
end Go.Proofs.YtffajooegiempaaGreatDoor
namespace Go.Proofs.YtffajooegiempaaGreatDoor
open Go.RowKit
variable {w:World}{e0:Bool}{M:Nat->Int}{b:Nat}
def DF(e:Bool)(M:Nat->Int)(x:Ds):Bool:=
 if e=true then true else if x.kind=0 then x.any||ftB M x.sg x.num else if x.kind=1 then !x.any&&decide (FC M x.sg<=x.num)else true
theorem S8(x:Ds)(k1:x.kind=1)(ha:x.any=true):
  Calls Tryz.prog 82 #[B0 x,.agg (oc false M)] w λe w'=>e=.returned (.bool (DF false M x))/\Below w.heap.size w w':=by
 obtain⟨e0,he0⟩:∃e0:Bool,e0=false:=⟨_,rfl⟩
 rw[<-he0];obtain⟨w0,hw0⟩:∃w0,w0=(w.alloc (.cells (AD x) BB)).alloc (.cells (oc e0 M) tO):=⟨_,rfl⟩
 have H0:Hid (At w0 w.heap.size (AD x) BB/\AL w0 (w.heap.size+1) e0 M/\Below w.heap.size w w0/\w0.heap.size=w.heap.size+2):=by
  refine⟨by rw[hw0];exact At.allocH (At.new _ _ _) _,?_,by rw[hw0];exact((Below.refl _ _).alloc (Nat.le_refl _) _).alloc (by simp) _,by rw[hw0];simp⟩;have:=At.new (w.alloc (.cells (AD x) BB)) (oc e0 M) tO;rw[show(w.alloc (.cells (AD x) BB)).heap.size=w.heap.size+1 by simp]at this;rw[hw0];exact this
 have z0:w0.cell? ⟨w.heap.size+1,0,none⟩=some (.bool e0):=by rw[At.cell H0.out.2.1];exact Ib _ _
 have HB0:=H0.out.2.2.1;have HA0:=H0.out.2.1;subst he0;have HE0:Hid (DF false M x=(!x.any&&decide (FC M x.sg<=x.num))):=by show DF false M x=_;unfold DF;rw[if_neg (by decide),if_neg (by omega),if_pos k1]
 have HE:Hid (DF false M x=false):=by show _=false;rw[HE0.out,ha];rfl
 have d2:w0.drew.cell? ⟨w.heap.size,2,none⟩=some (.bool true):=by rw[<-ha];exact H0.out.1.cell 2
 have HB1:Hid (Below w.heap.size w w0.drew):=H0.out.2.2.1.drew;rw[hw0]at d2 HB1;clear H0 HE0;rw[hw0]at z0 HB0 HA0;unfold AD at z0 HB0 HA0;unfold B0;unfold AD at d2 HB1;rw[k1,ha]at z0 HB0 d2 HB1|-;clear hw0;go_enter Tryz.func82,Tryz.ntmps82;go_wp2_with fail;go_region;all_goals
  go_wp2_with fail;go_ret;exact⟨BM HE.out,HB1.out⟩
end Go.Proofs.YtffajooegiempaaGreatDoor
