import Derived.Test.YtffajooegiempaaGreatDoorJ14
import Derived.Deep.RegionLaw
import Derived.BigRegion
set_option maxRecDepth 100000
set_option maxHeartbeats 6400000
namespace Go.Proofs.YtffajooegiempaaGreatDoor
open Go.RowKit
variable {B:Nat}{w w':World}{r:Nat}{m:Rd}{vs vo:Value}{P Q O:Nat->Nat}
theorem AZ.condD(h:AZ B w r m vs vo P Q O)(ok:Ok m)(hn:0<m.st.length)(_hB:B<=w.heap.size)(c:Int)(h0:0<=c)(h1:c<=255)(hx:m.state=100):
  Calls Tryz.prog 94 #[.pointer (some ⟨r,0,none⟩),.int .u8 c] w (D2 B w r (AF m c)):=by
 have hc:=h.now hn ok.len;have hcur:=AZ.curs hn;obtain⟨c0,c1,c2,c3,c4,c5,c6,f7,f8,n9,n10,n11⟩:=h.stc _ _ hcur;obtain⟨r0,r1,r2,r3,r4,r5,rf⟩:=h.rdc;have geR:=h.geR;obtain⟨geP,geQ⟩:=h.geC hn;obtain⟨sg0,sg1⟩:=ok.sgn;obtain⟨nu0,nu1⟩:=ok.nums (cur m) (List.mem_of_getElem? hcur);have HC:Hid (_=_):=hcur;clear hcur;rw[hx]at r0;have HX:Hid (_=_):=hx;clear hx;have nrp:r≠P (m.st.length-1):=λe=>n9 e.symm;have nrq:r≠Q (m.st.length-1):=λe=>n10 e.symm;have npq:P (m.st.length-1)≠Q (m.st.length-1):=λe=>n11 e.symm;by_cases h43:c=43
 ·subst h43;have HY:Hid (AF m 43=some {m with sign:=1,state:=101}):=by show AF m 43=_;unfold AF;rw[HX.out,if_neg (by decide),if_neg (by decide),if_pos rfl,if_pos rfl]
  have HR:Hid (AZ _ _ _ _ _ _ _ _ _):=h;have OK:Hid (Ok m):=ok;clear h ok;go_enter Tryz.func94,Tryz.ntmps94;go_wp2_with (first|(go_at_call 126;refine hc.mono ?_;rintro e w' ⟨rfl,k,rfl⟩)|(go_at_call 123;refine(AN _ _ (by omega) (by omega) (by omega)).mono ?_;rintro e w' ⟨rfl,rfl⟩));go_ret;exact Aq HY.out (Below.setCell (Below.setCell (below_drewN (Below.refl _ _) _) geR _) geR _) (((HR.out.drewN k).setRd 3 (.int .i64 1) {m with sign:=1} rfl rfl rfl).setRd 0 (.int .u8 101) _ rfl rfl rfl)
 have b43:(c==43)=false:=by simpa using h43
 by_cases h45:c=45
 ·subst h45;have HY:Hid (AF m 45=some {m with sign:= -1,state:=101}):=by show AF m 45=_;unfold AF;rw[HX.out,if_neg (by decide),if_neg (by decide),if_pos rfl,if_neg (by decide),if_pos rfl]
  clear h43 b43;have HR:Hid (AZ _ _ _ _ _ _ _ _ _):=h;have OK:Hid (Ok m):=ok;clear h ok;go_enter Tryz.func94,Tryz.ntmps94;go_wp2_with (first|(go_at_call 126;refine hc.mono ?_;rintro e w' ⟨rfl,k,rfl⟩)|(go_at_call 123;refine(AN _ _ (by omega) (by omega) (by omega)).mono ?_;rintro e w' ⟨rfl,rfl⟩));go_ret;exact Aq HY.out (Below.setCell (Below.setCell (Below.setCell (below_drewN (Below.refl _ _) _) geR _) geR _) geR _) ((((HR.out.drewN k).setRd 3 (.int .i64 1) {m with sign:=1} rfl rfl rfl).setRd 3 (.int .i64 (-1)) {m with sign:= -1} rfl rfl rfl).setRd 0 (.int .u8 101) _ rfl rfl rfl)
 have b45:(c==45)=false:=by simpa using h45
 by_cases h60:c=60
 ·subst h60;have HY:Hid (AF m 60=some {m with state:=60}):=by show AF m 60=_;unfold AF;rw[HX.out,if_neg (by decide),if_neg (by decide),if_pos rfl,if_neg (by decide),if_neg (by decide),if_pos rfl]
  clear h43 b43 h45 b45;have HR:Hid (AZ _ _ _ _ _ _ _ _ _):=h;have OK:Hid (Ok m):=ok;clear h ok;go_enter Tryz.func94,Tryz.ntmps94;go_wp2_with (first|(go_at_call 126;refine hc.mono ?_;rintro e w' ⟨rfl,k,rfl⟩)|(go_at_call 123;refine(AN _ _ (by omega) (by omega) (by omega)).mono ?_;rintro e w' ⟨rfl,rfl⟩));go_ret;exact Aq HY.out (Below.setCell (below_drewN (Below.refl _ _) _) geR _) ((HR.out.drewN k).setRd 0 (.int .u8 60) _ rfl rfl rfl)
 have b60:(c==60)=false:=by simpa using h60
 have HY:Hid (AF m c=none):=by show AF m c=_;unfold AF;rw[HX.out,if_neg (by decide),if_neg (by decide),if_pos rfl,if_neg h43,if_neg h45,if_neg h60]
 clear h43 h45 h60;have HR:Hid (AZ _ _ _ _ _ _ _ _ _):=h;have OK:Hid (Ok m):=ok;clear h ok;by_cases hv:97<=c/\c<=100
 ·obtain⟨hva,hvb⟩:=hv;go_enter Tryz.func94,Tryz.ntmps94;go_wp2_with (first|(go_at_call 126;refine hc.mono ?_;rintro e w' ⟨rfl,k,rfl⟩)|(go_at_call 123;refine(As c _ hva hvb).mono ?_;rintro e w' ⟨rfl,rfl⟩));go_ret;exact Av HY.out (below_drewN (Below.refl _ _) _)
 ·go_enter Tryz.func94,Tryz.ntmps94;go_wp2_with (first|(go_at_call 126;refine hc.mono ?_;rintro e w' ⟨rfl,k,rfl⟩)|(go_at_call 123;refine(AN _ _ (by omega) (by omega) (by omega)).mono ?_;rintro e w' ⟨rfl,rfl⟩));go_ret;exact Av HY.out (below_drewN (Below.refl _ _) _)
theorem AZ.condE(h:AZ B w r m vs vo P Q O)(ok:Ok m)(hn:0<m.st.length)(_hB:B<=w.heap.size)(c:Int)(h0:0<=c)(h1:c<=255)(hx:m.state=101):
  Calls Tryz.prog 94 #[.pointer (some ⟨r,0,none⟩),.int .u8 c] w (D2 B w r (AF m c)):=by
 have hc:=h.now hn ok.len;have hcur:=AZ.curs hn;obtain⟨c0,c1,c2,c3,c4,c5,c6,f7,f8,n9,n10,n11⟩:=h.stc _ _ hcur;obtain⟨r0,r1,r2,r3,r4,r5,rf⟩:=h.rdc;have geR:=h.geR;obtain⟨geP,geQ⟩:=h.geC hn;obtain⟨sg0,sg1⟩:=ok.sgn;obtain⟨nu0,nu1⟩:=ok.nums (cur m) (List.mem_of_getElem? hcur);have HC:Hid (_=_):=hcur;clear hcur;rw[hx]at r0;have HX:Hid (_=_):=hx;clear hx;have nrp:r≠P (m.st.length-1):=λe=>n9 e.symm;have nrq:r≠Q (m.st.length-1):=λe=>n10 e.symm;have npq:P (m.st.length-1)≠Q (m.st.length-1):=λe=>n11 e.symm;by_cases hv:97<=c/\c<=100
 ·by_cases hz:(cur m).sg.getD (c-97).toNat 0=0
  ·have HY:Hid (AF m c=some (Bp m (c-97).toNat m.sign 102)):=by show AF m c=_;unfold AF;rw[HX.out,if_neg (by decide),if_neg (by decide),if_neg (by decide),if_pos rfl,if_pos hv,if_pos hz]
   obtain⟨hva,hvb⟩:=hv;have hq:=h.sgc ok hn (c-97).toNat (by omega);rw[hz]at hq;have i0:(0:Int)<=c-97:=by omega
   have i1:c-97<4:=by omega
   clear hz;have HR:Hid (AZ _ _ _ _ _ _ _ _ _):=h;have OK:Hid (Ok m):=ok;clear h ok;go_enter Tryz.func94,Tryz.ntmps94;go_wp2_with (first|(go_at_call 126;refine hc.mono ?_;rintro e w' ⟨rfl,k,rfl⟩)|(go_at_call 123;refine(As c _ hva hvb).mono ?_;rintro e w' ⟨rfl,rfl⟩));go_region;go_wp2;go_ret;exact Aq HY.out (Below.setCell (Below.setCell (below_drewN (Below.refl _ _) _) geQ _) geR _) (KY HR.out hn (c-97).toNat 102 (k+1))
  ·have HY:Hid (AF m c=none):=by show AF m c=_;unfold AF;rw[HX.out,if_neg (by decide),if_neg (by decide),if_neg (by decide),if_pos rfl,if_pos hv,if_neg hz]
   obtain⟨hva,hvb⟩:=hv;have hq:=h.sgc ok hn (c-97).toNat (by omega);have i0:(0:Int)<=c-97:=by omega
   have i1:c-97<4:=by omega
   generalize(cur m).sg.getD (c-97).toNat 0=y at *;have bz:(y != 0)=true:=by simpa using hz
   clear hz;have HR:Hid (AZ _ _ _ _ _ _ _ _ _):=h;have OK:Hid (Ok m):=ok;clear h ok;go_enter Tryz.func94,Tryz.ntmps94;go_wp2_with (first|(go_at_call 126;refine hc.mono ?_;rintro e w' ⟨rfl,k,rfl⟩)|(go_at_call 123;refine(As c _ hva hvb).mono ?_;rintro e w' ⟨rfl,rfl⟩));go_ret;exact Av HY.out (below_drewN (Below.refl _ _) _)
 have HY:Hid (AF m c=none):=by show AF m c=_;unfold AF;rw[HX.out,if_neg (by decide),if_neg (by decide),if_neg (by decide),if_pos rfl,if_neg hv]
 have HR:Hid (AZ _ _ _ _ _ _ _ _ _):=h;have OK:Hid (Ok m):=ok;clear h ok;go_enter Tryz.func94,Tryz.ntmps94;go_wp2_with (first|(go_at_call 126;refine hc.mono ?_;rintro e w' ⟨rfl,k,rfl⟩)|(go_at_call 123;refine(AN _ _ (by omega) (by omega) (by omega)).mono ?_;rintro e w' ⟨rfl,rfl⟩));go_ret;exact Av HY.out (below_drewN (Below.refl _ _) _)
theorem AZ.condF(h:AZ B w r m vs vo P Q O)(ok:Ok m)(hn:0<m.st.length)(_hB:B<=w.heap.size)(c:Int)(h0:0<=c)(h1:c<=255)(hx:m.state=102):
  Calls Tryz.prog 94 #[.pointer (some ⟨r,0,none⟩),.int .u8 c] w (D2 B w r (AF m c)):=by
 have hc:=h.now hn ok.len;have hcur:=AZ.curs hn;obtain⟨c0,c1,c2,c3,c4,c5,c6,f7,f8,n9,n10,n11⟩:=h.stc _ _ hcur;obtain⟨r0,r1,r2,r3,r4,r5,rf⟩:=h.rdc;have geR:=h.geR;obtain⟨geP,geQ⟩:=h.geC hn;obtain⟨sg0,sg1⟩:=ok.sgn;obtain⟨nu0,nu1⟩:=ok.nums (cur m) (List.mem_of_getElem? hcur);have HC:Hid (_=_):=hcur;clear hcur;rw[hx]at r0;have HX:Hid (_=_):=hx;clear hx;have nrp:r≠P (m.st.length-1):=λe=>n9 e.symm;have nrq:r≠Q (m.st.length-1):=λe=>n10 e.symm;have npq:P (m.st.length-1)≠Q (m.st.length-1):=λe=>n11 e.symm;by_cases h60:c=60
 ·subst h60;have HY:Hid (AF m 60=some {m with state:=60}):=by show AF m 60=_;unfold AF;rw[HX.out,if_neg (by decide),if_neg (by decide),if_neg (by decide),if_neg (by decide),if_pos rfl,if_pos rfl]
  have HR:Hid (AZ _ _ _ _ _ _ _ _ _):=h;have OK:Hid (Ok m):=ok;clear h ok;go_enter Tryz.func94,Tryz.ntmps94;go_wp2_with (first|(go_at_call 126;refine hc.mono ?_;rintro e w' ⟨rfl,k,rfl⟩)|(go_at_call 123;refine(AN _ _ (by omega) (by omega) (by omega)).mono ?_;rintro e w' ⟨rfl,rfl⟩));go_ret;exact Aq HY.out (Below.setCell (below_drewN (Below.refl _ _) _) geR _) ((HR.out.drewN k).setRd 0 (.int .u8 60) _ rfl rfl rfl)
 have b60:(c==60)=false:=by simpa using h60
 have HY:Hid (AF m c=none):=by show AF m c=_;unfold AF;rw[HX.out,if_neg (by decide),if_neg (by decide),if_neg (by decide),if_neg (by decide),if_pos rfl,if_neg h60]
 clear h60;have HR:Hid (AZ _ _ _ _ _ _ _ _ _):=h;have OK:Hid (Ok m):=ok;clear h ok;by_cases hv:97<=c/\c<=100
 ·obtain⟨hva,hvb⟩:=hv;go_enter Tryz.func94,Tryz.ntmps94;go_wp2_with (first|(go_at_call 126;refine hc.mono ?_;rintro e w' ⟨rfl,k,rfl⟩)|(go_at_call 123;refine(As c _ hva hvb).mono ?_;rintro e w' ⟨rfl,rfl⟩));go_ret;exact Av HY.out (below_drewN (Below.refl _ _) _)
 ·go_enter Tryz.func94,Tryz.ntmps94;go_wp2_with (first|(go_at_call 126;refine hc.mono ?_;rintro e w' ⟨rfl,k,rfl⟩)|(go_at_call 123;refine(AN _ _ (by omega) (by omega) (by omega)).mono ?_;rintro e w' ⟨rfl,rfl⟩));go_ret;exact Av HY.out (below_drewN (Below.refl _ _) _)
theorem AZ.condL(h:AZ B w r m vs vo P Q O)(ok:Ok m)(hn:0<m.st.length)(_hB:B<=w.heap.size)(c:Int)(h0:0<=c)(h1:c<=255)(hx:m.state=60):
  Calls Tryz.prog 94 #[.pointer (some ⟨r,0,none⟩),.int .u8 c] w (D2 B w r (AF m c)):=by
 have hc:=h.now hn ok.len;have hcur:=AZ.curs hn;obtain⟨c0,c1,c2,c3,c4,c5,c6,f7,f8,n9,n10,n11⟩:=h.stc _ _ hcur;obtain⟨r0,r1,r2,r3,r4,r5,rf⟩:=h.rdc;have geR:=h.geR;obtain⟨geP,geQ⟩:=h.geC hn;obtain⟨sg0,sg1⟩:=ok.sgn;obtain⟨nu0,nu1⟩:=ok.nums (cur m) (List.mem_of_getElem? hcur);have HC:Hid (_=_):=hcur;clear hcur;rw[hx]at r0;have HX:Hid (_=_):=hx;clear hx;have nrp:r≠P (m.st.length-1):=λe=>n9 e.symm;have nrq:r≠Q (m.st.length-1):=λe=>n10 e.symm;have npq:P (m.st.length-1)≠Q (m.st.length-1):=λe=>n11 e.symm;by_cases h61:c=61
 ·subst h61;have HY:Hid (AF m 61=some {m with neg:=false,state:=98}):=by show AF m 61=_;unfold AF;rw[HX.out,if_neg (by decide),if_neg (by decide),if_neg (by decide),if_neg (by decide),if_neg (by decide),if_pos rfl,if_pos rfl]
  have HR:Hid (AZ _ _ _ _ _ _ _ _ _):=h;have OK:Hid (Ok m):=ok;clear h ok;go_enter Tryz.func94,Tryz.ntmps94;go_wp2_with (first|(go_at_call 126;refine hc.mono ?_;rintro e w' ⟨rfl,k,rfl⟩)|(go_at_call 123;refine(AN _ _ (by omega) (by omega) (by omega)).mono ?_;rintro e w' ⟨rfl,rfl⟩));go_ret;exact Aq HY.out (Below.setCell (Below.setCell (below_drewN (Below.refl _ _) _) geR _) geR _) (((HR.out.drewN k).setRd 4 (.bool false) {m with neg:=false} rfl rfl rfl).setRd 0 (.int .u8 98) _ rfl rfl rfl)
 have b61:(c==61)=false:=by simpa using h61
 have HY:Hid (AF m c=none):=by show AF m c=_;unfold AF;rw[HX.out,if_neg (by decide),if_neg (by decide),if_neg (by decide),if_neg (by decide),if_neg (by decide),if_pos rfl,if_neg h61]
 clear h61;have HR:Hid (AZ _ _ _ _ _ _ _ _ _):=h;have OK:Hid (Ok m):=ok;clear h ok;by_cases hv:97<=c/\c<=100
 ·obtain⟨hva,hvb⟩:=hv;go_enter Tryz.func94,Tryz.ntmps94;go_wp2_with (first|(go_at_call 126;refine hc.mono ?_;rintro e w' ⟨rfl,k,rfl⟩)|(go_at_call 123;refine(As c _ hva hvb).mono ?_;rintro e w' ⟨rfl,rfl⟩));go_ret;exact Av HY.out (below_drewN (Below.refl _ _) _)
 ·go_enter Tryz.func94,Tryz.ntmps94;go_wp2_with (first|(go_at_call 126;refine hc.mono ?_;rintro e w' ⟨rfl,k,rfl⟩)|(go_at_call 123;refine(AN _ _ (by omega) (by omega) (by omega)).mono ?_;rintro e w' ⟨rfl,rfl⟩));go_ret;exact Av HY.out (below_drewN (Below.refl _ _) _)
theorem AZ.condB(h:AZ B w r m vs vo P Q O)(ok:Ok m)(hn:0<m.st.length)(_hB:B<=w.heap.size)(c:Int)(h0:0<=c)(h1:c<=255)(hx:m.state=98):
  Calls Tryz.prog 94 #[.pointer (some ⟨r,0,none⟩),.int .u8 c] w (D2 B w r (AF m c)):=by
 have hc:=h.now hn ok.len;have hcur:=AZ.curs hn;obtain⟨c0,c1,c2,c3,c4,c5,c6,f7,f8,n9,n10,n11⟩:=h.stc _ _ hcur;obtain⟨r0,r1,r2,r3,r4,r5,rf⟩:=h.rdc;have geR:=h.geR;obtain⟨geP,geQ⟩:=h.geC hn;obtain⟨sg0,sg1⟩:=ok.sgn;obtain⟨nu0,nu1⟩:=ok.nums (cur m) (List.mem_of_getElem? hcur);have HC:Hid (_=_):=hcur;clear hcur;rw[hx]at r0;have HX:Hid (_=_):=hx;clear hx;have nrp:r≠P (m.st.length-1):=λe=>n9 e.symm;have nrq:r≠Q (m.st.length-1):=λe=>n10 e.symm;have npq:P (m.st.length-1)≠Q (m.st.length-1):=λe=>n11 e.symm;by_cases h45:c=45
 ·subst h45;have HY:Hid (AF m 45=some {m with neg:=true,state:=66}):=by show AF m 45=_;unfold AF;rw[HX.out,if_neg (by decide),if_neg (by decide),if_neg (by decide),if_neg (by decide),if_neg (by decide),if_neg (by decide),if_pos rfl,if_pos rfl]
  have HR:Hid (AZ _ _ _ _ _ _ _ _ _):=h;have OK:Hid (Ok m):=ok;clear h ok;go_enter Tryz.func94,Tryz.ntmps94;go_wp2_with (first|(go_at_call 126;refine hc.mono ?_;rintro e w' ⟨rfl,k,rfl⟩)|(go_at_call 123;refine(AN _ _ (by omega) (by omega) (by omega)).mono ?_;rintro e w' ⟨rfl,rfl⟩));go_ret;exact Aq HY.out (Below.setCell (Below.setCell (below_drewN (Below.refl _ _) _) geR _) geR _) (((HR.out.drewN k).setRd 4 (.bool true) {m with neg:=true} rfl rfl rfl).setRd 0 (.int .u8 66) _ rfl rfl rfl)
 have b45:(c==45)=false:=by simpa using h45
 have HY:Hid (AF m c=AT m c false 109):=by show AF m c=_;unfold AF;rw[HX.out,if_neg (by decide),if_neg (by decide),if_neg (by decide),if_neg (by decide),if_neg (by decide),if_neg (by decide),if_pos rfl,if_neg h45]
 clear h45;by_cases hv:97<=c/\c<=100
 ·obtain⟨hva,hvb⟩:=hv;have HR:Hid (AZ _ _ _ _ _ _ _ _ _):=h;have OK:Hid (Ok m):=ok;clear h ok;go_enter Tryz.func94,Tryz.ntmps94;go_wp2_with (first|(go_at_call 126;refine hc.mono ?_;rintro e w' ⟨rfl,k,rfl⟩)|(go_at_call 123;refine(As c _ hva hvb).mono ?_;rintro e w' ⟨rfl,rfl⟩));refine((HR.out.drewN k).digit OK.out hn c false h0 h1 109).mono ?_;rintro e w' ⟨rfl,hb,hr⟩;go_wp2;go_ret;exact Bg HY.out (below_drewN (Below.refl _ _) _) hb hr
 ·have HR:Hid (AZ _ _ _ _ _ _ _ _ _):=h;have OK:Hid (Ok m):=ok;clear h ok;go_enter Tryz.func94,Tryz.ntmps94;go_wp2_with (first|(go_at_call 126;refine hc.mono ?_;rintro e w' ⟨rfl,k,rfl⟩)|(go_at_call 123;refine(AN _ _ (by omega) (by omega) (by omega)).mono ?_;rintro e w' ⟨rfl,rfl⟩));refine((HR.out.drewN k).digit OK.out hn c false h0 h1 109).mono ?_;rintro e w' ⟨rfl,hb,hr⟩;go_wp2;go_ret;exact Bg HY.out (below_drewN (Below.refl _ _) _) hb hr
theorem AZ.condBB(h:AZ B w r m vs vo P Q O)(ok:Ok m)(hn:0<m.st.length)(_hB:B<=w.heap.size)(c:Int)(h0:0<=c)(h1:c<=255)(hx:m.state=66):
  Calls Tryz.prog 94 #[.pointer (some ⟨r,0,none⟩),.int .u8 c] w (D2 B w r (AF m c)):=by
 have hc:=h.now hn ok.len;have hcur:=AZ.curs hn;obtain⟨c0,c1,c2,c3,c4,c5,c6,f7,f8,n9,n10,n11⟩:=h.stc _ _ hcur;obtain⟨r0,r1,r2,r3,r4,r5,rf⟩:=h.rdc;have geR:=h.geR;obtain⟨geP,geQ⟩:=h.geC hn;obtain⟨sg0,sg1⟩:=ok.sgn;obtain⟨nu0,nu1⟩:=ok.nums (cur m) (List.mem_of_getElem? hcur);have HC:Hid (_=_):=hcur;clear hcur;rw[hx]at r0;have HX:Hid (_=_):=hx;clear hx;have nrp:r≠P (m.st.length-1):=λe=>n9 e.symm;have nrq:r≠Q (m.st.length-1):=λe=>n10 e.symm;have npq:P (m.st.length-1)≠Q (m.st.length-1):=λe=>n11 e.symm;have HY:Hid (AF m c=AT m c true 109):=by show AF m c=_;unfold AF;rw[HX.out,if_neg (by decide),if_neg (by decide),if_neg (by decide),if_neg (by decide),if_neg (by decide),if_neg (by decide),if_neg (by decide),if_pos rfl]
 by_cases hv:97<=c/\c<=100
 ·obtain⟨hva,hvb⟩:=hv;have HR:Hid (AZ _ _ _ _ _ _ _ _ _):=h;have OK:Hid (Ok m):=ok;clear h ok;go_enter Tryz.func94,Tryz.ntmps94;go_wp2_with (first|(go_at_call 126;refine hc.mono ?_;rintro e w' ⟨rfl,k,rfl⟩)|(go_at_call 123;refine(As c _ hva hvb).mono ?_;rintro e w' ⟨rfl,rfl⟩));refine((HR.out.drewN k).digit OK.out hn c true h0 h1 109).mono ?_;rintro e w' ⟨rfl,hb,hr⟩;go_wp2;go_ret;exact Bg HY.out (below_drewN (Below.refl _ _) _) hb hr
 ·have HR:Hid (AZ _ _ _ _ _ _ _ _ _):=h;have OK:Hid (Ok m):=ok;clear h ok;go_enter Tryz.func94,Tryz.ntmps94;go_wp2_with (first|(go_at_call 126;refine hc.mono ?_;rintro e w' ⟨rfl,k,rfl⟩)|(go_at_call 123;refine(AN _ _ (by omega) (by omega) (by omega)).mono ?_;rintro e w' ⟨rfl,rfl⟩));refine((HR.out.drewN k).digit OK.out hn c true h0 h1 109).mono ?_;rintro e w' ⟨rfl,hb,hr⟩;go_wp2;go_ret;exact Bg HY.out (below_drewN (Below.refl _ _) _) hb hr
theorem JT{P:Program}{ops:Array Oper}{o:Oper}{a:Act}{w:World}{K:Act->World->Prop}{Q:Exit->Act->World->Prop}{E:Prop}
  (hg:o.guard=none) (s x:Operand) (t:TypeId) (hop:o.op=Op.call {callee:=Callee.builtin Builtin.append,args:=#[s,x],argTypes:=#[t,t]})
  (base:Nat) (e:TypeId) (i:TypeInfo) (z:Value) (size bytes:Nat) (h1:P.underlying t=some (.slice e)) (h2:P.info? e=some i) (h3:i.zero=some z) (h4:i.size=size) (h5:i.bytes=bytes) (h6:z.cells.size=size) (h7:0<size)
  (v:Value) (n:Nat) (xs:List Value) (hs:a.eval s=v) (hown:w.ownsRow base e size v n xs)
  (ad:Addr) (m c:Nat) (news:List Value) (hx:a.eval x=.slice (some ad) m c) (hn:news.length=m*size) (hc:∀j u,news[j]?=some u->w.cell? (ad.add j)=some u) (h1c:∀u∈news,u.oneCell'=true)
  (b1:n+m<=maxLen) (b2:(n+m)*bytes<=140737488355328) (hbase:base<=w.heap.size)
  (hK:∀v' w',w'.ownsRow base e size v' (n+m) (xs++news)->w.grownBy w' v.ownBlock->K (a.put o.dst v') w'):
  if Region.wanted o (yielded ops a.tmps)=true then Oper.wp P o a w K Q else E:=by
 have hw:Region.wanted o (yielded ops a.tmps)=true:=by simp[Region.wanted,hg]
 rw[if_pos hw];exact wp_append_own w s x t hop base e i z size bytes h1 h2 h3 h4 h5 h6 h7 v n xs hs hown ad m c news hx hn hc h1c b1 b2 hbase λv' w' h2 h3 _=>hK v' w' h2 h3
def Kh(f:Nat->Nat)(n x:Nat):Nat->Nat:=λi=>if i=n then x else f i
theorem DM(f:Nat->Nat)(n x:Nat):Kh f n x n=x:=by simp[Kh]
theorem CC(f:Nat->Nat){n x i:Nat}(h:i<n):Kh f n x i=f i:=by unfold Kh;rw[if_neg (by omega)]
theorem Qm(f:Nat->Nat)(n x:Nat):(List.range (n+1)).map (λi=>PR (Kh f n x i))=(List.range n).map (λi=>PR (f i))++[PR x]:=by
 rw[List.range_succ,List.map_append]
 congr 1
 ·apply List.map_congr_left;intro i hi;rw[CC f (by simpa using hi)]
 ·simp[DM]
theorem AZ.lts(h:AZ B w r m vs vo P Q O):r<w.heap.size/\(∀i,i<m.st.length->P i<w.heap.size/\Q i<w.heap.size)/\(∀i,i<m.op.length->O i<w.heap.size):=by
 refine⟨h.rd.lt,λi hi=>?_,λi hi=>?_⟩
 ·obtain⟨a,b⟩:=h.st i _ (List.getElem?_eq_getElem hi);exact⟨a.lt,b.lt⟩
 ·exact(h.op i _ (List.getElem?_eq_getElem hi)).lt
theorem AZ.pushOp(h:AZ B w r m vs vo P Q O)(b:Bk)(v':Value)(w1 w2:World)(hlt:w.heap.size<w1.heap.size)(hw1:∀k,k<w.heap.size->w1.heap[k]?=w.heap[k]?)
  (hnew:At w1 w.heap.size (IF b) tB) (hg:w1.grownBy w2 vo.ownBlock) (hown:w2.ownsRow B XA 1 v' (m.op.length+1) (((List.range m.op.length).map λi=>PR (O i))++[PR w.heap.size])) (hB:B<=w.heap.size):
  AZ B (w2.setCell ⟨r,2,none⟩ v') r {m with op:=m.op++[b]} vs v' P Q (Kh O m.op.length w.heap.size):=by
 obtain⟨lr,lp,lo⟩:=h.lts;have same:∀k,k<w.heap.size->vo.ownBlock≠some k->w2.heap[k]?=w.heap[k]?:=λk hk hn=>(hg.block k (by omega) (λe=>hn e.symm)).trans (hw1 k hk);have keep:∀{k c t},At w k c t->XA≠t->At w2 k c t:=λ{k c t} ha hn=>ha.same (same k ha.lt (Cq h.ro ha hn));have rd2:=keep h.rd (by decide)
 have new2:At w2 w.heap.size (IF b) tB:=hnew.same (hg.block _ hlt (by
  intro e;obtain⟨_,h2⟩:=h.ro.lt _ e.symm
  omega))
 exact{
  rd:=rd2.put 2 v'
  rs:=by
   refine BY ?_ rd2 (by decide) 2 v';refine Ed h.rs λg hg'=>same g (h.rs.lt g hg').2 ?_;obtain⟨h1,h2⟩:=h.rs;rcases h2 with⟨e,_⟩|⟨g',cap,c,e,_,hh,_⟩
   ·subst e;simp[Value.ownBlock]at hg'
   ·subst e;simp[Value.ownBlock]at hg';subst hg';exact Cq h.ro (show At w g' c XB from hh) (by decide)
  ro:=by
   simp only[List.length_append,List.length_singleton];rw[Qm];exact BY hown rd2 (by decide) 2 v'
  st:=by
   intro i s hi;obtain⟨a,b⟩:=h.st i s hi;exact⟨(keep a (by decide)).other _ _ (a.ne h.rd (by decide)),(keep b (by decide)).other _ _ (b.ne h.rd (by decide))⟩
  op:=by
   intro i x hi;by_cases e:i=m.op.length
   ·subst e;rw[DM];simp at hi;subst hi;exact new2.other _ _ (by omega)
   ·have hil:i<m.op.length:=by
     have:i<(m.op++[b]).length:=by
      rcases Nat.lt_or_ge i (m.op++[b]).length with h'|h'
      ·exact h'
      ·simp[List.getElem?_eq_none h']at hi
     simp at this;omega
    rw[CC O hil];rw[List.getElem?_append_left hil]at hi;have a:=h.op i x hi;exact(keep a (by decide)).other _ _ (a.ne h.rd (by decide))
  injP:=h.injP
  injQ:=h.injQ
  injO:=by
   intro i j hi hj;simp only[List.length_append,List.length_singleton]at hi hj;by_cases ei:i=m.op.length<;>by_cases ej:j=m.op.length
   ·intro _;omega
   ·have hj':j<m.op.length:=by omega
    subst ei;rw[DM,CC O hj'];intro e;have:=lo j hj';omega
   ·have hi':i<m.op.length:=by omega
    subst ej;rw[DM,CC O hi'];intro e;have:=lo i hi';omega
   ·have hi':i<m.op.length:=by omega
    have hj':j<m.op.length:=by omega
    rw[CC O hi',CC O hj'];exact h.injO i j hi' hj'
  geR:=h.geR
  geP:=h.geP
  geO:=by
   intro i hi;simp only[List.length_append,List.length_singleton]at hi;by_cases ei:i=m.op.length
   ·subst ei;rw[DM];exact hB
   ·have hi':i<m.op.length:=by omega
    rw[CC O hi'];exact h.geO i hi'}
theorem AZ.pushSt(h:AZ B w r m vs vo P Q O)(s:St)(v':Value)(p q:Nat)(w1 w2:World)(hq:w.heap.size<=q)(hp:w.heap.size<=p)(hlq:q<w1.heap.size)(hlp:p<w1.heap.size)(hw1:∀k,k<w.heap.size->w1.heap[k]?=w.heap[k]?)
  (hnp:At w1 p (F5 q s) tS) (hnq:At w1 q (FJ s.sg) tI) (hg:w1.grownBy w2 vs.ownBlock) (hown:w2.ownsRow B XB 1 v' (m.st.length+1) (((List.range m.st.length).map λi=>PR (P i))++[PR p])) (hB:B<=w.heap.size):
  AZ B (w2.setCell ⟨r,1,none⟩ v') r {m with st:=m.st++[s]} v' vo (Kh P m.st.length p) (Kh Q m.st.length q) O:=by
 obtain⟨lr,lp,lo⟩:=h.lts;have same:∀k,k<w.heap.size->vs.ownBlock≠some k->w2.heap[k]?=w.heap[k]?:=λk hk hn=>(hg.block k (by omega) (λe=>hn e.symm)).trans (hw1 k hk);have keep:∀{k c t},At w k c t->XB≠t->At w2 k c t:=λ{k c t} ha hn=>ha.same (same k ha.lt (Cq h.rs ha hn));have rd2:=keep h.rd (by decide);have notrow:∀k,w.heap.size<=k->some k≠vs.ownBlock:=λk hk e=>by
  obtain⟨_,h2⟩:=h.rs.lt _ e.symm;omega
 have newp:At w2 p (F5 q s) tS:=hnp.same (hg.block _ hlp (notrow p hp));have newq:At w2 q (FJ s.sg) tI:=hnq.same (hg.block _ hlq (notrow q hq))
 exact{
  rd:=rd2.put 1 v'
  ro:=by
   refine BY ?_ rd2 (by decide) 1 v';refine Ed h.ro λg hg'=>same g (h.ro.lt g hg').2 ?_;obtain⟨h1,h2⟩:=h.ro;rcases h2 with⟨e,_⟩|⟨g',cap,c,e,_,hh,_⟩
   ·subst e;simp[Value.ownBlock]at hg'
   ·subst e;simp[Value.ownBlock]at hg';subst hg';exact Cq h.rs (show At w g' c XA from hh) (by decide)
  rs:=by
   simp only[List.length_append,List.length_singleton];rw[Qm];exact BY hown rd2 (by decide) 1 v'
  op:=by
   intro i b hi;have a:=h.op i b hi;exact(keep a (by decide)).other _ _ (a.ne h.rd (by decide))
  st:=by
   intro i x hi;by_cases e:i=m.st.length
   ·subst e;rw[DM,DM];simp at hi;subst hi;exact⟨newp.other _ _ (by omega),newq.other _ _ (by omega)⟩
   ·have hil:i<m.st.length:=by
     have:i<(m.st++[s]).length:=by
      rcases Nat.lt_or_ge i (m.st++[s]).length with h'|h'
      ·exact h'
      ·simp[List.getElem?_eq_none h']at hi
     simp at this;omega
    rw[CC P hil,CC Q hil];rw[List.getElem?_append_left hil]at hi;obtain⟨a,b⟩:=h.st i x hi;exact⟨(keep a (by decide)).other _ _ (a.ne h.rd (by decide)),(keep b (by decide)).other _ _ (b.ne h.rd (by decide))⟩
  injP:=by
   intro i j hi hj;simp only[List.length_append,List.length_singleton]at hi hj;by_cases ei:i=m.st.length<;>by_cases ej:j=m.st.length
   ·intro _;omega
   ·have hj':j<m.st.length:=by omega
    subst ei;rw[DM,CC P hj'];intro e;have:=(lp j hj').1;omega
   ·have hi':i<m.st.length:=by omega
    subst ej;rw[DM,CC P hi'];intro e;have:=(lp i hi').1;omega
   ·have hi':i<m.st.length:=by omega
    have hj':j<m.st.length:=by omega
    rw[CC P hi',CC P hj'];exact h.injP i j hi' hj'
  injQ:=by
   intro i j hi hj;simp only[List.length_append,List.length_singleton]at hi hj;by_cases ei:i=m.st.length<;>by_cases ej:j=m.st.length
   ·intro _;omega
   ·have hj':j<m.st.length:=by omega
    subst ei;rw[DM,CC Q hj'];intro e;have:=(lp j hj').2;omega
   ·have hi':i<m.st.length:=by omega
    subst ej;rw[DM,CC Q hi'];intro e;have:=(lp i hi').2;omega
   ·have hi':i<m.st.length:=by omega
    have hj':j<m.st.length:=by omega
    rw[CC Q hi',CC Q hj'];exact h.injQ i j hi' hj'
  injO:=h.injO
  geR:=h.geR
  geO:=h.geO
  geP:=by
   intro i hi;simp only[List.length_append,List.length_singleton]at hi;by_cases ei:i=m.st.length
   ·subst ei;rw[DM,DM];exact⟨by omega,by omega⟩
   ·have hi':i<m.st.length:=by omega
    rw[CC P hi',CC Q hi'];exact h.geP i hi'}
theorem AZ.popOp{g n cap:Nat}(h:AZ B w r m vs (.slice (some ⟨g,0,none⟩) n cap) P Q O)(hn:0<m.op.length)(hnn:n=m.op.length):
  AZ B (w.setCell ⟨r,2,none⟩ (.slice (some ⟨g,0,none⟩) (n-1) cap)) r {m with op:=m.op.take (m.op.length-1)} vs (.slice (some ⟨g,0,none⟩) (n-1) cap) P Q O:=by
 have hl:(m.op.take (m.op.length-1)).length=m.op.length-1:=by simp
 exact{
  rd:=h.rd.put 2 _
  rs:=BY h.rs h.rd (by decide) 2 _
  ro:=by
   rw[hl];refine BY ?_ h.rd (by decide) 2 _;obtain⟨h1,h2⟩:=h.ro;rcases h2 with⟨e,_⟩|⟨g',cap',c,e,hg,hh,hc,hm,hs,ht⟩
   ·simp at e
   ·simp at e;obtain⟨rfl,_,rfl⟩:=e;refine⟨by simp,.inr ⟨g,cap,c,by rw[hnn],hg,hh,by omega,hm,hs,?_⟩⟩;have e2:(c.toList.take (m.op.length*1)).take ((m.op.length-1)*1)=c.toList.take ((m.op.length-1)*1):=by rw[List.take_take];congr 1;omega
    rw[<-e2,ht,<-List.map_take,List.take_range]
    congr 2;omega
  st:=by
   intro i s hi;obtain⟨a,b⟩:=h.st i s hi;exact⟨a.other _ _ (a.ne h.rd (by decide)),b.other _ _ (b.ne h.rd (by decide))⟩
  op:=by
   intro i b hi;have hi':m.op[i]?=some b:=by
    rw[List.getElem?_take]at hi;split at hi
    ·exact hi
    ·cases hi
   have a:=h.op i b hi';exact a.other _ _ (a.ne h.rd (by decide))
  injP:=h.injP
  injQ:=h.injQ
  injO:=by rw[hl];intro i j hi hj;exact h.injO i j (by omega) (by omega)
  geR:=h.geR
  geP:=h.geP
  geO:=by rw[hl];intro i hi;exact h.geO i (by omega)}
theorem Tryz.infoPS:(Tryz.prog.info? XB).map (λi=>(i.zero,i.size,i.bytes))=some (some (.pointer none),1,8):=by kernel_rfl
theorem Tryz.infoPB:(Tryz.prog.info? XA).map (λi=>(i.zero,i.size,i.bytes))=some (some (.pointer none),1,8):=by kernel_rfl
theorem AZ.slen(h:AZ B w r m vs vo P Q O):∃ao cap,vs=.slice ao m.st.length cap:=by
 obtain⟨_,h2⟩:=h.rs;rcases h2 with⟨rfl,e⟩|⟨g,cap,c,rfl,_⟩
 ·exact⟨none,0,by rw[e]⟩
 ·exact⟨_,cap,rfl⟩
theorem AZ.olen(h:AZ B w r m vs vo P Q O):∃ao cap,vo=.slice ao m.op.length cap:=by
 obtain⟨_,h2⟩:=h.ro;rcases h2 with⟨rfl,e⟩|⟨g,cap,c,rfl,_⟩
 ·exact⟨none,0,by rw[e]⟩
 ·exact⟨_,cap,rfl⟩
def IE(w:World)(kd v:Int)(n:Nat):World:=
 (((w.alloc (.cells #[.int .i64 0,.int .i64 0,.int .i64 0,.int .i64 0] tI)).alloc (.cells #[.int .u8 kd,.int .i64 v,.bool false,.slice (some ⟨w.heap.size,0,none⟩) 4 4,.int .i64 0,.int .i64 0,.int .i64 ((n:Int)+1)] tS)).alloc (.cells #[.pointer (some ⟨w.heap.size+1,0,none⟩)] XB)).drew
theorem LN(w:World)(kd v:Int)(n:Nat)(k:Nat)(hk:k<w.heap.size):(IE w kd v n).heap[k]?=w.heap[k]?:=by
 show((((w.heap.push _).push _).push _))[k]?=_;rw[Array.getElem?_push,if_neg (by simp;omega),Array.getElem?_push,if_neg (by simp;omega),Array.getElem?_push,if_neg (by omega)]
theorem Fl(w:World)(kd v:Int)(n:Nat):(IE w kd v n).heap.size=w.heap.size+3:=by
 show((((w.heap.push _).push _).push _)).size=_;simp
theorem VU(w:World)(kd v:Int)(n:Nat):At (IE w kd v n) w.heap.size #[.int .i64 0,.int .i64 0,.int .i64 0,.int .i64 0] tI:=by
 show((((w.heap.push _).push _).push _))[w.heap.size]?=_;rw[Array.getElem?_push,if_neg (by simp;omega),Array.getElem?_push,if_neg (by simp),Array.getElem?_push,if_pos rfl]
theorem VT(w:World)(kd v:Int)(n:Nat):At (IE w kd v n) (w.heap.size+1) #[.int .u8 kd,.int .i64 v,.bool false,.slice (some ⟨w.heap.size,0,none⟩) 4 4,.int .i64 0,.int .i64 0,.int .i64 ((n:Int)+1)] tS:=by
 show((((w.heap.push _).push _).push _))[w.heap.size+1]?=_;rw[Array.getElem?_push,if_neg (by simp),Array.getElem?_push,if_pos (by simp)]
theorem Ol{kd v:Int}{n:Nat}{w2:World}(h:AZ B w r m vs vo P Q O)(hg:(IE w kd v n).grownBy w2 vs.ownBlock):w2.heap[r]?=w.heap[r]?:=
 (hg.block r (by rw[Fl];have:=h.rd.lt;omega) (λe=>Cq h.rs h.rd (by decide) e.symm)).trans (LN w kd v n r h.rd.lt)
theorem NN{kd v:Int}{n:Nat}{w2:World}{u:Value}(h:AZ B w r m vs vo P Q O)(hg:(IE w kd v n).grownBy w2 vs.ownBlock)(hB:B<=w.heap.size):Below B w (w2.setCell ⟨r,1,none⟩ u):=by
 refine Below.setCell ?_ h.geR _;have hb:Below B w (IE w kd v n):=(((((Below.refl B w).alloc hB _).alloc (by simp;omega) _).alloc (by simp;omega) _)).drew;exact hb.grown hg (by rw[Fl];omega) (λk e=>(h.rs.lt k e).1)
theorem RK(h:AZ B w r m vs vo P Q O)(kd v:Int){w2:World}{u:Value}(hg:(IE w kd v m.st.length).grownBy w2 vs.ownBlock)
  (hown:w2.ownsRow B XB 1 u (m.st.length+1) (((List.range m.st.length).map λi=>PR (P i))++[.pointer (some ⟨w.heap.size+1,0,none⟩)])) (hB:B<=w.heap.size):
  AZ B (w2.setCell ⟨r,1,none⟩ u) r {m with st:=m.st++[⟨kd,v,false,[0,0,0,0],0,0,m.st.length+1⟩]} u vo (Kh P m.st.length (w.heap.size+1)) (Kh Q m.st.length w.heap.size) O:=
 h.pushSt ⟨kd,v,false,[0,0,0,0],0,0,m.st.length+1⟩ u (w.heap.size+1) w.heap.size (IE w kd v m.st.length) w2 (by omega) (by omega) (by rw[Fl];omega) (by rw[Fl];omega) (LN w kd v _)
  (VT w kd v _) (VU w kd v _) hg hown hB
theorem AZ.begin_(h:AZ B w r m vs vo P Q O)(hl:m.st.length<20)(kd v:Int)(hB:B<=w.heap.size):
  Calls Tryz.prog 124 #[.pointer (some ⟨r,0,none⟩),.int .u8 kd,.int .i64 v] w λe w'=>e=.returned (.bool true)/\Below B w w'/\
   ∃vs' P' Q',AZ B w' r {m with st:=m.st++[⟨kd,v,false,[0,0,0,0],0,0,m.st.length+1⟩]} vs' vo P' Q' O:=by
 obtain⟨ao,cap,rfl⟩:=h.slen;obtain⟨r0,r1,r2,r3,r4,r5,rf⟩:=h.rdc;have geR:=h.geR;have hlt:=h.rd.lt;have hown:=h.rs;obtain⟨i0,hi,hz0,hz1,hz2⟩:=info_parts Tryz.infoPS;have b20:(((m.st.length:Nat):Int)==20)=false:=by simp;omega
 have hmk:∀w,(Instr.makeSlice 32 (.int .i64 4) (.int .i64 4)).run Tryz.prog w=.ok (.slice (some ⟨w.heap.size,0,none⟩) 4 4) (w.alloc (.cells #[.int .i64 0,.int .i64 0,.int .i64 0,.int .i64 0] 3)):=λ_=>by kernel_rfl
 have HR:Hid (AZ _ _ _ _ _ _ _ _ _):=h;have HO:Hid (World.ownsRow _ _ _ _ _ _ _):=hown;clear h hown;go_enter Tryz.func124,Tryz.ntmps124;go_wp2;go_region;go_wp2_with (at_builtin;refine wpList_append_own _ rfl (.tmp 29) (.tmp 31) 50 rfl B XB i0 (.pointer none) 1 8 Tryz.underlying50 hi hz0 hz1 hz2 rfl (by decide) _ _ _ rfl ((((HO.out.alloc _).alloc _).alloc _).drew) ⟨w.heap.size+1+1,0,none⟩ 1 1 [.pointer (some ⟨w.heap.size+1,0,none⟩)] rfl rfl ?c1 ?c2 ?c3 ?c4 ?c5 ?_);case c1=>
  intro j u hj
  match j,hj with
  |0,hj=>
   simp at hj;subst hj;simp[Addr.add];rw[World.cell?_alloc_at]
   ·rfl
   ·simp
 case c2=>intro u hu;simp at hu;subst hu;rfl
 case c3=>unfold maxLen;omega
 case c4=>omega
 case c5=>simp;omega
 intro v' w2 hown' hgrow _;obtain⟨g',cap',c',rfl,hg',ha',hc'⟩:=Fx hown' (by omega);have hsame:w2.heap[r]?=w.heap[r]?:=Ol HR.out hgrow;have k1:∀i,w2.cell? ⟨r,i,none⟩=w.cell? ⟨r,i,none⟩:=λi=>World.cell?_of_block (a:=⟨r,i,none⟩) hsame;have k2:∀i,w2.frozen? ⟨r,i,none⟩=w.frozen? ⟨r,i,none⟩:=λi=>World.frozen?_of_block (a:=⟨r,i,none⟩) hsame;have HW:Hid (World.ownsRow _ _ _ _ _ _ _):=hown';have HG:Hid (World.grownBy _ _ _):=hgrow;clear hown' hgrow hsame ha';go_wp2;go_ret;refine⟨rfl,NN HR.out HG.out hB,_,_,_,RK HR.out kd v HG.out HW.out hB⟩
theorem AZ.beginFull(h:AZ B w r m vs vo P Q O)(hl:m.st.length=20)(kd v:Int):
  Calls Tryz.prog 124 #[.pointer (some ⟨r,0,none⟩),.int .u8 kd,.int .i64 v] w λe w'=>e=.returned (.bool false)/\w'=w:=by
 obtain⟨ao,cap,hv⟩:=h.slen;obtain⟨r0,r1,r2,r3,r4,r5,rf⟩:=h.rdc;rw[hv,hl]at r1;clear h hl hv;go_enter Tryz.func124,Tryz.ntmps124;go_wp2;go_ret;exact⟨rfl,rfl⟩
theorem AZ.rowO(h:AZ B w r m vs vo P Q O)(hn:0<m.op.length):∃g cap,vo=.slice (some ⟨g,0,none⟩) m.op.length cap/\(∀i,i<m.op.length->w.cell? ⟨g,i,none⟩=some (PR (O i)))/\g≠r/\m.op.length<=cap/\(∀k s,m.st[k]?=some s->g≠P k/\g≠Q k)/\(∀k,k<m.op.length->g≠O k):=by
 obtain⟨g,cap,c,hv,hg,ha,hc⟩:=Fx h.ro hn;refine⟨g,cap,hv,?_,ha.ne h.rd (by decide),hc,λk s hk=>?_,λk hk=>?_⟩
 ·intro i hi;have:=h.ro;rw[hv]at this;rw[this.cellAt i (by omega)];simp[hi]
 ·obtain⟨a,b⟩:=h.st k s hk;exact⟨ha.ne a (by decide),ha.ne b (by decide)⟩
 ·exact ha.ne (h.op k _ (List.getElem?_eq_getElem hk)) (by decide)
theorem ZY(hn:0<m.op.length):m.op[m.op.length-1]?=some (top m):=by
 unfold top;rw[List.getD_eq_getElem?_getD,List.getElem?_eq_getElem (by omega)];rfl
theorem AZ.opc(h:AZ B w r m vs vo P Q O)(k:Nat)(b:Bk)(hk:m.op[k]?=some b):w.cell? ⟨O k,0,none⟩=some (.int .i64 b.of_)/\w.cell? ⟨O k,1,none⟩=some (.bool b.second)/\(∀i,w.frozen? ⟨O k,i,none⟩=false)/\O k≠r/\∀j s,m.st[j]?=some s->O k≠P j:=by
 have a:=h.op k b hk;exact⟨a.cell 0,a.cell 1,a.free,a.ne h.rd (by decide),λj s hj=>a.ne (h.st j s hj).1 (by decide)⟩
theorem Rv(h:AZ B w r m vs vo P Q O)(k:Nat)(s:St)(hk:m.st[k]?=some s)(hof:k<m.st.length)(a b:Nat):
  AZ B (((((w.drewN a).setCell ⟨P k,6,none⟩ (.int .i64 m.st.length)).drewN b).setCell ⟨P k,5,none⟩ (.int .i64 m.st.length)).setCell ⟨r,0,none⟩ (.int .u8 125)) r
   {m with st:=m.st.set k {s with fin:=m.st.length,mid:=m.st.length},state:=125} vs vo P Q O:=by
 have e1:=((h.drewN a).setSt k s {s with fin:=m.st.length} hk 6 (.int .i64 m.st.length) _ rfl rfl rfl).drewN b;have hm1:({m with st:=m.st.set k {s with fin:=m.st.length}}:Rd).st[k]?=some {s with fin:=m.st.length}:=by simp[hof]
 have e2:=e1.setSt k _ {s with fin:=m.st.length,mid:=m.st.length} hm1 5 (.int .i64 m.st.length) {m with st:=m.st.set k {s with fin:=m.st.length,mid:=m.st.length}} rfl rfl (by simp);exact e2.setRd 0 (.int .u8 125) _ rfl rfl rfl
theorem Lu{go cap:Nat}(h:AZ B w r m vs (.slice (some ⟨go,0,none⟩) m.op.length cap) P Q O)(k:Nat)(s:St)(hk:m.st[k]?=some s)(hn:0<m.op.length)(a b:Nat):
  AZ B ((((w.drewN a).setCell ⟨P k,6,none⟩ (.int .i64 m.st.length)).drewN b).setCell ⟨r,2,none⟩ (.slice (some ⟨go,0,none⟩) (m.op.length-1) cap)) r
   {m with st:=m.st.set k {s with fin:=m.st.length},op:=m.op.take (m.op.length-1)} vs (.slice (some ⟨go,0,none⟩) (m.op.length-1) cap) P Q O:=by
 have e1:=((h.drewN a).setSt k s {s with fin:=m.st.length} hk 6 (.int .i64 m.st.length) _ rfl rfl rfl).drewN b;exact e1.popOp hn rfl
theorem AZ.shut(h:AZ B w r m vs vo P Q O)(ok:Ok m)(hn:0<m.op.length):
  Calls Tryz.prog 125 #[.pointer (some ⟨r,0,none⟩)] w (D2 B w r (Ba m)):=by
 have ht:=ZY hn;have hof:(top m).of_<m.st.length:=ok.ofs _ (List.mem_of_getElem? ht);have hs:m.st[(top m).of_]?=some (m.st.getD (top m).of_ AY):=by rw[List.getD_eq_getElem?_getD,List.getElem?_eq_getElem hof];rfl
 obtain⟨g,cap,hvs,hrow,ngr,hcap,ngp⟩:=h.row (by omega);obtain⟨go,capo,hvo,hrowo,ngor,hcapo,ngop,ngo⟩:=h.rowO hn;obtain⟨o0,o1,of,nor,nop⟩:=h.opc _ _ ht;obtain⟨c0,c1,c2,c3,c4,c5,c6,f7,f8,n9,n10,n11⟩:=h.stc _ _ hs;have noP:=nop _ _ hs;obtain⟨r0,r1,r2,r3,r4,r5,rf⟩:=h.rdc;have geR:=h.geR;obtain⟨geP,geQ⟩:=h.geP _ hof;have hg1:=hrow _ hof;have hg2:=hrowo (m.op.length-1) (by omega);have ngp1:=(ngp _ _ hs).1;have ngop1:=(ngop _ _ hs).1;unfold PR at hg1 hg2;have hl:=ok.len;have ho:=ok.oplen
 have HS:Hid (Ba m=if(m.st.getD (top m).of_ AY).kind=63/\(top m).second=false then some {m with st:=m.st.set (top m).of_ {m.st.getD (top m).of_ AY with fin:=m.st.length,mid:=m.st.length},state:=125}
  else some {m with st:=m.st.set (top m).of_ {m.st.getD (top m).of_ AY with fin:=m.st.length},op:=m.op.take (m.op.length-1)}):=rfl
 generalize hb:top m=b at *;generalize hss:m.st.getD b.of_ AY=s at *;have HT:Hid (m.op[m.op.length-1]?=some b):=ht;have HM:Hid (m.st[b.of_]?=some s):=hs;subst hvs;subst hvo;have HR:Hid (AZ _ _ _ _ _ _ _ _ _):=h;have OK:Hid (Ok m):=ok;clear h ok ht hs hrow hrowo hb hss ngp ngop ngo nop;generalize hp:P b.of_=p at *;generalize O (m.op.length-1)=q at *;have nrp:r≠p:=λe=>n9 e.symm;have nrq:r≠q:=λe=>nor e.symm;have npq:p≠q:=λe=>noP e.symm;have npg:p≠g:=λe=>ngp1 e.symm;have hofi:((b.of_:Nat):Int)<(m.st.length:Int):=by omega
 have hof0:(0:Int)<=((b.of_:Nat):Int):=by omega
 have NP:Hid (P b.of_=p):=hp;clear hp;by_cases hk:s.kind=63
 ·rw[hk]at c0;cases hsec:b.second
  ·rw[hsec]at o1;have HY:Hid (Ba m=some {m with st:=m.st.set b.of_ {s with fin:=m.st.length,mid:=m.st.length},state:=125}):=HS.out.trans (if_pos ⟨hk,hsec⟩);clear hk hsec HS;go_enter Tryz.func125,Tryz.ntmps125;go_wp2;go_quiet (fail);go_wp2;go_region;go_wp2;go_quiet (fail);go_wp2;go_region;go_wp2;go_ret;rw[<-NP.out];exact Aq HY.out (Below.setCell (Below.setCell (below_drewN (Below.setCell (below_drewN (Below.refl _ _) _) (by rw[NP.out];exact geP) _) _) (by rw[NP.out];exact geP) _) geR _) (Rv HR.out b.of_ s HM.out hof _ _)
  ·rw[hsec]at o1;have HY:Hid (Ba m=some {m with st:=m.st.set b.of_ {s with fin:=m.st.length},op:=m.op.take (m.op.length-1)}):=HS.out.trans (if_neg (by rintro⟨_,e⟩;rw[hsec]at e;cases e));clear hk hsec HS;go_enter Tryz.func125,Tryz.ntmps125;go_wp2;go_quiet (fail);go_wp2;go_region;go_wp2;go_quiet (fail);go_wp2;go_region;go_wp2;go_ret;rw[<-NP.out];exact Aq HY.out (Below.setCell (below_drewN (Below.setCell (below_drewN (Below.refl _ _) _) (by rw[NP.out];exact geP) _) _) geR _) (Lu HR.out b.of_ s HM.out hn _ _)
 ·have bk:(s.kind==63)=false:=by simpa using hk
  have HY:Hid (Ba m=some {m with st:=m.st.set b.of_ {s with fin:=m.st.length},op:=m.op.take (m.op.length-1)}):=HS.out.trans (if_neg (λe=>hk e.1));clear hk HS;go_enter Tryz.func125,Tryz.ntmps125;go_wp2;go_quiet (fail);go_wp2;go_region;go_wp2;go_quiet (fail);go_wp2;go_region;go_wp2;go_ret;rw[<-NP.out];exact Aq HY.out (Below.setCell (below_drewN (Below.setCell (below_drewN (Below.refl _ _) _) (by rw[NP.out];exact geP) _) _) geR _) (Lu HR.out b.of_ s HM.out hn _ _)
theorem Hg(x:Int)(h0:0<=x)(h1:x<=1000):IntKind.i64.wrap x=x:=by
 rw[IntKind.wrap_i64];omega
def FP(w:World)(x:Int):World:=
 ((w.alloc (.cells #[.int .i64 x,.bool false] tB)).alloc (.cells #[.pointer (some ⟨w.heap.size,0,none⟩)] XA)).drew
theorem KO(w:World)(x:Int)(k:Nat)(hk:k<w.heap.size):(FP w x).heap[k]?=w.heap[k]?:=by
 show(((w.heap.push _).push _))[k]?=_;rw[Array.getElem?_push,if_neg (by simp;omega),Array.getElem?_push,if_neg (by omega)]
theorem GT(w:World)(x:Int):(FP w x).heap.size=w.heap.size+2:=by
 show(((w.heap.push _).push _)).size=_;simp
theorem Tw(w:World)(x:Int):At (FP w x) w.heap.size #[.int .i64 x,.bool false] tB:=by
 show(((w.heap.push _).push _))[w.heap.size]?=_;rw[Array.getElem?_push,if_neg (by simp),Array.getElem?_push,if_pos rfl]
theorem PO(w:World)(x:Int):∀(j:Nat)(u:Value),[Value.pointer (some ⟨w.heap.size,0,none⟩)][j]?=some u->(FP w x).cell? ((⟨w.heap.size+1,0,none⟩:Addr).add j)=some u:=by
 intro j u hj
 match j,hj with
 |0,hj=>
  simp at hj;subst hj;simp only[FP,World.cell?_drew];simp[Addr.add]
theorem Rn{x:Int}{w2:World}(h:AZ B w r m vs vo P Q O)(hg:(FP w x).grownBy w2 vo.ownBlock):w2.heap[r]?=w.heap[r]?:=
 (hg.block r (by rw[GT];have:=h.rd.lt;omega) (λe=>Cq h.ro h.rd (by decide) e.symm)).trans (KO w x r h.rd.lt)
theorem PN{x:Int}{w2:World}{u:Value}(h:AZ B w r m vs vo P Q O)(hg:(FP w x).grownBy w2 vo.ownBlock)(hB:B<=w.heap.size):Below B w ((w2.setCell ⟨r,2,none⟩ u).setCell ⟨r,0,none⟩ (.int .u8 115)):=by
 refine Below.setCell (Below.setCell ?_ h.geR _) h.geR _;have hb:Below B w (FP w x):=((((Below.refl B w).alloc hB _).alloc (by simp;omega) _)).drew;exact hb.grown hg (by rw[GT];omega) (λk e=>(h.ro.lt k e).1)
theorem Tv(h:AZ B w r m vs vo P Q O)(hn:0<m.st.length){w2:World}{u:Value}(hg:(FP w ((m.st.length:Int)-1)).grownBy w2 vo.ownBlock)
  (hown:w2.ownsRow B XA 1 u (m.op.length+1) (((List.range m.op.length).map λi=>PR (O i))++[.pointer (some ⟨w.heap.size,0,none⟩)])) (hB:B<=w.heap.size):
  AZ B ((w2.setCell ⟨r,2,none⟩ u).setCell ⟨r,0,none⟩ (.int .u8 115)) r {m with op:=m.op++[⟨m.st.length-1,false⟩],state:=115} vs u P Q (Kh O m.op.length w.heap.size):=by
 have hp:=Tw w ((m.st.length:Int)-1);have e:(m.st.length:Int)-1=((m.st.length-1:Nat):Int):=by omega
 refine(h.pushOp ⟨m.st.length-1,false⟩ u (FP w ((m.st.length:Int)-1)) w2 (by rw[GT];omega) (KO w _) ?_ hg hown hB).setRd 0 (.int .u8 115) _ rfl rfl rfl;rw[e]at hp|-;exact hp
theorem AZ.bytePlain(h:AZ B w r m vs vo P Q O)(hsl:m.st.length<=20)(hol:m.op.length<=4)(hn:0<m.st.length)(hB:B<=w.heap.size)(c:Int)(h0:0<=c)(h1:c<=255)(hx:m.state=59\/m.state=123):
  Calls Tryz.prog 58 #[.pointer (some ⟨r,0,none⟩),.int .u8 c] w (D2 B w r (Ac m c)):=by
 obtain⟨r0,r1,r2,r3,r4,r5,rf⟩:=h.rdc;have geR:=h.geR;rcases hx with hx|hx
 ·rw[hx]at r0;by_cases hc:c=59
  ·subst hc;have HY:Hid (Ac m 59=some {m with state:=115}):=by show Ac m 59=_;unfold Ac;rw[if_pos hx,if_pos rfl]
   have HR:Hid (AZ _ _ _ _ _ _ _ _ _):=h;clear h hx;go_enter Tryz.func58,Tryz.ntmps58;go_wp2_with fail;go_ret;exact Aq HY.out (Below.setCell (Below.refl _ _) geR _) (HR.out.setRd 0 (.int .u8 115) _ rfl rfl rfl)
  ·have bc:(c==59)=false:=by simpa using hc
   have HY:Hid (Ac m c=none):=by show Ac m c=_;unfold Ac;rw[if_pos hx,if_neg hc]
   have HR:Hid (AZ _ _ _ _ _ _ _ _ _):=h;clear h hx hc;go_enter Tryz.func58,Tryz.ntmps58;go_wp2_with fail;go_ret;exact Av HY.out (Below.setCell (Below.refl _ _) geR _)
 ·rw[hx]at r0;by_cases hc:c=123
  ·subst hc;obtain⟨ao,cap,hvo⟩:=h.olen;obtain⟨so,scap,hvs⟩:=h.slen;by_cases h4:m.op.length=4
   ·have HY:Hid (Ac m 123=none):=by show Ac m 123=_;unfold Ac;rw[hx,if_neg (by decide),if_pos (.inr h4)]
    rw[hvo,h4]at r2;clear h hx h4 hvo hvs;go_enter Tryz.func58,Tryz.ntmps58;go_wp2_with fail;go_ret;exact Av HY.out (Below.refl _ _)
   ·have b4:(((m.op.length:Nat):Int)==4)=false:=by simp;omega
    have HY:Hid (Ac m 123=some {m with op:=m.op++[⟨m.st.length-1,false⟩],state:=115}):=by
     show Ac m 123=_;unfold Ac;rw[hx,if_neg (by decide),if_neg (λe=>e.elim (λe=>e rfl) h4)]
    have hown:=h.ro;subst hvo;subst hvs;have hlt:=h.rd.lt;obtain⟨i0,hi,hz0,hz1,hz2⟩:=info_parts Tryz.infoPB;have HR:Hid (AZ _ _ _ _ _ _ _ _ _):=h;have HO:Hid (World.ownsRow _ _ _ _ _ _ _):=hown;clear h hx h4 hown;go_enter Tryz.func58,Tryz.ntmps58;go_wp2_with fail;have hwr:IntKind.i64.wrap ((m.st.length:Int)-1)=(m.st.length:Int)-1:=by have:=Hg ((m.st.length:Int)-1) (by omega) (by omega);exact this
    go_region_law (refine JT rfl (.tmp 53) (.tmp 62) 51 rfl B XA i0 (.pointer none) 1 8 Tryz.underlying51 hi hz0 hz1 hz2 rfl (by decide) _ _ _ rfl (((HO.out.alloc _).alloc _).drew) ⟨w.heap.size+1,0,none⟩ 1 1 [.pointer (some ⟨w.heap.size,0,none⟩)] rfl rfl (PO w ((m.st.length:Int)-1)) (by intro u hu;simp at hu;subst hu;rfl) (by unfold maxLen;omega) (by omega) (by simp;omega) ?_;intro v' w2 hown' hgrow;obtain⟨g',cap',c',rfl,hg',ha',hc'⟩:=Fx hown' (by omega);have hsame:w2.heap[r]?=w.heap[r]?:=Rn HR.out hgrow;have k1:∀i,w2.cell? ⟨r,i,none⟩=w.cell? ⟨r,i,none⟩:=λi=>World.cell?_of_block (a:=⟨r,i,none⟩) hsame;have k2:∀i,w2.frozen? ⟨r,i,none⟩=w.frozen? ⟨r,i,none⟩:=λi=>World.frozen?_of_block (a:=⟨r,i,none⟩) hsame;have HW:Hid (World.ownsRow _ _ _ _ _ _ _):=hown';have HG:Hid (World.grownBy _ _ _):=hgrow;clear hown' hgrow hsame ha')
    all_goals
     go_wp2_with fail;go_ret;exact Aq HY.out (PN HR.out HG.out hB) (Tv HR.out hn HG.out HW.out hB)
  ·have bc:(c==123)=false:=by simpa using hc
   have bn:(c != 123)=true:=by simpa using hc
   have HY:Hid (Ac m c=none):=by show Ac m c=_;unfold Ac;rw[hx,if_neg (by decide),if_pos (.inl hc)]
   have HR:Hid (AZ _ _ _ _ _ _ _ _ _):=h;clear h hx hc;go_enter Tryz.func58,Tryz.ntmps58;go_wp2_with fail;go_ret;exact Av HY.out (Below.refl _ _)
end Go.Proofs.YtffajooegiempaaGreatDoor
