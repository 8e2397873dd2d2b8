import Derived.Test.YtffajooegiempaaGreatDoorJ16
import Derived.Deep.RegionLaw
set_option maxRecDepth 100000
set_option maxHeartbeats 6400000
namespace Go.Proofs.YtffajooegiempaaGreatDoor
open Go.RowKit
variable {B:Nat} {w w':World} {r:Nat} {m:Rd} {vs vo:Value} {P Q O:Nat->Nat}
theorem Rep.valueY (h:Rep B w r m vs vo P Q O) (ok:Ok m) (hn:0 < m.st.length) (c:Int) (h0:0<=c) (h1:c<=255) (hx:m.state=121) :
  Calls Tryz.prog 93 #[.pointer (some ⟨r,0,none⟩),.int .u8 c] w (Post B w r (valueStep m c)):=by
 have hc:=h.now hn ok.len
 have hcur:=Rep.curs hn
 obtain ⟨c0,c1,c2,c3,c4,c5,c6,f7,f8,n9,n10,n11⟩:=h.stc _ _ hcur
 obtain ⟨r0,r1,r2,r3,r4,r5,rf⟩:=h.rdc
 have geR:=h.geR
 obtain ⟨geP,geQ⟩:=h.geC hn
 obtain ⟨sg0,sg1⟩:=ok.sgn
 obtain ⟨nu0,nu1⟩:=ok.nums (cur m) (List.mem_of_getElem? hcur)
 have HC:Hid (_=_):=hcur
 clear hcur
 rw [hx] at r0
 have HX:Hid (_=_):=hx
 clear hx
 have nrp:r ≠ P (m.st.length - 1):=fun e=>n9 e.symm
 have nrq:r ≠ Q (m.st.length - 1):=fun e=>n10 e.symm
 have npq:P (m.st.length - 1) ≠ Q (m.st.length - 1):=fun e=>n11 e.symm
 have HS2:Hid (valueStep m c=digitStep m c false 110):=by show valueStep m c=_; unfold valueStep; rw [HX.out,if_neg (by decide),if_neg (by decide),if_neg (by decide),if_pos rfl]
 by_cases hv:97<=c/\c<=100
 ·obtain ⟨hva,hvb⟩:=hv
  have HR:Hid (Rep _ _ _ _ _ _ _ _ _):=h
  have OK:Hid (Ok m):=ok
  clear h ok
  go_enter Tryz.func93,Tryz.ntmps93
  go_wp2_with (first | (go_at_call 126; refine hc.mono ?_; rintro e w' ⟨rfl,k,rfl⟩) | (go_at_call 123; refine (variable_yes c _ hva hvb).mono ?_; rintro e w' ⟨rfl,rfl⟩))
  refine ((HR.out.drewN k).digit OK.out hn c false h0 h1 110).mono ?_
  rintro e w' ⟨rfl,hb,hr⟩
  go_wp2
  go_ret
  exact post_via HS2.out ((below_drewN (Below.refl _ _) _)) hb hr
 ·have HR:Hid (Rep _ _ _ _ _ _ _ _ _):=h
  have OK:Hid (Ok m):=ok
  clear h ok
  go_enter Tryz.func93,Tryz.ntmps93
  go_wp2_with (first | (go_at_call 126; refine hc.mono ?_; rintro e w' ⟨rfl,k,rfl⟩) | (go_at_call 123; refine (variable_no _ _ (by omega) (by omega) (by omega)).mono ?_; rintro e w' ⟨rfl,rfl⟩))
  refine ((HR.out.drewN k).digit OK.out hn c false h0 h1 110).mono ?_
  rintro e w' ⟨rfl,hb,hr⟩
  go_wp2
  go_ret
  exact post_via HS2.out ((below_drewN (Below.refl _ _) _)) hb hr
theorem Rep.valueN (h:Rep B w r m vs vo P Q O) (ok:Ok m) (hn:0 < m.st.length) (c:Int) (h0:0<=c) (h1:c<=255) (hx:m.state=110) :
  Calls Tryz.prog 93 #[.pointer (some ⟨r,0,none⟩),.int .u8 c] w (Post B w r (valueStep m c)):=by
 have hc:=h.now hn ok.len
 have hcur:=Rep.curs hn
 obtain ⟨c0,c1,c2,c3,c4,c5,c6,f7,f8,n9,n10,n11⟩:=h.stc _ _ hcur
 obtain ⟨r0,r1,r2,r3,r4,r5,rf⟩:=h.rdc
 have geR:=h.geR
 obtain ⟨geP,geQ⟩:=h.geC hn
 obtain ⟨sg0,sg1⟩:=ok.sgn
 obtain ⟨nu0,nu1⟩:=ok.nums (cur m) (List.mem_of_getElem? hcur)
 have HC:Hid (_=_):=hcur
 clear hcur
 rw [hx] at r0
 have HX:Hid (_=_):=hx
 clear hx
 have nrp:r ≠ P (m.st.length - 1):=fun e=>n9 e.symm
 have nrq:r ≠ Q (m.st.length - 1):=fun e=>n10 e.symm
 have npq:P (m.st.length - 1) ≠ Q (m.st.length - 1):=fun e=>n11 e.symm
 have hmw:=mul_wrap _ _ sg0 sg1 nu0 nu1
 by_cases h59:c=59
 ·subst h59
  have HS2:Hid (valueStep m 59=some (valueEnd m)):=by show valueStep m 59=_; unfold valueStep; rw [HX.out,if_neg (by decide),if_neg (by decide),if_neg (by decide),if_neg (by decide),if_pos rfl]
  have HR:Hid (Rep _ _ _ _ _ _ _ _ _):=h
  have OK:Hid (Ok m):=ok
  clear h ok
  go_enter Tryz.func93,Tryz.ntmps93
  go_wp2_with (first | (go_at_call 126; refine hc.mono ?_; rintro e w' ⟨rfl,k,rfl⟩) | (go_at_call 123; refine (variable_no _ _ (by omega) (by omega) (by omega)).mono ?_; rintro e w' ⟨rfl,rfl⟩))
  go_region
  go_wp2
  go_ret
  exact post_yes HS2.out (Below.setCell (Below.setCell (below_drewN (Below.refl _ _) _) geP _) geR _) (((HR.out.drewN (k+1)).setC hn { cur m with num:=m.sign*(cur m).num } 4 (.int .i64 (m.sign*(cur m).num)) rfl rfl).setRd 0 (.int .u8 115) (valueEnd m) rfl rfl rfl)
 have b59:(c == 59)=false:=by simpa using h59
 have HS2:Hid (valueStep m c=digitStep m c false 110):=by show valueStep m c=_; unfold valueStep; rw [HX.out,if_neg (by decide),if_neg (by decide),if_neg (by decide),if_neg (by decide),if_neg h59]
 clear h59 hmw
 by_cases hv:97<=c/\c<=100
 ·obtain ⟨hva,hvb⟩:=hv
  have HR:Hid (Rep _ _ _ _ _ _ _ _ _):=h
  have OK:Hid (Ok m):=ok
  clear h ok
  go_enter Tryz.func93,Tryz.ntmps93
  go_wp2_with (first | (go_at_call 126; refine hc.mono ?_; rintro e w' ⟨rfl,k,rfl⟩) | (go_at_call 123; refine (variable_yes c _ hva hvb).mono ?_; rintro e w' ⟨rfl,rfl⟩))
  refine ((HR.out.drewN k).digit OK.out hn c false h0 h1 110).mono ?_
  rintro e w' ⟨rfl,hb,hr⟩
  go_wp2
  go_ret
  exact post_via HS2.out ((below_drewN (Below.refl _ _) _)) hb hr
 ·have HR:Hid (Rep _ _ _ _ _ _ _ _ _):=h
  have OK:Hid (Ok m):=ok
  clear h ok
  go_enter Tryz.func93,Tryz.ntmps93
  go_wp2_with (first | (go_at_call 126; refine hc.mono ?_; rintro e w' ⟨rfl,k,rfl⟩) | (go_at_call 123; refine (variable_no _ _ (by omega) (by omega) (by omega)).mono ?_; rintro e w' ⟨rfl,rfl⟩))
  refine ((HR.out.drewN k).digit OK.out hn c false h0 h1 110).mono ?_
  rintro e w' ⟨rfl,hb,hr⟩
  go_wp2
  go_ret
  exact post_via HS2.out ((below_drewN (Below.refl _ _) _)) hb hr
end Go.Proofs.YtffajooegiempaaGreatDoor

namespace Go.Proofs.YtffajooegiempaaGreatDoor
open Go.RowKit
variable {B:Nat} {w w':World} {r:Nat} {m:Rd} {vs vo:Value} {P Q O:Nat->Nat}
theorem Rep.condC (h:Rep B w r m vs vo P Q O) (ok:Ok m) (hn:0 < m.st.length) (_hB:B<=w.heap.size) (c:Int) (h0:0<=c) (h1:c<=255) (hx:m.state=99) :
  Calls Tryz.prog 94 #[.pointer (some ⟨r,0,none⟩),.int .u8 c] w (Post B w r (condStep m c)):=by
 have hc:=h.now hn ok.len
 have hcur:=Rep.curs hn
 obtain ⟨c0,c1,c2,c3,c4,c5,c6,f7,f8,n9,n10,n11⟩:=h.stc _ _ hcur
 obtain ⟨r0,r1,r2,r3,r4,r5,rf⟩:=h.rdc
 have geR:=h.geR
 obtain ⟨geP,geQ⟩:=h.geC hn
 obtain ⟨sg0,sg1⟩:=ok.sgn
 obtain ⟨nu0,nu1⟩:=ok.nums (cur m) (List.mem_of_getElem? hcur)
 have HC:Hid (_=_):=hcur
 clear hcur
 rw [hx] at r0
 have HX:Hid (_=_):=hx
 clear hx
 have nrp:r ≠ P (m.st.length - 1):=fun e=>n9 e.symm
 have nrq:r ≠ Q (m.st.length - 1):=fun e=>n10 e.symm
 have npq:P (m.st.length - 1) ≠ Q (m.st.length - 1):=fun e=>n11 e.symm
 by_cases h42:c=42
 ·subst h42
  have HY:Hid (condStep m 42=some { setCur m { cur m with star:=true } with state:=behindOf m }):=by show condStep m 42=_; unfold condStep; rw [HX.out,if_pos rfl,if_pos rfl]
  have HR:Hid (Rep _ _ _ _ _ _ _ _ _):=h
  have OK:Hid (Ok m):=ok
  clear h ok
  go_enter Tryz.func94,Tryz.ntmps94
  go_wp2_with (first | (go_at_call 126; refine hc.mono ?_; rintro e w' ⟨rfl,k,rfl⟩) | (go_at_call 123; refine (variable_no _ _ (by omega) (by omega) (by omega)).mono ?_; rintro e w' ⟨rfl,rfl⟩))
  have e1:=(HR.out.drewN k).setC hn { cur m with star:=true } 2 (.bool true) rfl rfl
  refine (e1.behind (by rw [len_setCur]; exact hn) (by rw [len_setCur]; exact OK.out.len)).mono ?_
  rintro e w' ⟨rfl,k2,rfl⟩
  have HE:Hid (Rep _ _ _ _ _ _ _ _ _):=e1
  clear e1
  go_wp2
  go_ret
  refine post_yes HY.out (Below.setCell (below_drewN (Below.setCell (below_drewN (Below.refl _ _) _) geP _) _) geR _) ((HE.out.drewN k2).setRd 0 _ _ ?_ rfl rfl)
  simp [rdCells,behindOf,cur_setCur hn]
 have b42:(c == 42)=false:=by simpa using h42
 by_cases h45:c=45
 ·subst h45
  have HY:Hid (condStep m 45=some { m with sign:=-1,state:=67 }):=by show condStep m 45=_; unfold condStep; rw [HX.out,if_pos rfl,if_neg (by decide),if_pos rfl]
  clear h42 b42
  have HR:Hid (Rep _ _ _ _ _ _ _ _ _):=h
  have OK:Hid (Ok m):=ok
  clear h ok
  go_enter Tryz.func94,Tryz.ntmps94
  go_wp2_with (first | (go_at_call 126; refine hc.mono ?_; rintro e w' ⟨rfl,k,rfl⟩) | (go_at_call 123; refine (variable_no _ _ (by omega) (by omega) (by omega)).mono ?_; rintro e w' ⟨rfl,rfl⟩))
  go_ret
  exact post_yes HY.out (Below.setCell (Below.setCell (below_drewN (Below.refl _ _) _) geR _) geR _) (((HR.out.drewN k).setRd 3 (.int .i64 (-1)) { m with sign:=-1 } rfl rfl rfl).setRd 0 (.int .u8 67) _ rfl rfl rfl)
 have b45:(c == 45)=false:=by simpa using h45
 by_cases hv:97<=c/\c<=100
 ·have HY:Hid (condStep m c=some (signTo m (c - 97).toNat 1 100)):=by show condStep m c=_; unfold condStep; rw [HX.out,if_pos rfl,if_neg h42,if_neg h45,if_pos hv]
  obtain ⟨hva,hvb⟩:=hv
  have hq:=h.sgc ok hn (c - 97).toNat (by omega)
  have i0:(0:Int)<=c - 97:=by omega
  have i1:c - 97 < 4:=by omega
  clear h42 h45
  have HR:Hid (Rep _ _ _ _ _ _ _ _ _):=h
  have OK:Hid (Ok m):=ok
  clear h ok
  go_enter Tryz.func94,Tryz.ntmps94
  go_wp2_with (first | (go_at_call 126; refine hc.mono ?_; rintro e w' ⟨rfl,k,rfl⟩) | (go_at_call 123; refine (variable_yes c _ hva hvb).mono ?_; rintro e w' ⟨rfl,rfl⟩))
  go_region
  go_wp2
  go_ret
  exact post_yes HY.out (Below.drew (Below.setCell (Below.setCell (Below.setCell (below_drewN (Below.refl _ _) _) geR _) geQ _) geR _)) (rep_sign1 HR.out hn (c - 97).toNat 100 k).drew
 have HY:Hid (condStep m c=none):=by show condStep m c=_; unfold condStep; rw [HX.out,if_pos rfl,if_neg h42,if_neg h45,if_neg hv]
 clear h42 h45
 have HR:Hid (Rep _ _ _ _ _ _ _ _ _):=h
 have OK:Hid (Ok m):=ok
 clear h ok
 go_enter Tryz.func94,Tryz.ntmps94
 go_wp2_with (first | (go_at_call 126; refine hc.mono ?_; rintro e w' ⟨rfl,k,rfl⟩) | (go_at_call 123; refine (variable_no _ _ (by omega) (by omega) (by omega)).mono ?_; rintro e w' ⟨rfl,rfl⟩))
 go_ret
 exact post_no HY.out (below_drewN (Below.refl _ _) _)
theorem Rep.condCC (h:Rep B w r m vs vo P Q O) (ok:Ok m) (hn:0 < m.st.length) (_hB:B<=w.heap.size) (c:Int) (h0:0<=c) (h1:c<=255) (hx:m.state=67) :
  Calls Tryz.prog 94 #[.pointer (some ⟨r,0,none⟩),.int .u8 c] w (Post B w r (condStep m c)):=by
 have hc:=h.now hn ok.len
 have hcur:=Rep.curs hn
 obtain ⟨c0,c1,c2,c3,c4,c5,c6,f7,f8,n9,n10,n11⟩:=h.stc _ _ hcur
 obtain ⟨r0,r1,r2,r3,r4,r5,rf⟩:=h.rdc
 have geR:=h.geR
 obtain ⟨geP,geQ⟩:=h.geC hn
 obtain ⟨sg0,sg1⟩:=ok.sgn
 obtain ⟨nu0,nu1⟩:=ok.nums (cur m) (List.mem_of_getElem? hcur)
 have HC:Hid (_=_):=hcur
 clear hcur
 rw [hx] at r0
 have HX:Hid (_=_):=hx
 clear hx
 have nrp:r ≠ P (m.st.length - 1):=fun e=>n9 e.symm
 have nrq:r ≠ Q (m.st.length - 1):=fun e=>n10 e.symm
 have npq:P (m.st.length - 1) ≠ Q (m.st.length - 1):=fun e=>n11 e.symm
 by_cases hv:97<=c/\c<=100
 ·have HY:Hid (condStep m c=some (signTo m (c - 97).toNat m.sign 100)):=by show condStep m c=_; unfold condStep; rw [HX.out,if_neg (by decide),if_pos rfl,if_pos hv]
  obtain ⟨hva,hvb⟩:=hv
  have hq:=h.sgc ok hn (c - 97).toNat (by omega)
  have i0:(0:Int)<=c - 97:=by omega
  have i1:c - 97 < 4:=by omega
  have HR:Hid (Rep _ _ _ _ _ _ _ _ _):=h
  have OK:Hid (Ok m):=ok
  clear h ok
  go_enter Tryz.func94,Tryz.ntmps94
  go_wp2_with (first | (go_at_call 126; refine hc.mono ?_; rintro e w' ⟨rfl,k,rfl⟩) | (go_at_call 123; refine (variable_yes c _ hva hvb).mono ?_; rintro e w' ⟨rfl,rfl⟩))
  go_region
  go_wp2
  go_ret
  exact post_yes HY.out (Below.setCell (Below.setCell (below_drewN (Below.refl _ _) _) geQ _) geR _) (rep_sign HR.out hn (c - 97).toNat 100 (k+1))
 have HY:Hid (condStep m c=none):=by show condStep m c=_; unfold condStep; rw [HX.out,if_neg (by decide),if_pos rfl,if_neg hv]
 have HR:Hid (Rep _ _ _ _ _ _ _ _ _):=h
 have OK:Hid (Ok m):=ok
 clear h ok
 go_enter Tryz.func94,Tryz.ntmps94
 go_wp2_with (first | (go_at_call 126; refine hc.mono ?_; rintro e w' ⟨rfl,k,rfl⟩) | (go_at_call 123; refine (variable_no _ _ (by omega) (by omega) (by omega)).mono ?_; rintro e w' ⟨rfl,rfl⟩))
 go_ret
 exact post_no HY.out (below_drewN (Below.refl _ _) _)
end Go.Proofs.YtffajooegiempaaGreatDoor

namespace Go.Proofs.YtffajooegiempaaGreatDoor
open Go.RowKit
variable {B:Nat} {w w':World} {r:Nat} {m:Rd} {vs vo:Value} {P Q O:Nat->Nat}
theorem Rep.condD (h:Rep B w r m vs vo P Q O) (ok:Ok m) (hn:0 < m.st.length) (_hB:B<=w.heap.size) (c:Int) (h0:0<=c) (h1:c<=255) (hx:m.state=100) :
  Calls Tryz.prog 94 #[.pointer (some ⟨r,0,none⟩),.int .u8 c] w (Post B w r (condStep m c)):=by
 have hc:=h.now hn ok.len
 have hcur:=Rep.curs hn
 obtain ⟨c0,c1,c2,c3,c4,c5,c6,f7,f8,n9,n10,n11⟩:=h.stc _ _ hcur
 obtain ⟨r0,r1,r2,r3,r4,r5,rf⟩:=h.rdc
 have geR:=h.geR
 obtain ⟨geP,geQ⟩:=h.geC hn
 obtain ⟨sg0,sg1⟩:=ok.sgn
 obtain ⟨nu0,nu1⟩:=ok.nums (cur m) (List.mem_of_getElem? hcur)
 have HC:Hid (_=_):=hcur
 clear hcur
 rw [hx] at r0
 have HX:Hid (_=_):=hx
 clear hx
 have nrp:r ≠ P (m.st.length - 1):=fun e=>n9 e.symm
 have nrq:r ≠ Q (m.st.length - 1):=fun e=>n10 e.symm
 have npq:P (m.st.length - 1) ≠ Q (m.st.length - 1):=fun e=>n11 e.symm
 by_cases h43:c=43
 ·subst h43
  have HY:Hid (condStep m 43=some { m with sign:=1,state:=101 }):=by show condStep m 43=_; unfold condStep; rw [HX.out,if_neg (by decide),if_neg (by decide),if_pos rfl,if_pos rfl]
  have HR:Hid (Rep _ _ _ _ _ _ _ _ _):=h
  have OK:Hid (Ok m):=ok
  clear h ok
  go_enter Tryz.func94,Tryz.ntmps94
  go_wp2_with (first | (go_at_call 126; refine hc.mono ?_; rintro e w' ⟨rfl,k,rfl⟩) | (go_at_call 123; refine (variable_no _ _ (by omega) (by omega) (by omega)).mono ?_; rintro e w' ⟨rfl,rfl⟩))
  go_ret
  exact post_yes HY.out (Below.setCell (Below.setCell (below_drewN (Below.refl _ _) _) geR _) geR _) (((HR.out.drewN k).setRd 3 (.int .i64 1) { m with sign:=1 } rfl rfl rfl).setRd 0 (.int .u8 101) _ rfl rfl rfl)
 have b43:(c == 43)=false:=by simpa using h43
 by_cases h45:c=45
 ·subst h45
  have HY:Hid (condStep m 45=some { m with sign:=-1,state:=101 }):=by show condStep m 45=_; unfold condStep; rw [HX.out,if_neg (by decide),if_neg (by decide),if_pos rfl,if_neg (by decide),if_pos rfl]
  clear h43 b43
  have HR:Hid (Rep _ _ _ _ _ _ _ _ _):=h
  have OK:Hid (Ok m):=ok
  clear h ok
  go_enter Tryz.func94,Tryz.ntmps94
  go_wp2_with (first | (go_at_call 126; refine hc.mono ?_; rintro e w' ⟨rfl,k,rfl⟩) | (go_at_call 123; refine (variable_no _ _ (by omega) (by omega) (by omega)).mono ?_; rintro e w' ⟨rfl,rfl⟩))
  go_ret
  exact post_yes HY.out (Below.setCell (Below.setCell (Below.setCell (below_drewN (Below.refl _ _) _) geR _) geR _) geR _) ((((HR.out.drewN k).setRd 3 (.int .i64 1) { m with sign:=1 } rfl rfl rfl).setRd 3 (.int .i64 (-1)) { m with sign:=-1 } rfl rfl rfl).setRd 0 (.int .u8 101) _ rfl rfl rfl)
 have b45:(c == 45)=false:=by simpa using h45
 by_cases h60:c=60
 ·subst h60
  have HY:Hid (condStep m 60=some { m with state:=60 }):=by show condStep m 60=_; unfold condStep; rw [HX.out,if_neg (by decide),if_neg (by decide),if_pos rfl,if_neg (by decide),if_neg (by decide),if_pos rfl]
  clear h43 b43 h45 b45
  have HR:Hid (Rep _ _ _ _ _ _ _ _ _):=h
  have OK:Hid (Ok m):=ok
  clear h ok
  go_enter Tryz.func94,Tryz.ntmps94
  go_wp2_with (first | (go_at_call 126; refine hc.mono ?_; rintro e w' ⟨rfl,k,rfl⟩) | (go_at_call 123; refine (variable_no _ _ (by omega) (by omega) (by omega)).mono ?_; rintro e w' ⟨rfl,rfl⟩))
  go_ret
  exact post_yes HY.out (Below.setCell (below_drewN (Below.refl _ _) _) geR _) ((HR.out.drewN k).setRd 0 (.int .u8 60) _ rfl rfl rfl)
 have b60:(c == 60)=false:=by simpa using h60
 have HY:Hid (condStep m c=none):=by show condStep m c=_; unfold condStep; rw [HX.out,if_neg (by decide),if_neg (by decide),if_pos rfl,if_neg h43,if_neg h45,if_neg h60]
 clear h43 h45 h60
 have HR:Hid (Rep _ _ _ _ _ _ _ _ _):=h
 have OK:Hid (Ok m):=ok
 clear h ok
 by_cases hv:97<=c/\c<=100
 ·obtain ⟨hva,hvb⟩:=hv
  go_enter Tryz.func94,Tryz.ntmps94
  go_wp2_with (first | (go_at_call 126; refine hc.mono ?_; rintro e w' ⟨rfl,k,rfl⟩) | (go_at_call 123; refine (variable_yes c _ hva hvb).mono ?_; rintro e w' ⟨rfl,rfl⟩))
  go_ret
  exact post_no HY.out (below_drewN (Below.refl _ _) _)
 ·go_enter Tryz.func94,Tryz.ntmps94
  go_wp2_with (first | (go_at_call 126; refine hc.mono ?_; rintro e w' ⟨rfl,k,rfl⟩) | (go_at_call 123; refine (variable_no _ _ (by omega) (by omega) (by omega)).mono ?_; rintro e w' ⟨rfl,rfl⟩))
  go_ret
  exact post_no HY.out (below_drewN (Below.refl _ _) _)
theorem Rep.condE (h:Rep B w r m vs vo P Q O) (ok:Ok m) (hn:0 < m.st.length) (_hB:B<=w.heap.size) (c:Int) (h0:0<=c) (h1:c<=255) (hx:m.state=101) :
  Calls Tryz.prog 94 #[.pointer (some ⟨r,0,none⟩),.int .u8 c] w (Post B w r (condStep m c)):=by
 have hc:=h.now hn ok.len
 have hcur:=Rep.curs hn
 obtain ⟨c0,c1,c2,c3,c4,c5,c6,f7,f8,n9,n10,n11⟩:=h.stc _ _ hcur
 obtain ⟨r0,r1,r2,r3,r4,r5,rf⟩:=h.rdc
 have geR:=h.geR
 obtain ⟨geP,geQ⟩:=h.geC hn
 obtain ⟨sg0,sg1⟩:=ok.sgn
 obtain ⟨nu0,nu1⟩:=ok.nums (cur m) (List.mem_of_getElem? hcur)
 have HC:Hid (_=_):=hcur
 clear hcur
 rw [hx] at r0
 have HX:Hid (_=_):=hx
 clear hx
 have nrp:r ≠ P (m.st.length - 1):=fun e=>n9 e.symm
 have nrq:r ≠ Q (m.st.length - 1):=fun e=>n10 e.symm
 have npq:P (m.st.length - 1) ≠ Q (m.st.length - 1):=fun e=>n11 e.symm
 by_cases hv:97<=c/\c<=100
 ·by_cases hz:(cur m).sg.getD (c - 97).toNat 0=0
  ·have HY:Hid (condStep m c=some (signTo m (c - 97).toNat m.sign 102)):=by show condStep m c=_; unfold condStep; rw [HX.out,if_neg (by decide),if_neg (by decide),if_neg (by decide),if_pos rfl,if_pos hv,if_pos hz]
   obtain ⟨hva,hvb⟩:=hv
   have hq:=h.sgc ok hn (c - 97).toNat (by omega)
   rw [hz] at hq
   have i0:(0:Int)<=c - 97:=by omega
   have i1:c - 97 < 4:=by omega
   clear hz
   have HR:Hid (Rep _ _ _ _ _ _ _ _ _):=h
   have OK:Hid (Ok m):=ok
   clear h ok
   go_enter Tryz.func94,Tryz.ntmps94
   go_wp2_with (first | (go_at_call 126; refine hc.mono ?_; rintro e w' ⟨rfl,k,rfl⟩) | (go_at_call 123; refine (variable_yes c _ hva hvb).mono ?_; rintro e w' ⟨rfl,rfl⟩))
   go_region
   go_wp2
   go_ret
   exact post_yes HY.out (Below.setCell (Below.setCell (below_drewN (Below.refl _ _) _) geQ _) geR _) (rep_sign HR.out hn (c - 97).toNat 102 (k+1))
  ·have HY:Hid (condStep m c=none):=by show condStep m c=_; unfold condStep; rw [HX.out,if_neg (by decide),if_neg (by decide),if_neg (by decide),if_pos rfl,if_pos hv,if_neg hz]
   obtain ⟨hva,hvb⟩:=hv
   have hq:=h.sgc ok hn (c - 97).toNat (by omega)
   have i0:(0:Int)<=c - 97:=by omega
   have i1:c - 97 < 4:=by omega
   generalize (cur m).sg.getD (c - 97).toNat 0=y at *
   have bz:(y != 0)=true:=by simpa using hz
   clear hz
   have HR:Hid (Rep _ _ _ _ _ _ _ _ _):=h
   have OK:Hid (Ok m):=ok
   clear h ok
   go_enter Tryz.func94,Tryz.ntmps94
   go_wp2_with (first | (go_at_call 126; refine hc.mono ?_; rintro e w' ⟨rfl,k,rfl⟩) | (go_at_call 123; refine (variable_yes c _ hva hvb).mono ?_; rintro e w' ⟨rfl,rfl⟩))
   go_ret
   exact post_no HY.out (below_drewN (Below.refl _ _) _)
 have HY:Hid (condStep m c=none):=by show condStep m c=_; unfold condStep; rw [HX.out,if_neg (by decide),if_neg (by decide),if_neg (by decide),if_pos rfl,if_neg hv]
 have HR:Hid (Rep _ _ _ _ _ _ _ _ _):=h
 have OK:Hid (Ok m):=ok
 clear h ok
 go_enter Tryz.func94,Tryz.ntmps94
 go_wp2_with (first | (go_at_call 126; refine hc.mono ?_; rintro e w' ⟨rfl,k,rfl⟩) | (go_at_call 123; refine (variable_no _ _ (by omega) (by omega) (by omega)).mono ?_; rintro e w' ⟨rfl,rfl⟩))
 go_ret
 exact post_no HY.out (below_drewN (Below.refl _ _) _)
end Go.Proofs.YtffajooegiempaaGreatDoor

namespace Go.Proofs.YtffajooegiempaaGreatDoor
open Go.RowKit
variable {B:Nat} {w w':World} {r:Nat} {m:Rd} {vs vo:Value} {P Q O:Nat->Nat}
theorem Rep.condF (h:Rep B w r m vs vo P Q O) (ok:Ok m) (hn:0 < m.st.length) (_hB:B<=w.heap.size) (c:Int) (h0:0<=c) (h1:c<=255) (hx:m.state=102) :
  Calls Tryz.prog 94 #[.pointer (some ⟨r,0,none⟩),.int .u8 c] w (Post B w r (condStep m c)):=by
 have hc:=h.now hn ok.len
 have hcur:=Rep.curs hn
 obtain ⟨c0,c1,c2,c3,c4,c5,c6,f7,f8,n9,n10,n11⟩:=h.stc _ _ hcur
 obtain ⟨r0,r1,r2,r3,r4,r5,rf⟩:=h.rdc
 have geR:=h.geR
 obtain ⟨geP,geQ⟩:=h.geC hn
 obtain ⟨sg0,sg1⟩:=ok.sgn
 obtain ⟨nu0,nu1⟩:=ok.nums (cur m) (List.mem_of_getElem? hcur)
 have HC:Hid (_=_):=hcur
 clear hcur
 rw [hx] at r0
 have HX:Hid (_=_):=hx
 clear hx
 have nrp:r ≠ P (m.st.length - 1):=fun e=>n9 e.symm
 have nrq:r ≠ Q (m.st.length - 1):=fun e=>n10 e.symm
 have npq:P (m.st.length - 1) ≠ Q (m.st.length - 1):=fun e=>n11 e.symm
 by_cases h60:c=60
 ·subst h60
  have HY:Hid (condStep m 60=some { m with state:=60 }):=by show condStep m 60=_; unfold condStep; rw [HX.out,if_neg (by decide),if_neg (by decide),if_neg (by decide),if_neg (by decide),if_pos rfl,if_pos rfl]
  have HR:Hid (Rep _ _ _ _ _ _ _ _ _):=h
  have OK:Hid (Ok m):=ok
  clear h ok
  go_enter Tryz.func94,Tryz.ntmps94
  go_wp2_with (first | (go_at_call 126; refine hc.mono ?_; rintro e w' ⟨rfl,k,rfl⟩) | (go_at_call 123; refine (variable_no _ _ (by omega) (by omega) (by omega)).mono ?_; rintro e w' ⟨rfl,rfl⟩))
  go_ret
  exact post_yes HY.out (Below.setCell (below_drewN (Below.refl _ _) _) geR _) ((HR.out.drewN k).setRd 0 (.int .u8 60) _ rfl rfl rfl)
 have b60:(c == 60)=false:=by simpa using h60
 have HY:Hid (condStep m c=none):=by show condStep m c=_; unfold condStep; rw [HX.out,if_neg (by decide),if_neg (by decide),if_neg (by decide),if_neg (by decide),if_pos rfl,if_neg h60]
 clear h60
 have HR:Hid (Rep _ _ _ _ _ _ _ _ _):=h
 have OK:Hid (Ok m):=ok
 clear h ok
 by_cases hv:97<=c/\c<=100
 ·obtain ⟨hva,hvb⟩:=hv
  go_enter Tryz.func94,Tryz.ntmps94
  go_wp2_with (first | (go_at_call 126; refine hc.mono ?_; rintro e w' ⟨rfl,k,rfl⟩) | (go_at_call 123; refine (variable_yes c _ hva hvb).mono ?_; rintro e w' ⟨rfl,rfl⟩))
  go_ret
  exact post_no HY.out (below_drewN (Below.refl _ _) _)
 ·go_enter Tryz.func94,Tryz.ntmps94
  go_wp2_with (first | (go_at_call 126; refine hc.mono ?_; rintro e w' ⟨rfl,k,rfl⟩) | (go_at_call 123; refine (variable_no _ _ (by omega) (by omega) (by omega)).mono ?_; rintro e w' ⟨rfl,rfl⟩))
  go_ret
  exact post_no HY.out (below_drewN (Below.refl _ _) _)
theorem Rep.condL (h:Rep B w r m vs vo P Q O) (ok:Ok m) (hn:0 < m.st.length) (_hB:B<=w.heap.size) (c:Int) (h0:0<=c) (h1:c<=255) (hx:m.state=60) :
  Calls Tryz.prog 94 #[.pointer (some ⟨r,0,none⟩),.int .u8 c] w (Post B w r (condStep m c)):=by
 have hc:=h.now hn ok.len
 have hcur:=Rep.curs hn
 obtain ⟨c0,c1,c2,c3,c4,c5,c6,f7,f8,n9,n10,n11⟩:=h.stc _ _ hcur
 obtain ⟨r0,r1,r2,r3,r4,r5,rf⟩:=h.rdc
 have geR:=h.geR
 obtain ⟨geP,geQ⟩:=h.geC hn
 obtain ⟨sg0,sg1⟩:=ok.sgn
 obtain ⟨nu0,nu1⟩:=ok.nums (cur m) (List.mem_of_getElem? hcur)
 have HC:Hid (_=_):=hcur
 clear hcur
 rw [hx] at r0
 have HX:Hid (_=_):=hx
 clear hx
 have nrp:r ≠ P (m.st.length - 1):=fun e=>n9 e.symm
 have nrq:r ≠ Q (m.st.length - 1):=fun e=>n10 e.symm
 have npq:P (m.st.length - 1) ≠ Q (m.st.length - 1):=fun e=>n11 e.symm
 by_cases h61:c=61
 ·subst h61
  have HY:Hid (condStep m 61=some { m with neg:=false,state:=98 }):=by show condStep m 61=_; unfold condStep; rw [HX.out,if_neg (by decide),if_neg (by decide),if_neg (by decide),if_neg (by decide),if_neg (by decide),if_pos rfl,if_pos rfl]
  have HR:Hid (Rep _ _ _ _ _ _ _ _ _):=h
  have OK:Hid (Ok m):=ok
  clear h ok
  go_enter Tryz.func94,Tryz.ntmps94
  go_wp2_with (first | (go_at_call 126; refine hc.mono ?_; rintro e w' ⟨rfl,k,rfl⟩) | (go_at_call 123; refine (variable_no _ _ (by omega) (by omega) (by omega)).mono ?_; rintro e w' ⟨rfl,rfl⟩))
  go_ret
  exact post_yes HY.out (Below.setCell (Below.setCell (below_drewN (Below.refl _ _) _) geR _) geR _) (((HR.out.drewN k).setRd 4 (.bool false) { m with neg:=false } rfl rfl rfl).setRd 0 (.int .u8 98) _ rfl rfl rfl)
 have b61:(c == 61)=false:=by simpa using h61
 have HY:Hid (condStep m c=none):=by show condStep m c=_; unfold condStep; rw [HX.out,if_neg (by decide),if_neg (by decide),if_neg (by decide),if_neg (by decide),if_neg (by decide),if_pos rfl,if_neg h61]
 clear h61
 have HR:Hid (Rep _ _ _ _ _ _ _ _ _):=h
 have OK:Hid (Ok m):=ok
 clear h ok
 by_cases hv:97<=c/\c<=100
 ·obtain ⟨hva,hvb⟩:=hv
  go_enter Tryz.func94,Tryz.ntmps94
  go_wp2_with (first | (go_at_call 126; refine hc.mono ?_; rintro e w' ⟨rfl,k,rfl⟩) | (go_at_call 123; refine (variable_yes c _ hva hvb).mono ?_; rintro e w' ⟨rfl,rfl⟩))
  go_ret
  exact post_no HY.out (below_drewN (Below.refl _ _) _)
 ·go_enter Tryz.func94,Tryz.ntmps94
  go_wp2_with (first | (go_at_call 126; refine hc.mono ?_; rintro e w' ⟨rfl,k,rfl⟩) | (go_at_call 123; refine (variable_no _ _ (by omega) (by omega) (by omega)).mono ?_; rintro e w' ⟨rfl,rfl⟩))
  go_ret
  exact post_no HY.out (below_drewN (Below.refl _ _) _)
theorem Rep.condB (h:Rep B w r m vs vo P Q O) (ok:Ok m) (hn:0 < m.st.length) (_hB:B<=w.heap.size) (c:Int) (h0:0<=c) (h1:c<=255) (hx:m.state=98) :
  Calls Tryz.prog 94 #[.pointer (some ⟨r,0,none⟩),.int .u8 c] w (Post B w r (condStep m c)):=by
 have hc:=h.now hn ok.len
 have hcur:=Rep.curs hn
 obtain ⟨c0,c1,c2,c3,c4,c5,c6,f7,f8,n9,n10,n11⟩:=h.stc _ _ hcur
 obtain ⟨r0,r1,r2,r3,r4,r5,rf⟩:=h.rdc
 have geR:=h.geR
 obtain ⟨geP,geQ⟩:=h.geC hn
 obtain ⟨sg0,sg1⟩:=ok.sgn
 obtain ⟨nu0,nu1⟩:=ok.nums (cur m) (List.mem_of_getElem? hcur)
 have HC:Hid (_=_):=hcur
 clear hcur
 rw [hx] at r0
 have HX:Hid (_=_):=hx
 clear hx
 have nrp:r ≠ P (m.st.length - 1):=fun e=>n9 e.symm
 have nrq:r ≠ Q (m.st.length - 1):=fun e=>n10 e.symm
 have npq:P (m.st.length - 1) ≠ Q (m.st.length - 1):=fun e=>n11 e.symm
 by_cases h45:c=45
 ·subst h45
  have HY:Hid (condStep m 45=some { m with neg:=true,state:=66 }):=by show condStep m 45=_; unfold condStep; rw [HX.out,if_neg (by decide),if_neg (by decide),if_neg (by decide),if_neg (by decide),if_neg (by decide),if_neg (by decide),if_pos rfl,if_pos rfl]
  have HR:Hid (Rep _ _ _ _ _ _ _ _ _):=h
  have OK:Hid (Ok m):=ok
  clear h ok
  go_enter Tryz.func94,Tryz.ntmps94
  go_wp2_with (first | (go_at_call 126; refine hc.mono ?_; rintro e w' ⟨rfl,k,rfl⟩) | (go_at_call 123; refine (variable_no _ _ (by omega) (by omega) (by omega)).mono ?_; rintro e w' ⟨rfl,rfl⟩))
  go_ret
  exact post_yes HY.out (Below.setCell (Below.setCell (below_drewN (Below.refl _ _) _) geR _) geR _) (((HR.out.drewN k).setRd 4 (.bool true) { m with neg:=true } rfl rfl rfl).setRd 0 (.int .u8 66) _ rfl rfl rfl)
 have b45:(c == 45)=false:=by simpa using h45
 have HY:Hid (condStep m c=digitStep m c false 109):=by show condStep m c=_; unfold condStep; rw [HX.out,if_neg (by decide),if_neg (by decide),if_neg (by decide),if_neg (by decide),if_neg (by decide),if_neg (by decide),if_pos rfl,if_neg h45]
 clear h45
 by_cases hv:97<=c/\c<=100
 ·obtain ⟨hva,hvb⟩:=hv
  have HR:Hid (Rep _ _ _ _ _ _ _ _ _):=h
  have OK:Hid (Ok m):=ok
  clear h ok
  go_enter Tryz.func94,Tryz.ntmps94
  go_wp2_with (first | (go_at_call 126; refine hc.mono ?_; rintro e w' ⟨rfl,k,rfl⟩) | (go_at_call 123; refine (variable_yes c _ hva hvb).mono ?_; rintro e w' ⟨rfl,rfl⟩))
  refine ((HR.out.drewN k).digit OK.out hn c false h0 h1 109).mono ?_
  rintro e w' ⟨rfl,hb,hr⟩
  go_wp2
  go_ret
  exact post_via HY.out (below_drewN (Below.refl _ _) _) hb hr
 ·have HR:Hid (Rep _ _ _ _ _ _ _ _ _):=h
  have OK:Hid (Ok m):=ok
  clear h ok
  go_enter Tryz.func94,Tryz.ntmps94
  go_wp2_with (first | (go_at_call 126; refine hc.mono ?_; rintro e w' ⟨rfl,k,rfl⟩) | (go_at_call 123; refine (variable_no _ _ (by omega) (by omega) (by omega)).mono ?_; rintro e w' ⟨rfl,rfl⟩))
  refine ((HR.out.drewN k).digit OK.out hn c false h0 h1 109).mono ?_
  rintro e w' ⟨rfl,hb,hr⟩
  go_wp2
  go_ret
  exact post_via HY.out (below_drewN (Below.refl _ _) _) hb hr
theorem Rep.condBB (h:Rep B w r m vs vo P Q O) (ok:Ok m) (hn:0 < m.st.length) (_hB:B<=w.heap.size) (c:Int) (h0:0<=c) (h1:c<=255) (hx:m.state=66) :
  Calls Tryz.prog 94 #[.pointer (some ⟨r,0,none⟩),.int .u8 c] w (Post B w r (condStep m c)):=by
 have hc:=h.now hn ok.len
 have hcur:=Rep.curs hn
 obtain ⟨c0,c1,c2,c3,c4,c5,c6,f7,f8,n9,n10,n11⟩:=h.stc _ _ hcur
 obtain ⟨r0,r1,r2,r3,r4,r5,rf⟩:=h.rdc
 have geR:=h.geR
 obtain ⟨geP,geQ⟩:=h.geC hn
 obtain ⟨sg0,sg1⟩:=ok.sgn
 obtain ⟨nu0,nu1⟩:=ok.nums (cur m) (List.mem_of_getElem? hcur)
 have HC:Hid (_=_):=hcur
 clear hcur
 rw [hx] at r0
 have HX:Hid (_=_):=hx
 clear hx
 have nrp:r ≠ P (m.st.length - 1):=fun e=>n9 e.symm
 have nrq:r ≠ Q (m.st.length - 1):=fun e=>n10 e.symm
 have npq:P (m.st.length - 1) ≠ Q (m.st.length - 1):=fun e=>n11 e.symm
 have HY:Hid (condStep m c=digitStep m c true 109):=by show condStep m c=_; unfold condStep; rw [HX.out,if_neg (by decide),if_neg (by decide),if_neg (by decide),if_neg (by decide),if_neg (by decide),if_neg (by decide),if_neg (by decide),if_pos rfl]
 by_cases hv:97<=c/\c<=100
 ·obtain ⟨hva,hvb⟩:=hv
  have HR:Hid (Rep _ _ _ _ _ _ _ _ _):=h
  have OK:Hid (Ok m):=ok
  clear h ok
  go_enter Tryz.func94,Tryz.ntmps94
  go_wp2_with (first | (go_at_call 126; refine hc.mono ?_; rintro e w' ⟨rfl,k,rfl⟩) | (go_at_call 123; refine (variable_yes c _ hva hvb).mono ?_; rintro e w' ⟨rfl,rfl⟩))
  refine ((HR.out.drewN k).digit OK.out hn c true h0 h1 109).mono ?_
  rintro e w' ⟨rfl,hb,hr⟩
  go_wp2
  go_ret
  exact post_via HY.out (below_drewN (Below.refl _ _) _) hb hr
 ·have HR:Hid (Rep _ _ _ _ _ _ _ _ _):=h
  have OK:Hid (Ok m):=ok
  clear h ok
  go_enter Tryz.func94,Tryz.ntmps94
  go_wp2_with (first | (go_at_call 126; refine hc.mono ?_; rintro e w' ⟨rfl,k,rfl⟩) | (go_at_call 123; refine (variable_no _ _ (by omega) (by omega) (by omega)).mono ?_; rintro e w' ⟨rfl,rfl⟩))
  refine ((HR.out.drewN k).digit OK.out hn c true h0 h1 109).mono ?_
  rintro e w' ⟨rfl,hb,hr⟩
  go_wp2
  go_ret
  exact post_via HY.out (below_drewN (Below.refl _ _) _) hb hr
end Go.Proofs.YtffajooegiempaaGreatDoor

namespace Go
theorem step_append_own {P:Program} {ops:Array Oper} {o:Oper} {a:Act} {w:World} {K:Act->World->Prop} {Q:Exit->Act->World->Prop} {E:Prop}
  (hg:o.guard=none) (s x:Operand) (t:TypeId) (hop:o.op=Op.call { callee:=Callee.builtin Builtin.append,args:=#[s,x],argTypes:=#[t,t] })
  (base:Nat) (e:TypeId) (i:TypeInfo) (z:Value) (size bytes:Nat) (h1:P.underlying t=some (.slice e)) (h2:P.info? e=some i) (h3:i.zero=some z) (h4:i.size=size) (h5:i.bytes=bytes) (h6:z.cells.size=size) (h7:0 < size)
  (v:Value) (n:Nat) (xs:List Value) (hs:a.eval s=v) (hown:w.ownsRow base e size v n xs)
  (ad:Addr) (m c:Nat) (news:List Value) (hx:a.eval x=.slice (some ad) m c) (hn:news.length=m*size) (hc:∀ j u,news[j]?=some u->w.cell? (ad.add j)=some u) (h1c:∀ u ∈ news,u.oneCell'=true)
  (b1:n+m<=maxLen) (b2:(n+m)*bytes<=140737488355328) (hbase:base<=w.heap.size)
  (hK:∀ v' w',w'.ownsRow base e size v' (n+m) (xs ++ news)->w.grownBy w' v.ownBlock->K (a.put o.dst v') w') :
  if Region.wanted o (yielded ops a.tmps)=true then Oper.wp P o a w K Q else E:=by
 have hw:Region.wanted o (yielded ops a.tmps)=true:=by simp [Region.wanted,hg]
 rw [if_pos hw]
 exact wp_append_own w s x t hop base e i z size bytes h1 h2 h3 h4 h5 h6 h7 v n xs hs hown ad m c news hx hn hc h1c b1 b2 hbase fun v' w' h2 h3 _=>hK v' w' h2 h3
end Go
namespace Go.Proofs.YtffajooegiempaaGreatDoor
open Go.RowKit
variable {B:Nat} {w w':World} {r:Nat} {m:Rd} {vs vo:Value} {P Q O:Nat->Nat}
def updR (f:Nat->Nat) (n x:Nat):Nat->Nat:=fun i=>if i=n then x else f i
theorem updR_at (f:Nat->Nat) (n x:Nat):updR f n x n=x:=by simp [updR]
theorem updR_lt (f:Nat->Nat) {n x i:Nat} (h:i < n):updR f n x i=f i:=by unfold updR; rw [if_neg (by omega)]
theorem map_upd (f:Nat->Nat) (n x:Nat):(List.range (n+1)).map (fun i=>ptr (updR f n x i))=(List.range n).map (fun i=>ptr (f i)) ++ [ptr x]:=by
 rw [List.range_succ,List.map_append]
 congr 1
 ·apply List.map_congr_left; intro i hi; rw [updR_lt f (by simpa using hi)]
 ·simp [updR_at]
theorem Rep.lts (h:Rep B w r m vs vo P Q O):r < w.heap.size/\(∀ i,i < m.st.length->P i < w.heap.size/\Q i < w.heap.size)/\(∀ i,i < m.op.length->O i < w.heap.size):=by
 refine ⟨h.rd.lt,fun i hi=>?_,fun i hi=>?_⟩
 ·obtain ⟨a,b⟩:=h.st i _ (List.getElem?_eq_getElem hi)
  exact ⟨a.lt,b.lt⟩
 ·exact (h.op i _ (List.getElem?_eq_getElem hi)).lt
theorem Rep.pushOp (h:Rep B w r m vs vo P Q O) (b:Bk) (v':Value) (w1 w2:World) (hlt:w.heap.size < w1.heap.size) (hw1:∀ k,k < w.heap.size->w1.heap[k]?=w.heap[k]?)
  (hnew:At w1 w.heap.size (bkCells b) tB) (hg:w1.grownBy w2 vo.ownBlock) (hown:w2.ownsRow B tPB 1 v' (m.op.length+1) (((List.range m.op.length).map fun i=>ptr (O i)) ++ [ptr w.heap.size])) (hB:B<=w.heap.size) :
  Rep B (w2.setCell ⟨r,2,none⟩ v') r { m with op:=m.op ++ [b] } vs v' P Q (updR O m.op.length w.heap.size):=by
 obtain ⟨lr,lp,lo⟩:=h.lts
 have same:∀ k,k < w.heap.size->vo.ownBlock ≠ some k->w2.heap[k]?=w.heap[k]?:=fun k hk hn=>(hg.block k (by omega) (fun e=>hn e.symm)).trans (hw1 k hk)
 have keep:∀ {k c t},At w k c t->tPB ≠ t->At w2 k c t:=fun {k c t} ha hn=>ha.same (same k ha.lt (ownsRow_type h.ro ha hn))
 have rd2:=keep h.rd (by decide)
 have new2:At w2 w.heap.size (bkCells b) tB:=hnew.same (hg.block _ hlt (by
  intro e
  obtain ⟨_,h2⟩:=h.ro.lt _ e.symm
  omega))
 exact {
  rd:=rd2.put 2 v'
  rs:=by
   refine ownsRow_put ?_ rd2 (by decide) 2 v'
   refine ownsRow_same h.rs fun g hg'=>same g (h.rs.lt g hg').2 ?_
   obtain ⟨h1,h2⟩:=h.rs
   rcases h2 with ⟨e,_⟩ | ⟨g',cap,c,e,_,hh,_⟩
   ·subst e; simp [Value.ownBlock] at hg'
   ·subst e; simp [Value.ownBlock] at hg'; subst hg'; exact ownsRow_type h.ro (show At w g' c tPS from hh) (by decide)
  ro:=by
   simp only [List.length_append,List.length_singleton]
   rw [map_upd]
   exact ownsRow_put hown rd2 (by decide) 2 v'
  st:=by
   intro i s hi
   obtain ⟨a,b⟩:=h.st i s hi
   exact ⟨(keep a (by decide)).other _ _ (a.ne h.rd (by decide)),(keep b (by decide)).other _ _ (b.ne h.rd (by decide))⟩
  op:=by
   intro i x hi
   by_cases e:i=m.op.length
   ·subst e
    rw [updR_at]
    simp at hi
    subst hi
    exact new2.other _ _ (by omega)
   ·have hil:i < m.op.length:=by
     have:i < (m.op ++ [b]).length:=by
      rcases Nat.lt_or_ge i (m.op ++ [b]).length with h' | h'
      ·exact h'
      ·simp [List.getElem?_eq_none h'] at hi
     simp at this; omega
    rw [updR_lt O hil]
    rw [List.getElem?_append_left hil] at hi
    have a:=h.op i x hi
    exact (keep a (by decide)).other _ _ (a.ne h.rd (by decide))
  injP:=h.injP
  injQ:=h.injQ
  injO:=by
   intro i j hi hj
   simp only [List.length_append,List.length_singleton] at hi hj
   by_cases ei:i=m.op.length <;> by_cases ej:j=m.op.length
   ·intro _; omega
   ·have hj':j < m.op.length:=by omega
    subst ei; rw [updR_at,updR_lt O hj']; intro e; have:=lo j hj'; omega
   ·have hi':i < m.op.length:=by omega
    subst ej; rw [updR_at,updR_lt O hi']; intro e; have:=lo i hi'; omega
   ·have hi':i < m.op.length:=by omega
    have hj':j < m.op.length:=by omega
    rw [updR_lt O hi',updR_lt O hj']; exact h.injO i j hi' hj'
  geR:=h.geR
  geP:=h.geP
  geO:=by
   intro i hi
   simp only [List.length_append,List.length_singleton] at hi
   by_cases ei:i=m.op.length
   ·subst ei; rw [updR_at]; exact hB
   ·have hi':i < m.op.length:=by omega
    rw [updR_lt O hi']; exact h.geO i hi' }
theorem Rep.pushSt (h:Rep B w r m vs vo P Q O) (s:St) (v':Value) (p q:Nat) (w1 w2:World) (hq:w.heap.size<=q) (hp:w.heap.size<=p) (hlq:q < w1.heap.size) (hlp:p < w1.heap.size) (hw1:∀ k,k < w.heap.size->w1.heap[k]?=w.heap[k]?)
  (hnp:At w1 p (stCells q s) tS) (hnq:At w1 q (sgCells s.sg) tI) (hg:w1.grownBy w2 vs.ownBlock) (hown:w2.ownsRow B tPS 1 v' (m.st.length+1) (((List.range m.st.length).map fun i=>ptr (P i)) ++ [ptr p])) (hB:B<=w.heap.size) :
  Rep B (w2.setCell ⟨r,1,none⟩ v') r { m with st:=m.st ++ [s] } v' vo (updR P m.st.length p) (updR Q m.st.length q) O:=by
 obtain ⟨lr,lp,lo⟩:=h.lts
 have same:∀ k,k < w.heap.size->vs.ownBlock ≠ some k->w2.heap[k]?=w.heap[k]?:=fun k hk hn=>(hg.block k (by omega) (fun e=>hn e.symm)).trans (hw1 k hk)
 have keep:∀ {k c t},At w k c t->tPS ≠ t->At w2 k c t:=fun {k c t} ha hn=>ha.same (same k ha.lt (ownsRow_type h.rs ha hn))
 have rd2:=keep h.rd (by decide)
 have notrow:∀ k,w.heap.size<=k->some k ≠ vs.ownBlock:=fun k hk e=>by
  obtain ⟨_,h2⟩:=h.rs.lt _ e.symm
  omega
 have newp:At w2 p (stCells q s) tS:=hnp.same (hg.block _ hlp (notrow p hp))
 have newq:At w2 q (sgCells s.sg) tI:=hnq.same (hg.block _ hlq (notrow q hq))
 exact {
  rd:=rd2.put 1 v'
  ro:=by
   refine ownsRow_put ?_ rd2 (by decide) 1 v'
   refine ownsRow_same h.ro fun g hg'=>same g (h.ro.lt g hg').2 ?_
   obtain ⟨h1,h2⟩:=h.ro
   rcases h2 with ⟨e,_⟩ | ⟨g',cap,c,e,_,hh,_⟩
   ·subst e; simp [Value.ownBlock] at hg'
   ·subst e; simp [Value.ownBlock] at hg'; subst hg'; exact ownsRow_type h.rs (show At w g' c tPB from hh) (by decide)
  rs:=by
   simp only [List.length_append,List.length_singleton]
   rw [map_upd]
   exact ownsRow_put hown rd2 (by decide) 1 v'
  op:=by
   intro i b hi
   have a:=h.op i b hi
   exact (keep a (by decide)).other _ _ (a.ne h.rd (by decide))
  st:=by
   intro i x hi
   by_cases e:i=m.st.length
   ·subst e
    rw [updR_at,updR_at]
    simp at hi
    subst hi
    exact ⟨newp.other _ _ (by omega),newq.other _ _ (by omega)⟩
   ·have hil:i < m.st.length:=by
     have:i < (m.st ++ [s]).length:=by
      rcases Nat.lt_or_ge i (m.st ++ [s]).length with h' | h'
      ·exact h'
      ·simp [List.getElem?_eq_none h'] at hi
     simp at this; omega
    rw [updR_lt P hil,updR_lt Q hil]
    rw [List.getElem?_append_left hil] at hi
    obtain ⟨a,b⟩:=h.st i x hi
    exact ⟨(keep a (by decide)).other _ _ (a.ne h.rd (by decide)),(keep b (by decide)).other _ _ (b.ne h.rd (by decide))⟩
  injP:=by
   intro i j hi hj
   simp only [List.length_append,List.length_singleton] at hi hj
   by_cases ei:i=m.st.length <;> by_cases ej:j=m.st.length
   ·intro _; omega
   ·have hj':j < m.st.length:=by omega
    subst ei; rw [updR_at,updR_lt P hj']; intro e; have:=(lp j hj').1; omega
   ·have hi':i < m.st.length:=by omega
    subst ej; rw [updR_at,updR_lt P hi']; intro e; have:=(lp i hi').1; omega
   ·have hi':i < m.st.length:=by omega
    have hj':j < m.st.length:=by omega
    rw [updR_lt P hi',updR_lt P hj']; exact h.injP i j hi' hj'
  injQ:=by
   intro i j hi hj
   simp only [List.length_append,List.length_singleton] at hi hj
   by_cases ei:i=m.st.length <;> by_cases ej:j=m.st.length
   ·intro _; omega
   ·have hj':j < m.st.length:=by omega
    subst ei; rw [updR_at,updR_lt Q hj']; intro e; have:=(lp j hj').2; omega
   ·have hi':i < m.st.length:=by omega
    subst ej; rw [updR_at,updR_lt Q hi']; intro e; have:=(lp i hi').2; omega
   ·have hi':i < m.st.length:=by omega
    have hj':j < m.st.length:=by omega
    rw [updR_lt Q hi',updR_lt Q hj']; exact h.injQ i j hi' hj'
  injO:=h.injO
  geR:=h.geR
  geO:=h.geO
  geP:=by
   intro i hi
   simp only [List.length_append,List.length_singleton] at hi
   by_cases ei:i=m.st.length
   ·subst ei; rw [updR_at,updR_at]; exact ⟨by omega,by omega⟩
   ·have hi':i < m.st.length:=by omega
    rw [updR_lt P hi',updR_lt Q hi']; exact h.geP i hi' }
theorem Rep.popOp {g n cap:Nat} (h:Rep B w r m vs (.slice (some ⟨g,0,none⟩) n cap) P Q O) (hn:0 < m.op.length) (hnn:n=m.op.length) :
  Rep B (w.setCell ⟨r,2,none⟩ (.slice (some ⟨g,0,none⟩) (n - 1) cap)) r { m with op:=m.op.take (m.op.length - 1) } vs (.slice (some ⟨g,0,none⟩) (n - 1) cap) P Q O:=by
 have hl:(m.op.take (m.op.length - 1)).length=m.op.length - 1:=by simp
 exact {
  rd:=h.rd.put 2 _
  rs:=ownsRow_put h.rs h.rd (by decide) 2 _
  ro:=by
   rw [hl]
   refine ownsRow_put ?_ h.rd (by decide) 2 _
   obtain ⟨h1,h2⟩:=h.ro
   rcases h2 with ⟨e,_⟩ | ⟨g',cap',c,e,hg,hh,hc,hm,hs,ht⟩
   ·simp at e
   ·simp at e
    obtain ⟨rfl,_,rfl⟩:=e
    refine ⟨by simp,.inr ⟨g,cap,c,by rw [hnn],hg,hh,by omega,hm,hs,?_⟩⟩
    have e2:(c.toList.take (m.op.length*1)).take ((m.op.length - 1)*1)=c.toList.take ((m.op.length - 1)*1):=by rw [List.take_take]; congr 1; omega
    rw [<- e2,ht,<- List.map_take,List.take_range]
    congr 2; omega
  st:=by
   intro i s hi
   obtain ⟨a,b⟩:=h.st i s hi
   exact ⟨a.other _ _ (a.ne h.rd (by decide)),b.other _ _ (b.ne h.rd (by decide))⟩
  op:=by
   intro i b hi
   have hi':m.op[i]?=some b:=by
    rw [List.getElem?_take] at hi
    split at hi
    ·exact hi
    ·cases hi
   have a:=h.op i b hi'
   exact a.other _ _ (a.ne h.rd (by decide))
  injP:=h.injP
  injQ:=h.injQ
  injO:=by rw [hl]; intro i j hi hj; exact h.injO i j (by omega) (by omega)
  geR:=h.geR
  geP:=h.geP
  geO:=by rw [hl]; intro i hi; exact h.geO i (by omega) }
end Go.Proofs.YtffajooegiempaaGreatDoor

