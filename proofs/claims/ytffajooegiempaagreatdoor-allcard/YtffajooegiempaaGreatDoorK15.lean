import Derived.Test.YtffajooegiempaaGreatDoorK14
import Derived.Deep.RegionLaw
import Derived.BigRegion
set_option maxRecDepth 100000
set_option maxHeartbeats 6400000
namespace Go.Proofs.YtffajooegiempaaGreatDoor
open Go.RowKit Go.Proofs.Tryz
variable {B:Nat}{w w':World}{r:Nat}{m:Rd}{vs vo:Value}{P Q O:Nat->Nat}
theorem AZ.valueY(h:AZ B w r m vs vo P Q O)(ok:Ok m)(hn:0<m.st.length)(c:Int)(o:0<=c)(h1:c<=255)(hx:m.state=121):
  Calls prog 93 #[.pointer (some ⟨r,0,none⟩),.int .u8 c] w (D2 B w r (AO m c)):=by
 have hc:=h.now hn ok.len;have a:=AZ.curs hn;obtain⟨c0,c1,c2,c3,c4,c5,G,H,I,z,l,n⟩:=h.stc _ _ a;obtain⟨E,r1,J,K,L,M,N⟩:=h.rdc;have geR:=h.geR;obtain⟨geP,v⟩:=h.geC hn;obtain⟨s,t⟩:=ok.sgn;obtain⟨p,q⟩:=ok.nums (cur m) (bR a);have F:Hid (_=_):=a;clear a;rw[hx]at E;have u:Hid (_=_):=hx;clear hx;have C:r≠P (m.st.length-1):=λe=>z e.symm;have D:r≠Q (m.st.length-1):=λe=>l e.symm;have A:P (m.st.length-1)≠Q (m.st.length-1):=λe=>n e.symm;have b:Hid (AO m c=AT m c false 110):=by show AO m c=_;unfold AO;rw[u.out,a_ (by decide),a_ (by decide),a_ (by decide),bA rfl]
 by_cases y:97<=c/\c<=100
 .obtain⟨i,j⟩:=y;have d:Hid (AZ _ _ _ _ _ _ _ _ _):=h;have g:Hid (Ok m):=ok;clear h ok;go_enter func93,ntmps93;go_wp2_with (first|(go_at_call 126;refine hc.mono ?_;rintro e w' ⟨rfl,k,rfl⟩)|(go_at_call 123;refine(As c _ i j).mono ?_;rintro e w' ⟨rfl,rfl⟩));refine((d.out.drewN k).digit g.out hn c false o h1 110).mono ?_;rintro e w' ⟨rfl,hb,hr⟩;go_wp2;go_ret;exact Bg b.out ((bD (bC _ _) _)) hb hr
 .have d:Hid (AZ _ _ _ _ _ _ _ _ _):=h;have g:Hid (Ok m):=ok;clear h ok;go_enter func93,ntmps93;go_wp2_with (first|(go_at_call 126;refine hc.mono ?_;rintro e w' ⟨rfl,k,rfl⟩)|(go_at_call 123;refine(AN _ _ (by omega) (by omega) (by omega)).mono ?_;rintro e w' ⟨rfl,rfl⟩));refine((d.out.drewN k).digit g.out hn c false o h1 110).mono ?_;rintro e w' ⟨rfl,hb,hr⟩;go_wp2;go_ret;exact Bg b.out ((bD (bC _ _) _)) hb hr
theorem AZ.valueN(h:AZ B w r m vs vo P Q O)(ok:Ok m)(hn:0<m.st.length)(c:Int)(o:0<=c)(h1:c<=255)(hx:m.state=110):
  Calls prog 93 #[.pointer (some ⟨r,0,none⟩),.int .u8 c] w (D2 B w r (AO m c)):=by
 have hc:=h.now hn ok.len;have a:=AZ.curs hn;obtain⟨c0,c1,c2,c3,c4,c5,G,H,I,z,l,n⟩:=h.stc _ _ a;obtain⟨E,r1,J,K,L,M,N⟩:=h.rdc;have geR:=h.geR;obtain⟨geP,v⟩:=h.geC hn;obtain⟨s,t⟩:=ok.sgn;obtain⟨p,q⟩:=ok.nums (cur m) (bR a);have F:Hid (_=_):=a;clear a;rw[hx]at E;have u:Hid (_=_):=hx;clear hx;have C:r≠P (m.st.length-1):=λe=>z e.symm;have D:r≠Q (m.st.length-1):=λe=>l e.symm;have A:P (m.st.length-1)≠Q (m.st.length-1):=λe=>n e.symm;have x:=IX _ _ s t p q;by_cases f:c=59
 .subst f;have b:Hid (AO m 59=some (CW m)):=by show AO m 59=_;unfold AO;rw[u.out,a_ (by decide),a_ (by decide),a_ (by decide),a_ (by decide),bA rfl]
  have d:Hid (AZ _ _ _ _ _ _ _ _ _):=h;have g:Hid (Ok m):=ok;clear h ok;go_enter func93,ntmps93;go_wp2_with (first|(go_at_call 126;refine hc.mono ?_;rintro e w' ⟨rfl,k,rfl⟩)|(go_at_call 123;refine(AN _ _ (by omega) (by omega) (by omega)).mono ?_;rintro e w' ⟨rfl,rfl⟩));go_region;go_wp2;go_ret;exact Aq b.out (bH (bH (bD (bC _ _) _) geP _) geR _) (((d.out.drewN (k+1)).setC hn {cur m with num:=m.sign*(cur m).num} 4 (.int .i64 (m.sign*(cur m).num)) rfl rfl).setRd 0 (.int .u8 115) (CW m) rfl rfl rfl)
 have aa:(c==59)=false:=by simpa using f
 have b:Hid (AO m c=AT m c false 110):=by show AO m c=_;unfold AO;rw[u.out,a_ (by decide),a_ (by decide),a_ (by decide),a_ (by decide),a_ f]
 clear f x;by_cases y:97<=c/\c<=100
 .obtain⟨i,j⟩:=y;have d:Hid (AZ _ _ _ _ _ _ _ _ _):=h;have g:Hid (Ok m):=ok;clear h ok;go_enter func93,ntmps93;go_wp2_with (first|(go_at_call 126;refine hc.mono ?_;rintro e w' ⟨rfl,k,rfl⟩)|(go_at_call 123;refine(As c _ i j).mono ?_;rintro e w' ⟨rfl,rfl⟩));refine((d.out.drewN k).digit g.out hn c false o h1 110).mono ?_;rintro e w' ⟨rfl,hb,hr⟩;go_wp2;go_ret;exact Bg b.out ((bD (bC _ _) _)) hb hr
 .have d:Hid (AZ _ _ _ _ _ _ _ _ _):=h;have g:Hid (Ok m):=ok;clear h ok;go_enter func93,ntmps93;go_wp2_with (first|(go_at_call 126;refine hc.mono ?_;rintro e w' ⟨rfl,k,rfl⟩)|(go_at_call 123;refine(AN _ _ (by omega) (by omega) (by omega)).mono ?_;rintro e w' ⟨rfl,rfl⟩));refine((d.out.drewN k).digit g.out hn c false o h1 110).mono ?_;rintro e w' ⟨rfl,hb,hr⟩;go_wp2;go_ret;exact Bg b.out ((bD (bC _ _) _)) hb hr
theorem AZ.condC(h:AZ B w r m vs vo P Q O)(ok:Ok m)(hn:0<m.st.length)(_hB:B<=w.heap.size)(c:Int)(K:0<=c)(h1:c<=255)(hx:m.state=99):
  Calls prog 94 #[.pointer (some ⟨r,0,none⟩),.int .u8 c] w (D2 B w r (AF m c)):=by
 have hc:=h.now hn ok.len;have a:=AZ.curs hn;obtain⟨c0,c1,c2,c3,c4,c5,H,I,J,u,p,q⟩:=h.stc _ _ a;obtain⟨C,r1,R,S,T,U,V⟩:=h.rdc;have geR:=h.geR;obtain⟨geP,j⟩:=h.geC hn;obtain⟨D,E⟩:=ok.sgn;obtain⟨z,A⟩:=ok.nums (cur m) (bR a);have F:Hid (_=_):=a;clear a;rw[hx]at C;have i:Hid (_=_):=hx;clear hx;have x:r≠P (m.st.length-1):=λe=>u e.symm;have y:r≠Q (m.st.length-1):=λe=>p e.symm;have v:P (m.st.length-1)≠Q (m.st.length-1):=λe=>q e.symm;by_cases b:c=42
 .subst b;have f:Hid (AF m 42=some {AE m {cur m with star:=true}with state:=AG m}):=by show AF m 42=_;unfold AF;rw[i.out,bA rfl,bA rfl]
  have g:Hid (AZ _ _ _ _ _ _ _ _ _):=h;have s:Hid (Ok m):=ok;clear h ok;go_enter func94,ntmps94;go_wp2_with (first|(go_at_call 126;refine hc.mono ?_;rintro e w' ⟨rfl,k,rfl⟩)|(go_at_call 123;refine(AN _ _ (by omega) (by omega) (by omega)).mono ?_;rintro e w' ⟨rfl,rfl⟩));have e1:=(g.out.drewN k).setC hn {cur m with star:=true} 2 (.bool true) rfl rfl;refine(e1.behind (by rw[BL];exact hn) (by rw[BL];exact s.out.len)).mono ?_;rintro e w' ⟨rfl,k2,rfl⟩;have G:Hid (AZ _ _ _ _ _ _ _ _ _):=e1;clear e1;go_wp2;go_ret;refine Aq f.out (bH (bD (bH (bD (bC _ _) _) geP _) _) geR _) ((G.out.drewN k2).setRd 0 _ _ ?_ rfl rfl);simp[Ii,AG,Hi hn]
 have t:(c==42)=false:=by simpa using b
 by_cases d:c=45
 .subst d;have f:Hid (AF m 45=some {m with sign:= -1,state:=67}):=by show AF m 45=_;unfold AF;rw[i.out,bA rfl,a_ (by decide),bA rfl]
  clear b t;have g:Hid (AZ _ _ _ _ _ _ _ _ _):=h;have s:Hid (Ok m):=ok;clear h ok;go_enter func94,ntmps94;go_wp2_with (first|(go_at_call 126;refine hc.mono ?_;rintro e w' ⟨rfl,k,rfl⟩)|(go_at_call 123;refine(AN _ _ (by omega) (by omega) (by omega)).mono ?_;rintro e w' ⟨rfl,rfl⟩));go_ret;exact Aq f.out (bH (bH (bD (bC _ _) _) geR _) geR _) (((g.out.drewN k).setRd 3 (.int .i64 (-1)) {m with sign:= -1} rfl rfl rfl).setRd 0 (.int .u8 67) _ rfl rfl rfl)
 have aa:(c==45)=false:=by simpa using d
 by_cases l:97<=c/\c<=100
 .have f:Hid (AF m c=some (Bp m (c-97).toNat 1 100)):=by show AF m c=_;unfold AF;rw[i.out,bA rfl,a_ b,a_ d,bA l]
  obtain⟨n,o⟩:=l;have L:=h.sgc ok hn (c-97).toNat (by omega);have M:(0:Int)<=c-97:=by omega
  have N:c-97<4:=by omega
  clear b d;have g:Hid (AZ _ _ _ _ _ _ _ _ _):=h;have s:Hid (Ok m):=ok;clear h ok;go_enter func94,ntmps94;go_wp2_with (first|(go_at_call 126;refine hc.mono ?_;rintro e w' ⟨rfl,k,rfl⟩)|(go_at_call 123;refine(As c _ n o).mono ?_;rintro e w' ⟨rfl,rfl⟩));go_region;go_wp2;go_ret;exact Aq f.out (Below.drew (bH (bH (bH (bD (bC _ _) _) geR _) j _) geR _)) (Lv g.out hn (c-97).toNat 100 k).drew
 have f:Hid (AF m c=none):=by show AF m c=_;unfold AF;rw[i.out,bA rfl,a_ b,a_ d,a_ l]
 clear b d;have g:Hid (AZ _ _ _ _ _ _ _ _ _):=h;have s:Hid (Ok m):=ok;clear h ok;go_enter func94,ntmps94;go_wp2_with (first|(go_at_call 126;refine hc.mono ?_;rintro e w' ⟨rfl,k,rfl⟩)|(go_at_call 123;refine(AN _ _ (by omega) (by omega) (by omega)).mono ?_;rintro e w' ⟨rfl,rfl⟩));go_ret;exact Av f.out (bD (bC _ _) _)
theorem AZ.condCC(h:AZ B w r m vs vo P Q O)(ok:Ok m)(hn:0<m.st.length)(_hB:B<=w.heap.size)(c:Int)(K:0<=c)(h1:c<=255)(hx:m.state=67):
  Calls prog 94 #[.pointer (some ⟨r,0,none⟩),.int .u8 c] w (D2 B w r (AF m c)):=by
 have hc:=h.now hn ok.len;have a:=AZ.curs hn;obtain⟨c0,c1,c2,c3,c4,c5,H,I,J,u,p,q⟩:=h.stc _ _ a;obtain⟨C,r1,R,S,T,U,V⟩:=h.rdc;have geR:=h.geR;obtain⟨geP,j⟩:=h.geC hn;obtain⟨D,E⟩:=ok.sgn;obtain⟨z,A⟩:=ok.nums (cur m) (bR a);have F:Hid (_=_):=a;clear a;rw[hx]at C;have i:Hid (_=_):=hx;clear hx;have x:r≠P (m.st.length-1):=λe=>u e.symm;have y:r≠Q (m.st.length-1):=λe=>p e.symm;have v:P (m.st.length-1)≠Q (m.st.length-1):=λe=>q e.symm;by_cases l:97<=c/\c<=100
 .have f:Hid (AF m c=some (Bp m (c-97).toNat m.sign 100)):=by show AF m c=_;unfold AF;rw[i.out,a_ (by decide),bA rfl,bA l]
  obtain⟨n,o⟩:=l;have L:=h.sgc ok hn (c-97).toNat (by omega);have M:(0:Int)<=c-97:=by omega
  have N:c-97<4:=by omega
  have g:Hid (AZ _ _ _ _ _ _ _ _ _):=h;have s:Hid (Ok m):=ok;clear h ok;go_enter func94,ntmps94;go_wp2_with (first|(go_at_call 126;refine hc.mono ?_;rintro e w' ⟨rfl,k,rfl⟩)|(go_at_call 123;refine(As c _ n o).mono ?_;rintro e w' ⟨rfl,rfl⟩));go_region;go_wp2;go_ret;exact Aq f.out (bH (bH (bD (bC _ _) _) j _) geR _) (KY g.out hn (c-97).toNat 100 (k+1))
 have f:Hid (AF m c=none):=by show AF m c=_;unfold AF;rw[i.out,a_ (by decide),bA rfl,a_ l]
 have g:Hid (AZ _ _ _ _ _ _ _ _ _):=h;have s:Hid (Ok m):=ok;clear h ok;go_enter func94,ntmps94;go_wp2_with (first|(go_at_call 126;refine hc.mono ?_;rintro e w' ⟨rfl,k,rfl⟩)|(go_at_call 123;refine(AN _ _ (by omega) (by omega) (by omega)).mono ?_;rintro e w' ⟨rfl,rfl⟩));go_ret;exact Av f.out (bD (bC _ _) _)
theorem AZ.condD(h:AZ B w r m vs vo P Q O)(ok:Ok m)(hn:0<m.st.length)(_hB:B<=w.heap.size)(c:Int)(N:0<=c)(h1:c<=255)(hx:m.state=100):
  Calls prog 94 #[.pointer (some ⟨r,0,none⟩),.int .u8 c] w (D2 B w r (AF m c)):=by
 have hc:=h.now hn ok.len;have a:=AZ.curs hn;obtain⟨c0,c1,c2,c3,c4,c5,K,L,M,x,p,q⟩:=h.stc _ _ a;obtain⟨F,r1,T,U,V,W,X⟩:=h.rdc;have geR:=h.geR;obtain⟨geP,u⟩:=h.geC hn;obtain⟨G,H⟩:=ok.sgn;obtain⟨D,E⟩:=ok.nums (cur m) (bR a);have J:Hid (_=_):=a;clear a;rw[hx]at F;have n:Hid (_=_):=hx;clear hx;have A:r≠P (m.st.length-1):=λe=>x e.symm;have C:r≠Q (m.st.length-1):=λe=>p e.symm;have z:P (m.st.length-1)≠Q (m.st.length-1):=λe=>q e.symm;by_cases d:c=43
 .subst d;have b:Hid (AF m 43=some {m with sign:=1,state:=101}):=by show AF m 43=_;unfold AF;rw[n.out,a_ (by decide),a_ (by decide),bA rfl,bA rfl]
  have j:Hid (AZ _ _ _ _ _ _ _ _ _):=h;have s:Hid (Ok m):=ok;clear h ok;go_enter func94,ntmps94;go_wp2_with (first|(go_at_call 126;refine hc.mono ?_;rintro e w' ⟨rfl,k,rfl⟩)|(go_at_call 123;refine(AN _ _ (by omega) (by omega) (by omega)).mono ?_;rintro e w' ⟨rfl,rfl⟩));go_ret;exact Aq b.out (bH (bH (bD (bC _ _) _) geR _) geR _) (((j.out.drewN k).setRd 3 (.int .i64 1) {m with sign:=1} rfl rfl rfl).setRd 0 (.int .u8 101) _ rfl rfl rfl)
 have t:(c==43)=false:=by simpa using d
 by_cases f:c=45
 .subst f;have b:Hid (AF m 45=some {m with sign:= -1,state:=101}):=by show AF m 45=_;unfold AF;rw[n.out,a_ (by decide),a_ (by decide),bA rfl,a_ (by decide),bA rfl]
  clear d t;have j:Hid (AZ _ _ _ _ _ _ _ _ _):=h;have s:Hid (Ok m):=ok;clear h ok;go_enter func94,ntmps94;go_wp2_with (first|(go_at_call 126;refine hc.mono ?_;rintro e w' ⟨rfl,k,rfl⟩)|(go_at_call 123;refine(AN _ _ (by omega) (by omega) (by omega)).mono ?_;rintro e w' ⟨rfl,rfl⟩));go_ret;exact Aq b.out (bH (bH (bH (bD (bC _ _) _) geR _) geR _) geR _) ((((j.out.drewN k).setRd 3 (.int .i64 1) {m with sign:=1} rfl rfl rfl).setRd 3 (.int .i64 (-1)) {m with sign:= -1} rfl rfl rfl).setRd 0 (.int .u8 101) _ rfl rfl rfl)
 have v:(c==45)=false:=by simpa using f
 by_cases l:c=60
 .subst l;have b:Hid (AF m 60=some {m with state:=60}):=by show AF m 60=_;unfold AF;rw[n.out,a_ (by decide),a_ (by decide),bA rfl,a_ (by decide),a_ (by decide),bA rfl]
  clear d t f v;have j:Hid (AZ _ _ _ _ _ _ _ _ _):=h;have s:Hid (Ok m):=ok;clear h ok;go_enter func94,ntmps94;go_wp2_with (first|(go_at_call 126;refine hc.mono ?_;rintro e w' ⟨rfl,k,rfl⟩)|(go_at_call 123;refine(AN _ _ (by omega) (by omega) (by omega)).mono ?_;rintro e w' ⟨rfl,rfl⟩));go_ret;exact Aq b.out (bH (bD (bC _ _) _) geR _) ((j.out.drewN k).setRd 0 (.int .u8 60) _ rfl rfl rfl)
 have aa:(c==60)=false:=by simpa using l
 have b:Hid (AF m c=none):=by show AF m c=_;unfold AF;rw[n.out,a_ (by decide),a_ (by decide),bA rfl,a_ d,a_ f,a_ l]
 clear d f l;have j:Hid (AZ _ _ _ _ _ _ _ _ _):=h;have s:Hid (Ok m):=ok;clear h ok;by_cases o:97<=c/\c<=100
 .obtain⟨g,i⟩:=o;go_enter func94,ntmps94;go_wp2_with (first|(go_at_call 126;refine hc.mono ?_;rintro e w' ⟨rfl,k,rfl⟩)|(go_at_call 123;refine(As c _ g i).mono ?_;rintro e w' ⟨rfl,rfl⟩));go_ret;exact Av b.out (bD (bC _ _) _)
 .go_enter func94,ntmps94;go_wp2_with (first|(go_at_call 126;refine hc.mono ?_;rintro e w' ⟨rfl,k,rfl⟩)|(go_at_call 123;refine(AN _ _ (by omega) (by omega) (by omega)).mono ?_;rintro e w' ⟨rfl,rfl⟩));go_ret;exact Av b.out (bD (bC _ _) _)
theorem AZ.condE(h:AZ B w r m vs vo P Q O)(ok:Ok m)(hn:0<m.st.length)(_hB:B<=w.heap.size)(c:Int)(N:0<=c)(h1:c<=255)(hx:m.state=101):
  Calls prog 94 #[.pointer (some ⟨r,0,none⟩),.int .u8 c] w (D2 B w r (AF m c)):=by
 have hc:=h.now hn ok.len;have a:=AZ.curs hn;obtain⟨c0,c1,c2,c3,c4,c5,K,L,M,x,p,q⟩:=h.stc _ _ a;obtain⟨F,r1,T,U,V,W,X⟩:=h.rdc;have geR:=h.geR;obtain⟨geP,u⟩:=h.geC hn;obtain⟨G,H⟩:=ok.sgn;obtain⟨D,E⟩:=ok.nums (cur m) (bR a);have J:Hid (_=_):=a;clear a;rw[hx]at F;have n:Hid (_=_):=hx;clear hx;have A:r≠P (m.st.length-1):=λe=>x e.symm;have C:r≠Q (m.st.length-1):=λe=>p e.symm;have z:P (m.st.length-1)≠Q (m.st.length-1):=λe=>q e.symm;by_cases o:97<=c/\c<=100
 .by_cases hz:(cur m).sg.getD (c-97).toNat 0=0
  .have b:Hid (AF m c=some (Bp m (c-97).toNat m.sign 102)):=by show AF m c=_;unfold AF;rw[n.out,a_ (by decide),a_ (by decide),a_ (by decide),bA rfl,bA o,bA hz]
   obtain⟨g,i⟩:=o;have I:=h.sgc ok hn (c-97).toNat (by omega);rw[hz]at I;have R:(0:Int)<=c-97:=by omega
   have S:c-97<4:=by omega
   clear hz;have j:Hid (AZ _ _ _ _ _ _ _ _ _):=h;have s:Hid (Ok m):=ok;clear h ok;go_enter func94,ntmps94;go_wp2_with (first|(go_at_call 126;refine hc.mono ?_;rintro e w' ⟨rfl,k,rfl⟩)|(go_at_call 123;refine(As c _ g i).mono ?_;rintro e w' ⟨rfl,rfl⟩));go_region;go_wp2;go_ret;exact Aq b.out (bH (bH (bD (bC _ _) _) u _) geR _) (KY j.out hn (c-97).toNat 102 (k+1))
  .have b:Hid (AF m c=none):=by show AF m c=_;unfold AF;rw[n.out,a_ (by decide),a_ (by decide),a_ (by decide),bA rfl,bA o,a_ hz]
   obtain⟨g,i⟩:=o;have I:=h.sgc ok hn (c-97).toNat (by omega);have R:(0:Int)<=c-97:=by omega
   have S:c-97<4:=by omega
   generalize(cur m).sg.getD (c-97).toNat 0=y at *;have bz:(y != 0)=true:=by simpa using hz
   clear hz;have j:Hid (AZ _ _ _ _ _ _ _ _ _):=h;have s:Hid (Ok m):=ok;clear h ok;go_enter func94,ntmps94;go_wp2_with (first|(go_at_call 126;refine hc.mono ?_;rintro e w' ⟨rfl,k,rfl⟩)|(go_at_call 123;refine(As c _ g i).mono ?_;rintro e w' ⟨rfl,rfl⟩));go_ret;exact Av b.out (bD (bC _ _) _)
 have b:Hid (AF m c=none):=by show AF m c=_;unfold AF;rw[n.out,a_ (by decide),a_ (by decide),a_ (by decide),bA rfl,a_ o]
 have j:Hid (AZ _ _ _ _ _ _ _ _ _):=h;have s:Hid (Ok m):=ok;clear h ok;go_enter func94,ntmps94;go_wp2_with (first|(go_at_call 126;refine hc.mono ?_;rintro e w' ⟨rfl,k,rfl⟩)|(go_at_call 123;refine(AN _ _ (by omega) (by omega) (by omega)).mono ?_;rintro e w' ⟨rfl,rfl⟩));go_ret;exact Av b.out (bD (bC _ _) _)
theorem AZ.condF(h:AZ B w r m vs vo P Q O)(ok:Ok m)(hn:0<m.st.length)(_hB:B<=w.heap.size)(c:Int)(t:0<=c)(h1:c<=255)(hx:m.state=102):
  Calls prog 94 #[.pointer (some ⟨r,0,none⟩),.int .u8 c] w (D2 B w r (AF m c)):=by
 have hc:=h.now hn ok.len;have a:=AZ.curs hn;obtain⟨c0,c1,c2,c3,c4,c5,H,I,J,v,i,j⟩:=h.stc _ _ a;obtain⟨D,r1,K,L,M,N,R⟩:=h.rdc;have geR:=h.geR;obtain⟨geP,s⟩:=h.geC hn;obtain⟨E,F⟩:=ok.sgn;obtain⟨A,C⟩:=ok.nums (cur m) (bR a);have G:Hid (_=_):=a;clear a;rw[hx]at D;have n:Hid (_=_):=hx;clear hx;have y:r≠P (m.st.length-1):=λe=>v e.symm;have z:r≠Q (m.st.length-1):=λe=>i e.symm;have x:P (m.st.length-1)≠Q (m.st.length-1):=λe=>j e.symm;by_cases p:c=60
 .subst p;have b:Hid (AF m 60=some {m with state:=60}):=by show AF m 60=_;unfold AF;rw[n.out,a_ (by decide),a_ (by decide),a_ (by decide),a_ (by decide),bA rfl,bA rfl]
  have d:Hid (AZ _ _ _ _ _ _ _ _ _):=h;have l:Hid (Ok m):=ok;clear h ok;go_enter func94,ntmps94;go_wp2_with (first|(go_at_call 126;refine hc.mono ?_;rintro e w' ⟨rfl,k,rfl⟩)|(go_at_call 123;refine(AN _ _ (by omega) (by omega) (by omega)).mono ?_;rintro e w' ⟨rfl,rfl⟩));go_ret;exact Aq b.out (bH (bD (bC _ _) _) geR _) ((d.out.drewN k).setRd 0 (.int .u8 60) _ rfl rfl rfl)
 have ab:(c==60)=false:=by simpa using p
 have b:Hid (AF m c=none):=by show AF m c=_;unfold AF;rw[n.out,a_ (by decide),a_ (by decide),a_ (by decide),a_ (by decide),bA rfl,a_ p]
 clear p;have d:Hid (AZ _ _ _ _ _ _ _ _ _):=h;have l:Hid (Ok m):=ok;clear h ok;by_cases u:97<=c/\c<=100
 .obtain⟨f,g⟩:=u;go_enter func94,ntmps94;go_wp2_with (first|(go_at_call 126;refine hc.mono ?_;rintro e w' ⟨rfl,k,rfl⟩)|(go_at_call 123;refine(As c _ f g).mono ?_;rintro e w' ⟨rfl,rfl⟩));go_ret;exact Av b.out (bD (bC _ _) _)
 .go_enter func94,ntmps94;go_wp2_with (first|(go_at_call 126;refine hc.mono ?_;rintro e w' ⟨rfl,k,rfl⟩)|(go_at_call 123;refine(AN _ _ (by omega) (by omega) (by omega)).mono ?_;rintro e w' ⟨rfl,rfl⟩));go_ret;exact Av b.out (bD (bC _ _) _)
theorem AZ.condL(h:AZ B w r m vs vo P Q O)(ok:Ok m)(hn:0<m.st.length)(_hB:B<=w.heap.size)(c:Int)(t:0<=c)(h1:c<=255)(hx:m.state=60):
  Calls prog 94 #[.pointer (some ⟨r,0,none⟩),.int .u8 c] w (D2 B w r (AF m c)):=by
 have hc:=h.now hn ok.len;have a:=AZ.curs hn;obtain⟨c0,c1,c2,c3,c4,c5,H,I,J,v,i,j⟩:=h.stc _ _ a;obtain⟨D,r1,K,L,M,N,R⟩:=h.rdc;have geR:=h.geR;obtain⟨geP,s⟩:=h.geC hn;obtain⟨E,F⟩:=ok.sgn;obtain⟨A,C⟩:=ok.nums (cur m) (bR a);have G:Hid (_=_):=a;clear a;rw[hx]at D;have n:Hid (_=_):=hx;clear hx;have y:r≠P (m.st.length-1):=λe=>v e.symm;have z:r≠Q (m.st.length-1):=λe=>i e.symm;have x:P (m.st.length-1)≠Q (m.st.length-1):=λe=>j e.symm;by_cases q:c=61
 .subst q;have b:Hid (AF m 61=some {m with neg:=false,state:=98}):=by show AF m 61=_;unfold AF;rw[n.out,a_ (by decide),a_ (by decide),a_ (by decide),a_ (by decide),a_ (by decide),bA rfl,bA rfl]
  have d:Hid (AZ _ _ _ _ _ _ _ _ _):=h;have l:Hid (Ok m):=ok;clear h ok;go_enter func94,ntmps94;go_wp2_with (first|(go_at_call 126;refine hc.mono ?_;rintro e w' ⟨rfl,k,rfl⟩)|(go_at_call 123;refine(AN _ _ (by omega) (by omega) (by omega)).mono ?_;rintro e w' ⟨rfl,rfl⟩));go_ret;exact Aq b.out (bH (bH (bD (bC _ _) _) geR _) geR _) (((d.out.drewN k).setRd 4 (.bool false) {m with neg:=false} rfl rfl rfl).setRd 0 (.int .u8 98) _ rfl rfl rfl)
 have ac:(c==61)=false:=by simpa using q
 have b:Hid (AF m c=none):=by show AF m c=_;unfold AF;rw[n.out,a_ (by decide),a_ (by decide),a_ (by decide),a_ (by decide),a_ (by decide),bA rfl,a_ q]
 clear q;have d:Hid (AZ _ _ _ _ _ _ _ _ _):=h;have l:Hid (Ok m):=ok;clear h ok;by_cases u:97<=c/\c<=100
 .obtain⟨f,g⟩:=u;go_enter func94,ntmps94;go_wp2_with (first|(go_at_call 126;refine hc.mono ?_;rintro e w' ⟨rfl,k,rfl⟩)|(go_at_call 123;refine(As c _ f g).mono ?_;rintro e w' ⟨rfl,rfl⟩));go_ret;exact Av b.out (bD (bC _ _) _)
 .go_enter func94,ntmps94;go_wp2_with (first|(go_at_call 126;refine hc.mono ?_;rintro e w' ⟨rfl,k,rfl⟩)|(go_at_call 123;refine(AN _ _ (by omega) (by omega) (by omega)).mono ?_;rintro e w' ⟨rfl,rfl⟩));go_ret;exact Av b.out (bD (bC _ _) _)
theorem AZ.condB(h:AZ B w r m vs vo P Q O)(ok:Ok m)(hn:0<m.st.length)(_hB:B<=w.heap.size)(c:Int)(t:0<=c)(h1:c<=255)(hx:m.state=98):
  Calls prog 94 #[.pointer (some ⟨r,0,none⟩),.int .u8 c] w (D2 B w r (AF m c)):=by
 have hc:=h.now hn ok.len;have a:=AZ.curs hn;obtain⟨c0,c1,c2,c3,c4,c5,H,I,J,v,i,j⟩:=h.stc _ _ a;obtain⟨D,r1,K,L,M,N,R⟩:=h.rdc;have geR:=h.geR;obtain⟨geP,s⟩:=h.geC hn;obtain⟨E,F⟩:=ok.sgn;obtain⟨A,C⟩:=ok.nums (cur m) (bR a);have G:Hid (_=_):=a;clear a;rw[hx]at D;have n:Hid (_=_):=hx;clear hx;have y:r≠P (m.st.length-1):=λe=>v e.symm;have z:r≠Q (m.st.length-1):=λe=>i e.symm;have x:P (m.st.length-1)≠Q (m.st.length-1):=λe=>j e.symm;by_cases o:c=45
 .subst o;have b:Hid (AF m 45=some {m with neg:=true,state:=66}):=by show AF m 45=_;unfold AF;rw[n.out,a_ (by decide),a_ (by decide),a_ (by decide),a_ (by decide),a_ (by decide),a_ (by decide),bA rfl,bA rfl]
  have d:Hid (AZ _ _ _ _ _ _ _ _ _):=h;have l:Hid (Ok m):=ok;clear h ok;go_enter func94,ntmps94;go_wp2_with (first|(go_at_call 126;refine hc.mono ?_;rintro e w' ⟨rfl,k,rfl⟩)|(go_at_call 123;refine(AN _ _ (by omega) (by omega) (by omega)).mono ?_;rintro e w' ⟨rfl,rfl⟩));go_ret;exact Aq b.out (bH (bH (bD (bC _ _) _) geR _) geR _) (((d.out.drewN k).setRd 4 (.bool true) {m with neg:=true} rfl rfl rfl).setRd 0 (.int .u8 66) _ rfl rfl rfl)
 have aa:(c==45)=false:=by simpa using o
 have b:Hid (AF m c=AT m c false 109):=by show AF m c=_;unfold AF;rw[n.out,a_ (by decide),a_ (by decide),a_ (by decide),a_ (by decide),a_ (by decide),a_ (by decide),bA rfl,a_ o]
 clear o;by_cases u:97<=c/\c<=100
 .obtain⟨f,g⟩:=u;have d:Hid (AZ _ _ _ _ _ _ _ _ _):=h;have l:Hid (Ok m):=ok;clear h ok;go_enter func94,ntmps94;go_wp2_with (first|(go_at_call 126;refine hc.mono ?_;rintro e w' ⟨rfl,k,rfl⟩)|(go_at_call 123;refine(As c _ f g).mono ?_;rintro e w' ⟨rfl,rfl⟩));refine((d.out.drewN k).digit l.out hn c false t h1 109).mono ?_;rintro e w' ⟨rfl,hb,hr⟩;go_wp2;go_ret;exact Bg b.out (bD (bC _ _) _) hb hr
 .have d:Hid (AZ _ _ _ _ _ _ _ _ _):=h;have l:Hid (Ok m):=ok;clear h ok;go_enter func94,ntmps94;go_wp2_with (first|(go_at_call 126;refine hc.mono ?_;rintro e w' ⟨rfl,k,rfl⟩)|(go_at_call 123;refine(AN _ _ (by omega) (by omega) (by omega)).mono ?_;rintro e w' ⟨rfl,rfl⟩));refine((d.out.drewN k).digit l.out hn c false t h1 109).mono ?_;rintro e w' ⟨rfl,hb,hr⟩;go_wp2;go_ret;exact Bg b.out (bD (bC _ _) _) hb hr
theorem AZ.condBB(h:AZ B w r m vs vo P Q O)(ok:Ok m)(hn:0<m.st.length)(_hB:B<=w.heap.size)(c:Int)(t:0<=c)(h1:c<=255)(hx:m.state=66):
  Calls prog 94 #[.pointer (some ⟨r,0,none⟩),.int .u8 c] w (D2 B w r (AF m c)):=by
 have hc:=h.now hn ok.len;have a:=AZ.curs hn;obtain⟨c0,c1,c2,c3,c4,c5,H,I,J,v,i,j⟩:=h.stc _ _ a;obtain⟨D,r1,K,L,M,N,R⟩:=h.rdc;have geR:=h.geR;obtain⟨geP,s⟩:=h.geC hn;obtain⟨E,F⟩:=ok.sgn;obtain⟨A,C⟩:=ok.nums (cur m) (bR a);have G:Hid (_=_):=a;clear a;rw[hx]at D;have n:Hid (_=_):=hx;clear hx;have y:r≠P (m.st.length-1):=λe=>v e.symm;have z:r≠Q (m.st.length-1):=λe=>i e.symm;have x:P (m.st.length-1)≠Q (m.st.length-1):=λe=>j e.symm;have b:Hid (AF m c=AT m c true 109):=by show AF m c=_;unfold AF;rw[n.out,a_ (by decide),a_ (by decide),a_ (by decide),a_ (by decide),a_ (by decide),a_ (by decide),a_ (by decide),bA rfl]
 by_cases u:97<=c/\c<=100
 .obtain⟨f,g⟩:=u;have d:Hid (AZ _ _ _ _ _ _ _ _ _):=h;have l:Hid (Ok m):=ok;clear h ok;go_enter func94,ntmps94;go_wp2_with (first|(go_at_call 126;refine hc.mono ?_;rintro e w' ⟨rfl,k,rfl⟩)|(go_at_call 123;refine(As c _ f g).mono ?_;rintro e w' ⟨rfl,rfl⟩));refine((d.out.drewN k).digit l.out hn c true t h1 109).mono ?_;rintro e w' ⟨rfl,hb,hr⟩;go_wp2;go_ret;exact Bg b.out (bD (bC _ _) _) hb hr
 .have d:Hid (AZ _ _ _ _ _ _ _ _ _):=h;have l:Hid (Ok m):=ok;clear h ok;go_enter func94,ntmps94;go_wp2_with (first|(go_at_call 126;refine hc.mono ?_;rintro e w' ⟨rfl,k,rfl⟩)|(go_at_call 123;refine(AN _ _ (by omega) (by omega) (by omega)).mono ?_;rintro e w' ⟨rfl,rfl⟩));refine((d.out.drewN k).digit l.out hn c true t h1 109).mono ?_;rintro e w' ⟨rfl,hb,hr⟩;go_wp2;go_ret;exact Bg b.out (bD (bC _ _) _) hb hr
theorem JT{P:Program}{Z:Array Oper}{o:Oper}{a:Act}{w:World}{K:Act->World->Prop}{Q:Exit->Act->World->Prop}{E:Prop}
  (J:o.guard=none) (s x:Operand) (t:TypeId) (hop:o.op=Op.call {callee:=Callee.builtin Builtin.append,args:=#[s,x],argTypes:=#[t,t]})
  (base:Nat) (e:TypeId) (i:TypeInfo) (z:Value) (size bytes:Nat) (h1:P.underlying t=some (.slice e)) (h2:P.info? e=some i) (h3:i.zero=some z) (h4:i.size=size) (h5:i.bytes=bytes) (h6:z.cells.size=size) (h7:0<size)
  (v:Value) (n:Nat) (xs:List Value) (hs:a.eval s=v) (hown:w.ownsRow base e size v n xs)
  (ad:Addr) (m c:Nat) (news:List Value) (hx:a.eval x=.slice (some ad) m c) (hn:news.length=m*size) (hc:∀j u,news[j]?=some u->w.cell? (ad.add j)=some u) (h1c:∀u∈news,u.oneCell'=true)
  (b1:n+m<=maxLen) (b2:(n+m)*bytes<=140737488355328) (hbase:base<=w.heap.size)
  (hK:∀C w',w'.ownsRow base e size C (n+m) (xs++news)->w.grownBy w' v.ownBlock->K (a.put o.dst C) w'):
  if Region.wanted o (yielded Z a.tmps)=true then Oper.wp P o a w K Q else E:=by
 have hw:Region.wanted o (yielded Z a.tmps)=true:=by simp[Region.wanted,J]
 rw[bA hw];exact wp_append_own w s x t hop base e i z size bytes h1 h2 h3 h4 h5 h6 h7 v n xs hs hown ad m c news hx hn hc h1c b1 b2 hbase λC w' h2 h3 _=>hK C w' h2 h3
def Kh(f:Nat->Nat)(n x:Nat):Nat->Nat:=λi=>if i=n then x else f i
theorem DM(f:Nat->Nat)(n x:Nat):Kh f n x n=x:=by simp[Kh]
theorem CC(f:Nat->Nat){n x i:Nat}(h:i<n):Kh f n x i=f i:=by unfold Kh;rw[a_ (by omega)]
theorem Qm(f:Nat->Nat)(n x:Nat):(List.range (n+1)).map (λi=>PR (Kh f n x i))=(List.range n).map (λi=>PR (f i))++[PR x]:=by
 rw[List.range_succ,List.map_append]
 congr 1
 .apply cW;intro i hi;rw[CC f (by simpa using hi)]
 .simp[DM]
theorem AZ.lts(h:AZ B w r m vs vo P Q O):r<w.heap.size/\(∀i,i<m.st.length->P i<w.heap.size/\Q i<w.heap.size)/\(∀i,i<m.op.length->O i<w.heap.size):=by
 refine⟨h.rd.lt,λi hi=>?_,λi hi=>?_⟩
 .obtain⟨a,b⟩:=h.st i _ (bP hi);exact⟨a.lt,b.lt⟩
 .exact(h.op i _ (bP hi)).lt
theorem AZ.pushOp(h:AZ B w r m vs vo P Q O)(b:Bk)(C:Value)(I G:World)(ac:w.heap.size<I.heap.size)(R:∀k,k<w.heap.size->I.heap[k]?=w.heap[k]?)
  (hnew:At I w.heap.size (IF b) tB) (J:I.grownBy G vo.ownBlock) (hown:G.ownsRow B XA 1 C (m.op.length+1) (((List.range m.op.length).map λi=>PR (O i))++[PR w.heap.size])) (hB:B<=w.heap.size):
  AZ B (G.setCell ⟨r,2,none⟩ C) r {m with op:=m.op++[b]} vs C P Q (Kh O m.op.length w.heap.size):=by
 obtain⟨lr,V,lo⟩:=h.lts;have same:∀k,k<w.heap.size->vo.ownBlock≠some k->G.heap[k]?=w.heap[k]?:=λk hk hn=>(J.block k (by omega) (λe=>hn e.symm)).trans (R k hk);have y:∀{k c t},At w k c t->XA≠t->At G k c t:=λ{k c t} N hn=>N.same (same k N.lt (Cq h.ro N hn));have D:=y h.rd (by decide)
 have W:At G w.heap.size (IF b) tB:=hnew.same (J.block _ ac (by
  intro e;obtain⟨_,h2⟩:=h.ro.lt _ e.symm
  omega))
 exact{
  rd:=D.put 2 C
  rs:=by
   refine BY ?_ D (by decide) 2 C;refine Ed h.rs λg A=>same g (h.rs.lt g A).2 ?_;obtain⟨h1,h2⟩:=h.rs;rcases h2 with⟨e,_⟩|⟨g',cap,c,e,_,U,_⟩
   .subst e;simp[Value.ownBlock]at A
   .subst e;simp[Value.ownBlock]at A;subst A;exact Cq h.ro (show At w g' c XB from U) (by decide)
  ro:=by
   simp only[cn,cZ];rw[Qm];exact BY hown D (by decide) 2 C
  st:=by
   intro i s hi;obtain⟨a,b⟩:=h.st i s hi;exact⟨(y a (by decide)).other _ _ (a.ne h.rd (by decide)),(y b (by decide)).other _ _ (b.ne h.rd (by decide))⟩
  op:=by
   intro i x hi;by_cases e:i=m.op.length
   .subst e;rw[DM];simp at hi;subst hi;exact W.other _ _ (by omega)
   .have H:i<m.op.length:=by
     have:i<(m.op++[b]).length:=by
      rcases bW i (m.op++[b]).length with M|M
      .exact M
      .simp[bO M]at hi
     simp at this;omega
    rw[CC O H];rw[bU H]at hi;have a:=h.op i x hi;exact(y a (by decide)).other _ _ (a.ne h.rd (by decide))
  injP:=h.injP
  injQ:=h.injQ
  injO:=by
   intro i j hi S;simp only[cn,cZ]at hi S;by_cases L:i=m.op.length<;>by_cases T:j=m.op.length
   .intro _;omega
   .have l:j<m.op.length:=by omega
    subst L;rw[DM,CC O l];intro e;have:=lo j l;omega
   .have d:i<m.op.length:=by omega
    subst T;rw[DM,CC O d];intro e;have:=lo i d;omega
   .have d:i<m.op.length:=by omega
    have l:j<m.op.length:=by omega
    rw[CC O d,CC O l];exact h.injO i j d l
  geR:=h.geR
  geP:=h.geP
  geO:=by
   intro i hi;simp only[cn,cZ]at hi;by_cases L:i=m.op.length
   .subst L;rw[DM];exact hB
   .have d:i<m.op.length:=by omega
    rw[CC O d];exact h.geO i d}
theorem AZ.pushSt(h:AZ B w r m vs vo P Q O)(s:St)(C:Value)(p q:Nat)(I G:World)(hq:w.heap.size<=q)(hp:w.heap.size<=p)(ab:q<I.heap.size)(aa:p<I.heap.size)(R:∀k,k<w.heap.size->I.heap[k]?=w.heap[k]?)
  (hnp:At I p (F5 q s) tS) (hnq:At I q (FJ s.sg) tI) (J:I.grownBy G vs.ownBlock) (hown:G.ownsRow B XB 1 C (m.st.length+1) (((List.range m.st.length).map λi=>PR (P i))++[PR p])) (hB:B<=w.heap.size):
  AZ B (G.setCell ⟨r,1,none⟩ C) r {m with st:=m.st++[s]} C vo (Kh P m.st.length p) (Kh Q m.st.length q) O:=by
 obtain⟨lr,V,lo⟩:=h.lts;have same:∀k,k<w.heap.size->vs.ownBlock≠some k->G.heap[k]?=w.heap[k]?:=λk hk hn=>(J.block k (by omega) (λe=>hn e.symm)).trans (R k hk);have y:∀{k c t},At w k c t->XB≠t->At G k c t:=λ{k c t} N hn=>N.same (same k N.lt (Cq h.rs N hn));have D:=y h.rd (by decide);have F:∀k,w.heap.size<=k->some k≠vs.ownBlock:=λk hk e=>by
  obtain⟨_,h2⟩:=h.rs.lt _ e.symm;omega
 have X:At G p (F5 q s) tS:=hnp.same (J.block _ aa (F p hp));have Y:At G q (FJ s.sg) tI:=hnq.same (J.block _ ab (F q hq))
 exact{
  rd:=D.put 1 C
  ro:=by
   refine BY ?_ D (by decide) 1 C;refine Ed h.ro λg A=>same g (h.ro.lt g A).2 ?_;obtain⟨h1,h2⟩:=h.ro;rcases h2 with⟨e,_⟩|⟨g',cap,c,e,_,U,_⟩
   .subst e;simp[Value.ownBlock]at A
   .subst e;simp[Value.ownBlock]at A;subst A;exact Cq h.rs (show At w g' c XA from U) (by decide)
  rs:=by
   simp only[cn,cZ];rw[Qm];exact BY hown D (by decide) 1 C
  op:=by
   intro i b hi;have a:=h.op i b hi;exact(y a (by decide)).other _ _ (a.ne h.rd (by decide))
  st:=by
   intro i x hi;by_cases e:i=m.st.length
   .subst e;rw[DM,DM];simp at hi;subst hi;exact⟨X.other _ _ (by omega),Y.other _ _ (by omega)⟩
   .have H:i<m.st.length:=by
     have:i<(m.st++[s]).length:=by
      rcases bW i (m.st++[s]).length with M|M
      .exact M
      .simp[bO M]at hi
     simp at this;omega
    rw[CC P H,CC Q H];rw[bU H]at hi;obtain⟨a,b⟩:=h.st i x hi;exact⟨(y a (by decide)).other _ _ (a.ne h.rd (by decide)),(y b (by decide)).other _ _ (b.ne h.rd (by decide))⟩
  injP:=by
   intro i j hi S;simp only[cn,cZ]at hi S;by_cases L:i=m.st.length<;>by_cases T:j=m.st.length
   .intro _;omega
   .have l:j<m.st.length:=by omega
    subst L;rw[DM,CC P l];intro e;have:=(V j l).1;omega
   .have d:i<m.st.length:=by omega
    subst T;rw[DM,CC P d];intro e;have:=(V i d).1;omega
   .have d:i<m.st.length:=by omega
    have l:j<m.st.length:=by omega
    rw[CC P d,CC P l];exact h.injP i j d l
  injQ:=by
   intro i j hi S;simp only[cn,cZ]at hi S;by_cases L:i=m.st.length<;>by_cases T:j=m.st.length
   .intro _;omega
   .have l:j<m.st.length:=by omega
    subst L;rw[DM,CC Q l];intro e;have:=(V j l).2;omega
   .have d:i<m.st.length:=by omega
    subst T;rw[DM,CC Q d];intro e;have:=(V i d).2;omega
   .have d:i<m.st.length:=by omega
    have l:j<m.st.length:=by omega
    rw[CC Q d,CC Q l];exact h.injQ i j d l
  injO:=h.injO
  geR:=h.geR
  geO:=h.geO
  geP:=by
   intro i hi;simp only[cn,cZ]at hi;by_cases L:i=m.st.length
   .subst L;rw[DM,DM];exact⟨by omega,by omega⟩
   .have d:i<m.st.length:=by omega
    rw[CC P d,CC Q d];exact h.geP i d}
theorem AZ.popOp{g n cap:Nat}(h:AZ B w r m vs (.slice (some ⟨g,0,none⟩) n cap) P Q O)(hn:0<m.op.length)(ae:n=m.op.length):
  AZ B (w.setCell ⟨r,2,none⟩ (.slice (some ⟨g,0,none⟩) (n-1) cap)) r {m with op:=m.op.take (m.op.length-1)} vs (.slice (some ⟨g,0,none⟩) (n-1) cap) P Q O:=by
 have hl:(m.op.take (m.op.length-1)).length=m.op.length-1:=by simp
 exact{
  rd:=h.rd.put 2 _
  rs:=BY h.rs h.rd (by decide) 2 _
  ro:=by
   rw[hl];refine BY ?_ h.rd (by decide) 2 _;obtain⟨h1,h2⟩:=h.ro;rcases h2 with⟨e,_⟩|⟨g',af,c,e,J,U,hc,hm,hs,ht⟩
   .simp at e
   .simp at e;obtain⟨rfl,_,rfl⟩:=e;refine⟨by simp,.inr ⟨g,cap,c,by rw[ae],J,U,by omega,hm,hs,?_⟩⟩;have e2:(c.toList.take (m.op.length*1)).take ((m.op.length-1)*1)=c.toList.take ((m.op.length-1)*1):=by rw[List.take_take];congr 1;omega
    rw[<-e2,ht,<-List.map_take,List.take_range]
    congr 2;omega
  st:=by
   intro i s hi;obtain⟨a,b⟩:=h.st i s hi;exact⟨a.other _ _ (a.ne h.rd (by decide)),b.other _ _ (b.ne h.rd (by decide))⟩
  op:=by
   intro i b hi;have d:m.op[i]?=some b:=by
    rw[List.getElem?_take]at hi;split at hi
    .exact hi
    .cases hi
   have a:=h.op i b d;exact a.other _ _ (a.ne h.rd (by decide))
  injP:=h.injP
  injQ:=h.injQ
  injO:=by rw[hl];intro i j hi S;exact h.injO i j (by omega) (by omega)
  geR:=h.geR
  geP:=h.geP
  geO:=by rw[hl];intro i hi;exact h.geO i (by omega)}
theorem Tryz.infoPS:(Tryz.prog.info? XB).map (λi=>(i.zero,i.size,i.bytes))=some (some (.pointer none),1,8):=by kernel_rfl
theorem Tryz.infoPB:(Tryz.prog.info? XA).map (λi=>(i.zero,i.size,i.bytes))=some (some (.pointer none),1,8):=by kernel_rfl
theorem AZ.slen(h:AZ B w r m vs vo P Q O):∃s cap,vs=.slice s m.st.length cap:=by
 obtain⟨_,h2⟩:=h.rs;rcases h2 with⟨rfl,e⟩|⟨g,cap,c,rfl,_⟩
 .exact⟨none,0,by rw[e]⟩
 .exact⟨_,cap,rfl⟩
theorem AZ.olen(h:AZ B w r m vs vo P Q O):∃s cap,vo=.slice s m.op.length cap:=by
 obtain⟨_,h2⟩:=h.ro;rcases h2 with⟨rfl,e⟩|⟨g,cap,c,rfl,_⟩
 .exact⟨none,0,by rw[e]⟩
 .exact⟨_,cap,rfl⟩
def IE(w:World)(kd v:Int)(n:Nat):World:=
 (((w.alloc (.cells #[.int .i64 0,.int .i64 0,.int .i64 0,.int .i64 0] tI)).alloc (.cells #[.int .u8 kd,.int .i64 v,.bool false,.slice (some ⟨w.heap.size,0,none⟩) 4 4,.int .i64 0,.int .i64 0,.int .i64 ((n:Int)+1)] tS)).alloc (.cells #[.pointer (some ⟨w.heap.size+1,0,none⟩)] XB)).drew
theorem LN(w:World)(kd v:Int)(n:Nat)(k:Nat)(hk:k<w.heap.size):(IE w kd v n).heap[k]?=w.heap[k]?:=by
 show((((w.heap.push _).push _).push _))[k]?=_;rw[cB,a_ (by simp;omega),cB,a_ (by simp;omega),cB,a_ (by omega)]
theorem Fl(w:World)(kd v:Int)(n:Nat):(IE w kd v n).heap.size=w.heap.size+3:=by
 show((((w.heap.push _).push _).push _)).size=_;simp
theorem VU(w:World)(kd v:Int)(n:Nat):At (IE w kd v n) w.heap.size #[.int .i64 0,.int .i64 0,.int .i64 0,.int .i64 0] tI:=by
 show((((w.heap.push _).push _).push _))[w.heap.size]?=_;rw[cB,a_ (by simp;omega),cB,a_ (by simp),cB,bA rfl]
theorem VT(w:World)(kd v:Int)(n:Nat):At (IE w kd v n) (w.heap.size+1) #[.int .u8 kd,.int .i64 v,.bool false,.slice (some ⟨w.heap.size,0,none⟩) 4 4,.int .i64 0,.int .i64 0,.int .i64 ((n:Int)+1)] tS:=by
 show((((w.heap.push _).push _).push _))[w.heap.size+1]?=_;rw[cB,a_ (by simp),cB,bA (by simp)]
theorem Ol{kd v:Int}{n:Nat}{o:World}(h:AZ B w r m vs vo P Q O)(q:(IE w kd v n).grownBy o vs.ownBlock):o.heap[r]?=w.heap[r]?:=
 (q.block r (by rw[Fl];have:=h.rd.lt;omega) (λe=>Cq h.rs h.rd (by decide) e.symm)).trans (LN w kd v n r h.rd.lt)
theorem NN{kd v:Int}{n:Nat}{o:World}{u:Value}(h:AZ B w r m vs vo P Q O)(q:(IE w kd v n).grownBy o vs.ownBlock)(p:B<=w.heap.size):Below B w (o.setCell ⟨r,1,none⟩ u):=by
 refine bH ?_ h.geR _;have hb:Below B w (IE w kd v n):=(((((bC B w).alloc p _).alloc (by simp;omega) _).alloc (by simp;omega) _)).drew;exact hb.grown q (by rw[Fl];omega) (λk e=>(h.rs.lt k e).1)
theorem RK(h:AZ B w r m vs vo P Q O)(kd v:Int){o:World}{u:Value}(q:(IE w kd v m.st.length).grownBy o vs.ownBlock)
  (l:o.ownsRow B XB 1 u (m.st.length+1) (((List.range m.st.length).map λi=>PR (P i))++[.pointer (some ⟨w.heap.size+1,0,none⟩)])) (p:B<=w.heap.size):
  AZ B (o.setCell ⟨r,1,none⟩ u) r {m with st:=m.st++[⟨kd,v,false,[0,0,0,0],0,0,m.st.length+1⟩]} u vo (Kh P m.st.length (w.heap.size+1)) (Kh Q m.st.length w.heap.size) O:=
 h.pushSt ⟨kd,v,false,[0,0,0,0],0,0,m.st.length+1⟩ u (w.heap.size+1) w.heap.size (IE w kd v m.st.length) o (by omega) (by omega) (by rw[Fl];omega) (by rw[Fl];omega) (LN w kd v _)
  (VT w kd v _) (VU w kd v _) q l p
theorem AZ.begin_(h:AZ B w r m vs vo P Q O)(hl:m.st.length<20)(kd v:Int)(p:B<=w.heap.size):
  Calls prog 124 #[.pointer (some ⟨r,0,none⟩),.int .u8 kd,.int .i64 v] w λe w'=>e=.returned (.bool true)/\Below B w w'/\
   ∃D I J,AZ B w' r {m with st:=m.st++[⟨kd,v,false,[0,0,0,0],0,0,m.st.length+1⟩]} D vo I J O:=by
 obtain⟨s,cap,rfl⟩:=h.slen;obtain⟨r0,r1,r2,r3,r4,r5,rf⟩:=h.rdc;have geR:=h.geR;have ae:=h.rd.lt;have l:=h.rs;obtain⟨K,hi,z,A,C⟩:=c_ Tryz.infoPS;have ab:(((m.st.length:Nat):Int)==20)=false:=by simp;omega
 have af:∀w,(Instr.makeSlice 32 (.int .i64 4) (.int .i64 4)).run prog w=.ok (.slice (some ⟨w.heap.size,0,none⟩) 4 4) (w.alloc (.cells #[.int .i64 0,.int .i64 0,.int .i64 0,.int .i64 0] 3)):=λ_=>by kernel_rfl
 have x:Hid (AZ _ _ _ _ _ _ _ _ _):=h;have G:Hid (World.ownsRow _ _ _ _ _ _ _):=l;clear h l;go_enter func124,ntmps124;go_wp2;go_region;go_wp2_with (at_builtin;refine wpList_append_own _ rfl (.tmp 29) (.tmp 31) 50 rfl B XB K (.pointer none) 1 8 underlying50 hi z A C rfl (by decide) _ _ _ rfl ((((G.out.alloc _).alloc _).alloc _).drew) ⟨w.heap.size+1+1,0,none⟩ 1 1 [.pointer (some ⟨w.heap.size+1,0,none⟩)] rfl rfl ?c1 ?c2 ?c3 ?c4 ?c5 ?_);case c1=>
  intro j u t
  match j,t with
  |0,t=>
   simp at t;subst t;simp[Addr.add];rw[bL]
   .rfl
   .simp
 case c2=>intro u F;simp at F;subst F;rfl
 case c3=>unfold maxLen;omega
 case c4=>omega
 case c5=>simp;omega
 intro v' o d b _;obtain⟨g',aa,c',rfl,ad,y,ac⟩:=Fx d (by omega);have f:o.heap[r]?=w.heap[r]?:=Ol x.out b;have k1:∀i,o.cell? ⟨r,i,none⟩=w.cell? ⟨r,i,none⟩:=λi=>World.cell?_of_block (a:=⟨r,i,none⟩) f;have k2:∀i,o.frozen? ⟨r,i,none⟩=w.frozen? ⟨r,i,none⟩:=λi=>World.frozen?_of_block (a:=⟨r,i,none⟩) f;have H:Hid (World.ownsRow _ _ _ _ _ _ _):=d;have E:Hid (World.grownBy _ _ _):=b;clear d b f y;go_wp2;go_ret;refine⟨rfl,NN x.out E.out p,_,_,_,RK x.out kd v E.out H.out p⟩
theorem AZ.beginFull(h:AZ B w r m vs vo P Q O)(K:m.st.length=20)(kd v:Int):
  Calls prog 124 #[.pointer (some ⟨r,0,none⟩),.int .u8 kd,.int .i64 v] w λe w'=>e=.returned (.bool false)/\w'=w:=by
 obtain⟨ao,cap,y⟩:=h.slen;obtain⟨X,r1,Y,Z,r4,r5,rf⟩:=h.rdc;rw[y,K]at r1;clear h K y;go_enter func124,ntmps124;go_wp2;go_ret;exact⟨rfl,rfl⟩
theorem AZ.rowO(h:AZ B w r m vs vo P Q O)(hn:0<m.op.length):∃g cap,vo=.slice (some ⟨g,0,none⟩) m.op.length cap/\(∀i,i<m.op.length->w.cell? ⟨g,i,none⟩=some (PR (O i)))/\g≠r/\m.op.length<=cap/\(∀k s,m.st[k]?=some s->g≠P k/\g≠Q k)/\(∀k,k<m.op.length->g≠O k):=by
 obtain⟨g,cap,c,y,hg,E,hc⟩:=Fx h.ro hn;refine⟨g,cap,y,?_,E.ne h.rd (by decide),hc,λk s hk=>?_,λk hk=>?_⟩
 .intro i hi;have:=h.ro;rw[y]at this;rw[this.cellAt i (by omega)];simp[hi]
 .obtain⟨a,b⟩:=h.st k s hk;exact⟨E.ne a (by decide),E.ne b (by decide)⟩
 .exact E.ne (h.op k _ (bP hk)) (by decide)
theorem ZY(hn:0<m.op.length):m.op[m.op.length-1]?=some (top m):=by
 unfold top;rw[bG,bP (by omega)];rfl
theorem AZ.opc(h:AZ B w r m vs vo P Q O)(k:Nat)(b:Bk)(hk:m.op[k]?=some b):w.cell? ⟨O k,0,none⟩=some (.int .i64 b.of_)/\w.cell? ⟨O k,1,none⟩=some (.bool b.second)/\(∀i,w.frozen? ⟨O k,i,none⟩=false)/\O k≠r/\∀j s,m.st[j]?=some s->O k≠P j:=by
 have a:=h.op k b hk;exact⟨a.cell 0,a.cell 1,a.free,a.ne h.rd (by decide),λj s V=>a.ne (h.st j s V).1 (by decide)⟩
theorem Rv(h:AZ B w r m vs vo P Q O)(k:Nat)(s:St)(hk:m.st[k]?=some s)(f:k<m.st.length)(a b:Nat):
  AZ B (((((w.drewN a).setCell ⟨P k,6,none⟩ (.int .i64 m.st.length)).drewN b).setCell ⟨P k,5,none⟩ (.int .i64 m.st.length)).setCell ⟨r,0,none⟩ (.int .u8 125)) r
   {m with st:=m.st.set k {s with fin:=m.st.length,mid:=m.st.length},state:=125} vs vo P Q O:=by
 have e1:=((h.drewN a).setSt k s {s with fin:=m.st.length} hk 6 (.int .i64 m.st.length) _ rfl rfl rfl).drewN b;have L:({m with st:=m.st.set k {s with fin:=m.st.length}}:Rd).st[k]?=some {s with fin:=m.st.length}:=by simp[f]
 have e2:=e1.setSt k _ {s with fin:=m.st.length,mid:=m.st.length} L 5 (.int .i64 m.st.length) {m with st:=m.st.set k {s with fin:=m.st.length,mid:=m.st.length}} rfl rfl (by simp);exact e2.setRd 0 (.int .u8 125) _ rfl rfl rfl
theorem Lu{D cap:Nat}(h:AZ B w r m vs (.slice (some ⟨D,0,none⟩) m.op.length cap) P Q O)(k:Nat)(s:St)(hk:m.st[k]?=some s)(hn:0<m.op.length)(a b:Nat):
  AZ B ((((w.drewN a).setCell ⟨P k,6,none⟩ (.int .i64 m.st.length)).drewN b).setCell ⟨r,2,none⟩ (.slice (some ⟨D,0,none⟩) (m.op.length-1) cap)) r
   {m with st:=m.st.set k {s with fin:=m.st.length},op:=m.op.take (m.op.length-1)} vs (.slice (some ⟨D,0,none⟩) (m.op.length-1) cap) P Q O:=by
 have e1:=((h.drewN a).setSt k s {s with fin:=m.st.length} hk 6 (.int .i64 m.st.length) _ rfl rfl rfl).drewN b;exact e1.popOp hn rfl
theorem AZ.shut(h:AZ B w r m vs vo P Q O)(ok:Ok m)(hn:0<m.op.length):
  Calls prog 125 #[.pointer (some ⟨r,0,none⟩)] w (D2 B w r (Ba m)):=by
 have F:=ZY hn;have f:(top m).of_<m.st.length:=ok.ofs _ (bR F);have hs:m.st[(top m).of_]?=some (m.st.getD (top m).of_ AY):=by rw[bG,bP f];rfl
 obtain⟨g,cap,N,n,ak,ad,z⟩:=h.row (by omega);obtain⟨D,ac,M,l,ag,aa,o,R⟩:=h.rowO hn;obtain⟨o0,U,of,T,C⟩:=h.opc _ _ F;obtain⟨c0,c1,c2,c3,c4,c5,c6,f7,f8,W,ai,aj⟩:=h.stc _ _ hs;have S:=C _ _ hs;obtain⟨X,r1,Y,Z,r4,r5,rf⟩:=h.rdc;have geR:=h.geR;obtain⟨geP,ah⟩:=h.geP _ f;have I:=n _ f;have J:=l (m.op.length-1) (by omega);have A:=(z _ _ hs).1;have ab:=(o _ _ hs).1;unfold PR at I J;have K:=ok.len;have ho:=ok.oplen
 have u:Hid (Ba m=if(m.st.getD (top m).of_ AY).kind=63/\(top m).second=false then some {m with st:=m.st.set (top m).of_ {m.st.getD (top m).of_ AY with fin:=m.st.length,mid:=m.st.length},state:=125}
  else some {m with st:=m.st.set (top m).of_ {m.st.getD (top m).of_ AY with fin:=m.st.length},op:=m.op.take (m.op.length-1)}):=rfl
 generalize hb:top m=b at *;generalize hss:m.st.getD b.of_ AY=s at *;have HT:Hid (m.op[m.op.length-1]?=some b):=F;have G:Hid (m.st[b.of_]?=some s):=hs;subst N;subst M;have H:Hid (AZ _ _ _ _ _ _ _ _ _):=h;have OK:Hid (Ok m):=ok;clear h ok F hs n l hb hss z o R C;generalize hp:P b.of_=p at *;generalize O (m.op.length-1)=q at *;have an:r≠p:=λe=>W e.symm;have ap:r≠q:=λe=>T e.symm;have am:p≠q:=λe=>S e.symm;have al:p≠g:=λe=>A e.symm;have af:((b.of_:Nat):Int)<(m.st.length:Int):=by omega
 have ae:(0:Int)<=((b.of_:Nat):Int):=by omega
 have t:Hid (P b.of_=p):=hp;clear hp;by_cases hk:s.kind=63
 .rw[hk]at c0;cases d:b.second
  .rw[d]at U;have x:Hid (Ba m=some {m with st:=m.st.set b.of_ {s with fin:=m.st.length,mid:=m.st.length},state:=125}):=u.out.trans (bA ⟨hk,d⟩);clear hk d u;go_enter func125,ntmps125;go_wp2;go_quiet (fail);go_wp2;go_region;go_wp2;go_quiet (fail);go_wp2;go_region;go_wp2;go_ret;rw[<-t.out];exact Aq x.out (bH (bH (bD (bH (bD (bC _ _) _) (by rw[t.out];exact geP) _) _) (by rw[t.out];exact geP) _) geR _) (Rv H.out b.of_ s G.out f _ _)
  .rw[d]at U;have x:Hid (Ba m=some {m with st:=m.st.set b.of_ {s with fin:=m.st.length},op:=m.op.take (m.op.length-1)}):=u.out.trans (a_ (by rintro⟨_,e⟩;rw[d]at e;cases e));clear hk d u;go_enter func125,ntmps125;go_wp2;go_quiet (fail);go_wp2;go_region;go_wp2;go_quiet (fail);go_wp2;go_region;go_wp2;go_ret;rw[<-t.out];exact Aq x.out (bH (bD (bH (bD (bC _ _) _) (by rw[t.out];exact geP) _) _) geR _) (Lu H.out b.of_ s G.out hn _ _)
 .have bk:(s.kind==63)=false:=by simpa using hk
  have x:Hid (Ba m=some {m with st:=m.st.set b.of_ {s with fin:=m.st.length},op:=m.op.take (m.op.length-1)}):=u.out.trans (a_ (λe=>hk e.1));clear hk u;go_enter func125,ntmps125;go_wp2;go_quiet (fail);go_wp2;go_region;go_wp2;go_quiet (fail);go_wp2;go_region;go_wp2;go_ret;rw[<-t.out];exact Aq x.out (bH (bD (bH (bD (bC _ _) _) (by rw[t.out];exact geP) _) _) geR _) (Lu H.out b.of_ s G.out hn _ _)
end Go.Proofs.YtffajooegiempaaGreatDoor
