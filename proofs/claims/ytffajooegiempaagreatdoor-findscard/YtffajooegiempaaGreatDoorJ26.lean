import Derived.Test.YtffajooegiempaaGreatDoorJ25
import Derived.Deep.RegionHeld3
import Derived.Deep.MidRow
set_option maxRecDepth 100000
set_option maxHeartbeats 6400000
namespace Go.Proofs.YtffajooegiempaaGreatDoor
open Go.RowKit
variable {w:World}{s:ByteArray}
def ET(f:Nat->Bool):Nat->Bool
 |0=>true
 |n+1=>ET f n&&f n
theorem MA{f:Nat->Bool}{n i:Nat}(hi:i<n)(h:f i=false):ET f n=false:=by
 induction n with
 |zero=>cases hi
 |succ n ih=>
  show(ET f n&&f n)=false;rcases Nat.lt_or_ge i n with q|q
  ·rw[ih q];rfl
  ·rw[show n=i by omega,h,Bool.and_false]
def D0(F:List Ds)(L:List (Option (List Int)))(k way:Nat):Bool:=
 DY (CA (cE (BG L k)) (cM (BG L k)) (F.getD k (AC 0 0)) way) (cE (BG L (Ap F k way).1)) (CE (cE (BG L k)) (cM (BG L k)) (F.getD k (AC 0 0)) way) (cM (BG L (Ap F k way).1))
def EK(F:List Ds)(L:List (Option (List Int)))(k:Nat):Int:=
 if DF (cE (BG L k)) (cM (BG L k)) (F.getD k (AC 0 0))=false then 6 else if ET (D0 F L k) (Ae (F.getD k (AC 0 0)).kind).toNat then 0 else 7
theorem Fv(F:List Ds)(k:Nat)(hk:k<F.length)(way:Nat)(h:(way:Int)<Ae (F.getD k (AC 0 0)).kind):(Ap F k way).2=0:=by
 unfold Ap;rw[if_neg (by omega),if_neg (by rw[Int.toNat_natCast];omega)];split
 ·rfl
 ·split
  ·rfl
  ·split<;>rfl
theorem D1(x:Int):1<=Ae x/\Ae x<=2:=by
 unfold Ae;split<;>omega
abbrev JP:TypeId:=43
def CB(w wr:World)(B7 B9:Nat)(e1:Bool)(M1:Nat->Int)(x:Ds)(pv:Value):Prop:=AL wr B9 e1 M1/\At wr B7 (AD x) BB/\At wr w.heap.size #[pv] JP/\Below w.heap.size w wr
theorem CB.keep{wr w':World}{B7 B9:Nat}{e1:Bool}{M1:Nat->Int}{x:Ds}{pv:Value}(h:CB w wr B7 B9 e1 M1 x pv)(hb:Below wr.heap.size wr w'):CB w w' B7 B9 e1 M1 x pv:=
 ⟨At.keep h.1 hb (At.lt h.1),h.2.1.keep hb h.2.1.lt,h.2.2.1.keep hb h.2.2.1.lt,h.2.2.2.trans (hb.mono h.2.2.2.size)⟩
theorem MG{g0 cap g k:Nat}{F:List Ds}{L:List (Option (List Int))}(hP:Cc w g0 F)(hl:F.length<=20)(hpar:∀(k:Nat)(x:Ds),F[k]?=some x-> -1<=x.parent/\x.parent<(k:Int))(hk:k<F.length)(hO:JQ w g L)
  (hx:OY (F.getD k (AC 0 0))) (ht:0<=(F.getD k (AC 0 0)).target/\(F.getD k (AC 0 0)).target<4) (hM:∀j,j<64-> -20000000000<=cM (BG L k) j/\cM (BG L k) j<=1000000) (hS:cE (BG L k)=false->Sh (cM (BG L k))):
  Calls Tryz.prog 91 #[.agg #[.slice (some ⟨g0,0,none⟩) F.length cap],.slice (some ⟨g,0,none⟩) L.length 21,.int .i64 (k:Int)] w λe w'=>e=.returned (.int .i64 (EK F L k))/\Below w.heap.size w w':=by
 have HAt:Hid (∀w1,Below w.heap.size w w1->Calls Tryz.prog 81 #[.agg #[.slice (some ⟨g0,0,none⟩) F.length cap],.int .i64 (k:Int)] w1 λe w'=>e=.returned (.tuple #[B0 (F.getD k (AC 0 0)),.int .i64 0])/\Below w1.heap.size w1 w'):=λw1 hb=>Fm (hP.keep hb) k hk;have HNx:Hid (∀w1 (way:Nat),(way:Int)<Ae (F.getD k (AC 0 0)).kind->Below w.heap.size w w1->Calls Tryz.prog 68 #[.agg #[.slice (some ⟨g0,0,none⟩) F.length cap],.int .i64 (k:Int),.int .i64 (way:Int)] w1 λe w'=>e=.returned (.tuple #[.int .i64 (Ap F k way).1,.int .i64 0])/\Below w1.heap.size w1 w'):=λw1 way hw hb=>by
  have:=Gj (cap:=cap) (hP.keep hb) hl hpar k hk (way:Int);unfold Pw at this;rw[Fv F k hk way hw]at this;exact this
 have HCl:Hid (∀w1 pt,Below w.heap.size w w1->Calls Tryz.prog 90 #[.slice (some ⟨g,0,none⟩) L.length 21,.int .i64 pt] w1 λe w'=>e=.returned (.agg (oc (cE (BG L pt)) (cM (BG L pt))))/\Below w1.heap.size w1 w'):=λw1 pt hb=>LP (hO.keep hb) pt;have HSf:Hid (∀w1,Calls Tryz.prog 82 #[B0 (F.getD k (AC 0 0)),.agg (oc (cE (BG L k)) (cM (BG L k)))] w1 λe w'=>e=.returned (.bool (DF (cE (BG L k)) (cM (BG L k)) (F.getD k (AC 0 0))))/\Below w1.heap.size w1 w'):=λw1=>O1 _ hx (λj hj=>by have:=hM j hj;omega);have HPo:Hid (∀w1 (way:Nat),Calls Tryz.prog 80 #[B0 (F.getD k (AC 0 0)),.int .i64 (way:Int),.agg (oc (cE (BG L k)) (cM (BG L k)))] w1 λe w'=>e=.returned (.agg (oc (CA (cE (BG L k)) (cM (BG L k)) (F.getD k (AC 0 0)) way) (CE (cE (BG L k)) (cM (BG L k)) (F.getD k (AC 0 0)) way)))/\Below w1.heap.size w1 w'):=λw1 way=>O0 _ hx ht (way:Int) hM hS;have HC:Hid (EK F L k=if DF (cE (BG L k)) (cM (BG L k)) (F.getD k (AC 0 0))=false then 6 else if ET (D0 F L k) (Ae (F.getD k (AC 0 0)).kind).toNat then 0 else 7):=rfl;have HWi:Hid (∀way:Nat,D0 F L k way=DY (CA (cE (BG L k)) (cM (BG L k)) (F.getD k (AC 0 0)) way) (cE (BG L (Ap F k way).1)) (CE (cE (BG L k)) (cM (BG L k)) (F.getD k (AC 0 0)) way) (cM (BG L (Ap F k way).1))):=λway=>rfl;clear hP hl hpar hO hx ht hM hS hk;generalize D0 F L k=wp at *;generalize F.getD k (AC 0 0)=x at *;have HCk:=λw1 hb=>HCl.out w1 (k:Int) hb;have HCk:Hid (∀w1,Below w.heap.size w w1->Calls Tryz.prog 90 #[.slice (some ⟨g,0,none⟩) L.length 21,.int .i64 (k:Int)] w1 λe w'=>e=.returned (.agg (oc (cE (BG L k)) (cM (BG L k))))/\Below w1.heap.size w1 w'):=HCk;generalize cE (BG L k)=e1 at *;generalize cM (BG L k)=M1 at *;have hwr:=D1 x.kind;obtain⟨n,hn⟩:∃n:Nat,Ae x.kind=(n:Int):=⟨(Ae x.kind).toNat,by omega⟩
 have HW:Hid (∀w1,Calls Tryz.prog 111 #[B0 x] w1 λe w'=>e=.returned (.int .i64 (n:Int))/\Below w1.heap.size w1 w'):=λw1=>by
  rw[<-hn];exact(MM _ _ _ _ _ _ _ _ _ _ w1).mono λe w' ⟨h1,o,h2⟩=>⟨h1,by rw[h2];exact(Below.refl _ _).alloc (Nat.le_refl _) _⟩
 rw[hn]at HC HNx;rw[Int.toNat_natCast]at HC;unfold B0 at HAt HSf HPo HW;have hn2:n<=2:=by omega
 clear hwr hn;have hz:=Bn;obtain⟨pv,hpv⟩:∃pv,pv=Value.slice (some ⟨g0,0,none⟩) F.length cap:=⟨_,rfl⟩
 go_enter Tryz.func91,Tryz.ntmps91;go_wp2_with fail;refine(HAt.out _ ((Below.refl _ _).alloc (Nat.le_refl _) _)).mono ?_;rintro e w1 ⟨rfl,hb1⟩;have H1:Hid (At w1 w.heap.size #[pv] JP/\Below w.heap.size w w1):=by rw[hpv];exact⟨At.keep (At.new w _ _) hb1 (by simp),((Below.refl _ _).alloc (Nat.le_refl _) _).trans (hb1.mono (by simp))⟩
 have HCk2:Hid (∀ob,Calls Tryz.prog 90 #[.slice (some ⟨g,0,none⟩) L.length 21,.int .i64 (k:Int)] (w1.alloc ob) λe w'=>e=.returned (.agg (oc e1 M1))/\Below (w1.alloc ob).heap.size (w1.alloc ob) w'):=λob=>HCk.out _ (H1.out.2.alloc H1.out.2.size _);clear hb1 HCk;go_wp2_with fail;refine(HCk2.out _).mono ?_;rintro e w2 ⟨rfl,hb2⟩;obtain⟨w3,hst3,hat3,hb3,hs3⟩:=Bb w2 e1 M1;have hs2:w1.heap.size+1<=w2.heap.size:=by have:=hb2.size;simpa using this
 have H3:Hid (CB w w3 w1.heap.size w2.heap.size e1 M1 x pv):=by
  have hA2:At w2 w1.heap.size (AD x) BB:=At.keep (At.new w1 (AD x) BB) hb2 (by simp);have hA1:At w2 w.heap.size #[pv] JP:=At.keep (At.allocH H1.out.1 _) hb2 (by have:=H1.out.1.lt;simp;omega);have hB2:Below w.heap.size w w2:=(H1.out.2.alloc H1.out.2.size _).trans (hb2.mono (by have:=H1.out.2.size;simp;omega));exact⟨hat3,hA2.keep hb3 hA2.lt,hA1.keep hb3 hA1.lt,hB2.trans (hb3.mono hB2.size)⟩
 clear hb2 hat3 hb3 HCk2;have y0:w3.cell? ⟨w1.heap.size,0,none⟩=some (.int .i64 x.kind):=(H3.out.2.1).cell 0;have y1:w3.cell? ⟨w1.heap.size,1,none⟩=some (.int .i64 x.target):=(H3.out.2.1).cell 1;have y2:w3.cell? ⟨w1.heap.size,2,none⟩=some (.bool x.any):=(H3.out.2.1).cell 2;have y3:w3.cell? ⟨w1.heap.size,3,none⟩=some (.int .i64 (AB x.sg 0)):=(H3.out.2.1).cell 3;have y4:w3.cell? ⟨w1.heap.size,4,none⟩=some (.int .i64 (AB x.sg 1)):=(H3.out.2.1).cell 4;have y5:w3.cell? ⟨w1.heap.size,5,none⟩=some (.int .i64 (AB x.sg 2)):=(H3.out.2.1).cell 5;have y6:w3.cell? ⟨w1.heap.size,6,none⟩=some (.int .i64 (AB x.sg 3)):=(H3.out.2.1).cell 6;have y7:w3.cell? ⟨w1.heap.size,7,none⟩=some (.int .i64 x.num):=(H3.out.2.1).cell 7;have y8:w3.cell? ⟨w1.heap.size,8,none⟩=some (.int .i64 x.parent):=(H3.out.2.1).cell 8;have y9:w3.cell? ⟨w1.heap.size,9,none⟩=some (.int .i64 x.block):=(H3.out.2.1).cell 9;go_wp2_with (refine AH rfl (.tmp 9) rfl rfl H3.out.1 ?_);refine(HSf.out w3).mono ?_;rintro e w4 ⟨rfl,hb4⟩;have H4:Hid (CB w w4 w1.heap.size w2.heap.size e1 M1 x pv):=H3.out.keep hb4;clear hb4 HSf y0 y1 y2 y3 y4 y5 y6 y7 y8 y9 H3;cases hsf:DF e1 M1 x with
 |false=>
  have HE:Hid (EK F L k=6):=by show _=_;rw[HC.out,if_pos hsf]
  clear hsf;go_wp2_with fail;go_ret;exact⟨by rw[HE.out];rfl,H4.out.2.2.2⟩
 |true=>
  have HE:Hid (EK F L k=if ET wp n=true then 0 else 7):=by show _=_;rw[HC.out,if_neg (by rw[hsf];decide)]
  clear hsf HC;go_wp2_with fail;go_loopw [10] (λiv wr=>∃i:Nat,i<=n/\iv=.int .i64 (i:Int)/\Hid (ET wp i=true/\CB w wr w1.heap.size w2.heap.size e1 M1 x pv)) (λiv _=>n-(intOf iv).toNat);case atStart=>exact⟨0,by omega,rfl,rfl,H4.out⟩
  case round=>
   obtain⟨i,hi,rfl,HR⟩:=hrel;have y0:wr.cell? ⟨w1.heap.size,0,none⟩=some (.int .i64 x.kind):=(HR.out.2.2.1).cell 0;have y1:wr.cell? ⟨w1.heap.size,1,none⟩=some (.int .i64 x.target):=(HR.out.2.2.1).cell 1;have y2:wr.cell? ⟨w1.heap.size,2,none⟩=some (.bool x.any):=(HR.out.2.2.1).cell 2;have y3:wr.cell? ⟨w1.heap.size,3,none⟩=some (.int .i64 (AB x.sg 0)):=(HR.out.2.2.1).cell 3;have y4:wr.cell? ⟨w1.heap.size,4,none⟩=some (.int .i64 (AB x.sg 1)):=(HR.out.2.2.1).cell 4;have y5:wr.cell? ⟨w1.heap.size,5,none⟩=some (.int .i64 (AB x.sg 2)):=(HR.out.2.2.1).cell 5;have y6:wr.cell? ⟨w1.heap.size,6,none⟩=some (.int .i64 (AB x.sg 3)):=(HR.out.2.2.1).cell 6;have y7:wr.cell? ⟨w1.heap.size,7,none⟩=some (.int .i64 x.num):=(HR.out.2.2.1).cell 7;have y8:wr.cell? ⟨w1.heap.size,8,none⟩=some (.int .i64 x.parent):=(HR.out.2.2.1).cell 8;have y9:wr.cell? ⟨w1.heap.size,9,none⟩=some (.int .i64 x.block):=(HR.out.2.2.1).cell 9;have hl7:=HR.out.2.2.1.lt;go_wp2_with fail;refine(HW.out wr).mono ?_;rintro e w5 ⟨rfl,hb5⟩;have H5:Hid (CB w w5 w1.heap.size w2.heap.size e1 M1 x pv):=HR.out.2.keep hb5;clear hb5 y0 y1 y2 y3 y4 y5 y6 y7 y8 y9;by_cases hin:i<n
   ·have hii:(i:Int)<(n:Int):=by omega
    have c3:w5.cell? ⟨w.heap.size,0,none⟩=some (.slice (some ⟨g0,0,none⟩) F.length cap):=by rw[<-hpv];exact H5.out.2.2.1.cell 0
    have hnx:=HNx.out w5 i hii H5.out.2.2.2;have HWi2:Hid (wp i=DY (CA e1 M1 x i) (cE (BG L (Ap F k i).1)) (CE e1 M1 x i) (cM (BG L (Ap F k i).1))):=HWi.out i;generalize(Ap F k i).1=q at *;have HCq:Hid (∀w1,Below w.heap.size w w1->Calls Tryz.prog 90 #[.slice (some ⟨g,0,none⟩) L.length 21,.int .i64 q] w1 λe w'=>e=.returned (.agg (oc (cE (BG L q)) (cM (BG L q))))/\Below w1.heap.size w1 w'):=λw1 hb=>HCl.out w1 q hb;have HPi:Hid _:=λw1=>HPo.out w1 i;generalize cE (BG L q)=e3 at *;generalize cM (BG L q)=M3 at *;generalize CA e1 M1 x i=e4 at *;generalize CE e1 M1 x i=M4 at *;go_wp2_with fail;refine hnx.mono ?_;rintro e w6 ⟨rfl,hb6⟩;have H6:Hid (CB w w6 w1.heap.size w2.heap.size e1 M1 x pv):=H5.out.keep hb6;clear hb6 hnx c3;go_wp2_with fail;refine(HCq.out w6 H6.out.2.2.2).mono ?_;rintro e w7 ⟨rfl,hb7⟩;obtain⟨w8,hst8,hat8,hb8,hs8⟩:=Bb w7 e3 M3;have H8:Hid (AL w8 w7.heap.size e3 M3/\CB w w8 w1.heap.size w2.heap.size e1 M1 x pv):=⟨hat8,(H6.out.keep hb7).keep hb8⟩
    clear hb7 hat8 hb8;have y0:w8.cell? ⟨w1.heap.size,0,none⟩=some (.int .i64 x.kind):=(H8.out.2.2.1).cell 0;have y1:w8.cell? ⟨w1.heap.size,1,none⟩=some (.int .i64 x.target):=(H8.out.2.2.1).cell 1;have y2:w8.cell? ⟨w1.heap.size,2,none⟩=some (.bool x.any):=(H8.out.2.2.1).cell 2;have y3:w8.cell? ⟨w1.heap.size,3,none⟩=some (.int .i64 (AB x.sg 0)):=(H8.out.2.2.1).cell 3;have y4:w8.cell? ⟨w1.heap.size,4,none⟩=some (.int .i64 (AB x.sg 1)):=(H8.out.2.2.1).cell 4;have y5:w8.cell? ⟨w1.heap.size,5,none⟩=some (.int .i64 (AB x.sg 2)):=(H8.out.2.2.1).cell 5;have y6:w8.cell? ⟨w1.heap.size,6,none⟩=some (.int .i64 (AB x.sg 3)):=(H8.out.2.2.1).cell 6;have y7:w8.cell? ⟨w1.heap.size,7,none⟩=some (.int .i64 x.num):=(H8.out.2.2.1).cell 7;have y8:w8.cell? ⟨w1.heap.size,8,none⟩=some (.int .i64 x.parent):=(H8.out.2.2.1).cell 8;have y9:w8.cell? ⟨w1.heap.size,9,none⟩=some (.int .i64 x.block):=(H8.out.2.2.1).cell 9;go_wp2_with (refine AH rfl (.tmp 9) rfl rfl H8.out.2.1 ?_);refine(HPi.out w8).mono ?_;rintro e w9 ⟨rfl,hb9⟩;obtain⟨w10,hst10,hat10,hb10,hs10⟩:=Bb w9 e4 M4;have H10:Hid (AL w10 w9.heap.size e4 M4/\AL w10 w7.heap.size e3 M3/\CB w w10 w1.heap.size w2.heap.size e1 M1 x pv):=by
     have h9:AL w9 w7.heap.size e3 M3:=At.keep H8.out.1 hb9 (At.lt H8.out.1);exact⟨hat10,At.keep h9 hb10 (At.lt h9),(H8.out.2.keep hb9).keep hb10⟩
    clear hb9 hat10 hb10 y0 y1 y2 y3 y4 y5 y6 y7 y8 y9;go_wp2_with (first|refine AH rfl (.tmp 14) rfl rfl H10.out.1 ?_|refine AH rfl (.tmp 13) rfl rfl H10.out.2.1 ?_);refine(Ia (w:=w10) (e1:=e4) (e2:=e3) (M:=M4) (N:=M3)).mono ?_;rintro e w11 ⟨rfl,hb11⟩;have H11:Hid (CB w w11 w1.heap.size w2.heap.size e1 M1 x pv):=H10.out.2.2.keep hb11;clear hb11;cases hwi:DY e4 e3 M4 M3 with
    |false=>
     have HE7:Hid (EK F L k=7):=by show _=_;rw[HE.out,if_neg (by rw[MA hin (HWi2.out.trans hwi)];decide)]
     clear hwi;go_wp2_with fail;go_ret;exact⟨by rw[HE7.out];rfl,H11.out.2.2.2⟩
    |true=>
     have HE8:Hid (ET wp (i+1)=true):=by show(ET wp i&&wp i)=true;rw[HR.out.1,HWi2.out,hwi];rfl
     clear hwi;go_wp2_with fail;go_roundw;case rel=>exact⟨i+1,by omega,by go_num,HE8.out,H11.out⟩
     case measure=>simp[intOf];omega
   ·have hie:i=n:=by omega
    subst hie;have HE0:Hid (EK F L k=0):=by show _=_;rw[HE.out,if_pos HR.out.1]
    go_wp2_with fail;go_ret;exact⟨by rw[HE0.out];rfl,H5.out.2.2.2⟩
end Go.Proofs.YtffajooegiempaaGreatDoor
namespace Go.Proofs.YtffajooegiempaaGreatDoor
open Go.RowKit
structure Pl where
 e:Bool
 M:Nat->Int
 wt:Bool
def p0:Pl:=⟨true,λ_=>0,false⟩
abbrev SS:=List Pl×Bool
def DR(s:SS)(pt:Int)(e:Bool)(M:Nat->Int):SS:=
 if pt<0\/(s.1.length:Int)<=pt then s
 else if DY e (s.1.getD pt.toNat p0).e M (s.1.getD pt.toNat p0).M=true then s
 else(s.1.set pt.toNat ⟨Hn (s.1.getD pt.toNat p0).e e,GF (s.1.getD pt.toNat p0).e e (s.1.getD pt.toNat p0).M M,true⟩,true)
def GH(F:List Ds)(k:Nat)(e:Bool)(M:Nat->Int)(s:SS):Nat->SS
 |0=>s
 |n+1=>DR (GH F k e M s n) (Ap F k n).1 (CA e M (F.getD k (AC 0 0)) n) (CE e M (F.getD k (AC 0 0)) n)
def Dp(F:List Ds)(k:Nat)(e:Bool)(M:Nat->Int)(s:SS):SS:=
 if k<F.length then(if DF e M (F.getD k (AC 0 0))=true then GH F k e M s (Ae (F.getD k (AC 0 0)).kind).toNat else s)else s
def Fz(F:List Ds)(k:Nat)(s:SS):SS:=
 if(s.1.getD k p0).wt=true then Dp F k (s.1.getD k p0).e (s.1.getD k p0).M (s.1.set k ⟨(s.1.getD k p0).e,(s.1.getD k p0).M,false⟩,s.2)else s
def C3(F:List Ds)(s:SS):Nat->SS
 |0=>(s.1,false)
 |n+1=>Fz F n (C3 F s n)
def F9(F:List Ds):Nat->SS->SS
 |0,s=>s
 |r+1,s=>if s.2=true then F9 F r (C3 F s s.1.length)else s
theorem J4(s:SS)(pt:Int)(e:Bool)(M:Nat->Int):(DR s pt e M).1.length=s.1.length:=by
 unfold DR;split
 ·rfl
 ·split
  ·rfl
  ·simp
theorem Kk(F:List Ds)(k:Nat)(e:Bool)(M:Nat->Int)(s:SS):∀n,(GH F k e M s n).1.length=s.1.length
 |0=>rfl
 |n+1=>by rw[GH,J4,Kk F k e M s n]
theorem TF(F:List Ds)(k:Nat)(e:Bool)(M:Nat->Int)(s:SS):(Dp F k e M s).1.length=s.1.length:=by
 unfold Dp;split
 ·split
  ·exact Kk F k e M s _
  ·rfl
 ·rfl
theorem Tz(F:List Ds)(k:Nat)(s:SS):(Fz F k s).1.length=s.1.length:=by
 unfold Fz;split
 ·rw[TF];simp
 ·rfl
theorem DD(F:List Ds)(s:SS):∀n,(C3 F s n).1.length=s.1.length
 |0=>rfl
 |n+1=>by rw[C3,Tz,DD F s n]
def Fy(p:Pl):List Value:=(oc p.e p.M).toList++[.bool p.wt]
theorem FF(p:Pl):(Fy p).length=66:=by simp[Fy,Am]
theorem I6(p:Pl){k:Nat}(hk:k<65):(Fy p)[k]?=(oc p.e p.M)[k]?:=by
 unfold Fy;rw[List.getElem?_append_left (by simp[Am];omega)];simp
theorem Ht(p:Pl):(Fy p)[65]?=some (.bool p.wt):=by
 unfold Fy;rw[List.getElem?_append_right (by simp[Am])];simp[Am]
abbrev LG:TypeId:=86
abbrev OR:TypeId:=128
structure D4(s g:Nat)(w w':World):Prop where
 os:w'.os=w.os
 tape:w'.tape=w.tape
 output:w'.output=w.output
 size:w.heap.size<=w'.heap.size
 block:∀k,k<w.heap.size->k≠s->k≠g->w'.heap[k]?=w.heap[k]?
variable {s g:Nat}{w w' a b c:World}
theorem D4.refl(s g:Nat)(w:World):D4 s g w w:=⟨rfl,rfl,rfl,Nat.le_refl _,λ_ _ _ _=>rfl⟩
theorem D4.trans(h:D4 s g a b)(k:D4 s g b c):D4 s g a c:=
 ⟨k.os.trans h.os,k.tape.trans h.tape,k.output.trans h.output,Nat.le_trans h.size k.size,λi hi h1 h2=>(k.block i (Nat.lt_of_lt_of_le hi h.size) h1 h2).trans (h.block i hi h1 h2)⟩
theorem D4.of{B:Nat}(h:Below B w w')(hB:w.heap.size<=B)(s g:Nat):D4 s g w w':=⟨h.os,h.tape,h.output,h.size,λk hk _ _=>h.block k (by omega)⟩
theorem D4.setCell(h:D4 s g a b){q:Nat}(hq:q=s\/q=g)(o:Nat)(u:Value):D4 s g a (b.setCell ⟨q,o,none⟩ u):=
 ⟨h.os,h.tape,h.output,by have:=h.size;simpa[World.setCell]using this,λk hk h1 h2=>(Below.heap_setCell _ _ _ _ (by show k≠q;omega)).trans (h.block k hk h1 h2)⟩
theorem D4.setCells:∀(vs:List Value)(o:Nat)(b:World),D4 s g a b->D4 s g a (b.setCells g o vs)
 |[],_,_,h=>h
 |_::r,o,_,h=>D4.setCells r (o+1) _ (h.setCell (.inr rfl) o _)
theorem D4.below(h:D4 s g a b){B:Nat}(h1:B<=s)(h2:B<=g)(h3:B<=a.heap.size):Below B a b:=⟨h.os,h.tape,h.output,h.size,λk hk=>h.block k (by omega) (by omega) (by omega)⟩
theorem D4.at_{q:Nat}{c:Array Value}{t:TypeId}(h:D4 s g w w')(ha:At w q c t)(h1:q≠s)(h2:q≠g):At w' q c t:=ha.same (h.block q ha.lt h1 h2)
theorem D4.cell(h:D4 s g w w'){q:Nat}(hq:q<w.heap.size)(h1:q≠s)(h2:q≠g)(i:Nat):w'.cell? ⟨q,i,none⟩=w.cell? ⟨q,i,none⟩:=World.cell?_of_block (a:=⟨q,i,none⟩) (h.block q hq h1 h2)
theorem At.setCells{t:TypeId}:∀(vs:List Value)(o:Nat)(C:Array Value)(w:World),At w g C t->∃C',At (w.setCells g o vs) g C' t/\C'.size=C.size
 |[],_,C,_,h=>⟨C,h,rfl⟩
 |v::r,o,C,w,h=>by
  obtain⟨C',h1,h2⟩:=At.setCells r (o+1) _ _ (h.put o v);exact⟨C',h1,by rw[h2];simp⟩
structure Dg(w:World)(s g:Nat)(pv:Value)(P:SS):Prop where
 sa:At w s #[pv,.slice (some ⟨g,0,none⟩) P.1.length 21,.bool P.2] LG
 ga:∃C,At w g C OR/\P.1.length*66<=C.size
 pl:∀i k,i<P.1.length->k<66->w.cell? ⟨g,i*66+k,none⟩=(Fy (P.1.getD i p0))[k]?
theorem Dg.ne{pv:Value}{P:SS}(h:Dg w s g pv P):s≠g:=by
 obtain⟨C,h1,_⟩:=h.ga;exact At.ne h.sa h1 (by decide)
theorem Dg.glt{pv:Value}{P:SS}(h:Dg w s g pv P):g<w.heap.size:=by
 obtain⟨C,h1,_⟩:=h.ga;exact h1.lt
theorem Dg.keep{pv:Value}{P:SS}(h:Dg w s g pv P)(hb:Below w.heap.size w w'):Dg w' s g pv P:=by
 obtain⟨C,h1,h2⟩:=h.ga;exact⟨h.sa.keep hb h.sa.lt,⟨C,h1.keep hb h1.lt,h2⟩,λi k hi hk=>(hb.cell (by exact h1.lt)).trans (h.pl i k hi hk)⟩
theorem Dg.there{pv:Value}{P:SS}(h:Dg w s g pv P){i:Nat}(hi:i<P.1.length):w.there g (i*66) 65:=by
 obtain⟨C,h1,h2⟩:=h.ga;intro j hj;refine⟨?_,h1.free _⟩;rw[h1.cell,Array.getElem?_eq_getElem (show i*66+j<C.size by omega)];rfl
theorem Dg.oct{pv:Value}{P:SS}(h:Dg w s g pv P){i:Nat}(hi:i<P.1.length):w.rangeAt g (i*66) (oc (P.1.getD i p0).e (P.1.getD i p0).M).toList:=by
 intro j v hv;have hj:j<65:=by
  rcases Nat.lt_or_ge j 65 with q|q
  ·exact q
  ·rw[List.getElem?_eq_none (by simp[Am];omega)]at hv;cases hv
 rw[h.pl i j hi (by omega),I6 _ hj,<-Array.getElem?_toList];exact hv
theorem Dg.row{pv:Value}{P:SS}(h:Dg w s g pv P){i:Nat}(hi:i<P.1.length):w.rangeAt g (i*66) (Fy (P.1.getD i p0)):=by
 intro j v hv;have hj:j<66:=by
  rcases Nat.lt_or_ge j 66 with q|q
  ·exact q
  ·rw[List.getElem?_eq_none (by rw[FF];omega)]at hv;cases hv
 rw[h.pl i j hi hj];exact hv
theorem DB{P:List Pl}{k:Nat}(hk:k<P.length)(i:Nat)(p:Pl):(P.set k p).getD i p0=if i=k then p else P.getD i p0:=by
 rw[List.getD_eq_getElem?_getD,List.getElem?_set];by_cases e:k=i
 ·subst e;simp[hk]
 ·rw[if_neg e,if_neg (Ne.symm e),List.getD_eq_getElem?_getD]
theorem Dg.setO{pv:Value}{P:SS}(h:Dg w s g pv P){k:Nat}(hk:k<P.1.length)(e:Bool)(M:Nat->Int):Dg (w.setCells g (k*66) (oc e M).toList) s g pv (P.1.set k ⟨e,M,(P.1.getD k p0).wt⟩,P.2):=by
 obtain⟨C,h1,h2⟩:=h.ga;have hth:=h.there hk;have hl:(oc e M).toList.length=65:=by simp[Am]
 refine⟨?_,?_,?_⟩
 ·have:=(D4.setCells (s:=g) (g:=g) (oc e M).toList (k*66) w (D4.refl g g w)).at_ h.sa h.ne h.ne;simpa using this
 ·obtain⟨C',h3,h4⟩:=At.setCells (oc e M).toList (k*66) C w h1;exact⟨C',h3,by simp;omega⟩
 ·intro i j hi hj;have hi':i<P.1.length:=by simpa using hi
  show _=(Fy ((P.1.set k ⟨e,M,(P.1.getD k p0).wt⟩).getD i p0))[j]?;rw[DB hk];by_cases c:i=k
  ·subst c;rw[if_pos rfl];by_cases hj5:j<65
   ·rw[World.cell?_setCells_in g _ (i*66) w (λq hq=>(hth q (by omega)).1) j (by omega),I6 _ hj5,<-Array.getElem?_toList];exact(List.getElem?_eq_getElem (by rw[hl];exact hj5)).symm
   ·have:j=65:=by omega
    subst this;rw[World.cell?_setCells_out g _ (i*66) w _ (λ_ _=>.inr (by show _<=i*66+65;omega)),h.pl i 65 hi' (by omega),Ht,Ht]
  ·rw[if_neg c,World.cell?_setCells_out g _ (k*66) w _ (λ_ _=>by show i*66+j<k*66\/_<=i*66+j;omega)];exact h.pl i j hi' hj
theorem Dg.setW{pv:Value}{P:SS}(h:Dg w s g pv P){k:Nat}(hk:k<P.1.length)(v:Bool):Dg (w.setCell ⟨g,k*66+65,none⟩ (.bool v)) s g pv (P.1.set k ⟨(P.1.getD k p0).e,(P.1.getD k p0).M,v⟩,P.2):=by
 obtain⟨C,h1,h2⟩:=h.ga;refine⟨?_,?_,?_⟩
 ·have:=h.sa.other (a:=g) (k*66+65) (.bool v) h.ne;simpa using this
 ·exact⟨_,h1.put _ _,by simpa using h2⟩
 ·intro i j hi hj;have hi':i<P.1.length:=by simpa using hi
  show _=(Fy ((P.1.set k ⟨(P.1.getD k p0).e,(P.1.getD k p0).M,v⟩).getD i p0))[j]?;rw[DB hk];have hold:=h.pl i j hi' hj;by_cases c:i=k/\j=65
  ·obtain⟨rfl,rfl⟩:=c;rw[if_pos rfl,Ht];rw[Ht]at hold;exact World.cell?_setCell_same _ _ _ hold
  ·rw[World.cell?_setCell_other _ _ _ _ (λz=>by
    have:=congrArg Addr.off z
    exact c (by have:k*66+65=i*66+j:=this;omega)),hold]
   by_cases c2:i=k
   ·subst c2;rw[if_pos rfl,I6 _ (show j<65 by omega),I6 _ (show j<65 by omega)]
   ·rw[if_neg c2]
theorem Dg.setG{pv:Value}{P:SS}(h:Dg w s g pv P)(v:Bool):Dg (w.setCell ⟨s,2,none⟩ (.bool v)) s g pv (P.1,v):=by
 obtain⟨C,h1,h2⟩:=h.ga;refine⟨?_,?_,?_⟩
 ·have:=h.sa.put 2 (.bool v);simpa using this
 ·exact⟨C,h1.other _ _ (Ne.symm h.ne),h2⟩
 ·intro i j hi hj;rw[World.cell?_setCell_other _ _ _ _ (λz=>h.ne (congrArg Addr.block z))];exact h.pl i j hi hj
end Go.Proofs.YtffajooegiempaaGreatDoor
namespace Go.Proofs.YtffajooegiempaaGreatDoor
open Go.RowKit
variable {s g:Nat}{w:World}{pv:Value}{P:SS}
theorem AL.range{b:Nat}{e:Bool}{M:Nat->Int}(h:AL w b e M):w.rangeAt b 0 (oc e M).toList:=by
 intro j v hv;rw[Nat.zero_add,At.cell h,<-Array.getElem?_toList];exact hv
theorem Q4(h:Dg w s g pv P)(pt:Int)(e:Bool)(M:Nat->Int):
  Calls Tryz.prog 53 #[.pointer (some ⟨s,0,none⟩),.int .i64 pt,.agg (oc e M)] w λx w'=>x=.returned (.tuple #[])/\Dg w' s g pv (DR P pt e M)/\D4 s g w w':=by
 obtain⟨M0,hM0⟩:∃M0:Nat->Int,M0=λ_=>0:=⟨_,rfl⟩
 have hz:∀w,(zeroValue tO).run Tryz.prog w=.ok (.agg (oc false M0)) w:=by rw[hM0];exact Bn
 have ho3:(oc false M0).size=65:=Am _ _;have ho4:¬oc false M0=#[]:=λh=>by have:=congrArg Array.size h;rw[Am]at this;simp at this
 have HFr:Hid (∀(w:World) e M,∃w2,(storeCells ⟨w.heap.size,0,none⟩ (oc e M).toList).run Tryz.prog (w.alloc (.cells (oc false M0) tO))=.ok () w2/\AL w2 w.heap.size e M/\Below w.heap.size w w2/\w.heap.size<w2.heap.size):=by rw[hM0];exact λw e M=>Bb w e M
 clear hM0;have hb1:Below w.heap.size w (w.alloc (.cells (oc e M) tO)):=(Below.refl _ _).alloc (Nat.le_refl _) _;have H1:Hid (Dg (w.alloc (.cells (oc e M) tO)) s g pv P/\AL (w.alloc (.cells (oc e M) tO)) w.heap.size e M/\Below w.heap.size w (w.alloc (.cells (oc e M) tO))):=⟨h.keep hb1,At.new _ _ _,hb1⟩
 have c1:(w.alloc (.cells (oc e M) tO)).cell? ⟨s,1,none⟩=some (.slice (some ⟨g,0,none⟩) P.1.length 21):=H1.out.1.sa.cell 1;have HC:Hid (DR P pt e M=if pt<0\/(P.1.length:Int)<=pt then P else if DY e (P.1.getD pt.toNat p0).e M (P.1.getD pt.toNat p0).M=true then P else(P.1.set pt.toNat ⟨Hn (P.1.getD pt.toNat p0).e e,GF (P.1.getD pt.toNat p0).e e (P.1.getD pt.toNat p0).M M,true⟩,true)):=rfl;have hsl:=h.sa.lt;have hgl:=h.glt;have hne:=h.ne;by_cases p0_:pt<0
 ·have HE:Hid (DR P pt e M=P):=HC.out.trans (if_pos (.inl p0_));clear h hb1;go_enter Tryz.func53,Tryz.ntmps53;go_wp2_with fail;try simp only[Exit.inBlock,Exit.then]
  refine bodyPost_ret (results_none rfl _ _ _) rfl ?_;exact⟨rfl,by rw[HE.out];exact H1.out.1,D4.of H1.out.2.2 (Nat.le_refl _) _ _⟩
 ·by_cases p1:(P.1.length:Int)<=pt
  ·have HE:Hid (DR P pt e M=P):=HC.out.trans (if_pos (.inr p1));clear h hb1;go_enter Tryz.func53,Tryz.ntmps53;go_wp2_with fail;try simp only[Exit.inBlock,Exit.then]
   refine bodyPost_ret (results_none rfl _ _ _) rfl ?_;exact⟨rfl,by rw[HE.out];exact H1.out.1,D4.of H1.out.2.2 (Nat.le_refl _) _ _⟩
  ·obtain⟨k,rfl⟩:∃k:Nat,pt=(k:Int):=⟨pt.toNat,by omega⟩
   have hk:k<P.1.length:=by omega
   have hk0:(0:Int)<=(k:Int):=Int.natCast_nonneg _;have hki:(k:Int)<(P.1.length:Int):=by omega
   have HE:Hid (DR P (k:Int) e M=if DY e (P.1.getD k p0).e M (P.1.getD k p0).M=true then P else(P.1.set k ⟨Hn (P.1.getD k p0).e e,GF (P.1.getD k p0).e e (P.1.getD k p0).M M,true⟩,true)):=by
    show _=_;rw[HC.out,if_neg (by omega),Int.toNat_natCast]
   have HO:Hid ((w.alloc (.cells (oc e M) tO)).rangeAt g (k*66) (oc (P.1.getD k p0).e (P.1.getD k p0).M).toList):=H1.out.1.oct hk;have hl:∀e M,(Tryz.prog.info? 90).map (·.size)=some (oc e M).toList.length:=λe M=>by
    obtain⟨i0,hi,hz1⟩:=KM;have hi':Tryz.prog.info? 90=some i0:=hi;simp[hi',hz1,Am]
   have HSO:Hid (∀w1 e' M',Dg w1 s g pv P->Dg (((w1.setCells g (k*66) (oc e' M').toList).setCell ⟨g,k*66+65,none⟩ (.bool true)).setCell ⟨s,2,none⟩ (.bool true)) s g pv (P.1.set k ⟨e',M',true⟩,true)):=λw1 e' M' h1=>by
    have h2:=((h1.setO hk e' M').setW (k:=k) (by simpa using hk) true).setG true;have h3:(P.1.set k ⟨e',M',(P.1.getD k p0).wt⟩).getD k p0=⟨e',M',(P.1.getD k p0).wt⟩:=by rw[DB hk,if_pos rfl]
    simp only[h3,List.set_set]at h2;exact h2
   have HTh:Hid (∀w1,Dg w1 s g pv P->w1.there g (k*66) 65/\w1.cell? ⟨s,1,none⟩=some (.slice (some ⟨g,0,none⟩) P.1.length 21)/\(∃C,At w1 g C OR/\P.1.length*66<=C.size)):=λw1 h1=>⟨h1.there hk,h1.sa.cell 1,h1.ga⟩
   clear HC h;generalize(P.1.getD k p0).e=e1 at *;generalize(P.1.getD k p0).M=M1 at *;obtain⟨w3,hst3,hat3,hb3,hs3⟩:=HFr.out (w.alloc (.cells (oc e M) tO)) e1 M1;have hwz:(w.alloc (.cells (oc e M) tO)).heap.size=w.heap.size+1:=by simp
   rw[hwz]at hst3 hat3 hb3 hs3;have H3:Hid (Dg w3 s g pv P/\AL w3 w.heap.size e M/\AL w3 (w.heap.size+1) e1 M1/\Below w.heap.size w w3):=⟨H1.out.1.keep (by rw[hwz];exact hb3),At.keep H1.out.2.1 hb3 (by omega),hat3,H1.out.2.2.trans (hb3.mono (by omega))⟩
   clear hat3 hb3 hb1;go_enter Tryz.func53,Tryz.ntmps53;go_wp2_with (first|refine wpList_load_mid rfl tO (.tmp 24) rfl g (k*66) rfl (oc e1 M1).toList _ HO.out Tryz.underlying90 rfl (hl _ _) ?_|refine AH rfl (.tmp 5) rfl rfl H3.out.2.1 ?_|refine AH rfl (.tmp 6) rfl rfl H3.out.2.2.1 ?_);refine(Ia (w:=w3) (e1:=e) (e2:=e1) (M:=M) (N:=M1)).mono ?_;rintro x w4 ⟨rfl,hb4⟩;have H4:Hid (Dg w4 s g pv P/\AL w4 w.heap.size e M/\AL w4 (w.heap.size+1) e1 M1/\Below w.heap.size w w4):=⟨H3.out.1.keep hb4,At.keep H3.out.2.1 hb4 (At.lt H3.out.2.1),At.keep H3.out.2.2.1 hb4 (At.lt H3.out.2.2.1),H3.out.2.2.2.trans (hb4.mono H3.out.2.2.2.size)⟩
   clear hb4;cases hwi:DY e e1 M M1 with
   |true=>
    have HF:Hid (DR P (k:Int) e M=P):=HE.out.trans (if_pos hwi);clear hwi;go_wp2_with fail;try simp only[Exit.inBlock,Exit.then]
    refine bodyPost_ret (results_none rfl _ _ _) rfl ?_;exact⟨rfl,by rw[HF.out];exact H4.out.1,D4.of H4.out.2.2.2 (Nat.le_refl _) _ _⟩
   |false=>
    have HF:Hid (DR P (k:Int) e M=(P.1.set k ⟨Hn e1 e,GF e1 e M1 M,true⟩,true)):=HE.out.trans (if_neg (by rw[hwi];decide));clear hwi HE;have HJ:Hid (∀w1,Calls Tryz.prog 78 #[.agg (oc e1 M1),.agg (oc e M)] w1 λx w'=>x=.returned (.agg (oc (Hn e1 e) (GF e1 e M1 M)))/\Below w1.heap.size w1 w'):=λw1=>Tp;obtain⟨S,hS⟩:∃S:World->Prop,S=λw'=>w'.cell? ⟨s,1,none⟩=some (.slice (some ⟨g,0,none⟩) P.1.length 21)/\AL w' w.heap.size e M/\AL w' (w.heap.size+1) e1 M1:=⟨_,rfl⟩
    have HS4:Hid (S w4.drew/\Dg w4.drew s g pv P/\Below w.heap.size w w4.drew/\w.heap.size+1<w4.drew.heap.size):=by
     have k4:Dg w4.drew s g pv P:=H4.out.1.keep (Below.refl _ _).drew;refine⟨?_,k4,H4.out.2.2.2.drew,At.lt H4.out.2.2.1⟩;rw[hS];exact⟨k4.sa.cell 1,H4.out.2.1,H4.out.2.2.1⟩
    have HSb:Hid (∀w1 w2,S w1->w.heap.size+1<w1.heap.size->Below w1.heap.size w1 w2->S w2):=by
     rw[hS];exact λw1 w2 ⟨q1,q2,q3⟩ hz hb=>⟨(hb.cell (by show s<_;omega)).trans q1,At.keep q2 hb (At.lt q2),At.keep q3 hb (At.lt q3)⟩
    have HSc:Hid (∀w1 o vs,S w1->S (w1.setCells g o vs)):=by
     rw[hS];intro w1 o vs ⟨q1,q2,q3⟩;have on:=D4.setCells (s:=g) (g:=g) vs o w1 (D4.refl g g w1);have l2:=At.lt q2;exact⟨(on.cell (by show s<_;omega) hne hne 1).trans q1,on.at_ q2 (by omega) (by omega),on.at_ q3 (by omega) (by omega)⟩
    have HSv:Hid (∀w1,S w1->w1.cell? ⟨s,1,none⟩=some (.slice (some ⟨g,0,none⟩) P.1.length 21)/\w1.rangeAt w.heap.size 0 (oc e M).toList/\w1.rangeAt (w.heap.size+1) 0 (oc e1 M1).toList):=by
     rw[hS];exact λw1 ⟨q1,q2,q3⟩=>⟨q1,AL.range q2,AL.range q3⟩
    have HOn:Hid (∀w1 w2 vs,Below w.heap.size w w1->Below w1.heap.size w1 w2->D4 s g w (((w2.setCells g (k*66) vs).setCell ⟨g,k*66+65,none⟩ (.bool true)).setCell ⟨s,2,none⟩ (.bool true))):=λw1 w2 vs h1 h2=>
     ((D4.setCells vs (k*66) w2 (D4.of (h1.trans (h2.mono h1.size)) (Nat.le_refl _) s g)).setCell (.inr rfl) _ _).setCell (.inl rfl) _ _
    have hu:=Tryz.underlying90;clear hS;go_wp2_with fail;refine wp_region_held (S:=S) (by kernel_rfl) ?_;change wpAnyH _ _ _ _ _ _ _ _ (World.drew _);generalize w4.drew=w5 at *;refine wpAnyH_take (i:=0) (v:=.pointer (some ⟨s,0,none⟩)) rfl (by kernel_rfl) (by kernel_rfl) (by kernel_rfl) (λ_ _ _ h=>h) (Or.inl ⟨by rfl,by intro w1 _;go_simp⟩) (HS4.out.1) ?_;simp only[Act.put];refine wpAnyH_take (i:=1) (v:=.pointer (some ⟨s,0,none⟩)) rfl (by kernel_rfl) (by kernel_rfl) (by kernel_rfl) (λ_ _ _ h=>h) (Or.inl ⟨by rfl,by intro w1 _;go_simp⟩) (HS4.out.1) ?_;simp only[Act.put];refine wpAnyH_take (i:=2) (v:=.pointer (some ⟨s,1,none⟩)) rfl (by kernel_rfl) (by kernel_rfl) (by kernel_rfl) (λ_ _ _ h=>h) (Or.inl ⟨by rfl,by intro w1 _;go_simp⟩) (HS4.out.1) ?_;simp only[Act.put];refine wpAnyH_take (i:=3) (v:=.slice (some ⟨g,0,none⟩) P.1.length 21) rfl (by kernel_rfl) (by kernel_rfl) (by kernel_rfl) (λ_ _ _ h=>h) (Or.inl ⟨by rfl,by intro w1 hw1;have cc:=(HSv.out w1 hw1).1;go_simp⟩) HS4.out.1 ?_;simp only[Act.put];refine wpAnyH_take (i:=4) (v:=.int .i64 (k:Int)) rfl (by kernel_rfl) (by kernel_rfl) (by kernel_rfl) (λ_ _ _ h=>h) (Or.inl ⟨by rfl,by intro w1 _;go_simp⟩) (HS4.out.1) ?_;simp only[Act.put];refine wpAnyH_take (i:=5) (v:=.agg (oc e1 M1)) rfl (by kernel_rfl) (by kernel_rfl) (by kernel_rfl) (λ_ _ _ h=>h) (yieldsIf_load_mid (by rfl) 90 (.tmp 6) rfl (w.heap.size+1) 0 rfl (oc e1 M1).toList _ (λw1 hw1=>(HSv.out w1 hw1).2.2) hu rfl (hl e1 M1)) HS4.out.1 ?_;simp only[Act.put];refine wpAnyH_take (i:=6) (v:=.agg (oc e M)) rfl (by kernel_rfl) (by kernel_rfl) (by kernel_rfl) (λ_ _ _ h=>h) (yieldsIf_load_mid (by rfl) 90 (.tmp 5) rfl w.heap.size 0 rfl (oc e M).toList _ (λw1 hw1=>(HSv.out w1 hw1).2.1) hu rfl (hl e M)) HS4.out.1 ?_;simp only[Act.put];refine wpAnyH_ready (rs:=[7]) (by kernel_rfl) (by simp) ?_;refine AllReadyH.cons (o:=⟨some 36,.call _,_,_,_,none⟩) rfl (λK hK=>?_) AllReadyH.nil;go_simp;refine(HJ.out w5).mono ?_;rintro x w6 ⟨rfl,hb6⟩;have H6:Hid (S w6/\Dg w6 s g pv P/\Below w5.heap.size w5 w6):=⟨HSb.out w5 w6 HS4.out.1 HS4.out.2.2.2 hb6,HS4.out.2.1.keep hb6,hb6⟩
    clear hb6;refine hK.out _ _ H6.out.1 (λ_=>?_);clear hK K;refine wpAnyH_take (i:=8) (v:=.pointer (some ⟨g,k*66,none⟩)) rfl (by kernel_rfl) (by kernel_rfl) (by kernel_rfl) (λ_ _ _ h=>h) (Or.inl ⟨by rfl,by intro w1 _;go_simp⟩) (H6.out.1) ?_;simp only[Act.put];refine wpAnyH_take (i:=9) (v:=.pointer (some ⟨g,k*66,none⟩)) rfl (by kernel_rfl) (by kernel_rfl) (by kernel_rfl) (λ_ _ _ h=>h) (Or.inl ⟨by rfl,by intro w1 _;go_simp⟩) (H6.out.1) ?_;simp only[Act.put];refine wpAnyH_ready (rs:=[10]) (by kernel_rfl) (by simp) ?_;refine AllReadyH.cons (o:=⟨none,.store 90 (.tmp 38) (.tmp 36),_,_,_,none⟩) rfl (λK hK=>?_) AllReadyH.nil;rw[if_pos (by rfl)];have hth:=(HTh.out w6 H6.out.2.1).1;have h65:(oc (Hn e1 e) (GF e1 e M1 M)).size=65:=Am _ _;refine wp_store_mid 90 (.tmp 38) (.tmp 36) rfl g (k*66) (oc (Hn e1 e) (GF e1 e M1 M)) rfl rfl (by rw[h65];exact hth) (by rw[hl (Hn e1 e) (GF e1 e M1 M)];simp) (Array.all_eq_true_iff_forall_mem.2 λv hv=>Hr _ _ v (by simpa using hv)) ?_;refine hK.out _ _ (HSc.out w6 _ _ H6.out.1) (λ_=>?_);clear hK K;refine wpAnyH_done (by kernel_rfl) ?_ _;have HFin:Hid (Dg (((w6.setCells g (k*66) (oc (Hn e1 e) (GF e1 e M1 M)).toList).setCell ⟨g,k*66+65,none⟩ (.bool true)).setCell ⟨s,2,none⟩ (.bool true)) s g pv (P.1.set k ⟨Hn e1 e,GF e1 e M1 M,true⟩,true)/\D4 s g w (((w6.setCells g (k*66) (oc (Hn e1 e) (GF e1 e M1 M)).toList).setCell ⟨g,k*66+65,none⟩ (.bool true)).setCell ⟨s,2,none⟩ (.bool true))):=⟨HSO.out w6 _ _ H6.out.2.1,HOn.out w5 w6 _ HS4.out.2.2.1 H6.out.2.2⟩
    have h7:=H6.out.2.1.setO hk (Hn e1 e) (GF e1 e M1 M);have hln:(P.1.set k ⟨Hn e1 e,GF e1 e M1 M,(P.1.getD k p0).wt⟩).length=P.1.length:=by simp
    obtain⟨w7,hw7⟩:∃w7,w7=w6.setCells g (k*66) (oc (Hn e1 e) (GF e1 e M1 M)).toList:=⟨_,rfl⟩
    rw[<-hw7]at HFin h7|-;clear hw7;have c7:w7.cell? ⟨s,1,none⟩=some (.slice (some ⟨g,0,none⟩) P.1.length 21):=by
     have:=h7.sa.cell 1;rw[this];show some (Value.slice (some ⟨g,0,none⟩) (P.1.set k _).length 21)=_;rw[hln]
    have c9:w7.cell? ⟨s,2,none⟩=some (.bool P.2):=h7.sa.cell 2;have f9:=h7.sa.free;obtain⟨wt,c8⟩:∃wt,w7.cell? ⟨g,k*66+65,none⟩=some (.bool wt):=⟨_,(h7.pl k 65 (by rw[hln];exact hk) (by omega)).trans (Ht _)⟩
    obtain⟨C7,hC7, -⟩:=h7.ga;have f8:=hC7.free;have l7:=hC7.lt;have l8:=h7.sa.lt;clear h7 hC7 hth;go_wp2_with fail
    go_end0
    exact⟨rfl,by rw[HF.out];exact HFin.out.1,HFin.out.2⟩
end Go.Proofs.YtffajooegiempaaGreatDoor
