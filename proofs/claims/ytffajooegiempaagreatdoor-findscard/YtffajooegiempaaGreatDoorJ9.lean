import Derived.Test.YtffajooegiempaaGreatDoorJ8
set_option maxRecDepth 100000
set_option maxHeartbeats 6400000
namespace Go.Proofs.YtffajooegiempaaGreatDoor
variable {m m':Rd}
def BH:Rd->List Int->Nat->Nat×Option Rd
 |m,[],n=>(n,some m)
 |m,c::l,n=>match AM m c with
  |none=>(n,none)
  |some m'=>BH m' l (n+1)
theorem Hc{m0 m:Rd}{l:List Int}{k n:Nat}{c:Int}(h:En m0 (l.take k)=some m)(hc:l[k]?=some c)(hb:AM m c=none):BH m0 l n=(n+k,none):=by
 induction l generalizing m0 k n with
 |nil=>simp at hc
 |cons a l ih=>
  cases k with
  |zero=>
   simp[En]at h hc;subst h;subst hc;simp[BH,hb]
  |succ k=>
   simp only[List.take_succ_cons,En]at h;simp only[List.getElem?_cons_succ]at hc;simp only[BH];split at h
   ·cases h
   ·rename_i m1 e;try rw[e]
    try simp only
    rw[ih h hc];congr 1;omega
theorem EH{m0 m:Rd}{l:List Int}{n:Nat}(h:En m0 l=some m):BH m0 l n=(n+l.length,some m):=by
 induction l generalizing m0 n with
 |nil=>simp only[En]at h;cases h;rfl
 |cons a l ih=>
  simp only[En]at h;simp only[BH];split at h
  ·cases h
  ·rename_i m1 e;try rw[e]
   try simp only
   rw[ih h];simp only[List.length_cons];congr 1;omega
def BS(m:Rd):Bool:=decide (m.state=115)&&decide (m.op.length=0)
def Bv(l:List Int):Int×Int×Int:=
 if 160<l.length then(0,1,0)else match BH CY l 0 with
  |(n,none)=>(0,1,n)
  |(n,some m)=>if BS m then((m.st.length:Int)+1,0,0)else(0,1,n)
theorem El(hx:m.state=118\/m.state=86\/m.state=120\/m.state=121\/m.state=110)(c:Int):AM m c=AO m c:=by
 unfold AM;rw[if_neg (by omega),if_neg (by omega),if_pos hx]
theorem Hh(hx:m.state=59\/m.state=123)(c:Int):AM m c=Ac m c:=by
 unfold AM;rw[if_neg (by omega),if_neg (by omega),if_neg (by omega),if_pos hx]
theorem Cd(hx:m.state=99\/m.state=67\/m.state=100\/m.state=101\/m.state=102\/m.state=60\/m.state=98\/m.state=66\/m.state=109\/m.state=125)(c:Int):AM m c=AF m c:=by
 unfold AM;rw[if_neg (by omega),if_neg (by omega),if_neg (by omega),if_neg (by omega)]
theorem Dh(m:Rd):AG m=59\/AG m=123:=by
 unfold AG;split
 ·exact .inl rfl
 ·exact .inr rfl
theorem Hy(hn:0<m.st.length):AE m (cur m)=m:=by
 have h:=Ww hn;unfold AE;have:m.st.set (m.st.length-1) (cur m)=m.st:=by
  apply List.ext_getElem?;intro i;rw[List.getElem?_set];split
  ·rename_i e;subst e;rw[if_pos (by omega),h]
  ·rfl
 rw[this]
end Go.Proofs.YtffajooegiempaaGreatDoor
namespace Go.Proofs.YtffajooegiempaaGreatDoor
open Go.RowKit
abbrev tD:TypeId:=81
abbrev BB:TypeId:=119
def D9(w:World)(r:Nat)(s:ByteArray)(d:Nat×Bool)(vf:Value):Prop:=At w r #[.string s,.int .i64 d.1,.bool d.2,vf] tD
structure FT(r:Nat)(w w':World):Prop where
 os:w'.os=w.os
 tape:w'.tape=w.tape
 output:w'.output=w.output
 size:w'.heap.size=w.heap.size
 block:∀k,k≠r->w'.heap[k]?=w.heap[k]?
theorem FT.refl(r:Nat)(w:World):FT r w w:=⟨rfl,rfl,rfl,rfl,λ_ _=>rfl⟩
theorem FT.trans{r:Nat}{a b c:World}(h:FT r a b)(k:FT r b c):FT r a c:=⟨k.os.trans h.os,k.tape.trans h.tape,k.output.trans h.output,k.size.trans h.size,λi hi=>(k.block i hi).trans (h.block i hi)⟩
theorem FT.drewN{r:Nat}{a w:World}(h:FT r a w)(n:Nat):FT r a (w.drewN n):=⟨h.os,h.tape,h.output,h.size,h.block⟩
theorem FT.setCell{r:Nat}{a w:World}(h:FT r a w)(o:Nat)(u:Value):FT r a (w.setCell ⟨r,o,none⟩ u):=
 h.trans ⟨rfl,rfl,rfl,by simp[World.setCell],λk hk=>Below.heap_setCell _ _ _ _ hk⟩
theorem FT.at_{r q:Nat}{w w':World}{c:Array Value}{t:TypeId}(h:FT r w w')(ha:At w q c t)(hn:q≠r):At w' q c t:=ha.same (h.block q hn)
theorem D9.cells{w:World}{r:Nat}{s:ByteArray}{d:Nat×Bool}{vf:Value}(h:D9 w r s d vf):w.cell? ⟨r,0,none⟩=some (.string s)/\w.cell? ⟨r,1,none⟩=some (.int .i64 d.1)/\w.cell? ⟨r,2,none⟩=some (.bool d.2)/\w.cell? ⟨r,3,none⟩=some vf/\∀i,w.frozen? ⟨r,i,none⟩=false:=
 ⟨h.cell 0,h.cell 1,h.cell 2,h.cell 3,h.free⟩
theorem D9.drewN{w:World}{r:Nat}{s:ByteArray}{d:Nat×Bool}{vf:Value}(h:D9 w r s d vf)(k:Nat):D9 (w.drewN k) r s d vf:=h
theorem D9.step{w:World}{r:Nat}{s:ByteArray}{d:Nat×Bool}{vf:Value}(h:D9 w r s d vf):D9 (w.setCell ⟨r,1,none⟩ (.int .i64 ((d.1:Int)+1))) r s (d.1+1,d.2) vf:=by
 have:=At.put h 1 (.int .i64 ((d.1:Int)+1));exact this
theorem D9.stick{w:World}{r:Nat}{s:ByteArray}{d:Nat×Bool}{vf:Value}(h:D9 w r s d vf):D9 (w.setCell ⟨r,2,none⟩ (.bool true)) r s (d.1,true) vf:=by
 have:=At.put h 2 (.bool true);exact this
def pk(s:ByteArray)(d:Nat×Bool):Int:=if d.2 then 0 else(AA s).getD d.1 0
theorem Dw(s:ByteArray)(d:Nat×Bool):0<=pk s d/\pk s d<=255:=by
 unfold pk;split
 ·omega
 ·by_cases h:d.1<s.size
  ·rw[List.getD_eq_getElem?_getD,Ck s d.1 h];have:=(s[d.1]).toNat_lt;simp only[Option.getD_some];omega
  ·rw[List.getD_eq_getElem?_getD,List.getElem?_eq_none (by rw[AR];omega)];simp
def FK(x:Int×Int×Int):Ending:=.returned (.tuple #[.int .i64 x.1,.int .i64 x.2.1,.int .i64 x.2.2])
variable {w:World}{r:Nat}{s:ByteArray}{d:Nat×Bool}{vf:Value}
theorem Em(h:D9 w r s d vf)(_hs:s.size<=160)(hd:d.1<=160):
  Calls Tryz.prog 84 #[.pointer (some ⟨r,0,none⟩)] w λe w'=>e=.returned (.int .u8 (pk s d))/\∃k,w'=w.drewN k:=by
 obtain⟨c0,c1,c2,c3,cf⟩:=h.cells;obtain⟨a,b⟩:=d;simp only at c0 c1 c2 c3 hd;have a0:decide (((a:Nat):Int)<0)=false:=decide_eq_false (by omega);cases b
 ·by_cases hl:a<s.size
  ·have HP:Hid (pk s (a,false)=((s[a]).toNat:Int)):=by show pk s (a,false)=_;unfold pk;simp only[Bool.false_eq_true,if_false];rw[List.getD_eq_getElem?_getD,Ck s a hl];rfl
   have a1:decide (((s.size:Nat):Int)<=(a:Int))=false:=decide_eq_false (by omega);have i1:((a:Nat):Int)<((s.size:Nat):Int):=by omega
   clear h;go_enter Tryz.func84,Tryz.ntmps84;go_wp2;go_quiet (fail);go_wp2;go_quiet (fail);go_wp2;go_ret;exact⟨by rw[HP.out];rfl,_,World.drewN_drewN _ _ _⟩
  ·have HP:Hid (pk s (a,false)=0):=by show pk s (a,false)=_;unfold pk;simp only[Bool.false_eq_true,if_false];rw[List.getD_eq_getElem?_getD,List.getElem?_eq_none (by rw[AR];omega)];rfl
   have a1:decide (((s.size:Nat):Int)<=(a:Int))=true:=decide_eq_true (by omega);clear h;go_enter Tryz.func84,Tryz.ntmps84;go_wp2;go_quiet (fail);go_wp2;go_ret;exact⟨by rw[HP.out];rfl,_,rfl⟩
 ·clear h;go_enter Tryz.func84,Tryz.ntmps84;go_wp2;go_quiet (fail);go_wp2;go_ret;exact⟨rfl,_,rfl⟩
def LI(w:World)(r:Nat)(s:ByteArray)(vf:Value)(d':Nat×Bool)(v:Value):Ending->World->Prop:=λe w'=>e=.returned v/\D9 w' r s d' vf/\FT r w w'
def tk(s:ByteArray)(d:Nat×Bool)(c:Int):Bool×(Nat×Bool):=if pk s d=c then(true,(d.1+1,d.2))else(false,d)
def nd(s:ByteArray)(d:Nat×Bool)(c:Int):Nat×Bool:=if pk s d=c then(d.1+1,d.2)else(d.1,true)
theorem Hk(h:D9 w r s d vf)(hs:s.size<=160)(hd:d.1<=160)(c:Int):
  Calls Tryz.prog 157 #[.pointer (some ⟨r,0,none⟩),.int .u8 c] w (LI w r s vf (tk s d c).2 (.bool (tk s d c).1)):=by
 have hp:=Em h hs hd;obtain⟨c0,c1,c2,c3,cf⟩:=h.cells;have HD:Hid (D9 _ _ _ _ _):=h;clear h;by_cases hc:pk s d=c
 ·have HT:Hid (tk s d c=(true,(d.1+1,d.2))):=if_pos hc;subst hc;go_enter Tryz.func157,Tryz.ntmps157;go_wp2_with (go_at_call 84;refine hp.mono ?_;rintro e w' ⟨rfl,k,rfl⟩);go_ret;rw[HT.out];exact⟨rfl,(HD.out.drewN k).step,((FT.refl _ _).drewN _).setCell _ _⟩
 ·have HT:Hid (tk s d c=(false,d)):=if_neg hc;have bc:(pk s d != c)=true:=by simpa using hc
  clear hc;go_enter Tryz.func157,Tryz.ntmps157;go_wp2_with (go_at_call 84;refine hp.mono ?_;rintro e w' ⟨rfl,k,rfl⟩);go_ret;rw[HT.out];exact⟨rfl,HD.out.drewN k,(FT.refl _ _).drewN _⟩
theorem EU(h:D9 w r s d vf)(hs:s.size<=160)(hd:d.1<=160)(c:Int):
  Calls Tryz.prog 146 #[.pointer (some ⟨r,0,none⟩),.int .u8 c] w (LI w r s vf (nd s d c) (.tuple #[])):=by
 have hp:=Hk h hs hd c;clear h;by_cases hc:pk s d=c
 ·have HT:Hid (nd s d c=(d.1+1,d.2)):=if_pos hc;have hk:tk s d c=(true,(d.1+1,d.2)):=if_pos hc;rw[hk]at hp;clear hc hk;go_enter Tryz.func146,Tryz.ntmps146;go_wp2_with (go_at_call 157;refine hp.mono ?_;rintro e w' ⟨rfl,hD,hT⟩)
  go_end0
  rw[HT.out];exact⟨rfl,hD,hT⟩
 ·have HT:Hid (nd s d c=(d.1,true)):=if_neg hc;have hk:tk s d c=(false,d):=if_neg hc;rw[hk]at hp;clear hc hk;go_enter Tryz.func146,Tryz.ntmps146;go_wp2_with (go_at_call 157;refine hp.mono ?_;rintro e w' ⟨rfl,hD,hT⟩;obtain⟨c0,c1,c2,c3,cf⟩:=hD.cells;have HD:Hid (D9 _ _ _ _ _):=hD;clear hD)
  go_end0
  rw[HT.out];exact⟨rfl,HD.out.stick,hT.setCell _ _⟩
theorem DA{c:Int}(h:pk s d=c)(hc:c≠0):d.1<s.size/\d.2=false:=by
 unfold pk at h;split at h
 ·exact absurd h.symm hc
 ·rename_i hb;refine⟨?_,by simpa using hb⟩;rcases Nat.lt_or_ge d.1 s.size with h'|h'
  ·exact h'
  ·rw[List.getD_eq_getElem?_getD,List.getElem?_eq_none (by rw[AR];omega)]at h;exact absurd h.symm hc
def BA(d:Nat×Bool):Nat×Bool:=(d.1+1,d.2)
def Ez(d:Nat×Bool):Nat×Bool:=(d.1,true)
def BE(s:ByteArray)(d:Nat×Bool):Int×(Nat×Bool):=if pk s d=45 then(-1,BA d)else(1,d)
def Bq(s:ByteArray)(d:Nat×Bool)(not:Int):Int×(Nat×Bool):=if CJ (pk s d)= -1\/CJ (pk s d)=not then(0,Ez d)else(CJ (pk s d),BA d)
def Bh(s:ByteArray)(d:Nat×Bool)(sg:Int):Int×(Nat×Bool):=
 if pk s d=48/\0<sg then(0,BA d)
 else if pk s d<49\/57<pk s d then(0,Ez d)
 else if 48<=pk s (BA d)/\pk s (BA d)<=57 then(sg*(10*(pk s d-48)+(pk s (BA d)-48)),BA (BA d))
 else(sg*(pk s d-48),BA d)
def Az(s:ByteArray)(d:Nat×Bool):Int×(Nat×Bool):=
 if pk s d=43 then Bh s (BA d) 1
 else if pk s d=45 then(-(Bh s (BA d) 1).1,(Bh s (BA d) 1).2)
 else(0,d)
theorem Eu(hd:d.1<=s.size):(BE s d).2.1<=s.size:=by
 unfold BE;split
 ·rename_i h;have:=(DA h (by decide)).1;show d.1+1<=_;omega
 ·exact hd
theorem OT{c:Int}(h:CJ c≠ -1):97<=c/\c<=100:=by
 unfold CJ at h;split at h
 ·assumption
 ·exact absurd rfl h
theorem F0(hd:d.1<=s.size)(x:Int):(Bq s d x).2.1<=s.size:=by
 unfold Bq;split
 ·exact hd
 ·rename_i h;have h1:=OT (λe=>h (.inl e));have:=(DA (s:=s) (d:=d) rfl (by omega)).1;show d.1+1<=_;omega
theorem Hw(x:Int):0<=(Bq s d x).1/\(Bq s d x).1<=3:=by
 unfold Bq;split
 ·exact⟨by simp,by simp⟩
 ·rename_i h;have h1:=OT (λe=>h (.inl e));show 0<=CJ _/\CJ _<=3;unfold CJ;rw[if_pos h1];omega
theorem Jl(hd:d.1<=s.size)(x:Int):(Bh s d x).2.1<=s.size:=by
 unfold Bh;split
 ·rename_i h;have:=(DA h.1 (by decide)).1;show d.1+1<=_;omega
 split
 ·exact hd
 rename_i h1;have h2:=(DA (s:=s) (d:=d) rfl (by omega)).1;split
 ·rename_i h3;have:=(DA (s:=s) (d:=BA d) rfl (by omega)).1;show(BA d).1+1<=_;omega
 ·show d.1+1<=_;omega
theorem PW(x:Int)(hx:x=1\/x= -1): -99<=(Bh s d x).1/\(Bh s d x).1<=99:=by
 have p1:=Dw s d;have p2:=Dw s (BA d);unfold Bh;split
 ·exact⟨by simp,by simp⟩
 split
 ·exact⟨by simp,by simp⟩
 split
 ·show -99<=x*_/\x*_<=99;rcases hx with rfl|rfl<;>omega
 ·show -99<=x*_/\x*_<=99;rcases hx with rfl|rfl<;>omega
theorem Fn(h:D9 w r s d vf)(hs:s.size<=160)(hd:d.1<=s.size):
  Calls Tryz.prog 158 #[.pointer (some ⟨r,0,none⟩)] w (LI w r s vf (BE s d).2 (.int .i64 (BE s d).1)):=by
 have hp:=Hk h hs (by omega) 45;clear h;by_cases hc:pk s d=45
 ·have HT:Hid (BE s d=(-1,BA d)):=if_pos hc;have hk:tk s d 45=(true,BA d):=if_pos hc;rw[hk]at hp;clear hc hk;go_enter Tryz.func158,Tryz.ntmps158;go_wp2_with (go_at_call 157;refine hp.mono ?_;rintro e w' ⟨rfl,hD,hT⟩);go_ret;rw[HT.out];exact⟨rfl,hD,hT⟩
 ·have HT:Hid (BE s d=(1,d)):=if_neg hc;have hk:tk s d 45=(false,d):=if_neg hc;rw[hk]at hp;clear hc hk;go_enter Tryz.func158,Tryz.ntmps158;go_wp2_with (go_at_call 157;refine hp.mono ?_;rintro e w' ⟨rfl,hD,hT⟩);go_ret;rw[HT.out];exact⟨rfl,hD,hT⟩
theorem Ec(c:Int)(w:World)(h0:0<=c)(h1:c<=255):
  Calls Tryz.prog 159 #[.int .u8 c] w λe w'=>e=.returned (.int .i64 (CJ c))/\w'=w:=by
 unfold CJ;by_cases ha:97<=c
 ·by_cases hb:c<=100
  ·go_enter Tryz.func159,Tryz.ntmps159;go_wp2;go_ret;exact⟨rfl,rfl⟩
  ·go_enter Tryz.func159,Tryz.ntmps159;go_wp2;go_ret;exact⟨rfl,rfl⟩
 ·go_enter Tryz.func159,Tryz.ntmps159;go_wp2;go_ret;exact⟨rfl,rfl⟩
theorem C8(h:D9 w r s d vf)(hs:s.size<=160)(hd:d.1<=s.size)(x:Int):
  Calls Tryz.prog 156 #[.pointer (some ⟨r,0,none⟩),.int .i64 x] w (LI w r s vf (Bq s d x).2 (.int .i64 (Bq s d x).1)):=by
 have hp:=Em h hs (by omega);obtain⟨p0,p1⟩:=Dw s d;obtain⟨c0,c1,c2,c3,cf⟩:=h.cells;have HD:Hid (D9 _ _ _ _ _):=h;clear h;by_cases hv:CJ (pk s d)= -1
 ·have HT:Hid (Bq s d x=(0,Ez d)):=if_pos (.inl hv);have hvo:=λw=>Ec (pk s d) w p0 p1;rw[hv]at hvo;clear hv;go_enter Tryz.func156,Tryz.ntmps156;go_wp2_with (first|(go_at_call 84;refine hp.mono ?_;rintro e w' ⟨rfl,k,rfl⟩)|(go_at_call 159;refine(hvo _).mono ?_;rintro e w' ⟨rfl,rfl⟩));go_ret;rw[HT.out];exact⟨rfl,(HD.out.drewN k).stick,((FT.refl _ _).drewN _).setCell _ _⟩
 ·have bv:(CJ (pk s d)== -1)=false:=by simpa using hv
  have hvo:=λw=>Ec (pk s d) w p0 p1;by_cases hx:CJ (pk s d)=x
  ·have HT:Hid (Bq s d x=(0,Ez d)):=if_pos (.inr hx);have bx:(CJ (pk s d)==x)=true:=by simpa using hx
   clear hv hx;generalize CJ (pk s d)=v at *;go_enter Tryz.func156,Tryz.ntmps156;go_wp2_with (first|(go_at_call 84;refine hp.mono ?_;rintro e w' ⟨rfl,k,rfl⟩)|(go_at_call 159;refine(hvo _).mono ?_;rintro e w' ⟨rfl,rfl⟩));go_ret;rw[HT.out];exact⟨rfl,(HD.out.drewN k).stick,((FT.refl _ _).drewN _).setCell _ _⟩
  ·have HT:Hid (Bq s d x=(CJ (pk s d),BA d)):=if_neg (λe=>e.elim hv hx);have bx:(CJ (pk s d)==x)=false:=by simpa using hx
   clear hv hx;generalize CJ (pk s d)=v at *;go_enter Tryz.func156,Tryz.ntmps156;go_wp2_with (first|(go_at_call 84;refine hp.mono ?_;rintro e w' ⟨rfl,k,rfl⟩)|(go_at_call 159;refine(hvo _).mono ?_;rintro e w' ⟨rfl,rfl⟩));go_ret;rw[HT.out];exact⟨rfl,(HD.out.drewN k).step,((FT.refl _ _).drewN _).setCell _ _⟩
theorem D9.steps(h:D9 w r s d vf):D9 (w.setCell ⟨r,1,none⟩ (.int .i64 ((d.1:Int)+1))) r s (BA d) vf:=h.step
theorem Eb(h:D9 w r s d vf)(hs:s.size<=160)(hd:d.1<=s.size)(x:Int)(hx:x=1\/x= -1):
  Calls Tryz.prog 160 #[.pointer (some ⟨r,0,none⟩),.int .i64 x] w (LI w r s vf (Bh s d x).2 (.int .i64 (Bh s d x).1)):=by
 have hp:=Em h hs (by omega);obtain⟨p0,p1⟩:=Dw s d;obtain⟨q0,q1⟩:=Dw s (BA d);obtain⟨c0,c1,c2,c3,cf⟩:=h.cells;have x0: -1<=x:=by omega
 have x1:x<=1:=by omega
 have HD:Hid (D9 _ _ _ _ _):=h;clear h;by_cases hz:pk s d=48/\0<x
 ·have HT:Hid (Bh s d x=(0,BA d)):=if_pos hz;obtain⟨hz,hx0⟩:=hz;rw[hz]at hp;clear hz hx;go_enter Tryz.func160,Tryz.ntmps160;go_wp2_with (go_at_call 84;refine hp.mono ?_;rintro e w' ⟨rfl,k,rfl⟩);go_ret;rw[HT.out];exact⟨rfl,(HD.out.drewN k).step,((FT.refl _ _).drewN _).setCell _ _⟩
 by_cases hn:pk s d<49\/57<pk s d
 ·have HT:Hid (Bh s d x=(0,Ez d)):=by show Bh s d x=_;unfold Bh;rw[if_neg hz,if_pos hn]
  by_cases h48:pk s d=48
  ·have hx1:x= -1:=by
    rcases hx with e|e
    ·exact absurd ⟨h48,by omega⟩ hz
    ·exact e
   subst hx1;rw[h48]at hp;clear hz hn h48 hx;go_enter Tryz.func160,Tryz.ntmps160;go_wp2_with (go_at_call 84;refine hp.mono ?_;rintro e w' ⟨rfl,k,rfl⟩);go_ret;rw[HT.out];exact⟨rfl,(HD.out.drewN k).stick,((FT.refl _ _).drewN _).setCell _ _⟩
  ·have b48:(pk s d==48)=false:=by simpa using h48
   clear hz h48 hx;generalize pk s d=c at *;rcases hn with hn|hn
   ·go_enter Tryz.func160,Tryz.ntmps160;go_wp2_with (go_at_call 84;refine hp.mono ?_;rintro e w' ⟨rfl,k,rfl⟩);go_ret;rw[HT.out];exact⟨rfl,(HD.out.drewN k).stick,((FT.refl _ _).drewN _).setCell _ _⟩
   ·go_enter Tryz.func160,Tryz.ntmps160;go_wp2_with (go_at_call 84;refine hp.mono ?_;rintro e w' ⟨rfl,k,rfl⟩);go_ret;rw[HT.out];exact⟨rfl,(HD.out.drewN k).stick,((FT.refl _ _).drewN _).setCell _ _⟩
 ·have n49:49<=pk s d:=by omega
  have n57:pk s d<=57:=by omega
  have b48:(pk s d==48)=false:=by simp;omega
  have hlt:=(DA (s:=s) (d:=d) rfl (by omega)).1;by_cases h2:48<=pk s (BA d)/\pk s (BA d)<=57
  ·have HT:Hid (Bh s d x=(x*(10*(pk s d-48)+(pk s (BA d)-48)),BA (BA d))):=by show Bh s d x=_;unfold Bh;rw[if_neg hz,if_neg hn,if_pos h2]
   obtain⟨m0,m1⟩:=h2;have HW:Hid (_=_):=(show wrap64 (x*(10*(pk s d-48)+(pk s (BA d)-48)))=x*(10*(pk s d-48)+(pk s (BA d)-48))from IX _ _ x0 x1 (by omega) (by omega))
   have hp2:=λk=>Em (d:=BA d) (HD.out.drewN k).steps hs (by show d.1+1<=160;omega);clear hz hn hx;generalize pk s (BA d)=c2 at *;generalize pk s d=c at *;go_enter Tryz.func160,Tryz.ntmps160;go_wp2_with fail;refine hp.mono ?_;rintro e w' ⟨rfl,k,rfl⟩;go_wp2_with fail;refine(hp2 k).mono ?_;rintro e w' ⟨rfl,k2,rfl⟩;go_wp2;go_ret;rw[HT.out];exact⟨congrArg (λz=>Ending.returned (Value.int IntKind.i64 z)) HW.out,(((HD.out.drewN k).steps).drewN k2).step,((((FT.refl _ _).drewN _).setCell _ _).drewN _).setCell _ _⟩
  ·have HT:Hid (Bh s d x=(x*(pk s d-48),BA d)):=by show Bh s d x=_;unfold Bh;rw[if_neg hz,if_neg hn,if_neg h2]
   have HW:Hid (_=_):=(show wrap64 (x*(pk s d-48))=x*(pk s d-48)from IX _ _ x0 x1 (by omega) (by omega))
   have hp2:=λk=>Em (d:=BA d) (HD.out.drewN k).steps hs (by show d.1+1<=160;omega);clear hz hn hx;generalize pk s (BA d)=c2 at *;generalize pk s d=c at *;by_cases m0:48<=c2
   ·have m1:57<c2:=by omega
    go_enter Tryz.func160,Tryz.ntmps160;go_wp2_with fail;refine hp.mono ?_;rintro e w' ⟨rfl,k,rfl⟩;go_wp2_with fail;refine(hp2 k).mono ?_;rintro e w' ⟨rfl,k2,rfl⟩;go_wp2;go_ret;rw[HT.out];exact⟨congrArg (λz=>Ending.returned (Value.int IntKind.i64 z)) HW.out,((HD.out.drewN k).steps).drewN k2,(((FT.refl _ _).drewN _).setCell _ _).drewN _⟩
   ·go_enter Tryz.func160,Tryz.ntmps160;go_wp2_with fail;refine hp.mono ?_;rintro e w' ⟨rfl,k,rfl⟩;go_wp2_with fail;refine(hp2 k).mono ?_;rintro e w' ⟨rfl,k2,rfl⟩;go_wp2;go_ret;rw[HT.out];exact⟨congrArg (λz=>Ending.returned (Value.int IntKind.i64 z)) HW.out,((HD.out.drewN k).steps).drewN k2,(((FT.refl _ _).drewN _).setCell _ _).drewN _⟩
end Go.Proofs.YtffajooegiempaaGreatDoor
namespace Go.Proofs.YtffajooegiempaaGreatDoor
open Go.RowKit
variable {w:World}{r q:Nat}{s:ByteArray}{d:Nat×Bool}{vf:Value}
structure Ds where
 kind:Int
 target:Int
 any:Bool
 sg:List Int
 num:Int
 parent:Int
 block:Int
def AB(l:List Int)(i:Nat):Int:=l.getD i 0
def AD(x:Ds):Array Value:=#[.int .i64 x.kind,.int .i64 x.target,.bool x.any,.int .i64 (AB x.sg 0),.int .i64 (AB x.sg 1),.int .i64 (AB x.sg 2),.int .i64 (AB x.sg 3),.int .i64 x.num,.int .i64 x.parent,.int .i64 x.block]
def BQ(w:World)(q:Nat)(x:Ds):Prop:=At w q (AD x) BB
structure D_(r q:Nat)(w w':World):Prop where
 os:w'.os=w.os
 tape:w'.tape=w.tape
 output:w'.output=w.output
 size:w'.heap.size=w.heap.size
 block:∀k,k≠r->k≠q->w'.heap[k]?=w.heap[k]?
theorem D_.refl(r q:Nat)(w:World):D_ r q w w:=⟨rfl,rfl,rfl,rfl,λ_ _ _=>rfl⟩
theorem D_.trans{a b c:World}(h:D_ r q a b)(k:D_ r q b c):D_ r q a c:=⟨k.os.trans h.os,k.tape.trans h.tape,k.output.trans h.output,k.size.trans h.size,λi h1 h2=>(k.block i h1 h2).trans (h.block i h1 h2)⟩
theorem FT.two{a b:World}(h:FT r a b)(q:Nat):D_ r q a b:=⟨h.os,h.tape,h.output,h.size,λi h1 _=>h.block i h1⟩
theorem D_.setCell{a w:World}(h:D_ r q a w)(o:Nat)(u:Value):D_ r q a (w.setCell ⟨q,o,none⟩ u):=
 h.trans ⟨rfl,rfl,rfl,by simp[World.setCell],λk _ hk=>Below.heap_setCell _ _ _ _ hk⟩
theorem D_.drewN{a w:World}(h:D_ r q a w)(n:Nat):D_ r q a (w.drewN n):=⟨h.os,h.tape,h.output,h.size,h.block⟩
theorem BQ.cells{x:Ds}(h:BQ w q x):w.cell? ⟨q,0,none⟩=some (.int .i64 x.kind)/\w.cell? ⟨q,1,none⟩=some (.int .i64 x.target)/\w.cell? ⟨q,2,none⟩=some (.bool x.any)/\w.cell? ⟨q,3,none⟩=some (.int .i64 (AB x.sg 0))/\w.cell? ⟨q,4,none⟩=some (.int .i64 (AB x.sg 1))/\w.cell? ⟨q,5,none⟩=some (.int .i64 (AB x.sg 2))/\w.cell? ⟨q,6,none⟩=some (.int .i64 (AB x.sg 3))/\w.cell? ⟨q,7,none⟩=some (.int .i64 x.num)/\w.cell? ⟨q,8,none⟩=some (.int .i64 x.parent)/\w.cell? ⟨q,9,none⟩=some (.int .i64 x.block)/\∀i,w.frozen? ⟨q,i,none⟩=false:=
 ⟨h.cell 0,h.cell 1,h.cell 2,h.cell 3,h.cell 4,h.cell 5,h.cell 6,h.cell 7,h.cell 8,h.cell 9,h.free⟩
theorem BQ.drewN{x:Ds}(h:BQ w q x)(k:Nat):BQ (w.drewN k) q x:=h
theorem BQ.setAny{x:Ds}(h:BQ w q x)(b:Bool):BQ (w.setCell ⟨q,2,none⟩ (.bool b)) q {x with any:=b}:=At.put h 2 (.bool b)
theorem BQ.setNum{x:Ds}(h:BQ w q x)(n:Int):BQ (w.setCell ⟨q,7,none⟩ (.int .i64 n)) q {x with num:=n}:=At.put h 7 (.int .i64 n)
theorem BQ.setKind{x:Ds}(h:BQ w q x)(n:Int):BQ (w.setCell ⟨q,0,none⟩ (.int .i64 n)) q {x with kind:=n}:=At.put h 0 (.int .i64 n)
theorem BQ.setTarget{x:Ds}(h:BQ w q x)(n:Int):BQ (w.setCell ⟨q,1,none⟩ (.int .i64 n)) q {x with target:=n}:=At.put h 1 (.int .i64 n)
theorem BQ.setSg{x:Ds}(h:BQ w q x)(hl:x.sg.length=4)(v:Nat)(hv:v<4)(n:Int):BQ (w.setCell ⟨q,3+v,none⟩ (.int .i64 n)) q {x with sg:=x.sg.set v n}:=by
 have:=At.put h (3+v) (.int .i64 n);unfold BQ;have e:AD {x with sg:=x.sg.set v n}=(AD x).setIfInBounds (3+v) (.int .i64 n):=by
  obtain⟨kd,tg,an,sg,nm,pa,bl⟩:=x
  match sg,hl with
  |[a,b,c,e],_=>
   match v,hv with
   |0,_=>rfl
   |1,_=>rfl
   |2,_=>rfl
   |3,_=>rfl
 rw[e];exact this
theorem BQ.ne{x:Ds}(h:BQ w q x)(k:D9 w r s d vf):q≠r:=At.ne h k (by decide)
theorem BQ.keep{x:Ds}{w':World}(h:BQ w q x)(t:FT r w w')(hn:q≠r):BQ w' q x:=t.at_ h hn
theorem D9.keepq{u:Value}(h:D9 w r s d vf)(o:Nat)(hn:q≠r):D9 (w.setCell ⟨q,o,none⟩ u) r s d vf:=At.other h o u (λe=>hn e.symm)
theorem Gk{x:Ds}(h:BQ w q x)(_hl:x.sg.length=4)(v:Int)(hv0:0<=v)(hv3:v<=3)(n:Int):
  Calls Tryz.prog 161 #[.pointer (some ⟨q,0,none⟩),.int .i64 v,.int .i64 n] w λe w'=>e=.returned (.tuple #[])/\w'=w.setCell ⟨q,3+v.toNat,none⟩ (.int .i64 n):=by
 obtain⟨c0,c1,c2,c3,c4,c5,c6,c7,c8,c9,cf⟩:=h.cells;clear h;rcases(show v=0\/v=1\/v=2\/v=3 by omega)with rfl|rfl|rfl|rfl;all_goals
  go_enter Tryz.func161,Tryz.ntmps161;go_wp2
  go_end0
  exact⟨rfl,rfl⟩
theorem Kz(h:D9 w r s d vf)(hs:s.size<=160)(hd:d.1<=s.size):
  Calls Tryz.prog 162 #[.pointer (some ⟨r,0,none⟩)] w (LI w r s vf (Az s d).2 (.int .i64 (Az s d).1)):=by
 have hp:=Hk h hs (by omega) 43;have HD:Hid (D9 _ _ _ _ _):=h;clear h;by_cases hc:pk s d=43
 ·have HT:Hid (Az s d=Bh s (BA d) 1):=if_pos hc;have hk:tk s d 43=(true,BA d):=if_pos hc;have hlt:=(DA hc (by decide)).1;rw[hk]at hp;clear hc hk;go_enter Tryz.func162,Tryz.ntmps162;go_wp2_with (go_at_call 157;refine hp.mono ?_;rintro e w' ⟨rfl,hD,hT⟩);refine(Eb hD hs (by show d.1+1<=s.size;omega) 1 (.inl rfl)).mono ?_;rintro e w2 ⟨rfl,hD2,hT2⟩;go_wp2;go_ret;rw[HT.out];exact⟨rfl,hD2,hT.trans hT2⟩
 ·have hk:tk s d 43=(false,d):=if_neg hc;rw[hk]at hp;clear hk;by_cases hm:pk s d=45
  ·have HT:Hid (Az s d=(-(Bh s (BA d) 1).1,(Bh s (BA d) 1).2)):=by show Az s d=_;unfold Az;rw[if_neg hc,if_pos hm]
   have hk2:tk s d 45=(true,BA d):=if_pos hm;have hlt:=(DA hm (by decide)).1;obtain⟨g0,g1⟩:=PW (s:=s) (d:=BA d) 1 (.inl rfl);have HK:Hid (_=_):=hk2;clear hc hm hk2;go_enter Tryz.func162,Tryz.ntmps162;go_wp2_with fail;refine hp.mono ?_;rintro e w' ⟨rfl,hD,hT⟩;go_wp2_with fail;have hq:=Hk hD hs (by omega) 45;rw[HK.out]at hq;refine hq.mono ?_;rintro e w2 ⟨rfl,hD2,hT2⟩;go_wp2_with fail;refine(Eb hD2 hs (by show d.1+1<=s.size;omega) 1 (.inl rfl)).mono ?_;rintro e w3 ⟨rfl,hD3,hT3⟩;go_wp2;go_ret;rw[HT.out];exact⟨rfl,hD3,(hT.trans hT2).trans hT3⟩
  ·have HT:Hid (Az s d=(0,d)):=by show Az s d=_;unfold Az;rw[if_neg hc,if_neg hm]
   have hk2:tk s d 45=(false,d):=if_neg hm;have HK:Hid (_=_):=hk2;clear hc hm hk2;go_enter Tryz.func162,Tryz.ntmps162;go_wp2_with fail;refine hp.mono ?_;rintro e w' ⟨rfl,hD,hT⟩;go_wp2_with fail;have hq:=Hk hD hs (by omega) 45;rw[HK.out]at hq;refine hq.mono ?_;rintro e w2 ⟨rfl,hD2,hT2⟩;go_wp2;go_ret;rw[HT.out];exact⟨rfl,hD2,hT.trans hT2⟩
end Go.Proofs.YtffajooegiempaaGreatDoor
namespace Go.Proofs.YtffajooegiempaaGreatDoor
open Go.RowKit
variable {w:World}{r q:Nat}{s:ByteArray}{d:Nat×Bool}{vf:Value}{x:Ds}
def Ao(s:ByteArray)(d:Nat×Bool)(x:Ds):Ds×(Nat×Bool):=
 if pk s d=42 then({x with any:=true},BA d)
 else if CJ (pk s (BE s d).2)= -1 then({x with any:=false,num:=(Bh s (BE s d).2 (BE s d).1).1},(Bh s (BE s d).2 (BE s d).1).2)
 else({x with any:=false,sg:=x.sg.set (Bq s (BE s d).2 (-1)).1.toNat (BE s d).1,num:=(Az s (Bq s (BE s d).2 (-1)).2).1},(Az s (Bq s (BE s d).2 (-1)).2).2)
def Aw(s:ByteArray)(d:Nat×Bool)(x:Ds)(first:Int):Ds×(Nat×Bool):=
 if pk s d=43\/pk s d=45 then({x with sg:=x.sg.set (Bq s (BA d) first).1.toNat (if pk s d=45 then -1 else 1)},(Bq s (BA d) first).2)
 else(x,d)
def BR(s:ByteArray)(d:Nat×Bool)(x:Ds):Ds×(Nat×Bool):=
 if pk s d=42 then({x with any:=true},BA d)
 else
  let g:=BE s d
  let v:=Bq s g.2 (-1)
  let y:=Aw s v.2 {x with any:=false,sg:=x.sg.set v.1.toNat g.1} v.1
  let h:=BE s (nd s (nd s y.2 60) 61)
  let n:=Bh s h.2 h.1
  ({y.1 with num:=n.1},n.2)
theorem Ih(s:ByteArray)(d:Nat×Bool):(BE s d).1=1\/(BE s d).1= -1:=by
 unfold BE;split
 ·exact .inr rfl
 ·exact .inl rfl
theorem G9(hd:d.1<=s.size){c:Int}(hc:c≠0):(nd s d c).1<=s.size:=by
 unfold nd;split
 ·rename_i h;have:=(DA h hc).1;show d.1+1<=_;omega
 ·exact hd
theorem OD(hd:d.1<=s.size):(Az s d).2.1<=s.size:=by
 unfold Az;split
 ·rename_i h;have:=(DA h (by decide)).1;exact Jl (by show d.1+1<=_;omega) 1
 split
 ·rename_i h;have:=(DA h (by decide)).1;exact Jl (d:=BA d) (by show d.1+1<=_;omega) 1
 ·exact hd
theorem KS(hd:d.1<=s.size)(f:Int):(Aw s d x f).2.1<=s.size:=by
 unfold Aw;split
 ·rename_i h;have:d.1<s.size:=by
   rcases h with h|h
   ·exact(DA h (by decide)).1
   ·exact(DA h (by decide)).1
  exact F0 (d:=BA d) (by show d.1+1<=_;omega) f
 ·exact hd
theorem OC(hl:x.sg.length=4)(f:Int):(Aw s d x f).1.sg.length=4:=by
 unfold Aw;split
 ·show(x.sg.set _ _).length=4;rw[List.length_set];exact hl
 ·exact hl
def SQ(w:World)(r q:Nat)(s:ByteArray)(vf:Value)(y:Ds×(Nat×Bool)):Ending->World->Prop:=λe w'=>e=.returned (.tuple #[])/\D9 w' r s y.2 vf/\BQ w' q y.1/\D_ r q w w'
theorem Nf(h:D9 w r s d vf)(hq:BQ w q x)(hl:x.sg.length=4)(hs:s.size<=160)(hd:d.1<=s.size):
  Calls Tryz.prog 147 #[.pointer (some ⟨r,0,none⟩),.pointer (some ⟨q,0,none⟩)] w (SQ w r q s vf (Ao s d x)):=by
 have hp:=Hk h hs (by omega) 42;have hn:=hq.ne h;have HD:Hid (D9 _ _ _ _ _):=h;have HQ:Hid (BQ _ _ _):=hq;clear h hq;by_cases hc:pk s d=42
 ·have HT:Hid (Ao s d x=({x with any:=true},BA d)):=if_pos hc;have hk:tk s d 42=(true,BA d):=if_pos hc;rw[hk]at hp;clear hc hk;go_enter Tryz.func147,Tryz.ntmps147;go_wp2_with fail;refine(hp).mono ?_;rintro e w1 ⟨rfl,hD1,hT1⟩;have hq1:=HQ.out.keep hT1 hn;obtain⟨c0,c1,c2,c3,c4,c5,c6,c7,c8,c9,cf⟩:=hq1.cells;have HQ1:Hid (BQ _ _ _):=hq1;clear hq1;go_wp2
  go_end0
  rw[HT.out];exact⟨rfl,hD1.keepq 2 hn,HQ1.out.setAny true,(hT1.two q).setCell _ _⟩
 ·have hk:tk s d 42=(false,d):=if_neg hc;rw[hk]at hp;clear hk;have hg:=Ih s d;have hgl:=Eu (s:=s) (d:=d) hd;obtain⟨p0,p1⟩:=Dw s (BE s d).2;have hvr:=Hw (s:=s) (d:=(BE s d).2) (-1);have hvl:=F0 (s:=s) (d:=(BE s d).2) hgl (-1);by_cases hv:CJ (pk s (BE s d).2)= -1
  ·have HT:Hid (Ao s d x=({x with any:=false,num:=(Bh s (BE s d).2 (BE s d).1).1},(Bh s (BE s d).2 (BE s d).1).2)):=by show Ao s d x=_;unfold Ao;rw[if_neg hc,if_pos hv]
   have HV:Hid (_=_):=hv;clear hc hv;go_enter Tryz.func147,Tryz.ntmps147;go_wp2_with fail;refine(hp).mono ?_;rintro e w1 ⟨rfl,hD1,hT1⟩;have hq1:=HQ.out.keep hT1 hn;obtain⟨c0,c1,c2,c3,c4,c5,c6,c7,c8,c9,cf⟩:=hq1.cells;have HQ1:Hid (BQ _ _ _):=hq1.setAny false;have HD1:Hid (D9 _ _ _ _ _):=hD1.keepq (u:=.bool false) 2 hn;clear hq1 hD1;go_wp2_with fail;refine(Fn HD1.out hs hd).mono ?_;rintro e w2 ⟨rfl,hD2,hT2⟩;go_wp2_with fail;refine(Em hD2 hs (by omega)).mono ?_;rintro e w3 ⟨rfl,k3,rfl⟩;have hvo:=Ec (pk s (BE s d).2) (w2.drewN k3) p0 p1;rw[HV.out]at hvo;go_wp2_with fail;refine hvo.mono ?_;rintro e w4 ⟨rfl,rfl⟩;go_wp2_with fail;refine(Eb (hD2.drewN k3) hs hgl (BE s d).1 hg).mono ?_;rintro e w5 ⟨rfl,hD5,hT5⟩;have hq5:=((HQ1.out.keep hT2 hn).drewN k3).keep hT5 hn;obtain⟨c0,c1,c2,c3,c4,c5,c6,c7,c8,c9,cf⟩:=hq5.cells;have HQ5:Hid (BQ _ _ _):=hq5;clear hq5;go_wp2
   go_end0
   rw[HT.out];exact⟨rfl,hD5.keepq 7 hn,HQ5.out.setNum _,((((((hT1.two q).setCell _ _).trans (hT2.two q)).drewN _).trans (hT5.two q))).setCell _ _⟩
  ·have HT:Hid (Ao s d x=({x with any:=false,sg:=x.sg.set (Bq s (BE s d).2 (-1)).1.toNat (BE s d).1,num:=(Az s (Bq s (BE s d).2 (-1)).2).1},(Az s (Bq s (BE s d).2 (-1)).2).2)):=by show Ao s d x=_;unfold Ao;rw[if_neg hc,if_neg hv]
   have bv:(CJ (pk s (BE s d).2)== -1)=false:=by simpa using hv
   clear hc hv;go_enter Tryz.func147,Tryz.ntmps147;go_wp2_with fail;refine(hp).mono ?_;rintro e w1 ⟨rfl,hD1,hT1⟩;have hq1:=HQ.out.keep hT1 hn;obtain⟨c0,c1,c2,c3,c4,c5,c6,c7,c8,c9,cf⟩:=hq1.cells;have HQ1:Hid (BQ _ _ _):=hq1.setAny false;have HD1:Hid (D9 _ _ _ _ _):=hD1.keepq (u:=.bool false) 2 hn;clear hq1 hD1;go_wp2_with fail;refine(Fn HD1.out hs hd).mono ?_;rintro e w2 ⟨rfl,hD2,hT2⟩;go_wp2_with fail;refine(Em hD2 hs (by omega)).mono ?_;rintro e w3 ⟨rfl,k3,rfl⟩;go_wp2_with fail;refine(Ec (pk s (BE s d).2) (w2.drewN k3) p0 p1).mono ?_;rintro e w4 ⟨rfl,rfl⟩;go_wp2_with fail;refine(C8 (hD2.drewN k3) hs hgl (-1)).mono ?_;rintro e w5 ⟨rfl,hD5,hT5⟩;have hq5:=((HQ1.out.keep hT2 hn).drewN k3).keep hT5 hn;have HQ5:Hid (BQ _ _ _):=hq5;clear hq5;go_wp2_with fail;refine(Gk HQ5.out hl _ hvr.1 hvr.2 _).mono ?_;rintro e w6 ⟨rfl,rfl⟩;have HQ6:Hid (BQ _ _ _):=HQ5.out.setSg hl (Bq s (BE s d).2 (-1)).1.toNat (by omega) (BE s d).1;have HD6:Hid (D9 _ _ _ _ _):=hD5.keepq (u:=.int .i64 (BE s d).1) (3+(Bq s (BE s d).2 (-1)).1.toNat) hn;go_wp2_with fail;refine(Kz HD6.out hs hvl).mono ?_;rintro e w7 ⟨rfl,hD7,hT7⟩;have hq7:=HQ6.out.keep hT7 hn;obtain⟨c0,c1,c2,c3,c4,c5,c6,c7,c8,c9,cf⟩:=hq7.cells;have HQ7:Hid (BQ _ _ _):=hq7;clear hq7;go_wp2
   go_end0
   rw[HT.out];exact⟨rfl,hD7.keepq 7 hn,HQ7.out.setNum _,((((((((hT1.two q).setCell _ _).trans (hT2.two q)).drewN _).trans (hT5.two q)).setCell _ _).trans (hT7.two q))).setCell _ _⟩
theorem ML(h:D9 w r s d vf)(hq:BQ w q x)(hl:x.sg.length=4)(hs:s.size<=160)(hd:d.1<=s.size)(f:Int):
  Calls Tryz.prog 163 #[.pointer (some ⟨r,0,none⟩),.pointer (some ⟨q,0,none⟩),.int .i64 f] w (SQ w r q s vf (Aw s d x f)):=by
 have hp:=Em h hs (by omega);obtain⟨p0,p1⟩:=Dw s d;have hn:=hq.ne h;have HD:Hid (D9 _ _ _ _ _):=h;have HQ:Hid (BQ _ _ _):=hq;clear h hq;by_cases hc:pk s d=43\/pk s d=45
 ·have hlt:d.1<s.size:=by
   rcases hc with h|h
   ·exact(DA h (by decide)).1
   ·exact(DA h (by decide)).1
  have hnd:∀c,pk s d=c->nd s d c=BA d:=λc h=>if_pos h;have hvr:=Hw (s:=s) (d:=BA d) f;have hvl:=F0 (s:=s) (d:=BA d) (by show d.1+1<=_;omega) f;have HT:Hid (Aw s d x f=({x with sg:=x.sg.set (Bq s (BA d) f).1.toNat (if pk s d=45 then -1 else 1)},(Bq s (BA d) f).2)):=if_pos hc;rcases hc with hc|hc
  ·rw[hc]at hp;have HT2:Hid (Aw s d x f=({x with sg:=x.sg.set (Bq s (BA d) f).1.toNat 1},(Bq s (BA d) f).2)):=HT.out.trans (by rw[hc];rfl);have HN:Hid (nd s d 43=BA d):=hnd 43 hc;clear hc hnd HT;go_enter Tryz.func163,Tryz.ntmps163;go_wp2_with fail;refine hp.mono ?_;rintro e w1 ⟨rfl,k,rfl⟩;have hne:=EU (HD.out.drewN k) hs (by omega) 43;rw[HN.out]at hne;go_wp2_with fail;refine(hne).mono ?_;rintro e w2 ⟨rfl,hD2,hT2⟩;go_wp2_with fail;refine(C8 hD2 hs (by show d.1+1<=_;omega) f).mono ?_;rintro e w3 ⟨rfl,hD3,hT3⟩;have HQ3:Hid (BQ _ _ _):=((HQ.out.drewN k).keep hT2 hn).keep hT3 hn;go_wp2_with fail;refine(Gk HQ3.out hl _ hvr.1 hvr.2 _).mono ?_;rintro e w4 ⟨rfl,rfl⟩;go_wp2
   go_end0
   rw[HT2.out];exact⟨rfl,hD3.keepq _ hn,HQ3.out.setSg hl _ (by omega) _,((((((D_.refl r q _).drewN _).trans (hT2.two q)).trans (hT3.two q)))).setCell _ _⟩
  ·rw[hc]at hp;have HT2:Hid (Aw s d x f=({x with sg:=x.sg.set (Bq s (BA d) f).1.toNat (-1)},(Bq s (BA d) f).2)):=HT.out.trans (by rw[hc];rfl);have HN:Hid (nd s d 45=BA d):=hnd 45 hc;clear hc hnd HT;go_enter Tryz.func163,Tryz.ntmps163;go_wp2_with fail;refine hp.mono ?_;rintro e w1 ⟨rfl,k,rfl⟩;have hne:=EU (HD.out.drewN k) hs (by omega) 45;rw[HN.out]at hne;go_wp2_with fail;refine(hne).mono ?_;rintro e w2 ⟨rfl,hD2,hT2⟩;go_wp2_with fail;refine(C8 hD2 hs (by show d.1+1<=_;omega) f).mono ?_;rintro e w3 ⟨rfl,hD3,hT3⟩;have HQ3:Hid (BQ _ _ _):=((HQ.out.drewN k).keep hT2 hn).keep hT3 hn;go_wp2_with fail;refine(Gk HQ3.out hl _ hvr.1 hvr.2 _).mono ?_;rintro e w4 ⟨rfl,rfl⟩;go_wp2
   go_end0
   rw[HT2.out];exact⟨rfl,hD3.keepq _ hn,HQ3.out.setSg hl _ (by omega) _,((((((D_.refl r q _).drewN _).trans (hT2.two q)).trans (hT3.two q)))).setCell _ _⟩
 ·have HT:Hid (Aw s d x f=(x,d)):=if_neg hc;have b1:(pk s d != 43)=true:=by rw[bne_iff_ne];exact λe=>hc (.inl e)
  have b2:(pk s d != 45)=true:=by rw[bne_iff_ne];exact λe=>hc (.inr e)
  clear hc;generalize pk s d=c at *;go_enter Tryz.func163,Tryz.ntmps163;go_wp2_with fail;refine hp.mono ?_;rintro e w1 ⟨rfl,k,rfl⟩;go_wp2
  go_end0
  rw[HT.out];exact⟨rfl,HD.out.drewN k,HQ.out.drewN k,(D_.refl r q _).drewN _⟩
theorem JR(h:D9 w r s d vf)(hq:BQ w q x)(hl:x.sg.length=4)(hs:s.size<=160)(hd:d.1<=s.size):
  Calls Tryz.prog 148 #[.pointer (some ⟨r,0,none⟩),.pointer (some ⟨q,0,none⟩)] w (SQ w r q s vf (BR s d x)):=by
 have hp:=Hk h hs (by omega) 42;have hn:=hq.ne h;have HD:Hid (D9 _ _ _ _ _):=h;have HQ:Hid (BQ _ _ _):=hq;clear h hq;by_cases hc:pk s d=42
 ·have HT:Hid (BR s d x=({x with any:=true},BA d)):=if_pos hc;have hk:tk s d 42=(true,BA d):=if_pos hc;rw[hk]at hp;clear hc hk;go_enter Tryz.func148,Tryz.ntmps148;go_wp2_with fail;refine(hp).mono ?_;rintro e w1 ⟨rfl,hD1,hT1⟩;have hq1:=HQ.out.keep hT1 hn;obtain⟨c0,c1,c2,c3,c4,c5,c6,c7,c8,c9,cf⟩:=hq1.cells;have HQ1:Hid (BQ _ _ _):=hq1;clear hq1;go_wp2
  go_end0
  rw[HT.out];exact⟨rfl,hD1.keepq 2 hn,HQ1.out.setAny true,(hT1.two q).setCell _ _⟩
 ·have hk:tk s d 42=(false,d):=if_neg hc;rw[hk]at hp;clear hk;obtain⟨g,hG⟩:∃g,g=BE s d:=⟨_,rfl⟩
  obtain⟨v,hV⟩:∃v,v=Bq s g.2 (-1):=⟨_,rfl⟩
  obtain⟨y,hY⟩:∃y,y=Aw s v.2 {x with any:=false,sg:=x.sg.set v.1.toNat g.1} v.1:=⟨_,rfl⟩
  obtain⟨z,hZ⟩:∃z,z=BE s (nd s (nd s y.2 60) 61):=⟨_,rfl⟩
  have HT:Hid (BR s d x=({y.1 with num:=(Bh s z.2 z.1).1},(Bh s z.2 z.1).2)):=by
   show BR s d x=_;unfold BR;rw[if_neg hc,hZ,hY,hV,hG]
  have hg:g.1=1\/g.1= -1:=by rw[hG];exact Ih s d
  have hgl:g.2.1<=s.size:=by rw[hG];exact Eu hd
  have hvr:0<=v.1/\v.1<=3:=by rw[hV];exact Hw (-1)
  have hvl:v.2.1<=s.size:=by rw[hV];exact F0 hgl (-1)
  have hyl:y.2.1<=s.size:=by rw[hY];exact KS hvl v.1
  have h60:(nd s y.2 60).1<=s.size:=G9 hyl (by decide);have h61:(nd s (nd s y.2 60) 61).1<=s.size:=G9 h60 (by decide);have hz:z.1=1\/z.1= -1:=by rw[hZ];exact Ih s _
  have hzl:z.2.1<=s.size:=by rw[hZ];exact Eu h61
  have HG:Hid (g=BE s d):=hG;have HV:Hid (v=Bq s g.2 (-1)):=hV;have HY:Hid (y=Aw s v.2 {x with any:=false,sg:=x.sg.set v.1.toNat g.1} v.1):=hY;have HZ:Hid (z=BE s (nd s (nd s y.2 60) 61)):=hZ;clear hc hG hV hY hZ;go_enter Tryz.func148,Tryz.ntmps148;go_wp2_with fail;refine(hp).mono ?_;rintro e w1 ⟨rfl,hD1,hT1⟩;have hq1:=HQ.out.keep hT1 hn;obtain⟨c0,c1,c2,c3,c4,c5,c6,c7,c8,c9,cf⟩:=hq1.cells;have HQ1:Hid (BQ _ _ _):=hq1.setAny false;have HD1:Hid (D9 _ _ _ _ _):=hD1.keepq (u:=.bool false) 2 hn;clear hq1 hD1;have k2:=Fn HD1.out hs hd;rw[<-HG.out]at k2;go_wp2_with fail;refine(k2).mono ?_;rintro e w2 ⟨rfl,hD2,hT2⟩;have k3:=C8 hD2 hs hgl (-1);rw[<-HV.out]at k3;go_wp2_with fail;refine(k3).mono ?_;rintro e w3 ⟨rfl,hD3,hT3⟩;have HQ3:Hid (BQ _ _ _):=(HQ1.out.keep hT2 hn).keep hT3 hn;go_wp2_with fail;refine(Gk HQ3.out hl _ hvr.1 hvr.2 _).mono ?_;rintro e w4 ⟨rfl,rfl⟩;have HQ4:Hid (BQ _ _ _):=HQ3.out.setSg hl v.1.toNat (by omega) g.1;have HD4:Hid (D9 _ _ _ _ _):=hD3.keepq (u:=.int .i64 g.1) (3+v.1.toNat) hn;have k5:=ML HD4.out HQ4.out (by show(x.sg.set _ _).length=4;rw[List.length_set];exact hl) hs hvl v.1;rw[show Aw s v.2 {x with any:=false,sg:=x.sg.set v.1.toNat g.1} v.1=y from HY.out.symm]at k5;go_wp2_with fail;refine k5.mono ?_;rintro e w5 ⟨rfl,hD5,hQ5,hT5⟩;have HQ5:Hid (BQ _ _ _):=hQ5;clear hQ5;go_wp2_with fail;refine(EU hD5 hs (by omega) 60).mono ?_;rintro e w6 ⟨rfl,hD6,hT6⟩;go_wp2_with fail;refine(EU hD6 hs (by omega) 61).mono ?_;rintro e w7 ⟨rfl,hD7,hT7⟩;have k8:=Fn hD7 hs h61;rw[<-HZ.out]at k8;go_wp2_with fail;refine(k8).mono ?_;rintro e w8 ⟨rfl,hD8,hT8⟩;go_wp2_with fail;refine(Eb hD8 hs hzl z.1 hz).mono ?_;rintro e w9 ⟨rfl,hD9,hT9⟩;have hq9:=(((HQ5.out.keep hT6 hn).keep hT7 hn).keep hT8 hn).keep hT9 hn;obtain⟨c0,c1,c2,c3,c4,c5,c6,c7,c8,c9,cf⟩:=hq9.cells;have HQ9:Hid (BQ _ _ _):=hq9;clear hq9;go_wp2
  go_end0
  rw[HT.out];exact⟨rfl,hD9.keepq 7 hn,HQ9.out.setNum _,(((((((((((hT1.two q).setCell _ _).trans (hT2.two q)).trans (hT3.two q)).setCell _ _).trans hT5).trans (hT6.two q)).trans (hT7.two q)).trans (hT8.two q)).trans (hT9.two q))).setCell _ _⟩
def An(k:Int):Int:=if k=2 then 2 else if k=3 then 1 else 0
theorem CQ(k t:Int)(an:Bool)(g0 g1 g2 g3 n p b:Int)(w:World):
  Calls Tryz.prog 101 #[.agg #[.int .i64 k,.int .i64 t,.bool an,.int .i64 g0,.int .i64 g1,.int .i64 g2,.int .i64 g3,.int .i64 n,.int .i64 p,.int .i64 b]] w λe w'=>e=.returned (.int .i64 (An k))/\∃o,w'=w.alloc o:=by
 unfold An;by_cases h2:k=2
 ·subst h2;go_enter Tryz.func101,Tryz.ntmps101;go_wp2;go_ret;exact⟨rfl,_,rfl⟩
 ·have b2:(k==2)=false:=by simpa using h2
  by_cases h3:k=3
  ·subst h3;clear h2 b2;go_enter Tryz.func101,Tryz.ntmps101;go_wp2;go_ret;exact⟨rfl,_,rfl⟩
  ·have b3:(k==3)=false:=by simpa using h3
   rw[if_neg h2,if_neg h3];clear h2 h3;go_enter Tryz.func101,Tryz.ntmps101;go_wp2;go_ret;exact⟨rfl,_,rfl⟩
structure P8(r q:Nat)(w w':World):Prop where
 os:w'.os=w.os
 tape:w'.tape=w.tape
 output:w'.output=w.output
 size:w.heap.size<=w'.heap.size
 block:∀k,k<w.heap.size->k≠r->k≠q->w'.heap[k]?=w.heap[k]?
theorem P8.trans{a b c:World}(h:P8 r q a b)(k:P8 r q b c):P8 r q a c:=⟨k.os.trans h.os,k.tape.trans h.tape,k.output.trans h.output,Nat.le_trans h.size k.size,λi h0 h1 h2=>(k.block i (Nat.lt_of_lt_of_le h0 h.size) h1 h2).trans (h.block i h0 h1 h2)⟩
theorem D_.fr{a b:World}(h:D_ r q a b):P8 r q a b:=⟨h.os,h.tape,h.output,by have:=h.size;omega,λi _ h1 h2=>h.block i h1 h2⟩
theorem P8.alloc{a w:World}(h:P8 r q a w)(o:Obj):P8 r q a (w.alloc o):=
 h.trans ⟨rfl,rfl,rfl,by simp,λk hk _ _=>Below.heap_alloc _ _ _ hk⟩
theorem At.alloc{b:Nat}{c:Array Value}{t:TypeId}(h:At w b c t)(o:Obj):At (w.alloc o) b c t:=h.same (Below.heap_alloc _ _ _ h.lt)
theorem D9.alloc(h:D9 w r s d vf)(o:Obj):D9 (w.alloc o) r s d vf:=At.alloc h o
theorem BQ.alloc(h:BQ w q x)(o:Obj):BQ (w.alloc o) q x:=At.alloc h o
def Wj(w:World)(r q:Nat)(s:ByteArray)(vf:Value)(y:Ds×(Nat×Bool)):Ending->World->Prop:=λe w'=>e=.returned (.tuple #[])/\D9 w' r s y.2 vf/\BQ w' q y.1/\P8 r q w w'
def BD(s:ByteArray)(d:Nat×Bool)(x:Ds)(dp:Int):Ds×(Nat×Bool):=
 if pk s d=33 then({x with kind:=1},BA d)
 else if pk s d=63 then({x with kind:=2},if 4<=dp then Ez d else BA d)
 else if pk s d=64 then({x with kind:=3},if 4<=dp then Ez d else BA d)
 else({x with kind:=0,target:=(Bq s d (-1)).1},(Bq s d (-1)).2)
theorem Ov(h:D9 w r s d vf)(hq:BQ w q x)(hs:s.size<=160)(hd:d.1<=s.size)(dp:Int):
  Calls Tryz.prog 145 #[.pointer (some ⟨r,0,none⟩),.pointer (some ⟨q,0,none⟩),.int .i64 dp] w (Wj w r q s vf (BD s d x dp)):=by
 have hp:=Em h hs (by omega);obtain⟨p0,p1⟩:=Dw s d;have hn:=hq.ne h;have hlr:r<w.heap.size:=At.lt h;have hlq:q<w.heap.size:=At.lt hq;have nrq:r≠q:=λe=>hn e.symm;obtain⟨c0,c1,c2,c3,c4,c5,c6,c7,c8,c9,cf⟩:=hq.cells;obtain⟨r0,r1,r2,r3,rf⟩:=h.cells;have HD:Hid (D9 _ _ _ _ _):=h;have HQ:Hid (BQ _ _ _):=hq;clear h hq;generalize AB x.sg 0=g0 at *;generalize AB x.sg 1=g1 at *;generalize AB x.sg 2=g2 at *;generalize AB x.sg 3=g3 at *;by_cases h33:pk s d=33
 ·have HT:Hid (BD s d x dp=({x with kind:=1},BA d)):=if_pos h33;have HN:Hid (nd s d 33=BA d):=if_pos h33;rw[h33]at hp;clear h33;go_enter Tryz.func145,Tryz.ntmps145;go_wp2_with fail;refine hp.mono ?_;rintro e w1 ⟨rfl,k,rfl⟩;go_wp2_with fail;refine(CQ _ _ _ _ _ _ _ _ _ _ _).mono ?_;rintro e w2 ⟨rfl,o,rfl⟩;have hne:=EU (((HD.out.drewN k).keepq (u:=.int .i64 1) 0 hn).alloc o) hs (by omega) 33;rw[HN.out]at hne;go_wp2_with fail;refine hne.mono ?_;rintro e w3 ⟨rfl,hD3,hT3⟩;go_wp2
  go_end0
  rw[HT.out];exact⟨rfl,hD3,(((HQ.out.drewN k).setKind 1).alloc o).keep hT3 hn,((((D_.refl r q _).drewN k).setCell _ _).fr.alloc o).trans (hT3.two q).fr⟩
 have b33:(pk s d==33)=false:=by simpa using h33
 by_cases h63:pk s d=63
 ·have HN:Hid (nd s d 63=BA d):=if_pos h63;by_cases h4:4<=dp
  ·have HT:Hid (BD s d x dp=({x with kind:=2},Ez d)):=by show BD s d x dp=_;unfold BD;rw[if_neg h33,if_pos h63,if_pos h4]
   rw[h63]at hp;clear h33 b33 h63;go_enter Tryz.func145,Tryz.ntmps145;go_wp2_with fail;refine hp.mono ?_;rintro e w1 ⟨rfl,k,rfl⟩;go_wp2_with fail;refine(CQ _ _ _ _ _ _ _ _ _ _ _).mono ?_;rintro e w2 ⟨rfl,o,rfl⟩;go_wp2
   go_end0
   rw[HT.out];exact⟨rfl,(((HD.out.drewN k).keepq 0 hn).stick).alloc o,(((HQ.out.drewN k).setKind 2).keep ((FT.refl r _).setCell _ _) hn).alloc o,((((D_.refl r q _).drewN k).setCell _ _).trans (((FT.refl r _).setCell _ _).two q)).fr.alloc o⟩
  ·have HT:Hid (BD s d x dp=({x with kind:=2},BA d)):=by show BD s d x dp=_;unfold BD;rw[if_neg h33,if_pos h63,if_neg h4]
   rw[h63]at hp;clear h33 b33 h63;go_enter Tryz.func145,Tryz.ntmps145;go_wp2_with fail;refine hp.mono ?_;rintro e w1 ⟨rfl,k,rfl⟩;go_wp2_with fail;refine(CQ _ _ _ _ _ _ _ _ _ _ _).mono ?_;rintro e w2 ⟨rfl,o,rfl⟩;have hne:=EU (((HD.out.drewN k).keepq (u:=.int .i64 2) 0 hn).alloc o) hs (by omega) 63;rw[HN.out]at hne;go_wp2_with fail;refine hne.mono ?_;rintro e w3 ⟨rfl,hD3,hT3⟩;go_wp2
   go_end0
   rw[HT.out];exact⟨rfl,hD3,(((HQ.out.drewN k).setKind 2).alloc o).keep hT3 hn,((((D_.refl r q _).drewN k).setCell _ _).fr.alloc o).trans (hT3.two q).fr⟩
 have b63:(pk s d==63)=false:=by simpa using h63
 by_cases h64:pk s d=64
 ·have HN:Hid (nd s d 64=BA d):=if_pos h64;by_cases h4:4<=dp
  ·have HT:Hid (BD s d x dp=({x with kind:=3},Ez d)):=by show BD s d x dp=_;unfold BD;rw[if_neg h33,if_neg h63,if_pos h64,if_pos h4]
   rw[h64]at hp;clear h33 b33 h63 b63 h64;go_enter Tryz.func145,Tryz.ntmps145;go_wp2_with fail;refine hp.mono ?_;rintro e w1 ⟨rfl,k,rfl⟩;go_wp2_with fail;refine(CQ _ _ _ _ _ _ _ _ _ _ _).mono ?_;rintro e w2 ⟨rfl,o,rfl⟩;go_wp2
   go_end0
   rw[HT.out];exact⟨rfl,(((HD.out.drewN k).keepq 0 hn).stick).alloc o,(((HQ.out.drewN k).setKind 3).keep ((FT.refl r _).setCell _ _) hn).alloc o,((((D_.refl r q _).drewN k).setCell _ _).trans (((FT.refl r _).setCell _ _).two q)).fr.alloc o⟩
  ·have HT:Hid (BD s d x dp=({x with kind:=3},BA d)):=by show BD s d x dp=_;unfold BD;rw[if_neg h33,if_neg h63,if_pos h64,if_neg h4]
   rw[h64]at hp;clear h33 b33 h63 b63 h64;go_enter Tryz.func145,Tryz.ntmps145;go_wp2_with fail;refine hp.mono ?_;rintro e w1 ⟨rfl,k,rfl⟩;go_wp2_with fail;refine(CQ _ _ _ _ _ _ _ _ _ _ _).mono ?_;rintro e w2 ⟨rfl,o,rfl⟩;have hne:=EU (((HD.out.drewN k).keepq (u:=.int .i64 3) 0 hn).alloc o) hs (by omega) 64;rw[HN.out]at hne;go_wp2_with fail;refine hne.mono ?_;rintro e w3 ⟨rfl,hD3,hT3⟩;go_wp2
   go_end0
   rw[HT.out];exact⟨rfl,hD3,(((HQ.out.drewN k).setKind 3).alloc o).keep hT3 hn,((((D_.refl r q _).drewN k).setCell _ _).fr.alloc o).trans (hT3.two q).fr⟩
 have b64:(pk s d==64)=false:=by simpa using h64
 have HT:Hid (BD s d x dp=({x with kind:=0,target:=(Bq s d (-1)).1},(Bq s d (-1)).2)):=by show BD s d x dp=_;unfold BD;rw[if_neg h33,if_neg h63,if_neg h64]
 clear h33 h63 h64;generalize pk s d=c at *;go_enter Tryz.func145,Tryz.ntmps145;go_wp2_with fail;refine hp.mono ?_;rintro e w1 ⟨rfl,k,rfl⟩;go_wp2_with fail;refine(C8 ((HD.out.drewN k).keepq (u:=.int .i64 0) 0 hn) hs hd (-1)).mono ?_;rintro e w3 ⟨rfl,hD3,hT3⟩;have hq3:=((HQ.out.drewN k).setKind 0).keep hT3 hn;obtain⟨c0,c1,c2,c3,c4,c5,c6,c7,c8,c9,cf⟩:=hq3.cells;have HQ3:Hid (BQ _ _ _):=hq3;clear hq3;go_wp2
 go_end0
 rw[HT.out];exact⟨rfl,hD3.keepq 1 hn,HQ3.out.setTarget _,((((D_.refl r q _).drewN k).setCell _ _).trans (hT3.two q)).setCell _ _ |>.fr⟩
end Go.Proofs.YtffajooegiempaaGreatDoor
