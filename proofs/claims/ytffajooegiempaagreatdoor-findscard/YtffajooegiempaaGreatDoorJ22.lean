import Derived.Test.YtffajooegiempaaGreatDoorJ21
set_option maxRecDepth 100000
set_option maxHeartbeats 6400000
namespace Go.Proofs.YtffajooegiempaaGreatDoor
open Go.RowKit
variable {w:World}{e0:Bool}{M:Nat->Int}
theorem Rl(h:Sh M)(t:Nat)(ht:t<4)(l:List Int)(hl:∀i, -1<=AK l i/\AK l i<=1)(n:Int)(hn: -99<=n/\n<=99)(h1:CF l=opp (C4 l)):
  Calls Tryz.prog 141 #[.agg (oc e0 M),.int .i64 (t:Int),v4 l,.int .i64 n] w λe w'=>e=.returned (.agg (oc e0 (FI M t n n)))/\Below w.heap.size w w':=by
 have hz:=Bn;have h8:=Cx l 4 (Nat.le_refl _);have HSd:Hid (∀w1,Calls Tryz.prog 142 #[v4 l] w1 λe w'=>e=.returned (.tuple #[.int .i64 ((CF l:Nat):Int),.int .i64 ((C4 l:Nat):Int)])/\Below w1.heap.size w1 w'):=λw1=>Ji l hl;have HSb:Hid (∀w1,Calls Tryz.prog 140 #[.agg (oc e0 M),.int .i64 (t:Int),.int .i64 n,.int .i64 n] w1 λe w'=>e=.returned (.agg (oc e0 (FI M t n n)))/\Below w1.heap.size w1 w'):=λw1=>IZ h t ht n n ⟨by omega,by omega⟩ ⟨by omega,by omega⟩;have hf8:CF l<8:=h8.1;have hs8:C4 l<8:=h8.2;generalize CF l=f at *;generalize C4 l=s at *;subst h1;have HOp:Hid (∀w1,Calls Tryz.prog 153 #[.int .i64 (s:Int)] w1 λe w'=>e=.returned (.int .i64 ((opp s:Nat):Int))/\w'=w1):=λw1=>ED s hs8 w1;obtain⟨w0,hw0⟩:∃w0,w0=((w.alloc (.cells (oc e0 M) tO)).alloc (.cells (c4 l) FS)).alloc (.cells (oc false λ_=>0) tO):=⟨_,rfl⟩
 have H0:Hid (AL w0 w.heap.size e0 M/\AL w0 (w.heap.size+2) false (λ_=>0)/\Below w.heap.size w w0/\w0.heap.size=w.heap.size+3):=by
  refine⟨by rw[hw0];exact At.allocH (At.allocH (At.new _ _ _) _) _,?_,by rw[hw0];exact(((Below.refl _ _).alloc (Nat.le_refl _) _).alloc (by simp) _).alloc (by simp;omega) _,by rw[hw0];simp⟩;have:=At.new ((w.alloc (.cells (oc e0 M) tO)).alloc (.cells (c4 l) FS)) (oc false λ_=>0) tO;rw[show((w.alloc (.cells (oc e0 M) tO)).alloc (.cells (c4 l) FS)).heap.size=w.heap.size+2 by simp]at this;rw[hw0];exact this
 obtain⟨BW,hBW⟩:∃BW:World->Prop,BW=λw'=>Below w0.heap.size w0 w':=⟨_,rfl⟩
 have hsd:Calls Tryz.prog 142 #[v4 l] w0 λe w'=>e=.returned (.tuple #[.int .i64 ((opp s:Nat):Int),.int .i64 (s:Int)])/\BW w':=by rw[hBW];exact HSd.out w0
 rw[hw0]at hsd;unfold v4 c4 at hsd;unfold v4;clear HSd h8 h;go_enter Tryz.func141,Tryz.ntmps141;go_wp2_with fail;refine hsd.mono ?_;rintro e w1 ⟨rfl,hb1⟩;rw[hBW]at hb1;have H1:Hid (AL w1 w.heap.size e0 M/\AL w1 (w.heap.size+2) false (λ_=>0)/\Below w.heap.size w w1/\w.heap.size+3<=w1.heap.size):=by
  have s0:=H0.out.2.2.2;have s1:=hb1.size;exact⟨At.keep H0.out.1 hb1 (by omega),At.keep H0.out.2.1 hb1 (by omega),H0.out.2.2.1.trans (hb1.mono (by omega)),by omega⟩
 clear hb1 hsd hBW hw0 H0;have hop:=HOp.out w1;have hsb:=HSb.out w1;go_wp2_with fail;refine hop.mono ?_;rintro e w2 ⟨rfl,hw2⟩;subst hw2;clear hop;go_wp2_with (refine AH rfl (.tmp 4) rfl rfl H1.out.1 ?_);refine hsb.mono ?_;rintro e w3 ⟨rfl,hb3⟩;have H3:Hid (AL w3 (w.heap.size+2) false (λ_=>0)/\Below w.heap.size w w3):=by
  have s1:=H1.out.2.2.2;exact⟨At.keep H1.out.2.1 hb3 (by omega),H1.out.2.2.1.trans (hb3.mono (by omega))⟩
 clear hb3 hsb;generalize hTT:FI M t n n=T at *;have HTT:Hid (FI M t n n=T):=hTT;clear hTT HSb;obtain⟨w7,hst7,hat7,ho7⟩:=Al H3.out.1 e0 T;have H7:Hid (AL w7 (w.heap.size+2) e0 T/\Below w.heap.size w w7):=⟨hat7,H3.out.2.trans (ho7.below (by omega) H3.out.2.size)⟩
 clear hat7 ho7;go_wp2_with fail;try simp only[Exit.inBlock,Exit.then]
 refine bodyPost_ret (Ag rfl _ rfl H7.out.1) rfl ?_;exact⟨by rw[HTT.out],H7.out.2⟩
def JF(M:Nat->Int)(x:Ds):Nat->Int:=if x.any=true then FI M x.target.toNat (-999) 999 else if CF x.sg=opp (C4 x.sg)then FI M x.target.toNat x.num x.num else DO M x.target.toNat (CF x.sg) x.num 64
def CA(e:Bool)(M:Nat->Int)(x:Ds)(way:Int):Bool:=if e=true then e else if x.kind=0 then e else if x.any=true then e else if way=0 then GJ e M x.sg x.num else GJ e M (Dv x.sg) (-x.num-1)
def CE(e:Bool)(M:Nat->Int)(x:Ds)(way:Int):Nat->Int:=if e=true then M else if x.kind=0 then JF M x else if x.any=true then M else if way=0 then E5 e M x.sg x.num else E5 e M (Dv x.sg) (-x.num-1)
theorem Oz(x:Ds)(hx:OY x)(ht:0<=x.target/\x.target<4)(hS:Sh M):
  Calls Tryz.prog 112 #[B0 x,.agg (oc e0 M)] w λe w'=>e=.returned (.agg (oc e0 (JF M x)))/\Below w.heap.size w w':=by
 have hz:=Bn;obtain⟨t,htt⟩:∃t:Nat,x.target=(t:Int):=⟨x.target.toNat,by omega⟩
 have htn:x.target.toNat=t:=by omega
 have ht4:t<4:=by omega
 obtain⟨w0,hw0⟩:∃w0,w0=((w.alloc (.cells (AD x) BB)).alloc (.cells (oc e0 M) tO)).alloc (.cells (oc false λ_=>0) tO):=⟨_,rfl⟩
 have H0:Hid (At w0 w.heap.size (AD x) BB/\AL w0 (w.heap.size+1) e0 M/\AL w0 (w.heap.size+2) false (λ_=>0)/\Below w.heap.size w w0/\w0.heap.size=w.heap.size+3):=by
  refine⟨by rw[hw0];exact At.allocH (At.allocH (At.new _ _ _) _) _,?_,?_,by rw[hw0];exact(((Below.refl _ _).alloc (Nat.le_refl _) _).alloc (by simp) _).alloc (by simp;omega) _,by rw[hw0];simp⟩
  ·have:=At.allocH (At.new (w.alloc (.cells (AD x) BB)) (oc e0 M) tO) (.cells (oc false λ_=>0) tO);rw[show(w.alloc (.cells (AD x) BB)).heap.size=w.heap.size+1 by simp]at this;rw[hw0];exact this
  ·have:=At.new ((w.alloc (.cells (AD x) BB)).alloc (.cells (oc e0 M) tO)) (oc false λ_=>0) tO;rw[show((w.alloc (.cells (AD x) BB)).alloc (.cells (oc e0 M) tO)).heap.size=w.heap.size+2 by simp]at this;rw[hw0];exact this
 have HA0:=H0.out.2.1;obtain⟨BW,hBW⟩:∃BW:World->Prop,BW=λw'=>Below w0.heap.size w0 w':=⟨_,rfl⟩
 cases ha:x.any with
 |true=>
  have HE:Hid (JF M x=FI M t (-999) 999):=by show JF M x=_;unfold JF;rw[if_pos ha,htn]
  have hsb:Calls Tryz.prog 140 #[.agg (oc e0 M),.int .i64 (t:Int),.int .i64 (-999),.int .i64 999] w0 λe w'=>e=.returned (.agg (oc e0 (FI M t (-999) 999)))/\BW w':=by rw[hBW];exact IZ hS t ht4 (-999) 999 ⟨by omega,by omega⟩ ⟨by omega,by omega⟩
  rw[hw0]at hsb HA0;unfold AD at hsb HA0;unfold B0;rw[ha,htt]at hsb HA0|-;generalize FI M t (-999) 999=T at *;clear hS hx ht hw0;go_enter Tryz.func112,Tryz.ntmps112;go_wp2_with (refine AH rfl (.tmp 3) rfl rfl HA0 ?_);refine hsb.mono ?_;rintro e w1 ⟨rfl,hb1⟩;rw[hBW]at hb1;have H1:Hid (AL w1 (w.heap.size+2) false (λ_=>0)/\Below w.heap.size w w1):=by
   have s0:=H0.out.2.2.2.2;exact⟨At.keep H0.out.2.2.1 hb1 (by omega),H0.out.2.2.2.1.trans (hb1.mono (by omega))⟩
  clear hb1 hBW H0;obtain⟨w7,hst7,hat7,ho7⟩:=Al H1.out.1 e0 T;have H7:Hid (AL w7 (w.heap.size+2) e0 T/\Below w.heap.size w w7):=⟨hat7,H1.out.2.trans (ho7.below (by omega) H1.out.2.size)⟩
  clear hat7 ho7;go_wp2_with fail;try simp only[Exit.inBlock,Exit.then]
  refine bodyPost_ret (Ag rfl _ rfl H7.out.1) rfl ?_;exact⟨by rw[HE.out],H7.out.2⟩
 |false=>
  have hss:∃T,JF M x=T/\∀w1,Calls Tryz.prog 141 #[.agg (oc e0 M),.int .i64 (t:Int),v4 x.sg,.int .i64 x.num] w1 λe w'=>e=.returned (.agg (oc e0 T))/\Below w1.heap.size w1 w':=by
   refine⟨_,rfl,λw1=>?_⟩;unfold JF;rw[ha,if_neg (by decide),htn];by_cases q:CF x.sg=opp (C4 x.sg)
   ·rw[if_pos q];exact Rl hS t ht4 x.sg hx.sg x.num hx.num q
   ·rw[if_neg q];exact Tq hS t ht4 x.sg hx.sg x.num hx.num q
  obtain⟨T,hT,hss⟩:=hss;have HE:Hid (JF M x=T):=hT;have hsb:Calls Tryz.prog 141 #[.agg (oc e0 M),.int .i64 (t:Int),v4 x.sg,.int .i64 x.num] w0 λe w'=>e=.returned (.agg (oc e0 T))/\BW w':=by rw[hBW];exact hss w0
  rw[hw0]at hsb HA0;unfold AD at hsb HA0;unfold v4 at hsb;unfold B0;rw[ha,htt]at hsb HA0|-;clear hS hx ht hw0 hss hT;go_enter Tryz.func112,Tryz.ntmps112;go_wp2_with (refine AH rfl (.tmp 3) rfl rfl HA0 ?_);refine hsb.mono ?_;rintro e w1 ⟨rfl,hb1⟩;rw[hBW]at hb1;have H1:Hid (AL w1 (w.heap.size+2) false (λ_=>0)/\Below w.heap.size w w1):=by
   have s0:=H0.out.2.2.2.2;exact⟨At.keep H0.out.2.2.1 hb1 (by omega),H0.out.2.2.2.1.trans (hb1.mono (by omega))⟩
  clear hb1 hBW H0;obtain⟨w7,hst7,hat7,ho7⟩:=Al H1.out.1 e0 T;have H7:Hid (AL w7 (w.heap.size+2) e0 T/\Below w.heap.size w w7):=⟨hat7,H1.out.2.trans (ho7.below (by omega) H1.out.2.size)⟩
  clear hat7 ho7;go_wp2_with fail;try simp only[Exit.inBlock,Exit.then]
  refine bodyPost_ret (Ag rfl _ rfl H7.out.1) rfl ?_;exact⟨by rw[HE.out],H7.out.2⟩
end Go.Proofs.YtffajooegiempaaGreatDoor
namespace Go.Proofs.YtffajooegiempaaGreatDoor
variable {C:Nat->Int}
def vz(f t:Nat):List Int:=(C5 f).set t 0
def YV(a l:List Int)(k:Int):List Int:=[AK a 0+k*AK l 0,AK a 1+k*AK l 1,AK a 2+k*AK l 2,AK a 3+k*AK l 3]
def Fh(f t:Nat)(star:Bool)(l:List Int):List Int:=if AK (C5 f) t≠0/\star=false then YV (vz f t) l (AK (C5 f) t)else vz f t
def Zc(f t:Nat)(star:Bool)(num:Int):Int:=if AK (C5 f) t=0 then 0 else if star=true then 999 else AK (C5 f) t*num
def pn(g n:Int):Int:=if g=NB then NB else g+n
def Kv(C:Nat->Int)(u:St)(f:Nat):Int:=pn (IS C (Fh f u.var.toNat u.star u.sg)) (Zc f u.var.toNat u.star u.num)
def aB(f t:Nat):Bool:=
 (decide (AK (C5 f) t=0)&& !decide (C6 t (fs f))&& !decide (C6 t (ss f))&&decide (Ar (vz f t)=f))||
 (decide (f<8)&&decide (C6 t (fs f))&&decide (Ar (vz f t)= -1)&&z4 (vz f t)&&decide (AK (C5 f) t=if fs f=2*t then 1 else -1))||
 (decide (8<=f)&&decide (C6 t (fs f))&& !decide (C6 t (ss f))&&decide (Ar (vz f t)=ss f)&&decide (AK (C5 f) t=if fs f=2*t then 1 else -1))||
 (decide (8<=f)&&decide (C6 t (ss f))&& !decide (C6 t (fs f))&&decide (Ar (vz f t)=fs f)&&decide (AK (C5 f) t=if ss f=2*t then 1 else -1))
theorem WS:∀t:Nat,t<4->∀f,f<32->aB f t=true:=by decide +kernel
theorem W5(C:Nat->Int){j:Nat}(hj:j<8):mo C j j=bd C j:=by
 obtain⟨e1,e2⟩:=Eo j hj;unfold mo bd;rw[e1,e2]
theorem IT{l:List Int}{f:Nat}(h:Ar l=(f:Int)):IS C l=bd C f:=by
 unfold IS;rw[h,if_pos (by omega),Int.toNat_natCast]
theorem Np{l:List Int}(h:Ar l= -1)(hz:z4 l=true):IS C l=0:=by
 unfold IS;rw[h,if_neg (by decide),if_pos hz]
theorem Wp(C:Nat->Int){t:Nat}(ht:t<4){lo hi:Int}(hlo: -999<=lo/\lo<=999)(hhi: -999<=hi/\hi<=999){f:Nat}(hf:f<32):
  bd (FI C t lo hi) f=pn (IS C (vz f t)) (if AK (C5 f) t=0 then 0 else if AK (C5 f) t=1 then hi else -lo):=by
 have a1:=D5 f hf;have a2:=D7 f hf;have T:=WS t ht f hf;unfold aB at T;simp only[Bool.or_eq_true,Bool.and_eq_true,Bool.not_eq_true',decide_eq_true_eq,decide_eq_false_iff_not]at T;have hu:∀i,C6 t i->uF C t lo hi i=(if i=2*t then hi else -lo)/\(-999<=uF C t lo hi i/\uF C t lo hi i<=999):=by
  intro i q;unfold uF;by_cases z:i=2*t
  ·rw[if_pos z,if_pos z];exact⟨rfl,hhi⟩
  ·rw[if_neg z,if_neg z,if_pos (q.resolve_left z)];exact⟨rfl,by omega⟩
 rcases T with((⟨⟨⟨k,n1⟩,n2⟩,hn⟩|⟨⟨⟨⟨f8,n1⟩,hn⟩,hz⟩,k⟩)|⟨⟨⟨⟨f8,n1⟩,n2⟩,hn⟩,k⟩)|⟨⟨⟨⟨f8,n1⟩,n2⟩,hn⟩,k⟩
 ·rw[IT hn,if_pos k];have e:bd (FI C t lo hi) f=bd C f:=by
   unfold bd;rw[Dx C ht hlo hhi a1 a2];unfold Po;rw[if_neg n1,if_neg n2]
  rw[e];unfold pn;by_cases q:bd C f=NB
  ·rw[if_pos q,q]
  ·rw[if_neg q,Int.add_zero]
 ·obtain⟨e1,e2⟩:=Eo f f8;rw[Np hn hz];have hval:FI C t lo hi (f*8+f)=if f=2*t then 2*hi else 2* -lo:=by
   rw[Dx C ht hlo hhi f8 f8];unfold Po;rw[e1]at n1;rw[if_pos n1,if_pos n1,if_pos rfl]
  have e:bd (FI C t lo hi) f=if fs f=2*t then hi else -lo:=by
   unfold bd;rw[e1,e2,hval];by_cases z:f=2*t
   ·rw[if_pos z,if_pos z,if_pos ⟨rfl,by unfold NB;omega⟩];have:=EF (x:=2*hi) (by omega);omega
   ·rw[if_neg z,if_neg z,if_pos ⟨rfl,by unfold NB;omega⟩];have:=EF (x:=2* -lo) (by omega);omega
  rw[e,k];unfold pn;rw[if_neg (show¬(0:Int)=NB by decide)];by_cases z:fs f=2*t
  ·rw[if_pos z,if_pos z,if_neg (by omega),if_pos rfl,Int.zero_add]
  ·rw[if_neg z,if_neg z,if_neg (by omega),if_neg (by omega),Int.zero_add]
 ·rw[IT hn];have e:bd (FI C t lo hi) f=pl (uF C t lo hi (fs f)) (bd C (ss f)):=by
   unfold bd;rw[Dx C ht hlo hhi a1 a2,if_neg (λz=>G7 f hf f8 z.1)];unfold Po;rw[if_pos n1,if_neg n2,W5 C a2];rfl
  obtain⟨u1,u2⟩:=hu _ n1;rw[e,u1,k];unfold pn pl;by_cases q:bd C (ss f)=NB
  ·rw[if_pos (.inr q),if_pos q]
  ·rw[if_neg q,if_neg (λz=>z.elim (λy=>by rw[<-u1]at y;unfold NB at y;omega) q)];by_cases z:fs f=2*t
   ·rw[if_pos z,if_pos z,if_neg (by omega),if_pos rfl,Int.add_comm]
   ·rw[if_neg z,if_neg z,if_neg (by omega),if_neg (by omega),Int.add_comm]
 ·rw[IT hn];have e:bd (FI C t lo hi) f=pl (uF C t lo hi (ss f)) (bd C (fs f)):=by
   unfold bd;rw[Dx C ht hlo hhi a1 a2,if_neg (λz=>G7 f hf f8 z.1)];unfold Po;rw[if_neg n2,if_pos n1,W5 C a1];rfl
  obtain⟨u1,u2⟩:=hu _ n1;rw[e,u1,k];unfold pn pl;by_cases q:bd C (fs f)=NB
  ·rw[if_pos (.inr q),if_pos q]
  ·rw[if_neg q,if_neg (λz=>z.elim (λy=>by rw[<-u1]at y;unfold NB at y;omega) q)];by_cases z:ss f=2*t
   ·rw[if_pos z,if_pos z,if_neg (by omega),if_pos rfl,Int.add_comm]
   ·rw[if_neg z,if_neg z,if_neg (by omega),if_neg (by omega),Int.add_comm]
def kk(t i:Nat):Int:=if i=2*t then 1 else if i=2*t+1 then -1 else 0
theorem Oh(t:Nat)(n:Int)(i:Nat):BK t n i=kk t i*n:=by
 unfold BK kk;split
 ·omega
 ·split<;>omega
def Pu(t f1 f:Nat):List Int:=if AK (C5 f) t≠0 then YV (vz f t) (C5 f1) (AK (C5 f) t)else vz f t
def aC(t f1 f:Nat):Bool:=
 (decide (f<8)&&decide (Ar (Pu t f1 f)=Ak t f1 f)&&decide (kk t f=AK (C5 f) t))||
 (decide (8<=f)&&decide (kk t (fs f)+kk t (ss f)=AK (C5 f) t)&&
  ((decide (Ak t f1 (ss f)=Ak t f1 (fs f))&&decide (Ar (Pu t f1 f)= -1)&& !z4 (Pu t f1 f)&&decide (Ar (CH (Pu t f1 f))=Ak t f1 (fs f)))||
   (decide (Ak t f1 (ss f)=opp (Ak t f1 (fs f)))&&decide (Ar (Pu t f1 f)= -1)&&z4 (Pu t f1 f))||
   (decide (Ak t f1 (ss f)≠Ak t f1 (fs f))&&decide (Ak t f1 (ss f)≠opp (Ak t f1 (fs f)))&&decide (Ar (Pu t f1 f)=nf (Ak t f1 (fs f)) (Ak t f1 (ss f))))))
theorem WW:∀t:Nat,t<4->∀f1,f1<8->∀f,f<32->aC t f1 f=true:=by decide +kernel
theorem ZT(h:TC C)(hb:Bd 56000 C){t f1:Nat}(ht:t<4)(hf1:f1<8){n:Int}(hn: -999<=n/\n<=999){f:Nat}(hf:f<32):
  bd (DO C t f1 n 64) f=pn (IS C (Pu t f1 f)) (AK (C5 f) t*n):=by
 have a1:=D5 f hf;have a2:=D7 f hf;have o1:=Cv (t:=t) hf1 a1;have o2:=Cv (t:=t) hf1 a2;have T:=WW t ht f1 hf1 f hf;unfold aC at T;simp only[Bool.or_eq_true,Bool.and_eq_true,Bool.not_eq_true',decide_eq_true_eq]at T;have hb':Bd 60000 C:=hb.mono (by decide);have r1:=Cm (t:=t) hn (fs f);have r2:=Cm (t:=t) hn (ss f);have P:=N6 (hb' (Ak t f1 (fs f)*8+Ak t f1 (ss f)) (by omega)) (a:=BK t n (fs f)+BK t n (ss f)) ⟨by omega,by omega⟩;unfold bd;rw[Hd C t f1 n a1 a2];rcases T with⟨⟨f8,hv⟩,k⟩|⟨⟨f8,k⟩,T⟩
 ·obtain⟨e1,e2⟩:=Eo f f8;rw[IT hv,<-k];rw[e1,e2]at P|-;rw[Oh]at P|-;have L:=h.lo (Cv (t:=t) hf1 f8);unfold pn;by_cases q:C (Ak t f1 f*8+Ak t f1 f)=NB
  ·rw[P.1 q,if_neg (λz=>z.2 rfl),if_pos (L.1 q)]
  ·obtain⟨p1,p2⟩:=P.2 q;obtain⟨l1,l2⟩:=L.2 q;rw[if_pos ⟨rfl,p2⟩,if_neg l2,p1,<-l1];have:=EF (x:=2*bd C (Ak t f1 f)+(kk t f*n+kk t f*n)) (by omega);omega
 ·have hne:=G7 f hf f8;rw[if_neg (λz=>hne z.1)];have ek:BK t n (fs f)+BK t n (ss f)=AK (C5 f) t*n:=by rw[Oh,Oh,<-k,Int.add_mul]
  rw[ek]at P|-;unfold pn;rcases T with(⟨⟨⟨q1,q2⟩,q3⟩,q4⟩|⟨⟨q1,q2⟩,q3⟩)|⟨⟨q1,q2⟩,q3⟩
  ·have L:=h.lo o1;have hg:IS C (Pu t f1 f)=if bd C (Ak t f1 (fs f))=NB then NB else 2*bd C (Ak t f1 (fs f)):=by
    unfold IS;rw[q2,if_neg (by decide),q3,if_neg (by decide),q4,Int.toNat_natCast]
   rw[hg];rw[q1]at P|-;by_cases q:C (Ak t f1 (fs f)*8+Ak t f1 (fs f))=NB
   ·rw[P.1 q,if_pos (L.1 q),if_pos rfl]
   ·obtain⟨p1,p2⟩:=P.2 q;obtain⟨l1,l2⟩:=L.2 q;have:=(hb' (Ak t f1 (fs f)*8+Ak t f1 (fs f)) (by omega)).resolve_left q;rw[if_neg l2,if_neg (by unfold NB;omega),p1,l1]
  ·rw[Np q2 q3,if_neg (by decide)];have z:C (Ak t f1 (fs f)*8+Ak t f1 (ss f))=0:=by rw[q1];exact h.zero _ o1
   rw[(P.2 (by rw[z];decide)).1,z]
  ·rw[IT q3,IC h.sym o1 o2 (λz=>q1 z.symm) q2];by_cases q:C (Ak t f1 (fs f)*8+Ak t f1 (ss f))=NB
   ·rw[P.1 q,if_pos q]
   ·rw[(P.2 q).1,if_neg q]
def ZF(l:List Int):Bool:=decide (1<nz l)||(decide (l=[0,0,0,0])&&decide (CF l=opp (C4 l)))||(List.range 8).any λf=>decide (l=C5 f)&&decide (CF l=f)&&decide (CF l≠opp (C4 l))
theorem Ts:(OO.all λa=>OO.all λb=>OO.all λc=>OO.all λd=>ZF [a,b,c,d])=true:=by decide +kernel
theorem Tt{l:List Int}(hl:l.length=4)(h:∀i, -1<=AK l i/\AK l i<=1)(h1:nz l<=1):(l=[0,0,0,0]/\CF l=opp (C4 l))\/∃f,f<8/\l=C5 f/\CF l=f/\CF l≠opp (C4 l):=by
 obtain⟨a,b,c,d,rfl⟩:=C0 hl;have t:=Ts;simp only[List.all_eq_true]at t;have t':=t a (Ca (h 0)) b (Ca (h 1)) c (Ca (h 2)) d (Ca (h 3));unfold ZF at t';simp only[Bool.or_eq_true,Bool.and_eq_true,decide_eq_true_eq,List.any_eq_true,List.mem_range]at t';rcases t' with(q|q)|⟨f,hf,⟨q1,q2⟩,q3⟩
 ·omega
 ·exact .inl q
 ·exact .inr ⟨f,hf,q1,q2,q3⟩
theorem Uw(f t:Nat)(k:Int):f<32->t<4->YV (vz f t) [0,0,0,0] k=vz f t:=by
 intro hf ht;have hz:∀i:Nat,i<4->AK [0,0,0,0] i=(0:Int):=by decide
 unfold YV;rw[hz 0 (by omega),hz 1 (by omega),hz 2 (by omega),hz 3 (by omega)];simp only[Int.mul_zero,Int.add_zero];exact(show∀t:Nat,t<4->∀f,f<32->[AK (vz f t) 0,AK (vz f t) 1,AK (vz f t) 2,AK (vz f t) 3]=vz f t by decide +kernel) t ht f hf
theorem Wy:∀t:Nat,t<4->∀f,f<32->AK (C5 f) t=0\/AK (C5 f) t=1\/AK (C5 f) t= -1:=by decide +kernel
theorem S0:∀t:Nat,t<4->∀f,f<32->Ky (vz f t)=true/\(vz f t).length=4/\∀i,i<4-> -2<=AK (vz f t) i/\AK (vz f t) i<=2:=by decide +kernel
theorem Xa:∀t:Nat,t<4->∀f1,f1<8->∀f,f<32->Ky (Pu t f1 f)=true/\(Pu t f1 f).length=4/\∀i,i<4-> -2<=AK (Pu t f1 f) i/\AK (Pu t f1 f) i<=2:=by decide +kernel
theorem NK(f t:Nat)(l:List Int):Fh f t true l=vz f t:=if_neg (λz=>by cases z.2)
theorem NJ{f t:Nat}(hf:f<32)(ht:t<4):Fh f t false [0,0,0,0]=vz f t:=by
 unfold Fh;split
 ·exact Uw f t _ hf ht
 ·rfl
theorem QE(f t f1:Nat):Fh f t false (C5 f1)=Pu t f1 f:=by
 unfold Fh Pu;by_cases q:AK (C5 f) t≠0
 ·rw[if_pos ⟨q,rfl⟩,if_pos q]
 ·rw[if_neg (λz=>q z.1),if_neg q]
theorem VS(h:TC C)(hb:Bd 56000 C){x:Ds}{u:St}(hc:OX x u)(hu:SI u)(hv:0<=u.var/\u.var<=3)(h1:nz u.sg<=1){f:Nat}(hf:f<32):bd (JF C x) f=Kv C u f:=by
 obtain⟨_,c1,c2,c3,c4⟩:=hc;have n:=hu.num;unfold JF Kv;rw[<-c1,<-c2,<-c3,<-c4];have ht:u.var.toNat<4:=by omega
 have hk:=Wy _ ht f hf;generalize u.var.toNat=t at *;unfold Zc;cases hs:u.star with
 |true=>
  rw[if_pos rfl,NK,Wp C ht ⟨by omega,by omega⟩ ⟨by omega,by omega⟩ hf,if_pos rfl]
  congr 1
  by_cases q:AK (C5 f) t=0
  ·rw[if_pos q,if_pos q]
  ·rw[if_neg q,if_neg q];split<;>omega
 |false=>
  rw[if_neg (show¬(false=true) by decide),if_neg (show¬(false=true) by decide)];rcases Tt hu.len hu.sg h1 with⟨e1,e2⟩|⟨f1,hf1,e1,e2,e3⟩
  ·rw[if_pos e2,e1,NJ hf ht,Wp C ht ⟨by omega,by omega⟩ ⟨by omega,by omega⟩ hf]
   congr 1
   by_cases q:AK (C5 f) t=0
   ·rw[if_pos q,if_pos q]
   ·rw[if_neg q,if_neg q];rcases hk with z|z|z
    ·exact absurd z q
    ·rw[z,if_pos rfl];omega
    ·rw[z,if_neg (by decide)];omega
  ·rw[if_neg e3,e2,ZT h hb ht hf1 ⟨by omega,by omega⟩ hf];rw[e1,QE]
   congr 1
   by_cases q:AK (C5 f) t=0
   ·rw[if_pos q,q];omega
   ·rw[if_neg q]
theorem XZ{u:St}(hu:SI u)(hv:0<=u.var/\u.var<=3)(h1:nz u.sg<=1){f:Nat}(hf:f<32):Ky (Fh f u.var.toNat u.star u.sg)=true/\(Fh f u.var.toNat u.star u.sg).length=4/\∀i,i<4-> -2<=AK (Fh f u.var.toNat u.star u.sg) i/\AK (Fh f u.var.toNat u.star u.sg) i<=2:=by
 have ht:u.var.toNat<4:=by omega
 generalize u.var.toNat=t at *;cases hs:u.star with
 |true=>rw[NK];exact S0 t ht f hf
 |false=>
  rcases Tt hu.len hu.sg h1 with⟨e1,e2⟩|⟨f1,hf1,e1,e2,e3⟩
  ·rw[e1,NJ hf ht];exact S0 t ht f hf
  ·rw[e1,QE];exact Xa t ht f1 hf1 f hf
end Go.Proofs.YtffajooegiempaaGreatDoor
namespace Go.Proofs.YtffajooegiempaaGreatDoor
open Go.RowKit
variable {w:World}{C:Nat->Int}
def LD(a l:List Int)(k:Int):Nat->List Int
 |0=>a
 |j+1=>(LD a l k j).set j (AK a j+k*AK l j)
theorem Qy(a l:List Int)(k:Int)(ha:a.length=4):∀j,j<=4->(LD a l k j).length=4/\∀i,j<=i->(LD a l k j).getD i 0=AK a i
 |0,_=>⟨ha,λ_ _=>rfl⟩
 |j+1,hj=>by
  obtain⟨h1,h2⟩:=Qy a l k ha j (by omega);refine⟨by rw[LD,List.length_set];exact h1,λi hi=>?_⟩;rw[LD,<-h2 i (by omega)];simp[List.getD,show¬j=i by omega]
theorem X8(a l:List Int)(k:Int)(ha:a.length=4):LD a l k 4=YV a l k:=by
 obtain⟨x,y,z,t,rfl⟩:=C0 ha;rfl
def ZV(w:World)(R:Nat->Int):Ending->World->Prop:=λe w'=>Below w.heap.size w w'/\∃g,e=.returned (.slice (some ⟨g,0,none⟩) 32 32)/\w.heap.size<=g/\At w' g (ic (rl R)) tNk
theorem PY(hS:Sm C)(uv:Value)(u:St)(hu:SI u)(hv:0<=u.var/\u.var<=3)(h1:nz u.sg<=1)(hr:AQ w uv (Bl C))(p q:Nat)(hp:p<w.heap.size)
  (x1:w.cell? ⟨p,1,none⟩=some (.int .i64 u.var)) (x2:w.cell? ⟨p,2,none⟩=some (.bool u.star)) (x3:w.cell? ⟨p,3,none⟩=some (.slice (some ⟨q,0,none⟩) 4 4)) (x4:w.cell? ⟨p,4,none⟩=some (.int .i64 u.num)) (hq:At w q (ic u.sg) tNk):
  Calls Tryz.prog 60 #[uv,.pointer (some ⟨p,0,none⟩)] w (ZV w (Kv C u)):=by
 have hmk:∀w,(Instr.makeSlice 32 (.int .i64 32) (.int .i64 32)).run Tryz.prog w=.ok (.slice (some ⟨w.heap.size,0,none⟩) 32 32) (w.alloc (.cells (ic (rl λ_=>0)) tNk)):=λ_=>by kernel_rfl
 obtain⟨t,htt⟩:∃t:Nat,u.var=(t:Int):=⟨u.var.toNat,by omega⟩
 have htn:u.var.toNat=t:=by omega
 have ht4:t<4:=by omega
 have hti:(t:Int)<4:=by omega
 rw[htt]at x1;have HCls:Hid (∀f,f<32->(Fh f t u.star u.sg).length=4/\(∀i,i<4-> -2<=AK (Fh f t u.star u.sg) i/\AK (Fh f t u.star u.sg) i<=2)/\Ky (Fh f t u.star u.sg)=true):=λf hf=>by
  have:=XZ hu hv h1 hf;rw[htn]at this;exact⟨this.2.1,this.2.2,this.1⟩
 have HDs:Hid (∀f,Kv C u f=pn (IS C (Fh f t u.star u.sg)) (Zc f t u.star u.num)):=λf=>by unfold Kv;rw[htn]
 have HGr:Hid (∀w1 b l,At w1 b (ic l) tNk/\Below w.heap.size w w1->l.length=4->(∀i,i<4-> -2<=AK l i/\AK l i<=2)->Ky l=true->Calls Tryz.prog 97 #[uv,.slice (some ⟨b,0,none⟩) 4 4] w1 λe w'=>e=.returned (.int .i64 (IS C l))/\Below w1.heap.size w1 w'):=λw1 b l hw1 h4 hl hc=>
  OH C uv _ l h4 hl hc hS (hr.keep hw1.2) (AQ.at_ hw1.1 h4 (Nat.le_refl _) (λi hi=>Aa _ _ (by omega)))
 have HRg:Hid (∀f,f<32-> -400000000000000000<=IS C (Fh f t u.star u.sg)/\IS C (Fh f t u.star u.sg)<=3000000000000):=by
  intro f hf;have hcl:=(HCls.out f hf).2.2;unfold Ky at hcl;unfold IS;split
  ·have hlt:Ar (Fh f t u.star u.sg)<32:=by
    simp only[Bool.or_eq_true,Bool.and_eq_true,decide_eq_true_eq]at hcl;omega
   have:=Jv hS (show(Ar (Fh f t u.star u.sg)).toNat<32 by omega);omega
  ·split
   ·omega
   ·rename_i h1 h2;have hlt:Ar (CH (Fh f t u.star u.sg))<32:=by
     have h2':z4 (Fh f t u.star u.sg)=false:=by simpa using h2
     rw[h2']at hcl;simp only[Bool.or_eq_true,Bool.and_eq_true,decide_eq_true_eq]at hcl;rcases hcl with(h|h)|h
     ·omega
     ·cases h.2
     ·exact h.2
    have:=Jv hS (show(Ar (CH (Fh f t u.star u.sg))).toNat<32 by omega);split
    ·unfold NB;omega
    ·omega
 have HFk:Hid (∀f,f<32->AK (C5 f) t=0\/AK (C5 f) t=1\/AK (C5 f) t= -1):=Wy t ht4;have HFl:Hid (∀f,f<32->(C5 f).length=4):=(show∀f:Nat,f<32->(C5 f).length=4 by decide)
 obtain⟨n1,n2⟩:=hu.num;have hsg:=hu.sg;have HQl:Hid (At w q (ic u.sg) tNk/\u.sg.length=4):=⟨hq,hu.len⟩
 have hql:=hq.lt;have HX:Hid (∀w1,Below w.heap.size w w1->(w1.cell? ⟨p,1,none⟩=some (.int .i64 (t:Int))/\w1.cell? ⟨p,2,none⟩=some (.bool u.star)/\w1.cell? ⟨p,3,none⟩=some (.slice (some ⟨q,0,none⟩) 4 4)/\w1.cell? ⟨p,4,none⟩=some (.int .i64 u.num))/\p<w1.heap.size):=λw1 hb=>
  ⟨⟨(hb.cell (p:=⟨p,1,none⟩) hp).trans x1,(hb.cell (p:=⟨p,2,none⟩) hp).trans x2,(hb.cell (p:=⟨p,3,none⟩) hp).trans x3,(hb.cell (p:=⟨p,4,none⟩) hp).trans x4⟩,Nat.lt_of_lt_of_le hp hb.size⟩
 have HA0:Hid (At (w.alloc (.cells (ic (rl λ_=>0)) tNk)) w.heap.size (ic (rl λ_=>0)) tNk/\Below w.heap.size w (w.alloc (.cells (ic (rl λ_=>0)) tNk))):=⟨At.new _ _ _,(Below.refl _ _).alloc (Nat.le_refl _) _⟩
 obtain⟨zl,hzl⟩:∃zl,zl=ic (rl λ_=>0):=⟨_,rfl⟩
 rw[<-hzl]at hmk;obtain⟨Z,hZ⟩:∃Z:Nat->Int,Z=λ_=>0:=⟨_,rfl⟩
 rw[<-hzl]at HA0;have HA0':Hid (At (w.alloc (.cells zl tNk)) w.heap.size (ic (rl Z)) tNk/\Below w.heap.size w (w.alloc (.cells zl tNk))):=by rw[hZ,<-hzl];exact HA0.out
 obtain⟨ao,ca,rfl, -, -⟩:=hr;clear hzl hZ HA0 hq hS hu hv h1 htn htt x1 x2 x3 x4;go_enter Tryz.func60,Tryz.ntmps60;go_wp2_with fail;go_loopw [6] (λfv wr=>∃(f:Nat)(R:Nat->Int),f<=32/\fv=.int .i64 f/\Hid (At wr w.heap.size (ic (rl R)) tNk/\(∀j,j<f->R j=Kv C u j)/\Below w.heap.size w wr)) (λfv _=>32-(intOf fv).toNat);case atStart=>exact⟨0,Z,by omega,rfl,HA0'.out.1,λj hj=>absurd hj (by omega),HA0'.out.2⟩
 case round=>
  obtain⟨f,R,hf,rfl,HR⟩:=hrel;by_cases hlt:f<32
  ·have hfi:(f:Int)<32:=by omega
   have hfm:=Pa (w:=wr) f hlt;have HCl:=(show Hid (_/\_/\_)from HCls.out f hlt)
   obtain⟨nn,hnn⟩:∃nn,nn=Zc f t u.star u.num:=⟨_,rfl⟩
   have HDf:Hid (Kv C u f=pn (IS C (Fh f t u.star u.sg)) nn):=by rw[hnn];exact HDs.out f
   have HNn:Hid (nn=if AK (C5 f) t=0 then 0 else if u.star=true then 999 else AK (C5 f) t*u.num):=hnn;have HAs:Hid (Fh f t u.star u.sg=if AK (C5 f) t≠0/\u.star=false then YV (vz f t) u.sg (AK (C5 f) t)else vz f t):=rfl;clear hnn;go_wp2_with fail;refine hfm.mono ?_;rintro e w2 ⟨rfl,ha2,hb2⟩;obtain⟨B2,hB2⟩:∃B2,B2=wr.heap.size:=⟨_,rfl⟩
   rw[<-hB2]at ha2|-;have hBB:w.heap.size<B2:=by rw[hB2];exact HR.out.1.lt
   have H2:Hid (At w2 B2 (ic (C5 f)) tNk/\At w2 w.heap.size (ic (rl R)) tNk/\Below w.heap.size w w2):=⟨ha2,At.keep HR.out.1 hb2 HR.out.1.lt,HR.out.2.2.trans (hb2.mono HR.out.2.2.size)⟩
   have ck:w2.cell? ⟨B2,t,none⟩=some (.int .i64 (AK (C5 f) t)):=by rw[ha2.cell];exact Aa _ _ (by rw[HFl.out f hlt];exact ht4)
   have cf2:=ha2.free;have hB2l:=ha2.lt;obtain⟨⟨y1,y2,y3,y4⟩,hpl⟩:=HX.out w2 H2.out.2.2;have hpB:p≠B2:=by omega
   have hkk:=HFk.out f hlt;clear hfm ha2 hb2 hB2;generalize hk:AK (C5 f) t=k at *;have H3:Hid (At (w2.setCell ⟨B2,t,none⟩ (.int .i64 0)) B2 (ic (vz f t)) tNk/\At (w2.setCell ⟨B2,t,none⟩ (.int .i64 0)) w.heap.size (ic (rl R)) tNk/\Below w.heap.size w (w2.setCell ⟨B2,t,none⟩ (.int .i64 0))):=by
    refine⟨?_,H2.out.2.1.other _ _ (by omega),H2.out.2.2.setCell (by show w.heap.size<=B2;omega) _⟩;unfold vz;rw[<-Be];exact H2.out.1.put t _
   by_cases k0:k=0
   ·subst k0;have hnz:nn=0:=by rw[HNn.out,if_pos rfl]
    subst hnz;have HV:Hid (Fh f t u.star u.sg=vz f t):=by show _=_;rw[HAs.out,if_neg (λz=>z.1 rfl)]
    have H4:Hid (At (w2.setCell ⟨B2,t,none⟩ (.int .i64 0)) B2 (ic (Fh f t u.star u.sg)) tNk/\Below w.heap.size w (w2.setCell ⟨B2,t,none⟩ (.int .i64 0))):=by rw[HV.out];exact⟨H3.out.1,H3.out.2.2⟩
    clear HV HAs HNn;have hgr:=HGr.out _ B2 (Fh f t u.star u.sg) H4.out HCl.out.1 HCl.out.2.1 HCl.out.2.2;go_wp2_with fail;refine hgr.mono ?_;rintro e w7 ⟨rfl,hb7⟩;have H7:Hid (At w7 w.heap.size (ic (rl R)) tNk/\Below w.heap.size w w7):=⟨At.keep H3.out.2.1 hb7 (At.lt H3.out.2.1),(H3.out.2.2).trans (hb7.mono (H3.out.2.2).size)⟩
    have cf7:=H7.out.1.free;have hb7l:=H7.out.1.lt;obtain⟨x7,hx7⟩:∃x,w7.cell? ⟨w.heap.size,f,none⟩=some x:=⟨_,DK H7.out.1 hlt⟩
    clear hb7 hgr;obtain⟨g1,g2⟩:=HRg.out f hlt;have HD:Hid (Kv C u f=pn (IS C (Fh f t u.star u.sg)) 0):=HDf.out;generalize IS C (Fh f t u.star u.sg)=gg at *;by_cases eg:gg=1000000
    ·subst eg;have HDD:Hid (Kv C u f=1000000):=by show _=_;rw[HD.out];rfl
     go_wp2_with fail;go_roundw
     case rel=>exact⟨f+1,Bw R f 1000000,by omega,by go_num,by rw[<-EE,<-Be];exact H7.out.1.put f _,λj hj=>by
      by_cases e:j=f
      ·rw[e,CV,HDD.out]
      ·rw[BO _ _ e];exact HR.out.2.1 j (by omega),H7.out.2.setCell (Nat.le_refl _) _⟩
     case measure=>simp[intOf];omega
    ·have eg':(gg != 1000000)=true:=by rw[bne_iff_ne];exact eg
     have HDD:Hid (Kv C u f=gg):=by show _=_;rw[HD.out];exact(if_neg eg).trans (by omega)
     go_wp2_with fail;go_roundw
     case rel=>exact⟨f+1,Bw (Bw R f 1000000) f (gg),by omega,by go_num,by rw[<-EE,<-EE,<-Be,<-Be];exact(H7.out.1.put f _).put f _,λj hj=>by
      by_cases e:j=f
      ·rw[e,CV,HDD.out]
      ·rw[BO _ _ e,BO _ _ e];exact HR.out.2.1 j (by omega),(H7.out.2.setCell (Nat.le_refl _) _).setCell (Nat.le_refl _) _⟩
     case measure=>simp[intOf];omega
   ·have hk':(k != 0)=true:=by rw[bne_iff_ne];exact k0
    have hkr: -1<=k/\k<=1:=by omega
    obtain⟨hk1,hk2⟩:=hkr;cases hst:u.star with
    |true=>
     have hnz:nn=999:=by rw[HNn.out,if_neg k0,if_pos hst]
     subst hnz;have HV:Hid (Fh f t u.star u.sg=vz f t):=by show _=_;rw[HAs.out,if_neg (λz=>by rw[hst]at z;cases z.2)]
     have H4:Hid (At (w2.setCell ⟨B2,t,none⟩ (.int .i64 0)) B2 (ic (Fh f t u.star u.sg)) tNk/\Below w.heap.size w (w2.setCell ⟨B2,t,none⟩ (.int .i64 0))):=by rw[HV.out];exact⟨H3.out.1,H3.out.2.2⟩
     rw[hst]at y2;clear HV HAs HNn k0;have hgr:=HGr.out _ B2 (Fh f t u.star u.sg) H4.out HCl.out.1 HCl.out.2.1 HCl.out.2.2;go_wp2_with fail;refine hgr.mono ?_;rintro e w7 ⟨rfl,hb7⟩;have H7:Hid (At w7 w.heap.size (ic (rl R)) tNk/\Below w.heap.size w w7):=⟨At.keep H3.out.2.1 hb7 (At.lt H3.out.2.1),(H3.out.2.2).trans (hb7.mono (H3.out.2.2).size)⟩
     have cf7:=H7.out.1.free;have hb7l:=H7.out.1.lt;obtain⟨x7,hx7⟩:∃x,w7.cell? ⟨w.heap.size,f,none⟩=some x:=⟨_,DK H7.out.1 hlt⟩
     clear hb7 hgr;obtain⟨g1,g2⟩:=HRg.out f hlt;have HD:Hid (Kv C u f=pn (IS C (Fh f t u.star u.sg)) 999):=HDf.out;generalize IS C (Fh f t u.star u.sg)=gg at *;by_cases eg:gg=1000000
     ·subst eg;have HDD:Hid (Kv C u f=1000000):=by show _=_;rw[HD.out];rfl
      go_wp2_with fail;go_roundw
      case rel=>exact⟨f+1,Bw R f 1000000,by omega,by go_num,by rw[<-EE,<-Be];exact H7.out.1.put f _,λj hj=>by
       by_cases e:j=f
       ·rw[e,CV,HDD.out]
       ·rw[BO _ _ e];exact HR.out.2.1 j (by omega),H7.out.2.setCell (Nat.le_refl _) _⟩
      case measure=>simp[intOf];omega
     ·have eg':(gg != 1000000)=true:=by rw[bne_iff_ne];exact eg
      have HDD:Hid (Kv C u f=gg+999):=by show _=_;rw[HD.out];exact(if_neg eg).trans (by omega)
      go_wp2_with fail;go_roundw
      case rel=>exact⟨f+1,Bw (Bw R f 1000000) f (gg+999),by omega,by go_num,by rw[<-EE,<-EE,<-Be,<-Be];exact(H7.out.1.put f _).put f _,λj hj=>by
       by_cases e:j=f
       ·rw[e,CV,HDD.out]
       ·rw[BO _ _ e,BO _ _ e];exact HR.out.2.1 j (by omega),(H7.out.2.setCell (Nat.le_refl _) _).setCell (Nat.le_refl _) _⟩
      case measure=>simp[intOf];omega
    |false=>
     have hnz:nn=k*u.num:=by rw[HNn.out,if_neg k0,hst,if_neg (by decide)]
     have HV:Hid (Fh f t u.star u.sg=YV (vz f t) u.sg k):=by show _=_;rw[HAs.out,if_pos ⟨k0,hst⟩]
     have hkn: -99<=k*u.num/\k*u.num<=99:=by
      rcases hkk with z|z|z
      ·exact absurd z k0
      ·rw[z];omega
      ·rw[z];omega
     obtain⟨kn1,kn2⟩:=hkn;have HNk:Hid (nn=k*u.num):=hnz;rw[hst]at y2;have hvl:(vz f t).length=4:=by unfold vz;rw[List.length_set];exact HFl.out f hlt
     have HPv:=(show Hid (∀j,j<=4->_)from Qy (vz f t) u.sg k hvl)
     have HP4:Hid (LD (vz f t) u.sg k 4=Fh f t u.star u.sg):=by show _=_;rw[X8 _ _ _ hvl,HV.out]
     have HVr:Hid (∀i,i<4-> -1<=AK (vz f t) i/\AK (vz f t) i<=1):=(show∀t:Nat,t<4->∀f,f<32->∀i,i<4-> -1<=AK (vz f t) i/\AK (vz f t) i<=1 by decide +kernel) t ht4 f hlt;obtain⟨w3,hw3⟩:∃w3,w3=w2.setCell ⟨B2,t,none⟩ (.int .i64 0):=⟨_,rfl⟩
     have hmul:∀z:Int, -1<=z->z<=1-> -1<=k*z/\k*z<=1:=by
      intro z z1 z2;rcases hkk with y|y|y
      ·exact absurd y k0
      ·rw[y];omega
      ·rw[y];omega
     have HMul:Hid (∀z:Int, -1<=z->z<=1-> -1<=k*z/\k*z<=1):=hmul;clear hnz HV HAs HNn hkk hvl hmul hw3;go_wp2_with fail;go_loopw [10] (λjv wx=>∃(j:Nat),j<=4/\jv=.int .i64 j/\Hid (At wx B2 (ic (LD (vz f t) u.sg k j)) tNk/\At wx w.heap.size (ic (rl R)) tNk/\Below w.heap.size w wx)) (λjv _=>4-(intOf jv).toNat);case atStart=>exact⟨0,by omega,rfl,H3.out⟩
     case round=>
      obtain⟨j,hj,rfl,HQ⟩:=hrel;by_cases hlj:j<4
      ·have hji:(j:Int)<4:=by omega
       obtain⟨w8,rfl⟩:∃w8,w8=wr:=⟨_,rfl⟩
       have ca:w8.cell? ⟨B2,j,none⟩=some (.int .i64 (AK (vz f t) j)):=by
        obtain⟨q1,q2⟩:=HPv.out j hj;rw[HQ.out.1.cell,Aa _ _ (by omega),q2 j (Nat.le_refl _)]
       have cb:w8.cell? ⟨q,j,none⟩=some (.int .i64 (AK u.sg j)):=by
        rw[HQ.out.2.2.cell (p:=⟨q,j,none⟩) hql,HQl.out.1.cell];exact Aa _ _ (by rw[HQl.out.2];exact hlj)
       obtain⟨⟨z1,z2,z3,z4'⟩,hpl8⟩:=HX.out w8 HQ.out.2.2;have cf:=HQ.out.1.free;have hl1:=HQ.out.1.lt;have hq8:q<w8.heap.size:=Nat.lt_of_lt_of_le hql HQ.out.2.2.size;have hr1:=HVr.out j hlj;have hr2:=hsg j;have hr3:=HMul.out _ hr2.1 hr2.2;obtain⟨r11,r12⟩:=hr1;obtain⟨r21,r22⟩:=hr2;obtain⟨r31,r32⟩:=hr3;have HP:Hid (LD (vz f t) u.sg k (j+1)=(LD (vz f t) u.sg k j).set j (AK (vz f t) j+k*AK u.sg j)):=rfl;have hqB:q≠B2:=by omega
       generalize AK (vz f t) j=a at *;generalize AK u.sg j=c at *;go_wp2_with fail;go_region;all_goals
        go_wp2_with fail;go_roundw;case rel=>
         refine⟨j+1,by omega,by go_num,?_,?_,?_⟩
         ·rw[HP.out,<-Be];exact At.drewN (HQ.out.1.put j _) 1
         ·exact At.drewN (HQ.out.2.1.other _ _ (by omega)) 1
         ·exact below_drewN (HQ.out.2.2.setCell (by show w.heap.size<=B2;omega) _) 1
        case measure=>simp[intOf];omega
      ·have hj4:j=4:=by omega
       subst hj4;have H4:Hid (At wr B2 (ic (Fh f t u.star u.sg)) tNk/\Below w.heap.size w wr):=by rw[<-HP4.out];exact⟨HQ.out.1,HQ.out.2.2⟩
       rw[HNk.out]at HDf;clear hlj;have hgr:=HGr.out _ B2 (Fh f t u.star u.sg) H4.out HCl.out.1 HCl.out.2.1 HCl.out.2.2;go_wp2_with fail;refine hgr.mono ?_;rintro e w7 ⟨rfl,hb7⟩;have H7:Hid (At w7 w.heap.size (ic (rl R)) tNk/\Below w.heap.size w w7):=⟨At.keep HQ.out.2.1 hb7 (At.lt HQ.out.2.1),(HQ.out.2.2).trans (hb7.mono (HQ.out.2.2).size)⟩
       have cf7:=H7.out.1.free;have hb7l:=H7.out.1.lt;obtain⟨x7,hx7⟩:∃x,w7.cell? ⟨w.heap.size,f,none⟩=some x:=⟨_,DK H7.out.1 hlt⟩
       clear hb7 hgr;obtain⟨g1,g2⟩:=HRg.out f hlt;have HD:Hid (Kv C u f=pn (IS C (Fh f t u.star u.sg)) (k*u.num)):=HDf.out;generalize IS C (Fh f t u.star u.sg)=gg at *;by_cases eg:gg=1000000
       ·subst eg;have HDD:Hid (Kv C u f=1000000):=by show _=_;rw[HD.out];rfl
        go_wp2_with fail;go_roundw
        case rel=>exact⟨f+1,Bw R f 1000000,by omega,by go_num,by rw[<-EE,<-Be];exact H7.out.1.put f _,λj hj=>by
         by_cases e:j=f
         ·rw[e,CV,HDD.out]
         ·rw[BO _ _ e];exact HR.out.2.1 j (by omega),H7.out.2.setCell (Nat.le_refl _) _⟩
        case measure=>simp[intOf];omega
       ·have eg':(gg != 1000000)=true:=by rw[bne_iff_ne];exact eg
        have HDD:Hid (Kv C u f=gg+k*u.num):=by show _=_;rw[HD.out];exact(if_neg eg).trans (by omega)
        go_wp2_with fail;go_roundw
        case rel=>exact⟨f+1,Bw (Bw R f 1000000) f (gg+k*u.num),by omega,by go_num,by rw[<-EE,<-EE,<-Be,<-Be];exact(H7.out.1.put f _).put f _,λj hj=>by
         by_cases e:j=f
         ·rw[e,CV,HDD.out]
         ·rw[BO _ _ e,BO _ _ e];exact HR.out.2.1 j (by omega),(H7.out.2.setCell (Nat.le_refl _) _).setCell (Nat.le_refl _) _⟩
        case measure=>simp[intOf];omega
  ·have hf32:f=32:=by omega
   subst hf32;have HRR:Hid (rl R=rl (Kv C u)):=by
    show _=_;unfold rl;exact List.map_congr_left λj hj=>HR.out.2.1 j (by simpa using hj)
   go_wp2_with fail;go_ret;exact⟨HR.out.2.2,w.heap.size,rfl,Nat.le_refl _,by rw[<-HRR.out];exact HR.out.1⟩
end Go.Proofs.YtffajooegiempaaGreatDoor
