import Derived.Test.YtffajooegiempaaGreatDoorJ20
import Derived.StillTailTactics
import Derived.Laws.BitsLemmas
set_option maxRecDepth 100000
set_option maxHeartbeats 6400000
namespace Go.Proofs.YtffajooegiempaaGreatDoor
open Go.RowKit
variable {w:World}{e0:Bool}{M:Nat->Int}
theorem Tq(h:Sh M)(t:Nat)(ht:t<4)(l:List Int)(hl:∀i, -1<=AK l i/\AK l i<=1)(n:Int)(hn: -99<=n/\n<=99)(h1:CF l≠opp (C4 l)):
  Calls Tryz.prog 141 #[.agg (oc e0 M),.int .i64 (t:Int),v4 l,.int .i64 n] w λe w'=>e=.returned (.agg (oc e0 (DO M t (CF l) n 64)))/\Below w.heap.size w w':=by
 have hz:=Bn;have h8:=Cx l 4 (Nat.le_refl _);have HSd:Hid (∀w1,Calls Tryz.prog 142 #[v4 l] w1 λe w'=>e=.returned (.tuple #[.int .i64 ((CF l:Nat):Int),.int .i64 ((C4 l:Nat):Int)])/\Below w1.heap.size w1 w'):=λw1=>Ji l hl;have hf8:CF l<8:=h8.1;have hs8:C4 l<8:=h8.2;generalize CF l=f at *;generalize C4 l=s at *;have HOp:Hid (∀(i:Nat) w1,i<8->Calls Tryz.prog 153 #[.int .i64 (i:Int)] w1 λe w'=>e=.returned (.int .i64 ((opp i:Nat):Int))/\w'=w1):=λi w1 hi=>ED i hi w1;obtain⟨w0,hw0⟩:∃w0,w0=((w.alloc (.cells (oc e0 M) tO)).alloc (.cells (c4 l) FS)).alloc (.cells (oc false λ_=>0) tO):=⟨_,rfl⟩
 have H0:Hid (AL w0 w.heap.size e0 M/\AL w0 (w.heap.size+2) false (λ_=>0)/\Below w.heap.size w w0/\w0.heap.size=w.heap.size+3):=by
  refine⟨by rw[hw0];exact At.allocH (At.allocH (At.new _ _ _) _) _,?_,by rw[hw0];exact(((Below.refl _ _).alloc (Nat.le_refl _) _).alloc (by simp) _).alloc (by simp;omega) _,by rw[hw0];simp⟩;have:=At.new ((w.alloc (.cells (oc e0 M) tO)).alloc (.cells (c4 l) FS)) (oc false λ_=>0) tO;rw[show((w.alloc (.cells (oc e0 M) tO)).alloc (.cells (c4 l) FS)).heap.size=w.heap.size+2 by simp]at this;rw[hw0];exact this
 obtain⟨BW,hBW⟩:∃BW:World->Prop,BW=λw'=>Below w0.heap.size w0 w':=⟨_,rfl⟩
 have hsd:Calls Tryz.prog 142 #[v4 l] w0 λe w'=>e=.returned (.tuple #[.int .i64 (f:Int),.int .i64 (s:Int)])/\BW w':=by rw[hBW];exact HSd.out w0
 have hne:((f:Int)==((opp s:Nat):Int))=false:=by rw[beq_eq_false_iff_ne];omega
 rw[hw0]at hsd;unfold v4 c4 at hsd;unfold v4;have HShh:Hid (Sh M):=h;clear HSd h8 h1 h;rcases(show t=0\/t=1\/t=2\/t=3 by omega)with rfl|rfl|rfl|rfl
 ·go_enter Tryz.func141,Tryz.ntmps141;go_wp2_with fail;refine hsd.mono ?_;rintro e w1 ⟨rfl,hb1⟩;rw[hBW]at hb1;have H1:Hid (AL w1 w.heap.size e0 M/\AL w1 (w.heap.size+2) false (λ_=>0)/\Below w.heap.size w w1/\w.heap.size+3<=w1.heap.size):=by
   have s0:=H0.out.2.2.2;have s1:=hb1.size;exact⟨At.keep H0.out.1 hb1 (by omega),At.keep H0.out.2.1 hb1 (by omega),H0.out.2.2.1.trans (hb1.mono (by omega)),by omega⟩
  clear hb1 hsd hBW hw0 H0;have hop:=HOp.out s w1 hs8;go_wp2_with fail;refine hop.mono ?_;rintro e w2 ⟨rfl,hw2⟩;subst hw2;clear hop;have hop2:=HOp.out f ((w2.alloc (.cells #[.int .i64 (f:Int),.int .i64 1,.int .i64 2,.int .i64 3,.int .i64 4,.int .i64 5,.int .i64 6,.int .i64 7] B4)).alloc (.cells #[.int .i64 0,.int .i64 0,.int .i64 0,.int .i64 0,.int .i64 0,.int .i64 0,.int .i64 0,.int .i64 0] B4)) hf8;go_wp2_with fail;refine hop2.mono ?_;rintro e w3 ⟨rfl,hw3⟩;subst hw3;obtain⟨w4,hst4,hat4,hb4,hs4⟩:=Bb ((w2.alloc (.cells #[.int .i64 (f:Int),.int .i64 ((opp f:Nat):Int),.int .i64 2,.int .i64 3,.int .i64 4,.int .i64 5,.int .i64 6,.int .i64 7] B4)).alloc (.cells #[.int .i64 n,.int .i64 (-n),.int .i64 0,.int .i64 0,.int .i64 0,.int .i64 0,.int .i64 0,.int .i64 0] B4)) e0 M;have s1:=H1.out.2.2.2;have hz4:((w2.alloc (.cells #[.int .i64 (f:Int),.int .i64 ((opp f:Nat):Int),.int .i64 2,.int .i64 3,.int .i64 4,.int .i64 5,.int .i64 6,.int .i64 7] B4)).alloc (.cells #[.int .i64 n,.int .i64 (-n),.int .i64 0,.int .i64 0,.int .i64 0,.int .i64 0,.int .i64 0,.int .i64 0] B4)).heap.size=w2.heap.size+2:=by simp
  rw[hz4]at hat4 hb4 hs4 hst4;have hbx:Below w2.heap.size w2 ((w2.alloc (.cells #[.int .i64 (f:Int),.int .i64 ((opp f:Nat):Int),.int .i64 2,.int .i64 3,.int .i64 4,.int .i64 5,.int .i64 6,.int .i64 7] B4)).alloc (.cells #[.int .i64 n,.int .i64 (-n),.int .i64 0,.int .i64 0,.int .i64 0,.int .i64 0,.int .i64 0,.int .i64 0] B4)):=((Below.refl _ _).alloc (Nat.le_refl _) _).alloc (by simp) _;have hao:At ((w2.alloc (.cells #[.int .i64 (f:Int),.int .i64 ((opp f:Nat):Int),.int .i64 2,.int .i64 3,.int .i64 4,.int .i64 5,.int .i64 6,.int .i64 7] B4)).alloc (.cells #[.int .i64 n,.int .i64 (-n),.int .i64 0,.int .i64 0,.int .i64 0,.int .i64 0,.int .i64 0,.int .i64 0] B4)) w2.heap.size (c8 λi=>((Ak 0 f i:Nat):Int)) B4:=At.allocH (At.new _ _ _) _;have haa:At ((w2.alloc (.cells #[.int .i64 (f:Int),.int .i64 ((opp f:Nat):Int),.int .i64 2,.int .i64 3,.int .i64 4,.int .i64 5,.int .i64 6,.int .i64 7] B4)).alloc (.cells #[.int .i64 n,.int .i64 (-n),.int .i64 0,.int .i64 0,.int .i64 0,.int .i64 0,.int .i64 0,.int .i64 0] B4)) (w2.heap.size+1) (c8 (BK 0 n)) B4:=by
   have:=At.new (w2.alloc (.cells #[.int .i64 (f:Int),.int .i64 ((opp f:Nat):Int),.int .i64 2,.int .i64 3,.int .i64 4,.int .i64 5,.int .i64 6,.int .i64 7] B4)) #[.int .i64 n,.int .i64 (-n),.int .i64 0,.int .i64 0,.int .i64 0,.int .i64 0,.int .i64 0,.int .i64 0] B4;rw[show(w2.alloc (.cells #[.int .i64 (f:Int),.int .i64 ((opp f:Nat):Int),.int .i64 2,.int .i64 3,.int .i64 4,.int .i64 5,.int .i64 6,.int .i64 7] B4)).heap.size=w2.heap.size+1 by simp]at this;exact this
  have H4:Hid (AL w4 (w2.heap.size+2) e0 (DO M 0 f n 0)/\AL w4 w.heap.size e0 M/\At w4 w2.heap.size (c8 λi=>((Ak 0 f i:Nat):Int)) B4/\At w4 (w2.heap.size+1) (c8 (BK 0 n)) B4/\AL w4 (w.heap.size+2) false (λ_=>0)/\Below w.heap.size w w4):=
   ⟨hat4,At.keep (At.keep H1.out.1 hbx (by omega)) hb4 (by omega),hao.keep hb4 (by omega),haa.keep hb4 (by omega),At.keep (At.keep H1.out.2.1 hbx (by omega)) hb4 (by omega),(H1.out.2.2.1.trans (hbx.mono (by omega))).trans (hb4.mono (by omega))⟩
  have HA2:Hid (AL ((w2.alloc (.cells #[.int .i64 (f:Int),.int .i64 ((opp f:Nat):Int),.int .i64 2,.int .i64 3,.int .i64 4,.int .i64 5,.int .i64 6,.int .i64 7] B4)).alloc (.cells #[.int .i64 n,.int .i64 (-n),.int .i64 0,.int .i64 0,.int .i64 0,.int .i64 0,.int .i64 0,.int .i64 0] B4)) w.heap.size e0 M):=At.keep H1.out.1 hbx (by omega);clear hat4 hb4 hbx hao haa hop2;go_wp2_with (refine AH rfl (.tmp 4) rfl rfl HA2.out ?_);clear hst4 hz4 HA2 HOp hne hs4;go_loopw [15] (λiv wr=>∃(i:Nat),i<=8/\iv=.int .i64 i/\Hid (AL wr (w2.heap.size+2) e0 (DO M 0 f n (i*8))/\AL wr w.heap.size e0 M/\At wr w2.heap.size (c8 λi=>((Ak 0 f i:Nat):Int)) B4/\At wr (w2.heap.size+1) (c8 (BK 0 n)) B4/\AL wr (w.heap.size+2) false (λ_=>0)/\Below w.heap.size w wr)) (λiv _=>8-(intOf iv).toNat);case atStart=>exact⟨0,by omega,rfl,H4.out⟩
  case round=>
   obtain⟨i,hi,rfl,HR⟩:=hrel;clear H4;by_cases hli:i<8
   ·have hii:(i:Int)<8:=by omega
    obtain⟨w5,rfl⟩:∃w5,w5=wr:=⟨_,rfl⟩
    go_wp2_with fail;go_loopw [16] (λjv wr=>∃(j:Nat),j<=8/\jv=.int .i64 j/\Hid (AL wr (w2.heap.size+2) e0 (DO M 0 f n (i*8+j))/\AL wr w.heap.size e0 M/\At wr w2.heap.size (c8 λi=>((Ak 0 f i:Nat):Int)) B4/\At wr (w2.heap.size+1) (c8 (BK 0 n)) B4/\AL wr (w.heap.size+2) false (λ_=>0)/\Below w.heap.size w wr)) (λjv _=>8-(intOf jv).toNat);case atStart=>exact⟨0,by omega,rfl,HR.out⟩
    case round=>
     obtain⟨j,hj,rfl,HQ⟩:=hrel;clear HR;by_cases hlj:j<8
     ·have hji:(j:Int)<8:=by omega
      obtain⟨w6,rfl⟩:∃w6,w6=wr:=⟨_,rfl⟩
      have c1:w6.cell? ⟨w2.heap.size,i,none⟩=some (.int .i64 ((Ak 0 f i:Nat):Int)):=by rw[HQ.out.2.2.1.cell];exact DP _ hli
      have c2:w6.cell? ⟨w2.heap.size,j,none⟩=some (.int .i64 ((Ak 0 f j:Nat):Int)):=by rw[HQ.out.2.2.1.cell];exact DP _ hlj
      have c3:w6.cell? ⟨w2.heap.size+1,i,none⟩=some (.int .i64 (BK 0 n i)):=by rw[HQ.out.2.2.2.1.cell];exact DP _ hli
      have c4':w6.cell? ⟨w2.heap.size+1,j,none⟩=some (.int .i64 (BK 0 n j)):=by rw[HQ.out.2.2.2.1.cell];exact DP _ hlj
      have ha:=Cv (t:=0) hf8 hli;have hb:=Cv (t:=0) hf8 hlj;have hx:=Cm (t:=0) (n:=n) (by omega) i;have hy:=Cm (t:=0) (n:=n) (by omega) j;have HE:Hid (DO M 0 f n (i*8+j+1)=Bw (DO M 0 f n (i*8+j)) (i*8+j) (pl (M (Ak 0 f i*8+Ak 0 f j)) (BK 0 n i+BK 0 n j))):=by
       show Bw _ _ (pl (M (Ak 0 f ((i*8+j)/8)*8+Ak 0 f ((i*8+j)%8))) (BK 0 n ((i*8+j)/8)+BK 0 n ((i*8+j)%8)))=_;rw[show(i*8+j)/8=i by omega,show(i*8+j)%8=j by omega]
      generalize Ak 0 f i=a at *;generalize Ak 0 f j=b at *;generalize BK 0 n i=x at *;generalize BK 0 n j=y at *;obtain⟨x0,x1⟩:=hx;obtain⟨y0,y1⟩:=hy;have hwx:IntKind.i64.wrap (x+y)=x+y:=by rw[IntKind.wrap_i64];omega
      have hai:(a:Int)<8:=by omega
      have hbi:(b:Int)<8:=by omega
      have hk:i*8+j<64:=by omega
      have c5:w6.cell? ⟨w.heap.size,1+a*8+b,none⟩=some (.int .i64 (M (a*8+b))):=by rw[Nat.add_assoc];exact AL.cell HQ.out.2.1 (a*8+b) (by omega)
      have c6:w6.cell? ⟨w2.heap.size+2,1+i*8+j,none⟩=some (.int .i64 (DO M 0 f n (i*8+j) (i*8+j))):=by rw[Nat.add_assoc];exact AL.cell HQ.out.1 (i*8+j) hk
      have cf:∀q,w6.frozen? ⟨w2.heap.size+2,q,none⟩=false:=At.free HQ.out.1;have hm:=HShh.out (a*8+b) (by omega);have HP:Hid (∀w1,Calls Tryz.prog 152 #[.int .i64 (M (a*8+b)),.int .i64 (x+y)] w1 λe w'=>e=.returned (.int .i64 (pl (M (a*8+b)) (x+y)))/\w'=w1):=λw1=>GS _ _ ⟨by omega,by unfold NB at hm;omega⟩ ⟨by omega,by omega⟩ w1;have hl6:w2.heap.size+2<w6.heap.size:=At.lt HQ.out.1;generalize M (a*8+b)=mm at *;generalize pl mm (x+y)=pq at *;generalize DO M 0 f n (i*8+j) (i*8+j)=old at *;clear hm;go_wp2_with fail;refine wp_region_still_tail 22 (by kernel_rfl) (by kernel_rfl) ?_;simp only[List.take_succ_cons,List.take_zero,List.drop_succ_cons,List.drop_zero]
      iterate 19 still_step
      still_call (HP.out _)
      still_step
      still_step
      refine wpStill_nil ?_
      ·go_wp2_with fail;go_roundw;case rel=>
        refine⟨j+1,by omega,by go_num,?_,?_,?_,?_,?_,?_⟩
        ·rw[<-Nat.add_assoc,HE.out,Nat.add_assoc];exact At.drewN (AL.put HQ.out.1 (i*8+j) hk _) 1
        ·exact At.drewN (At.other HQ.out.2.1 _ _ (by omega)) 1
        ·exact At.drewN (HQ.out.2.2.1.other _ _ (by omega)) 1
        ·exact At.drewN (HQ.out.2.2.2.1.other _ _ (by omega)) 1
        ·exact At.drewN (At.other HQ.out.2.2.2.2.1 _ _ (by omega)) 1
        ·exact below_drewN (HQ.out.2.2.2.2.2.setCell (by show w.heap.size<=w2.heap.size+2;omega) _) 1
       case measure=>simp[intOf];omega
     ·have hj8:j=8:=by omega
      subst hj8;go_wp2_with fail;go_roundw;case rel=>exact⟨i+1,by omega,by go_num,by rw[show(i+1)*8=i*8+8 by omega];exact HQ.out.1,HQ.out.2⟩
      case measure=>simp[intOf];omega
   ·have hi8:i=8:=by omega
    subst hi8;obtain⟨w7,hst7,hat7,ho7⟩:=Al HR.out.2.2.2.2.1 e0 (DO M 0 f n 64);have H7:Hid (AL w7 (w.heap.size+2) e0 (DO M 0 f n 64)/\Below w.heap.size w w7):=⟨hat7,HR.out.2.2.2.2.2.trans (ho7.below (by omega) HR.out.2.2.2.2.2.size)⟩
    have HM8:Hid (AL wr (w2.heap.size+2) e0 (DO M 0 f n 64)):=HR.out.1;clear hat7 ho7;generalize hTT:DO M 0 f n 64=T at *;have HTT:Hid (DO M 0 f n 64=T):=hTT;clear hTT;go_wp2_with (refine AH rfl (.tmp 14) rfl rfl HM8.out ?_);try simp only[Exit.inBlock,Exit.then]
    refine bodyPost_ret (Ag rfl _ rfl H7.out.1) rfl ?_;exact⟨by rw[HTT.out],H7.out.2⟩
 ·go_enter Tryz.func141,Tryz.ntmps141;go_wp2_with fail;refine hsd.mono ?_;rintro e w1 ⟨rfl,hb1⟩;rw[hBW]at hb1;have H1:Hid (AL w1 w.heap.size e0 M/\AL w1 (w.heap.size+2) false (λ_=>0)/\Below w.heap.size w w1/\w.heap.size+3<=w1.heap.size):=by
   have s0:=H0.out.2.2.2;have s1:=hb1.size;exact⟨At.keep H0.out.1 hb1 (by omega),At.keep H0.out.2.1 hb1 (by omega),H0.out.2.2.1.trans (hb1.mono (by omega)),by omega⟩
  clear hb1 hsd hBW hw0 H0;have hop:=HOp.out s w1 hs8;go_wp2_with fail;refine hop.mono ?_;rintro e w2 ⟨rfl,hw2⟩;subst hw2;clear hop;have hop2:=HOp.out f ((w2.alloc (.cells #[.int .i64 0,.int .i64 1,.int .i64 (f:Int),.int .i64 3,.int .i64 4,.int .i64 5,.int .i64 6,.int .i64 7] B4)).alloc (.cells #[.int .i64 0,.int .i64 0,.int .i64 0,.int .i64 0,.int .i64 0,.int .i64 0,.int .i64 0,.int .i64 0] B4)) hf8;go_wp2_with fail;refine hop2.mono ?_;rintro e w3 ⟨rfl,hw3⟩;subst hw3;obtain⟨w4,hst4,hat4,hb4,hs4⟩:=Bb ((w2.alloc (.cells #[.int .i64 0,.int .i64 1,.int .i64 (f:Int),.int .i64 ((opp f:Nat):Int),.int .i64 4,.int .i64 5,.int .i64 6,.int .i64 7] B4)).alloc (.cells #[.int .i64 0,.int .i64 0,.int .i64 n,.int .i64 (-n),.int .i64 0,.int .i64 0,.int .i64 0,.int .i64 0] B4)) e0 M;have s1:=H1.out.2.2.2;have hz4:((w2.alloc (.cells #[.int .i64 0,.int .i64 1,.int .i64 (f:Int),.int .i64 ((opp f:Nat):Int),.int .i64 4,.int .i64 5,.int .i64 6,.int .i64 7] B4)).alloc (.cells #[.int .i64 0,.int .i64 0,.int .i64 n,.int .i64 (-n),.int .i64 0,.int .i64 0,.int .i64 0,.int .i64 0] B4)).heap.size=w2.heap.size+2:=by simp
  rw[hz4]at hat4 hb4 hs4 hst4;have hbx:Below w2.heap.size w2 ((w2.alloc (.cells #[.int .i64 0,.int .i64 1,.int .i64 (f:Int),.int .i64 ((opp f:Nat):Int),.int .i64 4,.int .i64 5,.int .i64 6,.int .i64 7] B4)).alloc (.cells #[.int .i64 0,.int .i64 0,.int .i64 n,.int .i64 (-n),.int .i64 0,.int .i64 0,.int .i64 0,.int .i64 0] B4)):=((Below.refl _ _).alloc (Nat.le_refl _) _).alloc (by simp) _;have hao:At ((w2.alloc (.cells #[.int .i64 0,.int .i64 1,.int .i64 (f:Int),.int .i64 ((opp f:Nat):Int),.int .i64 4,.int .i64 5,.int .i64 6,.int .i64 7] B4)).alloc (.cells #[.int .i64 0,.int .i64 0,.int .i64 n,.int .i64 (-n),.int .i64 0,.int .i64 0,.int .i64 0,.int .i64 0] B4)) w2.heap.size (c8 λi=>((Ak 1 f i:Nat):Int)) B4:=At.allocH (At.new _ _ _) _;have haa:At ((w2.alloc (.cells #[.int .i64 0,.int .i64 1,.int .i64 (f:Int),.int .i64 ((opp f:Nat):Int),.int .i64 4,.int .i64 5,.int .i64 6,.int .i64 7] B4)).alloc (.cells #[.int .i64 0,.int .i64 0,.int .i64 n,.int .i64 (-n),.int .i64 0,.int .i64 0,.int .i64 0,.int .i64 0] B4)) (w2.heap.size+1) (c8 (BK 1 n)) B4:=by
   have:=At.new (w2.alloc (.cells #[.int .i64 0,.int .i64 1,.int .i64 (f:Int),.int .i64 ((opp f:Nat):Int),.int .i64 4,.int .i64 5,.int .i64 6,.int .i64 7] B4)) #[.int .i64 0,.int .i64 0,.int .i64 n,.int .i64 (-n),.int .i64 0,.int .i64 0,.int .i64 0,.int .i64 0] B4;rw[show(w2.alloc (.cells #[.int .i64 0,.int .i64 1,.int .i64 (f:Int),.int .i64 ((opp f:Nat):Int),.int .i64 4,.int .i64 5,.int .i64 6,.int .i64 7] B4)).heap.size=w2.heap.size+1 by simp]at this;exact this
  have H4:Hid (AL w4 (w2.heap.size+2) e0 (DO M 1 f n 0)/\AL w4 w.heap.size e0 M/\At w4 w2.heap.size (c8 λi=>((Ak 1 f i:Nat):Int)) B4/\At w4 (w2.heap.size+1) (c8 (BK 1 n)) B4/\AL w4 (w.heap.size+2) false (λ_=>0)/\Below w.heap.size w w4):=
   ⟨hat4,At.keep (At.keep H1.out.1 hbx (by omega)) hb4 (by omega),hao.keep hb4 (by omega),haa.keep hb4 (by omega),At.keep (At.keep H1.out.2.1 hbx (by omega)) hb4 (by omega),(H1.out.2.2.1.trans (hbx.mono (by omega))).trans (hb4.mono (by omega))⟩
  have HA2:Hid (AL ((w2.alloc (.cells #[.int .i64 0,.int .i64 1,.int .i64 (f:Int),.int .i64 ((opp f:Nat):Int),.int .i64 4,.int .i64 5,.int .i64 6,.int .i64 7] B4)).alloc (.cells #[.int .i64 0,.int .i64 0,.int .i64 n,.int .i64 (-n),.int .i64 0,.int .i64 0,.int .i64 0,.int .i64 0] B4)) w.heap.size e0 M):=At.keep H1.out.1 hbx (by omega);clear hat4 hb4 hbx hao haa hop2;go_wp2_with (refine AH rfl (.tmp 4) rfl rfl HA2.out ?_);clear hst4 hz4 HA2 HOp hne hs4;go_loopw [15] (λiv wr=>∃(i:Nat),i<=8/\iv=.int .i64 i/\Hid (AL wr (w2.heap.size+2) e0 (DO M 1 f n (i*8))/\AL wr w.heap.size e0 M/\At wr w2.heap.size (c8 λi=>((Ak 1 f i:Nat):Int)) B4/\At wr (w2.heap.size+1) (c8 (BK 1 n)) B4/\AL wr (w.heap.size+2) false (λ_=>0)/\Below w.heap.size w wr)) (λiv _=>8-(intOf iv).toNat);case atStart=>exact⟨0,by omega,rfl,H4.out⟩
  case round=>
   obtain⟨i,hi,rfl,HR⟩:=hrel;clear H4;by_cases hli:i<8
   ·have hii:(i:Int)<8:=by omega
    obtain⟨w5,rfl⟩:∃w5,w5=wr:=⟨_,rfl⟩
    go_wp2_with fail;go_loopw [16] (λjv wr=>∃(j:Nat),j<=8/\jv=.int .i64 j/\Hid (AL wr (w2.heap.size+2) e0 (DO M 1 f n (i*8+j))/\AL wr w.heap.size e0 M/\At wr w2.heap.size (c8 λi=>((Ak 1 f i:Nat):Int)) B4/\At wr (w2.heap.size+1) (c8 (BK 1 n)) B4/\AL wr (w.heap.size+2) false (λ_=>0)/\Below w.heap.size w wr)) (λjv _=>8-(intOf jv).toNat);case atStart=>exact⟨0,by omega,rfl,HR.out⟩
    case round=>
     obtain⟨j,hj,rfl,HQ⟩:=hrel;clear HR;by_cases hlj:j<8
     ·have hji:(j:Int)<8:=by omega
      obtain⟨w6,rfl⟩:∃w6,w6=wr:=⟨_,rfl⟩
      have c1:w6.cell? ⟨w2.heap.size,i,none⟩=some (.int .i64 ((Ak 1 f i:Nat):Int)):=by rw[HQ.out.2.2.1.cell];exact DP _ hli
      have c2:w6.cell? ⟨w2.heap.size,j,none⟩=some (.int .i64 ((Ak 1 f j:Nat):Int)):=by rw[HQ.out.2.2.1.cell];exact DP _ hlj
      have c3:w6.cell? ⟨w2.heap.size+1,i,none⟩=some (.int .i64 (BK 1 n i)):=by rw[HQ.out.2.2.2.1.cell];exact DP _ hli
      have c4':w6.cell? ⟨w2.heap.size+1,j,none⟩=some (.int .i64 (BK 1 n j)):=by rw[HQ.out.2.2.2.1.cell];exact DP _ hlj
      have ha:=Cv (t:=1) hf8 hli;have hb:=Cv (t:=1) hf8 hlj;have hx:=Cm (t:=1) (n:=n) (by omega) i;have hy:=Cm (t:=1) (n:=n) (by omega) j;have HE:Hid (DO M 1 f n (i*8+j+1)=Bw (DO M 1 f n (i*8+j)) (i*8+j) (pl (M (Ak 1 f i*8+Ak 1 f j)) (BK 1 n i+BK 1 n j))):=by
       show Bw _ _ (pl (M (Ak 1 f ((i*8+j)/8)*8+Ak 1 f ((i*8+j)%8))) (BK 1 n ((i*8+j)/8)+BK 1 n ((i*8+j)%8)))=_;rw[show(i*8+j)/8=i by omega,show(i*8+j)%8=j by omega]
      generalize Ak 1 f i=a at *;generalize Ak 1 f j=b at *;generalize BK 1 n i=x at *;generalize BK 1 n j=y at *;obtain⟨x0,x1⟩:=hx;obtain⟨y0,y1⟩:=hy;have hwx:IntKind.i64.wrap (x+y)=x+y:=by rw[IntKind.wrap_i64];omega
      have hai:(a:Int)<8:=by omega
      have hbi:(b:Int)<8:=by omega
      have hk:i*8+j<64:=by omega
      have c5:w6.cell? ⟨w.heap.size,1+a*8+b,none⟩=some (.int .i64 (M (a*8+b))):=by rw[Nat.add_assoc];exact AL.cell HQ.out.2.1 (a*8+b) (by omega)
      have c6:w6.cell? ⟨w2.heap.size+2,1+i*8+j,none⟩=some (.int .i64 (DO M 1 f n (i*8+j) (i*8+j))):=by rw[Nat.add_assoc];exact AL.cell HQ.out.1 (i*8+j) hk
      have cf:∀q,w6.frozen? ⟨w2.heap.size+2,q,none⟩=false:=At.free HQ.out.1;have hm:=HShh.out (a*8+b) (by omega);have HP:Hid (∀w1,Calls Tryz.prog 152 #[.int .i64 (M (a*8+b)),.int .i64 (x+y)] w1 λe w'=>e=.returned (.int .i64 (pl (M (a*8+b)) (x+y)))/\w'=w1):=λw1=>GS _ _ ⟨by omega,by unfold NB at hm;omega⟩ ⟨by omega,by omega⟩ w1;have hl6:w2.heap.size+2<w6.heap.size:=At.lt HQ.out.1;generalize M (a*8+b)=mm at *;generalize pl mm (x+y)=pq at *;generalize DO M 1 f n (i*8+j) (i*8+j)=old at *;clear hm;go_wp2_with fail;refine wp_region_still_tail 22 (by kernel_rfl) (by kernel_rfl) ?_;simp only[List.take_succ_cons,List.take_zero,List.drop_succ_cons,List.drop_zero]
      iterate 19 still_step
      still_call (HP.out _)
      still_step
      still_step
      refine wpStill_nil ?_
      ·go_wp2_with fail;go_roundw;case rel=>
        refine⟨j+1,by omega,by go_num,?_,?_,?_,?_,?_,?_⟩
        ·rw[<-Nat.add_assoc,HE.out,Nat.add_assoc];exact At.drewN (AL.put HQ.out.1 (i*8+j) hk _) 1
        ·exact At.drewN (At.other HQ.out.2.1 _ _ (by omega)) 1
        ·exact At.drewN (HQ.out.2.2.1.other _ _ (by omega)) 1
        ·exact At.drewN (HQ.out.2.2.2.1.other _ _ (by omega)) 1
        ·exact At.drewN (At.other HQ.out.2.2.2.2.1 _ _ (by omega)) 1
        ·exact below_drewN (HQ.out.2.2.2.2.2.setCell (by show w.heap.size<=w2.heap.size+2;omega) _) 1
       case measure=>simp[intOf];omega
     ·have hj8:j=8:=by omega
      subst hj8;go_wp2_with fail;go_roundw;case rel=>exact⟨i+1,by omega,by go_num,by rw[show(i+1)*8=i*8+8 by omega];exact HQ.out.1,HQ.out.2⟩
      case measure=>simp[intOf];omega
   ·have hi8:i=8:=by omega
    subst hi8;obtain⟨w7,hst7,hat7,ho7⟩:=Al HR.out.2.2.2.2.1 e0 (DO M 1 f n 64);have H7:Hid (AL w7 (w.heap.size+2) e0 (DO M 1 f n 64)/\Below w.heap.size w w7):=⟨hat7,HR.out.2.2.2.2.2.trans (ho7.below (by omega) HR.out.2.2.2.2.2.size)⟩
    have HM8:Hid (AL wr (w2.heap.size+2) e0 (DO M 1 f n 64)):=HR.out.1;clear hat7 ho7;generalize hTT:DO M 1 f n 64=T at *;have HTT:Hid (DO M 1 f n 64=T):=hTT;clear hTT;go_wp2_with (refine AH rfl (.tmp 14) rfl rfl HM8.out ?_);try simp only[Exit.inBlock,Exit.then]
    refine bodyPost_ret (Ag rfl _ rfl H7.out.1) rfl ?_;exact⟨by rw[HTT.out],H7.out.2⟩
 ·go_enter Tryz.func141,Tryz.ntmps141;go_wp2_with fail;refine hsd.mono ?_;rintro e w1 ⟨rfl,hb1⟩;rw[hBW]at hb1;have H1:Hid (AL w1 w.heap.size e0 M/\AL w1 (w.heap.size+2) false (λ_=>0)/\Below w.heap.size w w1/\w.heap.size+3<=w1.heap.size):=by
   have s0:=H0.out.2.2.2;have s1:=hb1.size;exact⟨At.keep H0.out.1 hb1 (by omega),At.keep H0.out.2.1 hb1 (by omega),H0.out.2.2.1.trans (hb1.mono (by omega)),by omega⟩
  clear hb1 hsd hBW hw0 H0;have hop:=HOp.out s w1 hs8;go_wp2_with fail;refine hop.mono ?_;rintro e w2 ⟨rfl,hw2⟩;subst hw2;clear hop;have hop2:=HOp.out f ((w2.alloc (.cells #[.int .i64 0,.int .i64 1,.int .i64 2,.int .i64 3,.int .i64 (f:Int),.int .i64 5,.int .i64 6,.int .i64 7] B4)).alloc (.cells #[.int .i64 0,.int .i64 0,.int .i64 0,.int .i64 0,.int .i64 0,.int .i64 0,.int .i64 0,.int .i64 0] B4)) hf8;go_wp2_with fail;refine hop2.mono ?_;rintro e w3 ⟨rfl,hw3⟩;subst hw3;obtain⟨w4,hst4,hat4,hb4,hs4⟩:=Bb ((w2.alloc (.cells #[.int .i64 0,.int .i64 1,.int .i64 2,.int .i64 3,.int .i64 (f:Int),.int .i64 ((opp f:Nat):Int),.int .i64 6,.int .i64 7] B4)).alloc (.cells #[.int .i64 0,.int .i64 0,.int .i64 0,.int .i64 0,.int .i64 n,.int .i64 (-n),.int .i64 0,.int .i64 0] B4)) e0 M;have s1:=H1.out.2.2.2;have hz4:((w2.alloc (.cells #[.int .i64 0,.int .i64 1,.int .i64 2,.int .i64 3,.int .i64 (f:Int),.int .i64 ((opp f:Nat):Int),.int .i64 6,.int .i64 7] B4)).alloc (.cells #[.int .i64 0,.int .i64 0,.int .i64 0,.int .i64 0,.int .i64 n,.int .i64 (-n),.int .i64 0,.int .i64 0] B4)).heap.size=w2.heap.size+2:=by simp
  rw[hz4]at hat4 hb4 hs4 hst4;have hbx:Below w2.heap.size w2 ((w2.alloc (.cells #[.int .i64 0,.int .i64 1,.int .i64 2,.int .i64 3,.int .i64 (f:Int),.int .i64 ((opp f:Nat):Int),.int .i64 6,.int .i64 7] B4)).alloc (.cells #[.int .i64 0,.int .i64 0,.int .i64 0,.int .i64 0,.int .i64 n,.int .i64 (-n),.int .i64 0,.int .i64 0] B4)):=((Below.refl _ _).alloc (Nat.le_refl _) _).alloc (by simp) _;have hao:At ((w2.alloc (.cells #[.int .i64 0,.int .i64 1,.int .i64 2,.int .i64 3,.int .i64 (f:Int),.int .i64 ((opp f:Nat):Int),.int .i64 6,.int .i64 7] B4)).alloc (.cells #[.int .i64 0,.int .i64 0,.int .i64 0,.int .i64 0,.int .i64 n,.int .i64 (-n),.int .i64 0,.int .i64 0] B4)) w2.heap.size (c8 λi=>((Ak 2 f i:Nat):Int)) B4:=At.allocH (At.new _ _ _) _;have haa:At ((w2.alloc (.cells #[.int .i64 0,.int .i64 1,.int .i64 2,.int .i64 3,.int .i64 (f:Int),.int .i64 ((opp f:Nat):Int),.int .i64 6,.int .i64 7] B4)).alloc (.cells #[.int .i64 0,.int .i64 0,.int .i64 0,.int .i64 0,.int .i64 n,.int .i64 (-n),.int .i64 0,.int .i64 0] B4)) (w2.heap.size+1) (c8 (BK 2 n)) B4:=by
   have:=At.new (w2.alloc (.cells #[.int .i64 0,.int .i64 1,.int .i64 2,.int .i64 3,.int .i64 (f:Int),.int .i64 ((opp f:Nat):Int),.int .i64 6,.int .i64 7] B4)) #[.int .i64 0,.int .i64 0,.int .i64 0,.int .i64 0,.int .i64 n,.int .i64 (-n),.int .i64 0,.int .i64 0] B4;rw[show(w2.alloc (.cells #[.int .i64 0,.int .i64 1,.int .i64 2,.int .i64 3,.int .i64 (f:Int),.int .i64 ((opp f:Nat):Int),.int .i64 6,.int .i64 7] B4)).heap.size=w2.heap.size+1 by simp]at this;exact this
  have H4:Hid (AL w4 (w2.heap.size+2) e0 (DO M 2 f n 0)/\AL w4 w.heap.size e0 M/\At w4 w2.heap.size (c8 λi=>((Ak 2 f i:Nat):Int)) B4/\At w4 (w2.heap.size+1) (c8 (BK 2 n)) B4/\AL w4 (w.heap.size+2) false (λ_=>0)/\Below w.heap.size w w4):=
   ⟨hat4,At.keep (At.keep H1.out.1 hbx (by omega)) hb4 (by omega),hao.keep hb4 (by omega),haa.keep hb4 (by omega),At.keep (At.keep H1.out.2.1 hbx (by omega)) hb4 (by omega),(H1.out.2.2.1.trans (hbx.mono (by omega))).trans (hb4.mono (by omega))⟩
  have HA2:Hid (AL ((w2.alloc (.cells #[.int .i64 0,.int .i64 1,.int .i64 2,.int .i64 3,.int .i64 (f:Int),.int .i64 ((opp f:Nat):Int),.int .i64 6,.int .i64 7] B4)).alloc (.cells #[.int .i64 0,.int .i64 0,.int .i64 0,.int .i64 0,.int .i64 n,.int .i64 (-n),.int .i64 0,.int .i64 0] B4)) w.heap.size e0 M):=At.keep H1.out.1 hbx (by omega);clear hat4 hb4 hbx hao haa hop2;go_wp2_with (refine AH rfl (.tmp 4) rfl rfl HA2.out ?_);clear hst4 hz4 HA2 HOp hne hs4;go_loopw [15] (λiv wr=>∃(i:Nat),i<=8/\iv=.int .i64 i/\Hid (AL wr (w2.heap.size+2) e0 (DO M 2 f n (i*8))/\AL wr w.heap.size e0 M/\At wr w2.heap.size (c8 λi=>((Ak 2 f i:Nat):Int)) B4/\At wr (w2.heap.size+1) (c8 (BK 2 n)) B4/\AL wr (w.heap.size+2) false (λ_=>0)/\Below w.heap.size w wr)) (λiv _=>8-(intOf iv).toNat);case atStart=>exact⟨0,by omega,rfl,H4.out⟩
  case round=>
   obtain⟨i,hi,rfl,HR⟩:=hrel;clear H4;by_cases hli:i<8
   ·have hii:(i:Int)<8:=by omega
    obtain⟨w5,rfl⟩:∃w5,w5=wr:=⟨_,rfl⟩
    go_wp2_with fail;go_loopw [16] (λjv wr=>∃(j:Nat),j<=8/\jv=.int .i64 j/\Hid (AL wr (w2.heap.size+2) e0 (DO M 2 f n (i*8+j))/\AL wr w.heap.size e0 M/\At wr w2.heap.size (c8 λi=>((Ak 2 f i:Nat):Int)) B4/\At wr (w2.heap.size+1) (c8 (BK 2 n)) B4/\AL wr (w.heap.size+2) false (λ_=>0)/\Below w.heap.size w wr)) (λjv _=>8-(intOf jv).toNat);case atStart=>exact⟨0,by omega,rfl,HR.out⟩
    case round=>
     obtain⟨j,hj,rfl,HQ⟩:=hrel;clear HR;by_cases hlj:j<8
     ·have hji:(j:Int)<8:=by omega
      obtain⟨w6,rfl⟩:∃w6,w6=wr:=⟨_,rfl⟩
      have c1:w6.cell? ⟨w2.heap.size,i,none⟩=some (.int .i64 ((Ak 2 f i:Nat):Int)):=by rw[HQ.out.2.2.1.cell];exact DP _ hli
      have c2:w6.cell? ⟨w2.heap.size,j,none⟩=some (.int .i64 ((Ak 2 f j:Nat):Int)):=by rw[HQ.out.2.2.1.cell];exact DP _ hlj
      have c3:w6.cell? ⟨w2.heap.size+1,i,none⟩=some (.int .i64 (BK 2 n i)):=by rw[HQ.out.2.2.2.1.cell];exact DP _ hli
      have c4':w6.cell? ⟨w2.heap.size+1,j,none⟩=some (.int .i64 (BK 2 n j)):=by rw[HQ.out.2.2.2.1.cell];exact DP _ hlj
      have ha:=Cv (t:=2) hf8 hli;have hb:=Cv (t:=2) hf8 hlj;have hx:=Cm (t:=2) (n:=n) (by omega) i;have hy:=Cm (t:=2) (n:=n) (by omega) j;have HE:Hid (DO M 2 f n (i*8+j+1)=Bw (DO M 2 f n (i*8+j)) (i*8+j) (pl (M (Ak 2 f i*8+Ak 2 f j)) (BK 2 n i+BK 2 n j))):=by
       show Bw _ _ (pl (M (Ak 2 f ((i*8+j)/8)*8+Ak 2 f ((i*8+j)%8))) (BK 2 n ((i*8+j)/8)+BK 2 n ((i*8+j)%8)))=_;rw[show(i*8+j)/8=i by omega,show(i*8+j)%8=j by omega]
      generalize Ak 2 f i=a at *;generalize Ak 2 f j=b at *;generalize BK 2 n i=x at *;generalize BK 2 n j=y at *;obtain⟨x0,x1⟩:=hx;obtain⟨y0,y1⟩:=hy;have hwx:IntKind.i64.wrap (x+y)=x+y:=by rw[IntKind.wrap_i64];omega
      have hai:(a:Int)<8:=by omega
      have hbi:(b:Int)<8:=by omega
      have hk:i*8+j<64:=by omega
      have c5:w6.cell? ⟨w.heap.size,1+a*8+b,none⟩=some (.int .i64 (M (a*8+b))):=by rw[Nat.add_assoc];exact AL.cell HQ.out.2.1 (a*8+b) (by omega)
      have c6:w6.cell? ⟨w2.heap.size+2,1+i*8+j,none⟩=some (.int .i64 (DO M 2 f n (i*8+j) (i*8+j))):=by rw[Nat.add_assoc];exact AL.cell HQ.out.1 (i*8+j) hk
      have cf:∀q,w6.frozen? ⟨w2.heap.size+2,q,none⟩=false:=At.free HQ.out.1;have hm:=HShh.out (a*8+b) (by omega);have HP:Hid (∀w1,Calls Tryz.prog 152 #[.int .i64 (M (a*8+b)),.int .i64 (x+y)] w1 λe w'=>e=.returned (.int .i64 (pl (M (a*8+b)) (x+y)))/\w'=w1):=λw1=>GS _ _ ⟨by omega,by unfold NB at hm;omega⟩ ⟨by omega,by omega⟩ w1;have hl6:w2.heap.size+2<w6.heap.size:=At.lt HQ.out.1;generalize M (a*8+b)=mm at *;generalize pl mm (x+y)=pq at *;generalize DO M 2 f n (i*8+j) (i*8+j)=old at *;clear hm;go_wp2_with fail;refine wp_region_still_tail 22 (by kernel_rfl) (by kernel_rfl) ?_;simp only[List.take_succ_cons,List.take_zero,List.drop_succ_cons,List.drop_zero]
      iterate 19 still_step
      still_call (HP.out _)
      still_step
      still_step
      refine wpStill_nil ?_
      ·go_wp2_with fail;go_roundw;case rel=>
        refine⟨j+1,by omega,by go_num,?_,?_,?_,?_,?_,?_⟩
        ·rw[<-Nat.add_assoc,HE.out,Nat.add_assoc];exact At.drewN (AL.put HQ.out.1 (i*8+j) hk _) 1
        ·exact At.drewN (At.other HQ.out.2.1 _ _ (by omega)) 1
        ·exact At.drewN (HQ.out.2.2.1.other _ _ (by omega)) 1
        ·exact At.drewN (HQ.out.2.2.2.1.other _ _ (by omega)) 1
        ·exact At.drewN (At.other HQ.out.2.2.2.2.1 _ _ (by omega)) 1
        ·exact below_drewN (HQ.out.2.2.2.2.2.setCell (by show w.heap.size<=w2.heap.size+2;omega) _) 1
       case measure=>simp[intOf];omega
     ·have hj8:j=8:=by omega
      subst hj8;go_wp2_with fail;go_roundw;case rel=>exact⟨i+1,by omega,by go_num,by rw[show(i+1)*8=i*8+8 by omega];exact HQ.out.1,HQ.out.2⟩
      case measure=>simp[intOf];omega
   ·have hi8:i=8:=by omega
    subst hi8;obtain⟨w7,hst7,hat7,ho7⟩:=Al HR.out.2.2.2.2.1 e0 (DO M 2 f n 64);have H7:Hid (AL w7 (w.heap.size+2) e0 (DO M 2 f n 64)/\Below w.heap.size w w7):=⟨hat7,HR.out.2.2.2.2.2.trans (ho7.below (by omega) HR.out.2.2.2.2.2.size)⟩
    have HM8:Hid (AL wr (w2.heap.size+2) e0 (DO M 2 f n 64)):=HR.out.1;clear hat7 ho7;generalize hTT:DO M 2 f n 64=T at *;have HTT:Hid (DO M 2 f n 64=T):=hTT;clear hTT;go_wp2_with (refine AH rfl (.tmp 14) rfl rfl HM8.out ?_);try simp only[Exit.inBlock,Exit.then]
    refine bodyPost_ret (Ag rfl _ rfl H7.out.1) rfl ?_;exact⟨by rw[HTT.out],H7.out.2⟩
 ·go_enter Tryz.func141,Tryz.ntmps141;go_wp2_with fail;refine hsd.mono ?_;rintro e w1 ⟨rfl,hb1⟩;rw[hBW]at hb1;have H1:Hid (AL w1 w.heap.size e0 M/\AL w1 (w.heap.size+2) false (λ_=>0)/\Below w.heap.size w w1/\w.heap.size+3<=w1.heap.size):=by
   have s0:=H0.out.2.2.2;have s1:=hb1.size;exact⟨At.keep H0.out.1 hb1 (by omega),At.keep H0.out.2.1 hb1 (by omega),H0.out.2.2.1.trans (hb1.mono (by omega)),by omega⟩
  clear hb1 hsd hBW hw0 H0;have hop:=HOp.out s w1 hs8;go_wp2_with fail;refine hop.mono ?_;rintro e w2 ⟨rfl,hw2⟩;subst hw2;clear hop;have hop2:=HOp.out f ((w2.alloc (.cells #[.int .i64 0,.int .i64 1,.int .i64 2,.int .i64 3,.int .i64 4,.int .i64 5,.int .i64 (f:Int),.int .i64 7] B4)).alloc (.cells #[.int .i64 0,.int .i64 0,.int .i64 0,.int .i64 0,.int .i64 0,.int .i64 0,.int .i64 0,.int .i64 0] B4)) hf8;go_wp2_with fail;refine hop2.mono ?_;rintro e w3 ⟨rfl,hw3⟩;subst hw3;obtain⟨w4,hst4,hat4,hb4,hs4⟩:=Bb ((w2.alloc (.cells #[.int .i64 0,.int .i64 1,.int .i64 2,.int .i64 3,.int .i64 4,.int .i64 5,.int .i64 (f:Int),.int .i64 ((opp f:Nat):Int)] B4)).alloc (.cells #[.int .i64 0,.int .i64 0,.int .i64 0,.int .i64 0,.int .i64 0,.int .i64 0,.int .i64 n,.int .i64 (-n)] B4)) e0 M;have s1:=H1.out.2.2.2;have hz4:((w2.alloc (.cells #[.int .i64 0,.int .i64 1,.int .i64 2,.int .i64 3,.int .i64 4,.int .i64 5,.int .i64 (f:Int),.int .i64 ((opp f:Nat):Int)] B4)).alloc (.cells #[.int .i64 0,.int .i64 0,.int .i64 0,.int .i64 0,.int .i64 0,.int .i64 0,.int .i64 n,.int .i64 (-n)] B4)).heap.size=w2.heap.size+2:=by simp
  rw[hz4]at hat4 hb4 hs4 hst4;have hbx:Below w2.heap.size w2 ((w2.alloc (.cells #[.int .i64 0,.int .i64 1,.int .i64 2,.int .i64 3,.int .i64 4,.int .i64 5,.int .i64 (f:Int),.int .i64 ((opp f:Nat):Int)] B4)).alloc (.cells #[.int .i64 0,.int .i64 0,.int .i64 0,.int .i64 0,.int .i64 0,.int .i64 0,.int .i64 n,.int .i64 (-n)] B4)):=((Below.refl _ _).alloc (Nat.le_refl _) _).alloc (by simp) _;have hao:At ((w2.alloc (.cells #[.int .i64 0,.int .i64 1,.int .i64 2,.int .i64 3,.int .i64 4,.int .i64 5,.int .i64 (f:Int),.int .i64 ((opp f:Nat):Int)] B4)).alloc (.cells #[.int .i64 0,.int .i64 0,.int .i64 0,.int .i64 0,.int .i64 0,.int .i64 0,.int .i64 n,.int .i64 (-n)] B4)) w2.heap.size (c8 λi=>((Ak 3 f i:Nat):Int)) B4:=At.allocH (At.new _ _ _) _;have haa:At ((w2.alloc (.cells #[.int .i64 0,.int .i64 1,.int .i64 2,.int .i64 3,.int .i64 4,.int .i64 5,.int .i64 (f:Int),.int .i64 ((opp f:Nat):Int)] B4)).alloc (.cells #[.int .i64 0,.int .i64 0,.int .i64 0,.int .i64 0,.int .i64 0,.int .i64 0,.int .i64 n,.int .i64 (-n)] B4)) (w2.heap.size+1) (c8 (BK 3 n)) B4:=by
   have:=At.new (w2.alloc (.cells #[.int .i64 0,.int .i64 1,.int .i64 2,.int .i64 3,.int .i64 4,.int .i64 5,.int .i64 (f:Int),.int .i64 ((opp f:Nat):Int)] B4)) #[.int .i64 0,.int .i64 0,.int .i64 0,.int .i64 0,.int .i64 0,.int .i64 0,.int .i64 n,.int .i64 (-n)] B4;rw[show(w2.alloc (.cells #[.int .i64 0,.int .i64 1,.int .i64 2,.int .i64 3,.int .i64 4,.int .i64 5,.int .i64 (f:Int),.int .i64 ((opp f:Nat):Int)] B4)).heap.size=w2.heap.size+1 by simp]at this;exact this
  have H4:Hid (AL w4 (w2.heap.size+2) e0 (DO M 3 f n 0)/\AL w4 w.heap.size e0 M/\At w4 w2.heap.size (c8 λi=>((Ak 3 f i:Nat):Int)) B4/\At w4 (w2.heap.size+1) (c8 (BK 3 n)) B4/\AL w4 (w.heap.size+2) false (λ_=>0)/\Below w.heap.size w w4):=
   ⟨hat4,At.keep (At.keep H1.out.1 hbx (by omega)) hb4 (by omega),hao.keep hb4 (by omega),haa.keep hb4 (by omega),At.keep (At.keep H1.out.2.1 hbx (by omega)) hb4 (by omega),(H1.out.2.2.1.trans (hbx.mono (by omega))).trans (hb4.mono (by omega))⟩
  have HA2:Hid (AL ((w2.alloc (.cells #[.int .i64 0,.int .i64 1,.int .i64 2,.int .i64 3,.int .i64 4,.int .i64 5,.int .i64 (f:Int),.int .i64 ((opp f:Nat):Int)] B4)).alloc (.cells #[.int .i64 0,.int .i64 0,.int .i64 0,.int .i64 0,.int .i64 0,.int .i64 0,.int .i64 n,.int .i64 (-n)] B4)) w.heap.size e0 M):=At.keep H1.out.1 hbx (by omega);clear hat4 hb4 hbx hao haa hop2;go_wp2_with (refine AH rfl (.tmp 4) rfl rfl HA2.out ?_);clear hst4 hz4 HA2 HOp hne hs4;go_loopw [15] (λiv wr=>∃(i:Nat),i<=8/\iv=.int .i64 i/\Hid (AL wr (w2.heap.size+2) e0 (DO M 3 f n (i*8))/\AL wr w.heap.size e0 M/\At wr w2.heap.size (c8 λi=>((Ak 3 f i:Nat):Int)) B4/\At wr (w2.heap.size+1) (c8 (BK 3 n)) B4/\AL wr (w.heap.size+2) false (λ_=>0)/\Below w.heap.size w wr)) (λiv _=>8-(intOf iv).toNat);case atStart=>exact⟨0,by omega,rfl,H4.out⟩
  case round=>
   obtain⟨i,hi,rfl,HR⟩:=hrel;clear H4;by_cases hli:i<8
   ·have hii:(i:Int)<8:=by omega
    obtain⟨w5,rfl⟩:∃w5,w5=wr:=⟨_,rfl⟩
    go_wp2_with fail;go_loopw [16] (λjv wr=>∃(j:Nat),j<=8/\jv=.int .i64 j/\Hid (AL wr (w2.heap.size+2) e0 (DO M 3 f n (i*8+j))/\AL wr w.heap.size e0 M/\At wr w2.heap.size (c8 λi=>((Ak 3 f i:Nat):Int)) B4/\At wr (w2.heap.size+1) (c8 (BK 3 n)) B4/\AL wr (w.heap.size+2) false (λ_=>0)/\Below w.heap.size w wr)) (λjv _=>8-(intOf jv).toNat);case atStart=>exact⟨0,by omega,rfl,HR.out⟩
    case round=>
     obtain⟨j,hj,rfl,HQ⟩:=hrel;clear HR;by_cases hlj:j<8
     ·have hji:(j:Int)<8:=by omega
      obtain⟨w6,rfl⟩:∃w6,w6=wr:=⟨_,rfl⟩
      have c1:w6.cell? ⟨w2.heap.size,i,none⟩=some (.int .i64 ((Ak 3 f i:Nat):Int)):=by rw[HQ.out.2.2.1.cell];exact DP _ hli
      have c2:w6.cell? ⟨w2.heap.size,j,none⟩=some (.int .i64 ((Ak 3 f j:Nat):Int)):=by rw[HQ.out.2.2.1.cell];exact DP _ hlj
      have c3:w6.cell? ⟨w2.heap.size+1,i,none⟩=some (.int .i64 (BK 3 n i)):=by rw[HQ.out.2.2.2.1.cell];exact DP _ hli
      have c4':w6.cell? ⟨w2.heap.size+1,j,none⟩=some (.int .i64 (BK 3 n j)):=by rw[HQ.out.2.2.2.1.cell];exact DP _ hlj
      have ha:=Cv (t:=3) hf8 hli;have hb:=Cv (t:=3) hf8 hlj;have hx:=Cm (t:=3) (n:=n) (by omega) i;have hy:=Cm (t:=3) (n:=n) (by omega) j;have HE:Hid (DO M 3 f n (i*8+j+1)=Bw (DO M 3 f n (i*8+j)) (i*8+j) (pl (M (Ak 3 f i*8+Ak 3 f j)) (BK 3 n i+BK 3 n j))):=by
       show Bw _ _ (pl (M (Ak 3 f ((i*8+j)/8)*8+Ak 3 f ((i*8+j)%8))) (BK 3 n ((i*8+j)/8)+BK 3 n ((i*8+j)%8)))=_;rw[show(i*8+j)/8=i by omega,show(i*8+j)%8=j by omega]
      generalize Ak 3 f i=a at *;generalize Ak 3 f j=b at *;generalize BK 3 n i=x at *;generalize BK 3 n j=y at *;obtain⟨x0,x1⟩:=hx;obtain⟨y0,y1⟩:=hy;have hwx:IntKind.i64.wrap (x+y)=x+y:=by rw[IntKind.wrap_i64];omega
      have hai:(a:Int)<8:=by omega
      have hbi:(b:Int)<8:=by omega
      have hk:i*8+j<64:=by omega
      have c5:w6.cell? ⟨w.heap.size,1+a*8+b,none⟩=some (.int .i64 (M (a*8+b))):=by rw[Nat.add_assoc];exact AL.cell HQ.out.2.1 (a*8+b) (by omega)
      have c6:w6.cell? ⟨w2.heap.size+2,1+i*8+j,none⟩=some (.int .i64 (DO M 3 f n (i*8+j) (i*8+j))):=by rw[Nat.add_assoc];exact AL.cell HQ.out.1 (i*8+j) hk
      have cf:∀q,w6.frozen? ⟨w2.heap.size+2,q,none⟩=false:=At.free HQ.out.1;have hm:=HShh.out (a*8+b) (by omega);have HP:Hid (∀w1,Calls Tryz.prog 152 #[.int .i64 (M (a*8+b)),.int .i64 (x+y)] w1 λe w'=>e=.returned (.int .i64 (pl (M (a*8+b)) (x+y)))/\w'=w1):=λw1=>GS _ _ ⟨by omega,by unfold NB at hm;omega⟩ ⟨by omega,by omega⟩ w1;have hl6:w2.heap.size+2<w6.heap.size:=At.lt HQ.out.1;generalize M (a*8+b)=mm at *;generalize pl mm (x+y)=pq at *;generalize DO M 3 f n (i*8+j) (i*8+j)=old at *;clear hm;go_wp2_with fail;refine wp_region_still_tail 22 (by kernel_rfl) (by kernel_rfl) ?_;simp only[List.take_succ_cons,List.take_zero,List.drop_succ_cons,List.drop_zero]
      iterate 19 still_step
      still_call (HP.out _)
      still_step
      still_step
      refine wpStill_nil ?_
      ·go_wp2_with fail;go_roundw;case rel=>
        refine⟨j+1,by omega,by go_num,?_,?_,?_,?_,?_,?_⟩
        ·rw[<-Nat.add_assoc,HE.out,Nat.add_assoc];exact At.drewN (AL.put HQ.out.1 (i*8+j) hk _) 1
        ·exact At.drewN (At.other HQ.out.2.1 _ _ (by omega)) 1
        ·exact At.drewN (HQ.out.2.2.1.other _ _ (by omega)) 1
        ·exact At.drewN (HQ.out.2.2.2.1.other _ _ (by omega)) 1
        ·exact At.drewN (At.other HQ.out.2.2.2.2.1 _ _ (by omega)) 1
        ·exact below_drewN (HQ.out.2.2.2.2.2.setCell (by show w.heap.size<=w2.heap.size+2;omega) _) 1
       case measure=>simp[intOf];omega
     ·have hj8:j=8:=by omega
      subst hj8;go_wp2_with fail;go_roundw;case rel=>exact⟨i+1,by omega,by go_num,by rw[show(i+1)*8=i*8+8 by omega];exact HQ.out.1,HQ.out.2⟩
      case measure=>simp[intOf];omega
   ·have hi8:i=8:=by omega
    subst hi8;obtain⟨w7,hst7,hat7,ho7⟩:=Al HR.out.2.2.2.2.1 e0 (DO M 3 f n 64);have H7:Hid (AL w7 (w.heap.size+2) e0 (DO M 3 f n 64)/\Below w.heap.size w w7):=⟨hat7,HR.out.2.2.2.2.2.trans (ho7.below (by omega) HR.out.2.2.2.2.2.size)⟩
    have HM8:Hid (AL wr (w2.heap.size+2) e0 (DO M 3 f n 64)):=HR.out.1;clear hat7 ho7;generalize hTT:DO M 3 f n 64=T at *;have HTT:Hid (DO M 3 f n 64=T):=hTT;clear hTT;go_wp2_with (refine AH rfl (.tmp 14) rfl rfl HM8.out ?_);try simp only[Exit.inBlock,Exit.then]
    refine bodyPost_ret (Ag rfl _ rfl H7.out.1) rfl ?_;exact⟨by rw[HTT.out],H7.out.2⟩
end Go.Proofs.YtffajooegiempaaGreatDoor
