import Derived.Test.YtffajooegiempaaGreatDoorK20
import Derived.StillTailTactics
import Derived.Laws.BitsLemmas
set_option maxRecDepth 100000
set_option maxHeartbeats 6400000
namespace Go.Proofs.YtffajooegiempaaGreatDoor
open Go.RowKit Go.Proofs.Tryz
variable {w:World}{e0:Bool}{M:Nat->Int}
theorem Tq(h:Sh M)(t:Nat)(ht:t<4)(l:List Int)(hl:∀i, -1<=AK l i/\AK l i<=1)(n:Int)(hn: -99<=n/\n<=99)(h1:CF l≠opp (C4 l)):
  Calls prog 141 #[.agg (oc e0 M),.int .i64 (t:Int),v4 l,.int .i64 n] w λe w'=>e=.returned (.agg (oc e0 (DO M t (CF l) n 64)))/\dc w w':=by
 have hz:=Bn;have h8:=Cx l 4 (bB _);have al:Hid (∀m,Calls prog 142 #[v4 l] m λe w'=>e=.returned (.tuple #[.int .i64 ((CF l:Nat):Int),.int .i64 ((C4 l:Nat):Int)])/\dc m w'):=λm=>Ji l hl;have F:CF l<8:=h8.1;have ad:C4 l<8:=h8.2;generalize CF l=f at *;generalize C4 l=s at *;have E:Hid (∀(i:Nat) m,i<8->Calls prog 153 #[.int .i64 (i:Int)] m λe w'=>e=.returned (.int .i64 ((opp i:Nat):Int))/\w'=m):=λi m hi=>ED i hi m;obtain⟨w0,R⟩:∃w0,w0=((w.alloc (.cells (oc e0 M) tO)).alloc (.cells (c4 l) FS)).alloc (.cells (oc false λ_=>0) tO):=⟨_,rfl⟩
 have P:Hid (AL w0 w.heap.size e0 M/\AL w0 (w.heap.size+2) false (λ_=>0)/\dc w w0/\w0.heap.size=w.heap.size+3):=by
  refine⟨by rw[R];exact At.allocH (At.allocH (At.new _ _ _) _) _,?_,by rw[R];exact(((bC _ _).alloc (bB _) _).alloc (by simp) _).alloc (by simp;omega) _,by rw[R];simp⟩;have:=At.new ((w.alloc (.cells (oc e0 M) tO)).alloc (.cells (c4 l) FS)) (oc false λ_=>0) tO;rw[show((w.alloc (.cells (oc e0 M) tO)).alloc (.cells (c4 l) FS)).heap.size=w.heap.size+2 by simp]at this;rw[R];exact this
 obtain⟨BW,Q⟩:∃BW:World->Prop,BW=λw'=>dc w0 w':=⟨_,rfl⟩
 have O:Calls prog 142 #[v4 l] w0 λe w'=>e=.returned (.tuple #[.int .i64 (f:Int),.int .i64 (s:Int)])/\BW w':=by rw[Q];exact al.out w0
 have ac:((f:Int)==((opp s:Nat):Int))=false:=by rw[b9];omega
 rw[R]at O;unfold v4 c4 at O;unfold v4;have aa:Hid (Sh M):=h;clear al h8 h1 h;rcases(show t=0\/t=1\/t=2\/t=3 by omega)with rfl|rfl|rfl|rfl
 .go_enter func141,ntmps141;go_wp2_with fail;refine O.mono ?_;rintro e m ⟨rfl,k⟩;rw[Q]at k;have G:Hid (AL m w.heap.size e0 M/\AL m (w.heap.size+2) false (λ_=>0)/\dc w m/\w.heap.size+3<=m.heap.size):=by
   have s0:=P.out.2.2.2;have s1:=k.size;exact⟨At.keep P.out.1 k (by omega),At.keep P.out.2.1 k (by omega),P.out.2.2.1.trans (k.mono (by omega)),by omega⟩
  clear k O Q R P;have L:=E.out s m ad;go_wp2_with fail;refine L.mono ?_;rintro e c ⟨rfl,X⟩;subst X;clear L;have u:=E.out f ((c.alloc (.cells #[.int .i64 (f:Int),.int .i64 1,.int .i64 2,.int .i64 3,.int .i64 4,.int .i64 5,.int .i64 6,.int .i64 7] B4)).alloc (.cells #[.int .i64 0,.int .i64 0,.int .i64 0,.int .i64 0,.int .i64 0,.int .i64 0,.int .i64 0,.int .i64 0] B4)) F;go_wp2_with fail;refine u.mono ?_;rintro e w3 ⟨rfl,Y⟩;subst Y;obtain⟨D,v,o,d,N⟩:=Bb ((c.alloc (.cells #[.int .i64 (f:Int),.int .i64 ((opp f:Nat):Int),.int .i64 2,.int .i64 3,.int .i64 4,.int .i64 5,.int .i64 6,.int .i64 7] B4)).alloc (.cells #[.int .i64 n,.int .i64 (-n),.int .i64 0,.int .i64 0,.int .i64 0,.int .i64 0,.int .i64 0,.int .i64 0] B4)) e0 M;have s1:=G.out.2.2.2;have B:((c.alloc (.cells #[.int .i64 (f:Int),.int .i64 ((opp f:Nat):Int),.int .i64 2,.int .i64 3,.int .i64 4,.int .i64 5,.int .i64 6,.int .i64 7] B4)).alloc (.cells #[.int .i64 n,.int .i64 (-n),.int .i64 0,.int .i64 0,.int .i64 0,.int .i64 0,.int .i64 0,.int .i64 0] B4)).heap.size=c.heap.size+2:=by simp
  rw[B]at o N v;replace d:=d.mono (Nat.le_of_eq B.symm);have p:dc c ((c.alloc (.cells #[.int .i64 (f:Int),.int .i64 ((opp f:Nat):Int),.int .i64 2,.int .i64 3,.int .i64 4,.int .i64 5,.int .i64 6,.int .i64 7] B4)).alloc (.cells #[.int .i64 n,.int .i64 (-n),.int .i64 0,.int .i64 0,.int .i64 0,.int .i64 0,.int .i64 0,.int .i64 0] B4)):=((bC _ _).alloc (bB _) _).alloc (by simp) _;have J:At ((c.alloc (.cells #[.int .i64 (f:Int),.int .i64 ((opp f:Nat):Int),.int .i64 2,.int .i64 3,.int .i64 4,.int .i64 5,.int .i64 6,.int .i64 7] B4)).alloc (.cells #[.int .i64 n,.int .i64 (-n),.int .i64 0,.int .i64 0,.int .i64 0,.int .i64 0,.int .i64 0,.int .i64 0] B4)) c.heap.size (c8 λi=>((Ak 0 f i:Nat):Int)) B4:=At.allocH (At.new _ _ _) _;have I:At ((c.alloc (.cells #[.int .i64 (f:Int),.int .i64 ((opp f:Nat):Int),.int .i64 2,.int .i64 3,.int .i64 4,.int .i64 5,.int .i64 6,.int .i64 7] B4)).alloc (.cells #[.int .i64 n,.int .i64 (-n),.int .i64 0,.int .i64 0,.int .i64 0,.int .i64 0,.int .i64 0,.int .i64 0] B4)) (c.heap.size+1) (c8 (BK 0 n)) B4:=by
   have:=At.new (c.alloc (.cells #[.int .i64 (f:Int),.int .i64 ((opp f:Nat):Int),.int .i64 2,.int .i64 3,.int .i64 4,.int .i64 5,.int .i64 6,.int .i64 7] B4)) #[.int .i64 n,.int .i64 (-n),.int .i64 0,.int .i64 0,.int .i64 0,.int .i64 0,.int .i64 0,.int .i64 0] B4;rw[show(c.alloc (.cells #[.int .i64 (f:Int),.int .i64 ((opp f:Nat):Int),.int .i64 2,.int .i64 3,.int .i64 4,.int .i64 5,.int .i64 6,.int .i64 7] B4)).heap.size=c.heap.size+1 by simp]at this;exact this
  have H4:Hid (AL D (c.heap.size+2) e0 (DO M 0 f n 0)/\AL D w.heap.size e0 M/\At D c.heap.size (c8 λi=>((Ak 0 f i:Nat):Int)) B4/\At D (c.heap.size+1) (c8 (BK 0 n)) B4/\AL D (w.heap.size+2) false (λ_=>0)/\dc w D):=
   ⟨o,At.keep (At.keep G.out.1 p (by omega)) d (by omega),J.keep d (by omega),I.keep d (by omega),At.keep (At.keep G.out.2.1 p (by omega)) d (by omega),(G.out.2.2.1.trans (p.mono (by omega))).trans (d.mono (by omega))⟩
  have H:Hid (AL ((c.alloc (.cells #[.int .i64 (f:Int),.int .i64 ((opp f:Nat):Int),.int .i64 2,.int .i64 3,.int .i64 4,.int .i64 5,.int .i64 6,.int .i64 7] B4)).alloc (.cells #[.int .i64 n,.int .i64 (-n),.int .i64 0,.int .i64 0,.int .i64 0,.int .i64 0,.int .i64 0,.int .i64 0] B4)) w.heap.size e0 M):=At.keep G.out.1 p (by omega);clear o d p J I u;go_wp2_with (refine AH rfl (.tmp 4) rfl rfl H.out ?_);clear v B H E ac N;go_loopw [15] (λiv wr=>∃(i:Nat),i<=8/\iv=.int .i64 i/\Hid (AL wr (c.heap.size+2) e0 (DO M 0 f n (i*8))/\AL wr w.heap.size e0 M/\At wr c.heap.size (c8 λi=>((Ak 0 f i:Nat):Int)) B4/\At wr (c.heap.size+1) (c8 (BK 0 n)) B4/\AL wr (w.heap.size+2) false (λ_=>0)/\dc w wr)) (λiv _=>8-(intOf iv).toNat);case atStart=>exact⟨0,by omega,rfl,H4.out⟩
  case round=>
   obtain⟨i,hi,rfl,C⟩:=hrel;clear H4;by_cases z:i<8
   .have ah:(i:Int)<8:=by omega
    obtain⟨w5,rfl⟩:∃w5,w5=wr:=⟨_,rfl⟩
    go_wp2_with fail;go_loopw [16] (λZ wr=>∃(j:Nat),j<=8/\Z=.int .i64 j/\Hid (AL wr (c.heap.size+2) e0 (DO M 0 f n (i*8+j))/\AL wr w.heap.size e0 M/\At wr c.heap.size (c8 λi=>((Ak 0 f i:Nat):Int)) B4/\At wr (c.heap.size+1) (c8 (BK 0 n)) B4/\AL wr (w.heap.size+2) false (λ_=>0)/\dc w wr)) (λZ _=>8-(intOf Z).toNat);case atStart=>exact⟨0,by omega,rfl,C.out⟩
    case round=>
     obtain⟨j,hj,rfl,g⟩:=hrel;clear C;by_cases A:j<8
     .have ai:(j:Int)<8:=by omega
      obtain⟨w6,rfl⟩:∃w6,w6=wr:=⟨_,rfl⟩
      have c1:w6.cell? ⟨c.heap.size,i,none⟩=some (.int .i64 ((Ak 0 f i:Nat):Int)):=by rw[g.out.2.2.1.cell];exact DP _ z
      have c2:w6.cell? ⟨c.heap.size,j,none⟩=some (.int .i64 ((Ak 0 f j:Nat):Int)):=by rw[g.out.2.2.1.cell];exact DP _ A
      have c3:w6.cell? ⟨c.heap.size+1,i,none⟩=some (.int .i64 (BK 0 n i)):=by rw[g.out.2.2.2.1.cell];exact DP _ z
      have ae:w6.cell? ⟨c.heap.size+1,j,none⟩=some (.int .i64 (BK 0 n j)):=by rw[g.out.2.2.2.1.cell];exact DP _ A
      have ha:=Cv (t:=0) F z;have hb:=Cv (t:=0) F A;have hx:=Cm (t:=0) (n:=n) (by omega) i;have hy:=Cm (t:=0) (n:=n) (by omega) j;have HE:Hid (DO M 0 f n (i*8+j+1)=Bw (DO M 0 f n (i*8+j)) (i*8+j) (pl (M (Ak 0 f i*8+Ak 0 f j)) (BK 0 n i+BK 0 n j))):=by
       show Bw _ _ (pl (M (Ak 0 f ((i*8+j)/8)*8+Ak 0 f ((i*8+j)%8))) (BK 0 n ((i*8+j)/8)+BK 0 n ((i*8+j)%8)))=_;rw[show(i*8+j)/8=i by omega,show(i*8+j)%8=j by omega]
      generalize Ak 0 f i=a at *;generalize Ak 0 f j=b at *;generalize BK 0 n i=x at *;generalize BK 0 n j=y at *;obtain⟨x0,x1⟩:=hx;obtain⟨y0,y1⟩:=hy;have ak:IntKind.i64.wrap (x+y)=x+y:=by rw[cS];omega
      have af:(a:Int)<8:=by omega
      have ag:(b:Int)<8:=by omega
      have hk:i*8+j<64:=by omega
      have c5:w6.cell? ⟨w.heap.size,1+a*8+b,none⟩=some (.int .i64 (M (a*8+b))):=by rw[bS];exact AL.cell g.out.2.1 (a*8+b) (by omega)
      have c6:w6.cell? ⟨c.heap.size+2,1+i*8+j,none⟩=some (.int .i64 (DO M 0 f n (i*8+j) (i*8+j))):=by rw[bS];exact AL.cell g.out.1 (i*8+j) hk
      have cf:∀q,w6.frozen? ⟨c.heap.size+2,q,none⟩=false:=At.free g.out.1;have hm:=aa.out (a*8+b) (by omega);have HP:Hid (∀m,Calls prog 152 #[.int .i64 (M (a*8+b)),.int .i64 (x+y)] m λe w'=>e=.returned (.int .i64 (pl (M (a*8+b)) (x+y)))/\w'=m):=λm=>GS _ _ ⟨by omega,by unfold NB at hm;omega⟩ ⟨by omega,by omega⟩ m;have aj:c.heap.size+2<w6.heap.size:=At.lt g.out.1;generalize M (a*8+b)=mm at *;generalize pl mm (x+y)=pq at *;generalize DO M 0 f n (i*8+j) (i*8+j)=old at *;clear hm;go_wp2_with fail;refine wp_region_still_tail 22 (by kernel_rfl) (by kernel_rfl) ?_;simp only[List.take_succ_cons,List.take_zero,List.drop_succ_cons,List.drop_zero]
      iterate 19 still_step
      still_call (HP.out _)
      still_step
      still_step
      refine wpStill_nil ?_
      .go_wp2_with fail;go_roundw;case rel=>
        refine⟨j+1,by omega,by go_num,?_,?_,?_,?_,?_,?_⟩
        .rw[<-bS,HE.out,bS];exact At.drewN (AL.put g.out.1 (i*8+j) hk _) 1
        .exact At.drewN (At.other g.out.2.1 _ _ (by omega)) 1
        .exact At.drewN (g.out.2.2.1.other _ _ (by omega)) 1
        .exact At.drewN (g.out.2.2.2.1.other _ _ (by omega)) 1
        .exact At.drewN (At.other g.out.2.2.2.2.1 _ _ (by omega)) 1
        .exact bD (g.out.2.2.2.2.2.setCell (by show w.heap.size<=c.heap.size+2;omega) _) 1
       case measure=>simp[intOf];omega
     .have W:j=8:=by omega
      subst W;go_wp2_with fail;go_roundw;case rel=>exact⟨i+1,by omega,by go_num,by rw[show(i+1)*8=i*8+8 by omega];exact g.out.1,g.out.2⟩
      case measure=>simp[intOf];omega
   .have V:i=8:=by omega
    subst V;obtain⟨w7,ab,r,K⟩:=Al C.out.2.2.2.2.1 e0 (DO M 0 f n 64);have H7:Hid (AL w7 (w.heap.size+2) e0 (DO M 0 f n 64)/\dc w w7):=⟨r,C.out.2.2.2.2.2.trans (K.below (by omega) C.out.2.2.2.2.2.size)⟩
    have S:Hid (AL wr (c.heap.size+2) e0 (DO M 0 f n 64)):=C.out.1;clear r K;generalize hTT:DO M 0 f n 64=T at *;have U:Hid (DO M 0 f n 64=T):=hTT;clear hTT;go_wp2_with (refine AH rfl (.tmp 14) rfl rfl S.out ?_);try simp only[Exit.inBlock,Exit.then]
    refine bJ (Ag rfl _ rfl H7.out.1) rfl ?_;exact⟨by rw[U.out],H7.out.2⟩
 .go_enter func141,ntmps141;go_wp2_with fail;refine O.mono ?_;rintro e m ⟨rfl,k⟩;rw[Q]at k;have G:Hid (AL m w.heap.size e0 M/\AL m (w.heap.size+2) false (λ_=>0)/\dc w m/\w.heap.size+3<=m.heap.size):=by
   have s0:=P.out.2.2.2;have s1:=k.size;exact⟨At.keep P.out.1 k (by omega),At.keep P.out.2.1 k (by omega),P.out.2.2.1.trans (k.mono (by omega)),by omega⟩
  clear k O Q R P;have L:=E.out s m ad;go_wp2_with fail;refine L.mono ?_;rintro e c ⟨rfl,X⟩;subst X;clear L;have u:=E.out f ((c.alloc (.cells #[.int .i64 0,.int .i64 1,.int .i64 (f:Int),.int .i64 3,.int .i64 4,.int .i64 5,.int .i64 6,.int .i64 7] B4)).alloc (.cells #[.int .i64 0,.int .i64 0,.int .i64 0,.int .i64 0,.int .i64 0,.int .i64 0,.int .i64 0,.int .i64 0] B4)) F;go_wp2_with fail;refine u.mono ?_;rintro e w3 ⟨rfl,Y⟩;subst Y;obtain⟨D,v,o,d,N⟩:=Bb ((c.alloc (.cells #[.int .i64 0,.int .i64 1,.int .i64 (f:Int),.int .i64 ((opp f:Nat):Int),.int .i64 4,.int .i64 5,.int .i64 6,.int .i64 7] B4)).alloc (.cells #[.int .i64 0,.int .i64 0,.int .i64 n,.int .i64 (-n),.int .i64 0,.int .i64 0,.int .i64 0,.int .i64 0] B4)) e0 M;have s1:=G.out.2.2.2;have B:((c.alloc (.cells #[.int .i64 0,.int .i64 1,.int .i64 (f:Int),.int .i64 ((opp f:Nat):Int),.int .i64 4,.int .i64 5,.int .i64 6,.int .i64 7] B4)).alloc (.cells #[.int .i64 0,.int .i64 0,.int .i64 n,.int .i64 (-n),.int .i64 0,.int .i64 0,.int .i64 0,.int .i64 0] B4)).heap.size=c.heap.size+2:=by simp
  rw[B]at o N v;replace d:=d.mono (Nat.le_of_eq B.symm);have p:dc c ((c.alloc (.cells #[.int .i64 0,.int .i64 1,.int .i64 (f:Int),.int .i64 ((opp f:Nat):Int),.int .i64 4,.int .i64 5,.int .i64 6,.int .i64 7] B4)).alloc (.cells #[.int .i64 0,.int .i64 0,.int .i64 n,.int .i64 (-n),.int .i64 0,.int .i64 0,.int .i64 0,.int .i64 0] B4)):=((bC _ _).alloc (bB _) _).alloc (by simp) _;have J:At ((c.alloc (.cells #[.int .i64 0,.int .i64 1,.int .i64 (f:Int),.int .i64 ((opp f:Nat):Int),.int .i64 4,.int .i64 5,.int .i64 6,.int .i64 7] B4)).alloc (.cells #[.int .i64 0,.int .i64 0,.int .i64 n,.int .i64 (-n),.int .i64 0,.int .i64 0,.int .i64 0,.int .i64 0] B4)) c.heap.size (c8 λi=>((Ak 1 f i:Nat):Int)) B4:=At.allocH (At.new _ _ _) _;have I:At ((c.alloc (.cells #[.int .i64 0,.int .i64 1,.int .i64 (f:Int),.int .i64 ((opp f:Nat):Int),.int .i64 4,.int .i64 5,.int .i64 6,.int .i64 7] B4)).alloc (.cells #[.int .i64 0,.int .i64 0,.int .i64 n,.int .i64 (-n),.int .i64 0,.int .i64 0,.int .i64 0,.int .i64 0] B4)) (c.heap.size+1) (c8 (BK 1 n)) B4:=by
   have:=At.new (c.alloc (.cells #[.int .i64 0,.int .i64 1,.int .i64 (f:Int),.int .i64 ((opp f:Nat):Int),.int .i64 4,.int .i64 5,.int .i64 6,.int .i64 7] B4)) #[.int .i64 0,.int .i64 0,.int .i64 n,.int .i64 (-n),.int .i64 0,.int .i64 0,.int .i64 0,.int .i64 0] B4;rw[show(c.alloc (.cells #[.int .i64 0,.int .i64 1,.int .i64 (f:Int),.int .i64 ((opp f:Nat):Int),.int .i64 4,.int .i64 5,.int .i64 6,.int .i64 7] B4)).heap.size=c.heap.size+1 by simp]at this;exact this
  have H4:Hid (AL D (c.heap.size+2) e0 (DO M 1 f n 0)/\AL D w.heap.size e0 M/\At D c.heap.size (c8 λi=>((Ak 1 f i:Nat):Int)) B4/\At D (c.heap.size+1) (c8 (BK 1 n)) B4/\AL D (w.heap.size+2) false (λ_=>0)/\dc w D):=
   ⟨o,At.keep (At.keep G.out.1 p (by omega)) d (by omega),J.keep d (by omega),I.keep d (by omega),At.keep (At.keep G.out.2.1 p (by omega)) d (by omega),(G.out.2.2.1.trans (p.mono (by omega))).trans (d.mono (by omega))⟩
  have H:Hid (AL ((c.alloc (.cells #[.int .i64 0,.int .i64 1,.int .i64 (f:Int),.int .i64 ((opp f:Nat):Int),.int .i64 4,.int .i64 5,.int .i64 6,.int .i64 7] B4)).alloc (.cells #[.int .i64 0,.int .i64 0,.int .i64 n,.int .i64 (-n),.int .i64 0,.int .i64 0,.int .i64 0,.int .i64 0] B4)) w.heap.size e0 M):=At.keep G.out.1 p (by omega);clear o d p J I u;go_wp2_with (refine AH rfl (.tmp 4) rfl rfl H.out ?_);clear v B H E ac N;go_loopw [15] (λiv wr=>∃(i:Nat),i<=8/\iv=.int .i64 i/\Hid (AL wr (c.heap.size+2) e0 (DO M 1 f n (i*8))/\AL wr w.heap.size e0 M/\At wr c.heap.size (c8 λi=>((Ak 1 f i:Nat):Int)) B4/\At wr (c.heap.size+1) (c8 (BK 1 n)) B4/\AL wr (w.heap.size+2) false (λ_=>0)/\dc w wr)) (λiv _=>8-(intOf iv).toNat);case atStart=>exact⟨0,by omega,rfl,H4.out⟩
  case round=>
   obtain⟨i,hi,rfl,C⟩:=hrel;clear H4;by_cases z:i<8
   .have ah:(i:Int)<8:=by omega
    obtain⟨w5,rfl⟩:∃w5,w5=wr:=⟨_,rfl⟩
    go_wp2_with fail;go_loopw [16] (λZ wr=>∃(j:Nat),j<=8/\Z=.int .i64 j/\Hid (AL wr (c.heap.size+2) e0 (DO M 1 f n (i*8+j))/\AL wr w.heap.size e0 M/\At wr c.heap.size (c8 λi=>((Ak 1 f i:Nat):Int)) B4/\At wr (c.heap.size+1) (c8 (BK 1 n)) B4/\AL wr (w.heap.size+2) false (λ_=>0)/\dc w wr)) (λZ _=>8-(intOf Z).toNat);case atStart=>exact⟨0,by omega,rfl,C.out⟩
    case round=>
     obtain⟨j,hj,rfl,g⟩:=hrel;clear C;by_cases A:j<8
     .have ai:(j:Int)<8:=by omega
      obtain⟨w6,rfl⟩:∃w6,w6=wr:=⟨_,rfl⟩
      have c1:w6.cell? ⟨c.heap.size,i,none⟩=some (.int .i64 ((Ak 1 f i:Nat):Int)):=by rw[g.out.2.2.1.cell];exact DP _ z
      have c2:w6.cell? ⟨c.heap.size,j,none⟩=some (.int .i64 ((Ak 1 f j:Nat):Int)):=by rw[g.out.2.2.1.cell];exact DP _ A
      have c3:w6.cell? ⟨c.heap.size+1,i,none⟩=some (.int .i64 (BK 1 n i)):=by rw[g.out.2.2.2.1.cell];exact DP _ z
      have ae:w6.cell? ⟨c.heap.size+1,j,none⟩=some (.int .i64 (BK 1 n j)):=by rw[g.out.2.2.2.1.cell];exact DP _ A
      have ha:=Cv (t:=1) F z;have hb:=Cv (t:=1) F A;have hx:=Cm (t:=1) (n:=n) (by omega) i;have hy:=Cm (t:=1) (n:=n) (by omega) j;have HE:Hid (DO M 1 f n (i*8+j+1)=Bw (DO M 1 f n (i*8+j)) (i*8+j) (pl (M (Ak 1 f i*8+Ak 1 f j)) (BK 1 n i+BK 1 n j))):=by
       show Bw _ _ (pl (M (Ak 1 f ((i*8+j)/8)*8+Ak 1 f ((i*8+j)%8))) (BK 1 n ((i*8+j)/8)+BK 1 n ((i*8+j)%8)))=_;rw[show(i*8+j)/8=i by omega,show(i*8+j)%8=j by omega]
      generalize Ak 1 f i=a at *;generalize Ak 1 f j=b at *;generalize BK 1 n i=x at *;generalize BK 1 n j=y at *;obtain⟨x0,x1⟩:=hx;obtain⟨y0,y1⟩:=hy;have ak:IntKind.i64.wrap (x+y)=x+y:=by rw[cS];omega
      have af:(a:Int)<8:=by omega
      have ag:(b:Int)<8:=by omega
      have hk:i*8+j<64:=by omega
      have c5:w6.cell? ⟨w.heap.size,1+a*8+b,none⟩=some (.int .i64 (M (a*8+b))):=by rw[bS];exact AL.cell g.out.2.1 (a*8+b) (by omega)
      have c6:w6.cell? ⟨c.heap.size+2,1+i*8+j,none⟩=some (.int .i64 (DO M 1 f n (i*8+j) (i*8+j))):=by rw[bS];exact AL.cell g.out.1 (i*8+j) hk
      have cf:∀q,w6.frozen? ⟨c.heap.size+2,q,none⟩=false:=At.free g.out.1;have hm:=aa.out (a*8+b) (by omega);have HP:Hid (∀m,Calls prog 152 #[.int .i64 (M (a*8+b)),.int .i64 (x+y)] m λe w'=>e=.returned (.int .i64 (pl (M (a*8+b)) (x+y)))/\w'=m):=λm=>GS _ _ ⟨by omega,by unfold NB at hm;omega⟩ ⟨by omega,by omega⟩ m;have aj:c.heap.size+2<w6.heap.size:=At.lt g.out.1;generalize M (a*8+b)=mm at *;generalize pl mm (x+y)=pq at *;generalize DO M 1 f n (i*8+j) (i*8+j)=old at *;clear hm;go_wp2_with fail;refine wp_region_still_tail 22 (by kernel_rfl) (by kernel_rfl) ?_;simp only[List.take_succ_cons,List.take_zero,List.drop_succ_cons,List.drop_zero]
      iterate 19 still_step
      still_call (HP.out _)
      still_step
      still_step
      refine wpStill_nil ?_
      .go_wp2_with fail;go_roundw;case rel=>
        refine⟨j+1,by omega,by go_num,?_,?_,?_,?_,?_,?_⟩
        .rw[<-bS,HE.out,bS];exact At.drewN (AL.put g.out.1 (i*8+j) hk _) 1
        .exact At.drewN (At.other g.out.2.1 _ _ (by omega)) 1
        .exact At.drewN (g.out.2.2.1.other _ _ (by omega)) 1
        .exact At.drewN (g.out.2.2.2.1.other _ _ (by omega)) 1
        .exact At.drewN (At.other g.out.2.2.2.2.1 _ _ (by omega)) 1
        .exact bD (g.out.2.2.2.2.2.setCell (by show w.heap.size<=c.heap.size+2;omega) _) 1
       case measure=>simp[intOf];omega
     .have W:j=8:=by omega
      subst W;go_wp2_with fail;go_roundw;case rel=>exact⟨i+1,by omega,by go_num,by rw[show(i+1)*8=i*8+8 by omega];exact g.out.1,g.out.2⟩
      case measure=>simp[intOf];omega
   .have V:i=8:=by omega
    subst V;obtain⟨w7,ab,r,K⟩:=Al C.out.2.2.2.2.1 e0 (DO M 1 f n 64);have H7:Hid (AL w7 (w.heap.size+2) e0 (DO M 1 f n 64)/\dc w w7):=⟨r,C.out.2.2.2.2.2.trans (K.below (by omega) C.out.2.2.2.2.2.size)⟩
    have S:Hid (AL wr (c.heap.size+2) e0 (DO M 1 f n 64)):=C.out.1;clear r K;generalize hTT:DO M 1 f n 64=T at *;have U:Hid (DO M 1 f n 64=T):=hTT;clear hTT;go_wp2_with (refine AH rfl (.tmp 14) rfl rfl S.out ?_);try simp only[Exit.inBlock,Exit.then]
    refine bJ (Ag rfl _ rfl H7.out.1) rfl ?_;exact⟨by rw[U.out],H7.out.2⟩
 .go_enter func141,ntmps141;go_wp2_with fail;refine O.mono ?_;rintro e m ⟨rfl,k⟩;rw[Q]at k;have G:Hid (AL m w.heap.size e0 M/\AL m (w.heap.size+2) false (λ_=>0)/\dc w m/\w.heap.size+3<=m.heap.size):=by
   have s0:=P.out.2.2.2;have s1:=k.size;exact⟨At.keep P.out.1 k (by omega),At.keep P.out.2.1 k (by omega),P.out.2.2.1.trans (k.mono (by omega)),by omega⟩
  clear k O Q R P;have L:=E.out s m ad;go_wp2_with fail;refine L.mono ?_;rintro e c ⟨rfl,X⟩;subst X;clear L;have u:=E.out f ((c.alloc (.cells #[.int .i64 0,.int .i64 1,.int .i64 2,.int .i64 3,.int .i64 (f:Int),.int .i64 5,.int .i64 6,.int .i64 7] B4)).alloc (.cells #[.int .i64 0,.int .i64 0,.int .i64 0,.int .i64 0,.int .i64 0,.int .i64 0,.int .i64 0,.int .i64 0] B4)) F;go_wp2_with fail;refine u.mono ?_;rintro e w3 ⟨rfl,Y⟩;subst Y;obtain⟨D,v,o,d,N⟩:=Bb ((c.alloc (.cells #[.int .i64 0,.int .i64 1,.int .i64 2,.int .i64 3,.int .i64 (f:Int),.int .i64 ((opp f:Nat):Int),.int .i64 6,.int .i64 7] B4)).alloc (.cells #[.int .i64 0,.int .i64 0,.int .i64 0,.int .i64 0,.int .i64 n,.int .i64 (-n),.int .i64 0,.int .i64 0] B4)) e0 M;have s1:=G.out.2.2.2;have B:((c.alloc (.cells #[.int .i64 0,.int .i64 1,.int .i64 2,.int .i64 3,.int .i64 (f:Int),.int .i64 ((opp f:Nat):Int),.int .i64 6,.int .i64 7] B4)).alloc (.cells #[.int .i64 0,.int .i64 0,.int .i64 0,.int .i64 0,.int .i64 n,.int .i64 (-n),.int .i64 0,.int .i64 0] B4)).heap.size=c.heap.size+2:=by simp
  rw[B]at o N v;replace d:=d.mono (Nat.le_of_eq B.symm);have p:dc c ((c.alloc (.cells #[.int .i64 0,.int .i64 1,.int .i64 2,.int .i64 3,.int .i64 (f:Int),.int .i64 ((opp f:Nat):Int),.int .i64 6,.int .i64 7] B4)).alloc (.cells #[.int .i64 0,.int .i64 0,.int .i64 0,.int .i64 0,.int .i64 n,.int .i64 (-n),.int .i64 0,.int .i64 0] B4)):=((bC _ _).alloc (bB _) _).alloc (by simp) _;have J:At ((c.alloc (.cells #[.int .i64 0,.int .i64 1,.int .i64 2,.int .i64 3,.int .i64 (f:Int),.int .i64 ((opp f:Nat):Int),.int .i64 6,.int .i64 7] B4)).alloc (.cells #[.int .i64 0,.int .i64 0,.int .i64 0,.int .i64 0,.int .i64 n,.int .i64 (-n),.int .i64 0,.int .i64 0] B4)) c.heap.size (c8 λi=>((Ak 2 f i:Nat):Int)) B4:=At.allocH (At.new _ _ _) _;have I:At ((c.alloc (.cells #[.int .i64 0,.int .i64 1,.int .i64 2,.int .i64 3,.int .i64 (f:Int),.int .i64 ((opp f:Nat):Int),.int .i64 6,.int .i64 7] B4)).alloc (.cells #[.int .i64 0,.int .i64 0,.int .i64 0,.int .i64 0,.int .i64 n,.int .i64 (-n),.int .i64 0,.int .i64 0] B4)) (c.heap.size+1) (c8 (BK 2 n)) B4:=by
   have:=At.new (c.alloc (.cells #[.int .i64 0,.int .i64 1,.int .i64 2,.int .i64 3,.int .i64 (f:Int),.int .i64 ((opp f:Nat):Int),.int .i64 6,.int .i64 7] B4)) #[.int .i64 0,.int .i64 0,.int .i64 0,.int .i64 0,.int .i64 n,.int .i64 (-n),.int .i64 0,.int .i64 0] B4;rw[show(c.alloc (.cells #[.int .i64 0,.int .i64 1,.int .i64 2,.int .i64 3,.int .i64 (f:Int),.int .i64 ((opp f:Nat):Int),.int .i64 6,.int .i64 7] B4)).heap.size=c.heap.size+1 by simp]at this;exact this
  have H4:Hid (AL D (c.heap.size+2) e0 (DO M 2 f n 0)/\AL D w.heap.size e0 M/\At D c.heap.size (c8 λi=>((Ak 2 f i:Nat):Int)) B4/\At D (c.heap.size+1) (c8 (BK 2 n)) B4/\AL D (w.heap.size+2) false (λ_=>0)/\dc w D):=
   ⟨o,At.keep (At.keep G.out.1 p (by omega)) d (by omega),J.keep d (by omega),I.keep d (by omega),At.keep (At.keep G.out.2.1 p (by omega)) d (by omega),(G.out.2.2.1.trans (p.mono (by omega))).trans (d.mono (by omega))⟩
  have H:Hid (AL ((c.alloc (.cells #[.int .i64 0,.int .i64 1,.int .i64 2,.int .i64 3,.int .i64 (f:Int),.int .i64 ((opp f:Nat):Int),.int .i64 6,.int .i64 7] B4)).alloc (.cells #[.int .i64 0,.int .i64 0,.int .i64 0,.int .i64 0,.int .i64 n,.int .i64 (-n),.int .i64 0,.int .i64 0] B4)) w.heap.size e0 M):=At.keep G.out.1 p (by omega);clear o d p J I u;go_wp2_with (refine AH rfl (.tmp 4) rfl rfl H.out ?_);clear v B H E ac N;go_loopw [15] (λiv wr=>∃(i:Nat),i<=8/\iv=.int .i64 i/\Hid (AL wr (c.heap.size+2) e0 (DO M 2 f n (i*8))/\AL wr w.heap.size e0 M/\At wr c.heap.size (c8 λi=>((Ak 2 f i:Nat):Int)) B4/\At wr (c.heap.size+1) (c8 (BK 2 n)) B4/\AL wr (w.heap.size+2) false (λ_=>0)/\dc w wr)) (λiv _=>8-(intOf iv).toNat);case atStart=>exact⟨0,by omega,rfl,H4.out⟩
  case round=>
   obtain⟨i,hi,rfl,C⟩:=hrel;clear H4;by_cases z:i<8
   .have ah:(i:Int)<8:=by omega
    obtain⟨w5,rfl⟩:∃w5,w5=wr:=⟨_,rfl⟩
    go_wp2_with fail;go_loopw [16] (λZ wr=>∃(j:Nat),j<=8/\Z=.int .i64 j/\Hid (AL wr (c.heap.size+2) e0 (DO M 2 f n (i*8+j))/\AL wr w.heap.size e0 M/\At wr c.heap.size (c8 λi=>((Ak 2 f i:Nat):Int)) B4/\At wr (c.heap.size+1) (c8 (BK 2 n)) B4/\AL wr (w.heap.size+2) false (λ_=>0)/\dc w wr)) (λZ _=>8-(intOf Z).toNat);case atStart=>exact⟨0,by omega,rfl,C.out⟩
    case round=>
     obtain⟨j,hj,rfl,g⟩:=hrel;clear C;by_cases A:j<8
     .have ai:(j:Int)<8:=by omega
      obtain⟨w6,rfl⟩:∃w6,w6=wr:=⟨_,rfl⟩
      have c1:w6.cell? ⟨c.heap.size,i,none⟩=some (.int .i64 ((Ak 2 f i:Nat):Int)):=by rw[g.out.2.2.1.cell];exact DP _ z
      have c2:w6.cell? ⟨c.heap.size,j,none⟩=some (.int .i64 ((Ak 2 f j:Nat):Int)):=by rw[g.out.2.2.1.cell];exact DP _ A
      have c3:w6.cell? ⟨c.heap.size+1,i,none⟩=some (.int .i64 (BK 2 n i)):=by rw[g.out.2.2.2.1.cell];exact DP _ z
      have ae:w6.cell? ⟨c.heap.size+1,j,none⟩=some (.int .i64 (BK 2 n j)):=by rw[g.out.2.2.2.1.cell];exact DP _ A
      have ha:=Cv (t:=2) F z;have hb:=Cv (t:=2) F A;have hx:=Cm (t:=2) (n:=n) (by omega) i;have hy:=Cm (t:=2) (n:=n) (by omega) j;have HE:Hid (DO M 2 f n (i*8+j+1)=Bw (DO M 2 f n (i*8+j)) (i*8+j) (pl (M (Ak 2 f i*8+Ak 2 f j)) (BK 2 n i+BK 2 n j))):=by
       show Bw _ _ (pl (M (Ak 2 f ((i*8+j)/8)*8+Ak 2 f ((i*8+j)%8))) (BK 2 n ((i*8+j)/8)+BK 2 n ((i*8+j)%8)))=_;rw[show(i*8+j)/8=i by omega,show(i*8+j)%8=j by omega]
      generalize Ak 2 f i=a at *;generalize Ak 2 f j=b at *;generalize BK 2 n i=x at *;generalize BK 2 n j=y at *;obtain⟨x0,x1⟩:=hx;obtain⟨y0,y1⟩:=hy;have ak:IntKind.i64.wrap (x+y)=x+y:=by rw[cS];omega
      have af:(a:Int)<8:=by omega
      have ag:(b:Int)<8:=by omega
      have hk:i*8+j<64:=by omega
      have c5:w6.cell? ⟨w.heap.size,1+a*8+b,none⟩=some (.int .i64 (M (a*8+b))):=by rw[bS];exact AL.cell g.out.2.1 (a*8+b) (by omega)
      have c6:w6.cell? ⟨c.heap.size+2,1+i*8+j,none⟩=some (.int .i64 (DO M 2 f n (i*8+j) (i*8+j))):=by rw[bS];exact AL.cell g.out.1 (i*8+j) hk
      have cf:∀q,w6.frozen? ⟨c.heap.size+2,q,none⟩=false:=At.free g.out.1;have hm:=aa.out (a*8+b) (by omega);have HP:Hid (∀m,Calls prog 152 #[.int .i64 (M (a*8+b)),.int .i64 (x+y)] m λe w'=>e=.returned (.int .i64 (pl (M (a*8+b)) (x+y)))/\w'=m):=λm=>GS _ _ ⟨by omega,by unfold NB at hm;omega⟩ ⟨by omega,by omega⟩ m;have aj:c.heap.size+2<w6.heap.size:=At.lt g.out.1;generalize M (a*8+b)=mm at *;generalize pl mm (x+y)=pq at *;generalize DO M 2 f n (i*8+j) (i*8+j)=old at *;clear hm;go_wp2_with fail;refine wp_region_still_tail 22 (by kernel_rfl) (by kernel_rfl) ?_;simp only[List.take_succ_cons,List.take_zero,List.drop_succ_cons,List.drop_zero]
      iterate 19 still_step
      still_call (HP.out _)
      still_step
      still_step
      refine wpStill_nil ?_
      .go_wp2_with fail;go_roundw;case rel=>
        refine⟨j+1,by omega,by go_num,?_,?_,?_,?_,?_,?_⟩
        .rw[<-bS,HE.out,bS];exact At.drewN (AL.put g.out.1 (i*8+j) hk _) 1
        .exact At.drewN (At.other g.out.2.1 _ _ (by omega)) 1
        .exact At.drewN (g.out.2.2.1.other _ _ (by omega)) 1
        .exact At.drewN (g.out.2.2.2.1.other _ _ (by omega)) 1
        .exact At.drewN (At.other g.out.2.2.2.2.1 _ _ (by omega)) 1
        .exact bD (g.out.2.2.2.2.2.setCell (by show w.heap.size<=c.heap.size+2;omega) _) 1
       case measure=>simp[intOf];omega
     .have W:j=8:=by omega
      subst W;go_wp2_with fail;go_roundw;case rel=>exact⟨i+1,by omega,by go_num,by rw[show(i+1)*8=i*8+8 by omega];exact g.out.1,g.out.2⟩
      case measure=>simp[intOf];omega
   .have V:i=8:=by omega
    subst V;obtain⟨w7,ab,r,K⟩:=Al C.out.2.2.2.2.1 e0 (DO M 2 f n 64);have H7:Hid (AL w7 (w.heap.size+2) e0 (DO M 2 f n 64)/\dc w w7):=⟨r,C.out.2.2.2.2.2.trans (K.below (by omega) C.out.2.2.2.2.2.size)⟩
    have S:Hid (AL wr (c.heap.size+2) e0 (DO M 2 f n 64)):=C.out.1;clear r K;generalize hTT:DO M 2 f n 64=T at *;have U:Hid (DO M 2 f n 64=T):=hTT;clear hTT;go_wp2_with (refine AH rfl (.tmp 14) rfl rfl S.out ?_);try simp only[Exit.inBlock,Exit.then]
    refine bJ (Ag rfl _ rfl H7.out.1) rfl ?_;exact⟨by rw[U.out],H7.out.2⟩
 .go_enter func141,ntmps141;go_wp2_with fail;refine O.mono ?_;rintro e m ⟨rfl,k⟩;rw[Q]at k;have G:Hid (AL m w.heap.size e0 M/\AL m (w.heap.size+2) false (λ_=>0)/\dc w m/\w.heap.size+3<=m.heap.size):=by
   have s0:=P.out.2.2.2;have s1:=k.size;exact⟨At.keep P.out.1 k (by omega),At.keep P.out.2.1 k (by omega),P.out.2.2.1.trans (k.mono (by omega)),by omega⟩
  clear k O Q R P;have L:=E.out s m ad;go_wp2_with fail;refine L.mono ?_;rintro e c ⟨rfl,X⟩;subst X;clear L;have u:=E.out f ((c.alloc (.cells #[.int .i64 0,.int .i64 1,.int .i64 2,.int .i64 3,.int .i64 4,.int .i64 5,.int .i64 (f:Int),.int .i64 7] B4)).alloc (.cells #[.int .i64 0,.int .i64 0,.int .i64 0,.int .i64 0,.int .i64 0,.int .i64 0,.int .i64 0,.int .i64 0] B4)) F;go_wp2_with fail;refine u.mono ?_;rintro e w3 ⟨rfl,Y⟩;subst Y;obtain⟨D,v,o,d,N⟩:=Bb ((c.alloc (.cells #[.int .i64 0,.int .i64 1,.int .i64 2,.int .i64 3,.int .i64 4,.int .i64 5,.int .i64 (f:Int),.int .i64 ((opp f:Nat):Int)] B4)).alloc (.cells #[.int .i64 0,.int .i64 0,.int .i64 0,.int .i64 0,.int .i64 0,.int .i64 0,.int .i64 n,.int .i64 (-n)] B4)) e0 M;have s1:=G.out.2.2.2;have B:((c.alloc (.cells #[.int .i64 0,.int .i64 1,.int .i64 2,.int .i64 3,.int .i64 4,.int .i64 5,.int .i64 (f:Int),.int .i64 ((opp f:Nat):Int)] B4)).alloc (.cells #[.int .i64 0,.int .i64 0,.int .i64 0,.int .i64 0,.int .i64 0,.int .i64 0,.int .i64 n,.int .i64 (-n)] B4)).heap.size=c.heap.size+2:=by simp
  rw[B]at o N v;replace d:=d.mono (Nat.le_of_eq B.symm);have p:dc c ((c.alloc (.cells #[.int .i64 0,.int .i64 1,.int .i64 2,.int .i64 3,.int .i64 4,.int .i64 5,.int .i64 (f:Int),.int .i64 ((opp f:Nat):Int)] B4)).alloc (.cells #[.int .i64 0,.int .i64 0,.int .i64 0,.int .i64 0,.int .i64 0,.int .i64 0,.int .i64 n,.int .i64 (-n)] B4)):=((bC _ _).alloc (bB _) _).alloc (by simp) _;have J:At ((c.alloc (.cells #[.int .i64 0,.int .i64 1,.int .i64 2,.int .i64 3,.int .i64 4,.int .i64 5,.int .i64 (f:Int),.int .i64 ((opp f:Nat):Int)] B4)).alloc (.cells #[.int .i64 0,.int .i64 0,.int .i64 0,.int .i64 0,.int .i64 0,.int .i64 0,.int .i64 n,.int .i64 (-n)] B4)) c.heap.size (c8 λi=>((Ak 3 f i:Nat):Int)) B4:=At.allocH (At.new _ _ _) _;have I:At ((c.alloc (.cells #[.int .i64 0,.int .i64 1,.int .i64 2,.int .i64 3,.int .i64 4,.int .i64 5,.int .i64 (f:Int),.int .i64 ((opp f:Nat):Int)] B4)).alloc (.cells #[.int .i64 0,.int .i64 0,.int .i64 0,.int .i64 0,.int .i64 0,.int .i64 0,.int .i64 n,.int .i64 (-n)] B4)) (c.heap.size+1) (c8 (BK 3 n)) B4:=by
   have:=At.new (c.alloc (.cells #[.int .i64 0,.int .i64 1,.int .i64 2,.int .i64 3,.int .i64 4,.int .i64 5,.int .i64 (f:Int),.int .i64 ((opp f:Nat):Int)] B4)) #[.int .i64 0,.int .i64 0,.int .i64 0,.int .i64 0,.int .i64 0,.int .i64 0,.int .i64 n,.int .i64 (-n)] B4;rw[show(c.alloc (.cells #[.int .i64 0,.int .i64 1,.int .i64 2,.int .i64 3,.int .i64 4,.int .i64 5,.int .i64 (f:Int),.int .i64 ((opp f:Nat):Int)] B4)).heap.size=c.heap.size+1 by simp]at this;exact this
  have H4:Hid (AL D (c.heap.size+2) e0 (DO M 3 f n 0)/\AL D w.heap.size e0 M/\At D c.heap.size (c8 λi=>((Ak 3 f i:Nat):Int)) B4/\At D (c.heap.size+1) (c8 (BK 3 n)) B4/\AL D (w.heap.size+2) false (λ_=>0)/\dc w D):=
   ⟨o,At.keep (At.keep G.out.1 p (by omega)) d (by omega),J.keep d (by omega),I.keep d (by omega),At.keep (At.keep G.out.2.1 p (by omega)) d (by omega),(G.out.2.2.1.trans (p.mono (by omega))).trans (d.mono (by omega))⟩
  have H:Hid (AL ((c.alloc (.cells #[.int .i64 0,.int .i64 1,.int .i64 2,.int .i64 3,.int .i64 4,.int .i64 5,.int .i64 (f:Int),.int .i64 ((opp f:Nat):Int)] B4)).alloc (.cells #[.int .i64 0,.int .i64 0,.int .i64 0,.int .i64 0,.int .i64 0,.int .i64 0,.int .i64 n,.int .i64 (-n)] B4)) w.heap.size e0 M):=At.keep G.out.1 p (by omega);clear o d p J I u;go_wp2_with (refine AH rfl (.tmp 4) rfl rfl H.out ?_);clear v B H E ac N;go_loopw [15] (λiv wr=>∃(i:Nat),i<=8/\iv=.int .i64 i/\Hid (AL wr (c.heap.size+2) e0 (DO M 3 f n (i*8))/\AL wr w.heap.size e0 M/\At wr c.heap.size (c8 λi=>((Ak 3 f i:Nat):Int)) B4/\At wr (c.heap.size+1) (c8 (BK 3 n)) B4/\AL wr (w.heap.size+2) false (λ_=>0)/\dc w wr)) (λiv _=>8-(intOf iv).toNat);case atStart=>exact⟨0,by omega,rfl,H4.out⟩
  case round=>
   obtain⟨i,hi,rfl,C⟩:=hrel;clear H4;by_cases z:i<8
   .have ah:(i:Int)<8:=by omega
    obtain⟨w5,rfl⟩:∃w5,w5=wr:=⟨_,rfl⟩
    go_wp2_with fail;go_loopw [16] (λZ wr=>∃(j:Nat),j<=8/\Z=.int .i64 j/\Hid (AL wr (c.heap.size+2) e0 (DO M 3 f n (i*8+j))/\AL wr w.heap.size e0 M/\At wr c.heap.size (c8 λi=>((Ak 3 f i:Nat):Int)) B4/\At wr (c.heap.size+1) (c8 (BK 3 n)) B4/\AL wr (w.heap.size+2) false (λ_=>0)/\dc w wr)) (λZ _=>8-(intOf Z).toNat);case atStart=>exact⟨0,by omega,rfl,C.out⟩
    case round=>
     obtain⟨j,hj,rfl,g⟩:=hrel;clear C;by_cases A:j<8
     .have ai:(j:Int)<8:=by omega
      obtain⟨w6,rfl⟩:∃w6,w6=wr:=⟨_,rfl⟩
      have c1:w6.cell? ⟨c.heap.size,i,none⟩=some (.int .i64 ((Ak 3 f i:Nat):Int)):=by rw[g.out.2.2.1.cell];exact DP _ z
      have c2:w6.cell? ⟨c.heap.size,j,none⟩=some (.int .i64 ((Ak 3 f j:Nat):Int)):=by rw[g.out.2.2.1.cell];exact DP _ A
      have c3:w6.cell? ⟨c.heap.size+1,i,none⟩=some (.int .i64 (BK 3 n i)):=by rw[g.out.2.2.2.1.cell];exact DP _ z
      have ae:w6.cell? ⟨c.heap.size+1,j,none⟩=some (.int .i64 (BK 3 n j)):=by rw[g.out.2.2.2.1.cell];exact DP _ A
      have ha:=Cv (t:=3) F z;have hb:=Cv (t:=3) F A;have hx:=Cm (t:=3) (n:=n) (by omega) i;have hy:=Cm (t:=3) (n:=n) (by omega) j;have HE:Hid (DO M 3 f n (i*8+j+1)=Bw (DO M 3 f n (i*8+j)) (i*8+j) (pl (M (Ak 3 f i*8+Ak 3 f j)) (BK 3 n i+BK 3 n j))):=by
       show Bw _ _ (pl (M (Ak 3 f ((i*8+j)/8)*8+Ak 3 f ((i*8+j)%8))) (BK 3 n ((i*8+j)/8)+BK 3 n ((i*8+j)%8)))=_;rw[show(i*8+j)/8=i by omega,show(i*8+j)%8=j by omega]
      generalize Ak 3 f i=a at *;generalize Ak 3 f j=b at *;generalize BK 3 n i=x at *;generalize BK 3 n j=y at *;obtain⟨x0,x1⟩:=hx;obtain⟨y0,y1⟩:=hy;have ak:IntKind.i64.wrap (x+y)=x+y:=by rw[cS];omega
      have af:(a:Int)<8:=by omega
      have ag:(b:Int)<8:=by omega
      have hk:i*8+j<64:=by omega
      have c5:w6.cell? ⟨w.heap.size,1+a*8+b,none⟩=some (.int .i64 (M (a*8+b))):=by rw[bS];exact AL.cell g.out.2.1 (a*8+b) (by omega)
      have c6:w6.cell? ⟨c.heap.size+2,1+i*8+j,none⟩=some (.int .i64 (DO M 3 f n (i*8+j) (i*8+j))):=by rw[bS];exact AL.cell g.out.1 (i*8+j) hk
      have cf:∀q,w6.frozen? ⟨c.heap.size+2,q,none⟩=false:=At.free g.out.1;have hm:=aa.out (a*8+b) (by omega);have HP:Hid (∀m,Calls prog 152 #[.int .i64 (M (a*8+b)),.int .i64 (x+y)] m λe w'=>e=.returned (.int .i64 (pl (M (a*8+b)) (x+y)))/\w'=m):=λm=>GS _ _ ⟨by omega,by unfold NB at hm;omega⟩ ⟨by omega,by omega⟩ m;have aj:c.heap.size+2<w6.heap.size:=At.lt g.out.1;generalize M (a*8+b)=mm at *;generalize pl mm (x+y)=pq at *;generalize DO M 3 f n (i*8+j) (i*8+j)=old at *;clear hm;go_wp2_with fail;refine wp_region_still_tail 22 (by kernel_rfl) (by kernel_rfl) ?_;simp only[List.take_succ_cons,List.take_zero,List.drop_succ_cons,List.drop_zero]
      iterate 19 still_step
      still_call (HP.out _)
      still_step
      still_step
      refine wpStill_nil ?_
      .go_wp2_with fail;go_roundw;case rel=>
        refine⟨j+1,by omega,by go_num,?_,?_,?_,?_,?_,?_⟩
        .rw[<-bS,HE.out,bS];exact At.drewN (AL.put g.out.1 (i*8+j) hk _) 1
        .exact At.drewN (At.other g.out.2.1 _ _ (by omega)) 1
        .exact At.drewN (g.out.2.2.1.other _ _ (by omega)) 1
        .exact At.drewN (g.out.2.2.2.1.other _ _ (by omega)) 1
        .exact At.drewN (At.other g.out.2.2.2.2.1 _ _ (by omega)) 1
        .exact bD (g.out.2.2.2.2.2.setCell (by show w.heap.size<=c.heap.size+2;omega) _) 1
       case measure=>simp[intOf];omega
     .have W:j=8:=by omega
      subst W;go_wp2_with fail;go_roundw;case rel=>exact⟨i+1,by omega,by go_num,by rw[show(i+1)*8=i*8+8 by omega];exact g.out.1,g.out.2⟩
      case measure=>simp[intOf];omega
   .have V:i=8:=by omega
    subst V;obtain⟨w7,ab,r,K⟩:=Al C.out.2.2.2.2.1 e0 (DO M 3 f n 64);have H7:Hid (AL w7 (w.heap.size+2) e0 (DO M 3 f n 64)/\dc w w7):=⟨r,C.out.2.2.2.2.2.trans (K.below (by omega) C.out.2.2.2.2.2.size)⟩
    have S:Hid (AL wr (c.heap.size+2) e0 (DO M 3 f n 64)):=C.out.1;clear r K;generalize hTT:DO M 3 f n 64=T at *;have U:Hid (DO M 3 f n 64=T):=hTT;clear hTT;go_wp2_with (refine AH rfl (.tmp 14) rfl rfl S.out ?_);try simp only[Exit.inBlock,Exit.then]
    refine bJ (Ag rfl _ rfl H7.out.1) rfl ?_;exact⟨by rw[U.out],H7.out.2⟩
theorem Rl(h:Sh M)(t:Nat)(N:t<4)(l:List Int)(Z:∀i, -1<=AK l i/\AK l i<=1)(n:Int)(hn: -99<=n/\n<=99)(h1:CF l=opp (C4 l)):
  Calls prog 141 #[.agg (oc e0 M),.int .i64 (t:Int),v4 l,.int .i64 n] w λe w'=>e=.returned (.agg (oc e0 (FI M t n n)))/\dc w w':=by
 have hz:=Bn;have S:=Cx l 4 (bB _);have G:Hid (∀c,Calls prog 142 #[v4 l] c λe w'=>e=.returned (.tuple #[.int .i64 ((CF l:Nat):Int),.int .i64 ((C4 l:Nat):Int)])/\dc c w'):=λc=>Ji l Z;have F:Hid (∀c,Calls prog 140 #[.agg (oc e0 M),.int .i64 (t:Int),.int .i64 n,.int .i64 n] c λe w'=>e=.returned (.agg (oc e0 (FI M t n n)))/\dc c w'):=λc=>IZ h t N n n ⟨by omega,by omega⟩ ⟨by omega,by omega⟩;have aa:CF l<8:=S.1;have U:C4 l<8:=S.2;generalize CF l=f at *;generalize C4 l=s at *;subst h1;have Q:Hid (∀c,Calls prog 153 #[.int .i64 (s:Int)] c λe w'=>e=.returned (.int .i64 ((opp s:Nat):Int))/\w'=c):=λc=>ED s U c;obtain⟨j,b⟩:∃j,j=((w.alloc (.cells (oc e0 M) tO)).alloc (.cells (c4 l) FS)).alloc (.cells (oc false λ_=>0) tO):=⟨_,rfl⟩
 have p:Hid (AL j w.heap.size e0 M/\AL j (w.heap.size+2) false (λ_=>0)/\dc w j/\j.heap.size=w.heap.size+3):=by
  refine⟨by rw[b];exact At.allocH (At.allocH (At.new _ _ _) _) _,?_,by rw[b];exact(((bC _ _).alloc (bB _) _).alloc (by simp) _).alloc (by simp;omega) _,by rw[b];simp⟩;have:=At.new ((w.alloc (.cells (oc e0 M) tO)).alloc (.cells (c4 l) FS)) (oc false λ_=>0) tO;rw[show((w.alloc (.cells (oc e0 M) tO)).alloc (.cells (c4 l) FS)).heap.size=w.heap.size+2 by simp]at this;rw[b];exact this
 obtain⟨y,k⟩:∃y:World->Prop,y=λw'=>dc j w':=⟨_,rfl⟩
 have u:Calls prog 142 #[v4 l] j λe w'=>e=.returned (.tuple #[.int .i64 ((opp s:Nat):Int),.int .i64 (s:Int)])/\y w':=by rw[k];exact G.out j
 rw[b]at u;unfold v4 c4 at u;unfold v4;clear G S h;go_enter func141,ntmps141;go_wp2_with fail;refine u.mono ?_;rintro e c ⟨rfl,a⟩;rw[k]at a;have r:Hid (AL c w.heap.size e0 M/\AL c (w.heap.size+2) false (λ_=>0)/\dc w c/\w.heap.size+3<=c.heap.size):=by
  have X:=p.out.2.2.2;have s1:=a.size;exact⟨At.keep p.out.1 a (by omega),At.keep p.out.2.1 a (by omega),p.out.2.2.1.trans (a.mono (by omega)),by omega⟩
 clear a u k b p;have I:=Q.out c;have d:=F.out c;go_wp2_with fail;refine I.mono ?_;rintro e w2 ⟨rfl,V⟩;subst V;clear I;go_wp2_with (refine AH rfl (.tmp 4) rfl rfl r.out.1 ?_);refine d.mono ?_;rintro e Y ⟨rfl,C⟩;have O:Hid (AL Y (w.heap.size+2) false (λ_=>0)/\dc w Y):=by
  have s1:=r.out.2.2.2;exact⟨At.keep r.out.2.1 C (by omega),r.out.2.2.1.trans (C.mono (by omega))⟩
 clear C d;generalize hTT:FI M t n n=T at *;have R:Hid (FI M t n n=T):=hTT;clear hTT F;obtain⟨B,A,g,o⟩:=Al O.out.1 e0 T;have z:Hid (AL B (w.heap.size+2) e0 T/\dc w B):=⟨g,O.out.2.trans (o.below (by omega) O.out.2.size)⟩
 clear g o;go_wp2_with fail;try simp only[Exit.inBlock,Exit.then]
 refine bJ (Ag rfl _ rfl z.out.1) rfl ?_;exact⟨by rw[R.out],z.out.2⟩
def JF(M:Nat->Int)(x:Ds):Nat->Int:=if x.any=true then FI M x.target.toNat (-999) 999 else if CF x.sg=opp (C4 x.sg)then FI M x.target.toNat x.num x.num else DO M x.target.toNat (CF x.sg) x.num 64
def CA(e:Bool)(M:Nat->Int)(x:Ds)(E:Int):Bool:=if e=true then e else if x.kind=0 then e else if x.any=true then e else if E=0 then GJ e M x.sg x.num else GJ e M (Dv x.sg) (-x.num-1)
def CE(e:Bool)(M:Nat->Int)(x:Ds)(E:Int):Nat->Int:=if e=true then M else if x.kind=0 then JF M x else if x.any=true then M else if E=0 then E5 e M x.sg x.num else E5 e M (Dv x.sg) (-x.num-1)
theorem Oz(x:Ds)(hx:OY x)(N:0<=x.target/\x.target<4)(H:Sh M):
  Calls prog 112 #[B0 x,.agg (oc e0 M)] w λe w'=>e=.returned (.agg (oc e0 (JF M x)))/\dc w w':=by
 have hz:=Bn;obtain⟨t,K⟩:∃t:Nat,x.target=(t:Int):=⟨x.target.toNat,by omega⟩
 have J:x.target.toNat=t:=by omega
 have D:t<4:=by omega
 obtain⟨j,b⟩:∃j,j=((w.alloc (.cells (AD x) BB)).alloc (.cells (oc e0 M) tO)).alloc (.cells (oc false λ_=>0) tO):=⟨_,rfl⟩
 have p:Hid (At j w.heap.size (AD x) BB/\AL j (w.heap.size+1) e0 M/\AL j (w.heap.size+2) false (λ_=>0)/\dc w j/\j.heap.size=w.heap.size+3):=by
  refine⟨by rw[b];exact At.allocH (At.allocH (At.new _ _ _) _) _,?_,?_,by rw[b];exact(((bC _ _).alloc (bB _) _).alloc (by simp) _).alloc (by simp;omega) _,by rw[b];simp⟩
  .have:=At.allocH (At.new (w.alloc (.cells (AD x) BB)) (oc e0 M) tO) (.cells (oc false λ_=>0) tO);rw[show(w.alloc (.cells (AD x) BB)).heap.size=w.heap.size+1 by simp]at this;rw[b];exact this
  .have:=At.new ((w.alloc (.cells (AD x) BB)).alloc (.cells (oc e0 M) tO)) (oc false λ_=>0) tO;rw[show((w.alloc (.cells (AD x) BB)).alloc (.cells (oc e0 M) tO)).heap.size=w.heap.size+2 by simp]at this;rw[b];exact this
 have m:=p.out.2.1;obtain⟨y,k⟩:∃y:World->Prop,y=λw'=>dc j w':=⟨_,rfl⟩
 cases L:x.any with
 |true=>
  have P:Hid (JF M x=FI M t (-999) 999):=by show JF M x=_;unfold JF;rw[bA L,J]
  have d:Calls prog 140 #[.agg (oc e0 M),.int .i64 (t:Int),.int .i64 (-999),.int .i64 999] j λe w'=>e=.returned (.agg (oc e0 (FI M t (-999) 999)))/\y w':=by rw[k];exact IZ H t D (-999) 999 ⟨by omega,by omega⟩ ⟨by omega,by omega⟩
  rw[b]at d m;unfold AD at d m;unfold B0;rw[L,K]at d m|-;generalize FI M t (-999) 999=T at *;clear H hx N b;go_enter func112,ntmps112;go_wp2_with (refine AH rfl (.tmp 3) rfl rfl m ?_);refine d.mono ?_;rintro e c ⟨rfl,a⟩;rw[k]at a;have r:Hid (AL c (w.heap.size+2) false (λ_=>0)/\dc w c):=by
   have X:=p.out.2.2.2.2;exact⟨At.keep p.out.2.2.1 a (by omega),p.out.2.2.2.1.trans (a.mono (by omega))⟩
  clear a k p;obtain⟨B,A,g,o⟩:=Al r.out.1 e0 T;have z:Hid (AL B (w.heap.size+2) e0 T/\dc w B):=⟨g,r.out.2.trans (o.below (by omega) r.out.2.size)⟩
  clear g o;go_wp2_with fail;try simp only[Exit.inBlock,Exit.then]
  refine bJ (Ag rfl _ rfl z.out.1) rfl ?_;exact⟨by rw[P.out],z.out.2⟩
 |false=>
  have v:∃T,JF M x=T/\∀c,Calls prog 141 #[.agg (oc e0 M),.int .i64 (t:Int),v4 x.sg,.int .i64 x.num] c λe w'=>e=.returned (.agg (oc e0 T))/\dc c w':=by
   refine⟨_,rfl,λc=>?_⟩;unfold JF;rw[L,a_ (by decide),J];by_cases q:CF x.sg=opp (C4 x.sg)
   .rw[bA q];exact Rl H t D x.sg hx.sg x.num hx.num q
   .rw[a_ q];exact Tq H t D x.sg hx.sg x.num hx.num q
  obtain⟨T,W,v⟩:=v;have P:Hid (JF M x=T):=W;have d:Calls prog 141 #[.agg (oc e0 M),.int .i64 (t:Int),v4 x.sg,.int .i64 x.num] j λe w'=>e=.returned (.agg (oc e0 T))/\y w':=by rw[k];exact v j
  rw[b]at d m;unfold AD at d m;unfold v4 at d;unfold B0;rw[L,K]at d m|-;clear H hx N b v W;go_enter func112,ntmps112;go_wp2_with (refine AH rfl (.tmp 3) rfl rfl m ?_);refine d.mono ?_;rintro e c ⟨rfl,a⟩;rw[k]at a;have r:Hid (AL c (w.heap.size+2) false (λ_=>0)/\dc w c):=by
   have X:=p.out.2.2.2.2;exact⟨At.keep p.out.2.2.1 a (by omega),p.out.2.2.2.1.trans (a.mono (by omega))⟩
  clear a k p;obtain⟨B,A,g,o⟩:=Al r.out.1 e0 T;have z:Hid (AL B (w.heap.size+2) e0 T/\dc w B):=⟨g,r.out.2.trans (o.below (by omega) r.out.2.size)⟩
  clear g o;go_wp2_with fail;try simp only[Exit.inBlock,Exit.then]
  refine bJ (Ag rfl _ rfl z.out.1) rfl ?_;exact⟨by rw[P.out],z.out.2⟩
end Go.Proofs.YtffajooegiempaaGreatDoor
