import Derived.Test.YtffajooegiempaaGreatDoorJ12
import Derived.Deep.RegionWith
set_option maxRecDepth 100000
set_option maxHeartbeats 6400000
namespace Go.Proofs.YtffajooegiempaaGreatDoor
open Go.RowKit
variable {w:World}
def rl(R:Nat->Int):List Int:=(List.range 32).map R
theorem UL(R:Nat->Int):(rl R).length=32:=by simp[rl]
theorem YG(R:Nat->Int){i:Nat}(h:i<32):(rl R).getD i 0=R i:=by simp[rl,List.getD,h]
theorem EE(R:Nat->Int){n:Nat}(c:Int):(rl R).set n c=rl (Bw R n c):=by
 refine List.ext_getElem (by simp[rl]) λi h1 h2=>?_;rw[List.getElem_set];simp only[rl,List.getElem_map,List.getElem_range];unfold Bw;by_cases e:n=i
 ·rw[if_pos e,if_pos e.symm]
 ·rw[if_neg e,if_neg (λz=>e z.symm)]
theorem DK{p:Nat}{R:Nat->Int}{t:TypeId}(h:At w p (ic (rl R)) t){i:Nat}(hi:i<32):w.cell? ⟨p,i,none⟩=some (.int .i64 (R i)):=by
 rw[h.cell,Aa _ _ (by rw[UL];exact hi),YG R hi]
theorem Q3{R:Nat->Int}{n:Nat}(h:rF R n=none):∀k,rF R (n+k)=none
 |0=>h
 |k+1=>by
  show(match rF R (n+k)with|none=>none|some (R',b)=>Lw R' b ((n+k)/32) ((n+k)%32))=none;rw[Q3 h k]
theorem WC{R R':Nat->Int}{b:Bool}{f g:Nat}(hg:g<32)(h:rF R (f*32+g)=some (R',b)):rF R (f*32+g+1)=Lw R' b f g:=by
 rw[rF,h];show Lw R' b ((f*32+g)/32) ((f*32+g)%32)=_;rw[show(f*32+g)/32=f by omega,show(f*32+g)%32=g by omega]
theorem Vn{f g:Nat}(hf:f<32)(hg:g<32)(c:Int):(CS (Ci f g) c).1= -2\/(CS (Ci f g) c).1= -1\/∃m:Nat,m<32/\(CS (Ci f g) c).1=(m:Int):=by
 by_cases k1:kdT f g=1
 ·by_cases e:c<0
  ·rw[(Vm k1).1 e];exact .inl rfl
  ·rw[(Vm k1).2 e];exact .inr (.inl rfl)
 ·by_cases k2:kdT f g=2
  ·rw[Y1 hf hg k2];exact .inr (.inr ⟨_,G_ hf hg (.inl k2),rfl⟩)
  ·by_cases k3:kdT f g=3
   ·rw[Y2 hf hg k3];exact .inr (.inr ⟨_,G_ hf hg (.inr k3),rfl⟩)
   ·rw[Y0 k1 k2 k3];exact .inr (.inl rfl)
def Me(a b:List Int):Nat->List Int
 |0=>a
 |j+1=>(Me a b j).set j (AK a j+AK b j)
theorem MP:∀f:Nat,f<32->(C5 f).length=4:=by decide
theorem QT:∀f:Nat,f<32->∀i,i<4-> -1<=AK (C5 f) i/\AK (C5 f) i<=1:=by decide
theorem X7{f g:Nat}(hf:f<32):Me (C5 f) (C5 g) 4=Ci f g:=by
 obtain⟨a,b,c,d,e⟩:=C0 (MP f hf);unfold Ci;rw[e];rfl
theorem WB{a b:List Int}(h:a.length=4){j:Nat}(hj:j<4):(Me a b j).length=4/\(Me a b j).getD j 0=AK a j:=by
 obtain⟨x,y,z,t,rfl⟩:=C0 h;rcases(show j=0\/j=1\/j=2\/j=3 by omega)with rfl|rfl|rfl|rfl<;>exact⟨rfl,rfl⟩
theorem Pa(f:Nat)(hf:f<32):Calls Tryz.prog 96 #[.int .i64 (f:Int)] w λe w'=>e=.returned (.slice (some ⟨w.heap.size,0,none⟩) 4 4)/\Hid (At w' w.heap.size (ic (C5 f)) tNk/\Below w.heap.size w w'):=by
 by_cases h8:f<8
 ·exact Rb f h8
 ·exact Ra f hf (by omega)
theorem Wb:∀f:Nat,f<32->∀g,g<32->∀i,i<4-> -2<=AK (Ci f g) i/\AK (Ci f g) i<=2:=by decide +kernel
def IA(p:Nat)(w:World)(R:Nat->Int)(e:Ending)(w':World):Prop:=
 BC p w w'/\match Kq R with
  |none=>e=.returned (.tuple #[.bool false,.bool false])
  |some (R',b)=>e=.returned (.tuple #[.bool true,.bool b])/\At w' p (ic (rl R')) tNk
theorem IA.no{p:Nat}{w w':World}{R:Nat->Int}{e:Ending}{k:Nat}(hk:k<=1024)(h:rF R k=none)(ho:BC p w w')(he:e=.returned (.tuple #[.bool false,.bool false])):IA p w R e w':=by
 have:Kq R=none:=by
  have:=Q3 h (1024-k);rw[show k+(1024-k)=1024 by omega]at this;exact this
 unfold IA;rw[this];exact⟨ho,he⟩
theorem IA.yes{p:Nat}{w w':World}{R R':Nat->Int}{b:Bool}{e:Ending}(h:rF R 1024=some (R',b))(ho:BC p w w')(he:e=.returned (.tuple #[.bool true,.bool b]))(ha:At w' p (ic (rl R')) tNk):IA p w R e w':=by
 unfold IA;rw[show Kq R=some (R',b)from h];exact⟨ho,he,ha⟩
theorem WF(p:Nat)(R:Nat->Int)(h:At w p (ic (rl R)) tNk)(hN:Wl R):
  Calls Tryz.prog 95 #[.slice (some ⟨p,0,none⟩) 32 32] w (IA p w R):=by
 have HA0:Hid (At w p (ic (rl R)) tNk):=h;have HN:Hid (Wl R):=hN;clear h hN;go_enter Tryz.func95,Tryz.ntmps95;go_wp2_with fail;go_loopw [4,5] (λmv fv wr=>∃(f:Nat)(b:Bool)(R':Nat->Int),f<=32/\fv=.int .i64 f/\mv=.bool b/\Hid (rF R (f*32)=some (R',b)/\At wr p (ic (rl R')) tNk/\BC p w wr)) (λ_ fv _=>32-(intOf fv).toNat);case atStart=>exact⟨0,false,R,by omega,rfl,rfl,rfl,HA0.out,BC.refl _ _⟩
 case round=>
  obtain⟨f,b0,R0,hf,rfl,rfl,HR⟩:=hrel;by_cases hlt:f<32
  ·have hfi:(f:Int)<32:=by omega
   obtain⟨w4,rfl⟩:∃w4,w4=wr:=⟨_,rfl⟩
   go_wp2_with fail;go_loopw [4,6] (λmv gv wr=>∃(g:Nat)(b:Bool)(R':Nat->Int),g<=32/\gv=.int .i64 g/\mv=.bool b/\Hid (rF R (f*32+g)=some (R',b)/\At wr p (ic (rl R')) tNk/\BC p w wr)) (λ_ gv _=>32-(intOf gv).toNat);case atStart=>exact⟨0,b0,R0,by omega,rfl,rfl,HR.out⟩
   case round=>
    obtain⟨g,b,R',hg,rfl,rfl,HQ⟩:=hrel;clear HR;by_cases hlg:g<32
    ·have hgi:(g:Int)<32:=by omega
     obtain⟨w5,rfl⟩:∃w5,w5=wr:=⟨_,rfl⟩
     have cx:=DK HQ.out.2.1 hlt;have cy:=DK HQ.out.2.1 hlg;have hxb:=HN.out (f*32+g) (by omega) R' b HQ.out.1 f hlt;have hyb:=HN.out (f*32+g) (by omega) R' b HQ.out.1 g hlg;have HS:Hid (rF R (f*32+g+1)=Lw R' b f g):=WC hlg HQ.out.1;have HS1:Hid (Lw R' b f g=if R' f=NB\/R' g=NB then some (R',b)else if(CS (Ci f g) (R' f+R' g)).1= -2 then none else if 0<=(CS (Ci f g) (R' f+R' g)).1/\(CS (Ci f g) (R' f+R' g)).2<R' (CS (Ci f g) (R' f+R' g)).1.toNat then some (Bw R' (CS (Ci f g) (R' f+R' g)).1.toNat (CS (Ci f g) (R' f+R' g)).2,true)else some (R',b)):=rfl;have HFw:Hid (∀(w1:World)(B:Nat),At w1 B (ic (Ci f g)) tNk->Calls Tryz.prog 129 #[.slice (some ⟨B,0,none⟩) 4 4,.int .i64 (R' f+R' g)] w1 λe w'=>e=.returned (.tuple #[.int .i64 (CS (Ci f g) (R' f+R' g)).1,.int .i64 (CS (Ci f g) (R' f+R' g)).2])/\Below w1.heap.size w1 w'):=λw1 B h1=>UA _ _ rfl (AQ.at_ h1 rfl (Nat.le_refl _) (λi hi=>Aa _ _ hi)) (Wb f hlt g hlg) _ ⟨by omega,by omega⟩;have HRg:Hid (_\/_):=Vn hlt hlg (R' f+R' g);obtain⟨x,hx⟩:∃x,x=R' f:=⟨_,rfl⟩
     obtain⟨y,hy⟩:∃y,y=R' g:=⟨_,rfl⟩
     have HXY:Hid (x=R' f/\y=R' g):=⟨hx,hy⟩
     rw[<-hx]at cx hxb HS1 HFw HRg;rw[<-hy]at cy hyb HS1 HFw HRg;clear hx hy;by_cases ex:x=NB
     ·have b1:(x==1000000)=true:=by rw[ex];rfl
      have HE:Hid (Lw R' b f g=some (R',b)):=HS1.out.trans (if_pos (.inl ex));clear HS1 ex;go_wp2_with fail;go_roundw;case rel=>exact⟨g+1,b,R',by omega,by go_num,rfl,by rw[<-Nat.add_assoc];exact HS.out.trans HE.out,HQ.out.2.1,HQ.out.2.2⟩
      case measure=>simp[intOf];omega
     ·have b1:(x==1000000)=false:=by rw[beq_eq_false_iff_ne];exact ex
      by_cases ey:y=NB
      ·have b2:(y==1000000)=true:=by rw[ey];rfl
       have HE:Hid (Lw R' b f g=some (R',b)):=HS1.out.trans (if_pos (.inr ey));clear HS1 ex ey;go_wp2_with fail;go_roundw;case rel=>exact⟨g+1,b,R',by omega,by go_num,rfl,by rw[<-Nat.add_assoc];exact HS.out.trans HE.out,HQ.out.2.1,HQ.out.2.2⟩
       case measure=>simp[intOf];omega
      ·have b2:(y==1000000)=false:=by rw[beq_eq_false_iff_ne];exact ey
       have HE:Hid (Lw R' b f g=_):=HS1.out.trans (if_neg (λz=>z.elim ex ey));have hfo:=Pa (w:=w5) f hlt;clear HS1 ex ey;go_wp2_with fail;refine hfo.mono ?_;rintro e w6 ⟨rfl,H6⟩;have hgo:=Pa (w:=w6) g hlg;go_wp2_with fail;refine hgo.mono ?_;rintro e w7 ⟨rfl,H7⟩;have hp5:p<w5.heap.size:=HQ.out.2.1.lt;have hw5:w.heap.size<=w5.heap.size:=HQ.out.2.2.size;have hs6:w5.heap.size<w6.heap.size:=H6.out.1.lt;have hs7:w6.heap.size<w7.heap.size:=H7.out.1.lt;have HA7:Hid (At w7 w5.heap.size (ic (Me (C5 f) (C5 g) 0)) tNk/\At w7 w6.heap.size (ic (C5 g)) tNk/\At w7 p (ic (rl R')) tNk/\BC p w w7/\w6.heap.size<w7.heap.size):=⟨H6.out.1.keep H7.out.2 hs6,H7.out.1,(HQ.out.2.1.keep H6.out.2 hp5).keep H7.out.2 (by omega),(HQ.out.2.2.trans (BC.of H6.out.2 p)).trans (BC.of H7.out.2 p),hs7⟩
       have HPa:Hid (Me (C5 f) (C5 g) 4=Ci f g/\(C5 f).length=4/\(C5 g).length=4):=⟨X7 hlt,MP f hlt,MP g hlg⟩
       have HFb:Hid (∀i,i<4->(-1<=AK (C5 f) i/\AK (C5 f) i<=1)/\(-1<=AK (C5 g) i/\AK (C5 g) i<=1)):=λi hi=>⟨QT f hlt i hi,QT g hlg i hi⟩
       generalize C5 f=vf at *;generalize C5 g=vg at *;generalize w5.heap.size=B1 at *;generalize w6.heap.size=B2 at *;clear hfo hgo H6 H7;go_wp2_with fail;go_loopw [9] (λi wx=>∃(j:Nat),j<=4/\i=.int .i64 j/\Hid (At wx B1 (ic (Me vf vg j)) tNk/\At wx B2 (ic vg) tNk/\At wx p (ic (rl R')) tNk/\BC p w wx/\B2<wx.heap.size)) (λi _=>4-(intOf i).toNat);case atStart=>exact⟨0,by omega,rfl,HA7.out⟩
       case round=>
        obtain⟨j,hj,rfl,HT⟩:=hrel;by_cases hlj:j<4
        ·have hji:(j:Int)<4:=by omega
         obtain⟨w8,rfl⟩:∃w8,w8=wr:=⟨_,rfl⟩
         have ca:w8.cell? ⟨B1,j,none⟩=some (.int .i64 (AK vf j)):=by
          have q:=WB (b:=vg) HPa.out.2.1 hlj;rw[HT.out.1.cell,Aa _ _ (by omega),q.2]
         have cb:w8.cell? ⟨B2,j,none⟩=some (.int .i64 (AK vg j)):=by
          rw[HT.out.2.1.cell,Aa _ _ (by rw[HPa.out.2.2];exact hlj)];rfl
         have cf:=HT.out.1.free;have hl1:=HT.out.1.lt;have hl2:=HT.out.2.1.lt;have hr:=HFb.out j hlj;have HP:Hid (Me vf vg (j+1)=(Me vf vg j).set j (AK vf j+AK vg j)):=rfl;have hB1p:B1≠p:=by omega
         have hB1q:B1≠B2:=by omega
         generalize AK vf j=a at *;generalize AK vg j=c at *;go_wp2_with fail;go_region;all_goals
          go_wp2_with fail;go_roundw;case rel=>
           refine⟨j+1,by omega,by go_num,?_,?_,?_,?_,?_⟩
           ·rw[HP.out,<-Be];exact At.drewN (HT.out.1.put j _) 1
           ·exact At.drewN (HT.out.2.1.other _ _ (λz=>hB1q z.symm)) 1
           ·exact At.drewN (HT.out.2.2.1.other _ _ (λz=>hB1p z.symm)) 1
           ·exact(HT.out.2.2.2.1.own (.inr (by omega)) _ _).drewN 1
           ·have:=HT.out.2.2.2.2;simpa[World.setCell]using this
          case measure=>simp[intOf];omega
        ·have hj4:j=4:=by omega
         subst hj4;obtain⟨w8,rfl⟩:∃w8,w8=wr:=⟨_,rfl⟩
         have cx8:=DK HT.out.2.2.1 hlt;have cy8:=DK HT.out.2.2.1 hlg;rw[<-HXY.out.1]at cx8;rw[<-HXY.out.2]at cy8;have HA8:Hid (At w8 B1 (ic (Ci f g)) tNk):=by
          show At w8 B1 (ic (Ci f g)) tNk;rw[<-HPa.out.1];exact HT.out.1
         have hw8:p<w8.heap.size:=HT.out.2.2.1.lt;have HO8:Hid (BC p w w8/\At w8 p (ic (rl R')) tNk):=⟨HT.out.2.2.2.1,HT.out.2.2.1⟩
         generalize CS (Ci f g) (x+y)=fv at *;obtain⟨n,c⟩:=fv;simp only at HE HFw HRg;have HFd:=HFw.out w8.drew B1 HA8.out;have hsum:IntKind.i64.wrap (x+y)=x+y:=by rw[IntKind.wrap_i64];omega
         clear HFw HA8 HT HPa HFb HA7 HQ HXY hs6 hs7 hp5 hw5 cx cy;rcases HRg.out with e|e|⟨m,hm,e⟩
         ·subst e;have HE2:Hid (Lw R' b f g=none):=HE.out.trans (if_pos rfl);clear HE;go_wp2_with fail;go_region_with (go_at_call 129;refine HFd.mono ?_;rintro e w9 ⟨rfl,hb9⟩);all_goals
           have HA9:Hid (At w9 p (ic (rl R')) tNk):=At.keep (w:=w8.drewN 1) HO8.out.2 hb9 hw8;have HO9:Hid (BC p w w9):=(HO8.out.1.drewN 1).trans (BC.of hb9 p);clear hb9;go_wp2_with fail
           go_ret2
           exact IA.no (k:=f*32+g+1) (by omega) (HS.out.trans HE2.out) HO9.out rfl
         ·subst e;have HE2:Hid (Lw R' b f g=some (R',b)):=HE.out.trans ((if_neg (by decide)).trans (if_neg (λz=>absurd z.1 (by decide))));clear HE;go_wp2_with fail;go_region_with (go_at_call 129;refine HFd.mono ?_;rintro e w9 ⟨rfl,hb9⟩);all_goals
           have HA9:Hid (At w9 p (ic (rl R')) tNk):=At.keep (w:=w8.drewN 1) HO8.out.2 hb9 hw8;have HO9:Hid (BC p w w9):=(HO8.out.1.drewN 1).trans (BC.of hb9 p);clear hb9;go_wp2_with fail;go_roundw;case rel=>exact⟨g+1,b,R',by omega,by go_num,rfl,by rw[<-Nat.add_assoc];exact HS.out.trans HE2.out,HA9.out,HO9.out⟩
           case measure=>simp[intOf];omega
         ·subst e;have hm0:((m:Int)== -2)=false:=by rw[beq_eq_false_iff_ne];omega
          have hmi:(m:Int)<32:=by omega
          by_cases hc:c<R' m
          ·have HE2:Hid (Lw R' b f g=some (Bw R' m c,true)):=HE.out.trans ((if_neg (by omega)).trans ((if_pos ⟨by omega,by rw[Int.toNat_natCast];exact hc⟩).trans (by rw[Int.toNat_natCast])));clear HE;go_wp2_with fail;go_region_with (go_at_call 129;refine HFd.mono ?_;rintro e w9 ⟨rfl,hb9⟩);all_goals
            have HA9:Hid (At w9 p (ic (rl R')) tNk):=At.keep (w:=w8.drewN 1) HO8.out.2 hb9 hw8;have HO9:Hid (BC p w w9):=(HO8.out.1.drewN 1).trans (BC.of hb9 p);clear hb9;have cm:=DK HA9.out hm;have cf9:=HA9.out.free;have hl9:=HA9.out.lt;go_wp2_with fail;go_roundw;case rel=>
             refine⟨g+1,true,Bw R' m c,by omega,by go_num,rfl,by rw[<-Nat.add_assoc];exact HS.out.trans HE2.out,?_,HO9.out.setCell _ _⟩;rw[<-EE,<-Be];exact HA9.out.put m _
            case measure=>simp[intOf];omega
          ·have HE2:Hid (Lw R' b f g=some (R',b)):=HE.out.trans ((if_neg (by omega)).trans (if_neg (λz=>by rw[Int.toNat_natCast]at z;exact hc z.2)));clear HE;go_wp2_with fail;go_region_with (go_at_call 129;refine HFd.mono ?_;rintro e w9 ⟨rfl,hb9⟩);all_goals
            have HA9:Hid (At w9 p (ic (rl R')) tNk):=At.keep (w:=w8.drewN 1) HO8.out.2 hb9 hw8;have HO9:Hid (BC p w w9):=(HO8.out.1.drewN 1).trans (BC.of hb9 p);clear hb9;have cm:=DK HA9.out hm;go_wp2_with fail;go_roundw;case rel=>exact⟨g+1,b,R',by omega,by go_num,rfl,by rw[<-Nat.add_assoc];exact HS.out.trans HE2.out,HA9.out,HO9.out⟩
            case measure=>simp[intOf];omega
    ·have hg32:g=32:=by omega
     subst hg32;go_wp2_with fail;go_roundw;case rel=>exact⟨f+1,b,R',by omega,by go_num,rfl,by rw[show(f+1)*32=f*32+32 by omega];exact HQ.out.1,HQ.out.2⟩
     case measure=>simp[intOf];omega
  ·have hf32:f=32:=by omega
   subst hf32;go_wp2_with fail
   go_ret2
   exact IA.yes HR.out.1 HR.out.2.2 rfl HR.out.2.1
abbrev tN:TypeId:=3
def NE(R:Nat->Int):Nat->Int
 |0=>0
 |k+1=>NE R k+R k
def ci(w:World)(p i:Nat):Int:=match w.cell? ⟨p,i,none⟩with
 |some (.int _ x)=>x
 |_=>0
theorem Lx{R S:Nat->Int}:∀n,(∀f,f<n->R f=S f)->NE R n=NE S n
 |0,_=>rfl
 |n+1,h=>by rw[NE,NE,Lx n (λf hf=>h f (by omega)),h n (by omega)]
theorem Uf{R S:Nat->Int}:∀n,(∀f,f<n->R f<=S f)->NE R n<=NE S n
 |0,_=>Int.le_refl _
 |n+1,h=>by
  have a:=Uf n (λf hf=>h f (by omega));have b:=h n (by omega);rw[NE,NE];omega
theorem Uh{R S:Nat->Int}:∀n,(∀f,f<n->R f<=S f)->(∃f,f<n/\R f<S f)->NE R n<NE S n
 |0,_,⟨f,hf,_⟩=>absurd hf (by omega)
 |n+1,h,⟨f,hf,q⟩=>by
  have b:=h n (by omega);rw[NE,NE];by_cases e:f=n
  ·subst e;have a:=Uf f (λg hg=>h g (by omega));omega
  ·have a:=Uh n (λf hf=>h f (by omega)) ⟨f,by omega,q⟩;omega
theorem Ug{R:Nat->Int}{L:Int}:∀n:Nat,(∀f,f<n-> -L<=R f)-> -(L*n)<=NE R n
 |0,_=>by show -(L*0)<=(0:Int);omega
 |n+1,h=>by
  have a:=Ug n (λf hf=>h f (by omega));have b:=h n (by omega);rw[NE,show((n+1:Nat):Int)=(n:Int)+1 from rfl,Int.mul_add,Int.mul_one];omega
theorem Wu{p:Nat}{R:Nat->Int}(h:At w p (ic (rl R)) tNk):NE (ci w p) 32=NE R 32:=
 Lx 32 λf hf=>by unfold ci;rw[DK h hf]
def Vx(p:Nat)(w:World):Nat:=(NE (ci w p) 32+100000000000000000000).toNat
theorem Vy{p:Nat}{w w':World}{R R':Nat->Int}{b:Bool}(h:At w p (ic (rl R)) tNk)(h':At w' p (ic (rl R')) tNk)(hN:Wl R)(hN':Wl R')(hr:Kq R=some (R',b))(hb:b=true):Vx p w'<Vx p w:=by
 have hi:∀f,f<32->R f<=NB:=λf hf=>(hN 0 (by omega) R false rfl f hf).2;have I:=EW hi 1024 (Nat.le_refl _) R' b hr;have s:=Uh 32 I.le (I.more hb);have l:=Ug (L:=2000000000000000000) 32 (λf hf=>(hN' 0 (by omega) R' false rfl f hf).1);unfold Vx;rw[Wu h,Wu h'];omega
def Yk(w:World)(R0:Nat->Int)(e:Ending)(w':World):Prop:=
 Below w.heap.size w w'/\((e=.returned (.slice none 0 0)/\∃n,EO R0 n=none)\/
  ∃g n R R',e=.returned (.slice (some ⟨g,0,none⟩) 32 32)/\w.heap.size<=g/\At w' g (ic (rl R')) tNk/\EO R0 n=some R/\Kq R=some (R',false))
theorem WI{l:List Int}(h:l.length=32):rl (λf=>l.getD f 0)=l:=by
 refine List.ext_getElem (by rw[UL,h]) λi h1 h2=>?_;simp[rl,List.getD,h2]
theorem KU(u:Value)(l:List Int)(hl:l.length=32)(hu:AQ w u l)(hnov:∀n R,EO (λf=>l.getD f 0) n=some R->Wl R):
  Calls Tryz.prog 59 #[u] w (Yk w λf=>l.getD f 0):=by
 have hmk:∀w,(Instr.makeSlice 32 (.int .i64 32) (.int .i64 32)).run Tryz.prog w=.ok (.slice (some ⟨w.heap.size,0,none⟩) 32 32) (w.alloc (.cells (List.replicate 32 (Value.int .i64 0)).toArray tNk)):=λ_=>by kernel_rfl
 obtain⟨ao,cap,rfl,hcap,h0⟩:=hu;obtain⟨b,off,rfl,hlt,hc⟩:=h0 (by omega);obtain⟨cur,hcur⟩:∃cur,cur=List.replicate 32 (Value.int .i64 0):=⟨_,rfl⟩
 have HBe:Hid (Below w.heap.size w (w.alloc (.cells cur.toArray tNk))):=(Below.refl _ _).alloc (Nat.le_refl _) _;have HAl:Hid (At (w.alloc (.cells cur.toArray tNk)) w.heap.size cur.toArray tNk):=At.new _ _ _;have hcl:cur.length=32:=by rw[hcur];simp
 rw[<-hcur]at hmk;obtain⟨w1,hcp,hat,hb1⟩:∃w1,(Builtin.copy_ #[32,32] tNk #[.slice (some ⟨w.heap.size,0,none⟩) 32 32,.slice (some ⟨b,off,none⟩) 32 cap]).run Tryz.prog (w.alloc (.cells cur.toArray tNk))=.ok (.int .i64 32) w1/\At w1 w.heap.size (ic l) tNk/\Below w.heap.size w w1:=by
  have hml:(l.map (Value.int .i64)).length=32:=by rw[List.length_map];exact hl
  have:=run_copy_row (P:=Tryz.prog) (w.alloc (.cells cur.toArray tNk)) 32 32 tNk tNk w.heap.size 0 32 32 ⟨b,off,none⟩ 32 cap cur.toArray tNk (l.map (Value.int .i64)) Tryz.underlying32 (by kernel_rfl) HAl.out (by rw[hml];simp) (by
   intro j v hj;have hjl:j<32:=by
    rcases Nat.lt_or_ge j 32 with h'|h'
    ·exact h'
    ·rw[List.getElem?_eq_none (by omega)]at hj;cases hj
   have e1:(⟨b,off,none⟩:Addr).add j=⟨b,off+j,none⟩:=by unfold Addr.add;split<;>simp_all
   rw[e1,HBe.out.cell (by exact hlt)];have:=hc j (by omega);simp[List.getElem?_map,List.getElem?_eq_getElem (show j<l.length by omega)]at hj;rw[<-hj];simpa[List.getD,show j<l.length by omega]using this) (by simp only[List.size_toArray];omega) (by
   intro u hu;obtain⟨x,_,rfl⟩:=List.mem_map.1 hu
   rfl)
  have e2:goInt (l.map (Value.int .i64)).length=.int .i64 32:=by rw[hml];rfl
  rw[e2]at this;refine⟨_,this,?_,below_setRow HBe.out (Nat.le_refl _) _⟩;have h2:=setRow_heap (w.alloc (.cells cur.toArray tNk)) w.heap.size cur.toArray (cur.toArray.toList.take 0++l.map (Value.int .i64)++cur.toArray.toList.drop (0+(l.map (Value.int .i64)).length)).toArray tNk (0,0) HAl.out;have e3:(cur.toArray.toList.take 0++l.map (Value.int .i64)++cur.toArray.toList.drop (0+(l.map (Value.int .i64)).length)).toArray=ic l:=by
   rw[hml];unfold ic;rw[List.drop_of_length_le (by simp;omega)];simp
  rw[e3]at h2;unfold At;rw[<-h2,e3]
 obtain⟨R0,hR0⟩:∃R0:Nat->Int,R0=λf=>l.getD f 0:=⟨_,rfl⟩
 have HA1:Hid (At w1 w.heap.size (ic (rl R0)) tNk/\Below w.heap.size w w1):=⟨by rw[hR0,WI hl];exact hat,hb1⟩
 rw[<-hR0]at hnov|-;have HN:Hid (∀n R,EO R0 n=some R->Wl R):=hnov;rw[hl];clear hnov hat hb1 hR0 h0 hc hcap HAl HBe hcl hcur;go_enter Tryz.func59,Tryz.ntmps59;go_wp2_with fail;go_loopw [] (λwr=>∃(n:Nat)(R:Nat->Int),Hid (EO R0 n=some R/\At wr w.heap.size (ic (rl R)) tNk/\Below w.heap.size w wr)) (λwr=>Vx w.heap.size wr);case atStart=>exact⟨0,R0,rfl,HA1.out⟩
 case round=>
  obtain⟨n,R,HR⟩:=hrel;obtain⟨w4,rfl⟩:∃w4,w4=wr:=⟨_,rfl⟩
  have hro:=WF w.heap.size R HR.out.2.1 (HN.out n R HR.out.1);go_wp2_with fail;refine hro.mono ?_;rintro e w5 ⟨ho,hm⟩;have HIt:Hid (EO R0 (n+1)=(Kq R).map λ(x:(Nat->Int)×Bool)=>x.1):=by
   show(match EO R0 n with|none=>none|some R'=>(Kq R').map λ(x:(Nat->Int)×Bool)=>x.1)=_;rw[HR.out.1]
  have HB5:Hid (Below w.heap.size w w5):=HR.out.2.2.trans (ho.below (Nat.le_refl _) (Nat.le_of_lt HR.out.2.1.lt));cases hrn:Kq R with
  |none=>
   rw[hrn]at hm HIt;obtain rfl:e=_:=hm;have HI2:Hid (EO R0 (n+1)=none):=HIt.out;clear HIt hrn ho;go_wp2_with fail;go_ret;exact⟨HB5.out,.inl ⟨rfl,n+1,HI2.out⟩⟩
  |some x=>
   obtain⟨R',b'⟩:=x;rw[hrn]at hm HIt;obtain⟨rfl,ha⟩:=hm;have HI2:Hid (EO R0 (n+1)=some R'):=HIt.out;have HA5:Hid (At w5 w.heap.size (ic (rl R')) tNk):=ha;have HRn:Hid (Kq R=some (R',b')):=hrn;clear HIt hrn ho ha;cases b' with
   |false=>
    go_wp2_with fail;go_ret;exact⟨HB5.out,.inr ⟨w.heap.size,n,R,R',rfl,Nat.le_refl _,HA5.out,HR.out.1,HRn.out⟩⟩
   |true=>
    go_wp2_with fail;go_roundw;case rel=>exact⟨n+1,R',HI2.out,HA5.out,HB5.out⟩
    case measure=>exact Vy HR.out.2.1 HA5.out (HN.out n R HR.out.1) (HN.out (n+1) R' HI2.out) HRn.out rfl
theorem It{R:Nat->Int}{M:Nat->Int}(h:∀f,f<32->R f=bd M f):rl R=Bl M:=by
 unfold rl Bl;refine List.map_congr_left λf hf=>h f (by simpa using hf)
theorem DC(u:Value)(l:List Int)(hl:B_ l)(hu:AQ w u l):Calls Tryz.prog 59 #[u] w (BF w (ovE l) (BT l)):=by
 refine(KU u l hl.1 hu (λn R h=>Vj hl h)).mono ?_;rintro e w' ⟨hb,⟨rfl,n,hn⟩|⟨g,n,R,R',rfl,hg,ha,h1,h2⟩⟩
 ·refine⟨hb,.inl ⟨?_,rfl⟩⟩;cases he:ovE l with
  |true=>rfl
  |false=>
   obtain⟨R',e,_⟩:=IK hl he n;rw[hn]at e;cases e
 ·obtain⟨h3,h4⟩:=S4 hl h1 h2;refine⟨hb,.inr ⟨h3,g,rfl,hg,?_⟩⟩;rw[<-It h4];exact ha
end Go.Proofs.YtffajooegiempaaGreatDoor
namespace Go.Proofs.YtffajooegiempaaGreatDoor
variable {m m':Rd}
def Gd(s:St):Prop:=0<=s.var/\s.var<=3/\∀x,x∈s.sg-> -1<=x/\x<=1
def Bc(m:Rd):Prop:=∀s,s∈m.st->Gd s
theorem Y4:Gd AY:=⟨by decide,by decide,λx hx=>by simp[AY]at hx;omega⟩
theorem Bc.get(h:Bc m)(k:Nat):Gd (m.st.getD k AY):=by
 rw[List.getD_eq_getElem?_getD];cases e:m.st[k]? with
 |none=>exact Y4
 |some s=>exact h s (List.mem_of_getElem? e)
theorem Bc.cur(h:Bc m):Gd (cur m):=h.get _
theorem Bc.setC(h:Bc m){s:St}(hs:Gd s):Bc (AE m s):=λt ht=>(Ft ht).elim (h t) (λe=>e▸hs)
theorem Bc.of{m1:Rd}(h:Bc m1)(e:m'.st=m1.st):Bc m':=λs hs=>h s (e▸hs)
theorem Bc.begin_(h:Bc m){k v x:Int}(h0:0<=v)(h3:v<=3)(e:BN m k v x=some m'):Bc m':=by
 unfold BN at e;split at e
 ·cases e
 ·cases e
  intro s hs;rcases List.mem_append.1 hs with hs|hs
  ·exact h s hs
  ·rw[List.mem_singleton.1 hs];exact⟨h0,h3,λx hx=>by simp at hx;omega⟩
theorem Bc.shut(h:Bc m)(e:Ba m=some m'):Bc m':=by
 have hg:=h.get (top m).of_;simp only[Ba]at e;split at e
 ·cases e;exact λt ht=>(List.mem_or_eq_of_mem_set ht).elim (h t) (λe=>e▸hg)
 ·cases e;exact λt ht=>(List.mem_or_eq_of_mem_set ht).elim (h t) (λe=>e▸hg)
theorem Bc.digit(h:Bc m){c x:Int}{pos:Bool}(e:AT m c pos x=some m'):Bc m':=by
 obtain⟨d,u,_,_,rfl⟩:=Gl e;exact(h.setC (s:={Go.Proofs.YtffajooegiempaaGreatDoor.cur m with num:=10*u+(c-48)}) h.cur).of rfl
theorem Bc.signTo(h:Bc m)(v:Nat)(y x:Int)(hy: -1<=y/\y<=1):Bc (Bp m v y x):=by
 have hc:=h.cur;refine(h.setC (s:={Go.Proofs.YtffajooegiempaaGreatDoor.cur m with sg:=(Go.Proofs.YtffajooegiempaaGreatDoor.cur m).sg.set v y}) ⟨hc.1,hc.2.1,λz hz=>?_⟩).of rfl;rcases List.mem_or_eq_of_mem_set hz with hz|hz
 ·exact hc.2.2 z hz
 ·rw[hz];exact hy
theorem Bc.plain(h:Bc m){c:Int}(e:Ac m c=some m'):Bc m':=by
 unfold Ac at e;split at e
 ·split at e
  ·cases e;exact h.of rfl
  ·cases e
 ·split at e
  ·cases e
  ·cases e;exact h.of rfl
theorem Bc.value(h:Bc m)(ok:Ok m){c:Int}(e:AO m c=some m'):Bc m':=by
 have hs:=ok.sgn;have ve:Bc (CW m):=(h.setC (s:={Go.Proofs.YtffajooegiempaaGreatDoor.cur m with num:=m.sign*(Go.Proofs.YtffajooegiempaaGreatDoor.cur m).num}) h.cur).of rfl;unfold AO at e;split at e
 ·split at e
  ·cases e;exact(h.setC (s:={Go.Proofs.YtffajooegiempaaGreatDoor.cur m with star:=true}) h.cur).of rfl
  split at e
  ·cases e;exact h.of rfl
  split at e
  ·cases e;exact h.signTo _ 1 120 (by omega)
  ·exact Bc.digit (m:={m with sign:=1}) (h.of rfl) e
 split at e
 ·split at e
  ·cases e;exact h.signTo _ m.sign 120 hs
  ·exact h.digit e
 split at e
 ·split at e
  ·cases e;exact h.of rfl
  split at e
  ·cases e;exact h.of rfl
  split at e
  ·cases e;exact ve
  ·cases e
 split at e
 ·exact h.digit e
 ·split at e
  ·cases e;exact ve
  ·exact h.digit e
theorem Bc.cond(h:Bc m)(ok:Ok m){c:Int}(e:AF m c=some m'):Bc m':=by
 have hs:=ok.sgn;unfold AF at e;by_cases x1:m.state=99
 ·rw[if_pos x1]at e;split at e
  ·cases e;exact(h.setC (s:={Go.Proofs.YtffajooegiempaaGreatDoor.cur m with star:=true}) h.cur).of rfl
  split at e
  ·cases e;exact h.of rfl
  split at e
  ·cases e;exact h.signTo _ 1 100 (by omega)
  ·cases e
 rw[if_neg x1]at e;by_cases x2:m.state=67
 ·rw[if_pos x2]at e;split at e
  ·cases e;exact h.signTo _ m.sign 100 hs
  ·cases e
 rw[if_neg x2]at e;by_cases x3:m.state=100
 ·rw[if_pos x3]at e;split at e
  ·cases e;exact h.of rfl
  split at e
  ·cases e;exact h.of rfl
  split at e
  ·cases e;exact h.of rfl
  ·cases e
 rw[if_neg x3]at e;by_cases x4:m.state=101
 ·rw[if_pos x4]at e;split at e
  ·split at e
   ·cases e;exact h.signTo _ m.sign 102 hs
   ·cases e
  ·cases e
 rw[if_neg x4]at e;by_cases x5:m.state=102
 ·rw[if_pos x5]at e;split at e
  ·cases e;exact h.of rfl
  ·cases e
 rw[if_neg x5]at e;by_cases x6:m.state=60
 ·rw[if_pos x6]at e;split at e
  ·cases e;exact h.of rfl
  ·cases e
 rw[if_neg x6]at e;by_cases x7:m.state=98
 ·rw[if_pos x7]at e;split at e
  ·cases e;exact h.of rfl
  ·exact h.digit e
 rw[if_neg x7]at e;by_cases x8:m.state=66
 ·rw[if_pos x8]at e;exact h.digit e
 rw[if_neg x8]at e;by_cases x9:m.state=109
 ·rw[if_pos x9]at e;split at e
  ·exact Bc.plain (m:={AE m {Go.Proofs.YtffajooegiempaaGreatDoor.cur m with num:=if m.neg then -(Go.Proofs.YtffajooegiempaaGreatDoor.cur m).num else(Go.Proofs.YtffajooegiempaaGreatDoor.cur m).num}with state:=AG m}) ((h.setC (s:={Go.Proofs.YtffajooegiempaaGreatDoor.cur m with num:=if m.neg then -(Go.Proofs.YtffajooegiempaaGreatDoor.cur m).num else(Go.Proofs.YtffajooegiempaaGreatDoor.cur m).num}) h.cur).of rfl) e
  ·exact h.digit e
 rw[if_neg x9]at e;split at e
 ·cases e;exact h.of rfl
 ·cases e
theorem Bc.byte(h:Bc m)(ok:Ok m){c:Int}(e:AM m c=some m'):Bc m':=by
 unfold AM at e;split at e
 ·unfold AP at e;split at e
  ·exact h.begin_ (by omega) (by omega) e
  split at e
  ·split at e
   ·exact h.begin_ (by omega) (by omega) e
   ·cases e
  split at e
  ·exact h.begin_ (by omega) (by omega) e
  split at e
  ·exact h.shut e
  ·cases e
 split at e
 ·split at e
  ·cases e;exact h.of rfl
  ·cases e
 split at e
 ·exact h.value ok e
 split at e
 ·exact h.plain e
 ·exact h.cond ok e
theorem MR{l:List Int}:∀{m:Rd}{n k:Nat},Bc m->Ok m->BH m l n=(k,some m')->Bc m'/\Ok m':=by
 induction l with
 |nil=>intro m n k h ok e;simp[BH]at e;rw[<-e.2];exact⟨h,ok⟩
 |cons c l ih=>
  intro m n k h ok e;simp only[BH]at e;split at e
  ·cases e
  ·rename_i m1 e1;exact ih (h.byte ok e1) (ok.byte e1) e
def nz(l:List Int):Nat:=l.countP λx=>decide (x≠0)
theorem C2(a:Int)(l:List Int):nz (a::l)=nz l+if a=0 then 0 else 1:=by
 unfold nz;rw[List.countP_cons];by_cases h:a=0
 ·rw[if_pos h,if_neg (by simpa using h)]
 ·rw[if_neg h,if_pos (by simpa using h)]
theorem To:∀(l:List Int)(v:Nat)(x:Int),nz (l.set v x)<=nz l+1:=by
 intro l;induction l with
 |nil=>intro v x;simp
 |cons a l ih=>
  intro v x;cases v with
  |zero=>
   rw[List.set_cons_zero,C2,C2];split<;>split<;>omega
  |succ v=>
   rw[List.set_cons_succ,C2,C2];have:=ih v x;omega
def Gu(x:Int):Nat:=if x=61\/x=118\/x=86\/x=99\/x=67 then 0 else if x=100\/x=101 then 1 else 2
structure Cn(m:Rd):Prop where
 all:∀s,s∈m.st->nz s.sg<=2
 cur:nz (cur m).sg<=Gu m.state
theorem I4(x:Int):Gu x<=2:=by unfold Gu;split<;>(try split)<;>omega
theorem Cn.of(h:Cn m)(e:m'.st=m.st)(hl:Gu m.state<=Gu m'.state):Cn m':=by
 refine⟨λs hs=>h.all s (e▸hs),?_⟩;have:Go.Proofs.YtffajooegiempaaGreatDoor.cur m'=Go.Proofs.YtffajooegiempaaGreatDoor.cur m:=by unfold Go.Proofs.YtffajooegiempaaGreatDoor.cur;rw[e]
 rw[this];exact Nat.le_trans h.cur hl
theorem Cn.setC(h:Cn m){s:St}{n:Nat}(hs:nz s.sg<=n)(hn:n<=2)(ok:m.state≠115)(ok':Ok m)(e:m'.st=(AE m s).st)(hl:n<=Gu m'.state):Cn m':=by
 have hp:=ok'.some_ ok;refine⟨λt ht=>?_,?_⟩
 ·rw[e]at ht;rcases Ft ht with q|q
  ·exact h.all t q
  ·rw[q];omega
 ·have:Go.Proofs.YtffajooegiempaaGreatDoor.cur m'=s:=by
   unfold Go.Proofs.YtffajooegiempaaGreatDoor.cur;rw[e];unfold AE;simp[List.getD,show m.st.length-1<m.st.length by omega]
  rw[this];omega
theorem Cn.begin_(h:Cn m){k v x:Int}(hx:Gu x=0)(e:BN m k v x=some m'):Cn m':=by
 unfold BN at e;split at e
 ·cases e
 ·cases e
  refine⟨λs hs=>?_,?_⟩
  ·rcases List.mem_append.1 hs with hs|hs
   ·exact h.all s hs
   ·rw[List.mem_singleton.1 hs];show nz [0,0,0,0]<=2;decide
  ·show nz (Go.Proofs.YtffajooegiempaaGreatDoor.cur _).sg<=Gu x;rw[hx];unfold Go.Proofs.YtffajooegiempaaGreatDoor.cur;simp[List.getD];decide
theorem Cn.shut(h:Cn m)(hs:m.state=115)(e:Ba m=some m'):Cn m':=by
 have key:∀(s:St),s.sg=(m.st.getD (top m).of_ AY).sg->∀t,t∈m.st.set (top m).of_ s->nz t.sg<=2:=by
  intro s hsg t ht;rcases List.mem_or_eq_of_mem_set ht with q|q
  ·exact h.all t q
  ·rw[q,hsg,List.getD_eq_getElem?_getD];cases e:m.st[(top m).of_]? with
   |none=>decide
   |some u=>exact h.all u (List.mem_of_getElem? e)
 have cu:∀(s:St)(m2:Rd),m2.st=m.st.set (top m).of_ s->s.sg=(m.st.getD (top m).of_ AY).sg->nz (Go.Proofs.YtffajooegiempaaGreatDoor.cur m2).sg<=2:=by
  intro s m2 e2 hsg;unfold Go.Proofs.YtffajooegiempaaGreatDoor.cur;rw[e2,List.getD_eq_getElem?_getD];cases e3:(m.st.set (top m).of_ s)[(m.st.set (top m).of_ s).length-1]? with
  |none=>decide
  |some u=>exact key s hsg u (List.mem_of_getElem? e3)
 simp only[Ba]at e;split at e
 ·cases e
  exact⟨key _ rfl,cu _ _ rfl rfl⟩
 ·cases e
  refine⟨key _ rfl,?_⟩;show _<=Gu m.state;rw[hs];exact cu _ _ rfl rfl
theorem Cn.digit(h:Cn m)(ok:Ok m)(h0:m.state≠115){c x:Int}{pos:Bool}(e:AT m c pos x=some m')(hl:Gu m.state<=Gu x):Cn m':=by
 obtain⟨d,u,_,_,rfl⟩:=Gl e;exact h.setC (s:={Go.Proofs.YtffajooegiempaaGreatDoor.cur m with num:=10*u+(c-48)}) (n:=Gu m.state) h.cur (I4 _) h0 ok rfl hl
theorem Cn.signTo(h:Cn m)(ok:Ok m)(h0:m.state≠115)(v:Nat)(y x:Int)(hl:Gu m.state+1<=Gu x):Cn (Bp m v y x):=by
 have:=I4 x;have hc:=h.cur;have hn:=To (Go.Proofs.YtffajooegiempaaGreatDoor.cur m).sg v y;exact h.setC (s:={Go.Proofs.YtffajooegiempaaGreatDoor.cur m with sg:=(Go.Proofs.YtffajooegiempaaGreatDoor.cur m).sg.set v y}) (n:=Gu m.state+1) (by show nz ((Go.Proofs.YtffajooegiempaaGreatDoor.cur m).sg.set v y)<=_;omega) (by omega) h0 ok rfl hl
theorem Cn.plain(h:Cn m)(hl:Gu m.state<=2){c:Int}(e:Ac m c=some m'):Cn m':=by
 unfold Ac at e;split at e
 ·split at e
  ·cases e;exact h.of rfl hl
  ·cases e
 ·split at e
  ·cases e
  ·cases e;exact h.of rfl hl
theorem Cn.value(h:Cn m)(ok:Ok m){c:Int}(hst:m.state=118\/m.state=86\/m.state=120\/m.state=121\/m.state=110)(e:AO m c=some m'):Cn m':=by
 have h0:m.state≠115:=by omega
 have l2:=I4 m.state;have ve:Cn (CW m):=h.setC (s:={Go.Proofs.YtffajooegiempaaGreatDoor.cur m with num:=m.sign*(Go.Proofs.YtffajooegiempaaGreatDoor.cur m).num}) (n:=Gu m.state) h.cur l2 h0 ok rfl l2;unfold AO at e;split at e
 ·rename_i x1;have hz:Gu m.state=0:=by rw[x1];rfl
  split at e
  ·cases e;exact h.setC (s:={Go.Proofs.YtffajooegiempaaGreatDoor.cur m with star:=true}) (n:=Gu m.state) h.cur l2 h0 ok rfl l2
  split at e
  ·cases e;exact h.of rfl (by omega)
  split at e
  ·cases e;exact h.signTo ok h0 _ 1 120 (by rw[hz];decide)
  ·exact Cn.digit (m:={m with sign:=1}) (h.of rfl (Nat.le_refl _)) ⟨ok.states,ok.some_,ok.len,ok.oplen,ok.ofs,by show -1<=(1:Int)/\(1:Int)<=1;omega,ok.digs,ok.nums,ok.sgl,ok.inNum,ok.open_⟩ h0 e l2
 split at e
 ·rename_i x1 x2;have hz:Gu m.state=0:=by rw[x2];rfl
  split at e
  ·cases e;exact h.signTo ok h0 _ m.sign 120 (by rw[hz];decide)
  ·exact h.digit ok h0 e l2
 split at e
 ·split at e
  ·cases e;exact h.of rfl l2
  split at e
  ·cases e;exact h.of rfl l2
  split at e
  ·cases e;exact ve
  ·cases e
 split at e
 ·exact h.digit ok h0 e l2
 ·split at e
  ·cases e;exact ve
  ·exact h.digit ok h0 e l2
theorem Qi(m:Rd):Gu (AG m)=2:=by unfold AG;split<;>rfl
theorem Cn.cond(h:Cn m)(ok:Ok m)(h0:m.state≠115){c:Int}(e:AF m c=some m'):Cn m':=by
 have l2:=I4 m.state;unfold AF at e;by_cases x1:m.state=99
 ·rw[if_pos x1]at e;have hz:Gu m.state=0:=by rw[x1];rfl
  split at e
  ·cases e;exact h.setC (s:={Go.Proofs.YtffajooegiempaaGreatDoor.cur m with star:=true}) (n:=Gu m.state) h.cur l2 h0 ok rfl (by show _<=Gu (AG m);rw[Qi];exact l2)
  split at e
  ·cases e;exact h.of rfl (by omega)
  split at e
  ·cases e;exact h.signTo ok h0 _ 1 100 (by rw[hz];decide)
  ·cases e
 rw[if_neg x1]at e;by_cases x2:m.state=67
 ·rw[if_pos x2]at e;have hz:Gu m.state=0:=by rw[x2];rfl
  split at e
  ·cases e;exact h.signTo ok h0 _ m.sign 100 (by rw[hz];decide)
  ·cases e
 rw[if_neg x2]at e;by_cases x3:m.state=100
 ·rw[if_pos x3]at e;have hz:Gu m.state=1:=by rw[x3];rfl
  split at e
  ·cases e;exact h.of rfl (by rw[hz];show 1<=Gu 101;decide)
  split at e
  ·cases e;exact h.of rfl (by rw[hz];show 1<=Gu 101;decide)
  split at e
  ·cases e;exact h.of rfl (by rw[hz];show 1<=Gu 60;decide)
  ·cases e
 rw[if_neg x3]at e;by_cases x4:m.state=101
 ·rw[if_pos x4]at e;have hz:Gu m.state=1:=by rw[x4];rfl
  split at e
  ·split at e
   ·cases e;exact h.signTo ok h0 _ m.sign 102 (by rw[hz];decide)
   ·cases e
  ·cases e
 rw[if_neg x4]at e;by_cases x5:m.state=102
 ·rw[if_pos x5]at e;split at e
  ·cases e;exact h.of rfl l2
  ·cases e
 rw[if_neg x5]at e;by_cases x6:m.state=60
 ·rw[if_pos x6]at e;split at e
  ·cases e;exact h.of rfl l2
  ·cases e
 rw[if_neg x6]at e;by_cases x7:m.state=98
 ·rw[if_pos x7]at e;split at e
  ·cases e;exact h.of rfl l2
  ·exact h.digit ok h0 e l2
 rw[if_neg x7]at e;by_cases x8:m.state=66
 ·rw[if_pos x8]at e;exact h.digit ok h0 e l2
 rw[if_neg x8]at e;by_cases x9:m.state=109
 ·rw[if_pos x9]at e;split at e
  ·refine Cn.plain (m:={AE m {Go.Proofs.YtffajooegiempaaGreatDoor.cur m with num:=if m.neg then -(Go.Proofs.YtffajooegiempaaGreatDoor.cur m).num else(Go.Proofs.YtffajooegiempaaGreatDoor.cur m).num}with state:=AG m}) ?_ (I4 _) e;exact h.setC (s:={Go.Proofs.YtffajooegiempaaGreatDoor.cur m with num:=if m.neg then -(Go.Proofs.YtffajooegiempaaGreatDoor.cur m).num else(Go.Proofs.YtffajooegiempaaGreatDoor.cur m).num}) (n:=Gu m.state) h.cur l2 h0 ok rfl (by show _<=Gu (AG m);rw[Qi];exact l2)
  ·exact h.digit ok h0 e l2
 rw[if_neg x9]at e;split at e
 ·cases e;exact h.of rfl l2
 ·cases e
theorem Cn.byte(h:Cn m)(ok:Ok m){c:Int}(e:AM m c=some m'):Cn m':=by
 unfold AM at e;split at e
 ·rename_i hs;unfold AP at e;split at e
  ·exact h.begin_ rfl e
  split at e
  ·split at e
   ·exact h.begin_ rfl e
   ·cases e
  split at e
  ·exact h.begin_ rfl e
  split at e
  ·exact h.shut hs e
  ·cases e
 split at e
 ·rename_i h1 h2;split at e
  ·cases e;exact h.of rfl (by rw[h2];show Gu 61<=Gu 118;decide)
  ·cases e
 split at e
 ·rename_i hv;exact h.value ok hv e
 split at e
 ·exact h.plain (I4 _) e
 ·rename_i h1 _ _ _;exact h.cond ok h1 e
theorem Vg{l:List Int}:∀{m:Rd}{n k:Nat},Cn m->Ok m->BH m l n=(k,some m')->Cn m':=by
 induction l with
 |nil=>intro m n k h ok e;simp[BH]at e;rw[<-e.2];exact h
 |cons c l ih=>
  intro m n k h ok e;simp only[BH]at e;split at e
  ·cases e
  ·rename_i m1 e1;exact ih (h.byte ok e1) (ok.byte e1) e
end Go.Proofs.YtffajooegiempaaGreatDoor
namespace Go.Proofs.YtffajooegiempaaGreatDoor
open Go.RowKit
variable {w:World}
def OO:List Int:=[-1,0,1]
def WP(l:List Int):Bool:=decide (2<nz l)||(if nz l=0 then decide (Ar l= -1)&&decide (CF l=0)&&decide (C4 l=1)
 else decide (0<=Ar l)&&decide (Ar l<32)&&decide (CF l=fs (Ar l).toNat)&&decide (C4 l=ss (Ar l).toNat))
theorem Us:(OO.all λa=>OO.all λb=>OO.all λc=>OO.all λd=>WP [a,b,c,d])=true:=by decide +kernel
theorem Ca{a:Int}(h: -1<=a/\a<=1):a∈OO:=by
 rcases(show a= -1\/a=0\/a=1 by omega)with rfl|rfl|rfl<;>decide
theorem Q_{l:List Int}(hl:l.length=4)(h:∀i, -1<=AK l i/\AK l i<=1):WP l=true:=by
 obtain⟨a,b,c,d,rfl⟩:=C0 hl;have t:=Us;simp only[List.all_eq_true]at t;exact t a (Ca (h 0)) b (Ca (h 1)) c (Ca (h 2)) d (Ca (h 3))
def GP(C:Nat->Int)(l:List Int):Int:=if nz l=0 then 0 else bd C (Ar l).toNat
theorem Gp{C:Nat->Int}(hC:C (0*8+1)=0){l:List Int}(hl:l.length=4)(h:∀i, -1<=AK l i/\AK l i<=1)(h2:nz l<=2):
  mo C (CF l) (C4 l)=GP C l/\(nz l=0->Ar l= -1)/\(nz l≠0->∃f:Nat,f<32/\Ar l=(f:Int)/\GP C l=bd C f):=by
 have t:=Q_ hl h;unfold WP at t;rw[decide_eq_false (by omega:¬2<nz l),Bool.false_or]at t;by_cases e:nz l=0
 ·rw[if_pos e]at t;simp only[Bool.and_eq_true,decide_eq_true_eq]at t;refine⟨?_,λ_=>t.1.1,λq=>absurd e q⟩;unfold GP;rw[if_pos e,t.1.2,t.2];unfold mo;rw[if_neg (λz=>absurd z.1 (by decide))];exact hC
 ·rw[if_neg e]at t;simp only[Bool.and_eq_true,decide_eq_true_eq]at t;refine⟨?_,λq=>absurd q e,λ_=>⟨(Ar l).toNat,by omega,by omega,?_⟩⟩
  ·unfold GP;rw[if_neg e,t.1.2,t.2];rfl
  ·unfold GP;rw[if_neg e]
theorem MX(a b c d:Int):nz [a,b,c,d]=(if a=0 then 0 else 1)+(if b=0 then 0 else 1)+(if c=0 then 0 else 1)+(if d=0 then 0 else 1):=by
 rw[C2,C2,C2,C2];have:nz []=0:=rfl;omega
theorem C9{l:List Int}(hl:l.length=4):nz (Dv l)=nz l:=by
 obtain⟨a,b,c,d,rfl⟩:=C0 hl;show nz [-a, -b, -c, -d]=_;rw[MX,MX];have h:∀x:Int,(if -x=0 then 0 else 1:Nat)=if x=0 then 0 else 1:=λx=>by
  by_cases e:x=0
  ·rw[if_pos e,if_pos (by omega)]
  ·rw[if_neg e,if_neg (by omega)]
 rw[h,h,h,h]
theorem V3{l:List Int}(hl:l.length=4)(h:nz l=0):∀i,i<4->AK l i=0:=by
 obtain⟨a,b,c,d,rfl⟩:=C0 hl;rw[MX]at h;intro i hi;have z:∀x:Int,(if x=0 then 0 else 1:Nat)=0->x=0:=λx hx=>by
  by_cases e:x=0
  ·exact e
  ·rw[if_neg e]at hx;cases hx
 rcases(show i=0\/i=1\/i=2\/i=3 by omega)with rfl|rfl|rfl|rfl
 ·exact z a (by omega)
 ·exact z b (by omega)
 ·exact z c (by omega)
 ·exact z d (by omega)
theorem Ya:∀j:Nat,j<4->([0,0,0,0]:List Int).set j 0=[0,0,0,0]:=by decide
theorem Pb(C:Nat->Int)(u v:Value)(l:List Int)(hl:l.length=4)(hv:∀i, -1<=AK l i/\AK l i<=1)(h2:nz l<=2)(hC0:C (0*8+1)=0)(hu:AQ w u (Bl C))(hr:AQ w v l):
  Calls Tryz.prog 97 #[u,v] w λe w'=>e=.returned (.int .i64 (GP C l))/\Below w.heap.size w w':=by
 have hmk:∀w,(Instr.makeSlice 32 (.int .i64 4) (.int .i64 4)).run Tryz.prog w=.ok (.slice (some ⟨w.heap.size,0,none⟩) 4 4) (w.alloc (.cells #[.int .i64 0,.int .i64 0,.int .i64 0,.int .i64 0] tNk)):=λ_=>by kernel_rfl
 obtain⟨_,hz,hnz⟩:=Gp hC0 hl hv h2;have hn:=Fd v l hl hr (λi _=>by have:=hv i;omega);have hbl:(Bl C).length=32:=by simp[Bl]
 have HL:Hid (l.length=4):=hl;obtain⟨bu,cu,rfl, -,h0u⟩:=hu;obtain⟨q,ofq,rfl,hq,hcq⟩:=h0u (by omega);obtain⟨au,ca,rfl, -,h0⟩:=id hr;obtain⟨p,off,rfl,hp,hcell⟩:=h0 (by omega);have HC:Hid (∀i,i<4->w.cell? ⟨p,off+i,none⟩=some (.int .i64 (AK l i))):=λi hi=>hcell i (by omega);have HCq:Hid (∀i,i<32->w.cell? ⟨q,ofq+i,none⟩=some (.int .i64 (bd C i))):=λi hi=>by rw[hcq i (by omega)];exact congrArg (λz=>some (Value.int .i64 z)) (Gh C i hi)
 rw[hbl];rw[hl]at hn|-;clear h0 h0u hcell hcq hr;by_cases e:nz l=0
 ·have HE:Hid (GP C l=0):=if_pos e;rw[hz e]at hn;have HZ:Hid (∀i,i<4->w.cell? ⟨p,off+i,none⟩=some (.int .i64 0)):=λi hi=>by rw[HC.out i hi,V3 HL.out e i hi]
  clear hz hnz hC0 e HCq HC;go_enter Tryz.func97,Tryz.ntmps97;go_wp2_with fail;refine hn.mono ?_;rintro e w1 ⟨rfl,hb1⟩;have HB1:Hid (Below w.heap.size w w1):=hb1;have hs1:=hb1.size;have HA:Hid (At (w1.alloc (.cells #[.int .i64 0,.int .i64 0,.int .i64 0,.int .i64 0] tNk)) w1.heap.size (ic [0,0,0,0]) tNk/\Below w.heap.size w (w1.alloc (.cells #[.int .i64 0,.int .i64 0,.int .i64 0,.int .i64 0] tNk))):=⟨At.new _ _ _,hb1.alloc hb1.size _⟩
  clear hb1 hn;go_wp2_with fail;go_loopw [7,8] (λzv iv wr=>∃(j:Nat),j<=4/\iv=.int .i64 j/\zv=.bool true/\Hid (At wr w1.heap.size (ic [0,0,0,0]) tNk/\Below w.heap.size w wr)) (λ_ iv _=>4-(intOf iv).toNat);case atStart=>exact⟨0,by omega,rfl,rfl,HA.out⟩
  case round=>
   obtain⟨j,hj,rfl,rfl,HR⟩:=hrel;by_cases hlt:j<4
   ·have hji:(j:Int)<4:=by omega
    have ca:wr.cell? ⟨p,off+j,none⟩=some (.int .i64 0):=(HR.out.2.cell (p:=⟨p,off+j,none⟩) hp).trans (HZ.out j hlt);have cb:wr.cell? ⟨w1.heap.size,j,none⟩=some (.int .i64 0):=by
     rw[HR.out.1.cell,Aa _ _ (by exact hlt)];rcases(show j=0\/j=1\/j=2\/j=3 by omega)with rfl|rfl|rfl|rfl<;>rfl
    have cf:=HR.out.1.free;have hbl:=HR.out.1.lt;have ne1:p≠w1.heap.size:=by omega
    go_wp2_with fail;go_roundw;case rel=>
     refine⟨j+1,by omega,by go_num,rfl,?_,HR.out.2.setCell hs1 _⟩;have:=HR.out.1.put j (.int .i64 0);rw[Be,Ya j hlt]at this;exact this
    case measure=>simp[intOf];omega
   ·have hj4:j=4:=by omega
    subst hj4;go_wp2_with fail;go_ret;exact⟨by rw[HE.out];rfl,HR.out.2⟩
 ·obtain⟨f,hf,hnf,hg⟩:=hnz e;rw[hnf]at hn;have HE:Hid (GP C l=bd C f):=hg;have hfi:(f:Int)<32:=by omega
  have HCf:Hid (w.cell? ⟨q,ofq+f,none⟩=some (.int .i64 (bd C f))):=HCq.out f hf;clear hz hnz hg hnf hC0 e;generalize bd C f=g at *;go_enter Tryz.func97,Tryz.ntmps97;go_wp2_with fail;refine hn.mono ?_;rintro e w1 ⟨rfl,hb1⟩;have cq:w1.cell? ⟨q,ofq+f,none⟩=some (.int .i64 g):=(hb1.cell (p:=⟨q,ofq+f,none⟩) hq).trans HCf.out;have HB1:Hid (Below w.heap.size w w1):=hb1;clear hb1 hn;go_wp2_with fail;go_ret;exact⟨by rw[HE.out];rfl,HB1.out⟩
theorem Ip(c:Int)(w:World)(h0:0<=c)(h1:c<=255):
  Calls Tryz.prog 123 #[.int .u8 c] w λe w'=>e=.returned (.int .i64 (CJ c))/\w'=w:=by
 unfold CJ;by_cases ha:97<=c
 ·by_cases hb:c<=100
  ·go_enter Tryz.func123,Tryz.ntmps123;go_wp2;go_ret;exact⟨rfl,rfl⟩
  ·go_enter Tryz.func123,Tryz.ntmps123;go_wp2;go_ret;exact⟨rfl,rfl⟩
 ·go_enter Tryz.func123,Tryz.ntmps123;go_wp2;go_ret;exact⟨rfl,rfl⟩
theorem V0(r g p:Nat)(n cap:Nat)(w:World)(hn:0<n)(hcap:n<=20)
  (hs:w.cell? ⟨r,1,none⟩=some (.slice (some ⟨g,0,none⟩) n cap))
  (hp:w.cell? ⟨g,n-1,none⟩=some (.pointer (some ⟨p,0,none⟩))):
  Calls Tryz.prog 126 #[.pointer (some ⟨r,0,none⟩)] w λe w'=>e=.returned (.pointer (some ⟨p,0,none⟩))/\∃k,w'=w.drewN k:=by
 go_enter Tryz.func126,Tryz.ntmps126;go_wp2;go_quiet (fail);go_wp2;go_ret;exact⟨rfl,_,rfl⟩
end Go.Proofs.YtffajooegiempaaGreatDoor
