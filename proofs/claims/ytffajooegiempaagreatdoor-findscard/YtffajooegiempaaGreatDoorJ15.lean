import Derived.Test.YtffajooegiempaaGreatDoorJ14
import Derived.Deep.RegionWith
set_option maxRecDepth 100000
set_option maxHeartbeats 6400000
namespace Go.Proofs.YtffajooegiempaaGreatDoor
open Go.RowKit
variable {w:World}
def rl (R:Nat->Int):List Int:=(List.range 32).map R
theorem rl_len (R:Nat->Int):(rl R).length=32:=by simp [rl]
theorem rl_get (R:Nat->Int) {i:Nat} (h:i < 32):(rl R).getD i 0=R i:=by simp [rl,List.getD,h]
theorem rl_set (R:Nat->Int) {n:Nat} (c:Int):(rl R).set n c=rl (upd R n c):=by
 refine List.ext_getElem (by simp [rl]) fun i h1 h2=>?_
 rw [List.getElem_set]
 simp only [rl,List.getElem_map,List.getElem_range]
 unfold upd
 by_cases e:n=i
 ·rw [if_pos e,if_pos e.symm]
 ·rw [if_neg e,if_neg (fun z=>e z.symm)]
theorem rl_cell {p:Nat} {R:Nat->Int} {t:TypeId} (h:At w p (ic (rl R)) t) {i:Nat} (hi:i < 32):w.cell? ⟨p,i,none⟩=some (.int .i64 (R i)):=by
 rw [h.cell,ic_get _ _ (by rw [rl_len]; exact hi),rl_get R hi]
theorem rF_none {R:Nat->Int} {n:Nat} (h:rF R n=none):∀ k,rF R (n+k)=none
 | 0=>h
 | k+1=>by
  show (match rF R (n+k) with | none=>none | some (R',b)=>rs1 R' b ((n+k) / 32) ((n+k) % 32))=none
  rw [rF_none h k]
theorem rF_succ {R R':Nat->Int} {b:Bool} {f g:Nat} (hg:g < 32) (h:rF R (f*32+g)=some (R',b)):rF R (f*32+g+1)=rs1 R' b f g:=by
 rw [rF,h]
 show rs1 R' b ((f*32+g) / 32) ((f*32+g) % 32)=_
 rw [show (f*32+g) / 32=f by omega,show (f*32+g) % 32=g by omega]
theorem fol_rng {f g:Nat} (hf:f < 32) (hg:g < 32) (c:Int):(folV (vadd f g) c).1=-2 \/ (folV (vadd f g) c).1=-1 \/ ∃ m:Nat,m < 32/\(folV (vadd f g) c).1=(m:Int):=by
 by_cases k1:kdT f g=1
 ·by_cases e:c < 0
  ·rw [(fol1 k1).1 e]; exact .inl rfl
  ·rw [(fol1 k1).2 e]; exact .inr (.inl rfl)
 ·by_cases k2:kdT f g=2
  ·rw [fol2 hf hg k2]; exact .inr (.inr ⟨_,nm_lt hf hg (.inl k2),rfl⟩)
  ·by_cases k3:kdT f g=3
   ·rw [fol3 hf hg k3]; exact .inr (.inr ⟨_,nm_lt hf hg (.inr k3),rfl⟩)
   ·rw [fol0 k1 k2 k3]; exact .inr (.inl rfl)
def preA (a b:List Int):Nat->List Int
 | 0=>a
 | j+1=>(preA a b j).set j (gAt a j+gAt b j)
theorem frm_len:∀ f:Nat,f < 32->(frm f).length=4:=by decide
theorem frm_sgn:∀ f:Nat,f < 32->∀ i,i < 4->-1<=gAt (frm f) i/\gAt (frm f) i<=1:=by decide
theorem preA_4 {f g:Nat} (hf:f < 32):preA (frm f) (frm g) 4=vadd f g:=by
 obtain ⟨a,b,c,d,e⟩:=four_of (frm_len f hf)
 unfold vadd
 rw [e]
 rfl
theorem preA_at {a b:List Int} (h:a.length=4) {j:Nat} (hj:j < 4):(preA a b j).length=4/\(preA a b j).getD j 0=gAt a j:=by
 obtain ⟨x,y,z,t,rfl⟩:=four_of h
 rcases (show j=0 \/ j=1 \/ j=2 \/ j=3 by omega) with rfl | rfl | rfl | rfl <;> exact ⟨rfl,rfl⟩
theorem r_form (f:Nat) (hf:f < 32):Calls Tryz.prog 96 #[.int .i64 (f:Int)] w fun e w'=>e=.returned (.slice (some ⟨w.heap.size,0,none⟩) 4 4)/\Hid (At w' w.heap.size (ic (frm f)) tNk/\Below w.heap.size w w'):=by
 by_cases h8:f < 8
 ·exact k_form_lo f h8
 ·exact k_form_hi f hf (by omega)
theorem vadd_ok:∀ f:Nat,f < 32->∀ g,g < 32->∀ i,i < 4->-2<=gAt (vadd f g) i/\gAt (vadd f g) i<=2:=by decide +kernel
def RPost (p:Nat) (w:World) (R:Nat->Int) (e:Ending) (w':World):Prop :=
 Onl p w w'/\match rnd R with
  | none=>e=.returned (.tuple #[.bool false,.bool false])
  | some (R',b)=>e=.returned (.tuple #[.bool true,.bool b])/\At w' p (ic (rl R')) tNk
theorem RPost.no {p:Nat} {w w':World} {R:Nat->Int} {e:Ending} {k:Nat} (hk:k<=1024) (h:rF R k=none) (ho:Onl p w w') (he:e=.returned (.tuple #[.bool false,.bool false])):RPost p w R e w':=by
 have:rnd R=none:=by
  have:=rF_none h (1024 - k)
  rw [show k+(1024 - k)=1024 by omega] at this
  exact this
 unfold RPost
 rw [this]
 exact ⟨ho,he⟩
theorem RPost.yes {p:Nat} {w w':World} {R R':Nat->Int} {b:Bool} {e:Ending} (h:rF R 1024=some (R',b)) (ho:Onl p w w') (he:e=.returned (.tuple #[.bool true,.bool b])) (ha:At w' p (ic (rl R')) tNk):RPost p w R e w':=by
 unfold RPost
 rw [show rnd R=some (R',b) from h]
 exact ⟨ho,he,ha⟩
theorem r_round (p:Nat) (R:Nat->Int) (h:At w p (ic (rl R)) tNk) (hN:Nov R) :
  Calls Tryz.prog 95 #[.slice (some ⟨p,0,none⟩) 32 32] w (RPost p w R):=by
 have HA0:Hid (At w p (ic (rl R)) tNk):=h
 have HN:Hid (Nov R):=hN
 clear h hN
 go_enter Tryz.func95,Tryz.ntmps95
 go_wp2_with fail
 go_loopw [4,5] (fun mv fv wr=>∃ (f:Nat) (b:Bool) (R':Nat->Int),f<=32/\fv=.int .i64 f/\mv=.bool b/\Hid (rF R (f*32)=some (R',b)/\At wr p (ic (rl R')) tNk/\Onl p w wr)) (fun _ fv _=>32 - (intOf fv).toNat)
 case atStart=>exact ⟨0,false,R,by omega,rfl,rfl,rfl,HA0.out,Onl.refl _ _⟩
 case round =>
  obtain ⟨f,b0,R0,hf,rfl,rfl,HR⟩:=hrel
  by_cases hlt:f < 32
  ·have hfi:(f:Int) < 32:=by omega
   obtain ⟨w4,rfl⟩:∃ w4,w4=wr:=⟨_,rfl⟩
   go_wp2_with fail
   go_loopw [4,6] (fun mv gv wr=>∃ (g:Nat) (b:Bool) (R':Nat->Int),g<=32/\gv=.int .i64 g/\mv=.bool b/\Hid (rF R (f*32+g)=some (R',b)/\At wr p (ic (rl R')) tNk/\Onl p w wr)) (fun _ gv _=>32 - (intOf gv).toNat)
   case atStart=>exact ⟨0,b0,R0,by omega,rfl,rfl,HR.out⟩
   case round =>
    obtain ⟨g,b,R',hg,rfl,rfl,HQ⟩:=hrel
    clear HR
    by_cases hlg:g < 32
    ·have hgi:(g:Int) < 32:=by omega
     obtain ⟨w5,rfl⟩:∃ w5,w5=wr:=⟨_,rfl⟩
     have cx:=rl_cell HQ.out.2.1 hlt
     have cy:=rl_cell HQ.out.2.1 hlg
     have hxb:=HN.out (f*32+g) (by omega) R' b HQ.out.1 f hlt
     have hyb:=HN.out (f*32+g) (by omega) R' b HQ.out.1 g hlg
     have HS:Hid (rF R (f*32+g+1)=rs1 R' b f g):=rF_succ hlg HQ.out.1
     have HS1:Hid (rs1 R' b f g=if R' f=NB \/ R' g=NB then some (R',b) else if (folV (vadd f g) (R' f+R' g)).1=-2 then none else if 0<=(folV (vadd f g) (R' f+R' g)).1/\(folV (vadd f g) (R' f+R' g)).2 < R' (folV (vadd f g) (R' f+R' g)).1.toNat then some (upd R' (folV (vadd f g) (R' f+R' g)).1.toNat (folV (vadd f g) (R' f+R' g)).2,true) else some (R',b)):=rfl
     have HFw:Hid (∀ (w1:World) (B:Nat),At w1 B (ic (vadd f g)) tNk->Calls Tryz.prog 129 #[.slice (some ⟨B,0,none⟩) 4 4,.int .i64 (R' f+R' g)] w1 fun e w'=>e=.returned (.tuple #[.int .i64 (folV (vadd f g) (R' f+R' g)).1,.int .i64 (folV (vadd f g) (R' f+R' g)).2])/\Below w1.heap.size w1 w'):=fun w1 B h1=>r_follow _ _ rfl (Reads.at_ h1 rfl (Nat.le_refl _) (fun i hi=>ic_get _ _ hi)) (vadd_ok f hlt g hlg) _ ⟨by omega,by omega⟩
     have HRg:Hid (_ \/ _):=fol_rng hlt hlg (R' f+R' g)
     obtain ⟨x,hx⟩:∃ x,x=R' f:=⟨_,rfl⟩
     obtain ⟨y,hy⟩:∃ y,y=R' g:=⟨_,rfl⟩
     have HXY:Hid (x=R' f/\y=R' g):=⟨hx,hy⟩
     rw [<- hx] at cx hxb HS1 HFw HRg
     rw [<- hy] at cy hyb HS1 HFw HRg
     clear hx hy
     by_cases ex:x=NB
     ·have b1:(x == 1000000)=true:=by rw [ex]; rfl
      have HE:Hid (rs1 R' b f g=some (R',b)):=HS1.out.trans (if_pos (.inl ex))
      clear HS1 ex
      go_wp2_with fail
      go_roundw
      case rel=>exact ⟨g+1,b,R',by omega,by go_num,rfl,by rw [<- Nat.add_assoc]; exact HS.out.trans HE.out,HQ.out.2.1,HQ.out.2.2⟩
      case measure=>simp [intOf]; omega
     ·have b1:(x == 1000000)=false:=by rw [beq_eq_false_iff_ne]; exact ex
      by_cases ey:y=NB
      ·have b2:(y == 1000000)=true:=by rw [ey]; rfl
       have HE:Hid (rs1 R' b f g=some (R',b)):=HS1.out.trans (if_pos (.inr ey))
       clear HS1 ex ey
       go_wp2_with fail
       go_roundw
       case rel=>exact ⟨g+1,b,R',by omega,by go_num,rfl,by rw [<- Nat.add_assoc]; exact HS.out.trans HE.out,HQ.out.2.1,HQ.out.2.2⟩
       case measure=>simp [intOf]; omega
      ·have b2:(y == 1000000)=false:=by rw [beq_eq_false_iff_ne]; exact ey
       have HE:Hid (rs1 R' b f g=_):=HS1.out.trans (if_neg (fun z=>z.elim ex ey))
       have hfo:=r_form (w:=w5) f hlt
       clear HS1 ex ey
       go_wp2_with fail
       refine hfo.mono ?_
       rintro e w6 ⟨rfl,H6⟩
       have hgo:=r_form (w:=w6) g hlg
       go_wp2_with fail
       refine hgo.mono ?_
       rintro e w7 ⟨rfl,H7⟩
       have hp5:p < w5.heap.size:=HQ.out.2.1.lt
       have hw5:w.heap.size<=w5.heap.size:=HQ.out.2.2.size
       have hs6:w5.heap.size < w6.heap.size:=H6.out.1.lt
       have hs7:w6.heap.size < w7.heap.size:=H7.out.1.lt
       have HA7:Hid (At w7 w5.heap.size (ic (preA (frm f) (frm g) 0)) tNk/\At w7 w6.heap.size (ic (frm g)) tNk/\At w7 p (ic (rl R')) tNk/\Onl p w w7/\w6.heap.size < w7.heap.size):=⟨H6.out.1.keep H7.out.2 hs6,H7.out.1,(HQ.out.2.1.keep H6.out.2 hp5).keep H7.out.2 (by omega),(HQ.out.2.2.trans (Onl.of H6.out.2 p)).trans (Onl.of H7.out.2 p),hs7⟩
       have HPa:Hid (preA (frm f) (frm g) 4=vadd f g/\(frm f).length=4/\(frm g).length=4):=⟨preA_4 hlt,frm_len f hlt,frm_len g hlg⟩
       have HFb:Hid (∀ i,i < 4->(-1<=gAt (frm f) i/\gAt (frm f) i<=1)/\(-1<=gAt (frm g) i/\gAt (frm g) i<=1)):=fun i hi=>⟨frm_sgn f hlt i hi,frm_sgn g hlg i hi⟩
       generalize frm f=vf at *
       generalize frm g=vg at *
       generalize w5.heap.size=B1 at *
       generalize w6.heap.size=B2 at *
       clear hfo hgo H6 H7
       go_wp2_with fail
       go_loopw [9] (fun i wx=>∃ (j:Nat),j<=4/\i=.int .i64 j/\Hid (At wx B1 (ic (preA vf vg j)) tNk/\At wx B2 (ic vg) tNk/\At wx p (ic (rl R')) tNk/\Onl p w wx/\B2 < wx.heap.size)) (fun i _=>4 - (intOf i).toNat)
       case atStart=>exact ⟨0,by omega,rfl,HA7.out⟩
       case round =>
        obtain ⟨j,hj,rfl,HT⟩:=hrel
        by_cases hlj:j < 4
        ·have hji:(j:Int) < 4:=by omega
         obtain ⟨w8,rfl⟩:∃ w8,w8=wr:=⟨_,rfl⟩
         have ca:w8.cell? ⟨B1,j,none⟩=some (.int .i64 (gAt vf j)):=by
          have q:=preA_at (b:=vg) HPa.out.2.1 hlj
          rw [HT.out.1.cell,ic_get _ _ (by omega),q.2]
         have cb:w8.cell? ⟨B2,j,none⟩=some (.int .i64 (gAt vg j)):=by
          rw [HT.out.2.1.cell,ic_get _ _ (by rw [HPa.out.2.2]; exact hlj)]; rfl
         have cf:=HT.out.1.free
         have hl1:=HT.out.1.lt
         have hl2:=HT.out.2.1.lt
         have hr:=HFb.out j hlj
         have HP:Hid (preA vf vg (j+1)=(preA vf vg j).set j (gAt vf j+gAt vg j)):=rfl
         have hB1p:B1 ≠ p:=by omega
         have hB1q:B1 ≠ B2:=by omega
         generalize gAt vf j=a at *
         generalize gAt vg j=c at *
         go_wp2_with fail
         go_region
         all_goals
          go_wp2_with fail
          go_roundw
          case rel =>
           refine ⟨j+1,by omega,by go_num,?_,?_,?_,?_,?_⟩
           ·rw [HP.out,<- ic_set]
            exact At.drewN (HT.out.1.put j _) 1
           ·exact At.drewN (HT.out.2.1.other _ _ (fun z=>hB1q z.symm)) 1
           ·exact At.drewN (HT.out.2.2.1.other _ _ (fun z=>hB1p z.symm)) 1
           ·exact (HT.out.2.2.2.1.own (.inr (by omega)) _ _).drewN 1
           ·have:=HT.out.2.2.2.2
            simpa [World.setCell] using this
          case measure=>simp [intOf]; omega
        ·have hj4:j=4:=by omega
         subst hj4
         obtain ⟨w8,rfl⟩:∃ w8,w8=wr:=⟨_,rfl⟩
         have cx8:=rl_cell HT.out.2.2.1 hlt
         have cy8:=rl_cell HT.out.2.2.1 hlg
         rw [<- HXY.out.1] at cx8
         rw [<- HXY.out.2] at cy8
         have HA8:Hid (At w8 B1 (ic (vadd f g)) tNk):=by
          show At w8 B1 (ic (vadd f g)) tNk
          rw [<- HPa.out.1]; exact HT.out.1
         have hw8:p < w8.heap.size:=HT.out.2.2.1.lt
         have HO8:Hid (Onl p w w8/\At w8 p (ic (rl R')) tNk):=⟨HT.out.2.2.2.1,HT.out.2.2.1⟩
         generalize folV (vadd f g) (x+y)=fv at *
         obtain ⟨n,c⟩:=fv
         simp only at HE HFw HRg
         have HFd:=HFw.out w8.drew B1 HA8.out
         have hsum:IntKind.i64.wrap (x+y)=x+y:=by rw [IntKind.wrap_i64]; omega
         clear HFw HA8 HT HPa HFb HA7 HQ HXY hs6 hs7 hp5 hw5 cx cy
         rcases HRg.out with e | e | ⟨m,hm,e⟩
         ·subst e
          have HE2:Hid (rs1 R' b f g=none):=HE.out.trans (if_pos rfl)
          clear HE
          go_wp2_with fail
          go_region_with (go_at_call 129; refine HFd.mono ?_; rintro e w9 ⟨rfl,hb9⟩)
          all_goals
           have HA9:Hid (At w9 p (ic (rl R')) tNk):=At.keep (w:=w8.drewN 1) HO8.out.2 hb9 hw8
           have HO9:Hid (Onl p w w9):=(HO8.out.1.drewN 1).trans (Onl.of hb9 p)
           clear hb9
           go_wp2_with fail
           go_ret2
           exact RPost.no (k:=f*32+g+1) (by omega) (HS.out.trans HE2.out) HO9.out rfl
         ·subst e
          have HE2:Hid (rs1 R' b f g=some (R',b)):=HE.out.trans ((if_neg (by decide)).trans (if_neg (fun z=>absurd z.1 (by decide))))
          clear HE
          go_wp2_with fail
          go_region_with (go_at_call 129; refine HFd.mono ?_; rintro e w9 ⟨rfl,hb9⟩)
          all_goals
           have HA9:Hid (At w9 p (ic (rl R')) tNk):=At.keep (w:=w8.drewN 1) HO8.out.2 hb9 hw8
           have HO9:Hid (Onl p w w9):=(HO8.out.1.drewN 1).trans (Onl.of hb9 p)
           clear hb9
           go_wp2_with fail
           go_roundw
           case rel=>exact ⟨g+1,b,R',by omega,by go_num,rfl,by rw [<- Nat.add_assoc]; exact HS.out.trans HE2.out,HA9.out,HO9.out⟩
           case measure=>simp [intOf]; omega
         ·subst e
          have hm0:((m:Int) == -2)=false:=by rw [beq_eq_false_iff_ne]; omega
          have hmi:(m:Int) < 32:=by omega
          by_cases hc:c < R' m
          ·have HE2:Hid (rs1 R' b f g=some (upd R' m c,true)):=HE.out.trans ((if_neg (by omega)).trans ((if_pos ⟨by omega,by rw [Int.toNat_natCast]; exact hc⟩).trans (by rw [Int.toNat_natCast])))
           clear HE
           go_wp2_with fail
           go_region_with (go_at_call 129; refine HFd.mono ?_; rintro e w9 ⟨rfl,hb9⟩)
           all_goals
            have HA9:Hid (At w9 p (ic (rl R')) tNk):=At.keep (w:=w8.drewN 1) HO8.out.2 hb9 hw8
            have HO9:Hid (Onl p w w9):=(HO8.out.1.drewN 1).trans (Onl.of hb9 p)
            clear hb9
            have cm:=rl_cell HA9.out hm
            have cf9:=HA9.out.free
            have hl9:=HA9.out.lt
            go_wp2_with fail
            go_roundw
            case rel =>
             refine ⟨g+1,true,upd R' m c,by omega,by go_num,rfl,by rw [<- Nat.add_assoc]; exact HS.out.trans HE2.out,?_,HO9.out.setCell _ _⟩
             rw [<- rl_set,<- ic_set]
             exact HA9.out.put m _
            case measure=>simp [intOf]; omega
          ·have HE2:Hid (rs1 R' b f g=some (R',b)):=HE.out.trans ((if_neg (by omega)).trans (if_neg (fun z=>by rw [Int.toNat_natCast] at z; exact hc z.2)))
           clear HE
           go_wp2_with fail
           go_region_with (go_at_call 129; refine HFd.mono ?_; rintro e w9 ⟨rfl,hb9⟩)
           all_goals
            have HA9:Hid (At w9 p (ic (rl R')) tNk):=At.keep (w:=w8.drewN 1) HO8.out.2 hb9 hw8
            have HO9:Hid (Onl p w w9):=(HO8.out.1.drewN 1).trans (Onl.of hb9 p)
            clear hb9
            have cm:=rl_cell HA9.out hm
            go_wp2_with fail
            go_roundw
            case rel=>exact ⟨g+1,b,R',by omega,by go_num,rfl,by rw [<- Nat.add_assoc]; exact HS.out.trans HE2.out,HA9.out,HO9.out⟩
            case measure=>simp [intOf]; omega
    ·have hg32:g=32:=by omega
     subst hg32
     go_wp2_with fail
     go_roundw
     case rel=>exact ⟨f+1,b,R',by omega,by go_num,rfl,by rw [show (f+1)*32=f*32+32 by omega]; exact HQ.out.1,HQ.out.2⟩
     case measure=>simp [intOf]; omega
  ·have hf32:f=32:=by omega
   subst hf32
   go_wp2_with fail
   go_ret2
   exact RPost.yes HR.out.1 HR.out.2.2 rfl HR.out.2.1
end Go.Proofs.YtffajooegiempaaGreatDoor



namespace Go.Proofs.YtffajooegiempaaGreatDoor
open Go.RowKit
abbrev tN:TypeId:=3
end Go.Proofs.YtffajooegiempaaGreatDoor

namespace Go.Proofs.YtffajooegiempaaGreatDoor
open Go.RowKit
end Go.Proofs.YtffajooegiempaaGreatDoor

namespace Go.Proofs.YtffajooegiempaaGreatDoor
open Go.RowKit
variable {w:World}
def smF (R:Nat->Int):Nat->Int
 | 0=>0
 | k+1=>smF R k+R k
def ci (w:World) (p i:Nat):Int:=match w.cell? ⟨p,i,none⟩ with
 | some (.int _ x)=>x
 | _=>0
theorem smF_congr {R S:Nat->Int}:∀ n,(∀ f,f < n->R f=S f)->smF R n=smF S n
 | 0,_=>rfl
 | n+1,h=>by rw [smF,smF,smF_congr n (fun f hf=>h f (by omega)),h n (by omega)]
theorem smF_le {R S:Nat->Int}:∀ n,(∀ f,f < n->R f<=S f)->smF R n<=smF S n
 | 0,_=>Int.le_refl _
 | n+1,h=>by
  have a:=smF_le n (fun f hf=>h f (by omega))
  have b:=h n (by omega)
  rw [smF,smF]
  omega
theorem smF_lt {R S:Nat->Int}:∀ n,(∀ f,f < n->R f<=S f)->(∃ f,f < n/\R f < S f)->smF R n < smF S n
 | 0,_,⟨f,hf,_⟩=>absurd hf (by omega)
 | n+1,h,⟨f,hf,q⟩=>by
  have b:=h n (by omega)
  rw [smF,smF]
  by_cases e:f=n
  ·subst e
   have a:=smF_le f (fun g hg=>h g (by omega))
   omega
  ·have a:=smF_lt n (fun f hf=>h f (by omega)) ⟨f,by omega,q⟩
   omega
theorem smF_lo {R:Nat->Int} {L:Int}:∀ n:Nat,(∀ f,f < n->-L<=R f)->-(L*n)<=smF R n
 | 0,_=>by show -(L*0)<=(0:Int); omega
 | n+1,h=>by
  have a:=smF_lo n (fun f hf=>h f (by omega))
  have b:=h n (by omega)
  rw [smF,show ((n+1:Nat):Int)=(n:Int)+1 from rfl,Int.mul_add,Int.mul_one]
  omega
theorem ci_at {p:Nat} {R:Nat->Int} (h:At w p (ic (rl R)) tNk):smF (ci w p) 32=smF R 32 :=
 smF_congr 32 fun f hf=>by unfold ci; rw [rl_cell h hf]
def meas (p:Nat) (w:World):Nat:=(smF (ci w p) 32+100000000000000000000).toNat
theorem meas_lt {p:Nat} {w w':World} {R R':Nat->Int} {b:Bool} (h:At w p (ic (rl R)) tNk) (h':At w' p (ic (rl R')) tNk) (hN:Nov R) (hN':Nov R') (hr:rnd R=some (R',b)) (hb:b=true):meas p w' < meas p w:=by
 have hi:∀ f,f < 32->R f<=NB:=fun f hf=>(hN 0 (by omega) R false rfl f hf).2
 have I:=rF_inv hi 1024 (Nat.le_refl _) R' b hr
 have s:=smF_lt 32 I.le (I.more hb)
 have l:=smF_lo (L:=2000000000000000000) 32 (fun f hf=>(hN' 0 (by omega) R' false rfl f hf).1)
 unfold meas
 rw [ci_at h,ci_at h']
 omega
def CPost (w:World) (R0:Nat->Int) (e:Ending) (w':World):Prop :=
 Below w.heap.size w w'/\((e=.returned (.slice none 0 0)/\∃ n,itF R0 n=none) \/
  ∃ g n R R',e=.returned (.slice (some ⟨g,0,none⟩) 32 32)/\w.heap.size<=g/\At w' g (ic (rl R')) tNk/\itF R0 n=some R/\rnd R=some (R',false))
theorem rl_list {l:List Int} (h:l.length=32):rl (fun f=>l.getD f 0)=l:=by
 refine List.ext_getElem (by rw [rl_len,h]) fun i h1 h2=>?_
 simp [rl,List.getD,h2]
theorem r_closed (u:Value) (l:List Int) (hl:l.length=32) (hu:Reads w u l) (hnov:∀ n R,itF (fun f=>l.getD f 0) n=some R->Nov R) :
  Calls Tryz.prog 59 #[u] w (CPost w fun f=>l.getD f 0):=by
 have hmk:∀ w,(Instr.makeSlice 32 (.int .i64 32) (.int .i64 32)).run Tryz.prog w=.ok (.slice (some ⟨w.heap.size,0,none⟩) 32 32) (w.alloc (.cells (List.replicate 32 (Value.int .i64 0)).toArray tNk)):=fun _=>by kernel_rfl
 obtain ⟨ao,cap,rfl,hcap,h0⟩:=hu
 obtain ⟨b,off,rfl,hlt,hc⟩:=h0 (by omega)
 obtain ⟨cur,hcur⟩:∃ cur,cur=List.replicate 32 (Value.int .i64 0):=⟨_,rfl⟩
 have HBe:Hid (Below w.heap.size w (w.alloc (.cells cur.toArray tNk))):=(Below.refl _ _).alloc (Nat.le_refl _) _
 have HAl:Hid (At (w.alloc (.cells cur.toArray tNk)) w.heap.size cur.toArray tNk):=At.new _ _ _
 have hcl:cur.length=32:=by rw [hcur]; simp
 rw [<- hcur] at hmk
 obtain ⟨w1,hcp,hat,hb1⟩:∃ w1,(Builtin.copy_ #[32,32] tNk #[.slice (some ⟨w.heap.size,0,none⟩) 32 32,.slice (some ⟨b,off,none⟩) 32 cap]).run Tryz.prog (w.alloc (.cells cur.toArray tNk))=.ok (.int .i64 32) w1/\At w1 w.heap.size (ic l) tNk/\Below w.heap.size w w1:=by
  have hml:(l.map (Value.int .i64)).length=32:=by rw [List.length_map]; exact hl
  have:=run_copy_row (P:=Tryz.prog) (w.alloc (.cells cur.toArray tNk)) 32 32 tNk tNk w.heap.size 0 32 32 ⟨b,off,none⟩ 32 cap cur.toArray tNk (l.map (Value.int .i64)) Tryz.underlying32 (by kernel_rfl) HAl.out (by rw [hml]; simp) (by
   intro j v hj
   have hjl:j < 32:=by
    rcases Nat.lt_or_ge j 32 with h' | h'
    ·exact h'
    ·rw [List.getElem?_eq_none (by omega)] at hj; cases hj
   have e1:(⟨b,off,none⟩:Addr).add j=⟨b,off+j,none⟩:=by unfold Addr.add; split <;> simp_all
   rw [e1,HBe.out.cell (by exact hlt)]
   have:=hc j (by omega)
   simp [List.getElem?_map,List.getElem?_eq_getElem (show j < l.length by omega)] at hj
   rw [<- hj]
   simpa [List.getD,show j < l.length by omega] using this) (by simp only [List.size_toArray]; omega) (by
   intro u hu
   obtain ⟨x,_,rfl⟩:=List.mem_map.1 hu
   rfl)
  have e2:goInt (l.map (Value.int .i64)).length=.int .i64 32:=by rw [hml]; rfl
  rw [e2] at this
  refine ⟨_,this,?_,below_setRow HBe.out (Nat.le_refl _) _⟩
  have h2:=setRow_heap (w.alloc (.cells cur.toArray tNk)) w.heap.size cur.toArray (cur.toArray.toList.take 0 ++ l.map (Value.int .i64) ++ cur.toArray.toList.drop (0+(l.map (Value.int .i64)).length)).toArray tNk (0,0) HAl.out
  have e3:(cur.toArray.toList.take 0 ++ l.map (Value.int .i64) ++ cur.toArray.toList.drop (0+(l.map (Value.int .i64)).length)).toArray=ic l:=by
   rw [hml]
   unfold ic
   rw [List.drop_of_length_le (by simp; omega)]
   simp
  rw [e3] at h2
  unfold At
  rw [<- h2,e3]
 obtain ⟨R0,hR0⟩:∃ R0:Nat->Int,R0=fun f=>l.getD f 0:=⟨_,rfl⟩
 have HA1:Hid (At w1 w.heap.size (ic (rl R0)) tNk/\Below w.heap.size w w1):=⟨by rw [hR0,rl_list hl]; exact hat,hb1⟩
 rw [<- hR0] at hnov |-
 have HN:Hid (∀ n R,itF R0 n=some R->Nov R):=hnov
 rw [hl]
 clear hnov hat hb1 hR0 h0 hc hcap HAl HBe hcl hcur
 go_enter Tryz.func59,Tryz.ntmps59
 go_wp2_with fail
 go_loopw [] (fun wr=>∃ (n:Nat) (R:Nat->Int),Hid (itF R0 n=some R/\At wr w.heap.size (ic (rl R)) tNk/\Below w.heap.size w wr)) (fun wr=>meas w.heap.size wr)
 case atStart=>exact ⟨0,R0,rfl,HA1.out⟩
 case round =>
  obtain ⟨n,R,HR⟩:=hrel
  obtain ⟨w4,rfl⟩:∃ w4,w4=wr:=⟨_,rfl⟩
  have hro:=r_round w.heap.size R HR.out.2.1 (HN.out n R HR.out.1)
  go_wp2_with fail
  refine hro.mono ?_
  rintro e w5 ⟨ho,hm⟩
  have HIt:Hid (itF R0 (n+1)=(rnd R).map fun (x:(Nat->Int) × Bool)=>x.1):=by
   show (match itF R0 n with | none=>none | some R'=>(rnd R').map fun (x:(Nat->Int) × Bool)=>x.1)=_
   rw [HR.out.1]
  have HB5:Hid (Below w.heap.size w w5):=HR.out.2.2.trans (ho.below (Nat.le_refl _) (Nat.le_of_lt HR.out.2.1.lt))
  cases hrn:rnd R with
  | none =>
   rw [hrn] at hm HIt
   obtain rfl:e=_:=hm
   have HI2:Hid (itF R0 (n+1)=none):=HIt.out
   clear HIt hrn ho
   go_wp2_with fail
   go_ret
   exact ⟨HB5.out,.inl ⟨rfl,n+1,HI2.out⟩⟩
  | some x =>
   obtain ⟨R',b'⟩:=x
   rw [hrn] at hm HIt
   obtain ⟨rfl,ha⟩:=hm
   have HI2:Hid (itF R0 (n+1)=some R'):=HIt.out
   have HA5:Hid (At w5 w.heap.size (ic (rl R')) tNk):=ha
   have HRn:Hid (rnd R=some (R',b')):=hrn
   clear HIt hrn ho ha
   cases b' with
   | false =>
    go_wp2_with fail
    go_ret
    exact ⟨HB5.out,.inr ⟨w.heap.size,n,R,R',rfl,Nat.le_refl _,HA5.out,HR.out.1,HRn.out⟩⟩
   | true =>
    go_wp2_with fail
    go_roundw
    case rel=>exact ⟨n+1,R',HI2.out,HA5.out,HB5.out⟩
    case measure=>exact meas_lt HR.out.2.1 HA5.out (HN.out n R HR.out.1) (HN.out (n+1) R' HI2.out) HRn.out rfl
theorem bdL_of {R:Nat->Int} {M:Nat->Int} (h:∀ f,f < 32->R f=bd M f):rl R=bdL M:=by
 unfold rl bdL
 refine List.map_congr_left fun f hf=>h f (by simpa using hf)
theorem r_closed_ok (u:Value) (l:List Int) (hl:okL l) (hu:Reads w u l):Calls Tryz.prog 59 #[u] w (LSays w (ovE l) (ovM l)):=by
 refine (r_closed u l hl.1 hu (fun n R h=>doc_nov hl h)).mono ?_
 rintro e w' ⟨hb,⟨rfl,n,hn⟩ | ⟨g,n,R,R',rfl,hg,ha,h1,h2⟩⟩
 ·refine ⟨hb,.inl ⟨?_,rfl⟩⟩
  cases he:ovE l with
  | true=>rfl
  | false =>
   obtain ⟨R',e,_⟩:=doc_some hl he n
   rw [hn] at e
   cases e
 ·obtain ⟨h3,h4⟩:=doc_done hl h1 h2
  refine ⟨hb,.inr ⟨h3,g,rfl,hg,?_⟩⟩
  rw [<- bdL_of h4]
  exact ha
end Go.Proofs.YtffajooegiempaaGreatDoor

namespace Go.Proofs.YtffajooegiempaaGreatDoor
variable {m m':Rd}
def Gd (s:St):Prop:=0<=s.var/\s.var<=3/\∀ x,x ∈ s.sg->-1<=x/\x<=1
def AllGd (m:Rd):Prop:=∀ s,s ∈ m.st->Gd s
theorem gd_no:Gd noSt:=⟨by decide,by decide,fun x hx=>by simp [noSt] at hx; omega⟩
theorem AllGd.get (h:AllGd m) (k:Nat):Gd (m.st.getD k noSt):=by
 rw [List.getD_eq_getElem?_getD]
 cases e:m.st[k]? with
 | none=>exact gd_no
 | some s=>exact h s (List.mem_of_getElem? e)
theorem AllGd.cur (h:AllGd m):Gd (cur m):=h.get _
theorem AllGd.setC (h:AllGd m) {s:St} (hs:Gd s):AllGd (setCur m s):=fun t ht=>(mem_setCur ht).elim (h t) (fun e=>e ▸ hs)
theorem AllGd.of {m1:Rd} (h:AllGd m1) (e:m'.st=m1.st):AllGd m':=fun s hs=>h s (e ▸ hs)
theorem AllGd.begin_ (h:AllGd m) {k v x:Int} (h0:0<=v) (h3:v<=3) (e:beginStep m k v x=some m'):AllGd m':=by
 unfold beginStep at e
 split at e
 ·cases e
 ·cases e
  intro s hs
  rcases List.mem_append.1 hs with hs | hs
  ·exact h s hs
  ·rw [List.mem_singleton.1 hs]
   exact ⟨h0,h3,fun x hx=>by simp at hx; omega⟩
theorem AllGd.shut (h:AllGd m) (e:shutStep m=some m'):AllGd m':=by
 have hg:=h.get (top m).of_
 simp only [shutStep] at e
 split at e
 ·cases e; exact fun t ht=>(List.mem_or_eq_of_mem_set ht).elim (h t) (fun e=>e ▸ hg)
 ·cases e; exact fun t ht=>(List.mem_or_eq_of_mem_set ht).elim (h t) (fun e=>e ▸ hg)
theorem AllGd.digit (h:AllGd m) {c x:Int} {pos:Bool} (e:digitStep m c pos x=some m'):AllGd m':=by
 obtain ⟨d,u,_,_,rfl⟩:=digit_inv e
 exact (h.setC (s:={ Go.Proofs.YtffajooegiempaaGreatDoor.cur m with num:=10*u+(c - 48) }) h.cur).of rfl
theorem AllGd.signTo (h:AllGd m) (v:Nat) (y x:Int) (hy:-1<=y/\y<=1):AllGd (signTo m v y x):=by
 have hc:=h.cur
 refine (h.setC (s:={ Go.Proofs.YtffajooegiempaaGreatDoor.cur m with sg:=(Go.Proofs.YtffajooegiempaaGreatDoor.cur m).sg.set v y }) ⟨hc.1,hc.2.1,fun z hz=>?_⟩).of rfl
 rcases List.mem_or_eq_of_mem_set hz with hz | hz
 ·exact hc.2.2 z hz
 ·rw [hz]; exact hy
theorem AllGd.plain (h:AllGd m) {c:Int} (e:plainStep m c=some m'):AllGd m':=by
 unfold plainStep at e
 split at e
 ·split at e
  ·cases e; exact h.of rfl
  ·cases e
 ·split at e
  ·cases e
  ·cases e; exact h.of rfl
theorem AllGd.value (h:AllGd m) (ok:Ok m) {c:Int} (e:valueStep m c=some m'):AllGd m':=by
 have hs:=ok.sgn
 have ve:AllGd (valueEnd m):=(h.setC (s:={ Go.Proofs.YtffajooegiempaaGreatDoor.cur m with num:=m.sign*(Go.Proofs.YtffajooegiempaaGreatDoor.cur m).num }) h.cur).of rfl
 unfold valueStep at e
 split at e
 ·split at e
  ·cases e; exact (h.setC (s:={ Go.Proofs.YtffajooegiempaaGreatDoor.cur m with star:=true }) h.cur).of rfl
  split at e
  ·cases e; exact h.of rfl
  split at e
  ·cases e; exact h.signTo _ 1 120 (by omega)
  ·exact AllGd.digit (m:={ m with sign:=1 }) (h.of rfl) e
 split at e
 ·split at e
  ·cases e; exact h.signTo _ m.sign 120 hs
  ·exact h.digit e
 split at e
 ·split at e
  ·cases e; exact h.of rfl
  split at e
  ·cases e; exact h.of rfl
  split at e
  ·cases e; exact ve
  ·cases e
 split at e
 ·exact h.digit e
 ·split at e
  ·cases e; exact ve
  ·exact h.digit e
theorem AllGd.cond (h:AllGd m) (ok:Ok m) {c:Int} (e:condStep m c=some m'):AllGd m':=by
 have hs:=ok.sgn
 unfold condStep at e
 by_cases x1:m.state=99
 ·rw [if_pos x1] at e
  split at e
  ·cases e; exact (h.setC (s:={ Go.Proofs.YtffajooegiempaaGreatDoor.cur m with star:=true }) h.cur).of rfl
  split at e
  ·cases e; exact h.of rfl
  split at e
  ·cases e; exact h.signTo _ 1 100 (by omega)
  ·cases e
 rw [if_neg x1] at e
 by_cases x2:m.state=67
 ·rw [if_pos x2] at e
  split at e
  ·cases e; exact h.signTo _ m.sign 100 hs
  ·cases e
 rw [if_neg x2] at e
 by_cases x3:m.state=100
 ·rw [if_pos x3] at e
  split at e
  ·cases e; exact h.of rfl
  split at e
  ·cases e; exact h.of rfl
  split at e
  ·cases e; exact h.of rfl
  ·cases e
 rw [if_neg x3] at e
 by_cases x4:m.state=101
 ·rw [if_pos x4] at e
  split at e
  ·split at e
   ·cases e; exact h.signTo _ m.sign 102 hs
   ·cases e
  ·cases e
 rw [if_neg x4] at e
 by_cases x5:m.state=102
 ·rw [if_pos x5] at e
  split at e
  ·cases e; exact h.of rfl
  ·cases e
 rw [if_neg x5] at e
 by_cases x6:m.state=60
 ·rw [if_pos x6] at e
  split at e
  ·cases e; exact h.of rfl
  ·cases e
 rw [if_neg x6] at e
 by_cases x7:m.state=98
 ·rw [if_pos x7] at e
  split at e
  ·cases e; exact h.of rfl
  ·exact h.digit e
 rw [if_neg x7] at e
 by_cases x8:m.state=66
 ·rw [if_pos x8] at e
  exact h.digit e
 rw [if_neg x8] at e
 by_cases x9:m.state=109
 ·rw [if_pos x9] at e
  split at e
  ·exact AllGd.plain (m:={ setCur m { Go.Proofs.YtffajooegiempaaGreatDoor.cur m with num:=if m.neg then -(Go.Proofs.YtffajooegiempaaGreatDoor.cur m).num else (Go.Proofs.YtffajooegiempaaGreatDoor.cur m).num } with state:=behindOf m }) ((h.setC (s:={ Go.Proofs.YtffajooegiempaaGreatDoor.cur m with num:=if m.neg then -(Go.Proofs.YtffajooegiempaaGreatDoor.cur m).num else (Go.Proofs.YtffajooegiempaaGreatDoor.cur m).num }) h.cur).of rfl) e
  ·exact h.digit e
 rw [if_neg x9] at e
 split at e
 ·cases e; exact h.of rfl
 ·cases e
theorem AllGd.byte (h:AllGd m) (ok:Ok m) {c:Int} (e:byteStep m c=some m'):AllGd m':=by
 unfold byteStep at e
 split at e
 ·unfold startStep at e
  split at e
  ·exact h.begin_ (by omega) (by omega) e
  split at e
  ·split at e
   ·exact h.begin_ (by omega) (by omega) e
   ·cases e
  split at e
  ·exact h.begin_ (by omega) (by omega) e
  split at e
  ·exact h.shut e
  ·cases e
 split at e
 ·split at e
  ·cases e; exact h.of rfl
  ·cases e
 split at e
 ·exact h.value ok e
 split at e
 ·exact h.plain e
 ·exact h.cond ok e
theorem gd_from {l:List Int}:∀ {m:Rd} {n k:Nat},AllGd m->Ok m->readFrom m l n=(k,some m')->AllGd m'/\Ok m':=by
 induction l with
 | nil=>intro m n k h ok e; simp [readFrom] at e; rw [<- e.2]; exact ⟨h,ok⟩
 | cons c l ih =>
  intro m n k h ok e
  simp only [readFrom] at e
  split at e
  ·cases e
  ·rename_i m1 e1
   exact ih (h.byte ok e1) (ok.byte e1) e
end Go.Proofs.YtffajooegiempaaGreatDoor

namespace Go.Proofs.YtffajooegiempaaGreatDoor
variable {m m':Rd}
def nz (l:List Int):Nat:=l.countP fun x=>decide (x ≠ 0)
theorem nz_cons (a:Int) (l:List Int):nz (a :: l)=nz l+if a=0 then 0 else 1:=by
 unfold nz
 rw [List.countP_cons]
 by_cases h:a=0
 ·rw [if_pos h,if_neg (by simpa using h)]
 ·rw [if_neg h,if_pos (by simpa using h)]
theorem nz_set:∀ (l:List Int) (v:Nat) (x:Int),nz (l.set v x)<=nz l+1:=by
 intro l
 induction l with
 | nil=>intro v x; simp
 | cons a l ih =>
  intro v x
  cases v with
  | zero =>
   rw [List.set_cons_zero,nz_cons,nz_cons]
   split <;> split <;> omega
  | succ v =>
   rw [List.set_cons_succ,nz_cons,nz_cons]
   have:=ih v x
   omega
def lim (x:Int):Nat:=if x=61 \/ x=118 \/ x=86 \/ x=99 \/ x=67 then 0 else if x=100 \/ x=101 then 1 else 2
structure Cn (m:Rd):Prop where
 all:∀ s,s ∈ m.st->nz s.sg<=2
 cur:nz (cur m).sg<=lim m.state
theorem lim_le (x:Int):lim x<=2:=by unfold lim; split <;> (try split) <;> omega
theorem Cn.of (h:Cn m) (e:m'.st=m.st) (hl:lim m.state<=lim m'.state):Cn m':=by
 refine ⟨fun s hs=>h.all s (e ▸ hs),?_⟩
 have:Go.Proofs.YtffajooegiempaaGreatDoor.cur m'=Go.Proofs.YtffajooegiempaaGreatDoor.cur m:=by unfold Go.Proofs.YtffajooegiempaaGreatDoor.cur; rw [e]
 rw [this]
 exact Nat.le_trans h.cur hl
theorem Cn.setC (h:Cn m) {s:St} {n:Nat} (hs:nz s.sg<=n) (hn:n<=2) (ok:m.state ≠ 115) (ok':Ok m) (e:m'.st=(setCur m s).st) (hl:n<=lim m'.state):Cn m':=by
 have hp:=ok'.some_ ok
 refine ⟨fun t ht=>?_,?_⟩
 ·rw [e] at ht
  rcases mem_setCur ht with q | q
  ·exact h.all t q
  ·rw [q]; omega
 ·have:Go.Proofs.YtffajooegiempaaGreatDoor.cur m'=s:=by
   unfold Go.Proofs.YtffajooegiempaaGreatDoor.cur
   rw [e]
   unfold setCur
   simp [List.getD,show m.st.length - 1 < m.st.length by omega]
  rw [this]
  omega
theorem Cn.begin_ (h:Cn m) {k v x:Int} (hx:lim x=0) (e:beginStep m k v x=some m'):Cn m':=by
 unfold beginStep at e
 split at e
 ·cases e
 ·cases e
  refine ⟨fun s hs=>?_,?_⟩
  ·rcases List.mem_append.1 hs with hs | hs
   ·exact h.all s hs
   ·rw [List.mem_singleton.1 hs]; show nz [0,0,0,0]<=2; decide
  ·show nz (Go.Proofs.YtffajooegiempaaGreatDoor.cur _).sg<=lim x
   rw [hx]
   unfold Go.Proofs.YtffajooegiempaaGreatDoor.cur
   simp [List.getD]
   decide
theorem Cn.shut (h:Cn m) (hs:m.state=115) (e:shutStep m=some m'):Cn m':=by
 have key:∀ (s:St),s.sg=(m.st.getD (top m).of_ noSt).sg->∀ t,t ∈ m.st.set (top m).of_ s->nz t.sg<=2:=by
  intro s hsg t ht
  rcases List.mem_or_eq_of_mem_set ht with q | q
  ·exact h.all t q
  ·rw [q,hsg,List.getD_eq_getElem?_getD]
   cases e:m.st[(top m).of_]? with
   | none=>decide
   | some u=>exact h.all u (List.mem_of_getElem? e)
 have cu:∀ (s:St) (m2:Rd),m2.st=m.st.set (top m).of_ s->s.sg=(m.st.getD (top m).of_ noSt).sg->nz (Go.Proofs.YtffajooegiempaaGreatDoor.cur m2).sg<=2:=by
  intro s m2 e2 hsg
  unfold Go.Proofs.YtffajooegiempaaGreatDoor.cur
  rw [e2,List.getD_eq_getElem?_getD]
  cases e3:(m.st.set (top m).of_ s)[(m.st.set (top m).of_ s).length - 1]? with
  | none=>decide
  | some u=>exact key s hsg u (List.mem_of_getElem? e3)
 simp only [shutStep] at e
 split at e
 ·cases e
  exact ⟨key _ rfl,cu _ _ rfl rfl⟩
 ·cases e
  refine ⟨key _ rfl,?_⟩
  show _<=lim m.state
  rw [hs]
  exact cu _ _ rfl rfl
theorem Cn.digit (h:Cn m) (ok:Ok m) (h0:m.state ≠ 115) {c x:Int} {pos:Bool} (e:digitStep m c pos x=some m') (hl:lim m.state<=lim x):Cn m':=by
 obtain ⟨d,u,_,_,rfl⟩:=digit_inv e
 exact h.setC (s:={ Go.Proofs.YtffajooegiempaaGreatDoor.cur m with num:=10*u+(c - 48) }) (n:=lim m.state) h.cur (lim_le _) h0 ok rfl hl
theorem Cn.signTo (h:Cn m) (ok:Ok m) (h0:m.state ≠ 115) (v:Nat) (y x:Int) (hl:lim m.state+1<=lim x):Cn (signTo m v y x):=by
 have:=lim_le x
 have hc:=h.cur
 have hn:=nz_set (Go.Proofs.YtffajooegiempaaGreatDoor.cur m).sg v y
 exact h.setC (s:={ Go.Proofs.YtffajooegiempaaGreatDoor.cur m with sg:=(Go.Proofs.YtffajooegiempaaGreatDoor.cur m).sg.set v y }) (n:=lim m.state+1) (by show nz ((Go.Proofs.YtffajooegiempaaGreatDoor.cur m).sg.set v y)<=_; omega) (by omega) h0 ok rfl hl
theorem Cn.plain (h:Cn m) (hl:lim m.state<=2) {c:Int} (e:plainStep m c=some m'):Cn m':=by
 unfold plainStep at e
 split at e
 ·split at e
  ·cases e; exact h.of rfl hl
  ·cases e
 ·split at e
  ·cases e
  ·cases e; exact h.of rfl hl
theorem Cn.value (h:Cn m) (ok:Ok m) {c:Int} (hst:m.state=118 \/ m.state=86 \/ m.state=120 \/ m.state=121 \/ m.state=110) (e:valueStep m c=some m'):Cn m':=by
 have h0:m.state ≠ 115:=by omega
 have l2:=lim_le m.state
 have ve:Cn (valueEnd m):=h.setC (s:={ Go.Proofs.YtffajooegiempaaGreatDoor.cur m with num:=m.sign*(Go.Proofs.YtffajooegiempaaGreatDoor.cur m).num }) (n:=lim m.state) h.cur l2 h0 ok rfl l2
 unfold valueStep at e
 split at e
 ·rename_i x1
  have hz:lim m.state=0:=by rw [x1]; rfl
  split at e
  ·cases e; exact h.setC (s:={ Go.Proofs.YtffajooegiempaaGreatDoor.cur m with star:=true }) (n:=lim m.state) h.cur l2 h0 ok rfl l2
  split at e
  ·cases e; exact h.of rfl (by omega)
  split at e
  ·cases e; exact h.signTo ok h0 _ 1 120 (by rw [hz]; decide)
  ·exact Cn.digit (m:={ m with sign:=1 }) (h.of rfl (Nat.le_refl _)) ⟨ok.states,ok.some_,ok.len,ok.oplen,ok.ofs,by show -1<=(1:Int)/\(1:Int)<=1; omega,ok.digs,ok.nums,ok.sgl,ok.inNum,ok.open_⟩ h0 e l2
 split at e
 ·rename_i x1 x2
  have hz:lim m.state=0:=by rw [x2]; rfl
  split at e
  ·cases e; exact h.signTo ok h0 _ m.sign 120 (by rw [hz]; decide)
  ·exact h.digit ok h0 e l2
 split at e
 ·split at e
  ·cases e; exact h.of rfl l2
  split at e
  ·cases e; exact h.of rfl l2
  split at e
  ·cases e; exact ve
  ·cases e
 split at e
 ·exact h.digit ok h0 e l2
 ·split at e
  ·cases e; exact ve
  ·exact h.digit ok h0 e l2
theorem lim_beh (m:Rd):lim (behindOf m)=2:=by unfold behindOf; split <;> rfl
theorem Cn.cond (h:Cn m) (ok:Ok m) (h0:m.state ≠ 115) {c:Int} (e:condStep m c=some m'):Cn m':=by
 have l2:=lim_le m.state
 unfold condStep at e
 by_cases x1:m.state=99
 ·rw [if_pos x1] at e
  have hz:lim m.state=0:=by rw [x1]; rfl
  split at e
  ·cases e; exact h.setC (s:={ Go.Proofs.YtffajooegiempaaGreatDoor.cur m with star:=true }) (n:=lim m.state) h.cur l2 h0 ok rfl (by show _<=lim (behindOf m); rw [lim_beh]; exact l2)
  split at e
  ·cases e; exact h.of rfl (by omega)
  split at e
  ·cases e; exact h.signTo ok h0 _ 1 100 (by rw [hz]; decide)
  ·cases e
 rw [if_neg x1] at e
 by_cases x2:m.state=67
 ·rw [if_pos x2] at e
  have hz:lim m.state=0:=by rw [x2]; rfl
  split at e
  ·cases e; exact h.signTo ok h0 _ m.sign 100 (by rw [hz]; decide)
  ·cases e
 rw [if_neg x2] at e
 by_cases x3:m.state=100
 ·rw [if_pos x3] at e
  have hz:lim m.state=1:=by rw [x3]; rfl
  split at e
  ·cases e; exact h.of rfl (by rw [hz]; show 1<=lim 101; decide)
  split at e
  ·cases e; exact h.of rfl (by rw [hz]; show 1<=lim 101; decide)
  split at e
  ·cases e; exact h.of rfl (by rw [hz]; show 1<=lim 60; decide)
  ·cases e
 rw [if_neg x3] at e
 by_cases x4:m.state=101
 ·rw [if_pos x4] at e
  have hz:lim m.state=1:=by rw [x4]; rfl
  split at e
  ·split at e
   ·cases e; exact h.signTo ok h0 _ m.sign 102 (by rw [hz]; decide)
   ·cases e
  ·cases e
 rw [if_neg x4] at e
 by_cases x5:m.state=102
 ·rw [if_pos x5] at e
  split at e
  ·cases e; exact h.of rfl l2
  ·cases e
 rw [if_neg x5] at e
 by_cases x6:m.state=60
 ·rw [if_pos x6] at e
  split at e
  ·cases e; exact h.of rfl l2
  ·cases e
 rw [if_neg x6] at e
 by_cases x7:m.state=98
 ·rw [if_pos x7] at e
  split at e
  ·cases e; exact h.of rfl l2
  ·exact h.digit ok h0 e l2
 rw [if_neg x7] at e
 by_cases x8:m.state=66
 ·rw [if_pos x8] at e
  exact h.digit ok h0 e l2
 rw [if_neg x8] at e
 by_cases x9:m.state=109
 ·rw [if_pos x9] at e
  split at e
  ·refine Cn.plain (m:={ setCur m { Go.Proofs.YtffajooegiempaaGreatDoor.cur m with num:=if m.neg then -(Go.Proofs.YtffajooegiempaaGreatDoor.cur m).num else (Go.Proofs.YtffajooegiempaaGreatDoor.cur m).num } with state:=behindOf m }) ?_ (lim_le _) e
   exact h.setC (s:={ Go.Proofs.YtffajooegiempaaGreatDoor.cur m with num:=if m.neg then -(Go.Proofs.YtffajooegiempaaGreatDoor.cur m).num else (Go.Proofs.YtffajooegiempaaGreatDoor.cur m).num }) (n:=lim m.state) h.cur l2 h0 ok rfl (by show _<=lim (behindOf m); rw [lim_beh]; exact l2)
  ·exact h.digit ok h0 e l2
 rw [if_neg x9] at e
 split at e
 ·cases e; exact h.of rfl l2
 ·cases e
theorem Cn.byte (h:Cn m) (ok:Ok m) {c:Int} (e:byteStep m c=some m'):Cn m':=by
 unfold byteStep at e
 split at e
 ·rename_i hs
  unfold startStep at e
  split at e
  ·exact h.begin_ rfl e
  split at e
  ·split at e
   ·exact h.begin_ rfl e
   ·cases e
  split at e
  ·exact h.begin_ rfl e
  split at e
  ·exact h.shut hs e
  ·cases e
 split at e
 ·rename_i h1 h2
  split at e
  ·cases e; exact h.of rfl (by rw [h2]; show lim 61<=lim 118; decide)
  ·cases e
 split at e
 ·rename_i hv; exact h.value ok hv e
 split at e
 ·exact h.plain (lim_le _) e
 ·rename_i h1 _ _ _; exact h.cond ok h1 e
theorem cn_from {l:List Int}:∀ {m:Rd} {n k:Nat},Cn m->Ok m->readFrom m l n=(k,some m')->Cn m':=by
 induction l with
 | nil=>intro m n k h ok e; simp [readFrom] at e; rw [<- e.2]; exact h
 | cons c l ih =>
  intro m n k h ok e
  simp only [readFrom] at e
  split at e
  ·cases e
  ·rename_i m1 e1
   exact ih (h.byte ok e1) (ok.byte e1) e
end Go.Proofs.YtffajooegiempaaGreatDoor

