import Derived.Test.YtffajooegiempaaGreatDoorJ1
import Derived.Laws.AppendOwn
import Derived.Laws.OwnMore
import Derived.ArgAppend
set_option maxRecDepth 100000
set_option maxHeartbeats 6400000
namespace Go.Proofs.YtffajooegiempaaGreatDoor
open Go.RowKit
variable {w:World} {r:Nat} {s:ByteArray} {d:CSt}
theorem bd_at (hd:d.1<=s.size):(bdF (bytesOf s) d).2.1<=s.size:=num_at (by omega) (num_at (by omega) hd)
theorem bd_range (s:ByteArray) (d:CSt):-4000<=(bdF (bytesOf s) d).1/\(bdF (bytesOf s) d).1<=70000:=by
 have r1:=num_range (bys s) 0 255 (by omega) d
 have r2:=num_range (bys s) 0 255 (by omega) (numF (bytesOf s) 0 255 d).2
 show -4000<=(numF (bytesOf s) 0 255 d).1*256+(numF (bytesOf s) 0 255 (numF (bytesOf s) 0 255 d).2).1 - 4000/\_
 constructor
 ·omega
 ·show (numF (bytesOf s) 0 255 d).1*256+(numF (bytesOf s) 0 255 (numF (bytesOf s) 0 255 d).2).1 - 4000<=70000
  omega
def iv (xs:List Int):List Value:=xs.map (Value.int .i64)
def LRow (w:World) (base:Nat) (v:Value) (xs:List Int):Prop:=∃ g,base<=g/\v=.slice (some ⟨g,0,none⟩) xs.length 32/\w.ownsRow base 3 1 (.slice (some ⟨g,0,none⟩) xs.length 32) xs.length (iv xs)
theorem fms_le {t:Nat} {i:CSt}:∀ n,(fmsF (bytesOf s) (t,i,[]) n).1<=t
 | 0=>Nat.le_refl _
 | n+1=>by
  have:=fms_le (t:=t) (i:=i) n
  show (fmF _ _ (fmsF (bytesOf s) (t,i,[]) n)).1<=t
  unfold fmF; split
  ·show _ - 1<=t; omega
  ·exact this
theorem fms_at {t:Nat} {i:CSt} (hi:i.1<=s.size):∀ n,(fmsF (bytesOf s) (t,i,[]) n).2.1.1<=s.size
 | 0=>hi
 | n+1=>by
  have:=fms_at (t:=t) hi n
  show (fmF _ _ (fmsF (bytesOf s) (t,i,[]) n)).2.1.1<=_
  generalize fmsF (bytesOf s) (t,i,[]) n=x at *
  unfold fmF
  split
  ·rename_i q
   refine bd_at ?_
   have q2:=q.2
   unfold pkc at q2
   rw [bytesOf_len] at q2
   show x.2.1.1+1<=s.size
   by_cases e:x.2.1.1 < s.size
   ·omega
   ·rw [if_neg e] at q2; omega
  ·exact this
theorem ownsRow_base' {w:World} {base base' e size n:Nat} {v:Value} {xs:List Value} (h:w.ownsRow base e size v n xs) (hb:base'<=base):w.ownsRow base' e size v n xs:=by
 obtain ⟨h1,h2⟩:=h
 refine ⟨h1,?_⟩
 rcases h2 with h2 | ⟨g,cap,c,hv,hg,rest⟩
 ·exact .inl h2
 ·exact .inr ⟨g,cap,c,hv,by omega,rest⟩
theorem c_bounds (h:Cat w r s d) (hs:s.size<=9223372036854775807) (hd:d.1<=s.size) :
  Calls Tryz.prog 144 #[.pointer (some ⟨r,0,none⟩)] w fun e w'=>∃ v,e=.returned v/\LRow w' w.heap.size v (bsF (bytesOf s) d).1/\Cat w' r s (bsF (bytesOf s) d).2/\Onl r w w':=by
 have h1:=c_number h hs hd 0 32 (by omega)
 have r1:=num_range (bys s) 0 32 (by omega) d
 have hd1:=num_at (s:=s) (lo:=0) (hi:=32) (by omega) hd
 have hr0:=h.lt
 obtain ⟨F,hF⟩:∃ F,F=fmsF (bytesOf s) ((numF (bytesOf s) 0 32 d).1.toNat,(numF (bytesOf s) 0 32 d).2,[]):=⟨_,rfl⟩
 have HE:Hid (bsF (bytesOf s) d=((F 32).2.2,((F 32).2.1.1,if 0 < (F 32).1 then true else (F 32).2.1.2))):=by rw [hF]; rfl
 have HF:Hid (∀ n,F (n+1)=fmF (bytesOf s) n (F n)):=by rw [hF]; intro n; rfl
 have HFl:Hid (∀ n,(F n).2.2.length=n):=by rw [hF]; exact fms_len rfl
 have HFa:Hid (∀ n,(F n).2.1.1<=s.size):=by rw [hF]; exact fms_at hd1
 have HFt:Hid (∀ n,(F n).1<=(numF (bytesOf s) 0 32 d).1.toNat):=by rw [hF]; exact fms_le
 have HF0:Hid (F 0=((numF (bytesOf s) 0 32 d).1.toNat,(numF (bytesOf s) 0 32 d).2,[])):=by rw [hF]; rfl
 have hmk:∀ w,(Instr.makeSlice 32 (.int .i64 0) (.int .i64 32)).run Tryz.prog w=.ok (.slice (some ⟨w.heap.size,0,none⟩) 0 32) (w.alloc (.cells (ic (List.replicate 32 0)) 3)):=fun _=>by kernel_rfl
 obtain ⟨i0,hi0,hz0,hz1,hz2⟩:=info_parts (P:=Tryz.prog) (e:=3) (z:=.int .i64 0) (size:=1) (bytes:=8) (by kernel_rfl)
 have HOw:Hid (∀ (w1:World),(w1.alloc (.cells (ic (List.replicate 32 0)) 3)).ownsRow w1.heap.size 3 1 (.slice (some ⟨w1.heap.size,0,none⟩) 0 32) 0 []):=fun w1=>World.ownsRow_made w1 (ic (List.replicate 32 0)) 32 (Nat.le_refl _) (by decide) rfl
 obtain ⟨I,hI⟩:∃ I,I=(if 0 < (F 32).1 then true else (F 32).2.1.2):=⟨_,rfl⟩
 rw [HE.out,<- hI]
 have HI0:Hid (I=(if 0 < (F 32).1 then true else (F 32).2.1.2)):=hI
 clear hI
 generalize numF (bytesOf s) 0 32 d=x at *
 obtain ⟨x1,x2⟩:=x
 simp only at r1 hd1 h1
 have hx0:0<=x1:=r1.1
 have hx1:x1<=255:=r1.2.1
 obtain ⟨k,rfl⟩:∃ k:Nat,x1=(k:Int):=⟨x1.toNat,by omega⟩
 rw [Int.toNat_natCast] at HFt HF0
 have HP:Hid (∀ (w1:World) (d:CSt),Cat w1 r s d->d.1<=s.size->Calls Tryz.prog 143 #[.pointer (some ⟨r,0,none⟩)] w1 fun e w'=>e=.returned (.int .i64 (pkc (bytesOf s) d))/\∃ k,w'=w1.drewN k):=fun w1 d hc hd=>c_peek hc hs hd
 have HBd:Hid (∀ (w1:World) (d:CSt),Cat w1 r s d->d.1<=s.size->Calls Tryz.prog 155 #[.pointer (some ⟨r,0,none⟩)] w1 (COut w1 r s (bdF (bytesOf s) d).2 (.int .i64 (bdF (bytesOf s) d).1))):=fun w1 d hc hd=>c_bound hc hs hd
 have HPk:Hid (∀ d:CSt,0<=pkc (bytesOf s) d->d.1 < s.size):=by
  intro d hh
  unfold pkc at hh
  rw [bytesOf_len] at hh
  by_cases q:d.1 < s.size
  ·exact q
  ·rw [if_neg q] at hh; omega
 clear h hF r1 HE hd
 generalize ic (List.replicate 32 0)=zs at *
 go_enter Tryz.func144,Tryz.ntmps144
 go_wp2_with fail
 refine h1.mono ?_
 rintro e w1 ⟨rfl,hc1,ho1⟩
 have hs1:=ho1.size
 have H1:Hid (Cat (w1.alloc (.cells zs 3)) r s x2/\Onl r w (w1.alloc (.cells zs 3))/\(w1.alloc (.cells zs 3)).ownsRow w1.heap.size 3 1 (.slice (some ⟨w1.heap.size,0,none⟩) 0 32) 0 []):=⟨At.allocH hc1 _,ho1.alloc _,HOw.out w1⟩
 have hr1:=hc1.lt
 clear hc1 ho1 h1
 go_wp2_with fail
 go_loopw [3,4,5] (fun t sl i wr=>∃ (q:Nat) (m:Nat),q<=32/\i=.int .i64 q/\t=.int .i64 (m:Int)/\m<=255/\sl=.slice (some ⟨w1.heap.size,0,none⟩) q 32/\Hid (m=(F q).1/\wr.ownsRow w1.heap.size 3 1 (.slice (some ⟨w1.heap.size,0,none⟩) q 32) q (iv (F q).2.2)/\Cat wr r s (F q).2.1/\Onl r w wr/\w1.heap.size < wr.heap.size)) (fun _ _ i _=>32 - (intOf i).toNat)
 case atStart=>exact ⟨0,k,by omega,rfl,rfl,by omega,rfl,by rw [HF0.out],by rw [HF0.out]; exact H1.out.2.2,by rw [HF0.out]; exact H1.out.1,H1.out.2.1,by simp⟩
 case round =>
  obtain ⟨q,m,hq,rfl,rfl,hm,rfl,HR⟩:=hrel
  by_cases hlt:q < 32
  ·have hqi:(q:Int) < 32:=by omega
   have HFq:=(show Hid (_=_) from HF.out q)
   have hat:=HFa.out q
   have HApp:Hid (∀ (w5 w6:World) (y:Int) (dd:CSt) (mm:Nat),F (q+1)=(mm,dd,(F q).2.2 ++ [y])->w5.ownsRow w1.heap.size 3 1 (.slice (some ⟨w1.heap.size,0,none⟩) (q+1) 32) (q+1) (iv (F q).2.2 ++ [.int .i64 y])->w6.grownBy w5 (some w1.heap.size)->Cat w6 r s dd->Onl r w w6->w1.heap.size < w6.heap.size ->
     mm=(F (q+1)).1/\w5.ownsRow w1.heap.size 3 1 (.slice (some ⟨w1.heap.size,0,none⟩) (q+1) 32) (q+1) (iv (F (q+1)).2.2)/\Cat w5 r s (F (q+1)).2.1/\Onl r w w5/\w1.heap.size < w5.heap.size):=by
    intro w5 w6 y dd mm e ho hg hc hn hz
    rw [e]
    refine ⟨rfl,by simpa [iv] using ho,At.same hc (hg.block r hc.lt (by intro e; have:=Option.some.inj e; omega)),?_,Nat.lt_of_lt_of_le hz hg.size⟩
    refine ⟨hg.os.trans hn.os,hg.tape.trans hn.tape,hg.output.trans hn.output,Nat.le_trans hn.size hg.size,fun k hk hne=>(hg.block k (Nat.lt_of_lt_of_le hk hn.size) (by intro e; have:=Option.some.inj e; omega)).trans (hn.block k hk hne)⟩
   have hkeep:∀ {w5 w6:World},wr.ownsRow w1.heap.size 3 1 (.slice (some ⟨w1.heap.size,0,none⟩) q 32) q (iv (F q).2.2)->Onl r wr w5->w5.ownsRow w1.heap.size 3 1 (.slice (some ⟨w1.heap.size,0,none⟩) q 32) q (iv (F q).2.2):=fun {w5 w6} h ho=>ownsRow_below h (fun k hk=>ho.block k (h.lt k hk).2 (by cases hk; show w1.heap.size ≠ r; omega))
   have HKeep:Hid (∀ {w5:World},Onl r wr w5->w5.ownsRow w1.heap.size 3 1 (.slice (some ⟨w1.heap.size,0,none⟩) q 32) q (iv (F q).2.2)):=fun {w5} ho=>hkeep (w6:=w5) HR.out.2.1 ho
   clear hkeep
   have HL:Hid ((F q).2.2.length=q):=HFl.out q
   have hpk:=HP.out wr (F q).2.1 HR.out.2.2.1 hat
   have HBq:=(show Hid (_->_) from fun (h:(F q).2.1.1 < s.size) (w2:World) (hc:Cat w2 r s ((F q).2.1.1+1,(F q).2.1.2))=>HBd.out w2 ((F q).2.1.1+1,(F q).2.1.2) hc h)
   have HPq:=(show Hid (_->_) from HPk.out (F q).2.1)
   have hbr:=bd_range s ((F q).2.1.1+1,(F q).2.1.2)
   have HM:Hid (m=(F q).1):=HR.out.1
   have HFm:Hid (0 < m/\pkc (bytesOf s) (F q).2.1=q->F (q+1)=(m - 1,(bdF (bytesOf s) ((F q).2.1.1+1,(F q).2.1.2)).2,(F q).2.2 ++ [(bdF (bytesOf s) ((F q).2.1.1+1,(F q).2.1.2)).1])):=by
    intro hh; rw [HFq.out]; unfold fmF; rw [<- HM.out,if_pos hh]
   have HFn:Hid (¬ (0 < m/\pkc (bytesOf s) (F q).2.1=q)->F (q+1)=(m,(F q).2.1,(F q).2.2 ++ [1000000])):=by
    intro hh; rw [HFq.out]; unfold fmF; rw [<- HM.out,if_neg hh]
   have HCq:Hid (Cat wr r s (F q).2.1):=HR.out.2.2.1
   obtain ⟨c0,c1,c2,cf⟩:=HCq.out.cells
   have hrr:=HCq.out.lt
   generalize bdF (bytesOf s) ((F q).2.1.1+1,(F q).2.1.2)=bd at *
   generalize pkc (bytesOf s) (F q).2.1=x at *
   generalize (F q).2.1=dq at *
   obtain ⟨b1,b2⟩:=bd
   obtain ⟨da,db⟩:=dq
   simp only at c1 c2 hat hbr
   by_cases hm0:0 < m
   ·have hmi:(0:Int) < (m:Int):=by omega
    by_cases hx:x=q
    ·subst hx
     have hda:da < s.size:=HPq.out (by omega)
     have HX:=(show Hid (_=_) from HFm.out ⟨hm0,rfl⟩)
     have hdi:(da:Int)+1<=9223372036854775807:=by omega
     have HC2:Hid (∀ k2,Cat ((wr.drewN k2).setCell ⟨r,1,none⟩ (.int .i64 ((da:Int)+1))) r s (da+1,db)):=fun k2=>(HCq.out.drewN k2).step
     have HO2:Hid (∀ k2,Onl r wr ((wr.drewN k2).setCell ⟨r,1,none⟩ (.int .i64 ((da:Int)+1)))):=fun k2=>((Onl.refl _ _).drewN k2).setCell _ _
     go_wp2_with (go_at_call 143; refine hpk.mono ?_; rintro e w2 ⟨rfl,k2,rfl⟩)
     refine (HBq.out hda _ (HC2.out k2)).mono ?_
     rintro e w3 ⟨rfl,hc3,ho3⟩
     have H3:Hid (Cat w3 r s b2/\Onl r wr w3):=⟨hc3,(HO2.out k2).trans ho3⟩
     clear hc3 ho3
     have H4:Hid (w3.ownsRow w1.heap.size 3 1 (.slice (some ⟨w1.heap.size,0,none⟩) q 32) q (iv (F q).2.2)):=HKeep.out H3.out.2
     have hz3:w1.heap.size < w3.heap.size:=Nat.lt_of_lt_of_le HR.out.2.2.2.2 H3.out.2.size
     go_wp2_with (at_builtin; refine wpList_append_fits _ rfl (.tmp 33) (.tmp 35) 32 rfl w1.heap.size 3 i0 1 Tryz.underlying32 hi0 hz1 w1.heap.size q 32 _ rfl (H4.out.alloc _) ⟨w3.heap.size,0,none⟩ 1 1 [.int .i64 (b1)] rfl rfl (by intro t u ht; match t,ht with | 0,ht=>simp at ht; subst ht; exact World.cell?_alloc_at _ _ _ _ rfl) (by intro u hu; simp at hu; subst hu; rfl) (by omega) ?_; intro w5 hown5 hgrow5)
     go_roundw
     case rel =>
      exact ⟨q+1,(m - 1),by omega,by go_num,by first | rfl | go_num,by omega,rfl,HApp.out w5 (w3.alloc (.cells #[.int .i64 (b1)] 3)) (b1) b2 ((m - 1)) HX.out hown5 hgrow5 (At.allocH H3.out.1 _) ((HR.out.2.2.2.1.trans H3.out.2).alloc _) (by simp; omega)⟩
     case measure=>simp [intOf]; omega
    ·have hx':(x == (q:Int))=false:=by simpa using hx
     have HX:=(show Hid (_=_) from HFn.out (by omega))
     have H3':Hid (∀ k,Cat (wr.drewN k) r s (da,db)/\Onl r wr (wr.drewN k)):=fun k=>⟨HCq.out.drewN k,(Onl.refl _ _).drewN k⟩
     go_wp2_with fail
     refine hpk.mono ?_
     rintro e w3 ⟨rfl,k2,hw3⟩
     have H3:Hid (Cat w3 r s (da,db)/\Onl r wr w3):=by show _/\_; rw [hw3]; exact H3'.out k2
     clear hw3
     have H4:Hid (w3.ownsRow w1.heap.size 3 1 (.slice (some ⟨w1.heap.size,0,none⟩) q 32) q (iv (F q).2.2)):=HKeep.out H3.out.2
     have hz3:w1.heap.size < w3.heap.size:=Nat.lt_of_lt_of_le HR.out.2.2.2.2 H3.out.2.size
     go_wp2_with (at_builtin; refine wpList_append_fits _ rfl (.tmp 33) (.tmp 35) 32 rfl w1.heap.size 3 i0 1 Tryz.underlying32 hi0 hz1 w1.heap.size q 32 _ rfl (H4.out.alloc _) ⟨w3.heap.size,0,none⟩ 1 1 [.int .i64 (1000000)] rfl rfl (by intro t u ht; match t,ht with | 0,ht=>simp at ht; subst ht; exact World.cell?_alloc_at _ _ _ _ rfl) (by intro u hu; simp at hu; subst hu; rfl) (by omega) ?_; intro w5 hown5 hgrow5)
     go_roundw
     case rel =>
      exact ⟨q+1,m,by omega,by go_num,by first | rfl | go_num,by omega,rfl,HApp.out w5 (w3.alloc (.cells #[.int .i64 (1000000)] 3)) (1000000) (da,db) (m) HX.out hown5 hgrow5 (At.allocH H3.out.1 _) ((HR.out.2.2.2.1.trans H3.out.2).alloc _) (by simp; omega)⟩
     case measure=>simp [intOf]; omega
   ·have hm1:m=0:=by omega
    subst hm1
    have HX:=(show Hid (_=_) from HFn.out (by omega))
    obtain ⟨w3,hw3⟩:∃ w3,w3=wr:=⟨_,rfl⟩
    have H3:Hid (Cat w3 r s (da,db)/\Onl r wr w3):=by show _/\_; rw [hw3]; exact ⟨HCq.out,Onl.refl _ _⟩
    rw [<- hw3]
    clear hw3
    have H4:Hid (w3.ownsRow w1.heap.size 3 1 (.slice (some ⟨w1.heap.size,0,none⟩) q 32) q (iv (F q).2.2)):=HKeep.out H3.out.2
    have hz3:w1.heap.size < w3.heap.size:=Nat.lt_of_lt_of_le HR.out.2.2.2.2 H3.out.2.size
    go_wp2_with (at_builtin; refine wpList_append_fits _ rfl (.tmp 33) (.tmp 35) 32 rfl w1.heap.size 3 i0 1 Tryz.underlying32 hi0 hz1 w1.heap.size q 32 _ rfl (H4.out.alloc _) ⟨w3.heap.size,0,none⟩ 1 1 [.int .i64 (1000000)] rfl rfl (by intro t u ht; match t,ht with | 0,ht=>simp at ht; subst ht; exact World.cell?_alloc_at _ _ _ _ rfl) (by intro u hu; simp at hu; subst hu; rfl) (by omega) ?_; intro w5 hown5 hgrow5)
    go_roundw
    case rel =>
     exact ⟨q+1,0,by omega,by go_num,by first | rfl | go_num,by omega,rfl,HApp.out w5 (w3.alloc (.cells #[.int .i64 (1000000)] 3)) (1000000) (da,db) (0) HX.out hown5 hgrow5 (At.allocH H3.out.1 _) ((HR.out.2.2.2.1.trans H3.out.2).alloc _) (by simp; omega)⟩
    case measure=>simp [intOf]; omega
  ·have hq32:q=32:=by omega
   subst hq32
   have HL:Hid ((F 32).2.2.length=32):=HFl.out 32
   have HOut:Hid (∀ {w5:World},Onl r wr w5->w5.ownsRow w1.heap.size 3 1 (.slice (some ⟨w1.heap.size,0,none⟩) 32 32) 32 (iv (F 32).2.2)):=fun {w5} ho=>ownsRow_below HR.out.2.1 (fun k hk=>ho.block k (HR.out.2.1.lt k hk).2 (by cases hk; show w1.heap.size ≠ r; omega))
   have HRow:Hid (∀ {w5:World},Onl r wr w5->LRow w5 w.heap.size (.slice (some ⟨w1.heap.size,0,none⟩) 32 32) (F 32).2.2):=fun {w5} ho=>⟨w1.heap.size,hs1,by rw [HL.out],by rw [HL.out]; exact ownsRow_base' (HOut.out ho) hs1⟩
   have HCq:Hid (Cat wr r s (F 32).2.1):=HR.out.2.2.1
   have HOq:Hid (Onl r w wr):=HR.out.2.2.2.1
   obtain ⟨c0,c1,c2,cf⟩:=HCq.out.cells
   have hrr:=HCq.out.lt
   have HM:Hid (m=(F 32).1):=HR.out.1
   by_cases hm0:0 < m
   ·have hmi:(0:Int) < (m:Int):=by omega
    have HI:Hid (I=true):=HI0.out.trans (if_pos (by rw [<- HM.out]; exact hm0))
    go_wp2_with fail
    go_ret
    refine ⟨_,rfl,HRow.out ((Onl.refl _ _).setCell _ _),?_,HOq.out.setCell _ _⟩
    rw [HI.out]
    exact HCq.out.stick
   ·have hmi:¬ (0:Int) < (m:Int):=by omega
    have HI:Hid (I=(F 32).2.1.2):=HI0.out.trans (if_neg (by rw [<- HM.out]; exact hm0))
    go_wp2_with fail
    go_ret
    refine ⟨_,rfl,HRow.out (Onl.refl _ _),?_,HOq.out⟩
    rw [HI.out]
    exact HCq.out
end Go.Proofs.YtffajooegiempaaGreatDoor

namespace Go.Proofs.YtffajooegiempaaGreatDoor
open Go.RowKit
variable {w:World} {r:Nat} {s:ByteArray} {d:CSt}
def PV (w:World) (base:Nat) (v:Value):Option (List Int)->Prop
 | none=>v=.slice none 0 0
 | some l=>∃ g,base<=g/\v=.slice (some ⟨g,0,none⟩) 32 32/\At w g (ic l) 3/\l.length=32
theorem LRow.at_ {base:Nat} {v:Value} {l:List Int} (h:LRow w base v l) (hl:l.length=32):PV w base v (some l):=by
 obtain ⟨g,hg,rfl,ho⟩:=h
 rw [hl] at ho |-
 refine ⟨g,hg,rfl,?_,hl⟩
 rcases ho.2 with ⟨e,_⟩ | ⟨g',cap,cur,e,_,hh,hn4,hc4,hsz,htk⟩
 ·cases e
 ·cases e
  have:cur=ic l:=by
   apply Array.toList_inj.1
   rw [<- List.take_of_length_le (l:=cur.toList) (i:=32*1) (by simp; omega),htk]
   simp [ic,iv]
  rw [<- this]
  exact hh
theorem bsN_len (d:CSt) (N:Nat):(bsN (bytesOf s) N d).1.length=N:=fms_len rfl N
theorem bsN_at (hd:d.1<=s.size) (N:Nat):(bsN (bytesOf s) N d).2.1<=s.size:=fms_at (num_at (by omega) hd) N
theorem bs_len (d:CSt):(bsF (bytesOf s) d).1.length=32:=bsN_len d 32
theorem bs_at (hd:d.1<=s.size):(bsF (bytesOf s) d).2.1<=s.size:=bsN_at hd 32
theorem pt_at (hd:d.1<=s.size):(ptF (bytesOf s) d).2.1<=s.size:=by
 have h1:=num_at (s:=s) (d:=d) (lo:=0) (hi:=1) (by omega) hd
 have h2:=bs_at h1
 unfold ptF
 simp only
 generalize bsF (bytesOf s) (numF (bytesOf s) 0 1 d).2=b at *
 split
 ·exact h1
 ·exact h2
def POut (w:World) (r:Nat) (s:ByteArray) (d:CSt):Ending->World->Prop:=fun e w'=>∃ v,e=.returned v/\PV w' w.heap.size v (ptF (bytesOf s) d).1/\Cat w' r s (ptF (bytesOf s) d).2/\Onl r w w'
theorem c_point (h:Cat w r s d) (hs:s.size<=9223372036854775807) (hd:d.1<=s.size) :
  Calls Tryz.prog 118 #[.pointer (some ⟨r,0,none⟩)] w (POut w r s d):=by
 have h1:=c_number h hs hd 0 1 (by omega)
 have hd1:=num_at (s:=s) (lo:=0) (hi:=1) (by omega) hd
 have HB:Hid (∀ w1,Cat w1 r s (numF (bytesOf s) 0 1 d).2->Calls Tryz.prog 144 #[.pointer (some ⟨r,0,none⟩)] w1 fun e w'=>∃ v,e=.returned v/\LRow w' w1.heap.size v (bsF (bytesOf s) (numF (bytesOf s) 0 1 d).2).1/\Cat w' r s (bsF (bytesOf s) (numF (bytesOf s) 0 1 d).2).2/\Onl r w1 w'):=fun w1 hc=>c_bounds hc hs hd1
 have HE:Hid (ptF (bytesOf s) d=if (numF (bytesOf s) 0 1 d).1=0 then (none,(numF (bytesOf s) 0 1 d).2) else (some (bsF (bytesOf s) (numF (bytesOf s) 0 1 d).2).1,(bsF (bytesOf s) (numF (bytesOf s) 0 1 d).2).2)):=rfl
 have HL:Hid ((bsF (bytesOf s) (numF (bytesOf s) 0 1 d).2).1.length=32):=bs_len _
 clear h hd1
 generalize numF (bytesOf s) 0 1 d=x at *
 obtain ⟨x1,x2⟩:=x
 generalize bsF (bytesOf s) x2=b at *
 by_cases hx:x1=0
 ·subst hx
  go_enter Tryz.func118,Tryz.ntmps118
  go_wp2_with fail
  refine h1.mono ?_
  rintro e w1 ⟨rfl,hc1,ho1⟩
  have H1:Hid (Cat w1 r s x2/\Onl r w w1):=⟨hc1,ho1⟩
  clear hc1 ho1 h1
  go_wp2_with fail
  go_ret
  exact ⟨_,rfl,by rw [HE.out]; rfl,by rw [HE.out]; exact H1.out.1,H1.out.2⟩
 ·have hx':(x1 == 0)=false:=by simpa using hx
  have HX:Hid (ptF (bytesOf s) d=(some b.1,b.2)):=HE.out.trans (if_neg hx)
  go_enter Tryz.func118,Tryz.ntmps118
  go_wp2_with fail
  refine h1.mono ?_
  rintro e w1 ⟨rfl,hc1,ho1⟩
  have hb:=HB.out w1 hc1
  have HO:Hid (Onl r w w1):=ho1
  have hs1:=ho1.size
  clear hc1 ho1 h1
  go_wp2_with fail
  refine hb.mono ?_
  rintro e w2 ⟨v,rfl,hv,hc2,ho2⟩
  have H2:Hid (PV w2 w.heap.size v (some b.1)/\Cat w2 r s b.2/\Onl r w w2):=by
   obtain ⟨g,hg,q⟩:=hv.at_ HL.out
   exact ⟨⟨g,by omega,q⟩,hc2,HO.out.trans ho2⟩
  clear hv hc2 ho2 hb
  go_wp2_with fail
  go_ret
  exact ⟨_,rfl,by rw [HX.out]; exact H2.out.1,by rw [HX.out]; exact H2.out.2.1,H2.out.2.2⟩
structure LLs (w:World) (base g:Nat) (X:List Value) (L:List (Option (List Int))):Prop where
 len:X.length=L.length
 each:∀ i,i < L.length->PV w base (X.getD i (.bool false)) (L.getD i none)
 away:∀ i,i < L.length->(X.getD i (.bool false)).ownBlock ≠ some g
 apart:∀ i j a,i < L.length->j < L.length->i ≠ j->(X.getD i (.bool false)).ownBlock=some a->(X.getD j (.bool false)).ownBlock ≠ some a
theorem PV.lt {base:Nat} {v:Value} {o:Option (List Int)} (h:PV w base v o):∀ k,v.ownBlock=some k->base<=k/\k < w.heap.size:=by
 intro k hk
 cases o with
 | none=>rw [show v=.slice none 0 0 from h] at hk; cases hk
 | some l=>obtain ⟨g,hg,rfl,ha,_⟩:=h; cases hk; exact ⟨hg,ha.lt⟩
theorem PV.same {w w':World} {base:Nat} {v:Value} {o:Option (List Int)} (h:PV w base v o) (hb:∀ k,v.ownBlock=some k->w'.heap[k]?=w.heap[k]?):PV w' base v o:=by
 cases o with
 | none=>exact h
 | some l=>obtain ⟨g,hg,rfl,ha,hl⟩:=h; exact ⟨g,hg,rfl,ha.same (hb g rfl),hl⟩
theorem LLs.same {w w':World} {base g:Nat} {X:List Value} {L:List (Option (List Int))} (h:LLs w base g X L) (hb:∀ k,k < w.heap.size->base<=k->k ≠ g->w'.heap[k]?=w.heap[k]?):LLs w' base g X L :=
 ⟨h.len,fun i hi=>(h.each i hi).same (fun k hk=>by have:=(h.each i hi).lt k hk; exact hb k this.2 this.1 (fun e=>h.away i hi (by rw [hk,e]))),h.away,h.apart⟩
theorem getD_snocV (X:List Value) (x u:Value) (i:Nat):(X ++ [x]).getD i u=if i < X.length then X.getD i u else if i=X.length then x else u:=by
 by_cases h:i < X.length
 ·rw [if_pos h]; simp [List.getD,List.getElem?_append_left h]
 ·rw [if_neg h]
  by_cases e:i=X.length
  ·rw [if_pos e]; simp [List.getD,e]
  ·rw [if_neg e]
   have:(X ++ [x])[i]?=none:=List.getElem?_eq_none (by simp; omega)
   simp [List.getD,this]
theorem LLs.snoc {base base' g:Nat} {X:List Value} {L:List (Option (List Int))} {x:Value} {o:Option (List Int)} (h:LLs w base g X L) (hx:PV w base' x o) (hb:base<=base') (hg:g < base') (hnew:∀ i,i < L.length->∀ k,(X.getD i (.bool false)).ownBlock=some k->k < base'):LLs w base g (X ++ [x]) (L ++ [o]):=by
 have hl:=h.len
 have hX:∀ i,i < L.length->(X ++ [x]).getD i (.bool false)=X.getD i (.bool false):=fun i hi=>by rw [getD_snocV,if_pos (by omega)]
 have hXn:(X ++ [x]).getD L.length (.bool false)=x:=by rw [getD_snocV,if_neg (by omega),if_pos hl.symm]
 have hL:∀ i,i < L.length->(L ++ [o]).getD i none=L.getD i none:=fun i hi=>by simp [List.getD,List.getElem?_append_left hi]
 have hLn:(L ++ [o]).getD L.length none=o:=by simp [List.getD]
 have hlen:(L ++ [o]).length=L.length+1:=by simp
 refine ⟨by simp [hl],fun i hi=>?_,fun i hi=>?_,fun i j a hi hj hij ha=>?_⟩
 ·rw [hlen] at hi
  rcases Nat.lt_or_eq_of_le (Nat.lt_succ_iff.1 hi) with q | q
  ·rw [hX i q,hL i q]; exact h.each i q
  ·rw [q,hXn,hLn]
   cases o with
   | none=>exact hx
   | some l=>obtain ⟨a,h1,h2⟩:=hx; exact ⟨a,by omega,h2⟩
 ·rw [hlen] at hi
  rcases Nat.lt_or_eq_of_le (Nat.lt_succ_iff.1 hi) with q | q
  ·rw [hX i q]; exact h.away i q
  ·rw [q,hXn]; intro e; have:=hx.lt g e; omega
 ·rw [hlen] at hi hj
  rcases Nat.lt_or_eq_of_le (Nat.lt_succ_iff.1 hi) with q | q
  ·rw [hX i q] at ha
   rcases Nat.lt_or_eq_of_le (Nat.lt_succ_iff.1 hj) with q' | q'
   ·rw [hX j q']; exact h.apart i j a q q' hij ha
   ·rw [q',hXn]; intro e; have:=hx.lt a e; have:=hnew i q a ha; omega
  ·rw [q,hXn] at ha
   rcases Nat.lt_or_eq_of_le (Nat.lt_succ_iff.1 hj) with q' | q'
   ·rw [hX j q']; intro e; have:=hx.lt a ha; have:=hnew j q' a e; omega
   ·omega
def DOut (w:World) (s:ByteArray):Ending->World->Prop:=fun e w'=>Below w.heap.size w w' /\
 ((decF (bytesOf s)=none/\e=.returned (.tuple #[.slice none 0 0,.int .i64 4])) \/
  ∃ L g X,decF (bytesOf s)=some L/\e=.returned (.tuple #[.slice (some ⟨g,0,none⟩) L.length 21,.int .i64 0])/\w.heap.size<=g/\w'.ownsRow w.heap.size 32 1 (.slice (some ⟨g,0,none⟩) L.length 21) L.length X/\LLs w' w.heap.size g X L)
end Go.Proofs.YtffajooegiempaaGreatDoor

namespace Go.Proofs.YtffajooegiempaaGreatDoor
open Go.RowKit
variable {w:World} {s:ByteArray}
theorem pts_at {i:CSt} (hi:i.1<=s.size):∀ n,(ptsF (bytesOf s) (i,[]) n).1.1<=s.size
 | 0=>hi
 | n+1=>by
  have:=pts_at hi n
  show (if (ptsF (bytesOf s) (i,[]) n).1.2 then ptsF (bytesOf s) (i,[]) n else _).1.1<=_
  split
  ·exact this
  ·exact pt_at this
theorem pts_len {i:CSt}:∀ n,(ptsF (bytesOf s) (i,[]) n).2.length<=n
 | 0=>Nat.le_refl _
 | n+1=>by
  have:=pts_len (i:=i) n
  show (if (ptsF (bytesOf s) (i,[]) n).1.2 then ptsF (bytesOf s) (i,[]) n else _).2.length<=_
  split
  ·omega
  ·simp; omega
theorem pts_stay {x:CSt × List (Option (List Int))} {n:Nat} (h:(ptsF (bytesOf s) x n).1.2=true):∀ k,ptsF (bytesOf s) x (n+k)=ptsF (bytesOf s) x n
 | 0=>rfl
 | k+1=>by
  have:=pts_stay h k
  show (if (ptsF (bytesOf s) x (n+k)).1.2 then ptsF (bytesOf s) x (n+k) else _)=_
  rw [this,if_pos h]
theorem c_decode (hs:s.size<=9223372036854775807):Calls Tryz.prog 83 #[.string s] w (DOut w s):=by
 obtain ⟨wa,hwa⟩:∃ wa,wa=w.alloc (.cells #[.string s,.int .i64 0,.bool false] tCr):=⟨_,rfl⟩
 have hc0:Cat wa w.heap.size s (0,false):=by rw [hwa]; exact At.new _ _ _
 have h1:=c_number hc0 hs (by show 0<=s.size; omega) 1 21 (by omega)
 have hsa:wa.heap.size=w.heap.size+1:=by rw [hwa]; simp
 have r1:=num_range (bys s) 1 21 (by omega) (0,false)
 have hd1:=num_at (s:=s) (lo:=1) (hi:=21) (d:=(0,false)) (by omega) (by show 0<=s.size; omega)
 have HBa:Hid (Below w.heap.size w wa):=by rw [hwa]; exact (Below.refl _ _).alloc (Nat.le_refl _) _
 obtain ⟨F,hF⟩:∃ F,F=ptsF (bytesOf s) ((numF (bytesOf s) 1 21 (0,false)).2,[]):=⟨_,rfl⟩
 have h21:(numF (bytesOf s) 1 21 (0,false)).1<=21:=by
  unfold numF; split
  ·show (0:Int)<=21; omega
  ·rename_i q; show pkc _ _<=21; omega
 have HE:Hid (decF (bytesOf s)=if (F (numF (bytesOf s) 1 21 (0,false)).1.toNat).1.2=true \/ (F (numF (bytesOf s) 1 21 (0,false)).1.toNat).1.1 ≠ (bytesOf s).length then none else some (F (numF (bytesOf s) 1 21 (0,false)).1.toNat).2):=by rw [hF]; rfl
 have HF:Hid (∀ n,F (n+1)=if (F n).1.2 then F n else ((ptF (bytesOf s) (F n).1).2,(F n).2 ++ [(ptF (bytesOf s) (F n).1).1])):=by rw [hF]; intro n; rfl
 have HFa:Hid (∀ n,(F n).1.1<=s.size):=by rw [hF]; exact pts_at hd1
 have HFs:Hid (∀ n k,(F n).1.2=true->F (n+k)=F n):=by rw [hF]; exact fun n k h=>pts_stay h k
 have HFl:Hid (∀ n,(F n).2.length<=n):=by rw [hF]; exact pts_len
 have HF0:Hid (F 0=((numF (bytesOf s) 1 21 (0,false)).2,[])):=by rw [hF]; rfl
 have hmk:∀ w,(Instr.makeSlice 54 (.int .i64 0) (.int .i64 21)).run Tryz.prog w=.ok (.slice (some ⟨w.heap.size,0,none⟩) 0 21) (w.alloc (.cells (List.replicate 21 (Value.slice none 0 0)).toArray 32)):=fun _=>by kernel_rfl
 obtain ⟨i0,hi0,hz0,hz1,hz2⟩:=info_parts (P:=Tryz.prog) (e:=32) (z:=.slice none 0 0) (size:=1) (bytes:=24) (by kernel_rfl)
 have HOw:Hid (∀ (w1:World),(w1.alloc (.cells (List.replicate 21 (Value.slice none 0 0)).toArray 32)).ownsRow w1.heap.size 32 1 (.slice (some ⟨w1.heap.size,0,none⟩) 0 21) 0 []):=fun w1=>World.ownsRow_made w1 _ 21 (Nat.le_refl _) (by decide) rfl
 have HPt:Hid (∀ (w1:World) (d:CSt),Cat w1 w.heap.size s d->d.1<=s.size->Calls Tryz.prog 118 #[.pointer (some ⟨w.heap.size,0,none⟩)] w1 (POut w1 w.heap.size s d)):=fun w1 d hc hd=>c_point hc hs hd
 have HLb:Hid ((bytesOf s).length=s.size):=bytesOf_len s
 generalize numF (bytesOf s) 1 21 (0,false)=x at *
 obtain ⟨x1,x2⟩:=x
 simp only at r1 hd1 h1 h21 HE
 have hx0:0<=x1:=r1.1
 obtain ⟨k,rfl⟩:∃ k:Nat,x1=(k:Int):=⟨x1.toNat,by omega⟩
 rw [Int.toNat_natCast] at HE
 generalize (List.replicate 21 (Value.slice none 0 0)).toArray=zs at *
 rw [hwa] at h1
 clear hF r1 hc0
 go_enter Tryz.func83,Tryz.ntmps83
 go_wp2_with fail
 rw [<- hwa] at h1 |-
 refine h1.mono ?_
 rintro e w1 ⟨rfl,hc1,ho1⟩
 have hs1:=ho1.size
 have hr1:=hc1.lt
 have H1:Hid (Cat (w1.alloc (.cells zs 32)) w.heap.size s x2/\Below w.heap.size w (w1.alloc (.cells zs 32))/\(w1.alloc (.cells zs 32)).ownsRow w1.heap.size 32 1 (.slice (some ⟨w1.heap.size,0,none⟩) 0 21) 0 []):=⟨At.allocH hc1 _,(HBa.out.trans (ho1.below (Nat.le_refl _) (by omega))).alloc (by omega) _,HOw.out w1⟩
 clear hc1 ho1 h1 hwa
 go_wp2_with fail
 go_loopw [6,7] (fun sl i wr=>∃ (q n:Nat) (X:List Value),q<=k/\i=.int .i64 q/\n<=q/\sl=.slice (some ⟨w1.heap.size,0,none⟩) n 21/\Hid (n=(F q).2.length/\wr.ownsRow w1.heap.size 32 1 (.slice (some ⟨w1.heap.size,0,none⟩) n 21) n X/\Cat wr w.heap.size s (F q).1/\Below w.heap.size w wr/\w1.heap.size < wr.heap.size/\LLs wr (w1.heap.size+1) w1.heap.size X (F q).2)) (fun _ i _=>k - (intOf i).toNat)
 case atStart=>exact ⟨0,0,[],by omega,rfl,by omega,rfl,by rw [HF0.out]; rfl,H1.out.2.2,by rw [HF0.out]; exact H1.out.1,H1.out.2.1,by simp,by rw [HF0.out]; exact ⟨rfl,fun i hi=>absurd hi (by simp),fun i hi=>absurd hi (by simp),fun i j a hi=>absurd hi (by simp)⟩⟩
 case round =>
  obtain ⟨q,n,X,hq,rfl,hn,rfl,HR⟩:=hrel
  have hat:=HFa.out q
  have HCq:Hid (Cat wr w.heap.size s (F q).1):=HR.out.2.2.1
  obtain ⟨c0,c1,c2,cf⟩:=HCq.out.cells
  have hrr:=HCq.out.lt
  have hzr:=HR.out.2.2.2.2.1
  have HFq:=(show Hid (_=_) from HF.out q)
  have HStay:Hid ((F q).1.2=true->F k=F q):=fun h=>by have:=HFs.out q (k - q) h; rwa [show q+(k - q)=k by omega] at this
  by_cases hlt:q < k
  ·have hqi:(q:Int) < (k:Int):=by omega
   cases hw:(F q).1.2 with
   | true =>
    rw [hw] at c2
    have HX:Hid (decF (bytesOf s)=none):=by show _=_; rw [HE.out,HStay.out hw,if_pos (.inl hw)]
    clear hw
    go_wp2_with fail
    go_ret2
    exact ⟨HR.out.2.2.2.1,.inl ⟨HX.out,rfl⟩⟩
   | false =>
    rw [hw] at c2
    have hpt:=HPt.out wr (F q).1 HCq.out hat
    unfold POut at hpt
    have HX:Hid (F (q+1)=((ptF (bytesOf s) (F q).1).2,(F q).2 ++ [(ptF (bytesOf s) (F q).1).1])):=by show _=_; rw [HFq.out,hw]; rfl
    clear hw
    generalize ptF (bytesOf s) (F q).1=pp at *
    go_wp2_with fail
    refine hpt.mono ?_
    rintro e w3 ⟨v3,rfl,hv3,hc3,ho3⟩
    have hz3:wr.heap.size<=w3.heap.size:=ho3.size
    have H3:Hid (Cat w3 w.heap.size s pp.2/\Below w.heap.size w w3/\w3.ownsRow w1.heap.size 32 1 (.slice (some ⟨w1.heap.size,0,none⟩) n 21) n X/\LLs w3 (w1.heap.size+1) w1.heap.size (X ++ [v3]) ((F q).2 ++ [pp.1])):=by
     refine ⟨hc3,HR.out.2.2.2.1.trans (ho3.below (Nat.le_refl _) (by omega)),ownsRow_below HR.out.2.1 (fun k hk=>ho3.block k (HR.out.2.1.lt k hk).2 (by cases hk; show w1.heap.size ≠ w.heap.size; omega)),?_⟩
     have hL:=HR.out.2.2.2.2.2
     refine (hL.same (w':=w3) (fun k hk hb _=>ho3.block k hk (by omega))).snoc hv3 (by omega) (by omega) (fun i hi k hk=>((hL.each i hi).lt k hk).2)
    have HF1:Hid (∀ w5,(w3.alloc (.cells #[v3] 32)).grownBy w5 (some w1.heap.size)->w5.ownsRow w1.heap.size 32 1 (.slice (some ⟨w1.heap.size,0,none⟩) (n+1) 21) (n+1) (X ++ [v3]) ->
      n+1=(F (q+1)).2.length/\w5.ownsRow w1.heap.size 32 1 (.slice (some ⟨w1.heap.size,0,none⟩) (n+1) 21) (n+1) (X ++ [v3])/\Cat w5 w.heap.size s (F (q+1)).1/\Below w.heap.size w w5/\w1.heap.size < w5.heap.size/\LLs w5 (w1.heap.size+1) w1.heap.size (X ++ [v3]) (F (q+1)).2):=by
     intro w5 hg ho
     have hbk:∀ k,k < w3.heap.size->k ≠ w1.heap.size->w5.heap[k]?=w3.heap[k]?:=fun k hk hne=>(hg.block k (by simp; omega) (by intro e; have:=Option.some.inj e; omega)).trans (heap_alloc_old _ _ hk)
     have hs5:=hg.size
     rw [HX.out]
     refine ⟨by simp [HR.out.1],ho,At.same H3.out.1 (hbk _ (by omega) (by omega)),?_,by simp at hs5; omega,H3.out.2.2.2.same (fun k hk _ hne=>hbk k hk hne)⟩
     exact (H3.out.2.1.alloc H3.out.2.1.size _).grown hg (by simp; omega) (fun k hk=>by cases hk; omega)
    have HV:Hid (PV w3 wr.heap.size v3 pp.1):=hv3
    clear hv3 hc3 ho3 hpt HX
    generalize pp.1=oo at *
    cases oo with
    | none =>
     have hv:v3=.slice none 0 0:=HV.out
     subst hv
     go_wp2_with (at_builtin; refine wpList_append_fits _ rfl (.tmp 24) (.tmp 26) 54 rfl w1.heap.size 32 i0 1 Tryz.underlying54 hi0 hz1 w1.heap.size n 21 _ rfl (H3.out.2.2.1.alloc _) ⟨w3.heap.size,0,none⟩ 1 1 [Value.slice none 0 0] rfl rfl (by intro t u ht; match t,ht with | 0,ht=>simp at ht; subst ht; exact World.cell?_alloc_at _ _ _ _ rfl) (by intro u hu; simp at hu; subst hu; rfl) (by omega) ?_; intro w5 hown5 hgrow5)
     go_roundw
     case rel=>exact ⟨q+1,n+1,X ++ [Value.slice none 0 0],by omega,by go_num,by omega,rfl,HF1.out w5 hgrow5 hown5⟩
     case measure=>simp [intOf]; omega
    | some l =>
     obtain ⟨g3,hg3,hv,-,-⟩:=HV.out
     subst hv
     go_wp2_with (at_builtin; refine wpList_append_fits _ rfl (.tmp 24) (.tmp 26) 54 rfl w1.heap.size 32 i0 1 Tryz.underlying54 hi0 hz1 w1.heap.size n 21 _ rfl (H3.out.2.2.1.alloc _) ⟨w3.heap.size,0,none⟩ 1 1 [Value.slice (some ⟨g3,0,none⟩) 32 32] rfl rfl (by intro t u ht; match t,ht with | 0,ht=>simp at ht; subst ht; exact World.cell?_alloc_at _ _ _ _ rfl) (by intro u hu; simp at hu; subst hu; rfl) (by omega) ?_; intro w5 hown5 hgrow5)
     go_roundw
     case rel=>exact ⟨q+1,n+1,X ++ [Value.slice (some ⟨g3,0,none⟩) 32 32],by omega,by go_num,by omega,rfl,HF1.out w5 hgrow5 hown5⟩
     case measure=>simp [intOf]; omega
  ·have hqk:q=k:=by omega
   subst hqk
   have hqi:¬ (q:Int) < (q:Int):=by omega
   have HFin:Hid (∀ wr':World,w.heap.size<=w1.heap.size->wr.ownsRow w1.heap.size 32 1 (.slice (some ⟨w1.heap.size,0,none⟩) n 21) n X->n=(F q).2.length->wr.ownsRow w.heap.size 32 1 (.slice (some ⟨w1.heap.size,0,none⟩) (F q).2.length 21) (F q).2.length X/\LLs wr w.heap.size w1.heap.size X (F q).2):=by
    intro _ hb ho hn
    rw [<- hn]
    refine ⟨ownsRow_base' ho hb,?_⟩
    have hL:=HR.out.2.2.2.2.2
    refine ⟨hL.len,fun i hi=>?_,hL.away,hL.apart⟩
    have:=hL.each i hi
    cases e:(F q).2.getD i none with
    | none=>rw [e] at this; exact this
    | some l=>rw [e] at this; obtain ⟨a,h1,h2⟩:=this; exact ⟨a,by omega,h2⟩
   cases hw:(F q).1.2 with
   | true =>
    rw [hw] at c2
    have HX:Hid (decF (bytesOf s)=none):=by show _=_; rw [HE.out,if_pos (.inl hw)]
    clear hw
    go_wp2_with fail
    go_ret2
    exact ⟨HR.out.2.2.2.1,.inl ⟨HX.out,rfl⟩⟩
   | false =>
    rw [hw] at c2
    by_cases hl:(F q).1.1=s.size
    ·have HX:Hid (decF (bytesOf s)=some (F q).2):=by show _=_; rw [HE.out,if_neg (by rw [hw,HLb.out]; simp [hl])]
     rw [hl] at c1
     have HN:=(show Hid (_=_) from HR.out.1)
     clear hw hl
     go_wp2_with fail
     go_ret2
     have hf:=HFin.out wr (by omega) HR.out.2.1 HR.out.1
     refine ⟨HR.out.2.2.2.1,.inr ⟨(F q).2,w1.heap.size,X,HX.out,?_,by omega,hf.1,hf.2⟩⟩
     rw [<- HN.out]; rfl
    ·have HX:Hid (decF (bytesOf s)=none):=by show _=_; rw [HE.out,if_pos (.inr (by rw [HLb.out]; exact hl))]
     have hl':(((F q).1.1:Int) != (s.size:Int))=true:=by rw [bne_iff_ne]; omega
     clear hw hl
     go_wp2_with fail
     go_ret2
     exact ⟨HR.out.2.2.2.1,.inl ⟨HX.out,rfl⟩⟩
end Go.Proofs.YtffajooegiempaaGreatDoor

namespace Go.Proofs.YtffajooegiempaaGreatDoor
open Go.RowKit
variable {s:ByteArray}
theorem son_bytes (s:ByteArray):strOfNums (bytesOf s)=s:=by
 apply ByteArray.ext
 apply Array.toList_inj.1
 simp only [strOfNums,bytesOf,List.map_map]
 conv=>rhs; rw [<- List.map_id s.data.toList]
 apply List.map_congr_left
 intro b _
 show UInt8.ofNat (Int.toNat ((b.toNat:Nat):Int))=b
 rw [Int.toNat_natCast]
 exact UInt8.ofNat_toNat
theorem bytes_son {xs:List Int} (h:∀ x,x ∈ xs->0<=x/\x<=255):bytesOf (strOfNums xs)=xs:=by
 simp only [strOfNums,bytesOf,List.map_map]
 conv=>rhs; rw [<- List.map_id xs]
 apply List.map_congr_left
 intro x hx
 have:=h x hx
 show (((UInt8.ofNat x.toNat).toNat:Nat):Int)=x
 rw [UInt8.toNat_ofNat']
 omega
theorem tp_mem {l:List Int}:∀ n x,x ∈ tpC l n->x.1 < n/\x.2=l.getD x.1 0/\x.2 ≠ 1000000
 | 0,x,h=>by cases h
 | n+1,x,h=>by
  have h':x ∈ tpC l n ++ (if l.getD n 0=1000000 then [] else [(n,l.getD n 0)]):=h
  rcases List.mem_append.1 h' with q | q
  ·have:=tp_mem n x q; exact ⟨by omega,this.2⟩
  ·split at q
   ·cases q
   ·rename_i e
    rw [List.mem_singleton] at q
    subst q
    exact ⟨by show n < n+1; omega,rfl,e⟩
theorem tl_byte {l:List Int} (hb:∀ f,f < 32->cBd (l.getD f 0)) {N:Nat} (hN:N<=32):∀ x,x ∈ tl l N->0<=x/\x<=255:=by
 intro x hx
 unfold tl at hx
 obtain ⟨y,hy,hxy⟩:=List.mem_flatMap.1 hx
 obtain ⟨h1,h2,h3⟩:=tp_mem N y hy
 have:=(hb y.1 (by omega)).resolve_left (by rw [<- h2]; exact h3)
 rw [<- h2] at this
 unfold b3 at hxy
 simp only [List.mem_cons,List.not_mem_nil,or_false] at hxy
 rcases hxy with e | e | e <;> omega
theorem enc1_byte {r:Option (List Int)} (hr:okp r):∀ x,x ∈ enc1 r->0<=x/\x<=255:=by
 cases r with
 | none=>intro x hx; rw [show enc1 none=[0] from rfl,List.mem_singleton] at hx; omega
 | some l =>
  intro x hx
  rw [enc1_some] at hx
  have hc:=ct_le l 32
  have ht:=tl_byte (hr l rfl).2 (Nat.le_refl 32) x
  generalize tl l 32=T at *
  generalize ct l 32=C at *
  rcases List.mem_cons.1 hx with e | hx
  ·omega
  ·rcases List.mem_cons.1 hx with e | hx
   ·omega
   ·exact ht hx
theorem encs_byte {L:List (Option (List Int))} (hL:∀ r,r ∈ L->okp r):∀ n x,x ∈ encs L n->0<=x/\x<=255
 | 0,x,h=>by cases h
 | n+1,x,h=>by
  have h':x ∈ encs L n ++ enc1 (L.getD n none):=h
  rcases List.mem_append.1 h' with q | q
  ·exact encs_byte hL n x q
  ·exact enc1_byte (getD_ok hL n) x q
theorem encB_byte {L:List (Option (List Int))} (hL:∀ r,r ∈ L->okp r) (h21:L.length<=21):∀ x,x ∈ encB L->0<=x/\x<=255:=by
 intro x hx
 rcases List.mem_cons.1 hx with e | hx
 ·omega
 ·exact encs_byte hL _ x hx
theorem okp_gd {r:Option (List Int)}:okp r ↔ gdO r=true:=by
 cases r with
 | none=>exact ⟨fun _=>rfl,fun _ l e=>by cases e⟩
 | some l =>
  show _ ↔ gdB l=true
  rw [gdB_ok]
  constructor
  ·intro h
   obtain ⟨h1,h2⟩:=h l rfl
   exact ⟨h1,fun i hi=>decide_eq_true (h2 i hi)⟩
  ·rintro ⟨h1,h2⟩ l' e
   injection e with e
   subst e
   exact ⟨h1,fun f hf=>by have:=of_decide_eq_true (h2 f hf); exact this⟩
theorem gdA_okp {L:List (Option (List Int))}:gdA L L.length=true ↔ ∀ r,r ∈ L->okp r:=by
 rw [gdA_all]
 constructor
 ·intro h r hr
  obtain ⟨i,hi,e⟩:=List.getElem_of_mem hr
  have:=h i hi
  rw [show L.getD i none=r by simp [List.getD,hi,e]] at this
  exact okp_gd.2 this
 ·intro h i _
  exact okp_gd.1 (getD_ok h i)
def decR (s:ByteArray):Option (List (Option (List Int))) :=
 match looF (bytesOf s) with
 | none=>none
 | some L=>if (encR L).2=0/\strOfNums (encR L).1=s then some L else none
theorem decR_eq (s:ByteArray):decR s=decF (bytesOf s):=by
 cases e:decF (bytesOf s) with
 | some L =>
  obtain ⟨h1,h2,h3,h4⟩:=dec_ok (bys s) e
  have hl:=loo_yes h2 h3 h4 h1
  have he:encR L=(encB L,0):=by unfold encR; rw [if_neg (by omega),if_pos (gdA_okp.2 h4)]
  unfold decR
  rw [hl]
  simp only
  rw [he,if_pos ⟨rfl,by rw [<- h1,son_bytes]⟩]
 | none =>
  unfold decR
  cases q:looF (bytesOf s) with
  | none=>rfl
  | some L =>
   simp only
   rw [if_neg]
   rintro ⟨h1,h2⟩
   unfold encR at h1 h2
   by_cases q1:L.length < 1 \/ 21 < L.length
   ·rw [if_pos q1] at h1; cases h1
   ·rw [if_neg q1] at h1 h2
    by_cases q2:gdA L L.length=true
    ·rw [if_pos q2] at h2
     have h4:=gdA_okp.1 q2
     have hb:bytesOf s=encB L:=by
      rw [<- show strOfNums (encB L)=s from h2]
      exact bytes_son (encB_byte h4 (by omega))
     rw [dec_yes (by omega) (by omega) h4 hb] at e
     cases e
    ·rw [if_neg q2] at h1; cases h1
end Go.Proofs.YtffajooegiempaaGreatDoor

namespace Go.Proofs.YtffajooegiempaaGreatDoor
open Go.RowKit
theorem ownsRow_base {w:World} {B B':Nat} {e:TypeId} {size:Nat} {v:Value} {n:Nat} {xs:List Value} (h:w.ownsRow B e size v n xs) (hB:B'<=B):w.ownsRow B' e size v n xs:=by
 obtain ⟨h1,h2⟩:=h
 refine ⟨h1,?_⟩
 rcases h2 with h2 | ⟨g,cap,c,hv,hg,rest⟩
 ·exact .inl h2
 ·exact .inr ⟨g,cap,c,hv,by omega,rest⟩
theorem run_append_own2 {P:Program} (w:World) (base:Nat) (t ty e:TypeId) (i:TypeInfo) (z:Value) (size bytes:Nat) (ht:P.underlying t=some (.slice e)) (hi:P.info? e=some i) (hz:i.zero=some z)
  (hsize:i.size=size) (hby:i.bytes=bytes) (hzs:z.cells.size=size) (hsz:0 < size)
  (v:Value) (n:Nat) (xs:List Value) (hown:w.ownsRow base e size v n xs)
  (a:Addr) (m c:Nat) (news:List Value) (hl:news.length=m*size) (hnews:∀ j u,news[j]?=some u->w.cell? (a.add j)=some u) (h1:∀ u ∈ news,u.oneCell'=true)
  (h63:n+m<=maxLen) (hbytes:(n+m)*bytes<=140737488355328) (hbase:base<=w.heap.size) :
  ∃ v' w',(Builtin.append_ #[t,t] ty #[v,.slice (some a) m c]).run P w=.ok v' w'/\w'.ownsRow base e size v' (n+m) (xs ++ news)/\w.grownBy w' v.ownBlock /\
   (v'.ownBlock=v.ownBlock \/ ∀ g,v'.ownBlock=some g->w.heap.size<=g):=by
 rcases hown.2 with ⟨rfl,rfl⟩ | ⟨g,cap,cur,rfl,hbg,hg,hnc,hcm,hcs,htake⟩
 ·have hx:xs=[]:=List.eq_nil_of_length_eq_zero (by simpa using hown.1)
  subst hx
  obtain ⟨v',w',h2,h3,h4,_⟩:=run_append_own (P:=P) w w.heap.size t ty e i z size bytes ht hi hz hsize hby hzs hsz (.slice none 0 0) 0 [] (World.ownsRow_nil w _ e size) a m c news hl hnews h1 h63 hbytes (Nat.le_refl _)
  exact ⟨v',w',h2,ownsRow_base h3 hbase,h4,.inr fun g hg=>(h3.lt g hg).1⟩
 ·by_cases hroom:n+m<=cap
  ·obtain ⟨w',h2,h3,h4⟩:=run_append_fits (P:=P) w base t ty e i size ht hi hsize g n cap xs hown a m c news hl hnews h1 hroom
   exact ⟨_,w',h2,h3,h4,.inl rfl⟩
  ·obtain ⟨v',w',h2,h3,h4⟩:=run_append_arg_grows (P:=P) w t ty e i z size bytes ht hi hz hsize hby hzs hsz ⟨g,0,none⟩ n cap xs hown.1 (hown.cells (g:=g) rfl) a m c news hl hnews (by omega) h63 hbytes
   exact ⟨v',w',h2,ownsRow_base h3 hbase,⟨h4.os,h4.tape,h4.output,h4.size,fun k hk _=>h4.block k hk (by simp)⟩,.inr fun g hg=>(h3.lt g hg).1⟩
theorem wpList_append_own2 {P:Program} {w:World} {ops:Array Oper} {rest:List Oper} {o:Oper} {a:Act} {Q:Exit->Act->World->Prop} (hgd:o.guard=none) (s x:Operand) (t:TypeId)
  (ho:o.op=.call { callee:=.builtin .append,args:=#[s,x],argTypes:=#[t,t] })
  (base:Nat) (e:TypeId) (i:TypeInfo) (z:Value) (size bytes:Nat) (ht:P.underlying t=some (.slice e)) (hi:P.info? e=some i) (hz:i.zero=some z)
  (hsize:i.size=size) (hby:i.bytes=bytes) (hzs:z.cells.size=size) (hsz:0 < size)
  (v:Value) (n:Nat) (xs:List Value) (hs:a.eval s=v) (hown:w.ownsRow base e size v n xs)
  (ad:Addr) (m c:Nat) (news:List Value) (hx:a.eval x=.slice (some ad) m c) (hl:news.length=m*size) (hnews:∀ j u,news[j]?=some u->w.cell? (ad.add j)=some u) (h1:∀ u ∈ news,u.oneCell'=true)
  (h63:n+m<=maxLen) (hbytes:(n+m)*bytes<=140737488355328) (hbase:base<=w.heap.size)
  (h:∀ v' w',w'.ownsRow base e size v' (n+m) (xs ++ news)->w.grownBy w' v.ownBlock->(v'.ownBlock=v.ownBlock \/ ∀ g,v'.ownBlock=some g->w.heap.size<=g)->wpList P ops Q rest (a.put o.dst v') w'):wpList P ops Q (o :: rest) a w:=by
 refine wpList_plain hgd fun _ hK=>?_
 obtain ⟨v',w',hr,h2,h3,h4⟩:=run_append_own2 (P:=P) w base t o.type e i z size bytes ht hi hz hsize hby hzs hsz v n xs hown ad m c news hl hnews h1 h63 hbytes hbase
 unfold Oper.wp execOp
 simp only [ho,resolve,invoke,builtin,Sem.run_bind,Sem.run_pure,Result.andThen_ok,List.map_toArray,List.map_cons,List.map_nil,hs,hx,hr]
 exact hK _ _ (h v' w' h2 h3 h4)
end Go.Proofs.YtffajooegiempaaGreatDoor

