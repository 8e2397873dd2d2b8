import Derived.Test.YtffajooegiempaaGreatDoorJ1
import Derived.Laws.AppendOwn
import Derived.Laws.OwnMore
import Derived.ArgAppend
set_option maxRecDepth 100000
set_option maxHeartbeats 6400000
namespace Go.Proofs.YtffajooegiempaaGreatDoor
open Go.RowKit
variable {w:World}{r:Nat}{s:ByteArray}{d:ES}
theorem Ys(hd:d.1<=s.size):(JW (AA s) d).2.1<=s.size:=GR (by omega) (GR (by omega) hd)
theorem Se(s:ByteArray)(d:ES): -4000<=(JW (AA s) d).1/\(JW (AA s) d).1<=70000:=by
 have r1:=EC (Om s) 0 255 (by omega) d;have r2:=EC (Om s) 0 255 (by omega) (Ai (AA s) 0 255 d).2;show -4000<=(Ai (AA s) 0 255 d).1*256+(Ai (AA s) 0 255 (Ai (AA s) 0 255 d).2).1-4000/\_;constructor
 ·omega
 ·show(Ai (AA s) 0 255 d).1*256+(Ai (AA s) 0 255 (Ai (AA s) 0 255 d).2).1-4000<=70000;omega
def iv(xs:List Int):List Value:=xs.map (Value.int .i64)
def SN(w:World)(base:Nat)(v:Value)(xs:List Int):Prop:=∃g,base<=g/\v=.slice (some ⟨g,0,none⟩) xs.length 32/\w.ownsRow base 3 1 (.slice (some ⟨g,0,none⟩) xs.length 32) xs.length (iv xs)
theorem TH{t:Nat}{i:ES}:∀n,(DT (AA s) (t,i,[]) n).1<=t
 |0=>Nat.le_refl _
 |n+1=>by
  have:=TH (t:=t) (i:=i) n;show(Ni _ _ (DT (AA s) (t,i,[]) n)).1<=t;unfold Ni;split
  ·show _-1<=t;omega
  ·exact this
theorem O5{t:Nat}{i:ES}(hi:i.1<=s.size):∀n,(DT (AA s) (t,i,[]) n).2.1.1<=s.size
 |0=>hi
 |n+1=>by
  have:=O5 (t:=t) hi n;show(Ni _ _ (DT (AA s) (t,i,[]) n)).2.1.1<=_;generalize DT (AA s) (t,i,[]) n=x at *;unfold Ni;split
  ·rename_i q;refine Ys ?_;have q2:=q.2;unfold Fi at q2;rw[AR]at q2;show x.2.1.1+1<=s.size;by_cases e:x.2.1.1<s.size
   ·omega
   ·rw[if_neg e]at q2;omega
  ·exact this
theorem Ha{w:World}{base base' e size n:Nat}{v:Value}{xs:List Value}(h:w.ownsRow base e size v n xs)(hb:base'<=base):w.ownsRow base' e size v n xs:=by
 obtain⟨h1,h2⟩:=h;refine⟨h1,?_⟩;rcases h2 with h2|⟨g,cap,c,hv,hg,rest⟩
 ·exact .inl h2
 ·exact .inr ⟨g,cap,c,hv,by omega,rest⟩
theorem Sq(h:Eh w r s d)(hs:s.size<=9223372036854775807)(hd:d.1<=s.size):
  Calls Tryz.prog 144 #[.pointer (some ⟨r,0,none⟩)] w λe w'=>∃v,e=.returned v/\SN w' w.heap.size v (Kx (AA s) d).1/\Eh w' r s (Kx (AA s) d).2/\BC r w w':=by
 have h1:=GL h hs hd 0 32 (by omega);have r1:=EC (Om s) 0 32 (by omega) d;have hd1:=GR (s:=s) (lo:=0) (hi:=32) (by omega) hd;have hr0:=h.lt;obtain⟨F,hF⟩:∃F,F=DT (AA s) ((Ai (AA s) 0 32 d).1.toNat,(Ai (AA s) 0 32 d).2,[]):=⟨_,rfl⟩
 have HE:Hid (Kx (AA s) d=((F 32).2.2,((F 32).2.1.1,if 0<(F 32).1 then true else(F 32).2.1.2))):=by rw[hF];rfl
 have HF:Hid (∀n,F (n+1)=Ni (AA s) n (F n)):=by rw[hF];intro n;rfl
 have HFl:Hid (∀n,(F n).2.2.length=n):=by rw[hF];exact IQ rfl
 have HFa:Hid (∀n,(F n).2.1.1<=s.size):=by rw[hF];exact O5 hd1
 have HFt:Hid (∀n,(F n).1<=(Ai (AA s) 0 32 d).1.toNat):=by rw[hF];exact TH
 have HF0:Hid (F 0=((Ai (AA s) 0 32 d).1.toNat,(Ai (AA s) 0 32 d).2,[])):=by rw[hF];rfl
 have hmk:∀w,(Instr.makeSlice 32 (.int .i64 0) (.int .i64 32)).run Tryz.prog w=.ok (.slice (some ⟨w.heap.size,0,none⟩) 0 32) (w.alloc (.cells (ic (List.replicate 32 0)) 3)):=λ_=>by kernel_rfl
 obtain⟨i0,hi0,hz0,hz1,hz2⟩:=info_parts (P:=Tryz.prog) (e:=3) (z:=.int .i64 0) (size:=1) (bytes:=8) (by kernel_rfl);have HOw:Hid (∀(w1:World),(w1.alloc (.cells (ic (List.replicate 32 0)) 3)).ownsRow w1.heap.size 3 1 (.slice (some ⟨w1.heap.size,0,none⟩) 0 32) 0 []):=λw1=>World.ownsRow_made w1 (ic (List.replicate 32 0)) 32 (Nat.le_refl _) (by decide) rfl;obtain⟨I,hI⟩:∃I,I=(if 0<(F 32).1 then true else(F 32).2.1.2):=⟨_,rfl⟩
 rw[HE.out,<-hI];have HI0:Hid (I=(if 0<(F 32).1 then true else(F 32).2.1.2)):=hI;clear hI;generalize Ai (AA s) 0 32 d=x at *;obtain⟨x1,x2⟩:=x;simp only at r1 hd1 h1;have hx0:0<=x1:=r1.1;have hx1:x1<=255:=r1.2.1;obtain⟨k,rfl⟩:∃k:Nat,x1=(k:Int):=⟨x1.toNat,by omega⟩
 rw[Int.toNat_natCast]at HFt HF0;have HP:Hid (∀(w1:World)(d:ES),Eh w1 r s d->d.1<=s.size->Calls Tryz.prog 143 #[.pointer (some ⟨r,0,none⟩)] w1 λe w'=>e=.returned (.int .i64 (Fi (AA s) d))/\∃k,w'=w1.drewN k):=λw1 d hc hd=>Ss hc hs hd;have HBd:Hid (∀(w1:World)(d:ES),Eh w1 r s d->d.1<=s.size->Calls Tryz.prog 155 #[.pointer (some ⟨r,0,none⟩)] w1 (VH w1 r s (JW (AA s) d).2 (.int .i64 (JW (AA s) d).1))):=λw1 d hc hd=>Ve hc hs hd;have HPk:Hid (∀d:ES,0<=Fi (AA s) d->d.1<s.size):=by
  intro d hh;unfold Fi at hh;rw[AR]at hh;by_cases q:d.1<s.size
  ·exact q
  ·rw[if_neg q]at hh;omega
 clear h hF r1 HE hd;generalize ic (List.replicate 32 0)=zs at *;go_enter Tryz.func144,Tryz.ntmps144;go_wp2_with fail;refine h1.mono ?_;rintro e w1 ⟨rfl,hc1,ho1⟩;have hs1:=ho1.size;have H1:Hid (Eh (w1.alloc (.cells zs 3)) r s x2/\BC r w (w1.alloc (.cells zs 3))/\(w1.alloc (.cells zs 3)).ownsRow w1.heap.size 3 1 (.slice (some ⟨w1.heap.size,0,none⟩) 0 32) 0 []):=⟨At.allocH hc1 _,ho1.alloc _,HOw.out w1⟩
 have hr1:=hc1.lt;clear hc1 ho1 h1;go_wp2_with fail;go_loopw [3,4,5] (λt sl i wr=>∃(q:Nat)(m:Nat),q<=32/\i=.int .i64 q/\t=.int .i64 (m:Int)/\m<=255/\sl=.slice (some ⟨w1.heap.size,0,none⟩) q 32/\Hid (m=(F q).1/\wr.ownsRow w1.heap.size 3 1 (.slice (some ⟨w1.heap.size,0,none⟩) q 32) q (iv (F q).2.2)/\Eh wr r s (F q).2.1/\BC r w wr/\w1.heap.size<wr.heap.size)) (λ_ _ i _=>32-(intOf i).toNat);case atStart=>exact⟨0,k,by omega,rfl,rfl,by omega,rfl,by rw[HF0.out],by rw[HF0.out];exact H1.out.2.2,by rw[HF0.out];exact H1.out.1,H1.out.2.1,by simp⟩
 case round=>
  obtain⟨q,m,hq,rfl,rfl,hm,rfl,HR⟩:=hrel;by_cases hlt:q<32
  ·have hqi:(q:Int)<32:=by omega
   have HFq:=(show Hid (_=_)from HF.out q)
   have hat:=HFa.out q
   have HApp:Hid (∀(w5 w6:World)(y:Int)(dd:ES)(mm:Nat),F (q+1)=(mm,dd,(F q).2.2++[y])->w5.ownsRow w1.heap.size 3 1 (.slice (some ⟨w1.heap.size,0,none⟩) (q+1) 32) (q+1) (iv (F q).2.2++[.int .i64 y])->w6.grownBy w5 (some w1.heap.size)->Eh w6 r s dd->BC r w w6->w1.heap.size<w6.heap.size->
     mm=(F (q+1)).1/\w5.ownsRow w1.heap.size 3 1 (.slice (some ⟨w1.heap.size,0,none⟩) (q+1) 32) (q+1) (iv (F (q+1)).2.2)/\Eh w5 r s (F (q+1)).2.1/\BC r w w5/\w1.heap.size<w5.heap.size):=by
    intro w5 w6 y dd mm e ho hg hc hn hz;rw[e];refine⟨rfl,by simpa[iv]using ho,At.same hc (hg.block r hc.lt (by intro e;have:=Option.some.inj e;omega)),?_,Nat.lt_of_lt_of_le hz hg.size⟩;refine⟨hg.os.trans hn.os,hg.tape.trans hn.tape,hg.output.trans hn.output,Nat.le_trans hn.size hg.size,λk hk hne=>(hg.block k (Nat.lt_of_lt_of_le hk hn.size) (by intro e;have:=Option.some.inj e;omega)).trans (hn.block k hk hne)⟩
   have hkeep:∀{w5 w6:World},wr.ownsRow w1.heap.size 3 1 (.slice (some ⟨w1.heap.size,0,none⟩) q 32) q (iv (F q).2.2)->BC r wr w5->w5.ownsRow w1.heap.size 3 1 (.slice (some ⟨w1.heap.size,0,none⟩) q 32) q (iv (F q).2.2):=λ{w5 w6} h ho=>Bm h (λk hk=>ho.block k (h.lt k hk).2 (by cases hk;show w1.heap.size≠r;omega));have HKeep:Hid (∀{w5:World},BC r wr w5->w5.ownsRow w1.heap.size 3 1 (.slice (some ⟨w1.heap.size,0,none⟩) q 32) q (iv (F q).2.2)):=λ{w5} ho=>hkeep (w6:=w5) HR.out.2.1 ho;clear hkeep;have HL:Hid ((F q).2.2.length=q):=HFl.out q;have hpk:=HP.out wr (F q).2.1 HR.out.2.2.1 hat;have HBq:=(show Hid (_->_)from λ(h:(F q).2.1.1<s.size) (w2:World) (hc:Eh w2 r s ((F q).2.1.1+1,(F q).2.1.2))=>HBd.out w2 ((F q).2.1.1+1,(F q).2.1.2) hc h)
   have HPq:=(show Hid (_->_)from HPk.out (F q).2.1)
   have hbr:=Se s ((F q).2.1.1+1,(F q).2.1.2);have HM:Hid (m=(F q).1):=HR.out.1;have HFm:Hid (0<m/\Fi (AA s) (F q).2.1=q->F (q+1)=(m-1,(JW (AA s) ((F q).2.1.1+1,(F q).2.1.2)).2,(F q).2.2++[(JW (AA s) ((F q).2.1.1+1,(F q).2.1.2)).1])):=by
    intro hh;rw[HFq.out];unfold Ni;rw[<-HM.out,if_pos hh]
   have HFn:Hid (¬(0<m/\Fi (AA s) (F q).2.1=q)->F (q+1)=(m,(F q).2.1,(F q).2.2++[1000000])):=by
    intro hh;rw[HFq.out];unfold Ni;rw[<-HM.out,if_neg hh]
   have HCq:Hid (Eh wr r s (F q).2.1):=HR.out.2.2.1;obtain⟨c0,c1,c2,cf⟩:=HCq.out.cells;have hrr:=HCq.out.lt;generalize JW (AA s) ((F q).2.1.1+1,(F q).2.1.2)=bd at *;generalize Fi (AA s) (F q).2.1=x at *;generalize(F q).2.1=dq at *;obtain⟨b1,b2⟩:=bd;obtain⟨da,db⟩:=dq;simp only at c1 c2 hat hbr;by_cases hm0:0<m
   ·have hmi:(0:Int)<(m:Int):=by omega
    by_cases hx:x=q
    ·subst hx;have hda:da<s.size:=HPq.out (by omega);have HX:=(show Hid (_=_)from HFm.out ⟨hm0,rfl⟩)
     have hdi:(da:Int)+1<=9223372036854775807:=by omega
     have HC2:Hid (∀k2,Eh ((wr.drewN k2).setCell ⟨r,1,none⟩ (.int .i64 ((da:Int)+1))) r s (da+1,db)):=λk2=>(HCq.out.drewN k2).step;have HO2:Hid (∀k2,BC r wr ((wr.drewN k2).setCell ⟨r,1,none⟩ (.int .i64 ((da:Int)+1)))):=λk2=>((BC.refl _ _).drewN k2).setCell _ _;go_wp2_with (go_at_call 143;refine hpk.mono ?_;rintro e w2 ⟨rfl,k2,rfl⟩);refine(HBq.out hda _ (HC2.out k2)).mono ?_;rintro e w3 ⟨rfl,hc3,ho3⟩;have H3:Hid (Eh w3 r s b2/\BC r wr w3):=⟨hc3,(HO2.out k2).trans ho3⟩
     clear hc3 ho3;have H4:Hid (w3.ownsRow w1.heap.size 3 1 (.slice (some ⟨w1.heap.size,0,none⟩) q 32) q (iv (F q).2.2)):=HKeep.out H3.out.2;have hz3:w1.heap.size<w3.heap.size:=Nat.lt_of_lt_of_le HR.out.2.2.2.2 H3.out.2.size;go_wp2_with (at_builtin;refine wpList_append_fits _ rfl (.tmp 33) (.tmp 35) 32 rfl w1.heap.size 3 i0 1 Tryz.underlying32 hi0 hz1 w1.heap.size q 32 _ rfl (H4.out.alloc _) ⟨w3.heap.size,0,none⟩ 1 1 [.int .i64 (b1)] rfl rfl (by intro t u ht;match t,ht with|0,ht=>simp at ht;subst ht;exact World.cell?_alloc_at _ _ _ _ rfl) (by intro u hu;simp at hu;subst hu;rfl) (by omega) ?_;intro w5 hown5 hgrow5);go_roundw;case rel=>
      exact⟨q+1,(m-1),by omega,by go_num,by first|rfl|go_num,by omega,rfl,HApp.out w5 (w3.alloc (.cells #[.int .i64 (b1)] 3)) (b1) b2 ((m-1)) HX.out hown5 hgrow5 (At.allocH H3.out.1 _) ((HR.out.2.2.2.1.trans H3.out.2).alloc _) (by simp;omega)⟩
     case measure=>simp[intOf];omega
    ·have hx':(x==(q:Int))=false:=by simpa using hx
     have HX:=(show Hid (_=_)from HFn.out (by omega))
     have H3':Hid (∀k,Eh (wr.drewN k) r s (da,db)/\BC r wr (wr.drewN k)):=λk=>⟨HCq.out.drewN k,(BC.refl _ _).drewN k⟩
     go_wp2_with fail;refine hpk.mono ?_;rintro e w3 ⟨rfl,k2,hw3⟩;have H3:Hid (Eh w3 r s (da,db)/\BC r wr w3):=by show _/\_;rw[hw3];exact H3'.out k2
     clear hw3;have H4:Hid (w3.ownsRow w1.heap.size 3 1 (.slice (some ⟨w1.heap.size,0,none⟩) q 32) q (iv (F q).2.2)):=HKeep.out H3.out.2;have hz3:w1.heap.size<w3.heap.size:=Nat.lt_of_lt_of_le HR.out.2.2.2.2 H3.out.2.size;go_wp2_with (at_builtin;refine wpList_append_fits _ rfl (.tmp 33) (.tmp 35) 32 rfl w1.heap.size 3 i0 1 Tryz.underlying32 hi0 hz1 w1.heap.size q 32 _ rfl (H4.out.alloc _) ⟨w3.heap.size,0,none⟩ 1 1 [.int .i64 (1000000)] rfl rfl (by intro t u ht;match t,ht with|0,ht=>simp at ht;subst ht;exact World.cell?_alloc_at _ _ _ _ rfl) (by intro u hu;simp at hu;subst hu;rfl) (by omega) ?_;intro w5 hown5 hgrow5);go_roundw;case rel=>
      exact⟨q+1,m,by omega,by go_num,by first|rfl|go_num,by omega,rfl,HApp.out w5 (w3.alloc (.cells #[.int .i64 (1000000)] 3)) (1000000) (da,db) (m) HX.out hown5 hgrow5 (At.allocH H3.out.1 _) ((HR.out.2.2.2.1.trans H3.out.2).alloc _) (by simp;omega)⟩
     case measure=>simp[intOf];omega
   ·have hm1:m=0:=by omega
    subst hm1;have HX:=(show Hid (_=_)from HFn.out (by omega))
    obtain⟨w3,hw3⟩:∃w3,w3=wr:=⟨_,rfl⟩
    have H3:Hid (Eh w3 r s (da,db)/\BC r wr w3):=by show _/\_;rw[hw3];exact⟨HCq.out,BC.refl _ _⟩
    rw[<-hw3];clear hw3;have H4:Hid (w3.ownsRow w1.heap.size 3 1 (.slice (some ⟨w1.heap.size,0,none⟩) q 32) q (iv (F q).2.2)):=HKeep.out H3.out.2;have hz3:w1.heap.size<w3.heap.size:=Nat.lt_of_lt_of_le HR.out.2.2.2.2 H3.out.2.size;go_wp2_with (at_builtin;refine wpList_append_fits _ rfl (.tmp 33) (.tmp 35) 32 rfl w1.heap.size 3 i0 1 Tryz.underlying32 hi0 hz1 w1.heap.size q 32 _ rfl (H4.out.alloc _) ⟨w3.heap.size,0,none⟩ 1 1 [.int .i64 (1000000)] rfl rfl (by intro t u ht;match t,ht with|0,ht=>simp at ht;subst ht;exact World.cell?_alloc_at _ _ _ _ rfl) (by intro u hu;simp at hu;subst hu;rfl) (by omega) ?_;intro w5 hown5 hgrow5);go_roundw;case rel=>
     exact⟨q+1,0,by omega,by go_num,by first|rfl|go_num,by omega,rfl,HApp.out w5 (w3.alloc (.cells #[.int .i64 (1000000)] 3)) (1000000) (da,db) (0) HX.out hown5 hgrow5 (At.allocH H3.out.1 _) ((HR.out.2.2.2.1.trans H3.out.2).alloc _) (by simp;omega)⟩
    case measure=>simp[intOf];omega
  ·have hq32:q=32:=by omega
   subst hq32;have HL:Hid ((F 32).2.2.length=32):=HFl.out 32;have HOut:Hid (∀{w5:World},BC r wr w5->w5.ownsRow w1.heap.size 3 1 (.slice (some ⟨w1.heap.size,0,none⟩) 32 32) 32 (iv (F 32).2.2)):=λ{w5} ho=>Bm HR.out.2.1 (λk hk=>ho.block k (HR.out.2.1.lt k hk).2 (by cases hk;show w1.heap.size≠r;omega));have HRow:Hid (∀{w5:World},BC r wr w5->SN w5 w.heap.size (.slice (some ⟨w1.heap.size,0,none⟩) 32 32) (F 32).2.2):=λ{w5} ho=>⟨w1.heap.size,hs1,by rw[HL.out],by rw[HL.out];exact Ha (HOut.out ho) hs1⟩
   have HCq:Hid (Eh wr r s (F 32).2.1):=HR.out.2.2.1;have HOq:Hid (BC r w wr):=HR.out.2.2.2.1;obtain⟨c0,c1,c2,cf⟩:=HCq.out.cells;have hrr:=HCq.out.lt;have HM:Hid (m=(F 32).1):=HR.out.1;by_cases hm0:0<m
   ·have hmi:(0:Int)<(m:Int):=by omega
    have HI:Hid (I=true):=HI0.out.trans (if_pos (by rw[<-HM.out];exact hm0));go_wp2_with fail;go_ret;refine⟨_,rfl,HRow.out ((BC.refl _ _).setCell _ _),?_,HOq.out.setCell _ _⟩;rw[HI.out];exact HCq.out.stick
   ·have hmi:¬(0:Int)<(m:Int):=by omega
    have HI:Hid (I=(F 32).2.1.2):=HI0.out.trans (if_neg (by rw[<-HM.out];exact hm0));go_wp2_with fail;go_ret;refine⟨_,rfl,HRow.out (BC.refl _ _),?_,HOq.out⟩;rw[HI.out];exact HCq.out
def PV(w:World)(base:Nat)(v:Value):Option (List Int)->Prop
 |none=>v=.slice none 0 0
 |some l=>∃g,base<=g/\v=.slice (some ⟨g,0,none⟩) 32 32/\At w g (ic l) 3/\l.length=32
theorem SN.at_{base:Nat}{v:Value}{l:List Int}(h:SN w base v l)(hl:l.length=32):PV w base v (some l):=by
 obtain⟨g,hg,rfl,ho⟩:=h;rw[hl]at ho|-;refine⟨g,hg,rfl,?_,hl⟩;rcases ho.2 with⟨e,_⟩|⟨g',cap,cur,e,_,hh,hn4,hc4,hsz,htk⟩
 ·cases e
 ·cases e
  have:cur=ic l:=by
   apply Array.toList_inj.1;rw[<-List.take_of_length_le (l:=cur.toList) (i:=32*1) (by simp;omega),htk];simp[ic,iv]
  rw[<-this];exact hh
theorem VW(d:ES)(N:Nat):(QH (AA s) N d).1.length=N:=IQ rfl N
theorem XP(hd:d.1<=s.size)(N:Nat):(QH (AA s) N d).2.1<=s.size:=O5 (GR (by omega) hd) N
theorem XR(d:ES):(Kx (AA s) d).1.length=32:=VW d 32
theorem Yu(hd:d.1<=s.size):(Kx (AA s) d).2.1<=s.size:=XP hd 32
theorem ZH(hd:d.1<=s.size):(I8 (AA s) d).2.1<=s.size:=by
 have h1:=GR (s:=s) (d:=d) (lo:=0) (hi:=1) (by omega) hd;have h2:=Yu h1;unfold I8;simp only;generalize Kx (AA s) (Ai (AA s) 0 1 d).2=b at *;split
 ·exact h1
 ·exact h2
def XE(w:World)(r:Nat)(s:ByteArray)(d:ES):Ending->World->Prop:=λe w'=>∃v,e=.returned v/\PV w' w.heap.size v (I8 (AA s) d).1/\Eh w' r s (I8 (AA s) d).2/\BC r w w'
theorem Vf(h:Eh w r s d)(hs:s.size<=9223372036854775807)(hd:d.1<=s.size):
  Calls Tryz.prog 118 #[.pointer (some ⟨r,0,none⟩)] w (XE w r s d):=by
 have h1:=GL h hs hd 0 1 (by omega);have hd1:=GR (s:=s) (lo:=0) (hi:=1) (by omega) hd;have HB:Hid (∀w1,Eh w1 r s (Ai (AA s) 0 1 d).2->Calls Tryz.prog 144 #[.pointer (some ⟨r,0,none⟩)] w1 λe w'=>∃v,e=.returned v/\SN w' w1.heap.size v (Kx (AA s) (Ai (AA s) 0 1 d).2).1/\Eh w' r s (Kx (AA s) (Ai (AA s) 0 1 d).2).2/\BC r w1 w'):=λw1 hc=>Sq hc hs hd1;have HE:Hid (I8 (AA s) d=if(Ai (AA s) 0 1 d).1=0 then(none,(Ai (AA s) 0 1 d).2)else(some (Kx (AA s) (Ai (AA s) 0 1 d).2).1,(Kx (AA s) (Ai (AA s) 0 1 d).2).2)):=rfl;have HL:Hid ((Kx (AA s) (Ai (AA s) 0 1 d).2).1.length=32):=XR _;clear h hd1;generalize Ai (AA s) 0 1 d=x at *;obtain⟨x1,x2⟩:=x;generalize Kx (AA s) x2=b at *;by_cases hx:x1=0
 ·subst hx;go_enter Tryz.func118,Tryz.ntmps118;go_wp2_with fail;refine h1.mono ?_;rintro e w1 ⟨rfl,hc1,ho1⟩;have H1:Hid (Eh w1 r s x2/\BC r w w1):=⟨hc1,ho1⟩
  clear hc1 ho1 h1;go_wp2_with fail;go_ret;exact⟨_,rfl,by rw[HE.out];rfl,by rw[HE.out];exact H1.out.1,H1.out.2⟩
 ·have hx':(x1==0)=false:=by simpa using hx
  have HX:Hid (I8 (AA s) d=(some b.1,b.2)):=HE.out.trans (if_neg hx);go_enter Tryz.func118,Tryz.ntmps118;go_wp2_with fail;refine h1.mono ?_;rintro e w1 ⟨rfl,hc1,ho1⟩;have hb:=HB.out w1 hc1;have HO:Hid (BC r w w1):=ho1;have hs1:=ho1.size;clear hc1 ho1 h1;go_wp2_with fail;refine hb.mono ?_;rintro e w2 ⟨v,rfl,hv,hc2,ho2⟩;have H2:Hid (PV w2 w.heap.size v (some b.1)/\Eh w2 r s b.2/\BC r w w2):=by
   obtain⟨g,hg,q⟩:=hv.at_ HL.out;exact⟨⟨g,by omega,q⟩,hc2,HO.out.trans ho2⟩
  clear hv hc2 ho2 hb;go_wp2_with fail;go_ret;exact⟨_,rfl,by rw[HX.out];exact H2.out.1,by rw[HX.out];exact H2.out.2.1,H2.out.2.2⟩
structure NA(w:World)(base g:Nat)(X:List Value)(L:List (Option (List Int))):Prop where
 len:X.length=L.length
 each:∀i,i<L.length->PV w base (X.getD i (.bool false)) (L.getD i none)
 away:∀i,i<L.length->(X.getD i (.bool false)).ownBlock≠some g
 apart:∀i j a,i<L.length->j<L.length->i≠j->(X.getD i (.bool false)).ownBlock=some a->(X.getD j (.bool false)).ownBlock≠some a
theorem PV.lt{base:Nat}{v:Value}{o:Option (List Int)}(h:PV w base v o):∀k,v.ownBlock=some k->base<=k/\k<w.heap.size:=by
 intro k hk;cases o with
 |none=>rw[show v=.slice none 0 0 from h]at hk;cases hk
 |some l=>obtain⟨g,hg,rfl,ha,_⟩:=h;cases hk;exact⟨hg,ha.lt⟩
theorem PV.same{w w':World}{base:Nat}{v:Value}{o:Option (List Int)}(h:PV w base v o)(hb:∀k,v.ownBlock=some k->w'.heap[k]?=w.heap[k]?):PV w' base v o:=by
 cases o with
 |none=>exact h
 |some l=>obtain⟨g,hg,rfl,ha,hl⟩:=h;exact⟨g,hg,rfl,ha.same (hb g rfl),hl⟩
theorem NA.same{w w':World}{base g:Nat}{X:List Value}{L:List (Option (List Int))}(h:NA w base g X L)(hb:∀k,k<w.heap.size->base<=k->k≠g->w'.heap[k]?=w.heap[k]?):NA w' base g X L:=
 ⟨h.len,λi hi=>(h.each i hi).same (λk hk=>by have:=(h.each i hi).lt k hk;exact hb k this.2 this.1 (λe=>h.away i hi (by rw[hk,e]))),h.away,h.apart⟩
theorem Fo(X:List Value)(x u:Value)(i:Nat):(X++[x]).getD i u=if i<X.length then X.getD i u else if i=X.length then x else u:=by
 by_cases h:i<X.length
 ·rw[if_pos h];simp[List.getD,List.getElem?_append_left h]
 ·rw[if_neg h];by_cases e:i=X.length
  ·rw[if_pos e];simp[List.getD,e]
  ·rw[if_neg e];have:(X++[x])[i]?=none:=List.getElem?_eq_none (by simp;omega);simp[List.getD,this]
theorem NA.snoc{base base' g:Nat}{X:List Value}{L:List (Option (List Int))}{x:Value}{o:Option (List Int)}(h:NA w base g X L)(hx:PV w base' x o)(hb:base<=base')(hg:g<base')(hnew:∀i,i<L.length->∀k,(X.getD i (.bool false)).ownBlock=some k->k<base'):NA w base g (X++[x]) (L++[o]):=by
 have hl:=h.len;have hX:∀i,i<L.length->(X++[x]).getD i (.bool false)=X.getD i (.bool false):=λi hi=>by rw[Fo,if_pos (by omega)]
 have hXn:(X++[x]).getD L.length (.bool false)=x:=by rw[Fo,if_neg (by omega),if_pos hl.symm]
 have hL:∀i,i<L.length->(L++[o]).getD i none=L.getD i none:=λi hi=>by simp[List.getD,List.getElem?_append_left hi]
 have hLn:(L++[o]).getD L.length none=o:=by simp[List.getD]
 have hlen:(L++[o]).length=L.length+1:=by simp
 refine⟨by simp[hl],λi hi=>?_,λi hi=>?_,λi j a hi hj hij ha=>?_⟩
 ·rw[hlen]at hi;rcases Nat.lt_or_eq_of_le (Nat.lt_succ_iff.1 hi)with q|q
  ·rw[hX i q,hL i q];exact h.each i q
  ·rw[q,hXn,hLn];cases o with
   |none=>exact hx
   |some l=>obtain⟨a,h1,h2⟩:=hx;exact⟨a,by omega,h2⟩
 ·rw[hlen]at hi;rcases Nat.lt_or_eq_of_le (Nat.lt_succ_iff.1 hi)with q|q
  ·rw[hX i q];exact h.away i q
  ·rw[q,hXn];intro e;have:=hx.lt g e;omega
 ·rw[hlen]at hi hj;rcases Nat.lt_or_eq_of_le (Nat.lt_succ_iff.1 hi)with q|q
  ·rw[hX i q]at ha;rcases Nat.lt_or_eq_of_le (Nat.lt_succ_iff.1 hj)with q'|q'
   ·rw[hX j q'];exact h.apart i j a q q' hij ha
   ·rw[q',hXn];intro e;have:=hx.lt a e;have:=hnew i q a ha;omega
  ·rw[q,hXn]at ha;rcases Nat.lt_or_eq_of_le (Nat.lt_succ_iff.1 hj)with q'|q'
   ·rw[hX j q'];intro e;have:=hx.lt a ha;have:=hnew j q' a e;omega
   ·omega
def Yl(w:World)(s:ByteArray):Ending->World->Prop:=λe w'=>Below w.heap.size w w'/\
 ((DS (AA s)=none/\e=.returned (.tuple #[.slice none 0 0,.int .i64 4]))\/
  ∃L g X,DS (AA s)=some L/\e=.returned (.tuple #[.slice (some ⟨g,0,none⟩) L.length 21,.int .i64 0])/\w.heap.size<=g/\w'.ownsRow w.heap.size 32 1 (.slice (some ⟨g,0,none⟩) L.length 21) L.length X/\NA w' w.heap.size g X L)
end Go.Proofs.YtffajooegiempaaGreatDoor
namespace Go.Proofs.YtffajooegiempaaGreatDoor
open Go.RowKit
variable {w:World}{s:ByteArray}
theorem T2{i:ES}(hi:i.1<=s.size):∀n,(Cw (AA s) (i,[]) n).1.1<=s.size
 |0=>hi
 |n+1=>by
  have:=T2 hi n;show(if(Cw (AA s) (i,[]) n).1.2 then Cw (AA s) (i,[]) n else _).1.1<=_;split
  ·exact this
  ·exact ZH this
theorem Q0{i:ES}:∀n,(Cw (AA s) (i,[]) n).2.length<=n
 |0=>Nat.le_refl _
 |n+1=>by
  have:=Q0 (i:=i) n;show(if(Cw (AA s) (i,[]) n).1.2 then Cw (AA s) (i,[]) n else _).2.length<=_;split
  ·omega
  ·simp;omega
theorem N8{x:ES×List (Option (List Int))}{n:Nat}(h:(Cw (AA s) x n).1.2=true):∀k,Cw (AA s) x (n+k)=Cw (AA s) x n
 |0=>rfl
 |k+1=>by
  have:=N8 h k;show(if(Cw (AA s) x (n+k)).1.2 then Cw (AA s) x (n+k)else _)=_;rw[this,if_pos h]
theorem NX(hs:s.size<=9223372036854775807):Calls Tryz.prog 83 #[.string s] w (Yl w s):=by
 obtain⟨wa,hwa⟩:∃wa,wa=w.alloc (.cells #[.string s,.int .i64 0,.bool false] aA):=⟨_,rfl⟩
 have hc0:Eh wa w.heap.size s (0,false):=by rw[hwa];exact At.new _ _ _
 have h1:=GL hc0 hs (by show 0<=s.size;omega) 1 21 (by omega);have hsa:wa.heap.size=w.heap.size+1:=by rw[hwa];simp
 have r1:=EC (Om s) 1 21 (by omega) (0,false);have hd1:=GR (s:=s) (lo:=1) (hi:=21) (d:=(0,false)) (by omega) (by show 0<=s.size;omega);have HBa:Hid (Below w.heap.size w wa):=by rw[hwa];exact(Below.refl _ _).alloc (Nat.le_refl _) _
 obtain⟨F,hF⟩:∃F,F=Cw (AA s) ((Ai (AA s) 1 21 (0,false)).2,[]):=⟨_,rfl⟩
 have h21:(Ai (AA s) 1 21 (0,false)).1<=21:=by
  unfold Ai;split
  ·show(0:Int)<=21;omega
  ·rename_i q;show Fi _ _<=21;omega
 have HE:Hid (DS (AA s)=if(F (Ai (AA s) 1 21 (0,false)).1.toNat).1.2=true\/(F (Ai (AA s) 1 21 (0,false)).1.toNat).1.1≠(AA s).length then none else some (F (Ai (AA s) 1 21 (0,false)).1.toNat).2):=by rw[hF];rfl
 have HF:Hid (∀n,F (n+1)=if(F n).1.2 then F n else((I8 (AA s) (F n).1).2,(F n).2++[(I8 (AA s) (F n).1).1])):=by rw[hF];intro n;rfl
 have HFa:Hid (∀n,(F n).1.1<=s.size):=by rw[hF];exact T2 hd1
 have HFs:Hid (∀n k,(F n).1.2=true->F (n+k)=F n):=by rw[hF];exact λn k h=>N8 h k
 have HFl:Hid (∀n,(F n).2.length<=n):=by rw[hF];exact Q0
 have HF0:Hid (F 0=((Ai (AA s) 1 21 (0,false)).2,[])):=by rw[hF];rfl
 have hmk:∀w,(Instr.makeSlice 54 (.int .i64 0) (.int .i64 21)).run Tryz.prog w=.ok (.slice (some ⟨w.heap.size,0,none⟩) 0 21) (w.alloc (.cells (List.replicate 21 (Value.slice none 0 0)).toArray 32)):=λ_=>by kernel_rfl
 obtain⟨i0,hi0,hz0,hz1,hz2⟩:=info_parts (P:=Tryz.prog) (e:=32) (z:=.slice none 0 0) (size:=1) (bytes:=24) (by kernel_rfl);have HOw:Hid (∀(w1:World),(w1.alloc (.cells (List.replicate 21 (Value.slice none 0 0)).toArray 32)).ownsRow w1.heap.size 32 1 (.slice (some ⟨w1.heap.size,0,none⟩) 0 21) 0 []):=λw1=>World.ownsRow_made w1 _ 21 (Nat.le_refl _) (by decide) rfl;have HPt:Hid (∀(w1:World)(d:ES),Eh w1 w.heap.size s d->d.1<=s.size->Calls Tryz.prog 118 #[.pointer (some ⟨w.heap.size,0,none⟩)] w1 (XE w1 w.heap.size s d)):=λw1 d hc hd=>Vf hc hs hd;have HLb:Hid ((AA s).length=s.size):=AR s;generalize Ai (AA s) 1 21 (0,false)=x at *;obtain⟨x1,x2⟩:=x;simp only at r1 hd1 h1 h21 HE;have hx0:0<=x1:=r1.1;obtain⟨k,rfl⟩:∃k:Nat,x1=(k:Int):=⟨x1.toNat,by omega⟩
 rw[Int.toNat_natCast]at HE;generalize(List.replicate 21 (Value.slice none 0 0)).toArray=zs at *;rw[hwa]at h1;clear hF r1 hc0;go_enter Tryz.func83,Tryz.ntmps83;go_wp2_with fail;rw[<-hwa]at h1|-;refine h1.mono ?_;rintro e w1 ⟨rfl,hc1,ho1⟩;have hs1:=ho1.size;have hr1:=hc1.lt;have H1:Hid (Eh (w1.alloc (.cells zs 32)) w.heap.size s x2/\Below w.heap.size w (w1.alloc (.cells zs 32))/\(w1.alloc (.cells zs 32)).ownsRow w1.heap.size 32 1 (.slice (some ⟨w1.heap.size,0,none⟩) 0 21) 0 []):=⟨At.allocH hc1 _,(HBa.out.trans (ho1.below (Nat.le_refl _) (by omega))).alloc (by omega) _,HOw.out w1⟩
 clear hc1 ho1 h1 hwa;go_wp2_with fail;go_loopw [6,7] (λsl i wr=>∃(q n:Nat)(X:List Value),q<=k/\i=.int .i64 q/\n<=q/\sl=.slice (some ⟨w1.heap.size,0,none⟩) n 21/\Hid (n=(F q).2.length/\wr.ownsRow w1.heap.size 32 1 (.slice (some ⟨w1.heap.size,0,none⟩) n 21) n X/\Eh wr w.heap.size s (F q).1/\Below w.heap.size w wr/\w1.heap.size<wr.heap.size/\NA wr (w1.heap.size+1) w1.heap.size X (F q).2)) (λ_ i _=>k-(intOf i).toNat);case atStart=>exact⟨0,0,[],by omega,rfl,by omega,rfl,by rw[HF0.out];rfl,H1.out.2.2,by rw[HF0.out];exact H1.out.1,H1.out.2.1,by simp,by rw[HF0.out];exact⟨rfl,λi hi=>absurd hi (by simp),λi hi=>absurd hi (by simp),λi j a hi=>absurd hi (by simp)⟩⟩
 case round=>
  obtain⟨q,n,X,hq,rfl,hn,rfl,HR⟩:=hrel;have hat:=HFa.out q;have HCq:Hid (Eh wr w.heap.size s (F q).1):=HR.out.2.2.1;obtain⟨c0,c1,c2,cf⟩:=HCq.out.cells;have hrr:=HCq.out.lt;have hzr:=HR.out.2.2.2.2.1;have HFq:=(show Hid (_=_)from HF.out q)
  have HStay:Hid ((F q).1.2=true->F k=F q):=λh=>by have:=HFs.out q (k-q) h;rwa[show q+(k-q)=k by omega]at this
  by_cases hlt:q<k
  ·have hqi:(q:Int)<(k:Int):=by omega
   cases hw:(F q).1.2 with
   |true=>
    rw[hw]at c2;have HX:Hid (DS (AA s)=none):=by show _=_;rw[HE.out,HStay.out hw,if_pos (.inl hw)]
    clear hw;go_wp2_with fail
    go_ret2
    exact⟨HR.out.2.2.2.1,.inl ⟨HX.out,rfl⟩⟩
   |false=>
    rw[hw]at c2;have hpt:=HPt.out wr (F q).1 HCq.out hat;unfold XE at hpt;have HX:Hid (F (q+1)=((I8 (AA s) (F q).1).2,(F q).2++[(I8 (AA s) (F q).1).1])):=by show _=_;rw[HFq.out,hw];rfl
    clear hw;generalize I8 (AA s) (F q).1=pp at *;go_wp2_with fail;refine hpt.mono ?_;rintro e w3 ⟨v3,rfl,hv3,hc3,ho3⟩;have hz3:wr.heap.size<=w3.heap.size:=ho3.size;have H3:Hid (Eh w3 w.heap.size s pp.2/\Below w.heap.size w w3/\w3.ownsRow w1.heap.size 32 1 (.slice (some ⟨w1.heap.size,0,none⟩) n 21) n X/\NA w3 (w1.heap.size+1) w1.heap.size (X++[v3]) ((F q).2++[pp.1])):=by
     refine⟨hc3,HR.out.2.2.2.1.trans (ho3.below (Nat.le_refl _) (by omega)),Bm HR.out.2.1 (λk hk=>ho3.block k (HR.out.2.1.lt k hk).2 (by cases hk;show w1.heap.size≠w.heap.size;omega)),?_⟩;have hL:=HR.out.2.2.2.2.2;refine(hL.same (w':=w3) (λk hk hb _=>ho3.block k hk (by omega))).snoc hv3 (by omega) (by omega) (λi hi k hk=>((hL.each i hi).lt k hk).2)
    have HF1:Hid (∀w5,(w3.alloc (.cells #[v3] 32)).grownBy w5 (some w1.heap.size)->w5.ownsRow w1.heap.size 32 1 (.slice (some ⟨w1.heap.size,0,none⟩) (n+1) 21) (n+1) (X++[v3])->
      n+1=(F (q+1)).2.length/\w5.ownsRow w1.heap.size 32 1 (.slice (some ⟨w1.heap.size,0,none⟩) (n+1) 21) (n+1) (X++[v3])/\Eh w5 w.heap.size s (F (q+1)).1/\Below w.heap.size w w5/\w1.heap.size<w5.heap.size/\NA w5 (w1.heap.size+1) w1.heap.size (X++[v3]) (F (q+1)).2):=by
     intro w5 hg ho;have hbk:∀k,k<w3.heap.size->k≠w1.heap.size->w5.heap[k]?=w3.heap[k]?:=λk hk hne=>(hg.block k (by simp;omega) (by intro e;have:=Option.some.inj e;omega)).trans (heap_alloc_old _ _ hk);have hs5:=hg.size;rw[HX.out];refine⟨by simp[HR.out.1],ho,At.same H3.out.1 (hbk _ (by omega) (by omega)),?_,by simp at hs5;omega,H3.out.2.2.2.same (λk hk _ hne=>hbk k hk hne)⟩;exact(H3.out.2.1.alloc H3.out.2.1.size _).grown hg (by simp;omega) (λk hk=>by cases hk;omega)
    have HV:Hid (PV w3 wr.heap.size v3 pp.1):=hv3;clear hv3 hc3 ho3 hpt HX;generalize pp.1=oo at *;cases oo with
    |none=>
     have hv:v3=.slice none 0 0:=HV.out;subst hv;go_wp2_with (at_builtin;refine wpList_append_fits _ rfl (.tmp 24) (.tmp 26) 54 rfl w1.heap.size 32 i0 1 Tryz.underlying54 hi0 hz1 w1.heap.size n 21 _ rfl (H3.out.2.2.1.alloc _) ⟨w3.heap.size,0,none⟩ 1 1 [Value.slice none 0 0] rfl rfl (by intro t u ht;match t,ht with|0,ht=>simp at ht;subst ht;exact World.cell?_alloc_at _ _ _ _ rfl) (by intro u hu;simp at hu;subst hu;rfl) (by omega) ?_;intro w5 hown5 hgrow5);go_roundw;case rel=>exact⟨q+1,n+1,X++[Value.slice none 0 0],by omega,by go_num,by omega,rfl,HF1.out w5 hgrow5 hown5⟩
     case measure=>simp[intOf];omega
    |some l=>
     obtain⟨g3,hg3,hv, -, -⟩:=HV.out;subst hv;go_wp2_with (at_builtin;refine wpList_append_fits _ rfl (.tmp 24) (.tmp 26) 54 rfl w1.heap.size 32 i0 1 Tryz.underlying54 hi0 hz1 w1.heap.size n 21 _ rfl (H3.out.2.2.1.alloc _) ⟨w3.heap.size,0,none⟩ 1 1 [Value.slice (some ⟨g3,0,none⟩) 32 32] rfl rfl (by intro t u ht;match t,ht with|0,ht=>simp at ht;subst ht;exact World.cell?_alloc_at _ _ _ _ rfl) (by intro u hu;simp at hu;subst hu;rfl) (by omega) ?_;intro w5 hown5 hgrow5);go_roundw;case rel=>exact⟨q+1,n+1,X++[Value.slice (some ⟨g3,0,none⟩) 32 32],by omega,by go_num,by omega,rfl,HF1.out w5 hgrow5 hown5⟩
     case measure=>simp[intOf];omega
  ·have hqk:q=k:=by omega
   subst hqk;have hqi:¬(q:Int)<(q:Int):=by omega
   have HFin:Hid (∀wr':World,w.heap.size<=w1.heap.size->wr.ownsRow w1.heap.size 32 1 (.slice (some ⟨w1.heap.size,0,none⟩) n 21) n X->n=(F q).2.length->wr.ownsRow w.heap.size 32 1 (.slice (some ⟨w1.heap.size,0,none⟩) (F q).2.length 21) (F q).2.length X/\NA wr w.heap.size w1.heap.size X (F q).2):=by
    intro _ hb ho hn;rw[<-hn];refine⟨Ha ho hb,?_⟩;have hL:=HR.out.2.2.2.2.2;refine⟨hL.len,λi hi=>?_,hL.away,hL.apart⟩;have:=hL.each i hi;cases e:(F q).2.getD i none with
    |none=>rw[e]at this;exact this
    |some l=>rw[e]at this;obtain⟨a,h1,h2⟩:=this;exact⟨a,by omega,h2⟩
   cases hw:(F q).1.2 with
   |true=>
    rw[hw]at c2;have HX:Hid (DS (AA s)=none):=by show _=_;rw[HE.out,if_pos (.inl hw)]
    clear hw;go_wp2_with fail
    go_ret2
    exact⟨HR.out.2.2.2.1,.inl ⟨HX.out,rfl⟩⟩
   |false=>
    rw[hw]at c2;by_cases hl:(F q).1.1=s.size
    ·have HX:Hid (DS (AA s)=some (F q).2):=by show _=_;rw[HE.out,if_neg (by rw[hw,HLb.out];simp[hl])]
     rw[hl]at c1;have HN:=(show Hid (_=_)from HR.out.1)
     clear hw hl;go_wp2_with fail
     go_ret2
     have hf:=HFin.out wr (by omega) HR.out.2.1 HR.out.1;refine⟨HR.out.2.2.2.1,.inr ⟨(F q).2,w1.heap.size,X,HX.out,?_,by omega,hf.1,hf.2⟩⟩;rw[<-HN.out];rfl
    ·have HX:Hid (DS (AA s)=none):=by show _=_;rw[HE.out,if_pos (.inr (by rw[HLb.out];exact hl))]
     have hl':(((F q).1.1:Int) != (s.size:Int))=true:=by rw[bne_iff_ne];omega
     clear hw hl;go_wp2_with fail
     go_ret2
     exact⟨HR.out.2.2.2.1,.inl ⟨HX.out,rfl⟩⟩
end Go.Proofs.YtffajooegiempaaGreatDoor
namespace Go.Proofs.YtffajooegiempaaGreatDoor
open Go.RowKit
variable {s:ByteArray}
theorem R8(s:ByteArray):strOfNums (AA s)=s:=by
 apply ByteArray.ext;apply Array.toList_inj.1;simp only[strOfNums,AA,List.map_map]
 conv=>rhs;rw[<-List.map_id s.data.toList]
 apply List.map_congr_left;intro b _;show UInt8.ofNat (Int.toNat ((b.toNat:Nat):Int))=b;rw[Int.toNat_natCast];exact UInt8.ofNat_toNat
theorem LO{xs:List Int}(h:∀x,x∈xs->0<=x/\x<=255):AA (strOfNums xs)=xs:=by
 simp only[strOfNums,AA,List.map_map]
 conv=>rhs;rw[<-List.map_id xs]
 apply List.map_congr_left;intro x hx;have:=h x hx;show(((UInt8.ofNat x.toNat).toNat:Nat):Int)=x;rw[UInt8.toNat_ofNat'];omega
theorem Ut{l:List Int}:∀n x,x∈Kr l n->x.1<n/\x.2=l.getD x.1 0/\x.2≠1000000
 |0,x,h=>by cases h
 |n+1,x,h=>by
  have h':x∈Kr l n++(if l.getD n 0=1000000 then[]else[(n,l.getD n 0)]):=h;rcases List.mem_append.1 h' with q|q
  ·have:=Ut n x q;exact⟨by omega,this.2⟩
  ·split at q
   ·cases q
   ·rename_i e;rw[List.mem_singleton]at q;subst q;exact⟨by show n<n+1;omega,rfl,e⟩
theorem WT{l:List Int}(hb:∀f,f<32->On (l.getD f 0)){N:Nat}(hN:N<=32):∀x,x∈tl l N->0<=x/\x<=255:=by
 intro x hx;unfold tl at hx;obtain⟨y,hy,hxy⟩:=List.mem_flatMap.1 hx;obtain⟨h1,h2,h3⟩:=Ut N y hy;have:=(hb y.1 (by omega)).resolve_left (by rw[<-h2];exact h3);rw[<-h2]at this;unfold b3 at hxy;simp only[List.mem_cons,List.not_mem_nil,or_false]at hxy;rcases hxy with e|e|e<;>omega
theorem RT{r:Option (List Int)}(hr:F_ r):∀x,x∈Dk r->0<=x/\x<=255:=by
 cases r with
 |none=>intro x hx;rw[show Dk none=[0]from rfl,List.mem_singleton]at hx;omega
 |some l=>
  intro x hx;rw[LY]at hx;have hc:=J6 l 32;have ht:=WT (hr l rfl).2 (Nat.le_refl 32) x;generalize tl l 32=T at *;generalize ct l 32=C at *;rcases List.mem_cons.1 hx with e|hx
  ·omega
  ·rcases List.mem_cons.1 hx with e|hx
   ·omega
   ·exact ht hx
theorem La{L:List (Option (List Int))}(hL:∀r,r∈L->F_ r):∀n x,x∈Br L n->0<=x/\x<=255
 |0,x,h=>by cases h
 |n+1,x,h=>by
  have h':x∈Br L n++Dk (L.getD n none):=h;rcases List.mem_append.1 h' with q|q
  ·exact La hL n x q
  ·exact RT (Da hL n) x q
theorem LZ{L:List (Option (List Int))}(hL:∀r,r∈L->F_ r)(h21:L.length<=21):∀x,x∈IM L->0<=x/\x<=255:=by
 intro x hx;rcases List.mem_cons.1 hx with e|hx
 ·omega
 ·exact La hL _ x hx
theorem Ma{r:Option (List Int)}:F_ r↔TP r=true:=by
 cases r with
 |none=>exact⟨λ_=>rfl,λ_ l e=>by cases e⟩
 |some l=>
  show _↔FM l=true;rw[CG];constructor
  ·intro h;obtain⟨h1,h2⟩:=h l rfl;exact⟨h1,λi hi=>decide_eq_true (h2 i hi)⟩
  ·rintro⟨h1,h2⟩ l' e;injection e with e
   subst e;exact⟨h1,λf hf=>by have:=of_decide_eq_true (h2 f hf);exact this⟩
theorem QY{L:List (Option (List Int))}:Lf L L.length=true↔∀r,r∈L->F_ r:=by
 rw[MQ];constructor
 ·intro h r hr;obtain⟨i,hi,e⟩:=List.getElem_of_mem hr;have:=h i hi;rw[show L.getD i none=r by simp[List.getD,hi,e]]at this;exact Ma.2 this
 ·intro h i _;exact Ma.1 (Da h i)
def GD(s:ByteArray):Option (List (Option (List Int))):=
 match Nx (AA s)with
 |none=>none
 |some L=>if(DH L).2=0/\strOfNums (DH L).1=s then some L else none
theorem MN(s:ByteArray):GD s=DS (AA s):=by
 cases e:DS (AA s)with
 |some L=>
  obtain⟨h1,h2,h3,h4⟩:=GM (Om s) e;have hl:=Vu h2 h3 h4 h1;have he:DH L=(IM L,0):=by unfold DH;rw[if_neg (by omega),if_pos (QY.2 h4)]
  unfold GD;rw[hl];simp only;rw[he,if_pos ⟨rfl,by rw[<-h1,R8]⟩]
 |none=>
  unfold GD;cases q:Nx (AA s)with
  |none=>rfl
  |some L=>
   simp only;rw[if_neg];rintro⟨h1,h2⟩;unfold DH at h1 h2;by_cases q1:L.length<1\/21<L.length
   ·rw[if_pos q1]at h1;cases h1
   ·rw[if_neg q1]at h1 h2;by_cases q2:Lf L L.length=true
    ·rw[if_pos q2]at h2;have h4:=QY.1 q2;have hb:AA s=IM L:=by
      rw[<-show strOfNums (IM L)=s from h2];exact LO (LZ h4 (by omega))
     rw[QQ (by omega) (by omega) h4 hb]at e;cases e
    ·rw[if_neg q2]at h1;cases h1
theorem Ic{w:World}{B B':Nat}{e:TypeId}{size:Nat}{v:Value}{n:Nat}{xs:List Value}(h:w.ownsRow B e size v n xs)(hB:B'<=B):w.ownsRow B' e size v n xs:=by
 obtain⟨h1,h2⟩:=h;refine⟨h1,?_⟩;rcases h2 with h2|⟨g,cap,c,hv,hg,rest⟩
 ·exact .inl h2
 ·exact .inr ⟨g,cap,c,hv,by omega,rest⟩
theorem GB{P:Program}(w:World)(base:Nat)(t ty e:TypeId)(i:TypeInfo)(z:Value)(size bytes:Nat)(ht:P.underlying t=some (.slice e))(hi:P.info? e=some i)(hz:i.zero=some z)
  (hsize:i.size=size) (hby:i.bytes=bytes) (hzs:z.cells.size=size) (hsz:0<size)
  (v:Value) (n:Nat) (xs:List Value) (hown:w.ownsRow base e size v n xs)
  (a:Addr) (m c:Nat) (news:List Value) (hl:news.length=m*size) (hnews:∀j u,news[j]?=some u->w.cell? (a.add j)=some u) (h1:∀u∈news,u.oneCell'=true)
  (h63:n+m<=maxLen) (hbytes:(n+m)*bytes<=140737488355328) (hbase:base<=w.heap.size):
  ∃v' w',(Builtin.append_ #[t,t] ty #[v,.slice (some a) m c]).run P w=.ok v' w'/\w'.ownsRow base e size v' (n+m) (xs++news)/\w.grownBy w' v.ownBlock/\
   (v'.ownBlock=v.ownBlock\/∀g,v'.ownBlock=some g->w.heap.size<=g):=by
 rcases hown.2 with⟨rfl,rfl⟩|⟨g,cap,cur,rfl,hbg,hg,hnc,hcm,hcs,htake⟩
 ·have hx:xs=[]:=List.eq_nil_of_length_eq_zero (by simpa using hown.1);subst hx;obtain⟨v',w',h2,h3,h4,_⟩:=run_append_own (P:=P) w w.heap.size t ty e i z size bytes ht hi hz hsize hby hzs hsz (.slice none 0 0) 0 [] (World.ownsRow_nil w _ e size) a m c news hl hnews h1 h63 hbytes (Nat.le_refl _);exact⟨v',w',h2,Ic h3 hbase,h4,.inr λg hg=>(h3.lt g hg).1⟩
 ·by_cases hroom:n+m<=cap
  ·obtain⟨w',h2,h3,h4⟩:=run_append_fits (P:=P) w base t ty e i size ht hi hsize g n cap xs hown a m c news hl hnews h1 hroom;exact⟨_,w',h2,h3,h4,.inl rfl⟩
  ·obtain⟨v',w',h2,h3,h4⟩:=run_append_arg_grows (P:=P) w t ty e i z size bytes ht hi hz hsize hby hzs hsz ⟨g,0,none⟩ n cap xs hown.1 (hown.cells (g:=g) rfl) a m c news hl hnews (by omega) h63 hbytes;exact⟨v',w',h2,Ic h3 hbase,⟨h4.os,h4.tape,h4.output,h4.size,λk hk _=>h4.block k hk (by simp)⟩,.inr λg hg=>(h3.lt g hg).1⟩
theorem E0{P:Program}{w:World}{ops:Array Oper}{rest:List Oper}{o:Oper}{a:Act}{Q:Exit->Act->World->Prop}(hgd:o.guard=none)(s x:Operand)(t:TypeId)
  (ho:o.op=.call {callee:=.builtin .append,args:=#[s,x],argTypes:=#[t,t]})
  (base:Nat) (e:TypeId) (i:TypeInfo) (z:Value) (size bytes:Nat) (ht:P.underlying t=some (.slice e)) (hi:P.info? e=some i) (hz:i.zero=some z)
  (hsize:i.size=size) (hby:i.bytes=bytes) (hzs:z.cells.size=size) (hsz:0<size)
  (v:Value) (n:Nat) (xs:List Value) (hs:a.eval s=v) (hown:w.ownsRow base e size v n xs)
  (ad:Addr) (m c:Nat) (news:List Value) (hx:a.eval x=.slice (some ad) m c) (hl:news.length=m*size) (hnews:∀j u,news[j]?=some u->w.cell? (ad.add j)=some u) (h1:∀u∈news,u.oneCell'=true)
  (h63:n+m<=maxLen) (hbytes:(n+m)*bytes<=140737488355328) (hbase:base<=w.heap.size)
  (h:∀v' w',w'.ownsRow base e size v' (n+m) (xs++news)->w.grownBy w' v.ownBlock->(v'.ownBlock=v.ownBlock\/∀g,v'.ownBlock=some g->w.heap.size<=g)->wpList P ops Q rest (a.put o.dst v') w'):wpList P ops Q (o::rest) a w:=by
 refine wpList_plain hgd λ_ hK=>?_;obtain⟨v',w',hr,h2,h3,h4⟩:=GB (P:=P) w base t o.type e i z size bytes ht hi hz hsize hby hzs hsz v n xs hown ad m c news hl hnews h1 h63 hbytes hbase;unfold Oper.wp execOp;simp only[ho,resolve,invoke,builtin,Sem.run_bind,Sem.run_pure,Result.andThen_ok,List.map_toArray,List.map_cons,List.map_nil,hs,hx,hr];exact hK _ _ (h v' w' h2 h3 h4)
end Go.Proofs.YtffajooegiempaaGreatDoor
namespace Go.Proofs.YtffajooegiempaaGreatDoor
open Go.RowKit
variable {w:World}{s:ByteArray}
theorem Dn(g i:Nat):(⟨g,0,none⟩:Addr).add i=⟨g,i,none⟩:=by unfold Addr.add;split<;>simp_all
structure L9(w:World)(base:Nat)(v:Value)(X:List Value)(L:List (Option (List Int))):Prop where
 row:w.ownsRow base 32 1 v L.length X
 each:∀i,i<L.length->PV w base (X.getD i (.bool false)) (L.getD i none)
 away:∀i k,i<L.length->(X.getD i (.bool false)).ownBlock=some k->v.ownBlock≠some k
theorem L9.len{base:Nat}{v:Value}{X:List Value}{L:List (Option (List Int))}(h:L9 w base v X L):X.length=L.length:=by have:=h.row.1;simpa using this
theorem L9.keep{w w':World}{base B:Nat}{v:Value}{X:List Value}{L:List (Option (List Int))}(h:L9 w base v X L)(hb:Below B w w')(hB:w.heap.size<=B):L9 w' base v X L:=
 ⟨Bm h.row (λk hk=>hb.block k (by have:=(h.row.lt k hk).2;omega)),λi hi=>(h.each i hi).same (λk hk=>hb.block k (by have:=((h.each i hi).lt k hk).2;omega)),h.away⟩
theorem L9.snoc{w w':World}{base:Nat}{v v' x:Value}{X:List Value}{L:List (Option (List Int))}{o:Option (List Int)}(h:L9 w base v X L)(hx:PV w base x o)(hxv:∀k,x.ownBlock=some k->v.ownBlock≠some k)
  (hrow:w'.ownsRow base 32 1 v' (L.length+1) (X++[x])) (hg:w.grownBy w' v.ownBlock) (hv:v'.ownBlock=v.ownBlock\/∀g,v'.ownBlock=some g->w.heap.size<=g):L9 w' base v' (X++[x]) (L++[o]):=by
 have hl:=h.len;have hX:∀i,i<L.length->(X++[x]).getD i (.bool false)=X.getD i (.bool false):=λi hi=>by rw[Fo,if_pos (by omega)]
 have hXn:(X++[x]).getD L.length (.bool false)=x:=by rw[Fo,if_neg (by omega),if_pos hl.symm]
 have hL:∀i,i<L.length->(L++[o]).getD i none=L.getD i none:=λi hi=>by simp[List.getD,List.getElem?_append_left hi]
 have hLn:(L++[o]).getD L.length none=o:=by simp[List.getD]
 have hlen:(L++[o]).length=L.length+1:=by simp
 have hP:∀i,i<L.length+1->PV w base ((X++[x]).getD i (.bool false)) ((L++[o]).getD i none)/\∀k,((X++[x]).getD i (.bool false)).ownBlock=some k->v.ownBlock≠some k:=by
  intro i hi;rcases Nat.lt_or_eq_of_le (Nat.lt_succ_iff.1 hi)with q|q
  ·rw[hX i q,hL i q];exact⟨h.each i q,λk hk=>h.away i k q hk⟩
  ·rw[q,hXn,hLn];exact⟨hx,hxv⟩
 refine⟨by rw[hlen];exact hrow,λi hi=>?_,λi k hi hk=>?_⟩
 ·rw[hlen]at hi;obtain⟨h1,h2⟩:=hP i hi;exact h1.same (λk hk=>hg.block k (h1.lt k hk).2 (λe=>h2 k hk e.symm))
 ·rw[hlen]at hi;obtain⟨h1,h2⟩:=hP i hi;rcases hv with e|e
  ·rw[e];exact h2 k hk
  ·intro e';have:=e k e';have:=(h1.lt k hk).2;omega
theorem L9.reads{base:Nat}{v:Value}{X:List Value}{L:List (Option (List Int))}(h:L9 w base v X L)(hn:1<=L.length):CX w v L/\∃a n c,v=.slice (some a) n c:=by
 rcases h.row.2 with⟨_,e⟩|⟨g,cap,cur,rfl,hg,hh,hcap,_,hsz,htk⟩
 ·omega
 ·refine⟨⟨some ⟨g,0,none⟩,cap,rfl,hcap,λ_=>⟨g,0,rfl,(h.row.lt g rfl).2,λi hi=>?_⟩⟩,_,_,_,rfl⟩;have hXi:X[i]?=some (X.getD i (.bool false)):=by simp[List.getD,show i<X.length by rw[h.len];exact hi]
  have hc:=h.row.cells (g:=g) rfl i _ hXi;rw[Dn]at hc;refine⟨_,by rw[Nat.zero_add];exact hc,?_⟩;have hp:=h.each i hi;cases e:L.getD i none with
  |none=>rw[e]at hp;exact hp
  |some l=>
   rw[e]at hp;obtain⟨a,_,hv,hat,hl⟩:=hp;rw[hv];exact⟨AQ.at_ hat hl (Nat.le_refl _) (λj hj=>Aa _ _ (by omega)),_,_,_,rfl⟩
theorem JX(s:ByteArray)(k:Nat)(h:k<s.size):(AA s).getD k 0=((s[k]).toNat:Int):=by rw[List.getD_eq_getElem?_getD,Ck s k h];rfl
def VM(w:World)(s:ByteArray):Ending->World->Prop:=λe w'=>Below w.heap.size w w'/\
 ((GD s=none/\e=.returned (.tuple #[.slice none 0 0,.int .i64 4]))\/
  ∃L v,GD s=some L/\e=.returned (.tuple #[v,.int .i64 0])/\CX w' v L/\∃a n c,v=.slice (some a) n c)
theorem Mi(_hs:s.size<=9223372036854775807)(hbad:s.size<1\/(AA s).getD 0 0<1\/21<(AA s).getD 0 0):Calls Tryz.prog 26 #[.string s] w (VM w s):=by
 have HE:Hid (GD s=none):=by
  show _=_;unfold GD Nx;rw[AR,if_pos hbad]
 by_cases h0:s.size<1
 ·have hz:s.size=0:=by omega
  have h1:(s.size:Int)<1:=by omega
  clear hbad;go_enter Tryz.func26,Tryz.ntmps26;go_wp2_with fail
  go_ret2
  exact⟨Below.refl _ _,.inl ⟨HE.out,rfl⟩⟩
 ·have h1:¬(s.size:Int)<1:=by omega
  have h0':0<s.size:=by omega
  rw[JX s 0 h0']at hbad;have hb:=hbad.resolve_left h0;by_cases h2:((s[0]).toNat:Int)<1
  ·clear hbad hb;go_enter Tryz.func26,Tryz.ntmps26;go_wp2_with fail
   go_ret2
   exact⟨Below.refl _ _,.inl ⟨HE.out,rfl⟩⟩
  ·have h3:(21:Int)<((s[0]).toNat:Int):=by omega
   clear hbad hb;go_enter Tryz.func26,Tryz.ntmps26;go_wp2_with fail
   go_ret2
   exact⟨Below.refl _ _,.inl ⟨HE.out,rfl⟩⟩
end Go.Proofs.YtffajooegiempaaGreatDoor
