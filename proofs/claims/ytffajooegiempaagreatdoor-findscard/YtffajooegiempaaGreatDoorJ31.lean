import Derived.Test.YtffajooegiempaaGreatDoorJ30
import Derived.Deep.RegionWith
set_option maxRecDepth 100000
set_option maxHeartbeats 6400000
namespace Go.Proofs.YtffajooegiempaaGreatDoor
open Go.RowKit
variable {w:World}{s:ByteArray}
theorem Td(b:List Int)(k i:Nat)(L:List (Option (List Int))):Ob b (k+1) i L=match SJ b i with|none=>none|some y=>Ob b k y.1 (L++[y.2]):=rfl
theorem TU(b:List Int)(k i:Nat)(o:List Int):MT b (k+1) i o=if i+3<=b.length/\b.getD i 0<32 then MT b k (i+3) (o.set (b.getD i 0).toNat (256*b.getD (i+1) 0+b.getD (i+2) 0-4000))else none:=rfl
theorem Uo(a b:ByteArray):(a.toList==b.toList)=true↔a=b:=by
 rw[ByteArray.toList_eq,ByteArray.toList_eq];obtain⟨⟨x⟩⟩:=a;obtain⟨⟨y⟩⟩:=b;simp
theorem YP{a b:ByteArray}(h:a≠b):(a.toList==b.toList)=false:=by
 cases e:(a.toList==b.toList)with
 |false=>rfl
 |true=>exact absurd ((Uo a b).1 e) h
theorem XF{w:World}{base:Nat}:PV w base (.slice none 0 0) none:=rfl
theorem OG(hs:s.size<=9223372036854775807)(h0:0<s.size)(h1:1<=(AA s).getD 0 0)(h21:(AA s).getD 0 0<=21):Calls Tryz.prog 26 #[.string s] w (VM w s):=by
 rw[JX s 0 h0]at h1 h21;obtain⟨n,hn⟩:∃n:Nat,((s[0]).toNat:Int)=(n:Int):=⟨_,rfl⟩
 obtain⟨b,hb⟩:∃b,b=AA s:=⟨_,rfl⟩
 have HE:Hid (Nx b=Ob b n 1 []):=by
  show _=_;rw[hb];unfold Nx;rw[AR,JX s 0 h0,hn,if_neg (by omega),Int.toNat_natCast]
 have HD:Hid (GD s=match Nx b with|none=>none|some L=>if(DH L).2=0/\strOfNums (DH L).1=s then some L else none):=by rw[hb];rfl
 have HBy:Hid (∀k (h:k<s.size),b.getD k 0=((s[k]).toNat:Int)):=by rw[hb];exact JX s
 have HBl:Hid (b.length=s.size):=by rw[hb];exact AR s
 rw[hn]at h1 h21;have hw0:wrap64 (n:Int)=(n:Int):=by unfold wrap64;omega
 have z0:¬(s.size:Int)<1:=by omega
 have z1:¬(n:Int)<1:=by omega
 have z2:¬(21:Int)<(n:Int):=by omega
 have hmk:∀w,(Instr.makeSlice 32 (.int .i64 32) (.int .i64 32)).run Tryz.prog w=.ok (.slice (some ⟨w.heap.size,0,none⟩) 32 32) (w.alloc (.cells (ic (List.replicate 32 0)) 3)):=λ_=>by kernel_rfl
 obtain⟨i0,hi0,hz0,hz1,hz2⟩:=info_parts (P:=Tryz.prog) (e:=32) (z:=.slice none 0 0) (size:=1) (bytes:=24) (by kernel_rfl);obtain⟨zl,hzl⟩:∃zl,zl=List.replicate 32 (0:Int):=⟨_,rfl⟩
 have HL0:Hid (zl.length=32):=by show _=_;rw[hzl];simp
 rw[<-hzl]at hmk;clear hb hzl;go_enter Tryz.func26,Tryz.ntmps26;go_wp2_with fail;go_loopw [4,5,6] (λsl at_ i wr=>∃(q a:Nat)(ao:Option Addr)(cap:Nat)(X:List Value)(L:List (Option (List Int))),q<=n/\i=.int .i64 q/\at_=.int .i64 (a:Int)/\a<=1+800*q/\sl=.slice ao q cap/\Hid (L.length=q/\L9 wr w.heap.size (.slice ao q cap) X L/\Below w.heap.size w wr/\Ob b (n-q) a L=Ob b n 1 [])) (λ_ _ i _=>n-(intOf i).toNat);case atStart=>exact⟨0,1,none,0,[],[],by omega,rfl,rfl,by omega,rfl,rfl,⟨World.ownsRow_nil _ _ _ _,λi hi=>absurd hi (by simp),λi k hi=>absurd hi (by simp)⟩,Below.refl _ _,rfl⟩
 case round=>
  obtain⟨q,a,ao,cap,X,L,hq,rfl,rfl,ha,rfl,HR⟩:=hrel;by_cases hlt:q<n
  ·have hqi:(q:Int)<(n:Int):=by omega
   have HSu:Hid (Ob b n 1 []=match SJ b a with|none=>none|some y=>Ob b (n-(q+1)) y.1 (L++[y.2])):=by
    show _=_;rw[<-HR.out.2.2.2,show n-q=(n-(q+1))+1 by omega,Td]
   have HNo:Hid (SJ b a=none->GD s=none):=by
    intro h;rw[HD.out,HE.out,HSu.out,h]
   by_cases hz:a<s.size/\b.getD a 0=0
   ·obtain⟨haz,hzb⟩:=hz;have hai:(a:Int)<(s.size:Int):=by omega
    have hby:((s[a]'haz).toNat:Int)=0:=by rw[<-HBy.out a haz];exact hzb
    have hby':(s[a]'haz).toNat=0:=by omega
    have HX:Hid (Ob b (n-(q+1)) (a+1) (L++[none])=Ob b n 1 []):=by
     show _=_;rw[HSu.out];unfold SJ;rw[if_pos ⟨by rw[HBl.out];exact haz,hzb⟩]
    clear hby hzb;have HN:Hid (wr.heap.size+0=wr.heap.size/\L.length=q):=⟨rfl,HR.out.1⟩
    go_wp2_with (at_builtin;refine E0 rfl (.tmp 43) (.tmp 44) 54 rfl w.heap.size 32 i0 _ 1 24 Tryz.underlying54 hi0 hz0 hz1 hz2 rfl (by decide) (.slice ao q cap) q X rfl (by have h:=HR.out.2.1;have h2:=h.row;rw[HN.out.2]at h2;exact h2.alloc _) ⟨wr.heap.size,0,none⟩ 1 1 [(Value.slice none 0 0)] rfl rfl (by intro t u ht;match t,ht with|0,ht=>simp at ht;subst ht;exact World.cell?_alloc_at _ _ _ _ rfl) (by intro u hu;simp at hu;subst hu;rfl) (by unfold maxLen;omega) (by omega) (by have:=(HR.out.2.2.1).size;simp;omega) ?_;intro v5 w5 hown5 hgrow5 hv5);have HL5:Hid (L9 w5 w.heap.size v5 (X++[(Value.slice none 0 0)]) (L++[none])):=by
     refine L9.snoc (w:=wr.alloc (.cells #[(Value.slice none 0 0)] 32)) (v:=.slice ao q cap) ?_ ?_ ?_ ?_ hgrow5 hv5
     ·exact(HR.out.2.1).keep ((Below.refl _ _).alloc (Nat.le_refl _) _) (Nat.le_refl _)
     ·exact XF
     ·intro k hk;first|(cases hk;done)|exact HAw.out k hk
     ·rw[HN.out.2];exact hown5
    have HB5:Hid (Below w.heap.size w w5):=((HR.out.2.2.1).alloc (HR.out.2.2.1).size _).grown hgrow5 (by have:=(HR.out.2.2.1).size;simp;omega) (λk hk=>((HR.out.2.1).row.lt k (by exact hk)).1);obtain⟨ao5,cap5,hv5e⟩:∃ao5 cap5,v5=.slice ao5 (q+1) cap5:=by
     rcases hown5.2 with⟨e,e2⟩|⟨g,cap,cur,e,_⟩
     ·omega
     ·exact⟨_,_,e⟩
    subst hv5e;have H5:Hid (L9 w5 w.heap.size (.slice ao5 (q+1) cap5) (X++[(Value.slice none 0 0)]) (L++[none])/\Below w.heap.size w w5):=⟨HL5.out,HB5.out⟩
    clear hown5 hgrow5 hv5 HL5 HB5;go_roundw;case rel=>exact⟨q+1,a+1,ao5,cap5,X++[Value.slice none 0 0],L++[none],by omega,by go_num,by go_num,by omega,rfl,by simp[HR.out.1],H5.out.1,H5.out.2,HX.out⟩
    case measure=>simp[intOf];omega
   ·have HLp:Hid (SJ b a=if b.length<a+2 then none else match MT b (b.getD (a+1) 0).toNat (a+2) De with|none=>none|some y=>some (y.1,some y.2)):=by
     show _=_;unfold SJ;rw[if_neg (by rw[HBl.out];exact hz)];rfl
    by_cases hsh:s.size<a+2
    ·have HX:Hid (GD s=none):=HNo.out (by rw[HLp.out,if_pos (by rw[HBl.out];exact hsh)]);have hsi:(s.size:Int)<(a:Int)+2:=by omega
     by_cases haz:a<s.size
     ·have hai:(a:Int)<(s.size:Int):=by omega
      have hby:¬((s[a]'haz).toNat=0):=λe=>hz ⟨haz,by rw[HBy.out a haz,e];rfl⟩;clear hz;go_wp2_with fail
      go_ret2
      exact⟨HR.out.2.2.1,.inl ⟨HX.out,rfl⟩⟩
     ·have hai:¬(a:Int)<(s.size:Int):=by omega
      clear hz;go_wp2_with fail
      go_ret2
      exact⟨HR.out.2.2.1,.inl ⟨HX.out,rfl⟩⟩
    ·have haz:a<s.size:=by omega
     have haz1:a+1<s.size:=by omega
     have hai:(a:Int)<(s.size:Int):=by omega
     have hai1:(a:Int)+1<(s.size:Int):=by omega
     have hsi:¬(s.size:Int)<(a:Int)+2:=by omega
     have hby:¬((s[a]'haz).toNat=0):=λe=>hz ⟨haz,by rw[HBy.out a haz,e];rfl⟩;obtain⟨a1,ha1⟩:∃a1,a1=a+1:=⟨_,rfl⟩
     have hea:(a:Int)+1=(a1:Int):=by omega
     have haz2:a1<s.size:=by omega
     have hai2:(a1:Int)<(s.size:Int):=by omega
     obtain⟨m,hm⟩:∃m:Nat,(((s[a1]'haz2).toNat:Nat):Int)=(m:Int):=⟨_,rfl⟩
     have hm255:m<=255:=by have:=(s[a1]'haz2).toNat_lt;omega
     have HL2:Hid (SJ b a=match MT b m (a+2) De with|none=>none|some y=>some (y.1,some y.2)):=by
      show _=_;rw[HLp.out,if_neg (by rw[HBl.out];exact hsh),<-ha1,HBy.out a1 haz2,hm,Int.toNat_natCast]
     have HLr:Hid (L9 wr w.heap.size (.slice ao q cap) X L):=HR.out.2.1;have HBr:Hid (Below w.heap.size w wr):=HR.out.2.2.1;have hbs:=HR.out.2.2.1.size;clear hz hsh ha1 hai1 haz1;go_wp2_with fail;obtain⟨wm,hwm0⟩:∃wm,wm=wr.alloc (.cells (ic zl) 3):=⟨_,rfl⟩
     have HM:Hid (At wm wr.heap.size (ic zl) 3/\Below wr.heap.size wr wm):=by show _/\_;rw[hwm0];exact⟨At.new _ _ _,(Below.refl _ _).alloc (Nat.le_refl _) _⟩
     rw[<-hwm0];clear hwm0;obtain⟨wo,rfl⟩:∃wo,wo=wr:=⟨_,rfl⟩
     go_loopw [8] (λi w2=>∃(f:Nat)(l:List Int),f<=32/\i=.int .i64 f/\Hid (l.length=32/\At w2 wo.heap.size (ic l) 3/\(∀j,j<f->l.getD j 0=1000000)/\Below wo.heap.size wo w2)) (λi _=>32-(intOf i).toNat);case atStart=>exact⟨0,zl,by omega,rfl,HL0.out,HM.out.1,λj hj=>absurd hj (by omega),HM.out.2⟩
     case round=>
      obtain⟨f,l,hf,rfl,HF⟩:=hrel;have hwl:=HF.out.2.1.lt;by_cases hfl:f<32
      ·have hfi:(f:Int)<32:=by omega
       obtain⟨x0,hx0⟩:∃x,wr.cell? ⟨wo.heap.size,f,none⟩=some x:=⟨_,by rw[HF.out.2.1.cell];exact Aa l f (by rw[HF.out.1];exact hfl)⟩
       have hfr:=HF.out.2.1.free f;go_wp2_with fail;go_roundw;case rel=>
        refine⟨f+1,l.set f 1000000,by omega,by go_num,by simp[HF.out.1],?_,?_,HF.out.2.2.2.setCell (Nat.le_refl _) _⟩
        ·rw[<-Be];exact HF.out.2.1.put f _
        ·intro j hj;by_cases e:j=f
         ·subst e;simp[List.getD,HF.out.1,hfl]
         ·have:=HF.out.2.2.1 j (by omega);simpa[List.getD,List.getElem?_set,Ne.symm e]using this
       case measure=>simp[intOf];omega
      ·have hf32:f=32:=by omega
       subst hf32;obtain⟨wf,hwf⟩:∃wf,wf=wr:=⟨_,rfl⟩
       have HO:Hid (l=De):=by
        show _=_;apply List.ext_getElem
        ·rw[HF.out.1];rfl
        ·intro j h1 h2;have:=HF.out.2.2.1 j (by rw[HF.out.1]at h1;exact h1);simp[List.getD,h1]at this;rw[this];exact(List.getElem_replicate _).symm
       have HWf:Hid (At wf wo.heap.size (ic De) 3/\Below wo.heap.size wo wf):=by show _/\_;rw[hwf,<-HO.out];exact⟨HF.out.2.1,HF.out.2.2.2⟩
       rw[<-hwf];clear hwf HF HO hfl;go_wp2_with fail;clear hm;go_loopw [5,10] (λat_ i w3=>∃(k a3:Nat)(l:List Int),k<=m/\i=.int .i64 k/\at_=.int .i64 (a3:Int)/\a3<=a+2+3*k/\Hid (l.length=32/\At w3 wo.heap.size (ic l) 3/\Below wo.heap.size wo w3/\MT b (m-k) a3 l=MT b m (a+2) De)) (λ_ i _=>m-(intOf i).toNat);case atStart=>exact⟨0,a+2,De,by omega,rfl,by go_num,by omega,by rfl,HWf.out.1,HWf.out.2,rfl⟩
       case round=>
        obtain⟨k,a3,l,hk,rfl,rfl,ha3,HG⟩:=hrel;have hwl:=HG.out.2.1.lt;by_cases hkm:k<m
        ·have hki:(k:Int)<(m:Int):=by omega
         have HIn:Hid (MT b m (a+2) De=if a3+3<=b.length/\b.getD a3 0<32 then MT b (m-(k+1)) (a3+3) (l.set (b.getD a3 0).toNat (256*b.getD (a3+1) 0+b.getD (a3+2) 0-4000))else none):=by
          show _=_;rw[<-HG.out.2.2.2,show m-k=(m-(k+1))+1 by omega,TU]
         have HBd:Hid (MT b m (a+2) De=none->GD s=none):=λh=>HNo.out (by rw[HL2.out,h]);by_cases hok:a3+3<=s.size
         ·have hj0:a3<s.size:=by omega
          obtain⟨a4,ha4⟩:∃a4,a4=a3+1:=⟨_,rfl⟩
          obtain⟨a5,ha5⟩:∃a5,a5=a3+2:=⟨_,rfl⟩
          have he4:(a3:Int)+1=(a4:Int):=by omega
          have he5:(a3:Int)+2=(a5:Int):=by omega
          have hj1:a4<s.size:=by omega
          have hj2:a5<s.size:=by omega
          have hi0':(a3:Int)<(s.size:Int):=by omega
          have hi1':(a4:Int)<(s.size:Int):=by omega
          have hi2':(a5:Int)<(s.size:Int):=by omega
          have hi3':¬(s.size:Int)<(a3:Int)+3:=by omega
          have t0:=(s[a3]'hj0).toNat_lt;have t1:=(s[a4]'hj1).toNat_lt;have t2:=(s[a5]'hj2).toNat_lt;obtain⟨y0,hy0⟩:∃y:Nat,(((s[a3]'hj0).toNat:Nat):Int)=(y:Int):=⟨_,rfl⟩
          obtain⟨y1,hy1⟩:∃y:Nat,(((s[a4]'hj1).toNat:Nat):Int)=(y:Int):=⟨_,rfl⟩
          obtain⟨y2,hy2⟩:∃y:Nat,(((s[a5]'hj2).toNat:Nat):Int)=(y:Int):=⟨_,rfl⟩
          have u0:y0<=255:=by omega
          have u1:y1<=255:=by omega
          have u2:y2<=255:=by omega
          have HI2:Hid (MT b m (a+2) De=if y0<32 then MT b (m-(k+1)) (a3+3) (l.set y0 (256*y1+y2-4000))else none):=by
           show _=_;rw[HIn.out,HBl.out,<-ha4,<-ha5,HBy.out a3 hj0,HBy.out a4 hj1,HBy.out a5 hj2,hy0,hy1,hy2,Int.toNat_natCast];by_cases q:y0<32
           ·rw[if_pos q,if_pos ⟨hok,by omega⟩]
           ·rw[if_neg q,if_neg (by omega)]
          clear t0 t1 t2 ha4 ha5;by_cases hy:y0<32
          ·have hyi:(y0:Int)<32:=by omega
           have HX:Hid (MT b (m-(k+1)) (a3+3) (l.set y0 (256*y1+y2-4000))=MT b m (a+2) De):=by show _=_;rw[HI2.out,if_pos hy]
           obtain⟨x0,hx0⟩:∃x,wr.cell? ⟨wo.heap.size,y0,none⟩=some x:=⟨_,by rw[HG.out.2.1.cell];exact Aa l y0 (by rw[HG.out.1];exact hy)⟩
           have hfr:=HG.out.2.1.free y0;go_wp2_with fail;go_region;all_goals
            go_wp2_with fail;refine⟨?_,?measure⟩
            (repeat apply Exists.intro)
            refine⟨?rel,rfl⟩;case rel=>
             refine⟨k+1,a3+3,l.set y0 (256*y1+y2-4000),by omega,by go_num,by go_num,by omega,by simp[HG.out.1],?_,?_,HX.out⟩
             ·rw[<-Be];exact At.drewN (HG.out.2.1.put y0 _) 1
             ·exact below_drewN (HG.out.2.2.1.setCell (Nat.le_refl _) _) 1
            case measure=>simp[intOf];omega
          ·have hyi:(32:Int)<=(y0:Int):=by omega
           have HX:Hid (GD s=none):=HBd.out (by rw[HI2.out,if_neg hy]);go_wp2_with fail
           go_ret2
           exact⟨HBr.out.trans (HG.out.2.2.1.mono hbs),.inl ⟨HX.out,rfl⟩⟩
         ·have hi3':(s.size:Int)<(a3:Int)+3:=by omega
          have HX:Hid (GD s=none):=HBd.out (by rw[HIn.out,HBl.out,if_neg (λh=>hok h.1)]);go_wp2_with fail
          go_ret2
          exact⟨HBr.out.trans (HG.out.2.2.1.mono hbs),.inl ⟨HX.out,rfl⟩⟩
        ·have hkm':k=m:=by omega
         subst hkm';have HX:Hid (Ob b (n-(q+1)) a3 (L++[some l])=Ob b n 1 []):=by
          show _=_;have h0:=HG.out.2.2.2;rw[show k-k=0 by omega]at h0;have h1:MT b k (a+2) De=some (a3,l):=h0.symm;rw[HSu.out,HL2.out,h1]
         obtain⟨w2,rfl⟩:∃w2,w2=wr:=⟨_,rfl⟩
         have HLx:Hid (L9 w2 w.heap.size (.slice ao q cap) X L):=HLr.out.keep HG.out.2.2.1 (Nat.le_refl _);have HBx:Hid (Below w.heap.size w w2):=HBr.out.trans (HG.out.2.2.1.mono hbs);have HPv:Hid (PV w2 w.heap.size (.slice (some ⟨wo.heap.size,0,none⟩) 32 32) (some l)):=⟨wo.heap.size,hbs,rfl,HG.out.2.1,HG.out.1⟩
         have HAw:Hid (∀k,(Value.slice (some ⟨wo.heap.size,0,none⟩) 32 32).ownBlock=some k->(Value.slice ao q cap).ownBlock≠some k):=by
          intro k hk e;have h1:=(HLr.out.row.lt k e).2;have h2:wo.heap.size=k:=Option.some.inj hk;omega
         clear hwl hkm;have HN:Hid (w2.heap.size+0=w2.heap.size/\L.length=q):=⟨rfl,HR.out.1⟩
         go_wp2_with (at_builtin;refine E0 rfl (.tmp 104) (.tmp 106) 54 rfl w.heap.size 32 i0 _ 1 24 Tryz.underlying54 hi0 hz0 hz1 hz2 rfl (by decide) (.slice ao q cap) q X rfl (by have h:=HLx.out;have h2:=h.row;rw[HN.out.2]at h2;exact h2.alloc _) ⟨w2.heap.size,0,none⟩ 1 1 [(Value.slice (some ⟨wo.heap.size,0,none⟩) 32 32)] rfl rfl (by intro t u ht;match t,ht with|0,ht=>simp at ht;subst ht;exact World.cell?_alloc_at _ _ _ _ rfl) (by intro u hu;simp at hu;subst hu;rfl) (by unfold maxLen;omega) (by omega) (by have:=(HBx.out).size;simp;omega) ?_;intro v5 w5 hown5 hgrow5 hv5);have HL5:Hid (L9 w5 w.heap.size v5 (X++[(Value.slice (some ⟨wo.heap.size,0,none⟩) 32 32)]) (L++[(some l)])):=by
          refine L9.snoc (w:=w2.alloc (.cells #[(Value.slice (some ⟨wo.heap.size,0,none⟩) 32 32)] 32)) (v:=.slice ao q cap) ?_ ?_ ?_ ?_ hgrow5 hv5
          ·exact(HLx.out).keep ((Below.refl _ _).alloc (Nat.le_refl _) _) (Nat.le_refl _)
          ·exact(HPv.out.same (λk hk=>heap_alloc_old _ _ (HPv.out.lt k hk).2))
          ·intro k hk;first|(cases hk;done)|exact HAw.out k hk
          ·rw[HN.out.2];exact hown5
         have HB5:Hid (Below w.heap.size w w5):=((HBx.out).alloc (HBx.out).size _).grown hgrow5 (by have:=(HBx.out).size;simp;omega) (λk hk=>((HLx.out).row.lt k (by exact hk)).1);obtain⟨ao5,cap5,hv5e⟩:∃ao5 cap5,v5=.slice ao5 (q+1) cap5:=by
          rcases hown5.2 with⟨e,e2⟩|⟨g,cap,cur,e,_⟩
          ·omega
          ·exact⟨_,_,e⟩
         subst hv5e;have H5:Hid (L9 w5 w.heap.size (.slice ao5 (q+1) cap5) (X++[(Value.slice (some ⟨wo.heap.size,0,none⟩) 32 32)]) (L++[(some l)])/\Below w.heap.size w w5):=⟨HL5.out,HB5.out⟩
         clear hown5 hgrow5 hv5 HL5 HB5;go_roundw;case rel=>exact⟨q+1,a3,ao5,cap5,X++[Value.slice (some ⟨wo.heap.size,0,none⟩) 32 32],L++[some l],by omega,by go_num,rfl,by omega,rfl,by simp[HR.out.1],H5.out.1,H5.out.2,HX.out⟩
         case measure=>simp[intOf];omega
  ·have hqn:q=n:=by omega
   subst hqn;have HX:Hid (GD s=if(DH L).2=0/\strOfNums (DH L).1=s then some L else none):=by
    show _=_;have h0:=HR.out.2.2.2;rw[show q-q=0 by omega]at h0;have h1:Ob b q 1 []=some L:=h0.symm;rw[HD.out,HE.out,h1]
   obtain⟨hrl,HVa⟩:=HR.out.2.1.reads (by rw[HR.out.1];omega);have HLl:Hid (∀i l,L.getD i none=some l->l.length<=1073741824):=by
    intro i l hl;rcases Nat.lt_or_ge i L.length with c|c
    ·have:=HR.out.2.1.each i c;rw[hl]at this;obtain⟨_,_,_,_,h5⟩:=this;omega
    ·rw[List.getD_eq_getElem?_getD,List.getElem?_eq_none c]at hl;cases hl
   have hen:=T_ (w:=wr) (.slice ao q cap) L (by rw[HR.out.1];unfold maxLen;omega) HLl.out hrl;obtain⟨wz,hwz⟩:∃wz,wz=wr:=⟨_,rfl⟩
   have HBz:Hid (Below w.heap.size w wr):=HR.out.2.2.1;have HRl:Hid (CX wr (.slice ao q cap) L):=hrl;obtain⟨a7,n7,c7,hv7⟩:=HVa;injection hv7 with e1 e2 e3
   subst e1;clear hrl e2 e3 hwz;unfold VI at hen;obtain⟨E,hE⟩:∃E,E=DH L:=⟨_,rfl⟩
   rw[<-hE]at hen HX;clear hE;obtain⟨xs,er⟩:=E;simp only at hen HX;obtain⟨S,hS⟩:∃S,S=strOfNums xs:=⟨_,rfl⟩
   rw[<-hS]at hen HX;clear hS;go_wp2_with fail;refine hen.mono ?_;rintro e w3 ⟨rfl,hb3⟩;have H3:Hid (Below w.heap.size w w3/\CX w3 (.slice (some a7) q cap) L):=⟨HBz.out.trans (hb3.mono HBz.out.size),HRl.out.keep hb3⟩
   clear hb3 hen;by_cases h4:er=0
   ·subst h4;by_cases h5:S=s
    ·have h5':(S.toList==s.toList)=true:=(Uo S s).2 h5;have HY:Hid (GD s=some L):=by show _=_;rw[HX.out,if_pos ⟨rfl,h5⟩]
     clear h5 HX;go_wp2_with fail
     go_ret2
     exact⟨H3.out.1,.inr ⟨L,_,HY.out,rfl,H3.out.2,_,_,_,rfl⟩⟩
    ·have h5':(S.toList==s.toList)=false:=YP h5;have HY:Hid (GD s=none):=by show _=_;rw[HX.out,if_neg (λz=>h5 z.2)]
     clear h5 HX;go_wp2_with fail
     go_ret2
     exact⟨H3.out.1,.inl ⟨HY.out,rfl⟩⟩
   ·have h4':(er != 0)=true:=by rw[bne_iff_ne];exact h4
    have HY:Hid (GD s=none):=by show _=_;rw[HX.out,if_neg (λz=>h4 z.1)]
    clear h4 HX;go_wp2_with fail
    go_ret2
    exact⟨H3.out.1,.inl ⟨HY.out,rfl⟩⟩
theorem OF(hs:s.size<=9223372036854775807):Calls Tryz.prog 26 #[.string s] w (VM w s):=by
 by_cases hbad:s.size<1\/(AA s).getD 0 0<1\/21<(AA s).getD 0 0
 ·exact Mi hs hbad
 ·exact OG hs (by omega) (by omega) (by omega)
end Go.Proofs.YtffajooegiempaaGreatDoor
namespace Go.Proofs.YtffajooegiempaaGreatDoor
open Go.RowKit
variable {w:World}{C:Nat->Int}
theorem Xq{R:Nat->Int}(hR:∀f,f<32->R f<=NB):∀n R',EO R n=some R'->∀f,f<32->R' f<=R f:=by
 intro n;induction n with
 |zero=>intro R' h f _;cases h;exact Int.le_refl _
 |succ n ih=>
  intro R' h f hf;obtain⟨R1,b,e,e2⟩:=Dq h;exact Int.le_trans ((EW (Fp hR n R1 e) 1024 (Nat.le_refl _) _ b e2).le f hf) (ih R1 e f hf)
theorem F2(h:TC C)(hs:Sm C)(u:Value)(hu:AQ w u (Bl C)):Calls Tryz.prog 59 #[u] w (BF w false C):=by
 obtain⟨R0,hR0⟩:∃R0:Nat->Int,R0=λf=>(Bl C).getD f 0:=⟨_,rfl⟩
 have eq:∀f,f<32->R0 f=bd C f:=λf hf=>by rw[hR0];exact CP C hf
 have hA:Ab C R0:=λf hf=>by rw[eq f hf];exact Int.le_refl _
 have hH:∀f,f<32->R0 f<=NB:=λf hf=>by rw[eq f hf];exact h.bd_hi hf
 have hcl:=KU u (Bl C) (BJ C) hu;rw[<-hR0]at hcl;refine(hcl (λn R e=>?_)).mono ?_
 ·obtain⟨R1,e1,a1,i1⟩:=I0 h hH hA n;have:R1=R:=Option.some.inj (e1.symm.trans e);subst this;intro k hk R' b e2 f hf;obtain⟨R2,b2,e3,a2,i2⟩:=KR h a1 i1 k hk;have e4:(R',b)=(R2,b2):=Option.some.inj (e2.symm.trans e3);cases e4
  have x:=a2 f hf;have y:=i2 f hf;have z:=Jv hs hf;unfold NB at y;omega
 ·rintro e w' ⟨hb,⟨rfl,n,hn⟩|⟨g,n,R,R',rfl,hg,ha,h1,h2⟩⟩
  ·obtain⟨R1,e1,_⟩:=I0 h hH hA n;rw[hn]at e1;cases e1
  ·refine⟨hb,.inr ⟨rfl,g,rfl,hg,?_⟩⟩;obtain⟨R1,e1,a1,i1⟩:=I0 h hH hA n;have:R1=R:=Option.some.inj (e1.symm.trans h1);subst this;obtain⟨R2,b2,e3,a2,i2⟩:=KR h a1 i1 1024 (Nat.le_refl _);have e4:(R',false)=(R2,b2):=Option.some.inj (h2.symm.trans e3);cases e4
   have e5:∀f,f<32->R' f=bd C f:=λf hf=>by
    have x:=a2 f hf;have y:=(EW (Fp hH n R1 h1) 1024 (Nat.le_refl _) _ _ e3).le f hf;have z:=Xq hH n R1 h1 f hf;have:=eq f hf;omega
   rw[<-It e5];exact ha
def LV(w:World)(e:Bool)(M:Nat->Int)(u:Value):Prop:=(e=true/\u=.slice none 0 0)\/(e=false/\∃g,u=.slice (some ⟨g,0,none⟩) 32 32/\At w g (ic (Bl M)) Gc)
theorem LV.keep{w w':World}{e:Bool}{M:Nat->Int}{u:Value}(h:LV w e M u)(hb:Below w.heap.size w w'):LV w' e M u:=by
 rcases h with h|⟨h1,g,h2,h3⟩
 ·exact .inl h
 ·exact .inr ⟨h1,g,h2,h3.keep hb h3.lt⟩
theorem Pd{e0:Bool}{M:Nat->Int}(u v:Value)(r:Option (List Int))(hT:e0=false->TC M/\Sm M)(hr:F_ r)(hu:LV w e0 M u)(hv:Kt w v r):
  Calls Tryz.prog 65 #[u,v] w λe w'=>e=.returned (.bool (DY e0 (cE r) M (cM r)))/\Below w.heap.size w w':=by
 have hq1:∀(w:World)(a:Option Addr)(n c:Nat),(binOp .eql 32 (.slice a n c) (.slice none 0 0)).run Tryz.prog w=.ok (.bool a.isNone) w:=λw a n c=>Lib.run_eql_slice_nil w 32 tN a n c 0 0 Tryz.underlying32;rw[KG (λh=>(hT h).1) hr];rcases hu with⟨rfl,rfl⟩|⟨rfl,g0,rfl,ha0⟩
 ·have HE:Hid (TX true M r=true):=by cases r<;>rfl
  obtain⟨va,vn,vc,rfl⟩:∃a n c,v=.slice a n c:=by
   cases r with
   |none=>exact⟨_,_,_,hv⟩
   |some l=>obtain⟨_,a,n,c,h⟩:=hv;exact⟨_,_,_,h⟩
  clear hT hr hv;go_enter Tryz.func65,Tryz.ntmps65;go_wp2_with fail;go_ret;exact⟨EX HE.out,Below.refl _ _⟩
 ·have hcl:=F2 (w:=w) (hT rfl).1 (hT rfl).2 (.slice (some ⟨g0,0,none⟩) 32 32) (AQ.at_ ha0 (BJ M) (Nat.le_refl _) (λi hi=>Aa _ _ (by rw[BJ];exact hi)));cases r with
  |none=>
   obtain rfl:v=.slice none 0 0:=hv;have HE:Hid (TX false M none=false):=rfl;clear hT hr ha0;go_enter Tryz.func65,Tryz.ntmps65;go_wp2_with fail;refine hcl.mono ?_;rintro e w1 ⟨hb1,⟨he, -⟩|⟨-,g,rfl,hg,ha⟩⟩
   ·cases he
   ·have HB1:Hid (Below w.heap.size w w1):=hb1;clear hb1 hcl ha;go_wp2_with fail;go_ret;exact⟨EX HE.out,HB1.out⟩
  |some p=>
   have hp:=(FO hr).1;obtain⟨hv,a,n,c,rfl⟩:=hv;have HL:Hid (∀w1 g,Below w.heap.size w w1->At w1 g (ic (Bl M)) Gc->Calls Tryz.prog 99 #[.slice (some ⟨g,0,none⟩) 32 32,.slice (some a) n c] w1 λe w'=>e=.returned (.bool (leF (bd M) (λf=>p.getD f 0) 32))/\Below w1.heap.size w1 w'):=by
    intro w1 g hb ha;have h:=Mj (w:=w1) (.slice (some ⟨g,0,none⟩) 32 32) (.slice (some a) n c) (Bl M) p (BJ M) hp (AQ.at_ ha (BJ M) (Nat.le_refl _) (λi hi=>Aa _ _ (by rw[BJ];exact hi))) (hv.keep hb);rw[Gt (A:=λf=>(Bl M).getD f 0) (A':=bd M) 32 (λf hf=>Gh M f hf)]at h;exact h
   have HE:Hid (TX false M (some p)=leF (bd M) (λf=>p.getD f 0) 32):=Bool.false_or _;generalize leF (bd M) (λf=>p.getD f 0) 32=b at *;clear hT hr ha0 hv hp;go_enter Tryz.func65,Tryz.ntmps65;go_wp2_with fail;refine hcl.mono ?_;rintro e w1 ⟨hb1,⟨he, -⟩|⟨-,g,rfl,hg,ha⟩⟩
   ·cases he
   ·have hls:=HL.out w1 g hb1 ha;have HB1:Hid (Below w.heap.size w w1):=hb1;clear hb1 hcl ha;go_wp2_with fail;refine hls.mono ?_;rintro e w2 ⟨rfl,hb2⟩;go_wp2_with fail;go_ret;exact⟨EX HE.out,HB1.out.trans (hb2.mono HB1.out.size)⟩
theorem UD(v:Value)(r:Option (List Int))(hr:F_ r)(hv:Kt w v r):
  Calls Tryz.prog 63 #[v] w λe w'=>e=.returned (.bool (DY false (cE r) (λ_=>0) (cM r)))/\Below w.heap.size w w':=by
 have hq1:∀(w:World)(a:Option Addr)(n c:Nat),(binOp .eql 32 (.slice a n c) (.slice none 0 0)).run Tryz.prog w=.ok (.bool a.isNone) w:=λw a n c=>Lib.run_eql_slice_nil w 32 tN a n c 0 0 Tryz.underlying32;rw[Kd hr];cases r with
 |none=>
  obtain rfl:v=.slice none 0 0:=hv;have HE:Hid (Uk none=false):=rfl;clear hr;go_enter Tryz.func63,Tryz.ntmps63;go_wp2_with fail;go_ret;exact⟨EX HE.out,Below.refl _ _⟩
 |some l=>
  have hl:=(FO hr).1;obtain⟨⟨ao,ca,e, -,h0⟩,a,n,c,rfl⟩:=hv;obtain⟨p,off,rfl,hp,hcell⟩:=h0 (by omega);cases e
  rw[hl];have HC:Hid (∀i,i<32->w.cell? ⟨p,off+i,none⟩=some (.int .i64 (l.getD i 0))):=λi hi=>hcell i (by omega);have HE:Hid (Uk (some l)=leF (λ_=>0) (λf=>l.getD f 0) 32):=rfl;obtain⟨A,hA⟩:∃A:Nat->Int,A=λ_=>0:=⟨_,rfl⟩
  obtain⟨B,hB⟩:∃B:Nat->Int,B=λf=>l.getD f 0:=⟨_,rfl⟩
  have HC':Hid (∀i,i<32->w.cell? ⟨p,off+i,none⟩=some (.int .i64 (B i))):=by rw[hB];exact HC.out
  have HA:Hid (∀i,A i=0):=by rw[hA];exact λ_=>rfl
  rw[<-hA,<-hB]at HE;clear HC hA hB hcell h0 hl hr;go_enter Tryz.func63,Tryz.ntmps63;go_wp2_with fail;go_loopw [3] (λi wr=>∃(f k:Nat),f<=32/\i=.int .i64 f/\Hid (wr=w.drewN k/\leF A B f=true)) (λi _=>32-(intOf i).toNat);case atStart=>exact⟨0,0,by omega,rfl,rfl,rfl⟩
  case round=>
   obtain⟨f,k,hf,rfl,HR⟩:=hrel;by_cases hlt:f<32
   ·have hfi:(f:Int)<32:=by omega
    have ca:wr.cell? ⟨p,off+f,none⟩=some (.int .i64 (B f)):=by rw[HR.out.1];exact HC'.out f hlt
    have HN:Hid (B f<0->leF A B 32=false):=λh=>by
     cases e:leF A B 32 with
     |false=>rfl
     |true=>have:=DI.1 e f hlt;rw[HA.out]at this;omega
    have HY:Hid (¬B f<0->leF A B (f+1)=true):=λh=>by
     show(leF A B f&&decide (A f<=B f))=true;rw[HR.out.2,HA.out,decide_eq_true (by omega)];rfl
    generalize B f=y at *;by_cases hxy:y<0
    ·have HF:Hid (leF A B 32=false):=HN.out hxy;go_wp2_with fail;go_ret;exact⟨EX (HE.out.trans HF.out),by rw[HR.out.1];exact below_drewN (Below.refl _ _) _⟩
    ·have HF:Hid (leF A B (f+1)=true):=HY.out hxy;go_wp2_with fail;go_roundw;case rel=>exact⟨f+1,k,by omega,by go_num,HR.out.1,HF.out⟩
     case measure=>simp[intOf];omega
   ·have hf32:f=32:=by omega
    subst hf32;go_wp2_with fail;go_ret;exact⟨EX (HE.out.trans HR.out.2),by rw[HR.out.1];exact below_drewN (Below.refl _ _) _⟩
end Go.Proofs.YtffajooegiempaaGreatDoor
namespace Go.Proofs.YtffajooegiempaaGreatDoor
open Go.RowKit
variable {w:World}
theorem E8(L:List (Option (List Int)))(k:Nat):BG L (k:Int)=L.getD k none:=by
 unfold BG;rw[if_neg (by omega),Int.toNat_natCast]
theorem LK:∀n,ET (λ_=>true) n=true
 |0=>rfl
 |n+1=>by show(ET (λ_=>true) n&&true)=true;rw[LK n];rfl
theorem NZ{F:List Ds}{L:List (Option (List Int))}{k:Nat}(h:L.getD k none=none):EK F L k=0:=by
 unfold EK;rw[E8,h];have e:DF (cE none) (cM none) (F.getD k (AC 0 0))=true:=rfl;rw[e,if_neg (by decide)];have e2:D0 F L k=λ_=>true:=by
  funext way
  unfold D0;rw[E8,h];have e3:CA (cE none) (cM none) (F.getD k (AC 0 0)) way=true:=rfl;rw[e3];rfl
 rw[e2,if_pos (LK _)]
theorem Kt.isSlice{v:Value}{r:Option (List Int)}(h:Kt w v r):∃a n c,v=.slice a n c:=by
 cases r with
 |none=>exact⟨_,_,_,h⟩
 |some o=>obtain⟨_,a,n,c,e⟩:=h;exact⟨_,_,_,e⟩
def Fk(F:List Ds)(L:List (Option (List Int)))(r:Int×Int):Prop:=if DY false (cE (BG L 0)) (λ_=>0) (cM (BG L 0))=false then r=(5,0)else FL (EK F L) F.length r
theorem Rt{B r:Nat}{m:Rd}{vs vo:Value}{P Q O:Nat->Nat}{l:List Int}{F:List Ds}{L:List (Option (List Int))}(h:AZ B w r m vs vo P Q O)(hp:AV l=some m)(hW:Bj F m.st)(hl:F.length<=20)(v:Value)(hv:CX w v L)(hn:L.length=F.length+1)(hok:∀r,r∈L->F_ r):
  Calls Tryz.prog 25 #[.pointer (some ⟨r,0,none⟩),v] w λe w'=>∃a b,e=.returned (.tuple #[.int .i64 a,.int .i64 b])/\Fk F L (a,b)/\Below w.heap.size w w':=by
 have hq1:∀(w:World)(a:Option Addr)(n c:Nat),(binOp .eql 32 (.slice a n c) (.slice none 0 0)).run Tryz.prog w=.ok (.bool a.isNone) w:=λw a n c=>Lib.run_eql_slice_nil w 32 tN a n c 0 0 Tryz.underlying32;have hSl:F.length=m.st.length:=hW.1.len;obtain⟨ao,cap,rfl,hcap,h0⟩:=hv;obtain⟨b,off,rfl,hblt,hcell⟩:=h0 (by omega);have HC:Hid (∀w1,Below w.heap.size w w1->∀i,i<F.length+1->∃a nn c,w1.cell? ⟨b,off+i,none⟩=some (.slice a nn c)/\Kt w1 (.slice a nn c) (L.getD i none)):=λw1 hb i hi=>by
  obtain⟨x,h1,h2⟩:=hcell i (by omega);obtain⟨a,nn,c,rfl⟩:=h2.isSlice;exact⟨a,nn,c,(hb.cell (by exact hblt)).trans h1,h2.keep hb⟩
 have HSt:Hid (∀w1 a nn c,Kt w1 (.slice a nn c) (L.getD 0 none)->Calls Tryz.prog 63 #[.slice a nn c] w1 λe w'=>e=.returned (.bool (DY false (cE (BG L 0)) (λ_=>0) (cM (BG L 0))))/\Below w1.heap.size w1 w'):=λw1 a nn c hr=>by
  have e0:BG L 0=L.getD 0 none:=E8 L 0;rw[e0];exact UD _ _ (Da hok 0) hr
 have HSf:Hid (∀w1,Below w.heap.size w w1->∀k,k<F.length->∀o a nn c,L.getD k none=some o->Kt w1 (.slice a nn c) (some o)->Calls Tryz.prog 64 #[.pointer (some ⟨r,0,none⟩),.int .i64 (k:Int),.slice a nn c] w1 λe w'=>e=.returned (.bool (DF (cE (BG L k)) (cM (BG L k)) (F.getD k (AC 0 0))))/\Below w1.heap.size w1 w'):=λw1 hb k hk o a nn c hr hrd=>by
  have ho:B_ o:=FO (by rw[<-hr];exact Da hok k);rw[E8,hr];show Calls Tryz.prog 64 _ w1 λe w'=>e=.returned (.bool (DF (ovE o) (BT o) (F.getD k (AC 0 0))))/\_;rw[Q5 (EV hp hW hk).2 (Ga hp k) ho];exact UC (h.keep hb) k (by omega) (Ga hp k) _ o ho hrd.1
 have HWy:Hid (∀w1,Below w.heap.size w w1->∀k:Nat,k<F.length->Calls Tryz.prog 21 #[.pointer (some ⟨r,0,none⟩),.int .i64 (k:Int)] w1 λe w'=>e=.returned (.int .i64 (Ae (F.getD k (AC 0 0)).kind))/\w'=w1):=λw1 hb k hk=>by
  have:=(h.keep hb).ways (k:Int);rw[if_neg (by omega),Int.toNat_natCast,<-EG hW hk]at this;exact this
 have HAf:Hid (∀w1,Below w.heap.size w w1->∀k,k<F.length->∀o a nn c way,L.getD k none=some o->Kt w1 (.slice a nn c) (some o)->Calls Tryz.prog 22 #[.pointer (some ⟨r,0,none⟩),.int .i64 (k:Int),.int .i64 way,.slice a nn c] w1 (BF w1 (CA (cE (BG L k)) (cM (BG L k)) (F.getD k (AC 0 0)) way) (CE (cE (BG L k)) (cM (BG L k)) (F.getD k (AC 0 0)) way))):=λw1 hb k hk o a nn c way hr hrd=>by
  have ho:B_ o:=FO (by rw[<-hr];exact Da hok k);rw[E8,hr];exact Jm (h.keep hb) k (by omega) (Gb hp (by omega)) (EV hp hW hk).2 way _ (ovE o) ⟨_,_,_,rfl⟩ (DC _ o ho hrd.1) (λhe=>Ll ho he)
 have HNx:Hid (∀w1,Below w.heap.size w w1->∀(k way:Nat),k<F.length->(way:Int)<Ae (F.getD k (AC 0 0)).kind->Calls Tryz.prog 23 #[.pointer (some ⟨r,0,none⟩),.int .i64 (k:Int),.int .i64 (way:Int)] w1 λe w'=>e=.returned (.int .i64 (Ap F k way).1)/\Below w1.heap.size w1 w'):=λw1 hb k way hk hw=>by
  have e:=FX hW hl k hk way;rw[if_neg (by rw[<-EG hW hk];omega)]at e;rw[e];exact((h.keep hb).next (by omega) k (by omega) way).mono λe w' ⟨h1,j,h2⟩=>⟨h1,by rw[h2];exact below_drewN (Below.refl _ _) j⟩
 have HIn:Hid (∀w1 (k way qn:Nat) u a nn c,k<F.length->(Ap F k way).1=(qn:Int)->LV w1 (CA (cE (BG L k)) (cM (BG L k)) (F.getD k (AC 0 0)) way) (CE (cE (BG L k)) (cM (BG L k)) (F.getD k (AC 0 0)) way) u->Kt w1 (.slice a nn c) (L.getD qn none)->Calls Tryz.prog 65 #[u,.slice a nn c] w1 λe w'=>e=.returned (.bool (D0 F L k way))/\Below w1.heap.size w1 w'):=λw1 k way qn u a nn c hk hq hu hrd=>by
  unfold D0;rw[hq,E8 L qn];refine Pd u _ _ (λhe=>?_) (Da hok qn) hu hrd;have hD:=EV hp hW hk;have hqs:=Gb hp (show k<m.st.length by omega);have ht:0<=(F.getD k (AC 0 0)).target/\(F.getD k (AC 0 0)).target<4:=by rw[<-hD.2.2.1];exact⟨hqs.var.1,by have:=hqs.var.2;omega⟩
  have hS:=W7 (QN (Ek hok (k:Int))) (Yw (Ek hok (k:Int))) hD.1 ht way;cases hce:cE (BG L k)with
  |true=>rw[hce]at he;cases he
  |false=>
   rw[hce]at he hS;exact⟨ZG (Su (Ek hok _) hce) hD.1 hqs hD.2 way he,hS⟩
 have HLn:Hid (∀w1,Below w.heap.size w w1->∃sa sc,w1.cell? ⟨r,1,none⟩=some (.slice sa F.length sc)):=λw1 hb=>by
  obtain⟨sa,sc,hvs⟩:=(h.keep hb).slen';obtain⟨_,r1,_⟩:=(h.keep hb).rdc;rw[hvs,<-hSl]at r1;exact⟨sa,sc,r1⟩
 have HNi:Hid (∀(k way:Nat),k<F.length->(way:Int)<Ae (F.getD k (AC 0 0)).kind->∃qn:Nat,(Ap F k way).1=(qn:Int)/\qn<F.length+1):=λk way hk hw=>by
  have:=Du (F:=F) k way (Fv F k hk way hw);exact⟨(Ap F k way).1.toNat,by omega,by omega⟩
 have HCk:Hid (∀k,EK F L k=if DF (cE (BG L k)) (cM (BG L k)) (F.getD k (AC 0 0))=false then 6 else if ET (D0 F L k) (Ae (F.getD k (AC 0 0)).kind).toNat then 0 else 7):=λk=>rfl;have HNo:Hid (∀k,L.getD k none=none->EK F L k=0):=λk hk=>NZ hk;have HWr:Hid (∀k,1<=Ae (F.getD k (AC 0 0)).kind/\Ae (F.getD k (AC 0 0)).kind<=2):=λk=>D1 _;have hr0:r<w.heap.size:=h.rd.lt;have HK5:Hid (DY false (cE (BG L 0)) (λ_=>0) (cM (BG L 0))=false->Fk F L (5,0)):=λq=>by show Fk F L (5,0);unfold Fk;rw[if_pos q]
 have HKk:Hid (DY false (cE (BG L 0)) (λ_=>0) (cM (BG L 0))=true->∀r,FL (EK F L) F.length r->Fk F L r):=λq r h=>by show Fk F L r;unfold Fk;rw[if_neg (by rw[q];decide)];exact h
 clear h hp hW h0 hcell hok hcap hSl;generalize EK F L=f at *;rw[hn];generalize hnn:F.length=n at *;obtain⟨a0,n0,c0,cx0,hrd0⟩:=HC.out w (Below.refl _ _) 0 (by omega);have cx00:w.cell? ⟨b,off,none⟩=some (.slice a0 n0 c0):=cx0;have hst:=HSt.out w _ _ _ hrd0;have h0n:(0:Int)<((n+1:Nat):Int):=by omega
 clear hrd0 HSt;generalize DY false (cE (BG L 0)) (λ_=>0) (cM (BG L 0))=st at *;go_enter Tryz.func25,Tryz.ntmps25;go_wp2_with fail;refine hst.mono ?_;rintro e w1 ⟨rfl,hb1⟩;have HB1:Hid (Below w.heap.size w w1):=hb1;clear hb1 hst cx0 cx00;cases st with
 |false=>
  have HK6:Hid (Fk F L (5,0)):=HK5.out rfl;clear HK5 HKk;go_wp2_with fail
  go_ret2
  exact⟨_,_,rfl,HK6.out,HB1.out⟩
 |true=>
  have HKl:Hid (∀r,FL f n r->Fk F L r):=HKk.out rfl;clear HK5 HKk;go_wp2_with fail;go_loopw [6,7] (λokv pv wr=>∃(i:Nat)(bb:Bool),i<=n/\okv=.bool bb/\pv=.int .i64 (i:Int)/\Hid ((∀j,j<i->f j=0)/\Below w.heap.size w wr)) (λ_ pv _=>n-(intOf pv).toNat);case atStart=>exact⟨0,_,by omega,rfl,rfl,λj hj=>by omega,HB1.out⟩
  case round=>
   obtain⟨i,bb,hi,rfl,rfl,HR⟩:=hrel;obtain⟨sa,sc,cl⟩:=HLn.out wr HR.out.2;by_cases hin:i<n
   ·have hii:(i:Int)<(n:Int):=by omega
    have hii1:(i:Int)<((n+1:Nat):Int):=by omega
    obtain⟨a,nn,c,cx,hrd⟩:=HC.out wr HR.out.2 i (by omega);have HA:Hid (f i=0->∀j,j<i+1->f j=0):=λh0 j hj=>by
     rcases Nat.lt_or_ge j i with q|q
     ·exact HR.out.1 j q
     ·rw[show j=i by omega];exact h0
    cases hr:L.getD i none with
    |none=>
     rw[hr]at hrd;have hrd':Value.slice a nn c=.slice none 0 0:=hrd;cases hrd'
     have HF:Hid (∀j,j<i+1->f j=0):=HA.out (HNo.out i hr);clear hrd;go_wp2_with fail;go_roundw;case rel=>exact⟨i+1,bb,by omega,rfl,by go_num,HF.out,HR.out.2⟩
     case measure=>simp[intOf];omega
    |some o=>
     rw[hr]at hrd;obtain⟨a',nn',c',e'⟩:=id hrd.2;cases e'
     have hsf:=HSf.out wr HR.out.2 i (by omega) o _ _ _ hr hrd;have HCi:Hid (f i=if DF (cE (BG L i)) (cM (BG L i)) (F.getD i (AC 0 0))=false then 6 else if ET (D0 F L i) (Ae (F.getD i (AC 0 0)).kind).toNat then 0 else 7):=HCk.out i;have HHr:Hid (L.getD i none=some o):=hr;clear hrd hr;generalize DF (cE (BG L i)) (cM (BG L i)) (F.getD i (AC 0 0))=sf at *;go_wp2_with fail;refine hsf.mono ?_;rintro e w2 ⟨rfl,hb2⟩;have H2:Hid (Below w.heap.size w w2):=HR.out.2.trans (hb2.mono HR.out.2.size);clear hb2 hsf cx cl;cases sf with
     |false=>
      have HF:Hid (f i=6):=HCi.out.trans (if_pos rfl);clear HCi;go_wp2_with fail
      go_ret2
      exact⟨_,_,rfl,HKl.out _ (.inr ⟨i,hin,HR.out.1,by rw[HF.out];decide,by rw[HF.out]⟩),H2.out⟩
     |true=>
      have HCj:Hid (f i=if ET (D0 F L i) (Ae (F.getD i (AC 0 0)).kind).toNat then 0 else 7):=HCi.out.trans (if_neg (by decide));have hwy:=HWy.out w2 H2.out i (by omega);have hwr:=HWr.out i;have HNxi:Hid (∀w1,Below w.heap.size w w1->∀(way:Nat),(way:Int)<Ae (F.getD i (AC 0 0)).kind->∃qn:Nat,qn<n+1/\(Ap F i way).1=(qn:Int)/\Calls Tryz.prog 23 #[.pointer (some ⟨r,0,none⟩),.int .i64 (i:Int),.int .i64 (way:Int)] w1 λe w'=>e=.returned (.int .i64 (qn:Int))/\Below w1.heap.size w1 w'):=λw1 hb way hw=>by
       obtain⟨qn,q1,q2⟩:=HNi.out i way (by omega) hw;have:=HNx.out w1 hb i way (by omega) hw;rw[q1]at this;exact⟨qn,q2,q1,this⟩
      have HAfi:Hid (∀w1,Below w.heap.size w w1->∀a nn c (way:Nat),Kt w1 (.slice a nn c) (some o)->Calls Tryz.prog 22 #[.pointer (some ⟨r,0,none⟩),.int .i64 (i:Int),.int .i64 (way:Int),.slice a nn c] w1 λe w'=>∃a' n' c',e=.returned (.slice a' n' c')/\Below w1.heap.size w1 w'/\LV w' (CA (cE (BG L i)) (cM (BG L i)) (F.getD i (AC 0 0)) way) (CE (cE (BG L i)) (cM (BG L i)) (F.getD i (AC 0 0)) way) (.slice a' n' c')):=λw1 hb a nn c way hrd=>by
       refine(HAf.out w1 hb i (by omega) o a nn c way HHr.out hrd).mono ?_;rintro e w' ⟨hb',⟨h1,rfl⟩|⟨h1,g,rfl,hg,ha⟩⟩
       ·exact⟨_,_,_,rfl,hb',.inl ⟨h1,rfl⟩⟩
       ·exact⟨_,_,_,rfl,hb',.inr ⟨h1,g,rfl,ha⟩⟩
      have HIni:Hid (∀w1 (way qn:Nat) u a nn c,(Ap F i way).1=(qn:Int)->LV w1 (CA (cE (BG L i)) (cM (BG L i)) (F.getD i (AC 0 0)) way) (CE (cE (BG L i)) (cM (BG L i)) (F.getD i (AC 0 0)) way) u->Kt w1 (.slice a nn c) (L.getD qn none)->Calls Tryz.prog 65 #[u,.slice a nn c] w1 λe w'=>e=.returned (.bool (D0 F L i way))/\Below w1.heap.size w1 w'):=λw1 way qn u a nn c hq hu hrd=>HIn.out w1 i way qn u a nn c (by omega) hq hu hrd;have HCx:Hid (∀w1,Below w.heap.size w w1->∀j,j<n+1->∃a nn c,w1.cell? ⟨b,off+j,none⟩=some (.slice a nn c)/\Kt w1 (.slice a nn c) (L.getD j none)):=HC.out;clear HCi HSf HWy HAf HNx HIn HNi HCk HWr;generalize D0 F L i=wp at *;obtain⟨kn,hkn⟩:∃kn:Nat,Ae (F.getD i (AC 0 0)).kind=(kn:Int):=⟨(Ae (F.getD i (AC 0 0)).kind).toNat,by omega⟩
      rw[hkn]at HCj hwy hwr HNxi;rw[Int.toNat_natCast]at HCj;clear hkn;go_wp2_with fail;refine hwy.mono ?_;rintro e w3 ⟨rfl,rfl⟩;clear hwy;go_wp2_with fail;go_loopw [6,9] (λokv yv wq=>∃(y:Nat)(bb:Bool),y<=kn/\okv=.bool bb/\yv=.int .i64 (y:Int)/\Hid (ET wp y=true/\Below w.heap.size w wq)) (λ_ yv _=>kn-(intOf yv).toNat);case atStart=>exact⟨0,_,by omega,rfl,rfl,rfl,H2.out⟩
      case round=>
       obtain⟨y,bb',hy,rfl,rfl,HQ⟩:=hrel;by_cases hyn:y<kn
       ·have hyi:(y:Int)<(kn:Int):=by omega
        obtain⟨a1,n1,c1,cx1,hrd1⟩:=HCx.out wr HQ.out.2 i (by omega);rw[HHr.out]at hrd1;have haf:=HAfi.out wr HQ.out.2 a1 n1 c1 y hrd1;clear hrd1;go_wp2_with fail;refine haf.mono ?_;rintro e w4 ⟨ua,un,uc,rfl,hb4,hu4⟩;have H4:Hid (Below w.heap.size w w4/\LV w4 (CA (cE (BG L i)) (cM (BG L i)) (F.getD i (AC 0 0)) y) (CE (cE (BG L i)) (cM (BG L i)) (F.getD i (AC 0 0)) y) (.slice ua un uc)):=⟨HQ.out.2.trans (hb4.mono HQ.out.2.size),hu4⟩
        clear hb4 hu4 haf cx1;obtain⟨qn,hqn,hqe,hnx⟩:=HNxi.out w4 H4.out.1 y hyi;have HQe:Hid ((Ap F i y).1=(qn:Int)):=hqe;clear hqe;go_wp2_with fail;refine hnx.mono ?_;rintro e w5 ⟨rfl,hb5⟩;have H5:Hid (Below w.heap.size w w5/\LV w5 (CA (cE (BG L i)) (cM (BG L i)) (F.getD i (AC 0 0)) y) (CE (cE (BG L i)) (cM (BG L i)) (F.getD i (AC 0 0)) y) (.slice ua un uc)):=⟨H4.out.1.trans (hb5.mono H4.out.1.size),H4.out.2.keep hb5⟩
        clear hb5 hnx;obtain⟨a2,n2,c2,cx2,hrd2⟩:=HCx.out w5 H5.out.1 qn hqn;have hqi:(qn:Int)<((n+1:Nat):Int):=by omega
        have his:=HIni.out w5 y qn _ a2 n2 c2 HQe.out H5.out.2 hrd2;clear hrd2;go_wp2_with fail;refine his.mono ?_;rintro e w6 ⟨rfl,hb6⟩;have H6:Hid (Below w.heap.size w w6):=H5.out.1.trans (hb6.mono H5.out.1.size);clear hb6 his cx2;cases hwp:wp y with
        |false=>
         have HF:Hid (f i=7):=HCj.out.trans (if_neg (by rw[MA hyn hwp];decide));clear hwp;go_wp2_with fail
         go_ret2
         exact⟨_,_,rfl,HKl.out _ (.inr ⟨i,hin,HR.out.1,by rw[HF.out];decide,by rw[HF.out]⟩),H6.out⟩
        |true=>
         have HE8:Hid (ET wp (y+1)=true):=by show(ET wp y&&wp y)=true;rw[HQ.out.1,hwp];rfl
         clear hwp;go_wp2_with fail;go_roundw;case rel=>exact⟨y+1,_,by omega,rfl,by go_num,HE8.out,H6.out⟩
         case measure=>simp[intOf];omega
       ·have hye:y=kn:=by omega
        subst hye;have HF:Hid (∀j,j<i+1->f j=0):=HA.out (HCj.out.trans (if_pos HQ.out.1));go_wp2_with fail;go_roundw;case rel=>exact⟨i+1,_,by omega,rfl,by go_num,HF.out,HQ.out.2⟩
        case measure=>simp[intOf];omega
   ·have hie:i=n:=by omega
    subst hie;go_wp2_with fail
    go_ret2
    exact⟨_,_,rfl,HKl.out _ (.inl ⟨HR.out.1,rfl⟩),HR.out.2⟩
end Go.Proofs.YtffajooegiempaaGreatDoor
