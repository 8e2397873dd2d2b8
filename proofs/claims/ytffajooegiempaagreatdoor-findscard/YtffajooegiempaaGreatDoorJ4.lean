import Derived.Test.YtffajooegiempaaGreatDoorJ3
import Derived.Great.BuildSlice
import Derived.Deep.MidRow
set_option maxRecDepth 100000
set_option maxHeartbeats 6400000
namespace Go.Proofs.YtffajooegiempaaGreatDoor
open Go.RowKit
variable {w:World}{b:Nat}{e0:Bool}{M:Nat->Int}
abbrev Gc:TypeId:=3
def mo(M:Nat->Int)(i j:Nat):Int:=if i=j/\M (i*8+j)≠NB then(M (i*8+j)).tdiv 2 else M (i*8+j)
def bd(M:Nat->Int)(f:Nat):Int:=if fs f=ss f/\M (fs f*8+ss f)≠NB then(M (fs f*8+ss f)).tdiv 2 else M (fs f*8+ss f)
theorem PJ(i j:Nat)(hi:i<8)(hj:j<8)(hS: -200000000000000000<=M (i*8+j)/\M (i*8+j)<=1000000000000000):
  Calls Tryz.prog 139 #[.agg (oc e0 M),.int .i64 (i:Int),.int .i64 (j:Int)] w λe w'=>e=.returned (.int .i64 (mo M i j))/\Below w.heap.size w w':=by
 have HE0:Hid (mo M i j=if i=j/\M (i*8+j)≠NB then(M (i*8+j)).tdiv 2 else M (i*8+j)):=rfl;have hii:(i:Int)<8:=by omega
 have hji:(j:Int)<8:=by omega
 have hi0:¬(8:Int)<=(i:Int):=by omega
 have hj0:¬(8:Int)<=(j:Int):=by omega
 have c1:(w.alloc (.cells (oc e0 M) tO)).cell? ⟨w.heap.size,1+i*8+j,none⟩=some (.int .i64 (M (i*8+j))):=by
  rw[Nat.add_assoc];exact AL.cell (w:=w.alloc (.cells (oc e0 M) tO)) (e0:=e0) (At.new _ _ _) (i*8+j) (by omega)
 obtain⟨m0,m1⟩:=hS;generalize M (i*8+j)=n at *;generalize oc e0 M=cs at *;have ht:=AW n;obtain⟨t1,t2⟩:=ht;by_cases hq:i=j/\n≠NB
 ·obtain⟨rfl,hq2⟩:=hq;have HE:Hid (mo M i i=n.tdiv 2):=HE0.out.trans (if_pos ⟨rfl,hq2⟩);have hb:(n != 1000000)=true:=by rw[bne_iff_ne];exact hq2
  clear HE0 hq2;go_enter Tryz.func139,Tryz.ntmps139;go_wp2_with fail;go_ret;exact⟨by rw[HE.out];rfl,(Below.refl _ _).alloc (Nat.le_refl _) _⟩
 ·have HE:Hid (mo M i j=n):=HE0.out.trans (if_neg hq);clear HE0;by_cases hij:i=j
  ·subst hij;have hb:(n != 1000000)=false:=by
    have:n=1000000:=by
     rcases Classical.em (n=NB)with e|e
     ·exact e
     ·exact absurd ⟨rfl,e⟩ hq
    rw[this];rfl
   clear hq;go_enter Tryz.func139,Tryz.ntmps139;go_wp2_with fail;go_ret;exact⟨by rw[HE.out];rfl,(Below.refl _ _).alloc (Nat.le_refl _) _⟩
  ·have hb:((i:Int)==(j:Int))=false:=by rw[beq_eq_false_iff_ne];omega
   clear hq hij;go_enter Tryz.func139,Tryz.ntmps139;go_wp2_with fail;go_ret;exact⟨by rw[HE.out];rfl,(Below.refl _ _).alloc (Nat.le_refl _) _⟩
theorem AX{ops:Array Oper}{o:Oper}{a:Act}{K:Act->World->Prop}{Q:Exit->Act->World->Prop}{E:Prop}(hg:o.guard=none)(p:Operand)(hop:o.op=Op.load tO p)(hp:a.eval p=.pointer (some ⟨b,0,none⟩))(hat:AL w b e0 M)
  (hK:K (a.put o.dst (.agg (oc e0 M))) w):if Region.wanted o (yielded ops a.tmps)=true then Oper.wp Tryz.prog o a w K Q else E:=by
 have hw:Region.wanted o (yielded ops a.tmps)=true:=by simp[Region.wanted,hg]
 rw[if_pos hw];unfold Oper.wp;simp[execOp,hop,hp,IY hat,Result.andThen];exact hK
theorem V4(hG:Cr w)(f:Nat)(hf:f<32)(hS:Sm M):
  Calls Tryz.prog 110 #[.agg (oc e0 M),.int .i64 (f:Int)] w λe w'=>e=.returned (.int .i64 (bd M f))/\Below w.heap.size w w':=by
 have hfi:(f:Int)<32:=by omega
 have hf0:¬(32:Int)<=(f:Int):=by omega
 have hgs:=hG.size;have g0:(w.alloc (.cells (oc e0 M) tO)).drew.cell? ⟨0,f,none⟩=some (.int .i64 ((fs f:Nat):Int)):=(World.cell?_alloc_past _ _ _ (by show 0<_;omega)).trans (hG.first f hf);have g1:(w.alloc (.cells (oc e0 M) tO)).drew.cell? ⟨1,f,none⟩=some (.int .i64 ((ss f:Nat):Int)):=(World.cell?_alloc_past _ _ _ (by show 1<_;omega)).trans (hG.second f hf);have hi:=D5 f hf;have hj:=D7 f hf;have HA1:Hid (AL (w.alloc (.cells (oc e0 M) tO)).drew w.heap.size e0 M):=At.new w _ _;have HB1:Hid (Below w.heap.size w (w.alloc (.cells (oc e0 M) tO)).drew):=((Below.refl _ _).alloc (Nat.le_refl _) _).drew;have HMo:Hid (∀w1,Calls Tryz.prog 139 #[.agg (oc e0 M),.int .i64 ((fs f:Nat):Int),.int .i64 ((ss f:Nat):Int)] w1 λe w'=>e=.returned (.int .i64 (mo M (fs f) (ss f)))/\Below w1.heap.size w1 w'):=λw1=>PJ _ _ hi hj (by have:=hS (fs f*8+ss f) (by omega);omega);have HE:Hid (bd M f=mo M (fs f) (ss f)):=rfl;generalize mo M (fs f) (ss f)=m at *;generalize fs f=i at *;generalize ss f=j at *;clear hG hS hi hj;go_enter Tryz.func110,Tryz.ntmps110;go_wp2_with fail;refine wp_region_any (by kernel_rfl) ?_;change wpAny _ _ _ _ _ _ _ (World.drew _);refine wpAny_take (i:=1) (v:=.int .i64 (f:Int)) rfl (by kernel_rfl) (by kernel_rfl) (by kernel_rfl) (λ_ _ _ h=>h) (Or.inl ⟨by rfl,by intro w;go_simp⟩) ?_;refine wpAny_take (i:=2) (v:=.pointer (some ⟨0,f,none⟩)) rfl (by kernel_rfl) (by kernel_rfl) (by kernel_rfl) (λ_ _ _ h=>h) (Or.inl ⟨by rfl,by intro w;go_simp⟩) ?_;refine wpAny_take (i:=4) (v:=.int .i64 (f:Int)) rfl (by kernel_rfl) (by kernel_rfl) (by kernel_rfl) (λ_ _ _ h=>h) (Or.inl ⟨by rfl,by intro w;go_simp⟩) ?_;refine wpAny_take (i:=5) (v:=.pointer (some ⟨1,f,none⟩)) rfl (by kernel_rfl) (by kernel_rfl) (by kernel_rfl) (λ_ _ _ h=>h) (Or.inl ⟨by rfl,by intro w;go_simp⟩) ?_;refine wpAny_ready (rs:=[0,3,6]) (by kernel_rfl) (by simp) ?_;refine AllReady.cons rfl (λK hK=>?_) (AllReady.cons rfl (λK hK=>?_) (AllReady.cons rfl (λK hK=>?_) AllReady.nil))
 ·refine AX rfl (.tmp 2) rfl rfl HA1.out ?_;refine hK _ _ ?_;clear hK K;refine wpAny_ready (rs:=[3,6]) (by kernel_rfl) (by simp) ?_;refine AllReady.cons rfl (λK hK=>?_) (AllReady.cons rfl (λK hK=>?_) AllReady.nil)
  ·go_simp;refine hK _ _ ?_;clear hK K;refine wpAny_ready (rs:=[6]) (by kernel_rfl) (by simp) ?_;refine AllReady.cons rfl (λK hK=>?_) AllReady.nil;go_simp;refine hK _ _ ?_;clear hK K;refine wpAny_ready (rs:=[7]) (by kernel_rfl) (by simp) ?_;refine AllReady.cons rfl (λK hK=>?_) AllReady.nil;go_simp;go_wp2_with (go_at_call 139;refine(HMo.out _).mono ?_;rintro e w2 ⟨rfl,hb2⟩);refine wpAny_take (i:=8) (v:=.int .i64 m) rfl (by kernel_rfl) (by kernel_rfl) (by kernel_rfl) (λ_ _ _ h=>h) (Or.inl ⟨by rfl,by intro w;go_simp⟩) ?_;refine wpAny_done (by kernel_rfl) ?_ _;go_wp2_with fail;go_ret;exact⟨by rw[HE.out];rfl,HB1.out.trans (hb2.mono (by simp))⟩
  ·go_simp;refine hK _ _ ?_;clear hK K;refine wpAny_ready (rs:=[3]) (by kernel_rfl) (by simp) ?_;refine AllReady.cons rfl (λK hK=>?_) AllReady.nil;go_simp;refine hK _ _ ?_;clear hK K;refine wpAny_ready (rs:=[7]) (by kernel_rfl) (by simp) ?_;refine AllReady.cons rfl (λK hK=>?_) AllReady.nil;go_simp;go_wp2_with (go_at_call 139;refine(HMo.out _).mono ?_;rintro e w2 ⟨rfl,hb2⟩);refine wpAny_take (i:=8) (v:=.int .i64 m) rfl (by kernel_rfl) (by kernel_rfl) (by kernel_rfl) (λ_ _ _ h=>h) (Or.inl ⟨by rfl,by intro w;go_simp⟩) ?_;refine wpAny_done (by kernel_rfl) ?_ _;go_wp2_with fail;go_ret;exact⟨by rw[HE.out];rfl,HB1.out.trans (hb2.mono (by simp))⟩
 ·go_simp;refine hK _ _ ?_;clear hK K;refine wpAny_ready (rs:=[0,6]) (by kernel_rfl) (by simp) ?_;refine AllReady.cons rfl (λK hK=>?_) (AllReady.cons rfl (λK hK=>?_) AllReady.nil)
  ·refine AX rfl (.tmp 2) rfl rfl HA1.out ?_;refine hK _ _ ?_;clear hK K;refine wpAny_ready (rs:=[6]) (by kernel_rfl) (by simp) ?_;refine AllReady.cons rfl (λK hK=>?_) AllReady.nil;go_simp;refine hK _ _ ?_;clear hK K;refine wpAny_ready (rs:=[7]) (by kernel_rfl) (by simp) ?_;refine AllReady.cons rfl (λK hK=>?_) AllReady.nil;go_simp;go_wp2_with (go_at_call 139;refine(HMo.out _).mono ?_;rintro e w2 ⟨rfl,hb2⟩);refine wpAny_take (i:=8) (v:=.int .i64 m) rfl (by kernel_rfl) (by kernel_rfl) (by kernel_rfl) (λ_ _ _ h=>h) (Or.inl ⟨by rfl,by intro w;go_simp⟩) ?_;refine wpAny_done (by kernel_rfl) ?_ _;go_wp2_with fail;go_ret;exact⟨by rw[HE.out];rfl,HB1.out.trans (hb2.mono (by simp))⟩
  ·go_simp;refine hK _ _ ?_;clear hK K;refine wpAny_ready (rs:=[0]) (by kernel_rfl) (by simp) ?_;refine AllReady.cons rfl (λK hK=>?_) AllReady.nil;refine AX rfl (.tmp 2) rfl rfl HA1.out ?_;refine hK _ _ ?_;clear hK K;refine wpAny_ready (rs:=[7]) (by kernel_rfl) (by simp) ?_;refine AllReady.cons rfl (λK hK=>?_) AllReady.nil;go_simp;go_wp2_with (go_at_call 139;refine(HMo.out _).mono ?_;rintro e w2 ⟨rfl,hb2⟩);refine wpAny_take (i:=8) (v:=.int .i64 m) rfl (by kernel_rfl) (by kernel_rfl) (by kernel_rfl) (λ_ _ _ h=>h) (Or.inl ⟨by rfl,by intro w;go_simp⟩) ?_;refine wpAny_done (by kernel_rfl) ?_ _;go_wp2_with fail;go_ret;exact⟨by rw[HE.out];rfl,HB1.out.trans (hb2.mono (by simp))⟩
 ·go_simp;refine hK _ _ ?_;clear hK K;refine wpAny_ready (rs:=[0,3]) (by kernel_rfl) (by simp) ?_;refine AllReady.cons rfl (λK hK=>?_) (AllReady.cons rfl (λK hK=>?_) AllReady.nil)
  ·refine AX rfl (.tmp 2) rfl rfl HA1.out ?_;refine hK _ _ ?_;clear hK K;refine wpAny_ready (rs:=[3]) (by kernel_rfl) (by simp) ?_;refine AllReady.cons rfl (λK hK=>?_) AllReady.nil;go_simp;refine hK _ _ ?_;clear hK K;refine wpAny_ready (rs:=[7]) (by kernel_rfl) (by simp) ?_;refine AllReady.cons rfl (λK hK=>?_) AllReady.nil;go_simp;go_wp2_with (go_at_call 139;refine(HMo.out _).mono ?_;rintro e w2 ⟨rfl,hb2⟩);refine wpAny_take (i:=8) (v:=.int .i64 m) rfl (by kernel_rfl) (by kernel_rfl) (by kernel_rfl) (λ_ _ _ h=>h) (Or.inl ⟨by rfl,by intro w;go_simp⟩) ?_;refine wpAny_done (by kernel_rfl) ?_ _;go_wp2_with fail;go_ret;exact⟨by rw[HE.out];rfl,HB1.out.trans (hb2.mono (by simp))⟩
  ·go_simp;refine hK _ _ ?_;clear hK K;refine wpAny_ready (rs:=[0]) (by kernel_rfl) (by simp) ?_;refine AllReady.cons rfl (λK hK=>?_) AllReady.nil;refine AX rfl (.tmp 2) rfl rfl HA1.out ?_;refine hK _ _ ?_;clear hK K;refine wpAny_ready (rs:=[7]) (by kernel_rfl) (by simp) ?_;refine AllReady.cons rfl (λK hK=>?_) AllReady.nil;go_simp;go_wp2_with (go_at_call 139;refine(HMo.out _).mono ?_;rintro e w2 ⟨rfl,hb2⟩);refine wpAny_take (i:=8) (v:=.int .i64 m) rfl (by kernel_rfl) (by kernel_rfl) (by kernel_rfl) (λ_ _ _ h=>h) (Or.inl ⟨by rfl,by intro w;go_simp⟩) ?_;refine wpAny_done (by kernel_rfl) ?_ _;go_wp2_with fail;go_ret;exact⟨by rw[HE.out];rfl,HB1.out.trans (hb2.mono (by simp))⟩
theorem Tryz.infoNo:(Tryz.prog.info? Gc).map (λi=>(i.zero,i.size,i.bytes))=some (some (.int .i64 0),1,8):=by kernel_rfl
def Bl(M:Nat->Int):List Int:=(List.range 32).map (bd M)
def BF(w:World)(e:Bool)(M:Nat->Int):Ending->World->Prop:=λx w'=>Below w.heap.size w w'/\
 ((e=true/\x=.returned (.slice none 0 0))\/(e=false/\∃g,x=.returned (.slice (some ⟨g,0,none⟩) 32 32)/\w.heap.size<=g/\At w' g (ic (Bl M)) Gc))
theorem MZ(hG:Cr w)(hS:Sm M):Calls Tryz.prog 74 #[.agg (oc e0 M)] w (BF w e0 M):=by
 have hcz:(w.alloc (.cells (oc e0 M) tO)).cell? ⟨w.heap.size,0,none⟩=some (.bool e0):=by
  rw[At.cell (At.new w (oc e0 M) tO)];exact Ib _ _
 have hgs:=hG.size;have HG:Hid (Cr w):=hG;have HS:Hid (Sm M):=hS;have HB0:Hid (∀o,Below w.heap.size w (w.alloc o)):=λo=>(Below.refl _ _).alloc (Nat.le_refl _) _;have HA0:Hid (AL (w.alloc (.cells (oc e0 M) tO)) w.heap.size e0 M):=At.new _ _ _;cases e0 with
 |true=>
  clear hG hS;go_enter Tryz.func74,Tryz.ntmps74;go_wp2_with fail;go_ret;exact⟨HB0.out _,.inl ⟨rfl,rfl⟩⟩
 |false=>
  obtain⟨i0,hi0,hz0,hz1,hz2⟩:=info_parts Tryz.infoNo;have hmk:∀w,(Instr.makeSlice 32 (.int .i64 0) (.int .i64 32)).run Tryz.prog w=.ok (.slice (some ⟨w.heap.size,0,none⟩) 0 32) (w.alloc (.cells (ic (List.replicate 32 0)) Gc)):=λ_=>by kernel_rfl
  have hown0:=World.ownsRow_made (base:=w.heap.size+1) (e:=Gc) (size:=1) (w.alloc (.cells (oc false M) tO)) (ic (List.replicate 32 0)) 32 (by simp) (by decide) rfl;rw[show(w.alloc (.cells (oc false M) tO)).heap.size=w.heap.size+1 by simp]at hown0;have HOw:Hid (World.ownsRow _ _ _ _ _ _ _):=hown0;have HBd:Hid (∀(wr:World)(f:Nat),f<32->Below w.heap.size w wr->Calls Tryz.prog 110 #[.agg (oc false M),.int .i64 (f:Int)] wr λe w'=>e=.returned (.int .i64 (bd M f))/\Below wr.heap.size wr w'):=λwr f hf hb=>V4 (HG.out.keep hb hgs) f hf HS.out;have HA1:Hid (AL ((w.alloc (.cells (oc false M) tO)).alloc (.cells (ic (List.replicate 32 0)) Gc)) w.heap.size false M):=At.allocH HA0.out _;have HB1:Hid (Below w.heap.size w ((w.alloc (.cells (oc false M) tO)).alloc (.cells (ic (List.replicate 32 0)) Gc))):=(HB0.out _).alloc (by simp) _;clear hG hS hown0;generalize ic (List.replicate 32 0)=zs at *;go_enter Tryz.func74,Tryz.ntmps74;go_wp2_with fail;go_loopw [3,4] (λsl i wr=>∃(q:Nat),q<=32/\i=.int .i64 q/\sl=.slice (some ⟨w.heap.size+1,0,none⟩) q 32/\Hid (wr.ownsRow (w.heap.size+1) Gc 1 (.slice (some ⟨w.heap.size+1,0,none⟩) q 32) q ((List.range q).map λi=>.int .i64 (bd M i))/\AL wr w.heap.size false M/\Below w.heap.size w wr/\w.heap.size+2<=wr.heap.size)) (λ_ i _=>32-(intOf i).toNat);case atStart=>exact⟨0,by omega,rfl,rfl,HOw.out,HA1.out,HB1.out,by simp⟩
  case round=>
   obtain⟨q,hq,rfl,rfl,HQ⟩:=hrel;by_cases hlt:q<32
   ·have hqi:(q:Int)<32:=by omega
    have hbd:=HBd.out wr q hlt HQ.out.2.2.1;go_wp2_with (refine AH (e0:=false) (M:=M) rfl (.tmp 1) rfl rfl HQ.out.2.1 ?_);refine hbd.mono ?_;rintro e w3 ⟨rfl,hb3⟩;have H3:Hid (w3.ownsRow (w.heap.size+1) Gc 1 (.slice (some ⟨w.heap.size+1,0,none⟩) q 32) q ((List.range q).map λi=>.int .i64 (bd M i))/\AL w3 w.heap.size false M/\Below w.heap.size w w3/\w.heap.size+2<=w3.heap.size):=by
     have hsz:=HQ.out.2.2.2;refine⟨?_,At.keep HQ.out.2.1 hb3 (by omega),HQ.out.2.2.1.trans (hb3.mono (by omega)),Nat.le_trans hsz hb3.size⟩;obtain⟨h1,h2⟩:=HQ.out.1;refine⟨h1,?_⟩;rcases h2 with h2|⟨g,cap,c,hv,hg,hh,r⟩
     ·exact .inl h2
     ·cases hv
      exact .inr ⟨_,_,c,rfl,hg,by rw[hb3.block _ (by omega)];exact hh,r⟩
    clear hb3 hbd;obtain⟨x,hx⟩:∃x,x=bd M q:=⟨_,rfl⟩
    rw[<-hx];have HX:Hid (x=bd M q):=hx;clear hx;go_wp2_with (at_builtin;refine wpList_append_fits _ rfl (.tmp 12) (.tmp 16) 32 rfl (w.heap.size+1) Gc i0 1 Tryz.underlying32 hi0 hz1 (w.heap.size+1) q 32 _ rfl (H3.out.1.alloc _) ⟨w3.heap.size,0,none⟩ 1 1 [.int .i64 x] rfl rfl (by intro t u ht;match t,ht with|0,ht=>simp at ht;subst ht;exact World.cell?_alloc_at _ _ _ _ rfl) (by intro u hu;simp at hu;subst hu;rfl) (by omega) ?_;intro w5 hown5 hgrow5);go_roundw;case rel=>
     refine⟨q+1,by omega,by go_num,rfl,?_,?_,?_,?_⟩
     ·rw[HX.out]at hown5;rw[List.range_succ,List.map_append];exact hown5
     ·have:=hgrow5.block w.heap.size (by have:=H3.out.2.2.2;simp;omega) (by intro e;have:=Option.some.inj e;omega);exact At.same (At.allocH H3.out.2.1 _) this
     ·exact((H3.out.2.2.1.alloc H3.out.2.2.1.size _).grown hgrow5 (by have:=H3.out.2.2.2;simp;omega) (λk hk=>by cases hk;omega))
     ·have h1:=hgrow5.size;have h2:=H3.out.2.2.2;simp at h1;omega
    case measure=>simp[intOf];omega
   ·have hq32:q=32:=by omega
    subst hq32;go_wp2_with fail;go_ret;refine⟨HQ.out.2.2.1,.inr ⟨rfl,w.heap.size+1,rfl,by omega,?_⟩⟩;obtain⟨⟨_,h2⟩,_⟩:=HQ.out;rcases h2 with⟨e,_⟩|⟨g,cap,cur,e,hg,hh,hn4,hc4,hsz,htk⟩
    ·cases e
    ·cases e
     have:cur=ic (Bl M):=by
      apply Array.toList_inj.1;rw[<-List.take_of_length_le (l:=cur.toList) (i:=32*1) (by simp;omega),htk];simp[ic,Bl]
     rw[<-this];exact hh
end Go.Proofs.YtffajooegiempaaGreatDoor
namespace Go.Proofs.YtffajooegiempaaGreatDoor
open Go.RowKit
variable {w:World}{b:Nat}{e1 e2:Bool}{M N:Nat->Int}
def leF(M N:Nat->Int):Nat->Bool
 |0=>true
 |k+1=>leF M N k&&decide (M k<=N k)
def DY(e1 e2:Bool)(M N:Nat->Int):Bool:=if(e1||e2)=true then e1 else leF M N 64
theorem Re{k:Nat}(h:k<64)(hn:¬M k<=N k):leF M N 64=false:=by
 have:∀d,leF M N (k+1+d)=false:=by
  intro d;induction d with
  |zero=>show(leF M N k&&decide (M k<=N k))=false;rw[decide_eq_false hn];simp
  |succ d ih=>show(leF M N (k+1+d)&&_)=false;rw[ih];rfl
 rw[show 64=k+1+(63-k) by omega];exact this _
theorem Ia:Calls Tryz.prog 77 #[.agg (oc e1 M),.agg (oc e2 N)] w λe w'=>e=.returned (.bool (DY e1 e2 M N))/\Below w.heap.size w w':=by
 obtain⟨w0,hw0⟩:∃w0,w0=(w.alloc (.cells (oc e1 M) tO)).alloc (.cells (oc e2 N) tO):=⟨_,rfl⟩
 have ha1:AL w0 w.heap.size e1 M:=by rw[hw0];exact At.allocH (At.new _ _ _) _
 have ha2:AL w0 (w.heap.size+1) e2 N:=by
  have:=At.new (w.alloc (.cells (oc e1 M) tO)) (oc e2 N) tO;rw[show(w.alloc (.cells (oc e1 M) tO)).heap.size=w.heap.size+1 by simp]at this;rw[hw0];exact this
 have hb0:Below w.heap.size w w0:=by rw[hw0];exact((Below.refl _ _).alloc (Nat.le_refl _) _).alloc (by simp) _
 have hs0:w0.heap.size=w.heap.size+2:=by rw[hw0];simp
 have z1:w0.cell? ⟨w.heap.size,0,none⟩=some (.bool e1):=by rw[At.cell ha1];exact Ib _ _
 have z2:w0.cell? ⟨w.heap.size+1,0,none⟩=some (.bool e2):=by rw[At.cell ha2];exact Ib _ _
 have HW0:Hid (w0=_):=hw0;have H1:Hid (AL w0 w.heap.size e1 M):=ha1;have H2:Hid (AL w0 (w.heap.size+1) e2 N):=ha2;have HB0:Hid (Below w.heap.size w w0):=hb0;clear ha1 ha2 hb0;cases e1 with
 |true=>
  have HE:Hid (DY true e2 M N=true):=rfl;rw[hw0]at z1 z2;clear hw0;go_enter Tryz.func77,Tryz.ntmps77;go_wp2_with fail;go_ret;exact⟨by rw[HE.out];rfl,by have:=HB0.out;rw[HW0.out]at this;exact this⟩
 |false=>
 cases e2 with
 |true=>
  have HE:Hid (DY false true M N=false):=rfl;rw[hw0]at z1 z2;clear hw0;go_enter Tryz.func77,Tryz.ntmps77;go_wp2_with fail;go_ret;exact⟨by rw[HE.out];rfl,by have:=HB0.out;rw[HW0.out]at this;exact this⟩
 |false=>
  have HE:Hid (DY false false M N=leF M N 64):=rfl;rw[hw0]at z1 z2;clear hw0;go_enter Tryz.func77,Tryz.ntmps77;go_wp2_with fail;go_loopw [5] (λi wr=>∃(p d:Nat),p<=8/\i=.int .i64 p/\Hid (leF M N (p*8)=true/\wr=w0.drewN d)) (λi _=>8-(intOf i).toNat);case atStart=>exact⟨0,0,by omega,rfl,rfl,HW0.out.symm⟩
  case round=>
   obtain⟨p,d,hp,rfl,HR⟩:=hrel;by_cases hlt:p<8
   ·have hpi:(p:Int)<8:=by omega
    obtain⟨w4,rfl⟩:∃w4,w4=wr:=⟨_,rfl⟩
    go_wp2_with fail;go_loopw [6] (λj wr=>∃(q d:Nat),q<=8/\j=.int .i64 q/\Hid (leF M N (p*8+q)=true/\wr=w0.drewN d)) (λj _=>8-(intOf j).toNat);case atStart=>exact⟨0,d,by omega,rfl,HR.out⟩
    case round=>
     obtain⟨q,d,hq,rfl,HQ⟩:=hrel;by_cases hlt2:q<8
     ·have hqi:(q:Int)<8:=by omega
      have c1:wr.cell? ⟨w.heap.size,1+p*8+q,none⟩=some (.int .i64 (M (p*8+q))):=by rw[Nat.add_assoc,HQ.out.2];exact AL.cell (w:=w0.drewN d) (At.drewN H1.out d) (p*8+q) (by omega)
      have c2:wr.cell? ⟨w.heap.size+1,1+p*8+q,none⟩=some (.int .i64 (N (p*8+q))):=by rw[Nat.add_assoc,HQ.out.2];exact AL.cell (w:=w0.drewN d) (At.drewN H2.out d) (p*8+q) (by omega)
      have HEq:Hid (leF M N (p*8+(q+1))=(leF M N (p*8+q)&&decide (M (p*8+q)<=N (p*8+q)))):=rfl;have HNo:Hid (¬M (p*8+q)<=N (p*8+q)->leF M N 64=false):=λh=>Re (by omega) h;generalize M (p*8+q)=m at *;generalize N (p*8+q)=n at *;by_cases hn:n<m
      ·have HF:Hid (leF M N 64=false):=HNo.out (by omega);go_wp2_with fail;go_quiet (fail);go_wp2_with fail;go_ret;refine⟨by rw[HE.out,HF.out];rfl,?_⟩;rw[HQ.out.2];exact below_drewN (below_drewN HB0.out _) _
      ·have hle:m<=n:=by omega
       go_wp2_with fail;go_quiet (fail);go_wp2_with fail;go_roundw;case rel=>exact⟨q+1,d+nq,by omega,by go_num,by rw[HEq.out,HQ.out.1];simpa using hle,by rw[HQ.out.2];exact World.drewN_drewN _ _ _⟩
       case measure=>simp[intOf];omega
     ·have hq8:q=8:=by omega
      subst hq8;go_wp2_with fail;go_roundw;case rel=>exact⟨p+1,d,by omega,by go_num,by rw[show(p+1)*8=p*8+8 by omega];exact HQ.out.1,HQ.out.2⟩
      case measure=>simp[intOf];omega
   ·have hp8:p=8:=by omega
    subst hp8;go_wp2_with fail;go_ret;refine⟨by rw[HE.out,HR.out.1];rfl,?_⟩;rw[HR.out.2];exact below_drewN HB0.out _
def jF(M N:Nat->Int):Nat->Nat->Int
 |0=>M
 |k+1=>if jF M N k k<N k then Bw (jF M N k) k (N k)else jF M N k
def Hn(e1 e2:Bool):Bool:=if e1=true then e2 else e1
def GF(e1 e2:Bool)(M N:Nat->Int):Nat->Int:=if e1=true then N else if e2=true then M else jF M N 64
theorem Tp:Calls Tryz.prog 78 #[.agg (oc e1 M),.agg (oc e2 N)] w λe w'=>e=.returned (.agg (oc (Hn e1 e2) (GF e1 e2 M N)))/\Below w.heap.size w w':=by
 have hz:=Bn;obtain⟨w0,hw0⟩:∃w0,w0=((w.alloc (.cells (oc e1 M) tO)).alloc (.cells (oc e2 N) tO)).alloc (.cells (oc false λ_=>0) tO):=⟨_,rfl⟩
 have ha1:AL w0 w.heap.size e1 M:=by rw[hw0];exact At.allocH (At.allocH (At.new _ _ _) _) _
 have ha2:AL w0 (w.heap.size+1) e2 N:=by
  have:=At.new (w.alloc (.cells (oc e1 M) tO)) (oc e2 N) tO;rw[show(w.alloc (.cells (oc e1 M) tO)).heap.size=w.heap.size+1 by simp]at this;rw[hw0];exact At.allocH this _
 have ha3:AL w0 (w.heap.size+2) false (λ_=>0):=by
  have:=At.new ((w.alloc (.cells (oc e1 M) tO)).alloc (.cells (oc e2 N) tO)) (oc false λ_=>0) tO;rw[show((w.alloc (.cells (oc e1 M) tO)).alloc (.cells (oc e2 N) tO)).heap.size=w.heap.size+2 by simp]at this;rw[hw0];exact this
 have hb0:Below w.heap.size w w0:=by rw[hw0];exact(((Below.refl _ _).alloc (Nat.le_refl _) _).alloc (by simp) _).alloc (by simp;omega) _
 have hs0:w0.heap.size=w.heap.size+3:=by rw[hw0];simp
 have z1:w0.cell? ⟨w.heap.size,0,none⟩=some (.bool e1):=by rw[At.cell ha1];exact Ib _ _
 have z2:w0.cell? ⟨w.heap.size+1,0,none⟩=some (.bool e2):=by rw[At.cell ha2];exact Ib _ _
 have HW0:Hid (w0=_):=hw0;have H1:Hid (AL w0 w.heap.size e1 M):=ha1;have H2:Hid (AL w0 (w.heap.size+1) e2 N):=ha2;have H3:Hid (AL w0 (w.heap.size+2) false λ_=>0):=ha3;have HB0:Hid (Below w.heap.size w w0):=hb0;clear ha1 ha2 ha3 hb0;cases e1 with
 |true=>
  obtain⟨w5,hst5,hat5,ho5⟩:=Al (H3.out) (e2) (N);have H5:Hid (AL w5 (w.heap.size+2) (e2) (N)/\Below w.heap.size w w5):=⟨hat5,(HB0.out).trans (ho5.below (by omega) (by omega))⟩
  clear hat5 ho5;have hl2:=H2.out;rw[hw0]at z1 z2 hst5 hl2;have HL2:Hid (AL _ _ _ _):=hl2;clear hw0 hl2;go_enter Tryz.func78,Tryz.ntmps78;go_wp2_with (refine AH rfl (.tmp 3) rfl rfl HL2.out ?_);try simp only[Exit.inBlock,Exit.then]
  refine bodyPost_ret (Ag rfl _ rfl H5.out.1) rfl ?_;exact⟨rfl,H5.out.2⟩
 |false=>
 cases e2 with
 |true=>
  obtain⟨w5,hst5,hat5,ho5⟩:=Al (H3.out) (false) (M);have H5:Hid (AL w5 (w.heap.size+2) (false) (M)/\Below w.heap.size w w5):=⟨hat5,(HB0.out).trans (ho5.below (by omega) (by omega))⟩
  clear hat5 ho5;have hl1:=H1.out;rw[hw0]at z1 z2 hst5 hl1;have HL1:Hid (AL _ _ _ _):=hl1;clear hw0 hl1;go_enter Tryz.func78,Tryz.ntmps78;go_wp2_with (refine AH rfl (.tmp 2) rfl rfl HL1.out ?_);try simp only[Exit.inBlock,Exit.then]
  refine bodyPost_ret (Ag rfl _ rfl H5.out.1) rfl ?_;exact⟨rfl,H5.out.2⟩
 |false=>
  rw[hw0]at z1 z2;clear hw0;go_enter Tryz.func78,Tryz.ntmps78;go_wp2_with fail;go_loopw [5] (λi wr=>∃(p:Nat),p<=8/\i=.int .i64 p/\Hid (AL wr w.heap.size false (jF M N (p*8))/\BC w.heap.size w0 wr)) (λi _=>8-(intOf i).toNat);case atStart=>exact⟨0,by omega,rfl,by have:=H1.out;rw[HW0.out]at this;exact this,by rw[<-HW0.out];exact BC.refl _ _⟩
  case round=>
   obtain⟨p,hp,rfl,HR⟩:=hrel;by_cases hlt:p<8
   ·have hpi:(p:Int)<8:=by omega
    obtain⟨w4,rfl⟩:∃w4,w4=wr:=⟨_,rfl⟩
    go_wp2_with fail;go_loopw [6] (λj wr=>∃(q:Nat),q<=8/\j=.int .i64 q/\Hid (AL wr w.heap.size false (jF M N (p*8+q))/\BC w.heap.size w0 wr)) (λj _=>8-(intOf j).toNat);case atStart=>exact⟨0,by omega,rfl,HR.out⟩
    case round=>
     obtain⟨q,hq,rfl,HQ⟩:=hrel;by_cases hlt2:q<8
     ·have hqi:(q:Int)<8:=by omega
      have hk:p*8+q<64:=by omega
      have HE0:Hid (jF M N (p*8+(q+1))=if jF M N (p*8+q) (p*8+q)<N (p*8+q)then Bw (jF M N (p*8+q)) (p*8+q) (N (p*8+q))else jF M N (p*8+q)):=rfl;generalize jF M N (p*8+q)=J at *;have c1:wr.cell? ⟨w.heap.size,1+p*8+q,none⟩=some (.int .i64 (J (p*8+q))):=by rw[Nat.add_assoc];exact HQ.out.1.cell (p*8+q) hk
      have h2':AL wr (w.heap.size+1) false N:=HQ.out.2.at_ H2.out (by omega);have c2:wr.cell? ⟨w.heap.size+1,1+p*8+q,none⟩=some (.int .i64 (N (p*8+q))):=by rw[Nat.add_assoc];exact h2'.cell (p*8+q) hk
      have cf:wr.frozen? ⟨w.heap.size,1+p*8+q,none⟩=false:=At.free HQ.out.1 _;have hl1:w.heap.size<wr.heap.size:=At.lt HQ.out.1;clear h2';generalize hJ:J (p*8+q)=m at *;generalize hNn:N (p*8+q)=n at *;have HNn:Hid (N (p*8+q)=n):=hNn;clear hJ hNn;by_cases hn:m<n
      ·have HE:Hid (_=_):=HE0.out.trans (if_pos hn);clear HE0;go_wp2_with fail;go_quiet (fail);obtain⟨w5,hW5⟩:∃w5,w5=wr.drewN nq:=⟨_,rfl⟩
       rw[<-hW5];have k1:∀a,w5.cell? a=wr.cell? a:=λa=>by rw[hW5];rfl
       rw[<-k1]at c1 c2;have cf5:w5.frozen? ⟨w.heap.size,1+p*8+q,none⟩=false:=by rw[hW5];exact cf
       have HQ5:Hid (AL w5 w.heap.size false J/\BC w.heap.size w0 w5):=by rw[hW5];exact⟨At.drewN HQ.out.1 nq,HQ.out.2.drewN nq⟩
       have hl5:w.heap.size<w5.heap.size:=by rw[hW5];exact hl1
       clear k1 hW5 cf hl1;go_wp2_with fail;go_region;all_goals
        go_wp2_with fail;go_roundw;case rel=>
         refine⟨q+1,by omega,by go_num,?_,(HQ5.out.2.setCell _ _).drewN 1⟩;rw[HE.out,Nat.add_assoc];exact At.drewN (AL.put HQ5.out.1 (p*8+q) hk _) 1
        case measure=>simp[intOf];omega
      ·have HE:Hid (_=_):=HE0.out.trans (if_neg hn);clear HE0;go_wp2_with fail;go_quiet (fail);go_wp2_with fail;go_roundw;case rel=>exact⟨q+1,by omega,by go_num,by rw[HE.out];exact At.drewN HQ.out.1 nq,HQ.out.2.drewN nq⟩
       case measure=>simp[intOf];omega
     ·have hq8:q=8:=by omega
      subst hq8;go_wp2_with fail;go_roundw;case rel=>exact⟨p+1,by omega,by go_num,by rw[show(p+1)*8=p*8+8 by omega];exact HQ.out.1,HQ.out.2⟩
      case measure=>simp[intOf];omega
   ·have hp8:p=8:=by omega
    subst hp8;have h3:AL wr (w.heap.size+2) false (λ_=>0):=HR.out.2.at_ H3.out (by omega);have hsz:=HR.out.2.size;have hbw:Below w.heap.size w wr:=HB0.out.trans (HR.out.2.below (Nat.le_refl _) (by omega));obtain⟨w5,hst5,hat5,ho5⟩:=Al (h3) (false) (jF M N 64);have H5:Hid (AL w5 (w.heap.size+2) (false) (jF M N 64)/\Below w.heap.size w w5):=⟨hat5,(hbw).trans (ho5.below (by omega) (by omega))⟩
    clear hat5 ho5;have HLr:Hid (AL wr w.heap.size false (jF M N 64)):=HR.out.1;clear h3 hbw;go_wp2_with (refine AH rfl (.tmp 2) rfl rfl HLr.out ?_);try simp only[Exit.inBlock,Exit.then]
    refine bodyPost_ret (Ag rfl _ rfl H5.out.1) rfl ?_;exact⟨rfl,H5.out.2⟩
end Go.Proofs.YtffajooegiempaaGreatDoor
namespace Go.Proofs.YtffajooegiempaaGreatDoor
open Go.RowKit
variable {w:World}{b:Nat}{e0 e1 e2:Bool}{M N:Nat->Int}
theorem Bb(w1:World)(e:Bool)(M:Nat->Int):∃w2,(storeCells ⟨w1.heap.size,0,none⟩ (oc e M).toList).run Tryz.prog (w1.alloc (.cells (oc false λ_=>0) tO))=.ok () w2/\AL w2 w1.heap.size e M/\Below w1.heap.size w1 w2/\w1.heap.size<w2.heap.size:=by
 have h0:AL (w1.alloc (.cells (oc false λ_=>0) tO)) w1.heap.size false (λ_=>0):=At.new _ _ _;obtain⟨w2,h1,h2,h3⟩:=Al h0 e M;exact⟨w2,h1,h2,((Below.refl _ _).alloc (Nat.le_refl _) _).trans (h3.below (Nat.le_refl _) (by simp)),At.lt h2⟩
theorem BF.from_{w w1:World}{x:Ending}{w':World}(h:BF w1 e0 M x w')(hb:Below w.heap.size w w1):BF w e0 M x w':=by
 have hs:=hb.size;obtain⟨h1,h2⟩:=h;refine⟨hb.trans (h1.mono hs),?_⟩;rcases h2 with h2|⟨he,g,hx,hg,hat⟩
 ·exact .inl h2
 ·exact .inr ⟨he,g,hx,by omega,hat⟩
theorem BF.val{x:Ending}{w':World}(h:BF w e0 M x w'):∃y,x=.returned y/\∃a n c,y=.slice a n c:=by
 obtain⟨_,⟨_,h⟩|⟨_,g,h,_⟩⟩:=h
 ·exact⟨_,h,_,_,_,rfl⟩
 ·exact⟨_,h,_,_,_,rfl⟩
end Go.Proofs.YtffajooegiempaaGreatDoor
namespace Go.Proofs.YtffajooegiempaaGreatDoor
open Go.RowKit
variable {w:World}
theorem TK(l:List Value):∀(n:Nat)(C:Array Value),n+l.length<=C.size->(l.zipIdx n).foldl (λcs (x:Value×Nat)=>cs.setIfInBounds (0*65+x.2) x.1) C=(C.toList.take n++l++C.toList.drop (n+l.length)).toArray:=by
 induction l with
 |nil=>intro n C _;simp
 |cons a l ih=>
  intro n C h;rw[List.length_cons]at h;rw[List.zipIdx_cons,List.foldl_cons,ih (n+1) _ (by simp;omega)]
  congr 1
  have hn:n<C.toList.length:=by simp;omega
  simp only[Nat.zero_mul,Nat.zero_add,Array.toList_setIfInBounds];rw[List.take_add_one,List.getElem?_set_self (by simpa using hn),List.take_set_of_le (Nat.le_refl _),List.drop_set_of_lt (by omega)];simp only[Option.toList,List.append_assoc,List.cons_append,List.length_cons];rw[show n+1+l.length=n+(l.length+1) by omega];simp
theorem TA(A C:Array Value)(hs:A.size=65)(hC:C.size=65):Instr.fill (λi=>some (i*65,65)) C [(0,.agg A)]=some A:=by
 have hf:A.zipIdx.foldl (λcs (x:Value×Nat)=>cs.setIfInBounds (0*65+x.2) x.1) C=A:=by
  rw[<-Array.foldl_toList,Array.toList_zipIdx];have:=TK A.toList 0 C (by simp[hs,hC]);rw[this];rw[List.drop_of_length_le (by simp[hs,hC])];simp
 have hb:(decide (A.size≠65)||decide (0*65+A.size>C.size))=false:=by simp[hs,hC]
 have h1:Instr.fill (λi=>some (i*65,65)) C [(0,.agg A)]=if(decide (A.size≠65)||decide (0*65+A.size>C.size))=true then none else some (A.zipIdx.foldl (λcs (x:Value×Nat)=>cs.setIfInBounds (0*65+x.2) x.1) C):=rfl
 rw[h1,hb,hf];rfl
theorem TB(e:Bool)(M:Nat->Int)(C:Array Value)(hC:C.size=65):Instr.fill (λi=>some (i*65,65)) C [(0,.agg (oc e M))]=some (oc e M):=TA _ C (Am e M) hC
theorem Kj{ops:Array Oper}{rest:List Oper}{o:Oper}{a:Act}{Q:Exit->Act->World->Prop}(hg:o.guard=none)(x:Operand)(ho:o.op=.buildSlice 132 1 #[(0,x)])(e:Bool)(M:Nat->Int)(hx:a.eval x=.agg (oc e M))
  (h:wpList Tryz.prog ops Q rest (a.put o.dst (.slice (some ⟨w.heap.size,0,none⟩) 1 1)) (w.alloc (.cells (oc e M) tO))):wpList Tryz.prog ops Q (o::rest) a w:=by
 obtain⟨i0,hi,hz0,hz1,hz2⟩:=info_parts (P:=Tryz.prog) (e:=tO) (z:=.agg (oc false λ_=>0)) (size:=65) (bytes:=520) (by kernel_rfl);refine wpList_buildSlice hg 132 tO 1 _ ho (oc e M) i0 _ Tryz.underlying132 hi hz0 (by rw[hz1];decide) (by rw[hz1];decide) ?_ h;rw[hz1];have:=TB e M ((Array.range (1*65)).map ((Value.agg (oc false λ_=>0)).cells[·%(Value.agg (oc false λ_=>0)).cells.size]!)) (by simp);simpa[hx]using this
end Go.Proofs.YtffajooegiempaaGreatDoor
namespace Go.Proofs.YtffajooegiempaaGreatDoor
open Go.RowKit
variable {w:World}{s:ByteArray}
def cE:Option (List Int)->Bool
 |none=>true
 |some l=>ovE l
def cM:Option (List Int)->Nat->Int
 |none=>λ_=>0
 |some l=>BT l
def Tr(r:Option (List Int)):List Value:=(oc (cE r) (cM r)).toList
theorem Jj(r:Option (List Int)):(Tr r).length=65:=by simp[Tr,Am]
def FA(L:List (Option (List Int))):List Value:=L.flatMap Tr
theorem O4(L:List (Option (List Int)))(r:Option (List Int)):FA (L++[r])=FA L++Tr r:=by simp[FA]
theorem RV(L:List (Option (List Int)))(i k:Nat)(hi:i<L.length)(hk:k<65):(FA L)[i*65+k]?=(Tr (L.getD i none))[k]?:=by
 induction L generalizing i with
 |nil=>cases hi
 |cons r L ih=>
  have e:FA (r::L)=Tr r++FA L:=rfl;rw[e];cases i with
  |zero=>rw[List.getElem?_append_left (by rw[Jj];omega)];simp[List.getD]
  |succ i=>
   rw[List.getElem?_append_right (by rw[Jj];omega),Jj];rw[show(i+1)*65+k-65=i*65+k by omega,ih i (by simpa using hi)];simp[List.getD]
theorem FO{l:List Int}(h:F_ (some l)):B_ l:=CG.1 (Ma.1 h)
def JQ(w:World)(g:Nat)(L:List (Option (List Int))):Prop:=g<w.heap.size/\∀i k,i<L.length->k<65->w.cell? ⟨g,i*65+k,none⟩=(oc (cE (L.getD i none)) (cM (L.getD i none)))[k]?
theorem JQ.keep{w w':World}{g:Nat}{L:List (Option (List Int))}(h:JQ w g L)(hb:Below w.heap.size w w'):JQ w' g L:=
 ⟨Nat.lt_of_lt_of_le h.1 hb.size,λi k hi hk=>(hb.cell h.1).trans (h.2 i k hi hk)⟩
theorem V_{base g cap:Nat}{L:List (Option (List Int))}(h:w.ownsRow base 90 65 (.slice (some ⟨g,0,none⟩) L.length cap) L.length (FA L)):JQ w g L:=by
 refine⟨(h.lt g rfl).2,λi k hi hk=>?_⟩;have e:=RV L i k hi hk;have e2:(Tr (L.getD i none))[k]?=(oc (cE (L.getD i none)) (cM (L.getD i none)))[k]?:=by simp[Tr]
 rw[e2]at e;have hs:k<(oc (cE (L.getD i none)) (cM (L.getD i none))).size:=by rw[Am];exact hk
 rw[Array.getElem?_eq_getElem hs]at e|-;have:=h.cells (g:=g) rfl (i*65+k) _ e;rw[Dn]at this;exact this
def Wi(w:World)(s:ByteArray):Ending->World->Prop:=λe w'=>Below w.heap.size w w'/\
 ((DS (AA s)=none/\e=.returned (.tuple #[.slice none 0 0,.int .i64 4]))\/
  ∃L g,DS (AA s)=some L/\e=.returned (.tuple #[.slice (some ⟨g,0,none⟩) L.length 21,.int .i64 0])/\w.heap.size<=g/\JQ w' g L)
theorem Rg{base g:Nat}{X:List Value}{L:List (Option (List Int))}(hr:w.ownsRow base 32 1 (.slice (some ⟨g,0,none⟩) L.length 21) L.length X)(h:NA w base g X L):∀i,i<L.length->w.cell? ⟨g,i,none⟩=some (X.getD i (.bool false))/\PV w base (X.getD i (.bool false)) (L.getD i none):=by
 intro i hi;have hXi:X[i]?=some (X.getD i (.bool false)):=by simp[List.getD,show i<X.length by rw[h.len];exact hi]
 have hc:=hr.cells (g:=g) rfl i _ hXi;rw[Dn]at hc;exact⟨hc,h.each i hi⟩
theorem KM:∃i0,Tryz.prog.info? tO=some i0/\i0.size=65:=by
 obtain⟨i0,hi,hz0,hz1,hz2⟩:=info_parts (P:=Tryz.prog) (e:=tO) (z:=.agg (oc false λ_=>0)) (size:=65) (bytes:=520) (by kernel_rfl);exact⟨i0,hi,hz1⟩
theorem Ri:∃zs:Array Value,zs.size=21*65/\∀w,(Instr.makeSlice 132 (.int .i64 0) (.int .i64 21)).run Tryz.prog w=.ok (.slice (some ⟨w.heap.size,0,none⟩) 0 21) (w.alloc (.cells zs tO)):=by
 obtain⟨i0,hi,hz0,hz1,hz2⟩:=info_parts (P:=Tryz.prog) (e:=tO) (z:=.agg (oc false λ_=>0)) (size:=65) (bytes:=520) (by kernel_rfl);refine⟨madeCells (Value.agg (oc false λ_=>0)).cells (21*65),by rw[size_madeCells],λw=>?_⟩;have:=run_make (P:=Tryz.prog) w 132 tO i0 _ Tryz.underlying132 hi hz0 .i64 .i64 0 21 (by omega) (by omega) (by rw[hz2];omega) (by omega);rw[this,hz1];rfl
theorem MH(hG:Cr w)(hs:s.size<=9223372036854775807):Calls Tryz.prog 89 #[.string s] w (Wi w s):=by
 have hd:=NX (w:=w) hs;have hq1:∀(w:World)(a:Option Addr)(n c:Nat),(binOp .neq 32 (.slice a n c) (.slice none 0 0)).run Tryz.prog w=.ok (.bool (!a.isNone)) w:=λw a n c=>by
  simp only[binOp];simp[Op.equal,Op.maxDepth,Lib.run_equalIn_slice_nil w 9999 32 3 a n c 0 0 Tryz.underlying32]
 obtain⟨M0,hM0⟩:∃M0:Nat->Int,M0=λ_=>0:=⟨_,rfl⟩
 have hz:∀w,(zeroValue tO).run Tryz.prog w=.ok (.agg (oc false M0)) w:=by rw[hM0];exact Bn
 have ho1:(oc false M0).toList.set 0 (.bool true)=(oc true M0).toList:=by simp[oc]
 have ho2:(oc false M0).setIfInBounds 0 (.bool true)=oc true M0:=by apply Array.toList_inj.1;simp[oc]
 have ho3:(oc false M0).size=65:=Am _ _;have ho4:¬oc false M0=#[]:=λh=>by have:=congrArg Array.size h;rw[Am]at this;simp at this
 have HFr:Hid (∀w1:World,∃w2,(storeCells ⟨w1.heap.size,0,none⟩ (oc true M0).toList).run Tryz.prog (w1.alloc (.cells (oc false M0) tO))=.ok () w2/\AL w2 w1.heap.size true M0/\Below w1.heap.size w1 w2/\w1.heap.size<w2.heap.size):=by rw[hM0];exact λw1=>Bb w1 true _
 have HNn:Hid ((oc true M0).toList=Tr none):=by rw[hM0];rfl
 clear hM0;go_enter Tryz.func89,Tryz.ntmps89;go_wp2_with fail;refine hd.mono ?_;rintro e w1 ⟨hb1,⟨hn,rfl⟩|⟨L,g,X,hL,rfl,hg,hrow,hls⟩⟩
 ·have HB:Hid (Below w.heap.size w w1):=hb1;have HN:Hid (DS (AA s)=none):=hn;clear hb1 hn hd;go_wp2_with fail
  go_ret2
  exact⟨HB.out,.inl ⟨HN.out,rfl⟩⟩
 ·have hdk:=GM (Om s) hL;have HB:Hid (Below w.heap.size w w1):=hb1;have HD:Hid (DS (AA s)=some L/\∀r,r∈L->F_ r):=⟨hL,hdk.2.2.2⟩
  have h21:=hdk.2.2.1;have HC:Hid (∀i,i<L.length->w1.cell? ⟨g,i,none⟩=some (X.getD i (.bool false))/\PV w1 w.heap.size (X.getD i (.bool false)) (L.getD i none)):=Rg hrow hls;have hgl:g<w1.heap.size:=(hrow.lt g rfl).2;obtain⟨i0,hi,hz1⟩:=KM;obtain⟨zs,hzs,hmk⟩:=Ri;have HR0:Hid ((w1.alloc (.cells zs tO)).ownsRow w1.heap.size tO 65 (.slice (some ⟨w1.heap.size,0,none⟩) 0 21) 0 []):=World.ownsRow_made w1 zs 21 (Nat.le_refl _) (by decide) hzs;have HG1:Hid (Cr w1):=hG.keep HB.out hG.size;clear hb1 hdk hd hrow hls hL hG hzs;go_wp2_with fail;go_loopw [5,6,21] (λev cv iv wr=>∃i,i<=L.length/\iv=.int .i64 (i:Nat)/\ev=.int .i64 0/\cv=.slice (some ⟨w1.heap.size,0,none⟩) i 21/\Hid (wr.ownsRow w1.heap.size tO 65 (.slice (some ⟨w1.heap.size,0,none⟩) i 21) i (FA (L.take i))/\Below w1.heap.size w1 wr)) (λ_ _ iv _=>L.length-(intOf iv).toNat);case atStart=>exact⟨0,by omega,rfl,rfl,rfl,HR0.out,(Below.refl _ _).alloc (Nat.le_refl _) _⟩
  case round=>
   obtain⟨i,hile,rfl,rfl,rfl,HR⟩:=hrel;have hsr:=HR.out.2.size;by_cases hlt:i<L.length
   ·have hii:(i:Int)<(L.length:Int):=by omega
    have hgr:g<wr.heap.size:=by omega
    have c0:wr.cell? ⟨g,i,none⟩=some (X.getD i (.bool false)):=(HR.out.2.cell hgl).trans (HC.out i hlt).1;have HPv:Hid (PV w1 w.heap.size (X.getD i (.bool false)) (L.getD i none)):=(HC.out i hlt).2;have HTk:Hid (FA (L.take (i+1))=FA (L.take i)++Tr (L.getD i none)):=by
     show _=_;rw[<-O4]
     congr 1
     rw[List.take_add_one];simp[List.getD,hlt]
    have HOk:Hid (F_ (L.getD i none)):=Da HD.out.2 i;generalize X.getD i (.bool false)=xv at *;generalize L.getD i none=ro at *;obtain⟨w3,hst3,hat3,hb3,hs3⟩:=HFr.out wr;have H3:Hid (AL w3 wr.heap.size true M0/\Below wr.heap.size wr w3):=⟨hat3,hb3⟩
    clear hat3 hb3;cases ro with
    |none=>
     have hxe:xv=.slice none 0 0:=HPv.out;subst hxe;have HO3:Hid (w3.ownsRow w1.heap.size tO 65 (.slice (some ⟨w1.heap.size,0,none⟩) i 21) i (FA (L.take i))/\Below w1.heap.size w1 w3):=⟨Bm HR.out.1 (λk hk=>(H3.out).2.block k (HR.out.1.lt k hk).2),HR.out.2.trans ((H3.out).2.mono hsr)⟩
     go_wp2_with (first|refine AH rfl (.tmp 9) rfl rfl (H3.out).1 ?_|refine Kj rfl (.tmp 37) rfl (true) (M0) rfl ?_|(at_builtin;refine wpList_append_fits _ rfl (.tmp 36) (.tmp 38) 132 rfl w1.heap.size tO i0 65 Tryz.underlying132 hi hz1 w1.heap.size i 21 _ rfl (HO3.out.1.alloc _) ⟨w3.heap.size,0,none⟩ 1 1 (oc (true) (M0)).toList rfl (by simp[Am]) (by intro t u ht;rw[Dn];exact(World.cell?_alloc_at _ _ _ _ rfl).trans (by rw[<-Array.getElem?_toList];exact ht)) (by intro u hu;exact Hr _ _ u hu) (by omega) ?_;intro w5 hown5 hgrow5));go_roundw;case rel=>exact⟨i+1,by omega,by go_num,rfl,rfl,by rw[HTk.out,<-HNn.out];exact hown5,(HO3.out.2.alloc HO3.out.2.size _).grown hgrow5 (by simp;have:=HO3.out.2.size;omega) (λk hk=>by cases hk;exact Nat.le_refl _)⟩
     case measure=>simp[intOf];omega
    |some l=>
     obtain⟨p,hp,rfl,hap,hlp⟩:=HPv.out;have hok:B_ l:=FO HOk.out;have hrd:=λw4 (hb:Below w1.heap.size w1 w4)=>Fb (w:=w4) (HG1.out.keep hb HG1.out.size) (.slice (some ⟨p,0,none⟩) 32 32) l hok (AQ.at_ (hap.keep hb hap.lt) hlp (Nat.le_refl _) (λj hj=>Aa _ _ (by omega)));have hrd3:=hrd w3 (HR.out.2.trans (H3.out.2.mono hsr));have HMs:Hid ((oc (ovE l) (BT l)).toList=Tr (some l)):=rfl;generalize ovE l=el at *;generalize BT l=ml at *;clear hok hap hrd;go_wp2_with fail;refine hrd3.mono ?_;rintro e w4 ⟨rfl,hb4⟩;have ha4:AL w4 wr.heap.size true M0:=At.keep H3.out.1 hb4 hs3;obtain⟨w6,hst6,hat6,ho6⟩:=Al ha4 el ml;have H6:Hid (AL w6 wr.heap.size el ml/\Below wr.heap.size wr w6):=⟨hat6,(H3.out.2.trans (hb4.mono (by omega))).trans (ho6.below (Nat.le_refl _) (by have:=hb4.size;omega))⟩
     clear hb4 ha4 hat6 ho6 hrd3;have HO3:Hid (w6.ownsRow w1.heap.size tO 65 (.slice (some ⟨w1.heap.size,0,none⟩) i 21) i (FA (L.take i))/\Below w1.heap.size w1 w6):=⟨Bm HR.out.1 (λk hk=>(H6.out).2.block k (HR.out.1.lt k hk).2),HR.out.2.trans ((H6.out).2.mono hsr)⟩
     go_wp2_with (first|refine AH rfl (.tmp 9) rfl rfl (H6.out).1 ?_|refine Kj rfl (.tmp 37) rfl (el) (ml) rfl ?_|(at_builtin;refine wpList_append_fits _ rfl (.tmp 36) (.tmp 38) 132 rfl w1.heap.size tO i0 65 Tryz.underlying132 hi hz1 w1.heap.size i 21 _ rfl (HO3.out.1.alloc _) ⟨w6.heap.size,0,none⟩ 1 1 (oc (el) (ml)).toList rfl (by simp[Am]) (by intro t u ht;rw[Dn];exact(World.cell?_alloc_at _ _ _ _ rfl).trans (by rw[<-Array.getElem?_toList];exact ht)) (by intro u hu;exact Hr _ _ u hu) (by omega) ?_;intro w5 hown5 hgrow5));go_roundw;case rel=>exact⟨i+1,by omega,by go_num,rfl,rfl,by rw[HTk.out,<-HMs.out];exact hown5,(HO3.out.2.alloc HO3.out.2.size _).grown hgrow5 (by simp;have:=HO3.out.2.size;omega) (λk hk=>by cases hk;exact Nat.le_refl _)⟩
     case measure=>simp[intOf];omega
   ·have hie:i=L.length:=by omega
    subst hie;have HOr:Hid (JQ wr w1.heap.size L):=by
     have:=HR.out.1;rw[List.take_of_length_le (Nat.le_refl _)]at this;exact V_ this
    have HB2:Hid (Below w.heap.size w wr/\w.heap.size<=w1.heap.size):=⟨HB.out.trans (HR.out.2.mono HB.out.size),HB.out.size⟩
    go_wp2_with fail
    go_ret2
    exact⟨HB2.out.1,.inr ⟨L,_,HD.out.1,rfl,HB2.out.2,HOr.out⟩⟩
def BG(L:List (Option (List Int)))(pt:Int):Option (List Int):=if pt<0 then none else L.getD pt.toNat none
theorem LP{g:Nat}{L:List (Option (List Int))}(h:JQ w g L)(pt:Int):
  Calls Tryz.prog 90 #[.slice (some ⟨g,0,none⟩) L.length 21,.int .i64 pt] w λe w'=>e=.returned (.agg (oc (cE (BG L pt)) (cM (BG L pt))))/\Below w.heap.size w w':=by
 obtain⟨M0,hM0⟩:∃M0:Nat->Int,M0=λ_=>0:=⟨_,rfl⟩
 have hz:∀w,(zeroValue tO).run Tryz.prog w=.ok (.agg (oc false M0)) w:=by rw[hM0];exact Bn
 have ho1:(oc false M0).toList.set 0 (.bool true)=(oc true M0).toList:=by simp[oc]
 have ho2:(oc false M0).setIfInBounds 0 (.bool true)=oc true M0:=by apply Array.toList_inj.1;simp[oc]
 have ho3:(oc false M0).size=65:=Am _ _;have ho4:¬oc false M0=#[]:=λh=>by have:=congrArg Array.size h;rw[Am]at this;simp at this
 have HFr:Hid (∀e M,∃w2,(storeCells ⟨w.heap.size,0,none⟩ (oc e M).toList).run Tryz.prog (w.alloc (.cells (oc false M0) tO))=.ok () w2/\AL w2 w.heap.size e M/\Below w.heap.size w w2/\w.heap.size<w2.heap.size):=by rw[hM0];exact λe M=>Bb w e M
 have HN:Hid (BG L pt=none->oc (cE (BG L pt)) (cM (BG L pt))=oc true M0):=λq=>by rw[q,hM0];rfl
 clear hM0;by_cases p0:pt<0
 ·have HE:Hid (oc (cE (BG L pt)) (cM (BG L pt))=oc true M0):=HN.out (by unfold BG;rw[if_pos p0]);obtain⟨w3,hst3,hat3,hb3,hs3⟩:=HFr.out true M0;have H3:Hid (AL w3 w.heap.size true M0/\Below w.heap.size w w3):=⟨hat3,hb3⟩
  clear hat3 hb3;go_enter Tryz.func90,Tryz.ntmps90;go_wp2_with fail;try simp only[Exit.inBlock,Exit.then]
  refine bodyPost_ret (Ag rfl _ rfl H3.out.1) rfl ?_;exact⟨by rw[HE.out],H3.out.2⟩
 ·obtain⟨k,rfl⟩:∃k:Nat,pt=(k:Int):=⟨pt.toNat,by omega⟩
  by_cases hk:k<L.length
  ·have hki:(k:Int)<(L.length:Int):=by omega
   have HE:Hid (BG L (k:Int)=L.getD k none):=by show BG _ _=_;unfold BG;rw[if_neg p0];rfl
   have HO:Hid (w.rangeAt g (k*65) (oc (cE (L.getD k none)) (cM (L.getD k none))).toList):=by
    intro j v hv;have hj:j<65:=by
     rcases Nat.lt_or_ge j 65 with q|q
     ·exact q
     ·rw[List.getElem?_eq_none (by simp[Am];omega)]at hv;cases hv
    rw[h.2 k j hk hj,<-Array.getElem?_toList];exact hv
   have hg:=h.1;have HE':Hid (oc (cE (BG L (k:Int))) (cM (BG L (k:Int)))=oc (cE (L.getD k none)) (cM (L.getD k none))):=by show _=_;rw[HE.out]
   clear HE;generalize L.getD k none=r at *;have hl:(Tryz.prog.info? tO).map (·.size)=some (oc (cE r) (cM r)).toList.length:=by
    obtain⟨i0,hi,hz1⟩:=KM;simp[hi,hz1,Am]
   generalize cE r=e0 at *;generalize cM r=m0 at *;obtain⟨w3,hst3,hat3,hb3,hs3⟩:=HFr.out e0 m0;have H3:Hid (AL w3 w.heap.size e0 m0/\Below w.heap.size w w3):=⟨hat3,hb3⟩
   have HO2:Hid ((w.alloc (.cells (oc false M0) tO)).rangeAt g (k*65) (oc e0 m0).toList):=λj v hv=>(World.cell?_alloc_old w _ ⟨g,k*65+j,none⟩ (Nat.ne_of_lt hg)).trans (HO.out j v hv);clear hat3 hb3 h HN;go_enter Tryz.func90,Tryz.ntmps90;go_wp2_with (refine wpList_load_mid rfl tO (.tmp 16) rfl g (k*65) rfl (oc e0 m0).toList _ HO2.out Tryz.underlying90 rfl hl ?_);try simp only[Exit.inBlock,Exit.then]
   refine bodyPost_ret (Ag rfl _ rfl H3.out.1) rfl ?_;exact⟨by rw[HE'.out],H3.out.2⟩
  ·have hki:¬(k:Int)<(L.length:Int):=by omega
   have HE:Hid (oc (cE (BG L (k:Int))) (cM (BG L (k:Int)))=oc true M0):=HN.out (by unfold BG;rw[if_neg p0];simp[List.getD,hk]);obtain⟨w3,hst3,hat3,hb3,hs3⟩:=HFr.out true M0;have H3:Hid (AL w3 w.heap.size true M0/\Below w.heap.size w w3):=⟨hat3,hb3⟩
   clear hat3 hb3;go_enter Tryz.func90,Tryz.ntmps90;go_wp2_with fail;try simp only[Exit.inBlock,Exit.then]
   refine bodyPost_ret (Ag rfl _ rfl H3.out.1) rfl ?_;exact⟨by rw[HE.out],H3.out.2⟩
end Go.Proofs.YtffajooegiempaaGreatDoor
