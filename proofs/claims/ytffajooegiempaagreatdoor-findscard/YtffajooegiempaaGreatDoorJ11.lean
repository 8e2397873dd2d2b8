import Derived.Test.YtffajooegiempaaGreatDoorJ10
import Derived.Deep.RegionWith
set_option maxRecDepth 100000
set_option maxHeartbeats 6400000
namespace Go.Proofs.YtffajooegiempaaGreatDoor
open Go.RowKit
variable {w:World}{e0:Bool}{M:Nat->Int}{b:Nat}
theorem Gg{ops:Array Oper}{rest:List Oper}{o:Oper}{a:Act}{Q:Exit->Act->World->Prop}(hw:Region.wanted o (yielded ops a.tmps)=true)(p:Operand)(hop:o.op=Op.load tO p)(hp:a.eval p=.pointer (some ⟨b,0,none⟩))(hat:AL w b e0 M)
  (hK:wpList Tryz.prog ops Q rest (a.put o.dst (.agg (oc e0 M))) w):wpList Tryz.prog ops Q (o::rest) a w:=by
 refine wpList_step λK hK'=>?_;rw[if_pos hw];unfold Oper.wp;simp[execOp,hop,hp,IY hat,Result.andThen];exact hK' _ _ hK
theorem Dy{ops:Array Oper}{o:Oper}{a:Act}{K:Act->World->Prop}{Q:Exit->Act->World->Prop}{E:Prop}(hw:Region.wanted o (yielded ops a.tmps)=true)(p:Operand)(hop:o.op=Op.load tO p)(hp:a.eval p=.pointer (some ⟨b,0,none⟩))(hat:AL w b e0 M)
  (hK:K (a.put o.dst (.agg (oc e0 M))) w):if Region.wanted o (yielded ops a.tmps)=true then Oper.wp Tryz.prog o a w K Q else E:=by
 rw[if_pos hw];unfold Oper.wp;simp[execOp,hop,hp,IY hat,Result.andThen];exact hK
theorem Th(hS:Sm M){i j:Nat}(hi:i<8)(hj:j<8): -200000000000000000<=mo M i j/\mo M i j<=1000000000000:=by
 have:=hS (i*8+j) (by omega);have t:=AW (M (i*8+j));unfold mo;split<;>omega
def FC(M:Nat->Int)(l:List Int):Int:=mo M (CF l) (C4 l)
theorem JZ(hS:Sm M)(l:List Int): -200000000000000000<=FC M l/\FC M l<=1000000000000:=Th hS (Cx l 4 (Nat.le_refl _)).1 (Cx l 4 (Nat.le_refl _)).2
def ftB(M:Nat->Int)(l:List Int)(n:Int):Bool:=decide (FC M l≠NB/\FC M (Dv l)≠NB/\FC M l+n<=999/\FC M (Dv l)-n<=999)
theorem BM{a b:Bool}(h:a=b):Ending.returned (.bool b)=.returned (.bool a):=by rw[h]
structure OY(x:Ds):Prop where
 sg:∀i, -1<=AK x.sg i/\AK x.sg i<=1
 num: -99<=x.num/\x.num<=99
theorem DJ{l:List Int}(h:∀i, -1<=AK l i/\AK l i<=1):∀i, -1<=AK (Dv l) i/\AK (Dv l) i<=1:=by
 intro i;rcases(show i=0\/i=1\/i=2\/i=3\/4<=i by omega)with rfl|rfl|rfl|rfl|h4
 ·have:=h 0;show -1<= -AK l 0/\ -AK l 0<=1;omega
 ·have:=h 1;show -1<= -AK l 1/\ -AK l 1<=1;omega
 ·have:=h 2;show -1<= -AK l 2/\ -AK l 2<=1;omega
 ·have:=h 3;show -1<= -AK l 3/\ -AK l 3<=1;omega
 ·have:AK (Dv l) i=0:=by unfold AK Dv;rw[List.getD_eq_getElem?_getD,List.getElem?_eq_none (by simp;omega)];rfl
  omega
theorem Xf(x:Ds)(hx:OY x)(hS:Sm M):
  Calls Tryz.prog 115 #[B0 x,.agg (oc e0 M)] w λe w'=>e=.returned (.bool (ftB M x.sg x.num))/\Below w.heap.size w w':=by
 have HGr:Hid (∀w1,Calls Tryz.prog 116 #[.agg (oc e0 M),v4 x.sg] w1 λe w'=>e=.returned (.int .i64 (FC M x.sg))/\Below w1.heap.size w1 w'):=λw1=>Fw x.sg hx.sg hS;have HGr2:Hid (∀w1,Calls Tryz.prog 116 #[.agg (oc e0 M),v4 (Dv x.sg)] w1 λe w'=>e=.returned (.int .i64 (FC M (Dv x.sg)))/\Below w1.heap.size w1 w'):=λw1=>Fw (Dv x.sg) (DJ hx.sg) hS;have HTu:Hid (∀w1,Calls Tryz.prog 114 #[v4 x.sg] w1 λe w'=>e=.returned (v4 (Dv x.sg))/\Below w1.heap.size w1 w'):=λw1=>Ng x.sg hx.sg;have HF:Hid (ftB M x.sg x.num=decide (FC M x.sg≠NB/\FC M (Dv x.sg)≠NB/\FC M x.sg+x.num<=999/\FC M (Dv x.sg)-x.num<=999)):=rfl;obtain⟨r1,r2⟩:=JZ hS x.sg;obtain⟨r3,r4⟩:=JZ hS (Dv x.sg);obtain⟨n1,n2⟩:=hx.num;obtain⟨w0,hw0⟩:∃w0,w0=(w.alloc (.cells (AD x) BB)).alloc (.cells (oc e0 M) tO):=⟨_,rfl⟩
 have H0:Hid (At w0 w.heap.size (AD x) BB/\AL w0 (w.heap.size+1) e0 M/\Below w.heap.size w w0/\w0.heap.size=w.heap.size+2):=by
  refine⟨by rw[hw0];exact At.allocH (At.new _ _ _) _,?_,by rw[hw0];exact((Below.refl _ _).alloc (Nat.le_refl _) _).alloc (by simp) _,by rw[hw0];simp⟩;have:=At.new (w.alloc (.cells (AD x) BB)) (oc e0 M) tO;rw[show(w.alloc (.cells (AD x) BB)).heap.size=w.heap.size+1 by simp]at this;rw[hw0];exact this
 generalize hn:x.num=n at *;generalize FC M x.sg=hi at *;generalize FC M (Dv x.sg)=lo at *;obtain⟨BW,hBW⟩:∃BW:World->Prop,BW=λw'=>Below w0.heap.size w0 w':=⟨_,rfl⟩
 have hg1:Calls Tryz.prog 116 #[.agg (oc e0 M),v4 x.sg] w0 λe w'=>e=.returned (.int .i64 hi)/\BW w':=by rw[hBW];exact HGr.out w0
 have HA:=H0.out.2.1;rw[hw0]at hg1 HA;clear hS hx HGr;unfold AD at hg1 HA;unfold v4 at hg1;unfold B0;rw[hn]at hg1 HA|-;go_enter Tryz.func115,Tryz.ntmps115;go_wp2_with (refine AH rfl (.tmp 3) rfl rfl HA ?_);refine hg1.mono ?_;rintro e w1 ⟨rfl,hb1⟩;rw[hBW]at hb1;have H1:Hid (At w1 w.heap.size (AD x) BB/\AL w1 (w.heap.size+1) e0 M/\Below w.heap.size w w1):=by
  have s0:=H0.out.2.2.2;exact⟨At.keep H0.out.1 hb1 (by omega),At.keep H0.out.2.1 hb1 (by omega),H0.out.2.2.1.trans (hb1.mono H0.out.2.2.1.size)⟩
 clear hb1 hg1 HA hBW hw0 H0;have HEo:Hid (∀b:Bool,decide (hi≠NB/\lo≠NB/\hi+n<=999/\lo-n<=999)=b->ftB M x.sg n=b):=λb h=>HF.out.trans h;by_cases q1:hi=NB
 ·have HE:Hid (ftB M x.sg n=false):=HEo.out false (decide_eq_false (λz=>z.1 q1));have b1:(hi==1000000)=true:=by rw[q1];rfl
  clear HF HEo q1;go_wp2_with fail;refine wp_region_any (by kernel_rfl) ?_;change wpAny _ _ _ _ _ _ _ (World.drew _);have H2:Hid (At w1.drew w.heap.size (AD x) BB/\AL w1.drew (w.heap.size+1) e0 M/\Below w.heap.size w w1.drew):=⟨H1.out.1,H1.out.2.1,H1.out.2.2.drew⟩
  generalize w1.drew=w2 at *;have d3:w2.cell? ⟨w.heap.size,3,none⟩=some (.int .i64 (AK x.sg 0)):=H2.out.1.cell 3;have d4:w2.cell? ⟨w.heap.size,4,none⟩=some (.int .i64 (AK x.sg 1)):=H2.out.1.cell 4;have d5:w2.cell? ⟨w.heap.size,5,none⟩=some (.int .i64 (AK x.sg 2)):=H2.out.1.cell 5;have d6:w2.cell? ⟨w.heap.size,6,none⟩=some (.int .i64 (AK x.sg 3)):=H2.out.1.cell 6;have hl2:w.heap.size<w2.heap.size:=H2.out.1.lt;refine wpAny_take (i:=1) (v:=.pointer (some ⟨w.heap.size,3,none⟩)) rfl (by kernel_rfl) (by kernel_rfl) (by kernel_rfl) (λ_ _ _ h=>h) (Or.inl ⟨by rfl,by intro w;go_simp⟩) ?_;refine wpAny_ready (rs:=[0,2]) (by kernel_rfl) (by simp) ?_;refine AllReady.cons rfl (λK hK=>?_) (AllReady.cons rfl (λK hK=>?_) AllReady.nil)
  ·refine AX rfl (.tmp 3) rfl rfl H2.out.2.1 ?_;refine hK _ _ ?_;clear hK K;refine wpAny_ready (rs:=[2]) (by kernel_rfl) (by simp) ?_;refine AllReady.cons rfl (λK hK=>?_) AllReady.nil;go_simp;refine hK _ _ ?_;clear hK K;refine wpAny_ready (rs:=[3]) (by kernel_rfl) (by simp) ?_;refine AllReady.cons rfl (λK hK=>?_) AllReady.nil;go_simp;go_wp2_with (go_at_call 114;refine(HTu.out _).mono ?_;rintro e w3 ⟨rfl,hb3⟩);have H3:Hid (At w3 w.heap.size (AD x) BB/\AL w3 (w.heap.size+1) e0 M/\Below w.heap.size w w3):=⟨At.keep H2.out.1 hb3 H2.out.1.lt,At.keep H2.out.2.1 hb3 (At.lt H2.out.2.1),H2.out.2.2.trans (hb3.mono H2.out.2.2.size)⟩
   clear hb3;refine wpAny_ready (rs:=[4]) (by kernel_rfl) (by simp) ?_;refine AllReady.cons rfl (λK hK=>?_) AllReady.nil;go_simp;go_wp2_with (go_at_call 116;refine(HGr2.out _).mono ?_;rintro e w4 ⟨rfl,hb4⟩);have H4:Hid (At w4 w.heap.size (AD x) BB/\Below w.heap.size w w4):=⟨At.keep H3.out.1 hb4 H3.out.1.lt,H3.out.2.2.trans (hb4.mono H3.out.2.2.size)⟩
   have f7:w4.cell? ⟨w.heap.size,7,none⟩=some (.int .i64 n):=by rw[H4.out.1.cell,<-hn];rfl
   have hl4:w.heap.size<w4.heap.size:=H4.out.1.lt;clear hb4;refine wpAny_take (i:=5) (v:=.int .i64 lo) rfl (by kernel_rfl) (by kernel_rfl) (by kernel_rfl) (λ_ _ _ h=>h) (Or.inl ⟨by rfl,by intro w;go_simp⟩) ?_;refine wpAny_done (by kernel_rfl) ?_ _;go_wp2_with fail;go_ret;exact⟨BM HE.out,H4.out.2⟩
  ·go_simp;refine hK _ _ ?_;clear hK K;refine wpAny_ready (rs:=[0,3]) (by kernel_rfl) (by simp) ?_;refine AllReady.cons rfl (λK hK=>?_) (AllReady.cons rfl (λK hK=>?_) AllReady.nil)
   ·refine AX rfl (.tmp 3) rfl rfl H2.out.2.1 ?_;refine hK _ _ ?_;clear hK K;refine wpAny_ready (rs:=[3]) (by kernel_rfl) (by simp) ?_;refine AllReady.cons rfl (λK hK=>?_) AllReady.nil;go_simp;go_wp2_with (go_at_call 114;refine(HTu.out _).mono ?_;rintro e w3 ⟨rfl,hb3⟩);have H3:Hid (At w3 w.heap.size (AD x) BB/\AL w3 (w.heap.size+1) e0 M/\Below w.heap.size w w3):=⟨At.keep H2.out.1 hb3 H2.out.1.lt,At.keep H2.out.2.1 hb3 (At.lt H2.out.2.1),H2.out.2.2.trans (hb3.mono H2.out.2.2.size)⟩
    clear hb3;refine wpAny_ready (rs:=[4]) (by kernel_rfl) (by simp) ?_;refine AllReady.cons rfl (λK hK=>?_) AllReady.nil;go_simp;go_wp2_with (go_at_call 116;refine(HGr2.out _).mono ?_;rintro e w4 ⟨rfl,hb4⟩);have H4:Hid (At w4 w.heap.size (AD x) BB/\Below w.heap.size w w4):=⟨At.keep H3.out.1 hb4 H3.out.1.lt,H3.out.2.2.trans (hb4.mono H3.out.2.2.size)⟩
    have f7:w4.cell? ⟨w.heap.size,7,none⟩=some (.int .i64 n):=by rw[H4.out.1.cell,<-hn];rfl
    have hl4:w.heap.size<w4.heap.size:=H4.out.1.lt;clear hb4;refine wpAny_take (i:=5) (v:=.int .i64 lo) rfl (by kernel_rfl) (by kernel_rfl) (by kernel_rfl) (λ_ _ _ h=>h) (Or.inl ⟨by rfl,by intro w;go_simp⟩) ?_;refine wpAny_done (by kernel_rfl) ?_ _;go_wp2_with fail;go_ret;exact⟨BM HE.out,H4.out.2⟩
   ·go_simp;go_wp2_with (go_at_call 114;refine(HTu.out _).mono ?_;rintro e w3 ⟨rfl,hb3⟩);have H3:Hid (At w3 w.heap.size (AD x) BB/\AL w3 (w.heap.size+1) e0 M/\Below w.heap.size w w3):=⟨At.keep H2.out.1 hb3 H2.out.1.lt,At.keep H2.out.2.1 hb3 (At.lt H2.out.2.1),H2.out.2.2.trans (hb3.mono H2.out.2.2.size)⟩
    clear hb3;refine wpAny_ready (rs:=[0]) (by kernel_rfl) (by simp) ?_;refine AllReady.cons rfl (λK hK=>?_) AllReady.nil;refine AX rfl (.tmp 3) rfl rfl H3.out.2.1 ?_;refine hK _ _ ?_;clear hK K;refine wpAny_ready (rs:=[4]) (by kernel_rfl) (by simp) ?_;refine AllReady.cons rfl (λK hK=>?_) AllReady.nil;go_simp;go_wp2_with (go_at_call 116;refine(HGr2.out _).mono ?_;rintro e w4 ⟨rfl,hb4⟩);have H4:Hid (At w4 w.heap.size (AD x) BB/\Below w.heap.size w w4):=⟨At.keep H3.out.1 hb4 H3.out.1.lt,H3.out.2.2.trans (hb4.mono H3.out.2.2.size)⟩
    have f7:w4.cell? ⟨w.heap.size,7,none⟩=some (.int .i64 n):=by rw[H4.out.1.cell,<-hn];rfl
    have hl4:w.heap.size<w4.heap.size:=H4.out.1.lt;clear hb4;refine wpAny_take (i:=5) (v:=.int .i64 lo) rfl (by kernel_rfl) (by kernel_rfl) (by kernel_rfl) (λ_ _ _ h=>h) (Or.inl ⟨by rfl,by intro w;go_simp⟩) ?_;refine wpAny_done (by kernel_rfl) ?_ _;go_wp2_with fail;go_ret;exact⟨BM HE.out,H4.out.2⟩
 have b1:(hi==1000000)=false:=by rw[beq_eq_false_iff_ne];exact q1
 by_cases q2:lo=NB
 ·have HE:Hid (ftB M x.sg n=false):=HEo.out false (decide_eq_false (λz=>z.2.1 q2));have b2:(lo==1000000)=true:=by rw[q2];rfl
  clear HF HEo q1 q2;go_wp2_with fail;refine wp_region_any (by kernel_rfl) ?_;change wpAny _ _ _ _ _ _ _ (World.drew _);have H2:Hid (At w1.drew w.heap.size (AD x) BB/\AL w1.drew (w.heap.size+1) e0 M/\Below w.heap.size w w1.drew):=⟨H1.out.1,H1.out.2.1,H1.out.2.2.drew⟩
  generalize w1.drew=w2 at *;have d3:w2.cell? ⟨w.heap.size,3,none⟩=some (.int .i64 (AK x.sg 0)):=H2.out.1.cell 3;have d4:w2.cell? ⟨w.heap.size,4,none⟩=some (.int .i64 (AK x.sg 1)):=H2.out.1.cell 4;have d5:w2.cell? ⟨w.heap.size,5,none⟩=some (.int .i64 (AK x.sg 2)):=H2.out.1.cell 5;have d6:w2.cell? ⟨w.heap.size,6,none⟩=some (.int .i64 (AK x.sg 3)):=H2.out.1.cell 6;have hl2:w.heap.size<w2.heap.size:=H2.out.1.lt;refine wpAny_take (i:=1) (v:=.pointer (some ⟨w.heap.size,3,none⟩)) rfl (by kernel_rfl) (by kernel_rfl) (by kernel_rfl) (λ_ _ _ h=>h) (Or.inl ⟨by rfl,by intro w;go_simp⟩) ?_;refine wpAny_ready (rs:=[0,2]) (by kernel_rfl) (by simp) ?_;refine AllReady.cons rfl (λK hK=>?_) (AllReady.cons rfl (λK hK=>?_) AllReady.nil)
  ·refine AX rfl (.tmp 3) rfl rfl H2.out.2.1 ?_;refine hK _ _ ?_;clear hK K;refine wpAny_ready (rs:=[2]) (by kernel_rfl) (by simp) ?_;refine AllReady.cons rfl (λK hK=>?_) AllReady.nil;go_simp;refine hK _ _ ?_;clear hK K;refine wpAny_ready (rs:=[3]) (by kernel_rfl) (by simp) ?_;refine AllReady.cons rfl (λK hK=>?_) AllReady.nil;go_simp;go_wp2_with (go_at_call 114;refine(HTu.out _).mono ?_;rintro e w3 ⟨rfl,hb3⟩);have H3:Hid (At w3 w.heap.size (AD x) BB/\AL w3 (w.heap.size+1) e0 M/\Below w.heap.size w w3):=⟨At.keep H2.out.1 hb3 H2.out.1.lt,At.keep H2.out.2.1 hb3 (At.lt H2.out.2.1),H2.out.2.2.trans (hb3.mono H2.out.2.2.size)⟩
   clear hb3;refine wpAny_ready (rs:=[4]) (by kernel_rfl) (by simp) ?_;refine AllReady.cons rfl (λK hK=>?_) AllReady.nil;go_simp;go_wp2_with (go_at_call 116;refine(HGr2.out _).mono ?_;rintro e w4 ⟨rfl,hb4⟩);have H4:Hid (At w4 w.heap.size (AD x) BB/\Below w.heap.size w w4):=⟨At.keep H3.out.1 hb4 H3.out.1.lt,H3.out.2.2.trans (hb4.mono H3.out.2.2.size)⟩
   have f7:w4.cell? ⟨w.heap.size,7,none⟩=some (.int .i64 n):=by rw[H4.out.1.cell,<-hn];rfl
   have hl4:w.heap.size<w4.heap.size:=H4.out.1.lt;clear hb4;refine wpAny_take (i:=5) (v:=.int .i64 lo) rfl (by kernel_rfl) (by kernel_rfl) (by kernel_rfl) (λ_ _ _ h=>h) (Or.inl ⟨by rfl,by intro w;go_simp⟩) ?_;refine wpAny_done (by kernel_rfl) ?_ _;go_wp2_with fail;go_ret;exact⟨BM HE.out,H4.out.2⟩
  ·go_simp;refine hK _ _ ?_;clear hK K;refine wpAny_ready (rs:=[0,3]) (by kernel_rfl) (by simp) ?_;refine AllReady.cons rfl (λK hK=>?_) (AllReady.cons rfl (λK hK=>?_) AllReady.nil)
   ·refine AX rfl (.tmp 3) rfl rfl H2.out.2.1 ?_;refine hK _ _ ?_;clear hK K;refine wpAny_ready (rs:=[3]) (by kernel_rfl) (by simp) ?_;refine AllReady.cons rfl (λK hK=>?_) AllReady.nil;go_simp;go_wp2_with (go_at_call 114;refine(HTu.out _).mono ?_;rintro e w3 ⟨rfl,hb3⟩);have H3:Hid (At w3 w.heap.size (AD x) BB/\AL w3 (w.heap.size+1) e0 M/\Below w.heap.size w w3):=⟨At.keep H2.out.1 hb3 H2.out.1.lt,At.keep H2.out.2.1 hb3 (At.lt H2.out.2.1),H2.out.2.2.trans (hb3.mono H2.out.2.2.size)⟩
    clear hb3;refine wpAny_ready (rs:=[4]) (by kernel_rfl) (by simp) ?_;refine AllReady.cons rfl (λK hK=>?_) AllReady.nil;go_simp;go_wp2_with (go_at_call 116;refine(HGr2.out _).mono ?_;rintro e w4 ⟨rfl,hb4⟩);have H4:Hid (At w4 w.heap.size (AD x) BB/\Below w.heap.size w w4):=⟨At.keep H3.out.1 hb4 H3.out.1.lt,H3.out.2.2.trans (hb4.mono H3.out.2.2.size)⟩
    have f7:w4.cell? ⟨w.heap.size,7,none⟩=some (.int .i64 n):=by rw[H4.out.1.cell,<-hn];rfl
    have hl4:w.heap.size<w4.heap.size:=H4.out.1.lt;clear hb4;refine wpAny_take (i:=5) (v:=.int .i64 lo) rfl (by kernel_rfl) (by kernel_rfl) (by kernel_rfl) (λ_ _ _ h=>h) (Or.inl ⟨by rfl,by intro w;go_simp⟩) ?_;refine wpAny_done (by kernel_rfl) ?_ _;go_wp2_with fail;go_ret;exact⟨BM HE.out,H4.out.2⟩
   ·go_simp;go_wp2_with (go_at_call 114;refine(HTu.out _).mono ?_;rintro e w3 ⟨rfl,hb3⟩);have H3:Hid (At w3 w.heap.size (AD x) BB/\AL w3 (w.heap.size+1) e0 M/\Below w.heap.size w w3):=⟨At.keep H2.out.1 hb3 H2.out.1.lt,At.keep H2.out.2.1 hb3 (At.lt H2.out.2.1),H2.out.2.2.trans (hb3.mono H2.out.2.2.size)⟩
    clear hb3;refine wpAny_ready (rs:=[0]) (by kernel_rfl) (by simp) ?_;refine AllReady.cons rfl (λK hK=>?_) AllReady.nil;refine AX rfl (.tmp 3) rfl rfl H3.out.2.1 ?_;refine hK _ _ ?_;clear hK K;refine wpAny_ready (rs:=[4]) (by kernel_rfl) (by simp) ?_;refine AllReady.cons rfl (λK hK=>?_) AllReady.nil;go_simp;go_wp2_with (go_at_call 116;refine(HGr2.out _).mono ?_;rintro e w4 ⟨rfl,hb4⟩);have H4:Hid (At w4 w.heap.size (AD x) BB/\Below w.heap.size w w4):=⟨At.keep H3.out.1 hb4 H3.out.1.lt,H3.out.2.2.trans (hb4.mono H3.out.2.2.size)⟩
    have f7:w4.cell? ⟨w.heap.size,7,none⟩=some (.int .i64 n):=by rw[H4.out.1.cell,<-hn];rfl
    have hl4:w.heap.size<w4.heap.size:=H4.out.1.lt;clear hb4;refine wpAny_take (i:=5) (v:=.int .i64 lo) rfl (by kernel_rfl) (by kernel_rfl) (by kernel_rfl) (λ_ _ _ h=>h) (Or.inl ⟨by rfl,by intro w;go_simp⟩) ?_;refine wpAny_done (by kernel_rfl) ?_ _;go_wp2_with fail;go_ret;exact⟨BM HE.out,H4.out.2⟩
 have b2:(lo==1000000)=false:=by rw[beq_eq_false_iff_ne];exact q2
 by_cases q3:hi+n<=999
 ·by_cases q4:lo-n<=999
  ·have HE:Hid (ftB M x.sg n=true):=HEo.out true (decide_eq_true ⟨q1,q2,q3,q4⟩);clear HF HEo q1 q2;go_wp2_with fail;refine wp_region_any (by kernel_rfl) ?_;change wpAny _ _ _ _ _ _ _ (World.drew _);have H2:Hid (At w1.drew w.heap.size (AD x) BB/\AL w1.drew (w.heap.size+1) e0 M/\Below w.heap.size w w1.drew):=⟨H1.out.1,H1.out.2.1,H1.out.2.2.drew⟩
   generalize w1.drew=w2 at *;have d3:w2.cell? ⟨w.heap.size,3,none⟩=some (.int .i64 (AK x.sg 0)):=H2.out.1.cell 3;have d4:w2.cell? ⟨w.heap.size,4,none⟩=some (.int .i64 (AK x.sg 1)):=H2.out.1.cell 4;have d5:w2.cell? ⟨w.heap.size,5,none⟩=some (.int .i64 (AK x.sg 2)):=H2.out.1.cell 5;have d6:w2.cell? ⟨w.heap.size,6,none⟩=some (.int .i64 (AK x.sg 3)):=H2.out.1.cell 6;have hl2:w.heap.size<w2.heap.size:=H2.out.1.lt;refine wpAny_take (i:=1) (v:=.pointer (some ⟨w.heap.size,3,none⟩)) rfl (by kernel_rfl) (by kernel_rfl) (by kernel_rfl) (λ_ _ _ h=>h) (Or.inl ⟨by rfl,by intro w;go_simp⟩) ?_;refine wpAny_ready (rs:=[0,2]) (by kernel_rfl) (by simp) ?_;refine AllReady.cons rfl (λK hK=>?_) (AllReady.cons rfl (λK hK=>?_) AllReady.nil)
   ·refine AX rfl (.tmp 3) rfl rfl H2.out.2.1 ?_;refine hK _ _ ?_;clear hK K;refine wpAny_ready (rs:=[2]) (by kernel_rfl) (by simp) ?_;refine AllReady.cons rfl (λK hK=>?_) AllReady.nil;go_simp;refine hK _ _ ?_;clear hK K;refine wpAny_ready (rs:=[3]) (by kernel_rfl) (by simp) ?_;refine AllReady.cons rfl (λK hK=>?_) AllReady.nil;go_simp;go_wp2_with (go_at_call 114;refine(HTu.out _).mono ?_;rintro e w3 ⟨rfl,hb3⟩);have H3:Hid (At w3 w.heap.size (AD x) BB/\AL w3 (w.heap.size+1) e0 M/\Below w.heap.size w w3):=⟨At.keep H2.out.1 hb3 H2.out.1.lt,At.keep H2.out.2.1 hb3 (At.lt H2.out.2.1),H2.out.2.2.trans (hb3.mono H2.out.2.2.size)⟩
    clear hb3;refine wpAny_ready (rs:=[4]) (by kernel_rfl) (by simp) ?_;refine AllReady.cons rfl (λK hK=>?_) AllReady.nil;go_simp;go_wp2_with (go_at_call 116;refine(HGr2.out _).mono ?_;rintro e w4 ⟨rfl,hb4⟩);have H4:Hid (At w4 w.heap.size (AD x) BB/\Below w.heap.size w w4):=⟨At.keep H3.out.1 hb4 H3.out.1.lt,H3.out.2.2.trans (hb4.mono H3.out.2.2.size)⟩
    have f7:w4.cell? ⟨w.heap.size,7,none⟩=some (.int .i64 n):=by rw[H4.out.1.cell,<-hn];rfl
    have hl4:w.heap.size<w4.heap.size:=H4.out.1.lt;clear hb4;refine wpAny_take (i:=5) (v:=.int .i64 lo) rfl (by kernel_rfl) (by kernel_rfl) (by kernel_rfl) (λ_ _ _ h=>h) (Or.inl ⟨by rfl,by intro w;go_simp⟩) ?_;refine wpAny_done (by kernel_rfl) ?_ _;go_wp2_with fail;go_ret;exact⟨BM HE.out,H4.out.2⟩
   ·go_simp;refine hK _ _ ?_;clear hK K;refine wpAny_ready (rs:=[0,3]) (by kernel_rfl) (by simp) ?_;refine AllReady.cons rfl (λK hK=>?_) (AllReady.cons rfl (λK hK=>?_) AllReady.nil)
    ·refine AX rfl (.tmp 3) rfl rfl H2.out.2.1 ?_;refine hK _ _ ?_;clear hK K;refine wpAny_ready (rs:=[3]) (by kernel_rfl) (by simp) ?_;refine AllReady.cons rfl (λK hK=>?_) AllReady.nil;go_simp;go_wp2_with (go_at_call 114;refine(HTu.out _).mono ?_;rintro e w3 ⟨rfl,hb3⟩);have H3:Hid (At w3 w.heap.size (AD x) BB/\AL w3 (w.heap.size+1) e0 M/\Below w.heap.size w w3):=⟨At.keep H2.out.1 hb3 H2.out.1.lt,At.keep H2.out.2.1 hb3 (At.lt H2.out.2.1),H2.out.2.2.trans (hb3.mono H2.out.2.2.size)⟩
     clear hb3;refine wpAny_ready (rs:=[4]) (by kernel_rfl) (by simp) ?_;refine AllReady.cons rfl (λK hK=>?_) AllReady.nil;go_simp;go_wp2_with (go_at_call 116;refine(HGr2.out _).mono ?_;rintro e w4 ⟨rfl,hb4⟩);have H4:Hid (At w4 w.heap.size (AD x) BB/\Below w.heap.size w w4):=⟨At.keep H3.out.1 hb4 H3.out.1.lt,H3.out.2.2.trans (hb4.mono H3.out.2.2.size)⟩
     have f7:w4.cell? ⟨w.heap.size,7,none⟩=some (.int .i64 n):=by rw[H4.out.1.cell,<-hn];rfl
     have hl4:w.heap.size<w4.heap.size:=H4.out.1.lt;clear hb4;refine wpAny_take (i:=5) (v:=.int .i64 lo) rfl (by kernel_rfl) (by kernel_rfl) (by kernel_rfl) (λ_ _ _ h=>h) (Or.inl ⟨by rfl,by intro w;go_simp⟩) ?_;refine wpAny_done (by kernel_rfl) ?_ _;go_wp2_with fail;go_ret;exact⟨BM HE.out,H4.out.2⟩
    ·go_simp;go_wp2_with (go_at_call 114;refine(HTu.out _).mono ?_;rintro e w3 ⟨rfl,hb3⟩);have H3:Hid (At w3 w.heap.size (AD x) BB/\AL w3 (w.heap.size+1) e0 M/\Below w.heap.size w w3):=⟨At.keep H2.out.1 hb3 H2.out.1.lt,At.keep H2.out.2.1 hb3 (At.lt H2.out.2.1),H2.out.2.2.trans (hb3.mono H2.out.2.2.size)⟩
     clear hb3;refine wpAny_ready (rs:=[0]) (by kernel_rfl) (by simp) ?_;refine AllReady.cons rfl (λK hK=>?_) AllReady.nil;refine AX rfl (.tmp 3) rfl rfl H3.out.2.1 ?_;refine hK _ _ ?_;clear hK K;refine wpAny_ready (rs:=[4]) (by kernel_rfl) (by simp) ?_;refine AllReady.cons rfl (λK hK=>?_) AllReady.nil;go_simp;go_wp2_with (go_at_call 116;refine(HGr2.out _).mono ?_;rintro e w4 ⟨rfl,hb4⟩);have H4:Hid (At w4 w.heap.size (AD x) BB/\Below w.heap.size w w4):=⟨At.keep H3.out.1 hb4 H3.out.1.lt,H3.out.2.2.trans (hb4.mono H3.out.2.2.size)⟩
     have f7:w4.cell? ⟨w.heap.size,7,none⟩=some (.int .i64 n):=by rw[H4.out.1.cell,<-hn];rfl
     have hl4:w.heap.size<w4.heap.size:=H4.out.1.lt;clear hb4;refine wpAny_take (i:=5) (v:=.int .i64 lo) rfl (by kernel_rfl) (by kernel_rfl) (by kernel_rfl) (λ_ _ _ h=>h) (Or.inl ⟨by rfl,by intro w;go_simp⟩) ?_;refine wpAny_done (by kernel_rfl) ?_ _;go_wp2_with fail;go_ret;exact⟨BM HE.out,H4.out.2⟩
  ·have HE:Hid (ftB M x.sg n=decide (lo-n<=999)):=(HEo.out false (decide_eq_false (λz=>q4 z.2.2.2))).trans (decide_eq_false q4).symm;clear HF HEo q1 q2;go_wp2_with fail;refine wp_region_any (by kernel_rfl) ?_;change wpAny _ _ _ _ _ _ _ (World.drew _);have H2:Hid (At w1.drew w.heap.size (AD x) BB/\AL w1.drew (w.heap.size+1) e0 M/\Below w.heap.size w w1.drew):=⟨H1.out.1,H1.out.2.1,H1.out.2.2.drew⟩
   generalize w1.drew=w2 at *;have d3:w2.cell? ⟨w.heap.size,3,none⟩=some (.int .i64 (AK x.sg 0)):=H2.out.1.cell 3;have d4:w2.cell? ⟨w.heap.size,4,none⟩=some (.int .i64 (AK x.sg 1)):=H2.out.1.cell 4;have d5:w2.cell? ⟨w.heap.size,5,none⟩=some (.int .i64 (AK x.sg 2)):=H2.out.1.cell 5;have d6:w2.cell? ⟨w.heap.size,6,none⟩=some (.int .i64 (AK x.sg 3)):=H2.out.1.cell 6;have hl2:w.heap.size<w2.heap.size:=H2.out.1.lt;refine wpAny_take (i:=1) (v:=.pointer (some ⟨w.heap.size,3,none⟩)) rfl (by kernel_rfl) (by kernel_rfl) (by kernel_rfl) (λ_ _ _ h=>h) (Or.inl ⟨by rfl,by intro w;go_simp⟩) ?_;refine wpAny_ready (rs:=[0,2]) (by kernel_rfl) (by simp) ?_;refine AllReady.cons rfl (λK hK=>?_) (AllReady.cons rfl (λK hK=>?_) AllReady.nil)
   ·refine AX rfl (.tmp 3) rfl rfl H2.out.2.1 ?_;refine hK _ _ ?_;clear hK K;refine wpAny_ready (rs:=[2]) (by kernel_rfl) (by simp) ?_;refine AllReady.cons rfl (λK hK=>?_) AllReady.nil;go_simp;refine hK _ _ ?_;clear hK K;refine wpAny_ready (rs:=[3]) (by kernel_rfl) (by simp) ?_;refine AllReady.cons rfl (λK hK=>?_) AllReady.nil;go_simp;go_wp2_with (go_at_call 114;refine(HTu.out _).mono ?_;rintro e w3 ⟨rfl,hb3⟩);have H3:Hid (At w3 w.heap.size (AD x) BB/\AL w3 (w.heap.size+1) e0 M/\Below w.heap.size w w3):=⟨At.keep H2.out.1 hb3 H2.out.1.lt,At.keep H2.out.2.1 hb3 (At.lt H2.out.2.1),H2.out.2.2.trans (hb3.mono H2.out.2.2.size)⟩
    clear hb3;refine wpAny_ready (rs:=[4]) (by kernel_rfl) (by simp) ?_;refine AllReady.cons rfl (λK hK=>?_) AllReady.nil;go_simp;go_wp2_with (go_at_call 116;refine(HGr2.out _).mono ?_;rintro e w4 ⟨rfl,hb4⟩);have H4:Hid (At w4 w.heap.size (AD x) BB/\Below w.heap.size w w4):=⟨At.keep H3.out.1 hb4 H3.out.1.lt,H3.out.2.2.trans (hb4.mono H3.out.2.2.size)⟩
    have f7:w4.cell? ⟨w.heap.size,7,none⟩=some (.int .i64 n):=by rw[H4.out.1.cell,<-hn];rfl
    have hl4:w.heap.size<w4.heap.size:=H4.out.1.lt;clear hb4;refine wpAny_take (i:=5) (v:=.int .i64 lo) rfl (by kernel_rfl) (by kernel_rfl) (by kernel_rfl) (λ_ _ _ h=>h) (Or.inl ⟨by rfl,by intro w;go_simp⟩) ?_;refine wpAny_done (by kernel_rfl) ?_ _;go_wp2_with fail;go_ret;exact⟨BM HE.out,H4.out.2⟩
   ·go_simp;refine hK _ _ ?_;clear hK K;refine wpAny_ready (rs:=[0,3]) (by kernel_rfl) (by simp) ?_;refine AllReady.cons rfl (λK hK=>?_) (AllReady.cons rfl (λK hK=>?_) AllReady.nil)
    ·refine AX rfl (.tmp 3) rfl rfl H2.out.2.1 ?_;refine hK _ _ ?_;clear hK K;refine wpAny_ready (rs:=[3]) (by kernel_rfl) (by simp) ?_;refine AllReady.cons rfl (λK hK=>?_) AllReady.nil;go_simp;go_wp2_with (go_at_call 114;refine(HTu.out _).mono ?_;rintro e w3 ⟨rfl,hb3⟩);have H3:Hid (At w3 w.heap.size (AD x) BB/\AL w3 (w.heap.size+1) e0 M/\Below w.heap.size w w3):=⟨At.keep H2.out.1 hb3 H2.out.1.lt,At.keep H2.out.2.1 hb3 (At.lt H2.out.2.1),H2.out.2.2.trans (hb3.mono H2.out.2.2.size)⟩
     clear hb3;refine wpAny_ready (rs:=[4]) (by kernel_rfl) (by simp) ?_;refine AllReady.cons rfl (λK hK=>?_) AllReady.nil;go_simp;go_wp2_with (go_at_call 116;refine(HGr2.out _).mono ?_;rintro e w4 ⟨rfl,hb4⟩);have H4:Hid (At w4 w.heap.size (AD x) BB/\Below w.heap.size w w4):=⟨At.keep H3.out.1 hb4 H3.out.1.lt,H3.out.2.2.trans (hb4.mono H3.out.2.2.size)⟩
     have f7:w4.cell? ⟨w.heap.size,7,none⟩=some (.int .i64 n):=by rw[H4.out.1.cell,<-hn];rfl
     have hl4:w.heap.size<w4.heap.size:=H4.out.1.lt;clear hb4;refine wpAny_take (i:=5) (v:=.int .i64 lo) rfl (by kernel_rfl) (by kernel_rfl) (by kernel_rfl) (λ_ _ _ h=>h) (Or.inl ⟨by rfl,by intro w;go_simp⟩) ?_;refine wpAny_done (by kernel_rfl) ?_ _;go_wp2_with fail;go_ret;exact⟨BM HE.out,H4.out.2⟩
    ·go_simp;go_wp2_with (go_at_call 114;refine(HTu.out _).mono ?_;rintro e w3 ⟨rfl,hb3⟩);have H3:Hid (At w3 w.heap.size (AD x) BB/\AL w3 (w.heap.size+1) e0 M/\Below w.heap.size w w3):=⟨At.keep H2.out.1 hb3 H2.out.1.lt,At.keep H2.out.2.1 hb3 (At.lt H2.out.2.1),H2.out.2.2.trans (hb3.mono H2.out.2.2.size)⟩
     clear hb3;refine wpAny_ready (rs:=[0]) (by kernel_rfl) (by simp) ?_;refine AllReady.cons rfl (λK hK=>?_) AllReady.nil;refine AX rfl (.tmp 3) rfl rfl H3.out.2.1 ?_;refine hK _ _ ?_;clear hK K;refine wpAny_ready (rs:=[4]) (by kernel_rfl) (by simp) ?_;refine AllReady.cons rfl (λK hK=>?_) AllReady.nil;go_simp;go_wp2_with (go_at_call 116;refine(HGr2.out _).mono ?_;rintro e w4 ⟨rfl,hb4⟩);have H4:Hid (At w4 w.heap.size (AD x) BB/\Below w.heap.size w w4):=⟨At.keep H3.out.1 hb4 H3.out.1.lt,H3.out.2.2.trans (hb4.mono H3.out.2.2.size)⟩
     have f7:w4.cell? ⟨w.heap.size,7,none⟩=some (.int .i64 n):=by rw[H4.out.1.cell,<-hn];rfl
     have hl4:w.heap.size<w4.heap.size:=H4.out.1.lt;clear hb4;refine wpAny_take (i:=5) (v:=.int .i64 lo) rfl (by kernel_rfl) (by kernel_rfl) (by kernel_rfl) (λ_ _ _ h=>h) (Or.inl ⟨by rfl,by intro w;go_simp⟩) ?_;refine wpAny_done (by kernel_rfl) ?_ _;go_wp2_with fail;go_ret;exact⟨BM HE.out,H4.out.2⟩
 ·have HE:Hid (ftB M x.sg n=false):=HEo.out false (decide_eq_false (λz=>q3 z.2.2.1));clear HF HEo q1 q2;go_wp2_with fail;refine wp_region_any (by kernel_rfl) ?_;change wpAny _ _ _ _ _ _ _ (World.drew _);have H2:Hid (At w1.drew w.heap.size (AD x) BB/\AL w1.drew (w.heap.size+1) e0 M/\Below w.heap.size w w1.drew):=⟨H1.out.1,H1.out.2.1,H1.out.2.2.drew⟩
  generalize w1.drew=w2 at *;have d3:w2.cell? ⟨w.heap.size,3,none⟩=some (.int .i64 (AK x.sg 0)):=H2.out.1.cell 3;have d4:w2.cell? ⟨w.heap.size,4,none⟩=some (.int .i64 (AK x.sg 1)):=H2.out.1.cell 4;have d5:w2.cell? ⟨w.heap.size,5,none⟩=some (.int .i64 (AK x.sg 2)):=H2.out.1.cell 5;have d6:w2.cell? ⟨w.heap.size,6,none⟩=some (.int .i64 (AK x.sg 3)):=H2.out.1.cell 6;have hl2:w.heap.size<w2.heap.size:=H2.out.1.lt;refine wpAny_take (i:=1) (v:=.pointer (some ⟨w.heap.size,3,none⟩)) rfl (by kernel_rfl) (by kernel_rfl) (by kernel_rfl) (λ_ _ _ h=>h) (Or.inl ⟨by rfl,by intro w;go_simp⟩) ?_;refine wpAny_ready (rs:=[0,2]) (by kernel_rfl) (by simp) ?_;refine AllReady.cons rfl (λK hK=>?_) (AllReady.cons rfl (λK hK=>?_) AllReady.nil)
  ·refine AX rfl (.tmp 3) rfl rfl H2.out.2.1 ?_;refine hK _ _ ?_;clear hK K;refine wpAny_ready (rs:=[2]) (by kernel_rfl) (by simp) ?_;refine AllReady.cons rfl (λK hK=>?_) AllReady.nil;go_simp;refine hK _ _ ?_;clear hK K;refine wpAny_ready (rs:=[3]) (by kernel_rfl) (by simp) ?_;refine AllReady.cons rfl (λK hK=>?_) AllReady.nil;go_simp;go_wp2_with (go_at_call 114;refine(HTu.out _).mono ?_;rintro e w3 ⟨rfl,hb3⟩);have H3:Hid (At w3 w.heap.size (AD x) BB/\AL w3 (w.heap.size+1) e0 M/\Below w.heap.size w w3):=⟨At.keep H2.out.1 hb3 H2.out.1.lt,At.keep H2.out.2.1 hb3 (At.lt H2.out.2.1),H2.out.2.2.trans (hb3.mono H2.out.2.2.size)⟩
   clear hb3;refine wpAny_ready (rs:=[4]) (by kernel_rfl) (by simp) ?_;refine AllReady.cons rfl (λK hK=>?_) AllReady.nil;go_simp;go_wp2_with (go_at_call 116;refine(HGr2.out _).mono ?_;rintro e w4 ⟨rfl,hb4⟩);have H4:Hid (At w4 w.heap.size (AD x) BB/\Below w.heap.size w w4):=⟨At.keep H3.out.1 hb4 H3.out.1.lt,H3.out.2.2.trans (hb4.mono H3.out.2.2.size)⟩
   have f7:w4.cell? ⟨w.heap.size,7,none⟩=some (.int .i64 n):=by rw[H4.out.1.cell,<-hn];rfl
   have hl4:w.heap.size<w4.heap.size:=H4.out.1.lt;clear hb4;refine wpAny_take (i:=5) (v:=.int .i64 lo) rfl (by kernel_rfl) (by kernel_rfl) (by kernel_rfl) (λ_ _ _ h=>h) (Or.inl ⟨by rfl,by intro w;go_simp⟩) ?_;refine wpAny_done (by kernel_rfl) ?_ _;go_wp2_with fail;go_ret;exact⟨BM HE.out,H4.out.2⟩
  ·go_simp;refine hK _ _ ?_;clear hK K;refine wpAny_ready (rs:=[0,3]) (by kernel_rfl) (by simp) ?_;refine AllReady.cons rfl (λK hK=>?_) (AllReady.cons rfl (λK hK=>?_) AllReady.nil)
   ·refine AX rfl (.tmp 3) rfl rfl H2.out.2.1 ?_;refine hK _ _ ?_;clear hK K;refine wpAny_ready (rs:=[3]) (by kernel_rfl) (by simp) ?_;refine AllReady.cons rfl (λK hK=>?_) AllReady.nil;go_simp;go_wp2_with (go_at_call 114;refine(HTu.out _).mono ?_;rintro e w3 ⟨rfl,hb3⟩);have H3:Hid (At w3 w.heap.size (AD x) BB/\AL w3 (w.heap.size+1) e0 M/\Below w.heap.size w w3):=⟨At.keep H2.out.1 hb3 H2.out.1.lt,At.keep H2.out.2.1 hb3 (At.lt H2.out.2.1),H2.out.2.2.trans (hb3.mono H2.out.2.2.size)⟩
    clear hb3;refine wpAny_ready (rs:=[4]) (by kernel_rfl) (by simp) ?_;refine AllReady.cons rfl (λK hK=>?_) AllReady.nil;go_simp;go_wp2_with (go_at_call 116;refine(HGr2.out _).mono ?_;rintro e w4 ⟨rfl,hb4⟩);have H4:Hid (At w4 w.heap.size (AD x) BB/\Below w.heap.size w w4):=⟨At.keep H3.out.1 hb4 H3.out.1.lt,H3.out.2.2.trans (hb4.mono H3.out.2.2.size)⟩
    have f7:w4.cell? ⟨w.heap.size,7,none⟩=some (.int .i64 n):=by rw[H4.out.1.cell,<-hn];rfl
    have hl4:w.heap.size<w4.heap.size:=H4.out.1.lt;clear hb4;refine wpAny_take (i:=5) (v:=.int .i64 lo) rfl (by kernel_rfl) (by kernel_rfl) (by kernel_rfl) (λ_ _ _ h=>h) (Or.inl ⟨by rfl,by intro w;go_simp⟩) ?_;refine wpAny_done (by kernel_rfl) ?_ _;go_wp2_with fail;go_ret;exact⟨BM HE.out,H4.out.2⟩
   ·go_simp;go_wp2_with (go_at_call 114;refine(HTu.out _).mono ?_;rintro e w3 ⟨rfl,hb3⟩);have H3:Hid (At w3 w.heap.size (AD x) BB/\AL w3 (w.heap.size+1) e0 M/\Below w.heap.size w w3):=⟨At.keep H2.out.1 hb3 H2.out.1.lt,At.keep H2.out.2.1 hb3 (At.lt H2.out.2.1),H2.out.2.2.trans (hb3.mono H2.out.2.2.size)⟩
    clear hb3;refine wpAny_ready (rs:=[0]) (by kernel_rfl) (by simp) ?_;refine AllReady.cons rfl (λK hK=>?_) AllReady.nil;refine AX rfl (.tmp 3) rfl rfl H3.out.2.1 ?_;refine hK _ _ ?_;clear hK K;refine wpAny_ready (rs:=[4]) (by kernel_rfl) (by simp) ?_;refine AllReady.cons rfl (λK hK=>?_) AllReady.nil;go_simp;go_wp2_with (go_at_call 116;refine(HGr2.out _).mono ?_;rintro e w4 ⟨rfl,hb4⟩);have H4:Hid (At w4 w.heap.size (AD x) BB/\Below w.heap.size w w4):=⟨At.keep H3.out.1 hb4 H3.out.1.lt,H3.out.2.2.trans (hb4.mono H3.out.2.2.size)⟩
    have f7:w4.cell? ⟨w.heap.size,7,none⟩=some (.int .i64 n):=by rw[H4.out.1.cell,<-hn];rfl
    have hl4:w.heap.size<w4.heap.size:=H4.out.1.lt;clear hb4;refine wpAny_take (i:=5) (v:=.int .i64 lo) rfl (by kernel_rfl) (by kernel_rfl) (by kernel_rfl) (λ_ _ _ h=>h) (Or.inl ⟨by rfl,by intro w;go_simp⟩) ?_;refine wpAny_done (by kernel_rfl) ?_ _;go_wp2_with fail;go_ret;exact⟨BM HE.out,H4.out.2⟩
end Go.Proofs.YtffajooegiempaaGreatDoor
namespace Go.Proofs.YtffajooegiempaaGreatDoor
open Go.RowKit
variable {w:World}{e0:Bool}{M:Nat->Int}
def E3(M:Nat->Int)(t:Nat)(lo hi:Int):Nat->Nat->Int
 |0=>M
 |j+1=>if j=2*t\/j=2*t+1 then E3 M t lo hi j
  else lm (lm (E3 M t lo hi j) (2*t) j (pl hi (mo (E3 M t lo hi j) j j))) (2*t+1) j (pl (-lo) (mo (E3 M t lo hi j) j j))
def FI(M:Nat->Int)(t:Nat)(lo hi:Int):Nat->Int:=lm (lm (E3 M t lo hi 8) (2*t) (2*t) hi) (2*t+1) (2*t+1) (-lo)
theorem Qk{N:Nat->Int}(hN:Sm N){i j:Nat}{n:Int}(h: -45000000000<=n/\(n=NB\/n<=500000)):Sm (lm N i j n):=by
 intro k hk;have:=hN k hk;unfold NB at h;unfold lm Bw NB;split
 ·split<;>omega
 ·split
  ·split<;>omega
  ·exact this
def Sh(M:Nat->Int):Prop:=∀k,k<64-> -40000000000<=M k/\(M k=NB\/M k<=432000)
theorem Sh.sm(h:Sh M):Sm M:=λk hk=>by have:=h k hk;unfold NB at this;omega
theorem Mr(M:Nat->Int){t:Nat}(ht:t<4)(lo hi:Int):∀n,n<=8->∀j,j<8->j≠2*t->j≠2*t+1->E3 M t lo hi n (j*8+j)=M (j*8+j):=by
 intro n;induction n with
 |zero=>intro _ j _ _ _;rfl
 |succ n ih=>
  intro hn j hj h1 h2;have e:=ih (by omega) j hj h1 h2;rw[E3];split
  ·exact e
  ·rename_i c;unfold lm;rw[BO _ _ (by omega),BO _ _ (by omega),BO _ _ (by omega),BO _ _ (by omega)];exact e
theorem Qn(h:Sh M){j:Nat}(hj:j<8): -40000000000<=mo M j j/\(mo M j j=NB\/mo M j j<=400000):=by
 have a:=h (j*8+j) (by omega);have t:=ER (M (j*8+j));unfold mo;by_cases q:M (j*8+j)=NB
 ·rw[if_neg (λz=>z.2 q)];exact⟨a.1,.inl q⟩
 ·rw[if_pos ⟨rfl,q⟩];have a2:=a.2.resolve_left q;rcases Int.lt_or_le (M (j*8+j)) 0 with c|c
  ·rw[t.2 c];exact⟨by omega,.inr (by omega)⟩
  ·rw[t.1 c];exact⟨by omega,.inr (by omega)⟩
theorem Jk{a b:Int}(ha: -999<=a/\a<=999)(hb: -40000000000<=b/\(b=NB\/b<=400000)): -41000000000<=pl a b/\(pl a b=NB\/pl a b<=500000):=by
 unfold pl;by_cases q:a=NB\/b=NB
 ·rw[if_pos q];exact⟨by decide,.inl rfl⟩
 ·rw[if_neg q];have:b≠NB:=λz=>q (.inr z);have:=hb.2.resolve_left this;exact⟨by omega,.inr (by omega)⟩
theorem KL{N:Nat->Int}{j:Nat}(h:N (j*8+j)=M (j*8+j)):mo N j j=mo M j j:=by unfold mo;rw[h]
theorem UX(h:Sh M){t:Nat}(ht:t<4){lo hi:Int}(hlo: -999<= -lo/\ -lo<=999)(hhi: -999<=hi/\hi<=999):∀n,n<=8->Sm (E3 M t lo hi n):=by
 intro n;induction n with
 |zero=>intro _;exact h.sm
 |succ n ih=>
  intro hn;rw[E3];split
  ·exact ih (by omega)
  ·rename_i c;have e:=KL (Mr M ht lo hi n (by omega) n (by omega) (λz=>c (.inl z)) (λz=>c (.inr z)));rw[e];have q:=Qn h (show n<8 by omega);have a:=Jk hhi q;have b:=Jk hlo q;exact Qk (Qk (ih (by omega)) ⟨by omega,a.2⟩) ⟨by omega,b.2⟩
theorem IZ(h:Sh M)(t:Nat)(ht:t<4)(lo hi:Int)(hlo: -999<=lo/\lo<=999)(hhi: -999<=hi/\hi<=999):
  Calls Tryz.prog 140 #[.agg (oc e0 M),.int .i64 (t:Int),.int .i64 lo,.int .i64 hi] w λe w'=>e=.returned (.agg (oc e0 (FI M t lo hi)))/\Below w.heap.size w w':=by
 have hz:=Bn;have hlo': -999<= -lo/\ -lo<=999:=by omega
 have HSm:Hid (∀n,n<=8->Sm (E3 M t lo hi n)):=UX h ht hlo' hhi;have hti:(t:Int)<4:=by omega
 have ht0:¬(4:Int)<=(t:Int):=by omega
 obtain⟨w0,hw0⟩:∃w0,w0=(w.alloc (.cells (oc e0 M) tO)).alloc (.cells (oc false λ_=>0) tO):=⟨_,rfl⟩
 have H0:Hid (AL w0 w.heap.size e0 (E3 M t lo hi 0)/\AL w0 (w.heap.size+1) false (λ_=>0)/\Below w.heap.size w w0):=by
  refine⟨by rw[hw0];exact At.allocH (At.new _ _ _) _,?_,by rw[hw0];exact((Below.refl _ _).alloc (Nat.le_refl _) _).alloc (by simp) _⟩;have:=At.new (w.alloc (.cells (oc e0 M) tO)) (oc false λ_=>0) tO;rw[show(w.alloc (.cells (oc e0 M) tO)).heap.size=w.heap.size+1 by simp]at this;rw[hw0];exact this
 have HMo:Hid (∀w1 n j,n<=8->j<8->Calls Tryz.prog 139 #[.agg (oc e0 (E3 M t lo hi n)),.int .i64 ((j:Nat):Int),.int .i64 ((j:Nat):Int)] w1 λe w'=>e=.returned (.int .i64 (mo (E3 M t lo hi n) j j))/\Below w1.heap.size w1 w'):=λw1 n j hn hj=>PJ j j hj hj (by have:=HSm.out n hn (j*8+j) (by omega);omega);have HRg:Hid (∀n,n<8->n≠2*t->n≠2*t+1->(-40000000000<=mo (E3 M t lo hi n) n n/\mo (E3 M t lo hi n) n n<=1000000)/\(-41000000000<=pl hi (mo (E3 M t lo hi n) n n)/\pl hi (mo (E3 M t lo hi n) n n)<=1000000)/\(-41000000000<=pl (-lo) (mo (E3 M t lo hi n) n n)/\pl (-lo) (mo (E3 M t lo hi n) n n)<=1000000)):=by
  intro n hn h1 h2;rw[KL (Mr M ht lo hi n (by omega) n hn h1 h2)];have q:=Qn h hn;have a:=Jk hhi q;have b:=Jk hlo' q;unfold NB at q a b;omega
 have HEq:Hid (∀n,E3 M t lo hi (n+1)=if n=2*t\/n=2*t+1 then E3 M t lo hi n else lm (lm (E3 M t lo hi n) (2*t) n (pl hi (mo (E3 M t lo hi n) n n))) (2*t+1) n (pl (-lo) (mo (E3 M t lo hi n) n n))):=λ_=>rfl;have HT:Hid (FI M t lo hi=lm (lm (E3 M t lo hi 8) (2*t) (2*t) hi) (2*t+1) (2*t+1) (-lo)):=rfl;have HLm:Hid (∀w1 (b:Nat) (N:Nat->Int) (i j:Nat) (n:Int),i<8->j<8->(-1000000000000<=n/\n<=1000000000000)->AL w1 b e0 N->Calls Tryz.prog 134 #[.pointer (some ⟨b,0,none⟩),.int .i64 (i:Int),.int .i64 (j:Int),.int .i64 n] w1 λe w'=>e=.returned (.tuple #[])/\Hid (AL w' b e0 (lm N i j n)/\BC b w1 w')):=λw1 b N i j n hi hj hn ha=>(MY ha i j hi hj n hn).mono λe w' h=>h;have e2t:((2*t:Nat):Int)=2*(t:Int):=by omega
 have e2t1:((2*t+1:Nat):Int)=2*(t:Int)+1:=by omega
 rw[hw0]at H0;clear h hw0 hlo';go_enter Tryz.func140,Tryz.ntmps140;go_wp2_with fail;go_loopw [11] (λjv wr=>∃(j:Nat),j<=8/\jv=.int .i64 j/\Hid (AL wr w.heap.size e0 (E3 M t lo hi j)/\AL wr (w.heap.size+1) false (λ_=>0)/\Below w.heap.size w wr)) (λjv _=>8-(intOf jv).toNat);case atStart=>exact⟨0,by omega,rfl,H0.out⟩
 case round=>
  obtain⟨j,hj,rfl,HR⟩:=hrel;clear H0;by_cases hlt:j<8
  ·have hji:(j:Int)<8:=by omega
   by_cases c1:j=2*t
   ·have HE:Hid (E3 M t lo hi (j+1)=E3 M t lo hi j):=(HEq.out j).trans (if_pos (.inl c1));have b1:((j:Int)==2*(t:Int))=true:=by rw[beq_iff_eq];omega
    clear c1;go_wp2_with fail;go_roundw;case rel=>exact⟨j+1,by omega,by go_num,by rw[HE.out];exact HR.out.1,HR.out.2⟩
    case measure=>simp[intOf];omega
   ·have b1:((j:Int)==2*(t:Int))=false:=by rw[beq_eq_false_iff_ne];omega
    by_cases c2:j=2*t+1
    ·have HE:Hid (E3 M t lo hi (j+1)=E3 M t lo hi j):=(HEq.out j).trans (if_pos (.inr c2));have b2:((j:Int)==2*(t:Int)+1)=true:=by rw[beq_iff_eq];omega
     clear c1 c2;go_wp2_with fail;go_roundw;case rel=>exact⟨j+1,by omega,by go_num,by rw[HE.out];exact HR.out.1,HR.out.2⟩
     case measure=>simp[intOf];omega
    ·have b2:((j:Int)==2*(t:Int)+1)=false:=by rw[beq_eq_false_iff_ne];omega
     have HE:Hid (E3 M t lo hi (j+1)=_):=(HEq.out j).trans (if_neg (λz=>z.elim c1 c2));obtain⟨⟨m1,m2⟩,⟨m3,m4⟩,⟨m5,m6⟩⟩:=HRg.out j hlt c1 c2;have hmo:=HMo.out wr j j hj hlt;have hp1:=λw1=>GS hi (mo (E3 M t lo hi j) j j) ⟨by omega,by omega⟩ ⟨by omega,m2⟩ w1;have hp2:=λw1=>GS (-lo) (mo (E3 M t lo hi j) j j) ⟨by omega,by omega⟩ ⟨by omega,m2⟩ w1;have hlr:w.heap.size+1<wr.heap.size:=At.lt HR.out.2.1;have HLm1:Hid (∀w1 (N:Nat->Int),AL w1 w.heap.size e0 N->Calls Tryz.prog 134 #[.pointer (some ⟨w.heap.size,0,none⟩),.int .i64 (2*(t:Int)),.int .i64 (j:Int),.int .i64 (pl hi (mo (E3 M t lo hi j) j j))] w1 λe w'=>e=.returned (.tuple #[])/\Hid (AL w' w.heap.size e0 (lm N (2*t) j (pl hi (mo (E3 M t lo hi j) j j)))/\BC w.heap.size w1 w')):=λw1 N ha=>by
      rw[<-e2t];exact HLm.out w1 _ N (2*t) j _ (by omega) hlt ⟨by omega,by omega⟩ ha
     have HLm2:Hid (∀w1 (N:Nat->Int),AL w1 w.heap.size e0 N->Calls Tryz.prog 134 #[.pointer (some ⟨w.heap.size,0,none⟩),.int .i64 (2*(t:Int)+1),.int .i64 (j:Int),.int .i64 (pl (-lo) (mo (E3 M t lo hi j) j j))] w1 λe w'=>e=.returned (.tuple #[])/\Hid (AL w' w.heap.size e0 (lm N (2*t+1) j (pl (-lo) (mo (E3 M t lo hi j) j j)))/\BC w.heap.size w1 w')):=λw1 N ha=>by
      rw[<-e2t1];exact HLm.out w1 _ N (2*t+1) j _ (by omega) hlt ⟨by omega,by omega⟩ ha
     have HP1:Hid (∀w1,Calls Tryz.prog 152 _ w1 _):=hp1;have HP2:Hid (∀w1,Calls Tryz.prog 152 _ w1 _):=hp2;clear c1 c2 hp1 hp2;generalize pl hi (mo (E3 M t lo hi j) j j)=q1 at *;generalize pl (-lo) (mo (E3 M t lo hi j) j j)=q2 at *;generalize mo (E3 M t lo hi j) j j=q0 at *;go_wp2_with (refine AH rfl (.tmp 4) rfl rfl HR.out.1 ?_);refine hmo.mono ?_;rintro e w2 ⟨rfl,hb2⟩;have H2:Hid (AL w2 w.heap.size e0 (E3 M t lo hi j)/\AL w2 (w.heap.size+1) false (λ_=>0)/\Below w.heap.size w w2):=⟨At.keep HR.out.1 hb2 (by omega),At.keep HR.out.2.1 hb2 hlr,HR.out.2.2.trans (hb2.mono HR.out.2.2.size)⟩
     have hp1:=HP1.out w2;have hl1:=HLm1.out w2 _ H2.out.1;clear hb2 hmo;go_wp2_with fail;refine hp1.mono ?_;rintro e w3 ⟨rfl,hw3⟩;subst hw3;go_wp2_with fail;refine hl1.mono ?_;rintro e w4 ⟨rfl,h4⟩;have H4:Hid (AL w4 w.heap.size e0 (lm (E3 M t lo hi j) (2*t) j q1)/\AL w4 (w.heap.size+1) false (λ_=>0)/\Below w.heap.size w w4):=⟨h4.out.1,h4.out.2.at_ H2.out.2.1 (by omega),H2.out.2.2.trans (h4.out.2.below (Nat.le_refl _) H2.out.2.2.size)⟩
     have hp2:=HP2.out w4;have hl2:=HLm2.out w4 _ H4.out.1;clear h4 hp1 hl1;go_wp2_with fail;refine hp2.mono ?_;rintro e w5 ⟨rfl,hw5⟩;subst hw5;go_wp2_with fail;refine hl2.mono ?_;rintro e w6 ⟨rfl,h6⟩;go_wp2_with fail;go_roundw;case rel=>exact⟨j+1,by omega,by go_num,by rw[HE.out];exact h6.out.1,h6.out.2.at_ H4.out.2.1 (by omega),H4.out.2.2.trans (h6.out.2.below (Nat.le_refl _) H4.out.2.2.size)⟩
     case measure=>simp[intOf];omega
  ·have hj8:j=8:=by omega
   subst hj8;have hl1:Calls Tryz.prog 134 #[.pointer (some ⟨w.heap.size,0,none⟩),.int .i64 (2*(t:Int)),.int .i64 (2*(t:Int)),.int .i64 hi] wr λe w'=>e=.returned (.tuple #[])/\Hid (AL w' w.heap.size e0 (lm (E3 M t lo hi 8) (2*t) (2*t) hi)/\BC w.heap.size wr w'):=by
    rw[<-e2t];exact HLm.out wr _ _ (2*t) (2*t) hi (by omega) (by omega) ⟨by omega,by omega⟩ HR.out.1
   have HLm2:Hid (∀w1 (N:Nat->Int),AL w1 w.heap.size e0 N->Calls Tryz.prog 134 #[.pointer (some ⟨w.heap.size,0,none⟩),.int .i64 (2*(t:Int)+1),.int .i64 (2*(t:Int)+1),.int .i64 (-lo)] w1 λe w'=>e=.returned (.tuple #[])/\Hid (AL w' w.heap.size e0 (lm N (2*t+1) (2*t+1) (-lo))/\BC w.heap.size w1 w')):=λw1 N ha=>by
    rw[<-e2t1];exact HLm.out w1 _ N (2*t+1) (2*t+1) (-lo) (by omega) (by omega) ⟨by omega,by omega⟩ ha
   go_wp2_with fail;refine hl1.mono ?_;rintro e w4 ⟨rfl,h4⟩;have H4:Hid (AL w4 w.heap.size e0 (lm (E3 M t lo hi 8) (2*t) (2*t) hi)/\AL w4 (w.heap.size+1) false (λ_=>0)/\Below w.heap.size w w4):=⟨h4.out.1,h4.out.2.at_ HR.out.2.1 (by omega),HR.out.2.2.trans (h4.out.2.below (Nat.le_refl _) HR.out.2.2.size)⟩
   have hl2:=HLm2.out w4 _ H4.out.1;clear h4 hl1;go_wp2_with fail;refine hl2.mono ?_;rintro e w6 ⟨rfl,h6⟩;have H6:Hid (AL w6 w.heap.size e0 (FI M t lo hi)/\AL w6 (w.heap.size+1) false (λ_=>0)/\Below w.heap.size w w6):=⟨by rw[HT.out];exact h6.out.1,h6.out.2.at_ H4.out.2.1 (by omega),H4.out.2.2.trans (h6.out.2.below (Nat.le_refl _) H4.out.2.2.size)⟩
   obtain⟨w7,hst7,hat7,ho7⟩:=Al H6.out.2.1 e0 (FI M t lo hi);have H7:Hid (AL w7 (w.heap.size+1) e0 (FI M t lo hi)/\Below w.heap.size w w7):=⟨hat7,H6.out.2.2.trans (ho7.below (by omega) H6.out.2.2.size)⟩
   clear h6 hl2 hat7 ho7;generalize hTT:FI M t lo hi=T at *;have HTT:Hid (FI M t lo hi=T):=hTT;clear hTT;go_wp2_with (refine AH rfl (.tmp 4) rfl rfl H6.out.1 ?_);try simp only[Exit.inBlock,Exit.then]
   refine bodyPost_ret (Ag rfl _ rfl H7.out.1) rfl ?_;exact⟨by rw[HTT.out],H7.out.2⟩
def Ak(t f i:Nat):Nat:=if i=2*t then f else if i=2*t+1 then opp f else i
def BK(t:Nat)(n:Int)(i:Nat):Int:=if i=2*t then n else if i=2*t+1 then -n else 0
def DO(M:Nat->Int)(t f:Nat)(n:Int):Nat->Nat->Int
 |0=>M
 |k+1=>Bw (DO M t f n k) k (pl (M (Ak t f (k/8)*8+Ak t f (k%8))) (BK t n (k/8)+BK t n (k%8)))
abbrev B4:TypeId:=87
def c8(F:Nat->Int):Array Value:=#[.int .i64 (F 0),.int .i64 (F 1),.int .i64 (F 2),.int .i64 (F 3),.int .i64 (F 4),.int .i64 (F 5),.int .i64 (F 6),.int .i64 (F 7)]
theorem DP(F:Nat->Int){i:Nat}(h:i<8):(c8 F)[i]?=some (.int .i64 (F i)):=by
 rcases(show i=0\/i=1\/i=2\/i=3\/i=4\/i=5\/i=6\/i=7 by omega)with rfl|rfl|rfl|rfl|rfl|rfl|rfl|rfl<;>rfl
theorem Cv{t f i:Nat}(hf:f<8)(hi:i<8):Ak t f i<8:=by
 unfold Ak;split
 ·exact hf
 ·split
  ·exact Ah hf
  ·exact hi
theorem Cm{t:Nat}{n:Int}(h: -999<=n/\n<=999)(i:Nat): -999<=BK t n i/\BK t n i<=999:=by
 unfold BK;split
 ·exact h
 ·split<;>omega
end Go.Proofs.YtffajooegiempaaGreatDoor
