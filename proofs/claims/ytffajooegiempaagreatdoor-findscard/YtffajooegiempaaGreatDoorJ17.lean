import Derived.Test.YtffajooegiempaaGreatDoorJ16
set_option maxRecDepth 100000
set_option maxHeartbeats 6400000
namespace Go.Proofs.YtffajooegiempaaGreatDoor
open Go.RowKit
variable {w:World}{e0:Bool}{M:Nat->Int}{b:Nat}
theorem S7(x:Ds)(hx:OY x)(k1:x.kind=1)(ha:x.any=false)(hS:Sm M):
  Calls Tryz.prog 82 #[B0 x,.agg (oc false M)] w λe w'=>e=.returned (.bool (DF false M x))/\Below w.heap.size w w':=by
 obtain⟨e0,he0⟩:∃e0:Bool,e0=false:=⟨_,rfl⟩
 rw[<-he0];obtain⟨w0,hw0⟩:∃w0,w0=(w.alloc (.cells (AD x) BB)).alloc (.cells (oc e0 M) tO):=⟨_,rfl⟩
 have H0:Hid (At w0 w.heap.size (AD x) BB/\AL w0 (w.heap.size+1) e0 M/\Below w.heap.size w w0/\w0.heap.size=w.heap.size+2):=by
  refine⟨by rw[hw0];exact At.allocH (At.new _ _ _) _,?_,by rw[hw0];exact((Below.refl _ _).alloc (Nat.le_refl _) _).alloc (by simp) _,by rw[hw0];simp⟩;have:=At.new (w.alloc (.cells (AD x) BB)) (oc e0 M) tO;rw[show(w.alloc (.cells (AD x) BB)).heap.size=w.heap.size+1 by simp]at this;rw[hw0];exact this
 have z0:w0.cell? ⟨w.heap.size+1,0,none⟩=some (.bool e0):=by rw[At.cell H0.out.2.1];exact Ib _ _
 have HB0:=H0.out.2.2.1;have HA0:=H0.out.2.1;subst he0;have HE0:Hid (DF false M x=(!x.any&&decide (FC M x.sg<=x.num))):=by show DF false M x=_;unfold DF;rw[if_neg (by decide),if_neg (by omega),if_pos k1]
 have HE:Hid (DF false M x=decide (FC M x.sg<=x.num)):=by show _=decide (FC M x.sg<=x.num);rw[HE0.out,ha];rfl
 have HGr:Hid (∀w1,Calls Tryz.prog 116 #[.agg (oc false M),v4 x.sg] w1 λe w'=>e=.returned (.int .i64 (FC M x.sg))/\Below w1.heap.size w1 w'):=λw1=>Fw x.sg hx.sg hS;have H2:Hid (At w0.drew w.heap.size (AD x) BB/\AL w0.drew (w.heap.size+1) false M/\Below w.heap.size w w0.drew):=⟨H0.out.1,H0.out.2.1,H0.out.2.2.1.drew⟩
 have d2:w0.drew.cell? ⟨w.heap.size,2,none⟩=some (.bool false):=by rw[<-ha];exact H0.out.1.cell 2
 have d3:w0.drew.cell? ⟨w.heap.size,3,none⟩=some (.int .i64 (AK x.sg 0)):=H0.out.1.cell 3;have d4:w0.drew.cell? ⟨w.heap.size,4,none⟩=some (.int .i64 (AK x.sg 1)):=H0.out.1.cell 4;have d5:w0.drew.cell? ⟨w.heap.size,5,none⟩=some (.int .i64 (AK x.sg 2)):=H0.out.1.cell 5;have d6:w0.drew.cell? ⟨w.heap.size,6,none⟩=some (.int .i64 (AK x.sg 3)):=H0.out.1.cell 6;have d7:w0.drew.cell? ⟨w.heap.size,7,none⟩=some (.int .i64 x.num):=H0.out.1.cell 7;have hl2:w.heap.size<w0.drew.heap.size:=by have:=H0.out.1.lt;exact this
 clear H0 HE0 hS;rw[hw0]at z0 HB0 HA0;unfold AD at z0 HB0 HA0;unfold B0;rw[k1,ha]at z0 HB0|-;unfold AD at hw0;rw[k1,ha]at hw0;generalize FC M x.sg=gr at *;go_enter Tryz.func82,Tryz.ntmps82;go_wp2_with fail;refine wp_region_any (by kernel_rfl) ?_;change wpAny _ _ _ _ _ _ _ (World.drew _);rw[<-hw0];clear hw0 z0 HB0 HA0;generalize w0.drew=w2 at *;refine wpAny_take (i:=0) (v:=.pointer (some ⟨w.heap.size,2,none⟩)) rfl (by kernel_rfl) (by kernel_rfl) (by kernel_rfl) (λ_ _ _ h=>h) (Or.inl ⟨by kernel_rfl,by intro w;go_simp⟩) ?_;refine wpAny_ready (rs:=[1]) (by kernel_rfl) (by simp) ?_;refine AllReady.cons rfl (λK hK=>?_) AllReady.nil;go_simp;refine hK _ _ ?_;clear hK K;refine wpAny_take (i:=2) (v:=.bool true) rfl (by kernel_rfl) (by kernel_rfl) (by kernel_rfl) (λ_ _ _ h=>h) (Or.inl ⟨by kernel_rfl,by intro w;go_simp⟩) ?_;refine wpAny_take (i:=3) (v:=.bool true) rfl (by kernel_rfl) (by kernel_rfl) (by kernel_rfl) (λ_ _ _ h=>h) (Or.inl ⟨by kernel_rfl,by intro w;go_simp⟩) ?_;refine wpAny_take (i:=5) (v:=.pointer (some ⟨w.heap.size,3,none⟩)) rfl (by kernel_rfl) (by kernel_rfl) (by kernel_rfl) (λ_ _ _ h=>h) (Or.inl ⟨by kernel_rfl,by intro w;go_simp⟩) ?_;refine wpAny_take (i:=8) (v:=.pointer (some ⟨w.heap.size,7,none⟩)) rfl (by kernel_rfl) (by kernel_rfl) (by kernel_rfl) (λ_ _ _ h=>h) (Or.inl ⟨by kernel_rfl,by intro w;go_simp⟩) ?_;refine wpAny_ready (rs:=[4,6,9]) (by kernel_rfl) (by simp) ?_;refine AllReady.cons rfl (λK hK=>?_) (AllReady.cons rfl (λK hK=>?_) (AllReady.cons rfl (λK hK=>?_) AllReady.nil))
 ·refine Dy (by first|rfl|simp[Region.wanted,yielded]) (.tmp 3) rfl rfl H2.out.2.1 ?_;refine hK _ _ ?_;clear hK K;refine wpAny_ready (rs:=[6,9]) (by kernel_rfl) (by simp) ?_;refine AllReady.cons rfl (λK hK=>?_) (AllReady.cons rfl (λK hK=>?_) AllReady.nil)
  ·go_simp;refine hK _ _ ?_;clear hK K;refine wpAny_ready (rs:=[7,9]) (by kernel_rfl) (by simp) ?_;refine AllReady.cons rfl (λK hK=>?_) (AllReady.cons rfl (λK hK=>?_) AllReady.nil)
   ·go_simp;go_wp2_with (go_at_call 116;refine(HGr.out _).mono ?_;rintro e w3 ⟨rfl,hb3⟩);have H3:Hid (Below w.heap.size w w3):=H2.out.2.2.trans (hb3.mono H2.out.2.2.size);have f7:w3.cell? ⟨w.heap.size,7,none⟩=some (.int .i64 x.num):=(hb3.cell (p:=⟨w.heap.size,7,none⟩) hl2).trans d7;clear hb3;refine wpAny_ready (rs:=[9]) (by kernel_rfl) (by simp) ?_;refine AllReady.cons rfl (λK hK=>?_) AllReady.nil;go_simp;refine hK _ _ ?_;clear hK K;refine wpAny_take (i:=10) (v:=.bool (decide (gr<=x.num))) rfl (by kernel_rfl) (by kernel_rfl) (by kernel_rfl) (λ_ _ _ h=>h) (Or.inl ⟨by kernel_rfl,by intro w;go_simp⟩) ?_;refine wpAny_take (i:=11) (v:=.bool (decide (gr<=x.num))) rfl (by kernel_rfl) (by kernel_rfl) (by kernel_rfl) (λ_ _ _ h=>h) (Or.inl ⟨by kernel_rfl,by intro w;go_simp⟩) ?_;refine wpAny_take (i:=12) (v:=.bool (decide (gr<=x.num))) rfl (by kernel_rfl) (by kernel_rfl) (by kernel_rfl) (λ_ _ _ h=>h) (Or.inl ⟨by kernel_rfl,by intro w;go_simp⟩) ?_;refine wpAny_done (by kernel_rfl) ?_ _;go_wp2_with fail;go_ret;exact⟨BM HE.out,H3.out⟩
   ·go_simp;refine hK _ _ ?_;clear hK K;refine wpAny_ready (rs:=[7]) (by kernel_rfl) (by simp) ?_;refine AllReady.cons rfl (λK hK=>?_) AllReady.nil;go_simp;go_wp2_with (go_at_call 116;refine(HGr.out _).mono ?_;rintro e w3 ⟨rfl,hb3⟩);have H3:Hid (Below w.heap.size w w3):=H2.out.2.2.trans (hb3.mono H2.out.2.2.size);have f7:w3.cell? ⟨w.heap.size,7,none⟩=some (.int .i64 x.num):=(hb3.cell (p:=⟨w.heap.size,7,none⟩) hl2).trans d7;clear hb3;refine wpAny_take (i:=10) (v:=.bool (decide (gr<=x.num))) rfl (by kernel_rfl) (by kernel_rfl) (by kernel_rfl) (λ_ _ _ h=>h) (Or.inl ⟨by kernel_rfl,by intro w;go_simp⟩) ?_;refine wpAny_take (i:=11) (v:=.bool (decide (gr<=x.num))) rfl (by kernel_rfl) (by kernel_rfl) (by kernel_rfl) (λ_ _ _ h=>h) (Or.inl ⟨by kernel_rfl,by intro w;go_simp⟩) ?_;refine wpAny_take (i:=12) (v:=.bool (decide (gr<=x.num))) rfl (by kernel_rfl) (by kernel_rfl) (by kernel_rfl) (λ_ _ _ h=>h) (Or.inl ⟨by kernel_rfl,by intro w;go_simp⟩) ?_;refine wpAny_done (by kernel_rfl) ?_ _;go_wp2_with fail;go_ret;exact⟨BM HE.out,H3.out⟩
  ·go_simp;refine hK _ _ ?_;clear hK K;refine wpAny_ready (rs:=[6]) (by kernel_rfl) (by simp) ?_;refine AllReady.cons rfl (λK hK=>?_) AllReady.nil;go_simp;refine hK _ _ ?_;clear hK K;refine wpAny_ready (rs:=[7]) (by kernel_rfl) (by simp) ?_;refine AllReady.cons rfl (λK hK=>?_) AllReady.nil;go_simp;go_wp2_with (go_at_call 116;refine(HGr.out _).mono ?_;rintro e w3 ⟨rfl,hb3⟩);have H3:Hid (Below w.heap.size w w3):=H2.out.2.2.trans (hb3.mono H2.out.2.2.size);have f7:w3.cell? ⟨w.heap.size,7,none⟩=some (.int .i64 x.num):=(hb3.cell (p:=⟨w.heap.size,7,none⟩) hl2).trans d7;clear hb3;refine wpAny_take (i:=10) (v:=.bool (decide (gr<=x.num))) rfl (by kernel_rfl) (by kernel_rfl) (by kernel_rfl) (λ_ _ _ h=>h) (Or.inl ⟨by kernel_rfl,by intro w;go_simp⟩) ?_;refine wpAny_take (i:=11) (v:=.bool (decide (gr<=x.num))) rfl (by kernel_rfl) (by kernel_rfl) (by kernel_rfl) (λ_ _ _ h=>h) (Or.inl ⟨by kernel_rfl,by intro w;go_simp⟩) ?_;refine wpAny_take (i:=12) (v:=.bool (decide (gr<=x.num))) rfl (by kernel_rfl) (by kernel_rfl) (by kernel_rfl) (λ_ _ _ h=>h) (Or.inl ⟨by kernel_rfl,by intro w;go_simp⟩) ?_;refine wpAny_done (by kernel_rfl) ?_ _;go_wp2_with fail;go_ret;exact⟨BM HE.out,H3.out⟩
 ·go_simp;refine hK _ _ ?_;clear hK K;refine wpAny_ready (rs:=[4,9]) (by kernel_rfl) (by simp) ?_;refine AllReady.cons rfl (λK hK=>?_) (AllReady.cons rfl (λK hK=>?_) AllReady.nil)
  ·refine Dy (by first|rfl|simp[Region.wanted,yielded]) (.tmp 3) rfl rfl H2.out.2.1 ?_;refine hK _ _ ?_;clear hK K;refine wpAny_ready (rs:=[7,9]) (by kernel_rfl) (by simp) ?_;refine AllReady.cons rfl (λK hK=>?_) (AllReady.cons rfl (λK hK=>?_) AllReady.nil)
   ·go_simp;go_wp2_with (go_at_call 116;refine(HGr.out _).mono ?_;rintro e w3 ⟨rfl,hb3⟩);have H3:Hid (Below w.heap.size w w3):=H2.out.2.2.trans (hb3.mono H2.out.2.2.size);have f7:w3.cell? ⟨w.heap.size,7,none⟩=some (.int .i64 x.num):=(hb3.cell (p:=⟨w.heap.size,7,none⟩) hl2).trans d7;clear hb3;refine wpAny_ready (rs:=[9]) (by kernel_rfl) (by simp) ?_;refine AllReady.cons rfl (λK hK=>?_) AllReady.nil;go_simp;refine hK _ _ ?_;clear hK K;refine wpAny_take (i:=10) (v:=.bool (decide (gr<=x.num))) rfl (by kernel_rfl) (by kernel_rfl) (by kernel_rfl) (λ_ _ _ h=>h) (Or.inl ⟨by kernel_rfl,by intro w;go_simp⟩) ?_;refine wpAny_take (i:=11) (v:=.bool (decide (gr<=x.num))) rfl (by kernel_rfl) (by kernel_rfl) (by kernel_rfl) (λ_ _ _ h=>h) (Or.inl ⟨by kernel_rfl,by intro w;go_simp⟩) ?_;refine wpAny_take (i:=12) (v:=.bool (decide (gr<=x.num))) rfl (by kernel_rfl) (by kernel_rfl) (by kernel_rfl) (λ_ _ _ h=>h) (Or.inl ⟨by kernel_rfl,by intro w;go_simp⟩) ?_;refine wpAny_done (by kernel_rfl) ?_ _;go_wp2_with fail;go_ret;exact⟨BM HE.out,H3.out⟩
   ·go_simp;refine hK _ _ ?_;clear hK K;refine wpAny_ready (rs:=[7]) (by kernel_rfl) (by simp) ?_;refine AllReady.cons rfl (λK hK=>?_) AllReady.nil;go_simp;go_wp2_with (go_at_call 116;refine(HGr.out _).mono ?_;rintro e w3 ⟨rfl,hb3⟩);have H3:Hid (Below w.heap.size w w3):=H2.out.2.2.trans (hb3.mono H2.out.2.2.size);have f7:w3.cell? ⟨w.heap.size,7,none⟩=some (.int .i64 x.num):=(hb3.cell (p:=⟨w.heap.size,7,none⟩) hl2).trans d7;clear hb3;refine wpAny_take (i:=10) (v:=.bool (decide (gr<=x.num))) rfl (by kernel_rfl) (by kernel_rfl) (by kernel_rfl) (λ_ _ _ h=>h) (Or.inl ⟨by kernel_rfl,by intro w;go_simp⟩) ?_;refine wpAny_take (i:=11) (v:=.bool (decide (gr<=x.num))) rfl (by kernel_rfl) (by kernel_rfl) (by kernel_rfl) (λ_ _ _ h=>h) (Or.inl ⟨by kernel_rfl,by intro w;go_simp⟩) ?_;refine wpAny_take (i:=12) (v:=.bool (decide (gr<=x.num))) rfl (by kernel_rfl) (by kernel_rfl) (by kernel_rfl) (λ_ _ _ h=>h) (Or.inl ⟨by kernel_rfl,by intro w;go_simp⟩) ?_;refine wpAny_done (by kernel_rfl) ?_ _;go_wp2_with fail;go_ret;exact⟨BM HE.out,H3.out⟩
  ·go_simp;refine hK _ _ ?_;clear hK K;refine wpAny_ready (rs:=[4]) (by kernel_rfl) (by simp) ?_;refine AllReady.cons rfl (λK hK=>?_) AllReady.nil;refine Dy (by first|rfl|simp[Region.wanted,yielded]) (.tmp 3) rfl rfl H2.out.2.1 ?_;refine hK _ _ ?_;clear hK K;refine wpAny_ready (rs:=[7]) (by kernel_rfl) (by simp) ?_;refine AllReady.cons rfl (λK hK=>?_) AllReady.nil;go_simp;go_wp2_with (go_at_call 116;refine(HGr.out _).mono ?_;rintro e w3 ⟨rfl,hb3⟩);have H3:Hid (Below w.heap.size w w3):=H2.out.2.2.trans (hb3.mono H2.out.2.2.size);have f7:w3.cell? ⟨w.heap.size,7,none⟩=some (.int .i64 x.num):=(hb3.cell (p:=⟨w.heap.size,7,none⟩) hl2).trans d7;clear hb3;refine wpAny_take (i:=10) (v:=.bool (decide (gr<=x.num))) rfl (by kernel_rfl) (by kernel_rfl) (by kernel_rfl) (λ_ _ _ h=>h) (Or.inl ⟨by kernel_rfl,by intro w;go_simp⟩) ?_;refine wpAny_take (i:=11) (v:=.bool (decide (gr<=x.num))) rfl (by kernel_rfl) (by kernel_rfl) (by kernel_rfl) (λ_ _ _ h=>h) (Or.inl ⟨by kernel_rfl,by intro w;go_simp⟩) ?_;refine wpAny_take (i:=12) (v:=.bool (decide (gr<=x.num))) rfl (by kernel_rfl) (by kernel_rfl) (by kernel_rfl) (λ_ _ _ h=>h) (Or.inl ⟨by kernel_rfl,by intro w;go_simp⟩) ?_;refine wpAny_done (by kernel_rfl) ?_ _;go_wp2_with fail;go_ret;exact⟨BM HE.out,H3.out⟩
 ·go_simp;refine hK _ _ ?_;clear hK K;refine wpAny_ready (rs:=[4,6]) (by kernel_rfl) (by simp) ?_;refine AllReady.cons rfl (λK hK=>?_) (AllReady.cons rfl (λK hK=>?_) AllReady.nil)
  ·refine Dy (by first|rfl|simp[Region.wanted,yielded]) (.tmp 3) rfl rfl H2.out.2.1 ?_;refine hK _ _ ?_;clear hK K;refine wpAny_ready (rs:=[6]) (by kernel_rfl) (by simp) ?_;refine AllReady.cons rfl (λK hK=>?_) AllReady.nil;go_simp;refine hK _ _ ?_;clear hK K;refine wpAny_ready (rs:=[7]) (by kernel_rfl) (by simp) ?_;refine AllReady.cons rfl (λK hK=>?_) AllReady.nil;go_simp;go_wp2_with (go_at_call 116;refine(HGr.out _).mono ?_;rintro e w3 ⟨rfl,hb3⟩);have H3:Hid (Below w.heap.size w w3):=H2.out.2.2.trans (hb3.mono H2.out.2.2.size);have f7:w3.cell? ⟨w.heap.size,7,none⟩=some (.int .i64 x.num):=(hb3.cell (p:=⟨w.heap.size,7,none⟩) hl2).trans d7;clear hb3;refine wpAny_take (i:=10) (v:=.bool (decide (gr<=x.num))) rfl (by kernel_rfl) (by kernel_rfl) (by kernel_rfl) (λ_ _ _ h=>h) (Or.inl ⟨by kernel_rfl,by intro w;go_simp⟩) ?_;refine wpAny_take (i:=11) (v:=.bool (decide (gr<=x.num))) rfl (by kernel_rfl) (by kernel_rfl) (by kernel_rfl) (λ_ _ _ h=>h) (Or.inl ⟨by kernel_rfl,by intro w;go_simp⟩) ?_;refine wpAny_take (i:=12) (v:=.bool (decide (gr<=x.num))) rfl (by kernel_rfl) (by kernel_rfl) (by kernel_rfl) (λ_ _ _ h=>h) (Or.inl ⟨by kernel_rfl,by intro w;go_simp⟩) ?_;refine wpAny_done (by kernel_rfl) ?_ _;go_wp2_with fail;go_ret;exact⟨BM HE.out,H3.out⟩
  ·go_simp;refine hK _ _ ?_;clear hK K;refine wpAny_ready (rs:=[4]) (by kernel_rfl) (by simp) ?_;refine AllReady.cons rfl (λK hK=>?_) AllReady.nil;refine Dy (by first|rfl|simp[Region.wanted,yielded]) (.tmp 3) rfl rfl H2.out.2.1 ?_;refine hK _ _ ?_;clear hK K;refine wpAny_ready (rs:=[7]) (by kernel_rfl) (by simp) ?_;refine AllReady.cons rfl (λK hK=>?_) AllReady.nil;go_simp;go_wp2_with (go_at_call 116;refine(HGr.out _).mono ?_;rintro e w3 ⟨rfl,hb3⟩);have H3:Hid (Below w.heap.size w w3):=H2.out.2.2.trans (hb3.mono H2.out.2.2.size);have f7:w3.cell? ⟨w.heap.size,7,none⟩=some (.int .i64 x.num):=(hb3.cell (p:=⟨w.heap.size,7,none⟩) hl2).trans d7;clear hb3;refine wpAny_take (i:=10) (v:=.bool (decide (gr<=x.num))) rfl (by kernel_rfl) (by kernel_rfl) (by kernel_rfl) (λ_ _ _ h=>h) (Or.inl ⟨by kernel_rfl,by intro w;go_simp⟩) ?_;refine wpAny_take (i:=11) (v:=.bool (decide (gr<=x.num))) rfl (by kernel_rfl) (by kernel_rfl) (by kernel_rfl) (λ_ _ _ h=>h) (Or.inl ⟨by kernel_rfl,by intro w;go_simp⟩) ?_;refine wpAny_take (i:=12) (v:=.bool (decide (gr<=x.num))) rfl (by kernel_rfl) (by kernel_rfl) (by kernel_rfl) (λ_ _ _ h=>h) (Or.inl ⟨by kernel_rfl,by intro w;go_simp⟩) ?_;refine wpAny_done (by kernel_rfl) ?_ _;go_wp2_with fail;go_ret;exact⟨BM HE.out,H3.out⟩
theorem O1(x:Ds)(hx:OY x)(hS:Sm M):
  Calls Tryz.prog 82 #[B0 x,.agg (oc e0 M)] w λe w'=>e=.returned (.bool (DF e0 M x))/\Below w.heap.size w w':=by
 obtain⟨w0,hw0⟩:∃w0,w0=(w.alloc (.cells (AD x) BB)).alloc (.cells (oc e0 M) tO):=⟨_,rfl⟩
 have H0:Hid (At w0 w.heap.size (AD x) BB/\AL w0 (w.heap.size+1) e0 M/\Below w.heap.size w w0/\w0.heap.size=w.heap.size+2):=by
  refine⟨by rw[hw0];exact At.allocH (At.new _ _ _) _,?_,by rw[hw0];exact((Below.refl _ _).alloc (Nat.le_refl _) _).alloc (by simp) _,by rw[hw0];simp⟩;have:=At.new (w.alloc (.cells (AD x) BB)) (oc e0 M) tO;rw[show(w.alloc (.cells (AD x) BB)).heap.size=w.heap.size+1 by simp]at this;rw[hw0];exact this
 have z0:w0.cell? ⟨w.heap.size+1,0,none⟩=some (.bool e0):=by rw[At.cell H0.out.2.1];exact Ib _ _
 have HB0:=H0.out.2.2.1;have HA0:=H0.out.2.1;cases e0 with
 |true=>
  have HE:Hid (DF true M x=true):=rfl;clear H0;rw[hw0]at z0 HB0 HA0;unfold AD at z0 HB0 HA0;unfold B0;clear hw0;go_enter Tryz.func82,Tryz.ntmps82;go_wp2_with fail;go_ret;exact⟨BM HE.out,HB0⟩
 |false=>
 by_cases k0:x.kind=0
 ·have HE0:Hid (DF false M x=(x.any||ftB M x.sg x.num)):=by show DF false M x=_;unfold DF;rw[if_neg (by decide),if_pos k0]
  cases ha:x.any with
  |true=>
   have HE:Hid (DF false M x=true):=by show _=true;rw[HE0.out,ha];rfl
   clear H0 HE0;rw[hw0]at z0 HB0 HA0;unfold AD at z0 HB0 HA0;unfold B0;clear hw0;rw[k0,ha]at z0 HB0|-;go_enter Tryz.func82,Tryz.ntmps82;go_wp2_with fail;go_ret;exact⟨BM HE.out,HB0⟩
  |false=>
   have HE:Hid (DF false M x=ftB M x.sg x.num):=by show _=ftB M x.sg x.num;rw[HE0.out,ha];rfl
   obtain⟨BW,hBW⟩:∃BW:World->Prop,BW=λw'=>Below w0.heap.size w0 w':=⟨_,rfl⟩
   have hf:Calls Tryz.prog 115 #[B0 x,.agg (oc false M)] w0 λe w'=>e=.returned (.bool (ftB M x.sg x.num))/\BW w':=by rw[hBW];exact Xf x hx hS
   rw[hw0]at hf;clear HE0 hS;rw[hw0]at z0 HB0 HA0;unfold AD at z0 HB0 HA0;unfold B0;unfold B0 AD at hf;generalize ftB M x.sg x.num=fb at *;rw[k0,ha]at z0 HB0 HA0 hf|-;go_enter Tryz.func82,Tryz.ntmps82;go_wp2_with (refine Gg (by first|rfl|simp[Region.wanted,yielded]) (.tmp 3) rfl rfl HA0 ?_);refine hf.mono ?_;rintro e w1 ⟨rfl,hb1⟩;rw[hBW]at hb1;have H1:Hid (Below w.heap.size w w1):=H0.out.2.2.1.trans (hb1.mono H0.out.2.2.1.size);clear hb1 hBW hf HA0 HB0 z0 hw0;go_wp2_with fail;go_ret;exact⟨BM HE.out,H1.out⟩
 by_cases k1:x.kind=1
 ·cases ha:x.any with
  |true=>exact S8 x k1 ha
  |false=>exact S7 x hx k1 ha hS
 ·have HE:Hid (DF false M x=true):=by show DF false M x=_;unfold DF;rw[if_neg (by decide),if_neg k0,if_neg k1]
  have b0:(x.kind==0)=false:=by simpa using k0
  have b1:(x.kind==1)=false:=by simpa using k1
  clear H0;rw[hw0]at z0 HB0 HA0;unfold AD at z0 HB0 HA0;unfold B0;clear hw0 k0 k1;go_enter Tryz.func82,Tryz.ntmps82;go_wp2_with fail;go_ret;exact⟨BM HE.out,HB0⟩
end Go.Proofs.YtffajooegiempaaGreatDoor
namespace Go.Proofs.YtffajooegiempaaGreatDoor
open Go.RowKit
variable {w w':World}{g cap:Nat}{F:List Ds}
theorem TE:∀(F:List Ds)(j o:Nat)(x:Ds),F[j]?=some x->o<10->(GE F)[j*10+o]?=(AD x).toList[o]?:=by
 intro F;induction F with
 |nil=>intro j o x h;simp at h
 |cons y F ih=>
  intro j o x h ho;have hl:(AD y).toList.length=10:=rfl;show((AD y).toList++GE F)[j*10+o]?=_;cases j with
  |zero=>
   simp at h;subst h;rw[List.getElem?_append_left (by rw[hl];omega)]
   congr 1;omega
  |succ j=>
   rw[List.getElem?_append_right (by rw[hl];omega),hl];rw[show(j+1)*10+o-10=j*10+o by omega];exact ih j o x (by simpa using h) ho
theorem Ee{B n:Nat}(h:w.ownsRow B BB 10 (.slice (some ⟨g,0,none⟩) n cap) n (GE F))(hn:F.length=n)(hlt:g<w.heap.size):Cc w g F:=by
 refine⟨hlt,λj x hx=>?_⟩;have hj:j<n:=by
  rw[<-hn];rcases Nat.lt_or_ge j F.length with h'|h'
  ·exact h'
  ·simp[List.getElem?_eq_none h']at hx
 have hc:∀o,o<10->w.cell? ⟨g,j*10+o,none⟩=(AD x).toList[o]?:=λo ho=>by
  rw[h.cellAt (j*10+o) (by omega),TE F j o x hx ho]
 exact⟨hc 0 (by omega),hc 1 (by omega),hc 2 (by omega),hc 3 (by omega),hc 4 (by omega),hc 5 (by omega),hc 6 (by omega),hc 7 (by omega),hc 8 (by omega),hc 9 (by omega)⟩
end Go.Proofs.YtffajooegiempaaGreatDoor
namespace Go.Proofs.YtffajooegiempaaGreatDoor
variable {s:ByteArray}{d:Nat×Bool}{m m':Rd}
structure Cl(s:ByteArray)(d:Nat×Bool)(m:Rd):Prop where
 ns:d.2=false
 le:d.1<=s.size
 fd:En CY ((AA s).take d.1)=some m
structure B8(s:ByteArray)(d:Nat×Bool):Prop where
 st:d.2=true
 ex:∃m,En CY ((AA s).take d.1)=some m/\d.1<=s.size/\(d.1<s.size->AM m ((AA s).getD d.1 0)=none)/\(d.1=s.size->BS m=false)
def JV(s:ByteArray)(d:Nat×Bool)(Q:Rd->Prop):Prop:=B8 s d\/∃m',Cl s d m'/\Q m'
theorem JV.mono{Q R:Rd->Prop}(h:JV s d Q)(k:∀m',Cl s d m'->Q m'->R m'):JV s d R:=by
 rcases h with h|⟨m',h,q⟩
 ·exact .inl h
 ·exact .inr ⟨m',h,k m' h q⟩
theorem Cl.aok(h:Cl s d m):Ok m:=Ok.init.feed h.fd
theorem Cl.apk(h:Cl s d m):pk s d=(AA s).getD d.1 0:=by unfold pk;rw[h.ns];rfl
theorem B8.dpk(h:B8 s d):pk s d=0:=by unfold pk;rw[h.st];rfl
theorem B8.dstk(h:B8 s d):Ez d=d:=by unfold Ez;rw[<-h.st]
theorem Cl.aadv(h:Cl s d m)(hne:pk s d≠0)(hb:AM m (pk s d)=some m'):Cl s (BA d) m':=by
 have hlt:=(DA rfl hne).1;refine⟨h.ns,by show d.1+1<=_;omega,?_⟩;show En CY ((AA s).take (d.1+1))=some m';rw[h.apk,List.getD_eq_getElem?_getD,Ck s d.1 hlt]at hb;rw[IG s d.1 hlt,Lc,h.fd];exact hb
theorem Cl.adead(h:Cl s d m)(hb:AM m (pk s d)=none)(hnd:d.1=s.size->BS m=false):B8 s (Ez d):=
 ⟨rfl,m,h.fd,h.le,λ_=>by rw[h.apk]at hb;exact hb,hnd⟩
theorem B8.dnd(h:B8 s d){c:Int}(hc:c≠0):nd s d c=d:=by
 unfold nd;rw[if_neg (by rw[h.dpk];exact λe=>hc e.symm)];exact h.dstk
theorem B8.dSign(h:B8 s d):BE s d=(1,d):=by unfold BE;rw[if_neg (by rw[h.dpk];decide)]
theorem Ki:CJ 0= -1:=by decide
theorem B8.dVar(h:B8 s d)(x:Int):Bq s d x=(0,d):=by unfold Bq;rw[if_pos (.inl (by rw[h.dpk];exact Ki)),h.dstk]
theorem B8.dNum(h:B8 s d)(x:Int):Bh s d x=(0,d):=by unfold Bh;rw[if_neg (by rw[h.dpk];simp),if_pos (by rw[h.dpk];decide),h.dstk]
theorem B8.dValue(h:B8 s d)(x:Ds):(Ao s d x).2=d:=by
 unfold Ao;rw[if_neg (by rw[h.dpk];decide),h.dSign,if_pos (by show CJ (pk s d)= -1;rw[h.dpk];exact Ki)];show(Bh s d 1).2=d;rw[h.dNum]
theorem B8.dSecond(h:B8 s d)(x:Ds)(f:Int):(Aw s d x f).2=d:=by unfold Aw;rw[if_neg (by rw[h.dpk];decide)]
theorem B8.dCond(h:B8 s d)(x:Ds):(BR s d x).2=d:=by
 unfold BR;rw[if_neg (by rw[h.dpk];decide),h.dSign];simp only;rw[h.dVar];simp only;rw[h.dSecond,h.dnd (by decide),h.dnd (by decide),h.dSign];simp only;rw[h.dNum]
theorem Cl.aneed(h:Cl s d m){c:Int}(hc:c≠0)(hy:pk s d=c->AM m c=some m')(hn:pk s d≠c->AM m (pk s d)=none)(hnd:BS m=false):JV s (nd s d c) (λx=>x=m'):=by
 by_cases e:pk s d=c
 ·have:nd s d c=BA d:=if_pos e;rw[this];exact .inr ⟨m',h.aadv (by rw[e];exact hc) (by rw[e];exact hy e),rfl⟩
 ·have:nd s d c=Ez d:=if_neg e;rw[this];exact .inl (h.adead (hn e) (λ_=>hnd))
theorem CT(h:m.state≠115):BS m=false:=by unfold BS;simp[h]
theorem J1(h:m.state=110)(c:Int):AM m c=if c=59 then some (CW m)else AT m c false 110:=by
 unfold AM AO;rw[h,if_neg (by decide),if_neg (by decide),if_pos (by decide),if_neg (by decide),if_neg (by decide),if_neg (by decide),if_neg (by decide)]
theorem Cl.valEnd(h:Cl s d m)(hs:m.state=110)(hno:¬(48<=pk s d/\pk s d<=57)\/m.dig=2\/(m.dig=1/\(cur m).num=0)):JV s (nd s d 59) (λx=>x=CW m):=by
 refine h.aneed (by decide) (λ_=>by rw[J1 hs,if_pos rfl]) (λe=>?_) (CT (by rw[hs];decide));rw[J1 hs,if_neg e];simp only[AT];rw[if_pos hs,if_pos hs,if_pos];omega
theorem Gm{c x:Int}{pos:Bool}(hs:m.state≠x)(hc:48<=c/\c<=57)(hp:¬(pos=true/\c=48)):AT m c pos x=some {AE m {cur m with num:=c-48}with dig:=1,state:=x}:=by
 simp only[AT]
 rw[if_neg hs,if_neg hs,if_neg (by
  rintro(a|a|a|a|a)
  ·omega
  ·omega
  ·omega
  ·omega
  ·exact hp a)]
 have:(10:Int)*0+(c-48)=c-48:=by omega
 rw[this];rfl
theorem J9{c x u:Int}(hs:m.state=x)(hd:m.dig=1)(hu:(cur m).num=u)(hu0:u≠0)(hc:48<=c/\c<=57):AT m c false x=some {AE m {cur m with num:=10*u+(c-48)}with dig:=2,state:=x}:=by
 simp only[AT]
 rw[if_pos hs,if_pos hs,hd,hu,if_neg (by
  rintro(a|a|a|a|a)
  ·omega
  ·omega
  ·omega
  ·omega
  ·simp at a)]
 rfl
theorem LW{c x:Int}{pos:Bool}(hc:c<48\/57<c\/(pos=true/\c=48)):AT m c pos x=none:=by
 simp only[AT];rw[if_pos];rcases hc with a|a|a
 ·exact .inl a
 ·exact .inr (.inl a)
 ·exact .inr (.inr (.inr (.inr a)))
theorem Bz(m:Rd)(a b:St):(AE (AE m a) b).st=(AE m b).st:=by simp[AE]
theorem Cl.numVal(h:Cl s d m){m0:Rd}{pos:Bool}{sg:Int}(hb:AM m (pk s d)=AT m0 (pk s d) pos 110)(hs:m0.state≠110)(hn:0<m0.st.length)(hsg:(sg=1/\pos=false)\/(sg= -1/\pos=true))(hnd:BS m=false):
  JV s (nd s (Bh s d sg).2 59) (λx=>x.state=115/\x.op=m0.op/\x.st=(AE m0 {cur m0 with num:=m0.sign*(sg*(Bh s d sg).1)}).st):=by
 have hsq:∀n:Int,sg*(sg*n)=n:=by
  intro n;rcases hsg with⟨rfl,_⟩|⟨rfl,_⟩<;>omega
 have hcs:=CD hn;by_cases hz:pk s d=48/\0<sg
 ·have e:Bh s d sg=(0,BA d):=if_pos hz;rw[e];have hp:pos=false:=by
   rcases hsg with h|h
   ·exact h.2
   ·omega
  rw[Gm hs (by omega) (by rw[hp];simp)]at hb;have h1:=h.aadv (by omega) hb;refine(h1.valEnd rfl (.inr (.inr ⟨rfl,?_⟩))).mono ?_
  ·show(cur (AE m0 _)).num=0;rw[hcs];show pk s d-48=0;omega
  ·rintro m'-rfl;refine⟨rfl,rfl,?_⟩;show(AE (AE m0 _) _).st=_;rw[Bz];show(AE m0 {cur (AE m0 _)with num:=m0.sign*(cur (AE m0 _)).num}).st=_;rw[hcs];have:pk s d-48=0:=by omega
   simp only[this];simp
 by_cases hbad:pk s d<49\/57<pk s d
 ·have e:Bh s d sg=(0,Ez d):=by unfold Bh;rw[if_neg hz,if_pos hbad]
  rw[e];have hd:B8 s (Ez d):=by
   refine h.adead ?_ (λ_=>hnd);rw[hb];refine LW ?_;by_cases h48:pk s d=48
   ·refine .inr (.inr ⟨?_,h48⟩);rcases hsg with h'|h'
    ·exact absurd ⟨h48,by omega⟩ hz
    ·exact h'.2
   ·omega
  show JV s (nd s (Ez d) 59) _;rw[hd.dnd (by decide)];exact .inl hd
 rw[Gm hs (by omega) (by omega)]at hb;have h1:=h.aadv (by omega) hb;have hn1:(cur {AE m0 {cur m0 with num:=pk s d-48}with dig:=1,state:=110}).num=pk s d-48:=by
  show(cur (AE m0 _)).num=_;rw[hcs]
 by_cases h2:48<=pk s (BA d)/\pk s (BA d)<=57
 ·have e:Bh s d sg=(sg*(10*(pk s d-48)+(pk s (BA d)-48)),BA (BA d)):=by unfold Bh;rw[if_neg hz,if_neg hbad,if_pos h2]
  rw[e];have hb2:=J1 (m:={AE m0 {cur m0 with num:=pk s d-48}with dig:=1,state:=110}) rfl (pk s (BA d));rw[if_neg (by omega),J9 rfl rfl hn1 (by omega) h2]at hb2;have h3:=h1.aadv (by omega) hb2;refine(h3.valEnd rfl (.inr (.inl rfl))).mono ?_;rintro m'-rfl;refine⟨rfl,rfl,?_⟩;have hl1:0<(AE m0 {cur m0 with num:=pk s d-48}).st.length:=by rw[BV];exact hn
  show(AE (AE (AE m0 _) _) {cur (AE (AE m0 _) _)with num:=m0.sign*(cur (AE (AE m0 _) _)).num}).st=_;rw[Bz,Bz,CD hl1];show(AE m0 {cur (AE m0 {cur m0 with num:=pk s d-48})with num:=m0.sign*(10*(pk s d-48)+(pk s (BA d)-48))}).st=_;rw[hcs,hsq]
 ·have e:Bh s d sg=(sg*(pk s d-48),BA d):=by unfold Bh;rw[if_neg hz,if_neg hbad,if_neg h2]
  rw[e];refine(h1.valEnd rfl (.inl h2)).mono ?_;rintro m'-rfl;refine⟨rfl,rfl,?_⟩;show(AE (AE m0 _) {cur (AE m0 _)with num:=m0.sign*(cur (AE m0 _)).num}).st=_;rw[Bz,hcs,hsq]
theorem QJ(h:m.state=59)(c:Int):AM m c=if c=59 then some {m with state:=115}else none:=by
 rw[Hh (.inl h)];unfold Ac;rw[if_pos h]
theorem Sn(h:m.state=118)(c:Int):AM m c=if c=42 then some {AE m {cur m with star:=true}with state:=59}else if c=45 then some {m with sign:= -1,state:=86}else if 97<=c/\c<=100 then some (Bp m (c-97).toNat 1 120)else AT {m with sign:=1} c false 110:=by
 rw[El (.inl h)];unfold AO;rw[if_pos h]
theorem Va(h:m.state=86)(c:Int):AM m c=if 97<=c/\c<=100 then some (Bp m (c-97).toNat m.sign 120)else AT m c true 110:=by
 rw[El (.inr (.inl h))];unfold AO;rw[h,if_neg (by decide),if_pos rfl]
theorem So(h:m.state=120)(c:Int):AM m c=if c=43 then some {m with sign:=1,state:=121}else if c=45 then some {m with sign:= -1,state:=121}else if c=59 then some (CW m)else none:=by
 rw[El (.inr (.inr (.inl h)))];unfold AO;rw[h,if_neg (by decide),if_neg (by decide),if_pos rfl]
theorem NV(h:m.state=121)(c:Int):AM m c=AT m c false 110:=by
 rw[El (.inr (.inr (.inr (.inl h))))];unfold AO;rw[h,if_neg (by decide),if_neg (by decide),if_neg (by decide),if_pos rfl]
theorem QL(h:m.state=61)(c:Int):AM m c=if c=61 then some {m with state:=118}else none:=by
 unfold AM;rw[h,if_neg (by decide),if_pos rfl]
theorem Dj{c:Int}(h:97<=c/\c<=100):CJ c=c-97:=if_pos h
theorem Ff{c:Int}(h:¬(97<=c/\c<=100)):CJ c= -1:=if_neg h
theorem Ik{a b:Rd}(h:a.st=b.st)(u:St):(AE a u).st=(AE b u).st:=by unfold AE;simp only;rw[h]
theorem S3{a b:Rd}(h:a.st=b.st):cur a=cur b:=by unfold cur;rw[h]
theorem Cl.summand(h:Cl s d m)(hs:m.state=120)(hz:(cur m).num=0):
  JV s (nd s (Az s d).2 59) (λx=>x.state=115/\x.op=m.op/\x.st=(AE m {cur m with num:=(Az s d).1}).st):=by
 have hn:0<m.st.length:=h.aok.some_ (by rw[hs];decide);have hb:=So hs (pk s d);have hnd:=CT (m:=m) (by rw[hs];decide);by_cases h43:pk s d=43
 ·have e:Az s d=Bh s (BA d) 1:=if_pos h43;rw[e];rw[if_pos h43]at hb;have h1:=h.aadv (by omega) hb;refine(h1.numVal (m0:={m with sign:=1,state:=121}) (pos:=false) (sg:=1) (NV rfl _) (by decide:(121:Int)≠110) hn (.inl ⟨rfl,rfl⟩) (CT (by decide:(121:Int)≠115))).mono ?_;rintro x-⟨a,b,c⟩;refine⟨a,b,c.trans ?_⟩;show(AE m {cur m with num:=1*(1*_)}).st=_;rw[Int.one_mul,Int.one_mul]
 by_cases h45:pk s d=45
 ·have e:Az s d=(-(Bh s (BA d) 1).1,(Bh s (BA d) 1).2):=by unfold Az;rw[if_neg h43,if_pos h45]
  rw[e];rw[if_neg h43,if_pos h45]at hb;have h1:=h.aadv (by omega) hb;refine(h1.numVal (m0:={m with sign:= -1,state:=121}) (pos:=false) (sg:=1) (NV rfl _) (by decide:(121:Int)≠110) hn (.inl ⟨rfl,rfl⟩) (CT (by decide:(121:Int)≠115))).mono ?_;rintro x-⟨a,b,c⟩;refine⟨a,b,c.trans ?_⟩;show(AE m {cur m with num:= -1*(1*_)}).st=_;rw[Int.one_mul,Int.neg_mul,Int.one_mul]
 ·have e:Az s d=(0,d):=by unfold Az;rw[if_neg h43,if_neg h45]
  rw[e];rw[if_neg h43,if_neg h45]at hb;refine(h.aneed (m':=CW m) (by decide) (λe=>by rw[e,if_pos rfl]at hb;exact hb) (λe=>by rw[if_neg e]at hb;exact hb) hnd).mono ?_;rintro x-rfl;refine⟨rfl,rfl,?_⟩;show(AE m {cur m with num:=m.sign*(cur m).num}).st=_;rw[hz,Int.mul_zero]
theorem Cl.value(h:Cl s d m)(hs:m.state=118)(hz:(cur m).num=0)(x:Ds)(hx:x.any=false/\x.sg=(cur m).sg/\x.num=0/\(cur m).star=false):
  JV s (nd s (Ao s d x).2 59) (λy=>y.state=115/\y.op=m.op/\y.st=(AE m {cur m with star:=(Ao s d x).1.any,sg:=(Ao s d x).1.sg,num:=(Ao s d x).1.num}).st):=by
 have hn:0<m.st.length:=h.aok.some_ (by rw[hs];decide);have hb:=Sn hs (pk s d);have hnd:=CT (m:=m) (by rw[hs];decide);obtain⟨hx1,hx2,hx3,hx4⟩:=hx;have hcs:=CD hn;by_cases h42:pk s d=42
 ·have e:Ao s d x=({x with any:=true},BA d):=if_pos h42;rw[e];rw[if_pos h42]at hb;have h1:=h.aadv (by omega) hb;refine(h1.aneed (c:=59) (m':={AE m {cur m with star:=true}with state:=115}) (by decide) (λe=>by rw[QJ rfl,if_pos rfl]) (λe=>by rw[QJ rfl,if_neg e]) (CT (by decide:(59:Int)≠115))).mono ?_;rintro y-rfl;refine⟨rfl,rfl,?_⟩;show(AE m {cur m with star:=true}).st=(AE m {cur m with star:=true,sg:=x.sg,num:=x.num}).st;rw[hx2,hx3,<-hz]
 rw[if_neg h42]at hb;by_cases h45:pk s d=45
 ·rw[if_pos h45]at hb;have h1:=h.aadv (by omega) hb;have eg:BE s d=(-1,BA d):=if_pos h45;have hb1:=Va (m:={m with sign:= -1,state:=86}) rfl (pk s (BA d));by_cases hv:97<=pk s (BA d)/\pk s (BA d)<=100
  ·have ev:Bq s (BA d) (-1)=(pk s (BA d)-97,BA (BA d)):=by unfold Bq;rw[Dj hv,if_neg (by omega)]
   have e:Ao s d x=({x with any:=false,sg:=x.sg.set (pk s (BA d)-97).toNat (-1),num:=(Az s (BA (BA d))).1},(Az s (BA (BA d))).2):=by
    unfold Ao;rw[if_neg h42,eg,if_neg (by show CJ (pk s (BA d))≠ -1;rw[Dj hv];omega)];simp only;rw[ev]
   rw[e];rw[if_pos hv]at hb1;have h2:=h1.aadv (by omega) hb1;refine(h2.summand rfl (by show(cur (AE m _)).num=0;rw[hcs];exact hz)).mono ?_;rintro y-⟨a,b,c⟩;refine⟨a,b,c.trans ?_⟩;show(AE (AE m _) {cur (AE m _)with num:=_}).st=_;rw[Bz,hcs];show(AE m {cur m with sg:=(cur m).sg.set _ (-1),num:=_}).st=(AE m {cur m with star:=false,sg:=x.sg.set _ (-1),num:=_}).st;rw[hx2,<-hx4]
  ·have e:Ao s d x=({x with any:=false,num:=(Bh s (BA d) (-1)).1},(Bh s (BA d) (-1)).2):=by
    unfold Ao;rw[if_neg h42,eg,if_pos (Ff hv)]
   rw[e];rw[if_neg hv]at hb1;refine(h1.numVal (m0:={m with sign:= -1,state:=86}) (pos:=true) (sg:= -1) hb1 (by decide:(86:Int)≠110) hn (.inr ⟨rfl,rfl⟩) (CT (by decide:(86:Int)≠115))).mono ?_;rintro y-⟨a,b,c⟩;refine⟨a,b,c.trans ?_⟩;show(AE m {cur m with num:= -1*(-1*_)}).st=(AE m {cur m with star:=false,sg:=x.sg,num:=_}).st;rw[hx2,<-hx4,Int.neg_mul,Int.neg_mul,Int.one_mul,Int.one_mul,Int.neg_neg]
 ·rw[if_neg h45]at hb;have eg:BE s d=(1,d):=if_neg h45;by_cases hv:97<=pk s d/\pk s d<=100
  ·have ev:Bq s d (-1)=(pk s d-97,BA d):=by unfold Bq;rw[Dj hv,if_neg (by omega)]
   have e:Ao s d x=({x with any:=false,sg:=x.sg.set (pk s d-97).toNat 1,num:=(Az s (BA d)).1},(Az s (BA d)).2):=by
    unfold Ao;rw[if_neg h42,eg,if_neg (by show CJ (pk s d)≠ -1;rw[Dj hv];omega)];simp only;rw[ev]
   rw[e];rw[if_pos hv]at hb;have h2:=h.aadv (by omega) hb;refine(h2.summand rfl (by show(cur (AE m _)).num=0;rw[hcs];exact hz)).mono ?_;rintro y-⟨a,b,c⟩;refine⟨a,b,c.trans ?_⟩;show(AE (AE m _) {cur (AE m _)with num:=_}).st=_;rw[Bz,hcs];show(AE m {cur m with sg:=(cur m).sg.set _ 1,num:=_}).st=(AE m {cur m with star:=false,sg:=x.sg.set _ 1,num:=_}).st;rw[hx2,<-hx4]
  ·have e:Ao s d x=({x with any:=false,num:=(Bh s d 1).1},(Bh s d 1).2):=by
    unfold Ao;rw[if_neg h42,eg,if_pos (Ff hv)]
   rw[e];rw[if_neg hv]at hb;refine(h.numVal (m0:={m with sign:=1}) (pos:=false) (sg:=1) hb (by show m.state≠110;rw[hs];decide) hn (.inl ⟨rfl,rfl⟩) hnd).mono ?_;rintro y-⟨a,b,c⟩;refine⟨a,b,c.trans ?_⟩;show(AE m {cur m with num:=1*(1*_)}).st=(AE m {cur m with star:=false,sg:=x.sg,num:=_}).st;rw[hx2,<-hx4,Int.one_mul,Int.one_mul]
def D6(m:Rd):List Bk:=if(cur m).kind=33 then m.op else m.op++[⟨m.st.length-1,false⟩]
theorem DG(m:Rd):AG m≠0/\AG m≠115:=by
 rcases Dh m with e|e<;>rw[e]<;>decide
theorem Lm{a:Rd}(hs:a.state=AG m)(hk:(cur m).kind=33\/a.op.length≠4):∃y,Ac a (AG m)=some y/\y.state=115/\y.st=a.st/\y.op=(if(cur m).kind=33 then a.op else a.op++[⟨a.st.length-1,false⟩]):=by
 unfold Ac;by_cases e:(cur m).kind=33
 ·have eb:AG m=59:=if_pos e;rw[if_pos (by rw[hs,eb]),if_pos eb];exact⟨_,rfl,rfl,rfl,by rw[if_pos e]⟩
 ·have eb:AG m=123:=if_neg e;rw[if_neg (by rw[hs,eb];decide),if_neg (by rw[eb];exact λh=>h.elim (λh=>h rfl) (λh=>hk.elim e (λk=>k h)))];exact⟨_,rfl,rfl,rfl,by rw[if_neg e]⟩
theorem N7{a:Rd}(hs:a.state=AG m){c:Int}(hc:c≠AG m):Ac a c=none:=by
 unfold Ac;rcases Dh m with e|e
 ·rw[if_pos (by rw[hs,e]),if_neg (by rw[<-e];exact hc)]
 ·rw[if_neg (by rw[hs,e];decide),if_pos (.inl (by rw[<-e];exact hc))]
def PH(m:Rd):Int:=if m.neg then -(cur m).num else(cur m).num
theorem NU(h:m.state=109)(c:Int):AM m c=if c=59\/c=123 then Ac {AE m {cur m with num:=PH m}with state:=AG m} c else AT m c false 109:=by
 rw[Cd (by rw[h];decide)];unfold AF;rw[h,if_neg (by decide),if_neg (by decide),if_neg (by decide),if_neg (by decide),if_neg (by decide),if_neg (by decide),if_neg (by decide),if_neg (by decide),if_pos rfl];rfl
theorem Cl.condEnd(h:Cl s d m)(hs:m.state=109)(hk:(cur m).kind=33\/m.op.length≠4)(hno:¬(48<=pk s d/\pk s d<=57)\/m.dig=2\/(m.dig=1/\(cur m).num=0)):
  JV s (nd s d (AG m)) (λx=>x.state=115/\x.st=(AE m {cur m with num:=PH m}).st/\x.op=D6 m):=by
 have hn:0<m.st.length:=h.aok.some_ (by rw[hs];decide);have hb:=NU hs (pk s d);obtain⟨y,hy,y1,y2,y3⟩:=Lm (m:=m) (a:={AE m {cur m with num:=PH m}with state:=AG m}) rfl hk;refine(h.aneed (m':=y) (DG m).1 (λe=>?_) (λe=>?_) (CT (by rw[hs];decide))).mono ?_
 ·rw[e,if_pos (Dh m),hy]at hb;exact hb
 ·rw[hb];by_cases e2:pk s d=59\/pk s d=123
  ·rw[if_pos e2];exact N7 rfl e
  ·rw[if_neg e2];simp only[AT];rw[if_pos hs,if_pos hs,if_pos];omega
 ·rintro x-rfl;refine⟨y1,y2,?_⟩;rw[y3];unfold D6;show(if(cur m).kind=33 then m.op else m.op++[⟨(AE m _).st.length-1,false⟩])=_;rw[BV]
theorem Cl.numCond(h:Cl s d m){pos:Bool}{sg:Int}(hb:AM m (pk s d)=AT m (pk s d) pos 109)(hs:m.state≠109/\m.state≠115)(hk:(cur m).kind=33\/m.op.length≠4)(hsg:(sg=1/\pos=false/\m.neg=false)\/(sg= -1/\pos=true/\m.neg=true)):
  JV s (nd s (Bh s d sg).2 (AG m)) (λx=>x.state=115/\x.st=(AE m {cur m with num:=(Bh s d sg).1}).st/\x.op=D6 m):=by
 have hn:0<m.st.length:=h.aok.some_ hs.2;have hneg:∀n:Int,(if m.neg then -n else n)=sg*n:=by
  intro n;rcases hsg with⟨rfl,_,e⟩|⟨rfl,_,e⟩<;>rw[e]<;>simp
 have hcs:=CD hn;have hbe:∀u:St,u.kind=(cur m).kind->AG (AE m u)=AG m:=λu hu=>by unfold AG;rw[hcs,hu]
 have hop:∀u:St,u.kind=(cur m).kind->D6 (AE m u)=D6 m:=λu hu=>by unfold D6;rw[hcs,hu,BV];rfl
 by_cases hz:pk s d=48/\0<sg
 ·have e:Bh s d sg=(0,BA d):=if_pos hz;rw[e];have hp:pos=false:=by
   rcases hsg with h|h
   ·exact h.2.1
   ·omega
  rw[Gm hs.1 (by omega) (by rw[hp];simp)]at hb;have h1:=h.aadv (by omega) hb;have e0:pk s d-48=0:=by omega
  have h2:=h1.condEnd rfl (by show(cur (AE m _)).kind=33\/_;rw[hcs];exact hk) (.inr (.inr ⟨rfl,by show(cur (AE m _)).num=0;rw[hcs];exact e0⟩));have eb:AG {AE m {cur m with num:=pk s d-48}with dig:=1,state:=109}=AG m:=hbe {cur m with num:=pk s d-48} rfl;rw[eb]at h2;refine h2.mono ?_;rintro x-⟨a,b,c⟩;refine⟨a,b.trans ?_,c.trans (hop {cur m with num:=pk s d-48} rfl)⟩;show(AE (AE m _) {cur (AE m _)with num:=if m.neg then -(cur (AE m _)).num else(cur (AE m _)).num}).st=_;rw[Bz,hcs,hneg,e0,Int.mul_zero]
 by_cases hbad:pk s d<49\/57<pk s d
 ·have e:Bh s d sg=(0,Ez d):=by unfold Bh;rw[if_neg hz,if_pos hbad]
  rw[e];have hd:B8 s (Ez d):=by
   refine h.adead ?_ (λ_=>CT hs.2);rw[hb];refine LW ?_;by_cases h48:pk s d=48
   ·refine .inr (.inr ⟨?_,h48⟩);rcases hsg with h'|h'
    ·exact absurd ⟨h48,by omega⟩ hz
    ·exact h'.2.1
   ·omega
  show JV s (nd s (Ez d) _) _;rw[hd.dnd (DG m).1];exact .inl hd
 rw[Gm hs.1 (by omega) (by omega)]at hb;have h1:=h.aadv (by omega) hb;have eb:AG {AE m {cur m with num:=pk s d-48}with dig:=1,state:=109}=AG m:=hbe {cur m with num:=pk s d-48} rfl;by_cases h2:48<=pk s (BA d)/\pk s (BA d)<=57
 ·have e:Bh s d sg=(sg*(10*(pk s d-48)+(pk s (BA d)-48)),BA (BA d)):=by unfold Bh;rw[if_neg hz,if_neg hbad,if_pos h2]
  rw[e];have hn1:(cur {AE m {cur m with num:=pk s d-48}with dig:=1,state:=109}).num=pk s d-48:=by
   show(cur (AE m _)).num=_;rw[hcs]
  have hb2:=NU (m:={AE m {cur m with num:=pk s d-48}with dig:=1,state:=109}) rfl (pk s (BA d));rw[if_neg (by omega),J9 rfl rfl hn1 (by omega) h2]at hb2;have h3:=h1.aadv (by omega) hb2;have hl1:0<(AE m {cur m with num:=pk s d-48}).st.length:=by rw[BV];exact hn
  have ec:cur (AE (AE m {cur m with num:=pk s d-48}) {cur (AE m {cur m with num:=pk s d-48})with num:=10*(pk s d-48)+(pk s (BA d)-48)})={cur m with num:=10*(pk s d-48)+(pk s (BA d)-48)}:=by
   rw[CD hl1,hcs]
  have h4:=h3.condEnd rfl (by show(cur (AE (AE m {cur m with num:=pk s d-48}) {cur (AE m {cur m with num:=pk s d-48})with num:=_})).kind=33\/_;rw[ec];exact hk) (.inr (.inl rfl));have eb2:AG {AE {AE m {cur m with num:=pk s d-48}with dig:=1,state:=109} {cur {AE m {cur m with num:=pk s d-48}with dig:=1,state:=109}with num:=10*(pk s d-48)+(pk s (BA d)-48)}with dig:=2,state:=109}=AG m:=by
   show AG (AE (AE m _) {cur (AE m _)with num:=_})=_;unfold AG;rw[ec]
  rw[eb2]at h4;refine h4.mono ?_;rintro x-⟨a,b,c⟩;refine⟨a,b.trans ?_,c.trans ?_⟩
  ·show(AE (AE (AE m _) {cur (AE m _)with num:=_}) {cur (AE (AE m _) {cur (AE m _)with num:=_})with num:=if m.neg then -(cur (AE (AE m _) {cur (AE m _)with num:=_})).num else(cur (AE (AE m _) {cur (AE m _)with num:=_})).num}).st=_;rw[Bz,Bz,ec,hneg]
  ·show D6 (AE (AE m _) {cur (AE m _)with num:=_})=_;unfold D6;rw[ec,BV,BV];rfl
 ·have e:Bh s d sg=(sg*(pk s d-48),BA d):=by unfold Bh;rw[if_neg hz,if_neg hbad,if_neg h2]
  rw[e];have h3:=h1.condEnd rfl (by show(cur (AE m _)).kind=33\/_;rw[hcs];exact hk) (.inl h2);rw[eb]at h3;refine h3.mono ?_;rintro x-⟨a,b,c⟩;refine⟨a,b.trans ?_,c.trans (hop {cur m with num:=pk s d-48} rfl)⟩;show(AE (AE m _) {cur (AE m _)with num:=if m.neg then -(cur (AE m _)).num else(cur (AE m _)).num}).st=_;rw[Bz,hcs,hneg]
end Go.Proofs.YtffajooegiempaaGreatDoor
