import Derived.Test.YtffajooegiempaaGreatDoorJ23
set_option maxRecDepth 100000
set_option maxHeartbeats 6400000
namespace Go.Proofs.YtffajooegiempaaGreatDoor
open Go.RowKit
variable {w:World}{e0:Bool}{M:Nat->Int}
theorem S6(x:Ds)(hx:OY x)(k0:¬x.kind=0)(ha:x.any=false)(way:Int)(hw:¬way=0)(hM:∀k,k<64-> -20000000000<=M k/\M k<=1000000):
  Calls Tryz.prog 80 #[B0 x,.int .i64 way,.agg (oc false M)] w λe w'=>e=.returned (.agg (oc (CA false M x way) (CE false M x way)))/\Below w.heap.size w w':=by
 have hz:=Bn;obtain⟨e0,he0⟩:∃e0:Bool,e0=false:=⟨_,rfl⟩
 rw[<-he0];obtain⟨w0,hw0⟩:∃w0,w0=((w.alloc (.cells (AD x) BB)).alloc (.cells (oc e0 M) tO)).alloc (.cells (oc false λ_=>0) tO):=⟨_,rfl⟩
 have H0:Hid (At w0 w.heap.size (AD x) BB/\AL w0 (w.heap.size+1) e0 M/\AL w0 (w.heap.size+2) false (λ_=>0)/\Below w.heap.size w w0/\w0.heap.size=w.heap.size+3):=by
  refine⟨by rw[hw0];exact At.allocH (At.allocH (At.new _ _ _) _) _,?_,?_,by rw[hw0];exact(((Below.refl _ _).alloc (Nat.le_refl _) _).alloc (by simp) _).alloc (by simp;omega) _,by rw[hw0];simp⟩
  ·have:=At.allocH (At.new (w.alloc (.cells (AD x) BB)) (oc e0 M) tO) (.cells (oc false λ_=>0) tO);rw[show(w.alloc (.cells (AD x) BB)).heap.size=w.heap.size+1 by simp]at this;rw[hw0];exact this
  ·have:=At.new ((w.alloc (.cells (AD x) BB)).alloc (.cells (oc e0 M) tO)) (oc false λ_=>0) tO;rw[show((w.alloc (.cells (AD x) BB)).alloc (.cells (oc e0 M) tO)).heap.size=w.heap.size+2 by simp]at this;rw[hw0];exact this
 have HA0:=H0.out.2.1;have z0:w0.cell? ⟨w.heap.size+1,0,none⟩=some (.bool e0):=by rw[At.cell H0.out.2.1];exact Ib _ _
 subst he0;obtain⟨n1,n2⟩:=hx.num;have hxs:=hx.sg;have HTu:Hid (∀w1,Calls Tryz.prog 114 #[v4 x.sg] w1 λe w'=>e=.returned (v4 (Dv x.sg))/\Below w1.heap.size w1 w'):=λw1=>Ng x.sg hx.sg;have HE0:Hid (CA false M x way=GJ false M (Dv x.sg) (-x.num-1)/\CE false M x way=E5 false M (Dv x.sg) (-x.num-1)):=by
  refine⟨?_,?_⟩
  ·unfold CA;rw[if_neg (by decide),if_neg k0,ha,if_neg (by decide),if_neg hw]
  ·unfold CE;rw[if_neg (by decide),if_neg k0,ha,if_neg (by decide),if_neg hw]
 obtain⟨e4,he4⟩:∃e4,e4=GJ false M (Dv x.sg) (-x.num-1):=⟨_,rfl⟩
 obtain⟨M4,hM4⟩:∃M4,M4=E5 false M (Dv x.sg) (-x.num-1):=⟨_,rfl⟩
 have HE:Hid (CA false M x way=e4/\CE false M x way=M4):=by rw[he4,hM4];exact HE0.out
 have HAt:Hid (∀w1,Calls Tryz.prog 113 #[.agg (oc false M),v4 (Dv x.sg),.int .i64 (-x.num-1)] w1 λe w'=>e=.returned (.agg (oc e4 M4))/\Below w1.heap.size w1 w'):=λw1=>by
  rw[he4,hM4];exact N0 hM (Dv x.sg) (DJ hx.sg) (-x.num-1) ⟨by omega,by omega⟩
 have H2:Hid (At w0.drew w.heap.size (AD x) BB/\AL w0.drew (w.heap.size+1) false M/\AL w0.drew (w.heap.size+2) false (λ_=>0)/\Below w.heap.size w w0.drew):=⟨H0.out.1,H0.out.2.1,H0.out.2.2.1,H0.out.2.2.2.1.drew⟩
 have d3:w0.drew.cell? ⟨w.heap.size,3,none⟩=some (.int .i64 (AK x.sg 0)):=H0.out.1.cell 3;have d4:w0.drew.cell? ⟨w.heap.size,4,none⟩=some (.int .i64 (AK x.sg 1)):=H0.out.1.cell 4;have d5:w0.drew.cell? ⟨w.heap.size,5,none⟩=some (.int .i64 (AK x.sg 2)):=H0.out.1.cell 5;have d6:w0.drew.cell? ⟨w.heap.size,6,none⟩=some (.int .i64 (AK x.sg 3)):=H0.out.1.cell 6;have d7:w0.drew.cell? ⟨w.heap.size,7,none⟩=some (.int .i64 x.num):=H0.out.1.cell 7;have hl2:w.heap.size<w0.drew.heap.size:=by have:=H0.out.1.lt;exact this
 have hwn1:IntKind.i64.wrap (-x.num)= -x.num:=by rw[IntKind.wrap_i64];omega
 have hwn2:IntKind.i64.wrap (-x.num-1)= -x.num-1:=by rw[IntKind.wrap_i64];omega
 have b0:(x.kind==0)=false:=by simpa using k0
 have b1:(way==0)=false:=by simpa using hw
 rw[hw0]at z0;unfold AD at z0 hw0;unfold B0;rw[ha]at z0 hw0|-;clear HE0 hM he4 hM4 H0 k0 hw HA0 hx hxs;go_enter Tryz.func80,Tryz.ntmps80;go_wp2_with fail;refine wp_region_any (by kernel_rfl) ?_;change wpAny _ _ _ _ _ _ _ (World.drew _);rw[<-hw0];clear hw0 z0;generalize w0.drew=w2 at *;refine wpAny_take (i:=1) (v:=.pointer (some ⟨w.heap.size,3,none⟩)) rfl (by kernel_rfl) (by kernel_rfl) (by kernel_rfl) (λ_ _ _ h=>h) (Or.inl ⟨by kernel_rfl,by intro w;go_simp⟩) ?_;refine wpAny_take (i:=4) (v:=.pointer (some ⟨w.heap.size,7,none⟩)) rfl (by kernel_rfl) (by kernel_rfl) (by kernel_rfl) (λ_ _ _ h=>h) (Or.inl ⟨by kernel_rfl,by intro w;go_simp⟩) ?_;refine wpAny_ready (rs:=[0,2,5]) (by kernel_rfl) (by simp) ?_;refine AllReady.cons rfl (λK hK=>?_) (AllReady.cons rfl (λK hK=>?_) (AllReady.cons rfl (λK hK=>?_) AllReady.nil))
 ·refine AX rfl (.tmp 5) rfl rfl H2.out.2.1 ?_;refine hK _ _ ?_;clear hK K;refine wpAny_ready (rs:=[2,5]) (by kernel_rfl) (by simp) ?_;refine AllReady.cons rfl (λK hK=>?_) (AllReady.cons rfl (λK hK=>?_) AllReady.nil)
  ·go_simp;refine hK _ _ ?_;clear hK K;refine wpAny_ready (rs:=[3,5]) (by kernel_rfl) (by simp) ?_;refine AllReady.cons rfl (λK hK=>?_) (AllReady.cons rfl (λK hK=>?_) AllReady.nil)
   ·go_simp;go_wp2_with (go_at_call 114;refine(HTu.out _).mono ?_;rintro e w3 ⟨rfl,hb3⟩);have H3:Hid (AL w3 (w.heap.size+1) false M/\AL w3 (w.heap.size+2) false (λ_=>0)/\Below w.heap.size w w3):=⟨At.keep H2.out.2.1 hb3 (At.lt H2.out.2.1),At.keep H2.out.2.2.1 hb3 (At.lt H2.out.2.2.1),H2.out.2.2.2.trans (hb3.mono H2.out.2.2.2.size)⟩
    have f7:w3.cell? ⟨w.heap.size,7,none⟩=some (.int .i64 x.num):=(hb3.cell (p:=⟨w.heap.size,7,none⟩) hl2).trans d7;have hl3:w.heap.size<w3.heap.size:=Nat.lt_of_lt_of_le hl2 hb3.size;clear hb3;refine wpAny_ready (rs:=[5]) (by kernel_rfl) (by simp) ?_;refine AllReady.cons rfl (λK hK=>?_) AllReady.nil;go_simp;refine hK _ _ ?_;clear hK K;refine wpAny_take (i:=6) (v:=.int .i64 (-x.num)) rfl (by kernel_rfl) (by kernel_rfl) (by kernel_rfl) (λ_ _ _ h=>h) (Or.inl ⟨by kernel_rfl,by intro w;go_simp⟩) ?_;refine wpAny_take (i:=7) (v:=.int .i64 (-x.num-1)) rfl (by kernel_rfl) (by kernel_rfl) (by kernel_rfl) (λ_ _ _ h=>h) (Or.inl ⟨by kernel_rfl,by intro w;go_simp⟩) ?_;refine wpAny_ready (rs:=[8]) (by kernel_rfl) (by simp) ?_;refine AllReady.cons rfl (λK hK=>?_) AllReady.nil;go_simp;go_wp2_with (go_at_call 113;refine(HAt.out _).mono ?_;rintro e w4 ⟨rfl,hb4⟩);have H4:Hid (AL w4 (w.heap.size+2) false (λ_=>0)/\Below w.heap.size w w4):=⟨At.keep H3.out.2.1 hb4 (At.lt H3.out.2.1),H3.out.2.2.trans (hb4.mono H3.out.2.2.size)⟩
    clear hb4;obtain⟨w7,hst7,hat7,ho7⟩:=Al H4.out.1 e4 M4;have H7:Hid (AL w7 (w.heap.size+2) e4 M4/\Below w.heap.size w w7):=⟨hat7,H4.out.2.trans (ho7.below (by omega) H4.out.2.size)⟩
    clear hat7 ho7;refine wpAny_ready (rs:=[9]) (by kernel_rfl) (by simp) ?_;refine AllReady.cons rfl (λK hK=>?_) AllReady.nil;go_simp;refine hK _ _ ?_;clear hK K;refine wpAny_done (by kernel_rfl) ?_ _;go_wp2_with fail;try simp only[Exit.inBlock,Exit.then]
    refine bodyPost_ret (Ag rfl _ rfl H7.out.1) rfl ?_;exact⟨by rw[HE.out.1,HE.out.2],H7.out.2⟩
   ·go_simp;refine hK _ _ ?_;clear hK K;refine wpAny_take (i:=6) (v:=.int .i64 (-x.num)) rfl (by kernel_rfl) (by kernel_rfl) (by kernel_rfl) (λ_ _ _ h=>h) (Or.inl ⟨by kernel_rfl,by intro w;go_simp⟩) ?_;refine wpAny_take (i:=7) (v:=.int .i64 (-x.num-1)) rfl (by kernel_rfl) (by kernel_rfl) (by kernel_rfl) (λ_ _ _ h=>h) (Or.inl ⟨by kernel_rfl,by intro w;go_simp⟩) ?_;refine wpAny_ready (rs:=[3]) (by kernel_rfl) (by simp) ?_;refine AllReady.cons rfl (λK hK=>?_) AllReady.nil;go_simp;go_wp2_with (go_at_call 114;refine(HTu.out _).mono ?_;rintro e w3 ⟨rfl,hb3⟩);have H3:Hid (AL w3 (w.heap.size+1) false M/\AL w3 (w.heap.size+2) false (λ_=>0)/\Below w.heap.size w w3):=⟨At.keep H2.out.2.1 hb3 (At.lt H2.out.2.1),At.keep H2.out.2.2.1 hb3 (At.lt H2.out.2.2.1),H2.out.2.2.2.trans (hb3.mono H2.out.2.2.2.size)⟩
    have f7:w3.cell? ⟨w.heap.size,7,none⟩=some (.int .i64 x.num):=(hb3.cell (p:=⟨w.heap.size,7,none⟩) hl2).trans d7;have hl3:w.heap.size<w3.heap.size:=Nat.lt_of_lt_of_le hl2 hb3.size;clear hb3;refine wpAny_ready (rs:=[8]) (by kernel_rfl) (by simp) ?_;refine AllReady.cons rfl (λK hK=>?_) AllReady.nil;go_simp;go_wp2_with (go_at_call 113;refine(HAt.out _).mono ?_;rintro e w4 ⟨rfl,hb4⟩);have H4:Hid (AL w4 (w.heap.size+2) false (λ_=>0)/\Below w.heap.size w w4):=⟨At.keep H3.out.2.1 hb4 (At.lt H3.out.2.1),H3.out.2.2.trans (hb4.mono H3.out.2.2.size)⟩
    clear hb4;obtain⟨w7,hst7,hat7,ho7⟩:=Al H4.out.1 e4 M4;have H7:Hid (AL w7 (w.heap.size+2) e4 M4/\Below w.heap.size w w7):=⟨hat7,H4.out.2.trans (ho7.below (by omega) H4.out.2.size)⟩
    clear hat7 ho7;refine wpAny_ready (rs:=[9]) (by kernel_rfl) (by simp) ?_;refine AllReady.cons rfl (λK hK=>?_) AllReady.nil;go_simp;refine hK _ _ ?_;clear hK K;refine wpAny_done (by kernel_rfl) ?_ _;go_wp2_with fail;try simp only[Exit.inBlock,Exit.then]
    refine bodyPost_ret (Ag rfl _ rfl H7.out.1) rfl ?_;exact⟨by rw[HE.out.1,HE.out.2],H7.out.2⟩
  ·go_simp;refine hK _ _ ?_;clear hK K;refine wpAny_take (i:=6) (v:=.int .i64 (-x.num)) rfl (by kernel_rfl) (by kernel_rfl) (by kernel_rfl) (λ_ _ _ h=>h) (Or.inl ⟨by kernel_rfl,by intro w;go_simp⟩) ?_;refine wpAny_take (i:=7) (v:=.int .i64 (-x.num-1)) rfl (by kernel_rfl) (by kernel_rfl) (by kernel_rfl) (λ_ _ _ h=>h) (Or.inl ⟨by kernel_rfl,by intro w;go_simp⟩) ?_;refine wpAny_ready (rs:=[2]) (by kernel_rfl) (by simp) ?_;refine AllReady.cons rfl (λK hK=>?_) AllReady.nil;go_simp;refine hK _ _ ?_;clear hK K;refine wpAny_ready (rs:=[3]) (by kernel_rfl) (by simp) ?_;refine AllReady.cons rfl (λK hK=>?_) AllReady.nil;go_simp;go_wp2_with (go_at_call 114;refine(HTu.out _).mono ?_;rintro e w3 ⟨rfl,hb3⟩);have H3:Hid (AL w3 (w.heap.size+1) false M/\AL w3 (w.heap.size+2) false (λ_=>0)/\Below w.heap.size w w3):=⟨At.keep H2.out.2.1 hb3 (At.lt H2.out.2.1),At.keep H2.out.2.2.1 hb3 (At.lt H2.out.2.2.1),H2.out.2.2.2.trans (hb3.mono H2.out.2.2.2.size)⟩
   have f7:w3.cell? ⟨w.heap.size,7,none⟩=some (.int .i64 x.num):=(hb3.cell (p:=⟨w.heap.size,7,none⟩) hl2).trans d7;have hl3:w.heap.size<w3.heap.size:=Nat.lt_of_lt_of_le hl2 hb3.size;clear hb3;refine wpAny_ready (rs:=[8]) (by kernel_rfl) (by simp) ?_;refine AllReady.cons rfl (λK hK=>?_) AllReady.nil;go_simp;go_wp2_with (go_at_call 113;refine(HAt.out _).mono ?_;rintro e w4 ⟨rfl,hb4⟩);have H4:Hid (AL w4 (w.heap.size+2) false (λ_=>0)/\Below w.heap.size w w4):=⟨At.keep H3.out.2.1 hb4 (At.lt H3.out.2.1),H3.out.2.2.trans (hb4.mono H3.out.2.2.size)⟩
   clear hb4;obtain⟨w7,hst7,hat7,ho7⟩:=Al H4.out.1 e4 M4;have H7:Hid (AL w7 (w.heap.size+2) e4 M4/\Below w.heap.size w w7):=⟨hat7,H4.out.2.trans (ho7.below (by omega) H4.out.2.size)⟩
   clear hat7 ho7;refine wpAny_ready (rs:=[9]) (by kernel_rfl) (by simp) ?_;refine AllReady.cons rfl (λK hK=>?_) AllReady.nil;go_simp;refine hK _ _ ?_;clear hK K;refine wpAny_done (by kernel_rfl) ?_ _;go_wp2_with fail;try simp only[Exit.inBlock,Exit.then]
   refine bodyPost_ret (Ag rfl _ rfl H7.out.1) rfl ?_;exact⟨by rw[HE.out.1,HE.out.2],H7.out.2⟩
 ·go_simp;refine hK _ _ ?_;clear hK K;refine wpAny_ready (rs:=[0,3,5]) (by kernel_rfl) (by simp) ?_;refine AllReady.cons rfl (λK hK=>?_) (AllReady.cons rfl (λK hK=>?_) (AllReady.cons rfl (λK hK=>?_) AllReady.nil))
  ·refine AX rfl (.tmp 5) rfl rfl H2.out.2.1 ?_;refine hK _ _ ?_;clear hK K;refine wpAny_ready (rs:=[3,5]) (by kernel_rfl) (by simp) ?_;refine AllReady.cons rfl (λK hK=>?_) (AllReady.cons rfl (λK hK=>?_) AllReady.nil)
   ·go_simp;go_wp2_with (go_at_call 114;refine(HTu.out _).mono ?_;rintro e w3 ⟨rfl,hb3⟩);have H3:Hid (AL w3 (w.heap.size+1) false M/\AL w3 (w.heap.size+2) false (λ_=>0)/\Below w.heap.size w w3):=⟨At.keep H2.out.2.1 hb3 (At.lt H2.out.2.1),At.keep H2.out.2.2.1 hb3 (At.lt H2.out.2.2.1),H2.out.2.2.2.trans (hb3.mono H2.out.2.2.2.size)⟩
    have f7:w3.cell? ⟨w.heap.size,7,none⟩=some (.int .i64 x.num):=(hb3.cell (p:=⟨w.heap.size,7,none⟩) hl2).trans d7;have hl3:w.heap.size<w3.heap.size:=Nat.lt_of_lt_of_le hl2 hb3.size;clear hb3;refine wpAny_ready (rs:=[5]) (by kernel_rfl) (by simp) ?_;refine AllReady.cons rfl (λK hK=>?_) AllReady.nil;go_simp;refine hK _ _ ?_;clear hK K;refine wpAny_take (i:=6) (v:=.int .i64 (-x.num)) rfl (by kernel_rfl) (by kernel_rfl) (by kernel_rfl) (λ_ _ _ h=>h) (Or.inl ⟨by kernel_rfl,by intro w;go_simp⟩) ?_;refine wpAny_take (i:=7) (v:=.int .i64 (-x.num-1)) rfl (by kernel_rfl) (by kernel_rfl) (by kernel_rfl) (λ_ _ _ h=>h) (Or.inl ⟨by kernel_rfl,by intro w;go_simp⟩) ?_;refine wpAny_ready (rs:=[8]) (by kernel_rfl) (by simp) ?_;refine AllReady.cons rfl (λK hK=>?_) AllReady.nil;go_simp;go_wp2_with (go_at_call 113;refine(HAt.out _).mono ?_;rintro e w4 ⟨rfl,hb4⟩);have H4:Hid (AL w4 (w.heap.size+2) false (λ_=>0)/\Below w.heap.size w w4):=⟨At.keep H3.out.2.1 hb4 (At.lt H3.out.2.1),H3.out.2.2.trans (hb4.mono H3.out.2.2.size)⟩
    clear hb4;obtain⟨w7,hst7,hat7,ho7⟩:=Al H4.out.1 e4 M4;have H7:Hid (AL w7 (w.heap.size+2) e4 M4/\Below w.heap.size w w7):=⟨hat7,H4.out.2.trans (ho7.below (by omega) H4.out.2.size)⟩
    clear hat7 ho7;refine wpAny_ready (rs:=[9]) (by kernel_rfl) (by simp) ?_;refine AllReady.cons rfl (λK hK=>?_) AllReady.nil;go_simp;refine hK _ _ ?_;clear hK K;refine wpAny_done (by kernel_rfl) ?_ _;go_wp2_with fail;try simp only[Exit.inBlock,Exit.then]
    refine bodyPost_ret (Ag rfl _ rfl H7.out.1) rfl ?_;exact⟨by rw[HE.out.1,HE.out.2],H7.out.2⟩
   ·go_simp;refine hK _ _ ?_;clear hK K;refine wpAny_take (i:=6) (v:=.int .i64 (-x.num)) rfl (by kernel_rfl) (by kernel_rfl) (by kernel_rfl) (λ_ _ _ h=>h) (Or.inl ⟨by kernel_rfl,by intro w;go_simp⟩) ?_;refine wpAny_take (i:=7) (v:=.int .i64 (-x.num-1)) rfl (by kernel_rfl) (by kernel_rfl) (by kernel_rfl) (λ_ _ _ h=>h) (Or.inl ⟨by kernel_rfl,by intro w;go_simp⟩) ?_;refine wpAny_ready (rs:=[3]) (by kernel_rfl) (by simp) ?_;refine AllReady.cons rfl (λK hK=>?_) AllReady.nil;go_simp;go_wp2_with (go_at_call 114;refine(HTu.out _).mono ?_;rintro e w3 ⟨rfl,hb3⟩);have H3:Hid (AL w3 (w.heap.size+1) false M/\AL w3 (w.heap.size+2) false (λ_=>0)/\Below w.heap.size w w3):=⟨At.keep H2.out.2.1 hb3 (At.lt H2.out.2.1),At.keep H2.out.2.2.1 hb3 (At.lt H2.out.2.2.1),H2.out.2.2.2.trans (hb3.mono H2.out.2.2.2.size)⟩
    have f7:w3.cell? ⟨w.heap.size,7,none⟩=some (.int .i64 x.num):=(hb3.cell (p:=⟨w.heap.size,7,none⟩) hl2).trans d7;have hl3:w.heap.size<w3.heap.size:=Nat.lt_of_lt_of_le hl2 hb3.size;clear hb3;refine wpAny_ready (rs:=[8]) (by kernel_rfl) (by simp) ?_;refine AllReady.cons rfl (λK hK=>?_) AllReady.nil;go_simp;go_wp2_with (go_at_call 113;refine(HAt.out _).mono ?_;rintro e w4 ⟨rfl,hb4⟩);have H4:Hid (AL w4 (w.heap.size+2) false (λ_=>0)/\Below w.heap.size w w4):=⟨At.keep H3.out.2.1 hb4 (At.lt H3.out.2.1),H3.out.2.2.trans (hb4.mono H3.out.2.2.size)⟩
    clear hb4;obtain⟨w7,hst7,hat7,ho7⟩:=Al H4.out.1 e4 M4;have H7:Hid (AL w7 (w.heap.size+2) e4 M4/\Below w.heap.size w w7):=⟨hat7,H4.out.2.trans (ho7.below (by omega) H4.out.2.size)⟩
    clear hat7 ho7;refine wpAny_ready (rs:=[9]) (by kernel_rfl) (by simp) ?_;refine AllReady.cons rfl (λK hK=>?_) AllReady.nil;go_simp;refine hK _ _ ?_;clear hK K;refine wpAny_done (by kernel_rfl) ?_ _;go_wp2_with fail;try simp only[Exit.inBlock,Exit.then]
    refine bodyPost_ret (Ag rfl _ rfl H7.out.1) rfl ?_;exact⟨by rw[HE.out.1,HE.out.2],H7.out.2⟩
  ·go_simp;go_wp2_with (go_at_call 114;refine(HTu.out _).mono ?_;rintro e w3 ⟨rfl,hb3⟩);have H3:Hid (AL w3 (w.heap.size+1) false M/\AL w3 (w.heap.size+2) false (λ_=>0)/\Below w.heap.size w w3):=⟨At.keep H2.out.2.1 hb3 (At.lt H2.out.2.1),At.keep H2.out.2.2.1 hb3 (At.lt H2.out.2.2.1),H2.out.2.2.2.trans (hb3.mono H2.out.2.2.2.size)⟩
   have f7:w3.cell? ⟨w.heap.size,7,none⟩=some (.int .i64 x.num):=(hb3.cell (p:=⟨w.heap.size,7,none⟩) hl2).trans d7;have hl3:w.heap.size<w3.heap.size:=Nat.lt_of_lt_of_le hl2 hb3.size;clear hb3;refine wpAny_ready (rs:=[0,5]) (by kernel_rfl) (by simp) ?_;refine AllReady.cons rfl (λK hK=>?_) (AllReady.cons rfl (λK hK=>?_) AllReady.nil)
   ·refine AX rfl (.tmp 5) rfl rfl H3.out.1 ?_;refine hK _ _ ?_;clear hK K;refine wpAny_ready (rs:=[5]) (by kernel_rfl) (by simp) ?_;refine AllReady.cons rfl (λK hK=>?_) AllReady.nil;go_simp;refine hK _ _ ?_;clear hK K;refine wpAny_take (i:=6) (v:=.int .i64 (-x.num)) rfl (by kernel_rfl) (by kernel_rfl) (by kernel_rfl) (λ_ _ _ h=>h) (Or.inl ⟨by kernel_rfl,by intro w;go_simp⟩) ?_;refine wpAny_take (i:=7) (v:=.int .i64 (-x.num-1)) rfl (by kernel_rfl) (by kernel_rfl) (by kernel_rfl) (λ_ _ _ h=>h) (Or.inl ⟨by kernel_rfl,by intro w;go_simp⟩) ?_;refine wpAny_ready (rs:=[8]) (by kernel_rfl) (by simp) ?_;refine AllReady.cons rfl (λK hK=>?_) AllReady.nil;go_simp;go_wp2_with (go_at_call 113;refine(HAt.out _).mono ?_;rintro e w4 ⟨rfl,hb4⟩);have H4:Hid (AL w4 (w.heap.size+2) false (λ_=>0)/\Below w.heap.size w w4):=⟨At.keep H3.out.2.1 hb4 (At.lt H3.out.2.1),H3.out.2.2.trans (hb4.mono H3.out.2.2.size)⟩
    clear hb4;obtain⟨w7,hst7,hat7,ho7⟩:=Al H4.out.1 e4 M4;have H7:Hid (AL w7 (w.heap.size+2) e4 M4/\Below w.heap.size w w7):=⟨hat7,H4.out.2.trans (ho7.below (by omega) H4.out.2.size)⟩
    clear hat7 ho7;refine wpAny_ready (rs:=[9]) (by kernel_rfl) (by simp) ?_;refine AllReady.cons rfl (λK hK=>?_) AllReady.nil;go_simp;refine hK _ _ ?_;clear hK K;refine wpAny_done (by kernel_rfl) ?_ _;go_wp2_with fail;try simp only[Exit.inBlock,Exit.then]
    refine bodyPost_ret (Ag rfl _ rfl H7.out.1) rfl ?_;exact⟨by rw[HE.out.1,HE.out.2],H7.out.2⟩
   ·go_simp;refine hK _ _ ?_;clear hK K;refine wpAny_take (i:=6) (v:=.int .i64 (-x.num)) rfl (by kernel_rfl) (by kernel_rfl) (by kernel_rfl) (λ_ _ _ h=>h) (Or.inl ⟨by kernel_rfl,by intro w;go_simp⟩) ?_;refine wpAny_take (i:=7) (v:=.int .i64 (-x.num-1)) rfl (by kernel_rfl) (by kernel_rfl) (by kernel_rfl) (λ_ _ _ h=>h) (Or.inl ⟨by kernel_rfl,by intro w;go_simp⟩) ?_;refine wpAny_ready (rs:=[0]) (by kernel_rfl) (by simp) ?_;refine AllReady.cons rfl (λK hK=>?_) AllReady.nil;refine AX rfl (.tmp 5) rfl rfl H3.out.1 ?_;refine hK _ _ ?_;clear hK K;refine wpAny_ready (rs:=[8]) (by kernel_rfl) (by simp) ?_;refine AllReady.cons rfl (λK hK=>?_) AllReady.nil;go_simp;go_wp2_with (go_at_call 113;refine(HAt.out _).mono ?_;rintro e w4 ⟨rfl,hb4⟩);have H4:Hid (AL w4 (w.heap.size+2) false (λ_=>0)/\Below w.heap.size w w4):=⟨At.keep H3.out.2.1 hb4 (At.lt H3.out.2.1),H3.out.2.2.trans (hb4.mono H3.out.2.2.size)⟩
    clear hb4;obtain⟨w7,hst7,hat7,ho7⟩:=Al H4.out.1 e4 M4;have H7:Hid (AL w7 (w.heap.size+2) e4 M4/\Below w.heap.size w w7):=⟨hat7,H4.out.2.trans (ho7.below (by omega) H4.out.2.size)⟩
    clear hat7 ho7;refine wpAny_ready (rs:=[9]) (by kernel_rfl) (by simp) ?_;refine AllReady.cons rfl (λK hK=>?_) AllReady.nil;go_simp;refine hK _ _ ?_;clear hK K;refine wpAny_done (by kernel_rfl) ?_ _;go_wp2_with fail;try simp only[Exit.inBlock,Exit.then]
    refine bodyPost_ret (Ag rfl _ rfl H7.out.1) rfl ?_;exact⟨by rw[HE.out.1,HE.out.2],H7.out.2⟩
  ·go_simp;refine hK _ _ ?_;clear hK K;refine wpAny_take (i:=6) (v:=.int .i64 (-x.num)) rfl (by kernel_rfl) (by kernel_rfl) (by kernel_rfl) (λ_ _ _ h=>h) (Or.inl ⟨by kernel_rfl,by intro w;go_simp⟩) ?_;refine wpAny_take (i:=7) (v:=.int .i64 (-x.num-1)) rfl (by kernel_rfl) (by kernel_rfl) (by kernel_rfl) (λ_ _ _ h=>h) (Or.inl ⟨by kernel_rfl,by intro w;go_simp⟩) ?_;refine wpAny_ready (rs:=[0,3]) (by kernel_rfl) (by simp) ?_;refine AllReady.cons rfl (λK hK=>?_) (AllReady.cons rfl (λK hK=>?_) AllReady.nil)
   ·refine AX rfl (.tmp 5) rfl rfl H2.out.2.1 ?_;refine hK _ _ ?_;clear hK K;refine wpAny_ready (rs:=[3]) (by kernel_rfl) (by simp) ?_;refine AllReady.cons rfl (λK hK=>?_) AllReady.nil;go_simp;go_wp2_with (go_at_call 114;refine(HTu.out _).mono ?_;rintro e w3 ⟨rfl,hb3⟩);have H3:Hid (AL w3 (w.heap.size+1) false M/\AL w3 (w.heap.size+2) false (λ_=>0)/\Below w.heap.size w w3):=⟨At.keep H2.out.2.1 hb3 (At.lt H2.out.2.1),At.keep H2.out.2.2.1 hb3 (At.lt H2.out.2.2.1),H2.out.2.2.2.trans (hb3.mono H2.out.2.2.2.size)⟩
    have f7:w3.cell? ⟨w.heap.size,7,none⟩=some (.int .i64 x.num):=(hb3.cell (p:=⟨w.heap.size,7,none⟩) hl2).trans d7;have hl3:w.heap.size<w3.heap.size:=Nat.lt_of_lt_of_le hl2 hb3.size;clear hb3;refine wpAny_ready (rs:=[8]) (by kernel_rfl) (by simp) ?_;refine AllReady.cons rfl (λK hK=>?_) AllReady.nil;go_simp;go_wp2_with (go_at_call 113;refine(HAt.out _).mono ?_;rintro e w4 ⟨rfl,hb4⟩);have H4:Hid (AL w4 (w.heap.size+2) false (λ_=>0)/\Below w.heap.size w w4):=⟨At.keep H3.out.2.1 hb4 (At.lt H3.out.2.1),H3.out.2.2.trans (hb4.mono H3.out.2.2.size)⟩
    clear hb4;obtain⟨w7,hst7,hat7,ho7⟩:=Al H4.out.1 e4 M4;have H7:Hid (AL w7 (w.heap.size+2) e4 M4/\Below w.heap.size w w7):=⟨hat7,H4.out.2.trans (ho7.below (by omega) H4.out.2.size)⟩
    clear hat7 ho7;refine wpAny_ready (rs:=[9]) (by kernel_rfl) (by simp) ?_;refine AllReady.cons rfl (λK hK=>?_) AllReady.nil;go_simp;refine hK _ _ ?_;clear hK K;refine wpAny_done (by kernel_rfl) ?_ _;go_wp2_with fail;try simp only[Exit.inBlock,Exit.then]
    refine bodyPost_ret (Ag rfl _ rfl H7.out.1) rfl ?_;exact⟨by rw[HE.out.1,HE.out.2],H7.out.2⟩
   ·go_simp;go_wp2_with (go_at_call 114;refine(HTu.out _).mono ?_;rintro e w3 ⟨rfl,hb3⟩);have H3:Hid (AL w3 (w.heap.size+1) false M/\AL w3 (w.heap.size+2) false (λ_=>0)/\Below w.heap.size w w3):=⟨At.keep H2.out.2.1 hb3 (At.lt H2.out.2.1),At.keep H2.out.2.2.1 hb3 (At.lt H2.out.2.2.1),H2.out.2.2.2.trans (hb3.mono H2.out.2.2.2.size)⟩
    have f7:w3.cell? ⟨w.heap.size,7,none⟩=some (.int .i64 x.num):=(hb3.cell (p:=⟨w.heap.size,7,none⟩) hl2).trans d7;have hl3:w.heap.size<w3.heap.size:=Nat.lt_of_lt_of_le hl2 hb3.size;clear hb3;refine wpAny_ready (rs:=[0]) (by kernel_rfl) (by simp) ?_;refine AllReady.cons rfl (λK hK=>?_) AllReady.nil;refine AX rfl (.tmp 5) rfl rfl H3.out.1 ?_;refine hK _ _ ?_;clear hK K;refine wpAny_ready (rs:=[8]) (by kernel_rfl) (by simp) ?_;refine AllReady.cons rfl (λK hK=>?_) AllReady.nil;go_simp;go_wp2_with (go_at_call 113;refine(HAt.out _).mono ?_;rintro e w4 ⟨rfl,hb4⟩);have H4:Hid (AL w4 (w.heap.size+2) false (λ_=>0)/\Below w.heap.size w w4):=⟨At.keep H3.out.2.1 hb4 (At.lt H3.out.2.1),H3.out.2.2.trans (hb4.mono H3.out.2.2.size)⟩
    clear hb4;obtain⟨w7,hst7,hat7,ho7⟩:=Al H4.out.1 e4 M4;have H7:Hid (AL w7 (w.heap.size+2) e4 M4/\Below w.heap.size w w7):=⟨hat7,H4.out.2.trans (ho7.below (by omega) H4.out.2.size)⟩
    clear hat7 ho7;refine wpAny_ready (rs:=[9]) (by kernel_rfl) (by simp) ?_;refine AllReady.cons rfl (λK hK=>?_) AllReady.nil;go_simp;refine hK _ _ ?_;clear hK K;refine wpAny_done (by kernel_rfl) ?_ _;go_wp2_with fail;try simp only[Exit.inBlock,Exit.then]
    refine bodyPost_ret (Ag rfl _ rfl H7.out.1) rfl ?_;exact⟨by rw[HE.out.1,HE.out.2],H7.out.2⟩
 ·go_simp;refine hK _ _ ?_;clear hK K;refine wpAny_take (i:=6) (v:=.int .i64 (-x.num)) rfl (by kernel_rfl) (by kernel_rfl) (by kernel_rfl) (λ_ _ _ h=>h) (Or.inl ⟨by kernel_rfl,by intro w;go_simp⟩) ?_;refine wpAny_take (i:=7) (v:=.int .i64 (-x.num-1)) rfl (by kernel_rfl) (by kernel_rfl) (by kernel_rfl) (λ_ _ _ h=>h) (Or.inl ⟨by kernel_rfl,by intro w;go_simp⟩) ?_;refine wpAny_ready (rs:=[0,2]) (by kernel_rfl) (by simp) ?_;refine AllReady.cons rfl (λK hK=>?_) (AllReady.cons rfl (λK hK=>?_) AllReady.nil)
  ·refine AX rfl (.tmp 5) rfl rfl H2.out.2.1 ?_;refine hK _ _ ?_;clear hK K;refine wpAny_ready (rs:=[2]) (by kernel_rfl) (by simp) ?_;refine AllReady.cons rfl (λK hK=>?_) AllReady.nil;go_simp;refine hK _ _ ?_;clear hK K;refine wpAny_ready (rs:=[3]) (by kernel_rfl) (by simp) ?_;refine AllReady.cons rfl (λK hK=>?_) AllReady.nil;go_simp;go_wp2_with (go_at_call 114;refine(HTu.out _).mono ?_;rintro e w3 ⟨rfl,hb3⟩);have H3:Hid (AL w3 (w.heap.size+1) false M/\AL w3 (w.heap.size+2) false (λ_=>0)/\Below w.heap.size w w3):=⟨At.keep H2.out.2.1 hb3 (At.lt H2.out.2.1),At.keep H2.out.2.2.1 hb3 (At.lt H2.out.2.2.1),H2.out.2.2.2.trans (hb3.mono H2.out.2.2.2.size)⟩
   have f7:w3.cell? ⟨w.heap.size,7,none⟩=some (.int .i64 x.num):=(hb3.cell (p:=⟨w.heap.size,7,none⟩) hl2).trans d7;have hl3:w.heap.size<w3.heap.size:=Nat.lt_of_lt_of_le hl2 hb3.size;clear hb3;refine wpAny_ready (rs:=[8]) (by kernel_rfl) (by simp) ?_;refine AllReady.cons rfl (λK hK=>?_) AllReady.nil;go_simp;go_wp2_with (go_at_call 113;refine(HAt.out _).mono ?_;rintro e w4 ⟨rfl,hb4⟩);have H4:Hid (AL w4 (w.heap.size+2) false (λ_=>0)/\Below w.heap.size w w4):=⟨At.keep H3.out.2.1 hb4 (At.lt H3.out.2.1),H3.out.2.2.trans (hb4.mono H3.out.2.2.size)⟩
   clear hb4;obtain⟨w7,hst7,hat7,ho7⟩:=Al H4.out.1 e4 M4;have H7:Hid (AL w7 (w.heap.size+2) e4 M4/\Below w.heap.size w w7):=⟨hat7,H4.out.2.trans (ho7.below (by omega) H4.out.2.size)⟩
   clear hat7 ho7;refine wpAny_ready (rs:=[9]) (by kernel_rfl) (by simp) ?_;refine AllReady.cons rfl (λK hK=>?_) AllReady.nil;go_simp;refine hK _ _ ?_;clear hK K;refine wpAny_done (by kernel_rfl) ?_ _;go_wp2_with fail;try simp only[Exit.inBlock,Exit.then]
   refine bodyPost_ret (Ag rfl _ rfl H7.out.1) rfl ?_;exact⟨by rw[HE.out.1,HE.out.2],H7.out.2⟩
  ·go_simp;refine hK _ _ ?_;clear hK K;refine wpAny_ready (rs:=[0,3]) (by kernel_rfl) (by simp) ?_;refine AllReady.cons rfl (λK hK=>?_) (AllReady.cons rfl (λK hK=>?_) AllReady.nil)
   ·refine AX rfl (.tmp 5) rfl rfl H2.out.2.1 ?_;refine hK _ _ ?_;clear hK K;refine wpAny_ready (rs:=[3]) (by kernel_rfl) (by simp) ?_;refine AllReady.cons rfl (λK hK=>?_) AllReady.nil;go_simp;go_wp2_with (go_at_call 114;refine(HTu.out _).mono ?_;rintro e w3 ⟨rfl,hb3⟩);have H3:Hid (AL w3 (w.heap.size+1) false M/\AL w3 (w.heap.size+2) false (λ_=>0)/\Below w.heap.size w w3):=⟨At.keep H2.out.2.1 hb3 (At.lt H2.out.2.1),At.keep H2.out.2.2.1 hb3 (At.lt H2.out.2.2.1),H2.out.2.2.2.trans (hb3.mono H2.out.2.2.2.size)⟩
    have f7:w3.cell? ⟨w.heap.size,7,none⟩=some (.int .i64 x.num):=(hb3.cell (p:=⟨w.heap.size,7,none⟩) hl2).trans d7;have hl3:w.heap.size<w3.heap.size:=Nat.lt_of_lt_of_le hl2 hb3.size;clear hb3;refine wpAny_ready (rs:=[8]) (by kernel_rfl) (by simp) ?_;refine AllReady.cons rfl (λK hK=>?_) AllReady.nil;go_simp;go_wp2_with (go_at_call 113;refine(HAt.out _).mono ?_;rintro e w4 ⟨rfl,hb4⟩);have H4:Hid (AL w4 (w.heap.size+2) false (λ_=>0)/\Below w.heap.size w w4):=⟨At.keep H3.out.2.1 hb4 (At.lt H3.out.2.1),H3.out.2.2.trans (hb4.mono H3.out.2.2.size)⟩
    clear hb4;obtain⟨w7,hst7,hat7,ho7⟩:=Al H4.out.1 e4 M4;have H7:Hid (AL w7 (w.heap.size+2) e4 M4/\Below w.heap.size w w7):=⟨hat7,H4.out.2.trans (ho7.below (by omega) H4.out.2.size)⟩
    clear hat7 ho7;refine wpAny_ready (rs:=[9]) (by kernel_rfl) (by simp) ?_;refine AllReady.cons rfl (λK hK=>?_) AllReady.nil;go_simp;refine hK _ _ ?_;clear hK K;refine wpAny_done (by kernel_rfl) ?_ _;go_wp2_with fail;try simp only[Exit.inBlock,Exit.then]
    refine bodyPost_ret (Ag rfl _ rfl H7.out.1) rfl ?_;exact⟨by rw[HE.out.1,HE.out.2],H7.out.2⟩
   ·go_simp;go_wp2_with (go_at_call 114;refine(HTu.out _).mono ?_;rintro e w3 ⟨rfl,hb3⟩);have H3:Hid (AL w3 (w.heap.size+1) false M/\AL w3 (w.heap.size+2) false (λ_=>0)/\Below w.heap.size w w3):=⟨At.keep H2.out.2.1 hb3 (At.lt H2.out.2.1),At.keep H2.out.2.2.1 hb3 (At.lt H2.out.2.2.1),H2.out.2.2.2.trans (hb3.mono H2.out.2.2.2.size)⟩
    have f7:w3.cell? ⟨w.heap.size,7,none⟩=some (.int .i64 x.num):=(hb3.cell (p:=⟨w.heap.size,7,none⟩) hl2).trans d7;have hl3:w.heap.size<w3.heap.size:=Nat.lt_of_lt_of_le hl2 hb3.size;clear hb3;refine wpAny_ready (rs:=[0]) (by kernel_rfl) (by simp) ?_;refine AllReady.cons rfl (λK hK=>?_) AllReady.nil;refine AX rfl (.tmp 5) rfl rfl H3.out.1 ?_;refine hK _ _ ?_;clear hK K;refine wpAny_ready (rs:=[8]) (by kernel_rfl) (by simp) ?_;refine AllReady.cons rfl (λK hK=>?_) AllReady.nil;go_simp;go_wp2_with (go_at_call 113;refine(HAt.out _).mono ?_;rintro e w4 ⟨rfl,hb4⟩);have H4:Hid (AL w4 (w.heap.size+2) false (λ_=>0)/\Below w.heap.size w w4):=⟨At.keep H3.out.2.1 hb4 (At.lt H3.out.2.1),H3.out.2.2.trans (hb4.mono H3.out.2.2.size)⟩
    clear hb4;obtain⟨w7,hst7,hat7,ho7⟩:=Al H4.out.1 e4 M4;have H7:Hid (AL w7 (w.heap.size+2) e4 M4/\Below w.heap.size w w7):=⟨hat7,H4.out.2.trans (ho7.below (by omega) H4.out.2.size)⟩
    clear hat7 ho7;refine wpAny_ready (rs:=[9]) (by kernel_rfl) (by simp) ?_;refine AllReady.cons rfl (λK hK=>?_) AllReady.nil;go_simp;refine hK _ _ ?_;clear hK K;refine wpAny_done (by kernel_rfl) ?_ _;go_wp2_with fail;try simp only[Exit.inBlock,Exit.then]
    refine bodyPost_ret (Ag rfl _ rfl H7.out.1) rfl ?_;exact⟨by rw[HE.out.1,HE.out.2],H7.out.2⟩
theorem O0(x:Ds)(hx:OY x)(ht:0<=x.target/\x.target<4)(way:Int)(hM:∀k,k<64-> -20000000000<=M k/\M k<=1000000)(hS:e0=false->Sh M):
  Calls Tryz.prog 80 #[B0 x,.int .i64 way,.agg (oc e0 M)] w λe w'=>e=.returned (.agg (oc (CA e0 M x way) (CE e0 M x way)))/\Below w.heap.size w w':=by
 have hz:=Bn;obtain⟨w0,hw0⟩:∃w0,w0=((w.alloc (.cells (AD x) BB)).alloc (.cells (oc e0 M) tO)).alloc (.cells (oc false λ_=>0) tO):=⟨_,rfl⟩
 have H0:Hid (At w0 w.heap.size (AD x) BB/\AL w0 (w.heap.size+1) e0 M/\AL w0 (w.heap.size+2) false (λ_=>0)/\Below w.heap.size w w0/\w0.heap.size=w.heap.size+3):=by
  refine⟨by rw[hw0];exact At.allocH (At.allocH (At.new _ _ _) _) _,?_,?_,by rw[hw0];exact(((Below.refl _ _).alloc (Nat.le_refl _) _).alloc (by simp) _).alloc (by simp;omega) _,by rw[hw0];simp⟩
  ·have:=At.allocH (At.new (w.alloc (.cells (AD x) BB)) (oc e0 M) tO) (.cells (oc false λ_=>0) tO);rw[show(w.alloc (.cells (AD x) BB)).heap.size=w.heap.size+1 by simp]at this;rw[hw0];exact this
  ·have:=At.new ((w.alloc (.cells (AD x) BB)).alloc (.cells (oc e0 M) tO)) (oc false λ_=>0) tO;rw[show((w.alloc (.cells (AD x) BB)).alloc (.cells (oc e0 M) tO)).heap.size=w.heap.size+2 by simp]at this;rw[hw0];exact this
 have HA0:=H0.out.2.1;have z0:w0.cell? ⟨w.heap.size+1,0,none⟩=some (.bool e0):=by rw[At.cell H0.out.2.1];exact Ib _ _
 cases e0 with
 |true=>
  have HE:Hid (CA true M x way=true/\CE true M x way=M):=⟨rfl,rfl⟩
  obtain⟨w7,hst7,hat7,ho7⟩:=Al H0.out.2.2.1 true M;have H7:Hid (AL w7 (w.heap.size+2) true M/\Below w.heap.size w w7):=⟨hat7,H0.out.2.2.2.1.trans (ho7.below (by omega) H0.out.2.2.2.1.size)⟩
  clear hat7 ho7;rw[hw0]at hst7 HA0 z0;unfold AD at hst7 HA0 z0;unfold B0;clear H0 hw0 hM hS hx ht;go_enter Tryz.func80,Tryz.ntmps80;go_wp2_with (refine AH rfl (.tmp 5) rfl rfl HA0 ?_);try simp only[Exit.inBlock,Exit.then]
  refine bodyPost_ret (Ag rfl _ rfl H7.out.1) rfl ?_;exact⟨by rw[HE.out.1,HE.out.2],H7.out.2⟩
 |false=>
 by_cases k0:x.kind=0
 ·have HE:Hid (CA false M x way=false/\CE false M x way=JF M x):=by
   refine⟨?_,?_⟩
   ·unfold CA;rw[if_neg (by decide),if_pos k0]
   ·unfold CE;rw[if_neg (by decide),if_pos k0]
  obtain⟨BW,hBW⟩:∃BW:World->Prop,BW=λw'=>Below w0.heap.size w0 w':=⟨_,rfl⟩
  have has:Calls Tryz.prog 112 #[B0 x,.agg (oc false M)] w0 λe w'=>e=.returned (.agg (oc false (JF M x)))/\BW w':=by rw[hBW];exact Oz x hx ht (hS rfl)
  rw[hw0]at has HA0 z0;unfold AD at has HA0 z0;unfold B0 at has|-;generalize JF M x=T at *;rw[k0]at has HA0 z0|-;clear hw0 hM hS hx ht;go_enter Tryz.func80,Tryz.ntmps80;go_wp2_with (refine AH rfl (.tmp 5) rfl rfl HA0 ?_);refine has.mono ?_;rintro e w1 ⟨rfl,hb1⟩;rw[hBW]at hb1;have H1:Hid (AL w1 (w.heap.size+2) false (λ_=>0)/\Below w.heap.size w w1):=by
   have s0:=H0.out.2.2.2.2;exact⟨At.keep H0.out.2.2.1 hb1 (by omega),H0.out.2.2.2.1.trans (hb1.mono (by omega))⟩
  clear hb1 hBW H0;obtain⟨w7,hst7,hat7,ho7⟩:=Al H1.out.1 false T;have H7:Hid (AL w7 (w.heap.size+2) false T/\Below w.heap.size w w7):=⟨hat7,H1.out.2.trans (ho7.below (by omega) H1.out.2.size)⟩
  clear hat7 ho7;go_wp2_with fail;try simp only[Exit.inBlock,Exit.then]
  refine bodyPost_ret (Ag rfl _ rfl H7.out.1) rfl ?_;exact⟨by rw[HE.out.1,HE.out.2],H7.out.2⟩
 have b0:(x.kind==0)=false:=by simpa using k0
 cases ha:x.any with
 |true=>
  have HE:Hid (CA false M x way=false/\CE false M x way=M):=by
   refine⟨?_,?_⟩
   ·unfold CA;rw[if_neg (by decide),if_neg k0,if_pos ha]
   ·unfold CE;rw[if_neg (by decide),if_neg k0,if_pos ha]
  clear k0;obtain⟨w7,hst7,hat7,ho7⟩:=Al H0.out.2.2.1 false M;have H7:Hid (AL w7 (w.heap.size+2) false M/\Below w.heap.size w w7):=⟨hat7,H0.out.2.2.2.1.trans (ho7.below (by omega) H0.out.2.2.2.1.size)⟩
  clear hat7 ho7;rw[hw0]at hst7 HA0 z0;unfold AD at hst7 HA0 z0;unfold B0;rw[ha]at hst7 HA0 z0|-;clear H0 hw0 hM hS hx ht;go_enter Tryz.func80,Tryz.ntmps80;go_wp2_with (refine AH rfl (.tmp 5) rfl rfl HA0 ?_);try simp only[Exit.inBlock,Exit.then]
  refine bodyPost_ret (Ag rfl _ rfl H7.out.1) rfl ?_;exact⟨by rw[HE.out.1,HE.out.2],H7.out.2⟩
 |false=>
 by_cases hw:way=0
 ·have HE:Hid (CA false M x way=GJ false M x.sg x.num/\CE false M x way=E5 false M x.sg x.num):=by
   refine⟨?_,?_⟩
   ·unfold CA;rw[if_neg (by decide),if_neg k0,ha,if_neg (by decide),if_pos hw]
   ·unfold CE;rw[if_neg (by decide),if_neg k0,ha,if_neg (by decide),if_pos hw]
  obtain⟨BW,hBW⟩:∃BW:World->Prop,BW=λw'=>Below w0.heap.size w0 w':=⟨_,rfl⟩
  have has:Calls Tryz.prog 113 #[.agg (oc false M),v4 x.sg,.int .i64 x.num] w0 λe w'=>e=.returned (.agg (oc (GJ false M x.sg x.num) (E5 false M x.sg x.num)))/\BW w':=by rw[hBW];exact N0 hM x.sg hx.sg x.num ⟨by have:=hx.num;omega,by have:=hx.num;omega⟩
  rw[hw0]at has HA0 z0;unfold AD at has HA0 z0;unfold v4 at has;unfold B0;generalize GJ false M x.sg x.num=e4 at *;generalize E5 false M x.sg x.num=T at *;rw[ha]at has HA0 z0|-;subst hw;clear hw0 hM hS hx ht k0;go_enter Tryz.func80,Tryz.ntmps80;go_wp2_with (refine AH rfl (.tmp 5) rfl rfl HA0 ?_);refine has.mono ?_;rintro e w1 ⟨rfl,hb1⟩;rw[hBW]at hb1;have H1:Hid (AL w1 (w.heap.size+2) false (λ_=>0)/\Below w.heap.size w w1):=by
   have s0:=H0.out.2.2.2.2;exact⟨At.keep H0.out.2.2.1 hb1 (by omega),H0.out.2.2.2.1.trans (hb1.mono (by omega))⟩
  clear hb1 hBW H0;obtain⟨w7,hst7,hat7,ho7⟩:=Al H1.out.1 e4 T;have H7:Hid (AL w7 (w.heap.size+2) e4 T/\Below w.heap.size w w7):=⟨hat7,H1.out.2.trans (ho7.below (by omega) H1.out.2.size)⟩
  clear hat7 ho7;go_wp2_with fail;try simp only[Exit.inBlock,Exit.then]
  refine bodyPost_ret (Ag rfl _ rfl H7.out.1) rfl ?_;exact⟨by rw[HE.out.1,HE.out.2],H7.out.2⟩
 ·exact S6 x hx k0 ha way hw hM
end Go.Proofs.YtffajooegiempaaGreatDoor
namespace Go.Proofs.YtffajooegiempaaGreatDoor
open Go.RowKit
variable {w:World}
theorem EX{a b:Bool}(h:a=b):Ending.returned (.bool b)=.returned (.bool a):=by rw[h]
theorem Mj(a b:Value)(la lb:List Int)(hla:la.length=32)(hlb:lb.length=32)(ha:AQ w a la)(hb:AQ w b lb):
  Calls Tryz.prog 99 #[a,b] w λe w'=>e=.returned (.bool (leF (λf=>la.getD f 0) (λf=>lb.getD f 0) 32))/\Below w.heap.size w w':=by
 obtain⟨ao,ca,rfl, -,h0⟩:=ha;obtain⟨p,off,rfl,hp,hcell⟩:=h0 (by omega);obtain⟨bo,cb,rfl, -,h1⟩:=hb;obtain⟨q,ofg,rfl,hq,hcelq⟩:=h1 (by omega);have HC:Hid (∀i,i<32->w.cell? ⟨p,off+i,none⟩=some (.int .i64 (la.getD i 0))):=λi hi=>hcell i (by omega);have HD:Hid (∀i,i<32->w.cell? ⟨q,ofg+i,none⟩=some (.int .i64 (lb.getD i 0))):=λi hi=>hcelq i (by omega);rw[hla,hlb];obtain⟨A,hA⟩:∃A:Nat->Int,A=λf=>la.getD f 0:=⟨_,rfl⟩
 obtain⟨B,hB⟩:∃B:Nat->Int,B=λf=>lb.getD f 0:=⟨_,rfl⟩
 have HC':Hid (∀i,i<32->w.cell? ⟨p,off+i,none⟩=some (.int .i64 (A i))):=by rw[hA];exact HC.out
 have HD':Hid (∀i,i<32->w.cell? ⟨q,ofg+i,none⟩=some (.int .i64 (B i))):=by rw[hB];exact HD.out
 rw[<-hA,<-hB];clear HC HD hA hB hcell hcelq h0 h1 hla hlb;go_enter Tryz.func99,Tryz.ntmps99;go_wp2_with fail;go_loopw [5] (λi wr=>∃(f k:Nat),f<=32/\i=.int .i64 f/\Hid (wr=w.drewN k/\leF A B f=true)) (λi _=>32-(intOf i).toNat);case atStart=>exact⟨0,0,by omega,rfl,rfl,rfl⟩
 case round=>
  obtain⟨f,k,hf,rfl,HR⟩:=hrel;by_cases hlt:f<32
  ·have hfi:(f:Int)<32:=by omega
   have ca:wr.cell? ⟨p,off+f,none⟩=some (.int .i64 (A f)):=by rw[HR.out.1];exact HC'.out f hlt
   have cb:wr.cell? ⟨q,ofg+f,none⟩=some (.int .i64 (B f)):=by rw[HR.out.1];exact HD'.out f hlt
   have HN:Hid (¬A f<=B f->leF A B 32=false):=λh=>by
    cases e:leF A B 32 with
    |false=>rfl
    |true=>exact absurd (DI.1 e f hlt) h
   have HY:Hid (leF A B (f+1)=(leF A B f&&decide (A f<=B f))):=rfl;generalize A f=x at *;generalize B f=y at *;by_cases hxy:y<x
   ·have HF:Hid (leF A B 32=false):=HN.out (by omega);go_wp2_with fail;go_quiet (fail);go_wp2_with fail;go_ret;exact⟨EX HF.out,below_drewN (by rw[HR.out.1];exact below_drewN (Below.refl _ _) _) _⟩
   ·have HF:Hid (leF A B (f+1)=true):=by show _=true;rw[HY.out,HR.out.2,decide_eq_true (by omega)];rfl
    go_wp2_with fail;go_quiet (fail);go_wp2_with fail;go_roundw;case rel=>exact⟨f+1,_,by omega,by go_num,by rw[HR.out.1];exact Cu _ _ _,HF.out⟩
    case measure=>simp[intOf];omega
  ·have hf32:f=32:=by omega
   subst hf32;go_wp2_with fail;go_ret;exact⟨EX HR.out.2,by rw[HR.out.1];exact below_drewN (Below.refl _ _) _⟩
theorem Gt{A A' B:Nat->Int}:∀n,(∀f,f<n->A f=A' f)->leF A B n=leF A' B n
 |0,_=>rfl
 |n+1,h=>by
  show(leF A B n&&decide (A n<=B n))=(leF A' B n&&decide (A' n<=B n))
  rw[Gt n (λf hf=>h f (by omega)),h n (by omega)]
theorem Q5{x:Ds}{u:St}{o:List Int}(hc:OX x u)(hu:SI u)(ho:B_ o):DF (ovE o) (BT o) x=H_ (ovE o) (BT o) u:=by
 obtain⟨c0,_,c2,c3,c4⟩:=hc;unfold DF H_;cases he:ovE o with
 |true=>rfl
 |false=>
  have hC0:BT o (0*8+1)=0:=((Db ho).tc he).zero 0 (by omega);have g1:=(Gp hC0 hu.len hu.sg hu.nz).1;have g2:=(Gp hC0 (Cp u.sg) (DJ hu.sg) (by rw[C9 hu.len];exact hu.nz)).1;have e1:FC (BT o) u.sg=GP (BT o) u.sg:=g1;have e2:FC (BT o) (Dv u.sg)=GP (BT o) (Dv u.sg):=g2;rw[if_neg (show¬(false=true) by decide),if_neg (show¬(false=true) by decide)];have k0:x.kind=0↔u.kind=61:=by
   rw[c0];unfold Fr;constructor
   ·intro h;rw[if_pos h]
   ·intro h;by_cases q:x.kind=0
    ·exact q
    ·rw[if_neg q]at h;split at h
     ·cases h
     ·split at h<;>cases h
  have k1:x.kind=1↔u.kind=33:=by
   rw[c0];unfold Fr;constructor
   ·intro h;rw[if_neg (by omega),if_pos h]
   ·intro h;by_cases q:x.kind=0
    ·rw[if_pos q]at h;cases h
    ·rw[if_neg q]at h;by_cases q1:x.kind=1
     ·exact q1
     ·rw[if_neg q1]at h;split at h<;>cases h
  by_cases q0:x.kind=0
  ·rw[if_pos q0,if_pos (k0.1 q0),<-c2,<-c4,<-c3];unfold ftB;rw[e1,e2]
  ·rw[if_neg q0,if_neg (λz=>q0 (k0.2 z))];by_cases q1:x.kind=1
   ·rw[if_pos q1,if_pos (k1.1 q1),<-c2,<-c4,<-c3,e1]
   ·rw[if_neg q1,if_neg (λz=>q1 (k1.2 z))]
end Go.Proofs.YtffajooegiempaaGreatDoor
