import Derived.Test.YtffajooegiempaaGreatDoorJ11
import Derived.Laws.Rows
import Derived.Laws.Tables
import Derived.Deep.RegionWith
set_option maxRecDepth 100000
set_option maxHeartbeats 6400000
namespace Go.Proofs.YtffajooegiempaaGreatDoor
open Go.RowKit
variable {w w':World} {g cap b:Nat} {F:List Ds}
def dsv (x:Ds):Value:=.agg #[.int .i64 x.kind,.int .i64 x.target,.bool x.any,.int .i64 (sgAt x.sg 0),.int .i64 (sgAt x.sg 1),.int .i64 (sgAt x.sg 2),.int .i64 (sgAt x.sg 3),.int .i64 x.num,.int .i64 x.parent,.int .i64 x.block]
theorem ds_loadVar {x:Ds} (h:At w b (dsCells x) tDs):(loadVar tDs ⟨b,0,none⟩).run Tryz.prog w=.ok (dsv x) w :=
 run_loadVar_row w b tDs tDs (dsCells x) (0,0) _ h Tryz.underlying119 rfl (by kernel_rfl)
theorem results_dc {fn:Func} {t u:Tmp} {x:Ds} (h:fn.results=#[.cell t tDs,.tmp u]) (tmps:Array Value) (hp:tmps.getD t undef=.pointer (some ⟨b,0,none⟩)) (hat:At w b (dsCells x) tDs) :
  (results fn tmps).run Tryz.prog w=.ok (.tuple #[dsv x,tmps.getD u undef]) w:=by
 have hp':tmps[t]?.getD undef=.pointer (some ⟨b,0,none⟩):=by simpa using hp
 simp [results,h,hp',asAddr,ds_loadVar hat]
def PRow (w:World) (g:Nat) (F:List Ds):Prop:=g < w.heap.size/\∀ j x,F[j]?=some x->w.cell? ⟨g,j*10,none⟩=some (.int .i64 x.kind)/\w.cell? ⟨g,j*10+1,none⟩=some (.int .i64 x.target)/\w.cell? ⟨g,j*10+2,none⟩=some (.bool x.any) /\
 w.cell? ⟨g,j*10+3,none⟩=some (.int .i64 (sgAt x.sg 0))/\w.cell? ⟨g,j*10+4,none⟩=some (.int .i64 (sgAt x.sg 1))/\w.cell? ⟨g,j*10+5,none⟩=some (.int .i64 (sgAt x.sg 2))/\w.cell? ⟨g,j*10+6,none⟩=some (.int .i64 (sgAt x.sg 3)) /\
 w.cell? ⟨g,j*10+7,none⟩=some (.int .i64 x.num)/\w.cell? ⟨g,j*10+8,none⟩=some (.int .i64 x.parent)/\w.cell? ⟨g,j*10+9,none⟩=some (.int .i64 x.block)
theorem PRow.keep (h:PRow w g F) (hb:Below w.heap.size w w'):PRow w' g F:=by
 refine ⟨Nat.lt_of_lt_of_le h.1 hb.size,fun j x hx=>?_⟩
 have hc:∀ o,w'.cell? ⟨g,o,none⟩=w.cell? ⟨g,o,none⟩:=fun o=>hb.cell (p:=⟨g,o,none⟩) h.1
 simp only [hc]
 exact h.2 j x hx
theorem gets' {j:Nat} (hj:j < F.length):F[j]?=some (F.getD j (newDs 0 0)):=by rw [List.getD_eq_getElem?_getD,List.getElem?_eq_getElem hj]; rfl
theorem d_ways (k t:Int) (an:Bool) (g0 g1 g2 g3 n p b:Int) (w:World) :
  Calls Tryz.prog 111 #[.agg #[.int .i64 k,.int .i64 t,.bool an,.int .i64 g0,.int .i64 g1,.int .i64 g2,.int .i64 g3,.int .i64 n,.int .i64 p,.int .i64 b]] w fun e w'=>e=.returned (.int .i64 (waysP k))/\∃ o,w'=w.alloc o:=by
 unfold waysP
 by_cases h2:k=2
 ·subst h2
  go_enter Tryz.func111,Tryz.ntmps111
  go_wp2
  go_ret
  exact ⟨rfl,_,rfl⟩
 ·have b2:(k == 2)=false:=by simpa using h2
  by_cases h3:k=3
  ·subst h3
   clear h2 b2
   go_enter Tryz.func111,Tryz.ntmps111
   go_wp2
   go_ret
   exact ⟨rfl,_,rfl⟩
  ·have b3:(k == 3)=false:=by simpa using h3
   rw [if_neg (fun e=>e.elim h2 h3)]
   clear h2 h3
   go_enter Tryz.func111,Tryz.ntmps111
   go_wp2
   go_ret
   exact ⟨rfl,_,rfl⟩
def zDs:Ds:=newDs 0 0
theorem d_at_in (h:PRow w g F) (k:Nat) (hk:k < F.length) :
  Calls Tryz.prog 81 #[.agg #[.slice (some ⟨g,0,none⟩) F.length cap],.int .i64 (k:Int)] w fun e w'=>e=.returned (.tuple #[dsv (F.getD k (newDs 0 0)),.int .i64 0])/\Below w.heap.size w w':=by
 have hg:=h.1
 have hki:(k:Int) < (F.length:Int):=by omega
 have hge:¬ (F.length:Int)<=(k:Int):=by omega
 obtain ⟨c0,c1,c2,c3,c4,c5,c6,c7,c8,c9⟩:=h.2 k _ (gets' hk)
 have HB:Hid (∀ o1 o2,Below w.heap.size w ((w.alloc o1).alloc o2)):=fun o1 o2=>((Below.refl _ _).alloc (Nat.le_refl _) _).alloc (by simp) _
 generalize F.getD k (newDs 0 0)=x at *
 clear h
 go_enter Tryz.func81,Tryz.ntmps81
 go_wp2_with fail
 try simp only [Exit.inBlock,Exit.then]
 refine bodyPost_ret (results_dc (b:=w.heap.size+1) (x:=x) rfl _ rfl ?_) rfl ?_
 ·have:=At.new (w.alloc (.cells #[.slice (some ⟨g,0,none⟩) F.length cap] 43)) (dsCells x) tDs
  rw [show (w.alloc (.cells #[.slice (some ⟨g,0,none⟩) F.length cap] 43)).heap.size=w.heap.size+1 by simp] at this
  exact this
 ·exact ⟨rfl,HB.out _ _⟩
theorem d_at_out (ao:Option Addr) (n:Nat) (_hn:n<=20) (p:Int) (hp:p < 0 \/ (n:Int)<=p) :
  Calls Tryz.prog 81 #[.agg #[.slice ao n cap],.int .i64 p] w fun e w'=>e=.returned (.tuple #[dsv zDs,.int .i64 2])/\Below w.heap.size w w':=by
 have HB:Hid (∀ o1 o2,Below w.heap.size w ((w.alloc o1).alloc o2)):=fun o1 o2=>((Below.refl _ _).alloc (Nat.le_refl _) _).alloc (by simp) _
 by_cases h0:p < 0
 ·clear hp
  go_enter Tryz.func81,Tryz.ntmps81
  go_wp2_with fail
  try simp only [Exit.inBlock,Exit.then]
  refine bodyPost_ret (results_dc (b:=w.heap.size+1) (x:=zDs) rfl _ rfl ?_) rfl ?_
  ·have:=At.new (w.alloc (.cells #[.slice ao n cap] 43)) (dsCells zDs) tDs
   rw [show (w.alloc (.cells #[.slice ao n cap] 43)).heap.size=w.heap.size+1 by simp] at this
   exact this
  ·exact ⟨rfl,HB.out _ _⟩
 ·have h1:(n:Int)<=p:=hp.elim (fun e=>absurd e h0) id
  clear hp
  go_enter Tryz.func81,Tryz.ntmps81
  go_wp2_with fail
  try simp only [Exit.inBlock,Exit.then]
  refine bodyPost_ret (results_dc (b:=w.heap.size+1) (x:=zDs) rfl _ rfl ?_) rfl ?_
  ·have:=At.new (w.alloc (.cells #[.slice ao n cap] 43)) (dsCells zDs) tDs
   rw [show (w.alloc (.cells #[.slice ao n cap] 43)).heap.size=w.heap.size+1 by simp] at this
   exact this
  ·exact ⟨rfl,HB.out _ _⟩
end Go.Proofs.YtffajooegiempaaGreatDoor

namespace Go.Proofs.YtffajooegiempaaGreatDoor
open Go.RowKit
variable {w:World} {e0:Bool} {M:Nat->Int} {b:Nat}
theorem wpList_load_ow {ops:Array Oper} {rest:List Oper} {o:Oper} {a:Act} {Q:Exit->Act->World->Prop} (hw:Region.wanted o (yielded ops a.tmps)=true) (p:Operand) (hop:o.op=Op.load tO p) (hp:a.eval p=.pointer (some ⟨b,0,none⟩)) (hat:OAt w b e0 M)
  (hK:wpList Tryz.prog ops Q rest (a.put o.dst (.agg (oc e0 M))) w):wpList Tryz.prog ops Q (o :: rest) a w:=by
 refine wpList_step fun K hK'=>?_
 rw [if_pos hw]
 unfold Oper.wp
 simp [execOp,hop,hp,o_loadAt hat,Result.andThen]
 exact hK' _ _ hK
theorem step_load_ow {ops:Array Oper} {o:Oper} {a:Act} {K:Act->World->Prop} {Q:Exit->Act->World->Prop} {E:Prop} (hw:Region.wanted o (yielded ops a.tmps)=true) (p:Operand) (hop:o.op=Op.load tO p) (hp:a.eval p=.pointer (some ⟨b,0,none⟩)) (hat:OAt w b e0 M)
  (hK:K (a.put o.dst (.agg (oc e0 M))) w):if Region.wanted o (yielded ops a.tmps)=true then Oper.wp Tryz.prog o a w K Q else E:=by
 rw [if_pos hw]
 unfold Oper.wp
 simp [execOp,hop,hp,o_loadAt hat,Result.andThen]
 exact hK
theorem mo_rng (hS:Sm M) {i j:Nat} (hi:i < 8) (hj:j < 8):-200000000000000000<=mo M i j/\mo M i j<=1000000000000:=by
 have:=hS (i*8+j) (by omega)
 have t:=tdiv2_le (M (i*8+j))
 unfold mo
 split <;> omega
def grP (M:Nat->Int) (l:List Int):Int:=mo M (sd1 l) (sd2 l)
theorem grP_rng (hS:Sm M) (l:List Int):-200000000000000000<=grP M l/\grP M l<=1000000000000:=mo_rng hS (sdS_lt l 4 (Nat.le_refl _)).1 (sdS_lt l 4 (Nat.le_refl _)).2
def ftB (M:Nat->Int) (l:List Int) (n:Int):Bool:=decide (grP M l ≠ NB/\grP M (ngL l) ≠ NB/\grP M l+n<=999/\grP M (ngL l) - n<=999)
theorem ret_b' {a b:Bool} (h:a=b):Ending.returned (.bool b)=.returned (.bool a):=by rw [h]
structure DsG (x:Ds):Prop where
 sg:∀ i,-1<=gAt x.sg i/\gAt x.sg i<=1
 num:-99<=x.num/\x.num<=99
theorem ngL_rng {l:List Int} (h:∀ i,-1<=gAt l i/\gAt l i<=1):∀ i,-1<=gAt (ngL l) i/\gAt (ngL l) i<=1:=by
 intro i
 rcases (show i=0 \/ i=1 \/ i=2 \/ i=3 \/ 4<=i by omega) with rfl | rfl | rfl | rfl | h4
 ·have:=h 0; show -1<=-gAt l 0/\-gAt l 0<=1; omega
 ·have:=h 1; show -1<=-gAt l 1/\-gAt l 1<=1; omega
 ·have:=h 2; show -1<=-gAt l 2/\-gAt l 2<=1; omega
 ·have:=h 3; show -1<=-gAt l 3/\-gAt l 3<=1; omega
 ·have:gAt (ngL l) i=0:=by unfold gAt ngL; rw [List.getD_eq_getElem?_getD,List.getElem?_eq_none (by simp; omega)]; rfl
  omega
theorem e_fits (x:Ds) (hx:DsG x) (hS:Sm M) :
  Calls Tryz.prog 115 #[dsv x,.agg (oc e0 M)] w fun e w'=>e=.returned (.bool (ftB M x.sg x.num))/\Below w.heap.size w w':=by
 have HGr:Hid (∀ w1,Calls Tryz.prog 116 #[.agg (oc e0 M),v4 x.sg] w1 fun e w'=>e=.returned (.int .i64 (grP M x.sg))/\Below w1.heap.size w1 w'):=fun w1=>o_greatest x.sg hx.sg hS
 have HGr2:Hid (∀ w1,Calls Tryz.prog 116 #[.agg (oc e0 M),v4 (ngL x.sg)] w1 fun e w'=>e=.returned (.int .i64 (grP M (ngL x.sg)))/\Below w1.heap.size w1 w'):=fun w1=>o_greatest (ngL x.sg) (ngL_rng hx.sg) hS
 have HTu:Hid (∀ w1,Calls Tryz.prog 114 #[v4 x.sg] w1 fun e w'=>e=.returned (v4 (ngL x.sg))/\Below w1.heap.size w1 w'):=fun w1=>e_turned x.sg hx.sg
 have HF:Hid (ftB M x.sg x.num=decide (grP M x.sg ≠ NB/\grP M (ngL x.sg) ≠ NB/\grP M x.sg+x.num<=999/\grP M (ngL x.sg) - x.num<=999)):=rfl
 obtain ⟨r1,r2⟩:=grP_rng hS x.sg
 obtain ⟨r3,r4⟩:=grP_rng hS (ngL x.sg)
 obtain ⟨n1,n2⟩:=hx.num
 obtain ⟨w0,hw0⟩:∃ w0,w0=(w.alloc (.cells (dsCells x) tDs)).alloc (.cells (oc e0 M) tO):=⟨_,rfl⟩
 have H0:Hid (At w0 w.heap.size (dsCells x) tDs/\OAt w0 (w.heap.size+1) e0 M/\Below w.heap.size w w0/\w0.heap.size=w.heap.size+2):=by
  refine ⟨by rw [hw0]; exact At.allocH (At.new _ _ _) _,?_,by rw [hw0]; exact ((Below.refl _ _).alloc (Nat.le_refl _) _).alloc (by simp) _,by rw [hw0]; simp⟩
  have:=At.new (w.alloc (.cells (dsCells x) tDs)) (oc e0 M) tO
  rw [show (w.alloc (.cells (dsCells x) tDs)).heap.size=w.heap.size+1 by simp] at this
  rw [hw0]; exact this
 generalize hn:x.num=n at *
 generalize grP M x.sg=hi at *
 generalize grP M (ngL x.sg)=lo at *
 obtain ⟨BW,hBW⟩:∃ BW:World->Prop,BW=fun w'=>Below w0.heap.size w0 w':=⟨_,rfl⟩
 have hg1:Calls Tryz.prog 116 #[.agg (oc e0 M),v4 x.sg] w0 fun e w'=>e=.returned (.int .i64 hi)/\BW w':=by rw [hBW]; exact HGr.out w0
 have HA:=H0.out.2.1
 rw [hw0] at hg1 HA
 clear hS hx HGr
 unfold dsCells at hg1 HA
 unfold v4 at hg1
 unfold dsv
 rw [hn] at hg1 HA |-
 go_enter Tryz.func115,Tryz.ntmps115
 go_wp2_with (refine wpList_load_o rfl (.tmp 3) rfl rfl HA ?_)
 refine hg1.mono ?_
 rintro e w1 ⟨rfl,hb1⟩
 rw [hBW] at hb1
 have H1:Hid (At w1 w.heap.size (dsCells x) tDs/\OAt w1 (w.heap.size+1) e0 M/\Below w.heap.size w w1):=by
  have s0:=H0.out.2.2.2
  exact ⟨At.keep H0.out.1 hb1 (by omega),At.keep H0.out.2.1 hb1 (by omega),H0.out.2.2.1.trans (hb1.mono H0.out.2.2.1.size)⟩
 clear hb1 hg1 HA hBW hw0 H0
 have HEo:Hid (∀ b:Bool,decide (hi ≠ NB/\lo ≠ NB/\hi+n<=999/\lo - n<=999)=b->ftB M x.sg n=b):=fun b h=>HF.out.trans h
 by_cases q1:hi=NB
 ·have HE:Hid (ftB M x.sg n=false):=HEo.out false (decide_eq_false (fun z=>z.1 q1))
  have b1:(hi == 1000000)=true:=by rw [q1]; rfl
  clear HF HEo q1
  go_wp2_with fail
  refine wp_region_any (by kernel_rfl) ?_
  change wpAny _ _ _ _ _ _ _ (World.drew _)
  have H2:Hid (At w1.drew w.heap.size (dsCells x) tDs/\OAt w1.drew (w.heap.size+1) e0 M/\Below w.heap.size w w1.drew):=⟨H1.out.1,H1.out.2.1,H1.out.2.2.drew⟩
  generalize w1.drew=w2 at *
  have d3:w2.cell? ⟨w.heap.size,3,none⟩=some (.int .i64 (gAt x.sg 0)):=H2.out.1.cell 3
  have d4:w2.cell? ⟨w.heap.size,4,none⟩=some (.int .i64 (gAt x.sg 1)):=H2.out.1.cell 4
  have d5:w2.cell? ⟨w.heap.size,5,none⟩=some (.int .i64 (gAt x.sg 2)):=H2.out.1.cell 5
  have d6:w2.cell? ⟨w.heap.size,6,none⟩=some (.int .i64 (gAt x.sg 3)):=H2.out.1.cell 6
  have hl2:w.heap.size < w2.heap.size:=H2.out.1.lt
  refine wpAny_take (i:=1) (v:=.pointer (some ⟨w.heap.size,3,none⟩)) rfl (by kernel_rfl) (by kernel_rfl) (by kernel_rfl) (fun _ _ _ h=>h) (Or.inl ⟨by rfl,by intro w; go_simp⟩) ?_
  refine wpAny_ready (rs:=[0,2]) (by kernel_rfl) (by simp) ?_
  refine AllReady.cons rfl (fun K hK=>?_) (AllReady.cons rfl (fun K hK=>?_) AllReady.nil)
  ·refine step_load_o rfl (.tmp 3) rfl rfl H2.out.2.1 ?_
   refine hK _ _ ?_
   clear hK K
   refine wpAny_ready (rs:=[2]) (by kernel_rfl) (by simp) ?_
   refine AllReady.cons rfl (fun K hK=>?_) AllReady.nil
   go_simp
   refine hK _ _ ?_
   clear hK K
   refine wpAny_ready (rs:=[3]) (by kernel_rfl) (by simp) ?_
   refine AllReady.cons rfl (fun K hK=>?_) AllReady.nil
   go_simp
   go_wp2_with (go_at_call 114; refine (HTu.out _).mono ?_; rintro e w3 ⟨rfl,hb3⟩)
   have H3:Hid (At w3 w.heap.size (dsCells x) tDs/\OAt w3 (w.heap.size+1) e0 M/\Below w.heap.size w w3):=⟨At.keep H2.out.1 hb3 H2.out.1.lt,At.keep H2.out.2.1 hb3 (At.lt H2.out.2.1),H2.out.2.2.trans (hb3.mono H2.out.2.2.size)⟩
   clear hb3
   refine wpAny_ready (rs:=[4]) (by kernel_rfl) (by simp) ?_
   refine AllReady.cons rfl (fun K hK=>?_) AllReady.nil
   go_simp
   go_wp2_with (go_at_call 116; refine (HGr2.out _).mono ?_; rintro e w4 ⟨rfl,hb4⟩)
   have H4:Hid (At w4 w.heap.size (dsCells x) tDs/\Below w.heap.size w w4):=⟨At.keep H3.out.1 hb4 H3.out.1.lt,H3.out.2.2.trans (hb4.mono H3.out.2.2.size)⟩
   have f7:w4.cell? ⟨w.heap.size,7,none⟩=some (.int .i64 n):=by rw [H4.out.1.cell,<- hn]; rfl
   have hl4:w.heap.size < w4.heap.size:=H4.out.1.lt
   clear hb4
   refine wpAny_take (i:=5) (v:=.int .i64 lo) rfl (by kernel_rfl) (by kernel_rfl) (by kernel_rfl) (fun _ _ _ h=>h) (Or.inl ⟨by rfl,by intro w; go_simp⟩) ?_
   refine wpAny_done (by kernel_rfl) ?_ _
   go_wp2_with fail
   go_ret
   exact ⟨ret_b' HE.out,H4.out.2⟩
  ·go_simp
   refine hK _ _ ?_
   clear hK K
   refine wpAny_ready (rs:=[0,3]) (by kernel_rfl) (by simp) ?_
   refine AllReady.cons rfl (fun K hK=>?_) (AllReady.cons rfl (fun K hK=>?_) AllReady.nil)
   ·refine step_load_o rfl (.tmp 3) rfl rfl H2.out.2.1 ?_
    refine hK _ _ ?_
    clear hK K
    refine wpAny_ready (rs:=[3]) (by kernel_rfl) (by simp) ?_
    refine AllReady.cons rfl (fun K hK=>?_) AllReady.nil
    go_simp
    go_wp2_with (go_at_call 114; refine (HTu.out _).mono ?_; rintro e w3 ⟨rfl,hb3⟩)
    have H3:Hid (At w3 w.heap.size (dsCells x) tDs/\OAt w3 (w.heap.size+1) e0 M/\Below w.heap.size w w3):=⟨At.keep H2.out.1 hb3 H2.out.1.lt,At.keep H2.out.2.1 hb3 (At.lt H2.out.2.1),H2.out.2.2.trans (hb3.mono H2.out.2.2.size)⟩
    clear hb3
    refine wpAny_ready (rs:=[4]) (by kernel_rfl) (by simp) ?_
    refine AllReady.cons rfl (fun K hK=>?_) AllReady.nil
    go_simp
    go_wp2_with (go_at_call 116; refine (HGr2.out _).mono ?_; rintro e w4 ⟨rfl,hb4⟩)
    have H4:Hid (At w4 w.heap.size (dsCells x) tDs/\Below w.heap.size w w4):=⟨At.keep H3.out.1 hb4 H3.out.1.lt,H3.out.2.2.trans (hb4.mono H3.out.2.2.size)⟩
    have f7:w4.cell? ⟨w.heap.size,7,none⟩=some (.int .i64 n):=by rw [H4.out.1.cell,<- hn]; rfl
    have hl4:w.heap.size < w4.heap.size:=H4.out.1.lt
    clear hb4
    refine wpAny_take (i:=5) (v:=.int .i64 lo) rfl (by kernel_rfl) (by kernel_rfl) (by kernel_rfl) (fun _ _ _ h=>h) (Or.inl ⟨by rfl,by intro w; go_simp⟩) ?_
    refine wpAny_done (by kernel_rfl) ?_ _
    go_wp2_with fail
    go_ret
    exact ⟨ret_b' HE.out,H4.out.2⟩
   ·go_simp
    go_wp2_with (go_at_call 114; refine (HTu.out _).mono ?_; rintro e w3 ⟨rfl,hb3⟩)
    have H3:Hid (At w3 w.heap.size (dsCells x) tDs/\OAt w3 (w.heap.size+1) e0 M/\Below w.heap.size w w3):=⟨At.keep H2.out.1 hb3 H2.out.1.lt,At.keep H2.out.2.1 hb3 (At.lt H2.out.2.1),H2.out.2.2.trans (hb3.mono H2.out.2.2.size)⟩
    clear hb3
    refine wpAny_ready (rs:=[0]) (by kernel_rfl) (by simp) ?_
    refine AllReady.cons rfl (fun K hK=>?_) AllReady.nil
    refine step_load_o rfl (.tmp 3) rfl rfl H3.out.2.1 ?_
    refine hK _ _ ?_
    clear hK K
    refine wpAny_ready (rs:=[4]) (by kernel_rfl) (by simp) ?_
    refine AllReady.cons rfl (fun K hK=>?_) AllReady.nil
    go_simp
    go_wp2_with (go_at_call 116; refine (HGr2.out _).mono ?_; rintro e w4 ⟨rfl,hb4⟩)
    have H4:Hid (At w4 w.heap.size (dsCells x) tDs/\Below w.heap.size w w4):=⟨At.keep H3.out.1 hb4 H3.out.1.lt,H3.out.2.2.trans (hb4.mono H3.out.2.2.size)⟩
    have f7:w4.cell? ⟨w.heap.size,7,none⟩=some (.int .i64 n):=by rw [H4.out.1.cell,<- hn]; rfl
    have hl4:w.heap.size < w4.heap.size:=H4.out.1.lt
    clear hb4
    refine wpAny_take (i:=5) (v:=.int .i64 lo) rfl (by kernel_rfl) (by kernel_rfl) (by kernel_rfl) (fun _ _ _ h=>h) (Or.inl ⟨by rfl,by intro w; go_simp⟩) ?_
    refine wpAny_done (by kernel_rfl) ?_ _
    go_wp2_with fail
    go_ret
    exact ⟨ret_b' HE.out,H4.out.2⟩
 have b1:(hi == 1000000)=false:=by rw [beq_eq_false_iff_ne]; exact q1
 by_cases q2:lo=NB
 ·have HE:Hid (ftB M x.sg n=false):=HEo.out false (decide_eq_false (fun z=>z.2.1 q2))
  have b2:(lo == 1000000)=true:=by rw [q2]; rfl
  clear HF HEo q1 q2
  go_wp2_with fail
  refine wp_region_any (by kernel_rfl) ?_
  change wpAny _ _ _ _ _ _ _ (World.drew _)
  have H2:Hid (At w1.drew w.heap.size (dsCells x) tDs/\OAt w1.drew (w.heap.size+1) e0 M/\Below w.heap.size w w1.drew):=⟨H1.out.1,H1.out.2.1,H1.out.2.2.drew⟩
  generalize w1.drew=w2 at *
  have d3:w2.cell? ⟨w.heap.size,3,none⟩=some (.int .i64 (gAt x.sg 0)):=H2.out.1.cell 3
  have d4:w2.cell? ⟨w.heap.size,4,none⟩=some (.int .i64 (gAt x.sg 1)):=H2.out.1.cell 4
  have d5:w2.cell? ⟨w.heap.size,5,none⟩=some (.int .i64 (gAt x.sg 2)):=H2.out.1.cell 5
  have d6:w2.cell? ⟨w.heap.size,6,none⟩=some (.int .i64 (gAt x.sg 3)):=H2.out.1.cell 6
  have hl2:w.heap.size < w2.heap.size:=H2.out.1.lt
  refine wpAny_take (i:=1) (v:=.pointer (some ⟨w.heap.size,3,none⟩)) rfl (by kernel_rfl) (by kernel_rfl) (by kernel_rfl) (fun _ _ _ h=>h) (Or.inl ⟨by rfl,by intro w; go_simp⟩) ?_
  refine wpAny_ready (rs:=[0,2]) (by kernel_rfl) (by simp) ?_
  refine AllReady.cons rfl (fun K hK=>?_) (AllReady.cons rfl (fun K hK=>?_) AllReady.nil)
  ·refine step_load_o rfl (.tmp 3) rfl rfl H2.out.2.1 ?_
   refine hK _ _ ?_
   clear hK K
   refine wpAny_ready (rs:=[2]) (by kernel_rfl) (by simp) ?_
   refine AllReady.cons rfl (fun K hK=>?_) AllReady.nil
   go_simp
   refine hK _ _ ?_
   clear hK K
   refine wpAny_ready (rs:=[3]) (by kernel_rfl) (by simp) ?_
   refine AllReady.cons rfl (fun K hK=>?_) AllReady.nil
   go_simp
   go_wp2_with (go_at_call 114; refine (HTu.out _).mono ?_; rintro e w3 ⟨rfl,hb3⟩)
   have H3:Hid (At w3 w.heap.size (dsCells x) tDs/\OAt w3 (w.heap.size+1) e0 M/\Below w.heap.size w w3):=⟨At.keep H2.out.1 hb3 H2.out.1.lt,At.keep H2.out.2.1 hb3 (At.lt H2.out.2.1),H2.out.2.2.trans (hb3.mono H2.out.2.2.size)⟩
   clear hb3
   refine wpAny_ready (rs:=[4]) (by kernel_rfl) (by simp) ?_
   refine AllReady.cons rfl (fun K hK=>?_) AllReady.nil
   go_simp
   go_wp2_with (go_at_call 116; refine (HGr2.out _).mono ?_; rintro e w4 ⟨rfl,hb4⟩)
   have H4:Hid (At w4 w.heap.size (dsCells x) tDs/\Below w.heap.size w w4):=⟨At.keep H3.out.1 hb4 H3.out.1.lt,H3.out.2.2.trans (hb4.mono H3.out.2.2.size)⟩
   have f7:w4.cell? ⟨w.heap.size,7,none⟩=some (.int .i64 n):=by rw [H4.out.1.cell,<- hn]; rfl
   have hl4:w.heap.size < w4.heap.size:=H4.out.1.lt
   clear hb4
   refine wpAny_take (i:=5) (v:=.int .i64 lo) rfl (by kernel_rfl) (by kernel_rfl) (by kernel_rfl) (fun _ _ _ h=>h) (Or.inl ⟨by rfl,by intro w; go_simp⟩) ?_
   refine wpAny_done (by kernel_rfl) ?_ _
   go_wp2_with fail
   go_ret
   exact ⟨ret_b' HE.out,H4.out.2⟩
  ·go_simp
   refine hK _ _ ?_
   clear hK K
   refine wpAny_ready (rs:=[0,3]) (by kernel_rfl) (by simp) ?_
   refine AllReady.cons rfl (fun K hK=>?_) (AllReady.cons rfl (fun K hK=>?_) AllReady.nil)
   ·refine step_load_o rfl (.tmp 3) rfl rfl H2.out.2.1 ?_
    refine hK _ _ ?_
    clear hK K
    refine wpAny_ready (rs:=[3]) (by kernel_rfl) (by simp) ?_
    refine AllReady.cons rfl (fun K hK=>?_) AllReady.nil
    go_simp
    go_wp2_with (go_at_call 114; refine (HTu.out _).mono ?_; rintro e w3 ⟨rfl,hb3⟩)
    have H3:Hid (At w3 w.heap.size (dsCells x) tDs/\OAt w3 (w.heap.size+1) e0 M/\Below w.heap.size w w3):=⟨At.keep H2.out.1 hb3 H2.out.1.lt,At.keep H2.out.2.1 hb3 (At.lt H2.out.2.1),H2.out.2.2.trans (hb3.mono H2.out.2.2.size)⟩
    clear hb3
    refine wpAny_ready (rs:=[4]) (by kernel_rfl) (by simp) ?_
    refine AllReady.cons rfl (fun K hK=>?_) AllReady.nil
    go_simp
    go_wp2_with (go_at_call 116; refine (HGr2.out _).mono ?_; rintro e w4 ⟨rfl,hb4⟩)
    have H4:Hid (At w4 w.heap.size (dsCells x) tDs/\Below w.heap.size w w4):=⟨At.keep H3.out.1 hb4 H3.out.1.lt,H3.out.2.2.trans (hb4.mono H3.out.2.2.size)⟩
    have f7:w4.cell? ⟨w.heap.size,7,none⟩=some (.int .i64 n):=by rw [H4.out.1.cell,<- hn]; rfl
    have hl4:w.heap.size < w4.heap.size:=H4.out.1.lt
    clear hb4
    refine wpAny_take (i:=5) (v:=.int .i64 lo) rfl (by kernel_rfl) (by kernel_rfl) (by kernel_rfl) (fun _ _ _ h=>h) (Or.inl ⟨by rfl,by intro w; go_simp⟩) ?_
    refine wpAny_done (by kernel_rfl) ?_ _
    go_wp2_with fail
    go_ret
    exact ⟨ret_b' HE.out,H4.out.2⟩
   ·go_simp
    go_wp2_with (go_at_call 114; refine (HTu.out _).mono ?_; rintro e w3 ⟨rfl,hb3⟩)
    have H3:Hid (At w3 w.heap.size (dsCells x) tDs/\OAt w3 (w.heap.size+1) e0 M/\Below w.heap.size w w3):=⟨At.keep H2.out.1 hb3 H2.out.1.lt,At.keep H2.out.2.1 hb3 (At.lt H2.out.2.1),H2.out.2.2.trans (hb3.mono H2.out.2.2.size)⟩
    clear hb3
    refine wpAny_ready (rs:=[0]) (by kernel_rfl) (by simp) ?_
    refine AllReady.cons rfl (fun K hK=>?_) AllReady.nil
    refine step_load_o rfl (.tmp 3) rfl rfl H3.out.2.1 ?_
    refine hK _ _ ?_
    clear hK K
    refine wpAny_ready (rs:=[4]) (by kernel_rfl) (by simp) ?_
    refine AllReady.cons rfl (fun K hK=>?_) AllReady.nil
    go_simp
    go_wp2_with (go_at_call 116; refine (HGr2.out _).mono ?_; rintro e w4 ⟨rfl,hb4⟩)
    have H4:Hid (At w4 w.heap.size (dsCells x) tDs/\Below w.heap.size w w4):=⟨At.keep H3.out.1 hb4 H3.out.1.lt,H3.out.2.2.trans (hb4.mono H3.out.2.2.size)⟩
    have f7:w4.cell? ⟨w.heap.size,7,none⟩=some (.int .i64 n):=by rw [H4.out.1.cell,<- hn]; rfl
    have hl4:w.heap.size < w4.heap.size:=H4.out.1.lt
    clear hb4
    refine wpAny_take (i:=5) (v:=.int .i64 lo) rfl (by kernel_rfl) (by kernel_rfl) (by kernel_rfl) (fun _ _ _ h=>h) (Or.inl ⟨by rfl,by intro w; go_simp⟩) ?_
    refine wpAny_done (by kernel_rfl) ?_ _
    go_wp2_with fail
    go_ret
    exact ⟨ret_b' HE.out,H4.out.2⟩
 have b2:(lo == 1000000)=false:=by rw [beq_eq_false_iff_ne]; exact q2
 by_cases q3:hi+n<=999
 ·by_cases q4:lo - n<=999
  ·have HE:Hid (ftB M x.sg n=true):=HEo.out true (decide_eq_true ⟨q1,q2,q3,q4⟩)
   clear HF HEo q1 q2
   go_wp2_with fail
   refine wp_region_any (by kernel_rfl) ?_
   change wpAny _ _ _ _ _ _ _ (World.drew _)
   have H2:Hid (At w1.drew w.heap.size (dsCells x) tDs/\OAt w1.drew (w.heap.size+1) e0 M/\Below w.heap.size w w1.drew):=⟨H1.out.1,H1.out.2.1,H1.out.2.2.drew⟩
   generalize w1.drew=w2 at *
   have d3:w2.cell? ⟨w.heap.size,3,none⟩=some (.int .i64 (gAt x.sg 0)):=H2.out.1.cell 3
   have d4:w2.cell? ⟨w.heap.size,4,none⟩=some (.int .i64 (gAt x.sg 1)):=H2.out.1.cell 4
   have d5:w2.cell? ⟨w.heap.size,5,none⟩=some (.int .i64 (gAt x.sg 2)):=H2.out.1.cell 5
   have d6:w2.cell? ⟨w.heap.size,6,none⟩=some (.int .i64 (gAt x.sg 3)):=H2.out.1.cell 6
   have hl2:w.heap.size < w2.heap.size:=H2.out.1.lt
   refine wpAny_take (i:=1) (v:=.pointer (some ⟨w.heap.size,3,none⟩)) rfl (by kernel_rfl) (by kernel_rfl) (by kernel_rfl) (fun _ _ _ h=>h) (Or.inl ⟨by rfl,by intro w; go_simp⟩) ?_
   refine wpAny_ready (rs:=[0,2]) (by kernel_rfl) (by simp) ?_
   refine AllReady.cons rfl (fun K hK=>?_) (AllReady.cons rfl (fun K hK=>?_) AllReady.nil)
   ·refine step_load_o rfl (.tmp 3) rfl rfl H2.out.2.1 ?_
    refine hK _ _ ?_
    clear hK K
    refine wpAny_ready (rs:=[2]) (by kernel_rfl) (by simp) ?_
    refine AllReady.cons rfl (fun K hK=>?_) AllReady.nil
    go_simp
    refine hK _ _ ?_
    clear hK K
    refine wpAny_ready (rs:=[3]) (by kernel_rfl) (by simp) ?_
    refine AllReady.cons rfl (fun K hK=>?_) AllReady.nil
    go_simp
    go_wp2_with (go_at_call 114; refine (HTu.out _).mono ?_; rintro e w3 ⟨rfl,hb3⟩)
    have H3:Hid (At w3 w.heap.size (dsCells x) tDs/\OAt w3 (w.heap.size+1) e0 M/\Below w.heap.size w w3):=⟨At.keep H2.out.1 hb3 H2.out.1.lt,At.keep H2.out.2.1 hb3 (At.lt H2.out.2.1),H2.out.2.2.trans (hb3.mono H2.out.2.2.size)⟩
    clear hb3
    refine wpAny_ready (rs:=[4]) (by kernel_rfl) (by simp) ?_
    refine AllReady.cons rfl (fun K hK=>?_) AllReady.nil
    go_simp
    go_wp2_with (go_at_call 116; refine (HGr2.out _).mono ?_; rintro e w4 ⟨rfl,hb4⟩)
    have H4:Hid (At w4 w.heap.size (dsCells x) tDs/\Below w.heap.size w w4):=⟨At.keep H3.out.1 hb4 H3.out.1.lt,H3.out.2.2.trans (hb4.mono H3.out.2.2.size)⟩
    have f7:w4.cell? ⟨w.heap.size,7,none⟩=some (.int .i64 n):=by rw [H4.out.1.cell,<- hn]; rfl
    have hl4:w.heap.size < w4.heap.size:=H4.out.1.lt
    clear hb4
    refine wpAny_take (i:=5) (v:=.int .i64 lo) rfl (by kernel_rfl) (by kernel_rfl) (by kernel_rfl) (fun _ _ _ h=>h) (Or.inl ⟨by rfl,by intro w; go_simp⟩) ?_
    refine wpAny_done (by kernel_rfl) ?_ _
    go_wp2_with fail
    go_ret
    exact ⟨ret_b' HE.out,H4.out.2⟩
   ·go_simp
    refine hK _ _ ?_
    clear hK K
    refine wpAny_ready (rs:=[0,3]) (by kernel_rfl) (by simp) ?_
    refine AllReady.cons rfl (fun K hK=>?_) (AllReady.cons rfl (fun K hK=>?_) AllReady.nil)
    ·refine step_load_o rfl (.tmp 3) rfl rfl H2.out.2.1 ?_
     refine hK _ _ ?_
     clear hK K
     refine wpAny_ready (rs:=[3]) (by kernel_rfl) (by simp) ?_
     refine AllReady.cons rfl (fun K hK=>?_) AllReady.nil
     go_simp
     go_wp2_with (go_at_call 114; refine (HTu.out _).mono ?_; rintro e w3 ⟨rfl,hb3⟩)
     have H3:Hid (At w3 w.heap.size (dsCells x) tDs/\OAt w3 (w.heap.size+1) e0 M/\Below w.heap.size w w3):=⟨At.keep H2.out.1 hb3 H2.out.1.lt,At.keep H2.out.2.1 hb3 (At.lt H2.out.2.1),H2.out.2.2.trans (hb3.mono H2.out.2.2.size)⟩
     clear hb3
     refine wpAny_ready (rs:=[4]) (by kernel_rfl) (by simp) ?_
     refine AllReady.cons rfl (fun K hK=>?_) AllReady.nil
     go_simp
     go_wp2_with (go_at_call 116; refine (HGr2.out _).mono ?_; rintro e w4 ⟨rfl,hb4⟩)
     have H4:Hid (At w4 w.heap.size (dsCells x) tDs/\Below w.heap.size w w4):=⟨At.keep H3.out.1 hb4 H3.out.1.lt,H3.out.2.2.trans (hb4.mono H3.out.2.2.size)⟩
     have f7:w4.cell? ⟨w.heap.size,7,none⟩=some (.int .i64 n):=by rw [H4.out.1.cell,<- hn]; rfl
     have hl4:w.heap.size < w4.heap.size:=H4.out.1.lt
     clear hb4
     refine wpAny_take (i:=5) (v:=.int .i64 lo) rfl (by kernel_rfl) (by kernel_rfl) (by kernel_rfl) (fun _ _ _ h=>h) (Or.inl ⟨by rfl,by intro w; go_simp⟩) ?_
     refine wpAny_done (by kernel_rfl) ?_ _
     go_wp2_with fail
     go_ret
     exact ⟨ret_b' HE.out,H4.out.2⟩
    ·go_simp
     go_wp2_with (go_at_call 114; refine (HTu.out _).mono ?_; rintro e w3 ⟨rfl,hb3⟩)
     have H3:Hid (At w3 w.heap.size (dsCells x) tDs/\OAt w3 (w.heap.size+1) e0 M/\Below w.heap.size w w3):=⟨At.keep H2.out.1 hb3 H2.out.1.lt,At.keep H2.out.2.1 hb3 (At.lt H2.out.2.1),H2.out.2.2.trans (hb3.mono H2.out.2.2.size)⟩
     clear hb3
     refine wpAny_ready (rs:=[0]) (by kernel_rfl) (by simp) ?_
     refine AllReady.cons rfl (fun K hK=>?_) AllReady.nil
     refine step_load_o rfl (.tmp 3) rfl rfl H3.out.2.1 ?_
     refine hK _ _ ?_
     clear hK K
     refine wpAny_ready (rs:=[4]) (by kernel_rfl) (by simp) ?_
     refine AllReady.cons rfl (fun K hK=>?_) AllReady.nil
     go_simp
     go_wp2_with (go_at_call 116; refine (HGr2.out _).mono ?_; rintro e w4 ⟨rfl,hb4⟩)
     have H4:Hid (At w4 w.heap.size (dsCells x) tDs/\Below w.heap.size w w4):=⟨At.keep H3.out.1 hb4 H3.out.1.lt,H3.out.2.2.trans (hb4.mono H3.out.2.2.size)⟩
     have f7:w4.cell? ⟨w.heap.size,7,none⟩=some (.int .i64 n):=by rw [H4.out.1.cell,<- hn]; rfl
     have hl4:w.heap.size < w4.heap.size:=H4.out.1.lt
     clear hb4
     refine wpAny_take (i:=5) (v:=.int .i64 lo) rfl (by kernel_rfl) (by kernel_rfl) (by kernel_rfl) (fun _ _ _ h=>h) (Or.inl ⟨by rfl,by intro w; go_simp⟩) ?_
     refine wpAny_done (by kernel_rfl) ?_ _
     go_wp2_with fail
     go_ret
     exact ⟨ret_b' HE.out,H4.out.2⟩
  ·have HE:Hid (ftB M x.sg n=decide (lo - n<=999)):=(HEo.out false (decide_eq_false (fun z=>q4 z.2.2.2))).trans (decide_eq_false q4).symm
   clear HF HEo q1 q2
   go_wp2_with fail
   refine wp_region_any (by kernel_rfl) ?_
   change wpAny _ _ _ _ _ _ _ (World.drew _)
   have H2:Hid (At w1.drew w.heap.size (dsCells x) tDs/\OAt w1.drew (w.heap.size+1) e0 M/\Below w.heap.size w w1.drew):=⟨H1.out.1,H1.out.2.1,H1.out.2.2.drew⟩
   generalize w1.drew=w2 at *
   have d3:w2.cell? ⟨w.heap.size,3,none⟩=some (.int .i64 (gAt x.sg 0)):=H2.out.1.cell 3
   have d4:w2.cell? ⟨w.heap.size,4,none⟩=some (.int .i64 (gAt x.sg 1)):=H2.out.1.cell 4
   have d5:w2.cell? ⟨w.heap.size,5,none⟩=some (.int .i64 (gAt x.sg 2)):=H2.out.1.cell 5
   have d6:w2.cell? ⟨w.heap.size,6,none⟩=some (.int .i64 (gAt x.sg 3)):=H2.out.1.cell 6
   have hl2:w.heap.size < w2.heap.size:=H2.out.1.lt
   refine wpAny_take (i:=1) (v:=.pointer (some ⟨w.heap.size,3,none⟩)) rfl (by kernel_rfl) (by kernel_rfl) (by kernel_rfl) (fun _ _ _ h=>h) (Or.inl ⟨by rfl,by intro w; go_simp⟩) ?_
   refine wpAny_ready (rs:=[0,2]) (by kernel_rfl) (by simp) ?_
   refine AllReady.cons rfl (fun K hK=>?_) (AllReady.cons rfl (fun K hK=>?_) AllReady.nil)
   ·refine step_load_o rfl (.tmp 3) rfl rfl H2.out.2.1 ?_
    refine hK _ _ ?_
    clear hK K
    refine wpAny_ready (rs:=[2]) (by kernel_rfl) (by simp) ?_
    refine AllReady.cons rfl (fun K hK=>?_) AllReady.nil
    go_simp
    refine hK _ _ ?_
    clear hK K
    refine wpAny_ready (rs:=[3]) (by kernel_rfl) (by simp) ?_
    refine AllReady.cons rfl (fun K hK=>?_) AllReady.nil
    go_simp
    go_wp2_with (go_at_call 114; refine (HTu.out _).mono ?_; rintro e w3 ⟨rfl,hb3⟩)
    have H3:Hid (At w3 w.heap.size (dsCells x) tDs/\OAt w3 (w.heap.size+1) e0 M/\Below w.heap.size w w3):=⟨At.keep H2.out.1 hb3 H2.out.1.lt,At.keep H2.out.2.1 hb3 (At.lt H2.out.2.1),H2.out.2.2.trans (hb3.mono H2.out.2.2.size)⟩
    clear hb3
    refine wpAny_ready (rs:=[4]) (by kernel_rfl) (by simp) ?_
    refine AllReady.cons rfl (fun K hK=>?_) AllReady.nil
    go_simp
    go_wp2_with (go_at_call 116; refine (HGr2.out _).mono ?_; rintro e w4 ⟨rfl,hb4⟩)
    have H4:Hid (At w4 w.heap.size (dsCells x) tDs/\Below w.heap.size w w4):=⟨At.keep H3.out.1 hb4 H3.out.1.lt,H3.out.2.2.trans (hb4.mono H3.out.2.2.size)⟩
    have f7:w4.cell? ⟨w.heap.size,7,none⟩=some (.int .i64 n):=by rw [H4.out.1.cell,<- hn]; rfl
    have hl4:w.heap.size < w4.heap.size:=H4.out.1.lt
    clear hb4
    refine wpAny_take (i:=5) (v:=.int .i64 lo) rfl (by kernel_rfl) (by kernel_rfl) (by kernel_rfl) (fun _ _ _ h=>h) (Or.inl ⟨by rfl,by intro w; go_simp⟩) ?_
    refine wpAny_done (by kernel_rfl) ?_ _
    go_wp2_with fail
    go_ret
    exact ⟨ret_b' HE.out,H4.out.2⟩
   ·go_simp
    refine hK _ _ ?_
    clear hK K
    refine wpAny_ready (rs:=[0,3]) (by kernel_rfl) (by simp) ?_
    refine AllReady.cons rfl (fun K hK=>?_) (AllReady.cons rfl (fun K hK=>?_) AllReady.nil)
    ·refine step_load_o rfl (.tmp 3) rfl rfl H2.out.2.1 ?_
     refine hK _ _ ?_
     clear hK K
     refine wpAny_ready (rs:=[3]) (by kernel_rfl) (by simp) ?_
     refine AllReady.cons rfl (fun K hK=>?_) AllReady.nil
     go_simp
     go_wp2_with (go_at_call 114; refine (HTu.out _).mono ?_; rintro e w3 ⟨rfl,hb3⟩)
     have H3:Hid (At w3 w.heap.size (dsCells x) tDs/\OAt w3 (w.heap.size+1) e0 M/\Below w.heap.size w w3):=⟨At.keep H2.out.1 hb3 H2.out.1.lt,At.keep H2.out.2.1 hb3 (At.lt H2.out.2.1),H2.out.2.2.trans (hb3.mono H2.out.2.2.size)⟩
     clear hb3
     refine wpAny_ready (rs:=[4]) (by kernel_rfl) (by simp) ?_
     refine AllReady.cons rfl (fun K hK=>?_) AllReady.nil
     go_simp
     go_wp2_with (go_at_call 116; refine (HGr2.out _).mono ?_; rintro e w4 ⟨rfl,hb4⟩)
     have H4:Hid (At w4 w.heap.size (dsCells x) tDs/\Below w.heap.size w w4):=⟨At.keep H3.out.1 hb4 H3.out.1.lt,H3.out.2.2.trans (hb4.mono H3.out.2.2.size)⟩
     have f7:w4.cell? ⟨w.heap.size,7,none⟩=some (.int .i64 n):=by rw [H4.out.1.cell,<- hn]; rfl
     have hl4:w.heap.size < w4.heap.size:=H4.out.1.lt
     clear hb4
     refine wpAny_take (i:=5) (v:=.int .i64 lo) rfl (by kernel_rfl) (by kernel_rfl) (by kernel_rfl) (fun _ _ _ h=>h) (Or.inl ⟨by rfl,by intro w; go_simp⟩) ?_
     refine wpAny_done (by kernel_rfl) ?_ _
     go_wp2_with fail
     go_ret
     exact ⟨ret_b' HE.out,H4.out.2⟩
    ·go_simp
     go_wp2_with (go_at_call 114; refine (HTu.out _).mono ?_; rintro e w3 ⟨rfl,hb3⟩)
     have H3:Hid (At w3 w.heap.size (dsCells x) tDs/\OAt w3 (w.heap.size+1) e0 M/\Below w.heap.size w w3):=⟨At.keep H2.out.1 hb3 H2.out.1.lt,At.keep H2.out.2.1 hb3 (At.lt H2.out.2.1),H2.out.2.2.trans (hb3.mono H2.out.2.2.size)⟩
     clear hb3
     refine wpAny_ready (rs:=[0]) (by kernel_rfl) (by simp) ?_
     refine AllReady.cons rfl (fun K hK=>?_) AllReady.nil
     refine step_load_o rfl (.tmp 3) rfl rfl H3.out.2.1 ?_
     refine hK _ _ ?_
     clear hK K
     refine wpAny_ready (rs:=[4]) (by kernel_rfl) (by simp) ?_
     refine AllReady.cons rfl (fun K hK=>?_) AllReady.nil
     go_simp
     go_wp2_with (go_at_call 116; refine (HGr2.out _).mono ?_; rintro e w4 ⟨rfl,hb4⟩)
     have H4:Hid (At w4 w.heap.size (dsCells x) tDs/\Below w.heap.size w w4):=⟨At.keep H3.out.1 hb4 H3.out.1.lt,H3.out.2.2.trans (hb4.mono H3.out.2.2.size)⟩
     have f7:w4.cell? ⟨w.heap.size,7,none⟩=some (.int .i64 n):=by rw [H4.out.1.cell,<- hn]; rfl
     have hl4:w.heap.size < w4.heap.size:=H4.out.1.lt
     clear hb4
     refine wpAny_take (i:=5) (v:=.int .i64 lo) rfl (by kernel_rfl) (by kernel_rfl) (by kernel_rfl) (fun _ _ _ h=>h) (Or.inl ⟨by rfl,by intro w; go_simp⟩) ?_
     refine wpAny_done (by kernel_rfl) ?_ _
     go_wp2_with fail
     go_ret
     exact ⟨ret_b' HE.out,H4.out.2⟩
 ·have HE:Hid (ftB M x.sg n=false):=HEo.out false (decide_eq_false (fun z=>q3 z.2.2.1))
  clear HF HEo q1 q2
  go_wp2_with fail
  refine wp_region_any (by kernel_rfl) ?_
  change wpAny _ _ _ _ _ _ _ (World.drew _)
  have H2:Hid (At w1.drew w.heap.size (dsCells x) tDs/\OAt w1.drew (w.heap.size+1) e0 M/\Below w.heap.size w w1.drew):=⟨H1.out.1,H1.out.2.1,H1.out.2.2.drew⟩
  generalize w1.drew=w2 at *
  have d3:w2.cell? ⟨w.heap.size,3,none⟩=some (.int .i64 (gAt x.sg 0)):=H2.out.1.cell 3
  have d4:w2.cell? ⟨w.heap.size,4,none⟩=some (.int .i64 (gAt x.sg 1)):=H2.out.1.cell 4
  have d5:w2.cell? ⟨w.heap.size,5,none⟩=some (.int .i64 (gAt x.sg 2)):=H2.out.1.cell 5
  have d6:w2.cell? ⟨w.heap.size,6,none⟩=some (.int .i64 (gAt x.sg 3)):=H2.out.1.cell 6
  have hl2:w.heap.size < w2.heap.size:=H2.out.1.lt
  refine wpAny_take (i:=1) (v:=.pointer (some ⟨w.heap.size,3,none⟩)) rfl (by kernel_rfl) (by kernel_rfl) (by kernel_rfl) (fun _ _ _ h=>h) (Or.inl ⟨by rfl,by intro w; go_simp⟩) ?_
  refine wpAny_ready (rs:=[0,2]) (by kernel_rfl) (by simp) ?_
  refine AllReady.cons rfl (fun K hK=>?_) (AllReady.cons rfl (fun K hK=>?_) AllReady.nil)
  ·refine step_load_o rfl (.tmp 3) rfl rfl H2.out.2.1 ?_
   refine hK _ _ ?_
   clear hK K
   refine wpAny_ready (rs:=[2]) (by kernel_rfl) (by simp) ?_
   refine AllReady.cons rfl (fun K hK=>?_) AllReady.nil
   go_simp
   refine hK _ _ ?_
   clear hK K
   refine wpAny_ready (rs:=[3]) (by kernel_rfl) (by simp) ?_
   refine AllReady.cons rfl (fun K hK=>?_) AllReady.nil
   go_simp
   go_wp2_with (go_at_call 114; refine (HTu.out _).mono ?_; rintro e w3 ⟨rfl,hb3⟩)
   have H3:Hid (At w3 w.heap.size (dsCells x) tDs/\OAt w3 (w.heap.size+1) e0 M/\Below w.heap.size w w3):=⟨At.keep H2.out.1 hb3 H2.out.1.lt,At.keep H2.out.2.1 hb3 (At.lt H2.out.2.1),H2.out.2.2.trans (hb3.mono H2.out.2.2.size)⟩
   clear hb3
   refine wpAny_ready (rs:=[4]) (by kernel_rfl) (by simp) ?_
   refine AllReady.cons rfl (fun K hK=>?_) AllReady.nil
   go_simp
   go_wp2_with (go_at_call 116; refine (HGr2.out _).mono ?_; rintro e w4 ⟨rfl,hb4⟩)
   have H4:Hid (At w4 w.heap.size (dsCells x) tDs/\Below w.heap.size w w4):=⟨At.keep H3.out.1 hb4 H3.out.1.lt,H3.out.2.2.trans (hb4.mono H3.out.2.2.size)⟩
   have f7:w4.cell? ⟨w.heap.size,7,none⟩=some (.int .i64 n):=by rw [H4.out.1.cell,<- hn]; rfl
   have hl4:w.heap.size < w4.heap.size:=H4.out.1.lt
   clear hb4
   refine wpAny_take (i:=5) (v:=.int .i64 lo) rfl (by kernel_rfl) (by kernel_rfl) (by kernel_rfl) (fun _ _ _ h=>h) (Or.inl ⟨by rfl,by intro w; go_simp⟩) ?_
   refine wpAny_done (by kernel_rfl) ?_ _
   go_wp2_with fail
   go_ret
   exact ⟨ret_b' HE.out,H4.out.2⟩
  ·go_simp
   refine hK _ _ ?_
   clear hK K
   refine wpAny_ready (rs:=[0,3]) (by kernel_rfl) (by simp) ?_
   refine AllReady.cons rfl (fun K hK=>?_) (AllReady.cons rfl (fun K hK=>?_) AllReady.nil)
   ·refine step_load_o rfl (.tmp 3) rfl rfl H2.out.2.1 ?_
    refine hK _ _ ?_
    clear hK K
    refine wpAny_ready (rs:=[3]) (by kernel_rfl) (by simp) ?_
    refine AllReady.cons rfl (fun K hK=>?_) AllReady.nil
    go_simp
    go_wp2_with (go_at_call 114; refine (HTu.out _).mono ?_; rintro e w3 ⟨rfl,hb3⟩)
    have H3:Hid (At w3 w.heap.size (dsCells x) tDs/\OAt w3 (w.heap.size+1) e0 M/\Below w.heap.size w w3):=⟨At.keep H2.out.1 hb3 H2.out.1.lt,At.keep H2.out.2.1 hb3 (At.lt H2.out.2.1),H2.out.2.2.trans (hb3.mono H2.out.2.2.size)⟩
    clear hb3
    refine wpAny_ready (rs:=[4]) (by kernel_rfl) (by simp) ?_
    refine AllReady.cons rfl (fun K hK=>?_) AllReady.nil
    go_simp
    go_wp2_with (go_at_call 116; refine (HGr2.out _).mono ?_; rintro e w4 ⟨rfl,hb4⟩)
    have H4:Hid (At w4 w.heap.size (dsCells x) tDs/\Below w.heap.size w w4):=⟨At.keep H3.out.1 hb4 H3.out.1.lt,H3.out.2.2.trans (hb4.mono H3.out.2.2.size)⟩
    have f7:w4.cell? ⟨w.heap.size,7,none⟩=some (.int .i64 n):=by rw [H4.out.1.cell,<- hn]; rfl
    have hl4:w.heap.size < w4.heap.size:=H4.out.1.lt
    clear hb4
    refine wpAny_take (i:=5) (v:=.int .i64 lo) rfl (by kernel_rfl) (by kernel_rfl) (by kernel_rfl) (fun _ _ _ h=>h) (Or.inl ⟨by rfl,by intro w; go_simp⟩) ?_
    refine wpAny_done (by kernel_rfl) ?_ _
    go_wp2_with fail
    go_ret
    exact ⟨ret_b' HE.out,H4.out.2⟩
   ·go_simp
    go_wp2_with (go_at_call 114; refine (HTu.out _).mono ?_; rintro e w3 ⟨rfl,hb3⟩)
    have H3:Hid (At w3 w.heap.size (dsCells x) tDs/\OAt w3 (w.heap.size+1) e0 M/\Below w.heap.size w w3):=⟨At.keep H2.out.1 hb3 H2.out.1.lt,At.keep H2.out.2.1 hb3 (At.lt H2.out.2.1),H2.out.2.2.trans (hb3.mono H2.out.2.2.size)⟩
    clear hb3
    refine wpAny_ready (rs:=[0]) (by kernel_rfl) (by simp) ?_
    refine AllReady.cons rfl (fun K hK=>?_) AllReady.nil
    refine step_load_o rfl (.tmp 3) rfl rfl H3.out.2.1 ?_
    refine hK _ _ ?_
    clear hK K
    refine wpAny_ready (rs:=[4]) (by kernel_rfl) (by simp) ?_
    refine AllReady.cons rfl (fun K hK=>?_) AllReady.nil
    go_simp
    go_wp2_with (go_at_call 116; refine (HGr2.out _).mono ?_; rintro e w4 ⟨rfl,hb4⟩)
    have H4:Hid (At w4 w.heap.size (dsCells x) tDs/\Below w.heap.size w w4):=⟨At.keep H3.out.1 hb4 H3.out.1.lt,H3.out.2.2.trans (hb4.mono H3.out.2.2.size)⟩
    have f7:w4.cell? ⟨w.heap.size,7,none⟩=some (.int .i64 n):=by rw [H4.out.1.cell,<- hn]; rfl
    have hl4:w.heap.size < w4.heap.size:=H4.out.1.lt
    clear hb4
    refine wpAny_take (i:=5) (v:=.int .i64 lo) rfl (by kernel_rfl) (by kernel_rfl) (by kernel_rfl) (fun _ _ _ h=>h) (Or.inl ⟨by rfl,by intro w; go_simp⟩) ?_
    refine wpAny_done (by kernel_rfl) ?_ _
    go_wp2_with fail
    go_ret
    exact ⟨ret_b' HE.out,H4.out.2⟩
end Go.Proofs.YtffajooegiempaaGreatDoor

