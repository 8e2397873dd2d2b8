import Derived.Test.YtffajooegiempaaGreatDoorJ3
import Derived.Laws.Rows
import Derived.Laws.Tables
import Derived.Great.BuildSlice
set_option maxRecDepth 100000
set_option maxHeartbeats 6400000
namespace Go.Proofs.YtffajooegiempaaGreatDoor
open Go.RowKit
variable {w:World} {b:Nat} {e0:Bool} {M:Nat->Int}
theorem o_zero (w:World):(zeroValue 90).run Tryz.prog w=.ok (.agg (oc false fun _=>0)) w:=by kernel_rfl
theorem oc_one (e:Bool) (M:Nat->Int):∀ v,v ∈ (oc e M).toList->v.oneCell'=true:=by
 intro v hv
 simp [oc] at hv
 rcases hv with rfl | ⟨k,_,rfl⟩ <;> rfl
theorem o_store (h:OAt w b e0 M) (e':Bool) (M':Nat->Int):∃ w1,(storeCells ⟨b,0,none⟩ (oc e' M').toList).run Tryz.prog w=.ok () w1/\OAt w1 b e' M'/\Onl b w w1:=by
 have hr:=run_storeCells_at Tryz.prog b 0 tO (oc e' M').toList 0 (oc e0 M) w h (by simp [oc_size]) (oc_one e' M')
 refine ⟨_,hr,?_,?_⟩
 ·have:=setRow_heap w b (oc e0 M) ((oc e0 M).toList.take (0+0) ++ (oc e' M').toList ++ (oc e0 M).toList.drop (0+0+(oc e' M').toList.length)).toArray tO (0,0) h
  have e1:((oc e0 M).toList.take (0+0) ++ (oc e' M').toList ++ (oc e0 M).toList.drop (0+0+(oc e' M').toList.length)).toArray=oc e' M':=by
   rw [List.drop_of_length_le (by simp [oc_size])]
   simp
  rw [e1] at this |-
  exact this
 ·exact ⟨rfl,rfl,rfl,by simp [World.setRow],fun k _ hk=>setRow_other w b k _ (fun e=>hk e)⟩
theorem o_loadVar (h:OAt w b e0 M):(loadVar tO ⟨b,0,none⟩).run Tryz.prog w=.ok (.agg (oc e0 M)) w :=
 run_loadVar_row w b tO tO (oc e0 M) (0,0) _ h Tryz.underlying90 rfl (by rw [oc_size]; kernel_rfl)
theorem o_loadAt (h:OAt w b e0 M):(Instr.loadAt tO (.pointer (some ⟨b,0,none⟩))).run Tryz.prog w=.ok (.agg (oc e0 M)) w:=by
 simp only [Instr.loadAt,Instr.sureAddr,Sem.run_bind,Sem.run_pure,Result.andThen]
 exact o_loadVar h
theorem wpList_load_o {ops:Array Oper} {rest:List Oper} {o:Oper} {a:Act} {Q:Exit->Act->World->Prop} (hg:o.guard=none) (p:Operand) (hop:o.op=Op.load tO p) (hp:a.eval p=.pointer (some ⟨b,0,none⟩)) (hat:OAt w b e0 M)
  (hK:wpList Tryz.prog ops Q rest (a.put o.dst (.agg (oc e0 M))) w):wpList Tryz.prog ops Q (o :: rest) a w:=by
 refine wpList_plain hg fun K hK'=>?_
 unfold Oper.wp
 simp [execOp,hop,hp,o_loadAt hat,Result.andThen]
 exact hK' _ _ hK
theorem results_oc {fn:Func} {t u:Tmp} (h:fn.results=#[.cell t tO,.tmp u]) (tmps:Array Value) (hp:tmps.getD t undef=.pointer (some ⟨b,0,none⟩)) (hat:OAt w b e0 M) :
  (results fn tmps).run Tryz.prog w=.ok (.tuple #[.agg (oc e0 M),tmps.getD u undef]) w:=by
 have hp':tmps[t]?.getD undef=.pointer (some ⟨b,0,none⟩):=by simpa using hp
 simp [results,h,hp',asAddr,o_loadVar hat]
theorem results_o {fn:Func} {t:Tmp} (h:fn.results=#[.cell t tO]) (tmps:Array Value) (hp:tmps.getD t undef=.pointer (some ⟨b,0,none⟩)) (hat:OAt w b e0 M) :
  (results fn tmps).run Tryz.prog w=.ok (.agg (oc e0 M)) w:=by
 have hp':tmps[t]?.getD undef=.pointer (some ⟨b,0,none⟩):=by simpa using hp
 simp [results,h,hp',asAddr,o_loadVar hat]
def ovM (l:List Int):Nat->Int:=sharp (lay l 32)
def ovE (l:List Int):Bool:=conF (ovM l) 8
theorem o_read_ok (hG:Glob w) (v:Value) (l:List Int) (hl:okL l) (hv:Reads w v l) :
  Calls Tryz.prog 73 #[v] w fun e w'=>e=.returned (.tuple #[.agg (oc (ovE l) (ovM l)),.int .i64 0])/\Below w.heap.size w w':=by
 have hil:=o_isList (w:=w.alloc (.cells (oc false fun _=>0) tO)) v l (hv.keep ((Below.refl _ w).alloc (Nat.le_refl _) (.cells (oc false fun _=>0) tO)))
 rw [gdB_ok.2 hl] at hil
 obtain ⟨ao,cap,rfl,hcap,h0⟩:=hv
 have hl1:=hl.1
 obtain ⟨p,off,rfl,hp,hcell⟩:=h0 (by omega)
 have hz:=o_zero
 obtain ⟨w1,hst1,hat1,ho1⟩:=o_store (w:=(w.alloc (.cells (oc false fun _=>0) tO)).alloc (.cells (oc false fun _=>0) tO)) (b:=w.heap.size+1) (by have:=At.new (w.alloc (.cells (oc false fun _=>0) tO)) (oc false fun _=>0) tO; rw [show (w.alloc (.cells (oc false fun _=>0) tO)).heap.size=w.heap.size+1 by simp] at this; exact this) false (fun _=>0)
 have hatr:OAt w1 w.heap.size false (fun _=>0):=ho1.at_ (At.allocH (At.new w _ _) _) (by omega)
 have hb1:Below w.heap.size w w1:=(((Below.refl _ _).alloc (Nat.le_refl _) _).alloc (by simp) _).trans (ho1.below (by omega) (by simp; omega))
 have hs1:w.heap.size+2<=w1.heap.size:=by have:=ho1.size; simpa using this
 have HA1:Hid (OAt w1 (w.heap.size+1) false (fun _=>0)):=hat1
 have HR1:Hid (OAt w1 w.heap.size false (fun _=>0)):=hatr
 have HB1:Hid (Below w.heap.size w w1):=hb1
 clear hat1 hatr hb1 ho1
 have HSB:Hid (∀ wr f (N:Nat->Int),f < 32->isB (l.getD f 0)=true->Below w.heap.size w wr->OAt wr (w.heap.size+1) false N->Calls Tryz.prog 108 #[.pointer (some ⟨w.heap.size+1,0,none⟩),.int .i64 (f:Int),.int .i64 (l.getD f 0)] wr fun e w'=>e=.returned (.tuple #[])/\Hid (OAt w' (w.heap.size+1) false (sb N f (l.getD f 0))/\Onl (w.heap.size+1) wr w')):=by
  intro wr f N hf hb hbel hat
  have hgs:=hG.size
  have hb':-4000<=l.getD f 0/\l.getD f 0<=1000000:=by
   unfold isB at hb
   have:=of_decide_eq_true hb
   unfold NB at this
   omega
  refine (o_setBound (hG.keep hbel hgs) (by omega) hat f hf (l.getD f 0) hb').mono ?_
  rintro e w2 ⟨rfl,h1,h2⟩
  exact ⟨rfl,h1,h2⟩
 have HC:Hid (∀ i,i < 32->w.cell? ⟨p,off+i,none⟩=some (.int .i64 (l.getD i 0))):=fun i hi=>hcell i (by omega)
 have HI:Hid (∀ i,i < 32->isB (l.getD i 0)=true):=hl.2
 rw [hl1] at hil |-
 clear h0 hcell hG hl hcap
 go_enter Tryz.func73,Tryz.ntmps73
 go_wp2_with fail
 refine hil.mono ?_
 rintro e w2 ⟨rfl,hw2⟩
 subst hw2
 clear hil
 go_wp2_with fail
 go_loopw [14] (fun i wr=>∃ (f:Nat),f<=32/\i=.int .i64 f/\Hid (OAt wr (w.heap.size+1) false (lay l f)/\OAt wr w.heap.size false (fun _=>0)/\Below w.heap.size w wr/\w.heap.size+2<=wr.heap.size)) (fun i _=>32 - (intOf i).toNat)
 case atStart=>exact ⟨0,by omega,rfl,HA1.out,HR1.out,HB1.out,hs1⟩
 case round =>
  obtain ⟨f,hf,rfl,HR⟩:=hrel
  by_cases hlt:f < 32
  ·have hfi:(f:Int) < 32:=by omega
   have cx:wr.cell? ⟨p,off+f,none⟩=some (.int .i64 (l.getD f 0)):=(HR.out.2.2.1.cell (by exact hp)).trans (HC.out f (by omega))
   have hset:=HSB.out wr f (lay l f) (by omega) (HI.out f (by omega)) HR.out.2.2.1 HR.out.1
   have HLy:Hid (lay l (f+1)=sb (lay l f) f (l.getD f 0)):=rfl
   generalize l.getD f 0=x at *
   go_wp2_with fail
   refine hset.mono ?_
   rintro e w3 ⟨rfl,H3⟩
   go_wp2_with fail
   go_roundw
   case rel=>exact ⟨f+1,by omega,by go_num,by rw [HLy.out]; exact H3.out.1,H3.out.2.at_ HR.out.2.1 (by omega),HR.out.2.2.1.trans (H3.out.2.below (by omega) (by have:=HR.out.2.2.2; omega)),Nat.le_trans HR.out.2.2.2 H3.out.2.size⟩
   case measure=>simp [intOf]; omega
  ·have hff:f=32:=by omega
   subst hff
   have hsh:=o_sharpen HR.out.1 (lay_rng l 32 HI.out)
   go_wp2_with fail
   refine hsh.mono ?_
   rintro e w3 ⟨rfl,h3,ho3⟩
   have hr3:OAt w3 w.heap.size false (fun _=>0):=ho3.at_ HR.out.2.1 (by omega)
   have H3:Hid (OAt w3 (w.heap.size+1) (ovE l) (ovM l)):=h3
   obtain ⟨w5,hst5,hat5,ho5⟩:=o_store hr3 (ovE l) (ovM l)
   have hb3:Below w.heap.size w w3:=HR.out.2.2.1.trans (ho3.below (by omega) (by have:=HR.out.2.2.2; omega))
   have H5:Hid (OAt w5 w.heap.size (ovE l) (ovM l)/\Below w.heap.size w w5):=⟨hat5,hb3.trans (ho5.below (Nat.le_refl _) hb3.size)⟩
   clear hat5 ho5 hsh h3 ho3 hr3 hb3
   go_wp2_with (refine wpList_load_o rfl (.tmp 4) rfl rfl H3.out ?_)
   try simp only [Exit.inBlock,Exit.then]
   refine bodyPost_ret (results_oc rfl _ rfl H5.out.1) rfl ?_
   exact ⟨rfl,H5.out.2⟩
end Go.Proofs.YtffajooegiempaaGreatDoor

namespace Go.Proofs.YtffajooegiempaaGreatDoor
open Go.RowKit
variable {w:World} {b:Nat} {e0:Bool} {M:Nat->Int}
abbrev tNo:TypeId:=3
def mo (M:Nat->Int) (i j:Nat):Int:=if i=j/\M (i*8+j) ≠ NB then (M (i*8+j)).tdiv 2 else M (i*8+j)
def bd (M:Nat->Int) (f:Nat):Int:=if fs f=ss f/\M (fs f*8+ss f) ≠ NB then (M (fs f*8+ss f)).tdiv 2 else M (fs f*8+ss f)
theorem o_most (i j:Nat) (hi:i < 8) (hj:j < 8) (hS:-200000000000000000<=M (i*8+j)/\M (i*8+j)<=1000000000000000) :
  Calls Tryz.prog 139 #[.agg (oc e0 M),.int .i64 (i:Int),.int .i64 (j:Int)] w fun e w'=>e=.returned (.int .i64 (mo M i j))/\Below w.heap.size w w':=by
 have HE0:Hid (mo M i j=if i=j/\M (i*8+j) ≠ NB then (M (i*8+j)).tdiv 2 else M (i*8+j)):=rfl
 have hii:(i:Int) < 8:=by omega
 have hji:(j:Int) < 8:=by omega
 have hi0:¬ (8:Int)<=(i:Int):=by omega
 have hj0:¬ (8:Int)<=(j:Int):=by omega
 have c1:(w.alloc (.cells (oc e0 M) tO)).cell? ⟨w.heap.size,1+i*8+j,none⟩=some (.int .i64 (M (i*8+j))):=by
  rw [Nat.add_assoc]
  exact OAt.cell (w:=w.alloc (.cells (oc e0 M) tO)) (e0:=e0) (At.new _ _ _) (i*8+j) (by omega)
 obtain ⟨m0,m1⟩:=hS
 generalize M (i*8+j)=n at *
 generalize oc e0 M=cs at *
 have ht:=tdiv2_le n
 obtain ⟨t1,t2⟩:=ht
 by_cases hq:i=j/\n ≠ NB
 ·obtain ⟨rfl,hq2⟩:=hq
  have HE:Hid (mo M i i=n.tdiv 2):=HE0.out.trans (if_pos ⟨rfl,hq2⟩)
  have hb:(n != 1000000)=true:=by rw [bne_iff_ne]; exact hq2
  clear HE0 hq2
  go_enter Tryz.func139,Tryz.ntmps139
  go_wp2_with fail
  go_ret
  exact ⟨by rw [HE.out]; rfl,(Below.refl _ _).alloc (Nat.le_refl _) _⟩
 ·have HE:Hid (mo M i j=n):=HE0.out.trans (if_neg hq)
  clear HE0
  by_cases hij:i=j
  ·subst hij
   have hb:(n != 1000000)=false:=by
    have:n=1000000:=by
     rcases Classical.em (n=NB) with e | e
     ·exact e
     ·exact absurd ⟨rfl,e⟩ hq
    rw [this]; rfl
   clear hq
   go_enter Tryz.func139,Tryz.ntmps139
   go_wp2_with fail
   go_ret
   exact ⟨by rw [HE.out]; rfl,(Below.refl _ _).alloc (Nat.le_refl _) _⟩
  ·have hb:((i:Int) == (j:Int))=false:=by rw [beq_eq_false_iff_ne]; omega
   clear hq hij
   go_enter Tryz.func139,Tryz.ntmps139
   go_wp2_with fail
   go_ret
   exact ⟨by rw [HE.out]; rfl,(Below.refl _ _).alloc (Nat.le_refl _) _⟩
theorem step_load_o {ops:Array Oper} {o:Oper} {a:Act} {K:Act->World->Prop} {Q:Exit->Act->World->Prop} {E:Prop} (hg:o.guard=none) (p:Operand) (hop:o.op=Op.load tO p) (hp:a.eval p=.pointer (some ⟨b,0,none⟩)) (hat:OAt w b e0 M)
  (hK:K (a.put o.dst (.agg (oc e0 M))) w):if Region.wanted o (yielded ops a.tmps)=true then Oper.wp Tryz.prog o a w K Q else E:=by
 have hw:Region.wanted o (yielded ops a.tmps)=true:=by simp [Region.wanted,hg]
 rw [if_pos hw]
 unfold Oper.wp
 simp [execOp,hop,hp,o_loadAt hat,Result.andThen]
 exact hK
theorem o_bound (hG:Glob w) (f:Nat) (hf:f < 32) (hS:Sm M) :
  Calls Tryz.prog 110 #[.agg (oc e0 M),.int .i64 (f:Int)] w fun e w'=>e=.returned (.int .i64 (bd M f))/\Below w.heap.size w w':=by
 have hfi:(f:Int) < 32:=by omega
 have hf0:¬ (32:Int)<=(f:Int):=by omega
 have hgs:=hG.size
 have g0:(w.alloc (.cells (oc e0 M) tO)).drew.cell? ⟨0,f,none⟩=some (.int .i64 ((fs f:Nat):Int)):=(World.cell?_alloc_past _ _ _ (by show 0 < _; omega)).trans (hG.first f hf)
 have g1:(w.alloc (.cells (oc e0 M) tO)).drew.cell? ⟨1,f,none⟩=some (.int .i64 ((ss f:Nat):Int)):=(World.cell?_alloc_past _ _ _ (by show 1 < _; omega)).trans (hG.second f hf)
 have hi:=fs_lt f hf
 have hj:=ss_lt f hf
 have HA1:Hid (OAt (w.alloc (.cells (oc e0 M) tO)).drew w.heap.size e0 M):=At.new w _ _
 have HB1:Hid (Below w.heap.size w (w.alloc (.cells (oc e0 M) tO)).drew):=((Below.refl _ _).alloc (Nat.le_refl _) _).drew
 have HMo:Hid (∀ w1,Calls Tryz.prog 139 #[.agg (oc e0 M),.int .i64 ((fs f:Nat):Int),.int .i64 ((ss f:Nat):Int)] w1 fun e w'=>e=.returned (.int .i64 (mo M (fs f) (ss f)))/\Below w1.heap.size w1 w'):=fun w1=>o_most _ _ hi hj (by have:=hS (fs f*8+ss f) (by omega); omega)
 have HE:Hid (bd M f=mo M (fs f) (ss f)):=rfl
 generalize mo M (fs f) (ss f)=m at *
 generalize fs f=i at *
 generalize ss f=j at *
 clear hG hS hi hj
 go_enter Tryz.func110,Tryz.ntmps110
 go_wp2_with fail
 refine wp_region_any (by kernel_rfl) ?_
 change wpAny _ _ _ _ _ _ _ (World.drew _)
 refine wpAny_take (i:=1) (v:=.int .i64 (f:Int)) rfl (by kernel_rfl) (by kernel_rfl) (by kernel_rfl) (fun _ _ _ h=>h) (Or.inl ⟨by rfl,by intro w; go_simp⟩) ?_
 refine wpAny_take (i:=2) (v:=.pointer (some ⟨0,f,none⟩)) rfl (by kernel_rfl) (by kernel_rfl) (by kernel_rfl) (fun _ _ _ h=>h) (Or.inl ⟨by rfl,by intro w; go_simp⟩) ?_
 refine wpAny_take (i:=4) (v:=.int .i64 (f:Int)) rfl (by kernel_rfl) (by kernel_rfl) (by kernel_rfl) (fun _ _ _ h=>h) (Or.inl ⟨by rfl,by intro w; go_simp⟩) ?_
 refine wpAny_take (i:=5) (v:=.pointer (some ⟨1,f,none⟩)) rfl (by kernel_rfl) (by kernel_rfl) (by kernel_rfl) (fun _ _ _ h=>h) (Or.inl ⟨by rfl,by intro w; go_simp⟩) ?_
 refine wpAny_ready (rs:=[0,3,6]) (by kernel_rfl) (by simp) ?_
 refine AllReady.cons rfl (fun K hK=>?_) (AllReady.cons rfl (fun K hK=>?_) (AllReady.cons rfl (fun K hK=>?_) AllReady.nil))
 ·refine step_load_o rfl (.tmp 2) rfl rfl HA1.out ?_
  refine hK _ _ ?_
  clear hK K
  refine wpAny_ready (rs:=[3,6]) (by kernel_rfl) (by simp) ?_
  refine AllReady.cons rfl (fun K hK=>?_) (AllReady.cons rfl (fun K hK=>?_) AllReady.nil)
  ·go_simp
   refine hK _ _ ?_
   clear hK K
   refine wpAny_ready (rs:=[6]) (by kernel_rfl) (by simp) ?_
   refine AllReady.cons rfl (fun K hK=>?_) AllReady.nil
   go_simp
   refine hK _ _ ?_
   clear hK K
   refine wpAny_ready (rs:=[7]) (by kernel_rfl) (by simp) ?_
   refine AllReady.cons rfl (fun K hK=>?_) AllReady.nil
   go_simp
   go_wp2_with (go_at_call 139; refine (HMo.out _).mono ?_; rintro e w2 ⟨rfl,hb2⟩)
   refine wpAny_take (i:=8) (v:=.int .i64 m) rfl (by kernel_rfl) (by kernel_rfl) (by kernel_rfl) (fun _ _ _ h=>h) (Or.inl ⟨by rfl,by intro w; go_simp⟩) ?_
   refine wpAny_done (by kernel_rfl) ?_ _
   go_wp2_with fail
   go_ret
   exact ⟨by rw [HE.out]; rfl,HB1.out.trans (hb2.mono (by simp))⟩
  ·go_simp
   refine hK _ _ ?_
   clear hK K
   refine wpAny_ready (rs:=[3]) (by kernel_rfl) (by simp) ?_
   refine AllReady.cons rfl (fun K hK=>?_) AllReady.nil
   go_simp
   refine hK _ _ ?_
   clear hK K
   refine wpAny_ready (rs:=[7]) (by kernel_rfl) (by simp) ?_
   refine AllReady.cons rfl (fun K hK=>?_) AllReady.nil
   go_simp
   go_wp2_with (go_at_call 139; refine (HMo.out _).mono ?_; rintro e w2 ⟨rfl,hb2⟩)
   refine wpAny_take (i:=8) (v:=.int .i64 m) rfl (by kernel_rfl) (by kernel_rfl) (by kernel_rfl) (fun _ _ _ h=>h) (Or.inl ⟨by rfl,by intro w; go_simp⟩) ?_
   refine wpAny_done (by kernel_rfl) ?_ _
   go_wp2_with fail
   go_ret
   exact ⟨by rw [HE.out]; rfl,HB1.out.trans (hb2.mono (by simp))⟩
 ·go_simp
  refine hK _ _ ?_
  clear hK K
  refine wpAny_ready (rs:=[0,6]) (by kernel_rfl) (by simp) ?_
  refine AllReady.cons rfl (fun K hK=>?_) (AllReady.cons rfl (fun K hK=>?_) AllReady.nil)
  ·refine step_load_o rfl (.tmp 2) rfl rfl HA1.out ?_
   refine hK _ _ ?_
   clear hK K
   refine wpAny_ready (rs:=[6]) (by kernel_rfl) (by simp) ?_
   refine AllReady.cons rfl (fun K hK=>?_) AllReady.nil
   go_simp
   refine hK _ _ ?_
   clear hK K
   refine wpAny_ready (rs:=[7]) (by kernel_rfl) (by simp) ?_
   refine AllReady.cons rfl (fun K hK=>?_) AllReady.nil
   go_simp
   go_wp2_with (go_at_call 139; refine (HMo.out _).mono ?_; rintro e w2 ⟨rfl,hb2⟩)
   refine wpAny_take (i:=8) (v:=.int .i64 m) rfl (by kernel_rfl) (by kernel_rfl) (by kernel_rfl) (fun _ _ _ h=>h) (Or.inl ⟨by rfl,by intro w; go_simp⟩) ?_
   refine wpAny_done (by kernel_rfl) ?_ _
   go_wp2_with fail
   go_ret
   exact ⟨by rw [HE.out]; rfl,HB1.out.trans (hb2.mono (by simp))⟩
  ·go_simp
   refine hK _ _ ?_
   clear hK K
   refine wpAny_ready (rs:=[0]) (by kernel_rfl) (by simp) ?_
   refine AllReady.cons rfl (fun K hK=>?_) AllReady.nil
   refine step_load_o rfl (.tmp 2) rfl rfl HA1.out ?_
   refine hK _ _ ?_
   clear hK K
   refine wpAny_ready (rs:=[7]) (by kernel_rfl) (by simp) ?_
   refine AllReady.cons rfl (fun K hK=>?_) AllReady.nil
   go_simp
   go_wp2_with (go_at_call 139; refine (HMo.out _).mono ?_; rintro e w2 ⟨rfl,hb2⟩)
   refine wpAny_take (i:=8) (v:=.int .i64 m) rfl (by kernel_rfl) (by kernel_rfl) (by kernel_rfl) (fun _ _ _ h=>h) (Or.inl ⟨by rfl,by intro w; go_simp⟩) ?_
   refine wpAny_done (by kernel_rfl) ?_ _
   go_wp2_with fail
   go_ret
   exact ⟨by rw [HE.out]; rfl,HB1.out.trans (hb2.mono (by simp))⟩
 ·go_simp
  refine hK _ _ ?_
  clear hK K
  refine wpAny_ready (rs:=[0,3]) (by kernel_rfl) (by simp) ?_
  refine AllReady.cons rfl (fun K hK=>?_) (AllReady.cons rfl (fun K hK=>?_) AllReady.nil)
  ·refine step_load_o rfl (.tmp 2) rfl rfl HA1.out ?_
   refine hK _ _ ?_
   clear hK K
   refine wpAny_ready (rs:=[3]) (by kernel_rfl) (by simp) ?_
   refine AllReady.cons rfl (fun K hK=>?_) AllReady.nil
   go_simp
   refine hK _ _ ?_
   clear hK K
   refine wpAny_ready (rs:=[7]) (by kernel_rfl) (by simp) ?_
   refine AllReady.cons rfl (fun K hK=>?_) AllReady.nil
   go_simp
   go_wp2_with (go_at_call 139; refine (HMo.out _).mono ?_; rintro e w2 ⟨rfl,hb2⟩)
   refine wpAny_take (i:=8) (v:=.int .i64 m) rfl (by kernel_rfl) (by kernel_rfl) (by kernel_rfl) (fun _ _ _ h=>h) (Or.inl ⟨by rfl,by intro w; go_simp⟩) ?_
   refine wpAny_done (by kernel_rfl) ?_ _
   go_wp2_with fail
   go_ret
   exact ⟨by rw [HE.out]; rfl,HB1.out.trans (hb2.mono (by simp))⟩
  ·go_simp
   refine hK _ _ ?_
   clear hK K
   refine wpAny_ready (rs:=[0]) (by kernel_rfl) (by simp) ?_
   refine AllReady.cons rfl (fun K hK=>?_) AllReady.nil
   refine step_load_o rfl (.tmp 2) rfl rfl HA1.out ?_
   refine hK _ _ ?_
   clear hK K
   refine wpAny_ready (rs:=[7]) (by kernel_rfl) (by simp) ?_
   refine AllReady.cons rfl (fun K hK=>?_) AllReady.nil
   go_simp
   go_wp2_with (go_at_call 139; refine (HMo.out _).mono ?_; rintro e w2 ⟨rfl,hb2⟩)
   refine wpAny_take (i:=8) (v:=.int .i64 m) rfl (by kernel_rfl) (by kernel_rfl) (by kernel_rfl) (fun _ _ _ h=>h) (Or.inl ⟨by rfl,by intro w; go_simp⟩) ?_
   refine wpAny_done (by kernel_rfl) ?_ _
   go_wp2_with fail
   go_ret
   exact ⟨by rw [HE.out]; rfl,HB1.out.trans (hb2.mono (by simp))⟩
end Go.Proofs.YtffajooegiempaaGreatDoor

namespace Go.Proofs.YtffajooegiempaaGreatDoor
open Go.RowKit
variable {w:World} {b:Nat} {e0:Bool} {M:Nat->Int}
theorem Tryz.infoNo:(Tryz.prog.info? tNo).map (fun i=>(i.zero,i.size,i.bytes))=some (some (.int .i64 0),1,8):=by kernel_rfl
def bdL (M:Nat->Int):List Int:=(List.range 32).map (bd M)
def LSays (w:World) (e:Bool) (M:Nat->Int):Ending->World->Prop:=fun x w'=>Below w.heap.size w w' /\
 ((e=true/\x=.returned (.slice none 0 0)) \/ (e=false/\∃ g,x=.returned (.slice (some ⟨g,0,none⟩) 32 32)/\w.heap.size<=g/\At w' g (ic (bdL M)) tNo))
theorem o_list (hG:Glob w) (hS:Sm M):Calls Tryz.prog 74 #[.agg (oc e0 M)] w (LSays w e0 M):=by
 have hcz:(w.alloc (.cells (oc e0 M) tO)).cell? ⟨w.heap.size,0,none⟩=some (.bool e0):=by
  rw [At.cell (At.new w (oc e0 M) tO)]; exact oc_0 _ _
 have hgs:=hG.size
 have HG:Hid (Glob w):=hG
 have HS:Hid (Sm M):=hS
 have HB0:Hid (∀ o,Below w.heap.size w (w.alloc o)):=fun o=>(Below.refl _ _).alloc (Nat.le_refl _) _
 have HA0:Hid (OAt (w.alloc (.cells (oc e0 M) tO)) w.heap.size e0 M):=At.new _ _ _
 cases e0 with
 | true =>
  clear hG hS
  go_enter Tryz.func74,Tryz.ntmps74
  go_wp2_with fail
  go_ret
  exact ⟨HB0.out _,.inl ⟨rfl,rfl⟩⟩
 | false =>
  obtain ⟨i0,hi0,hz0,hz1,hz2⟩:=info_parts Tryz.infoNo
  have hmk:∀ w,(Instr.makeSlice 32 (.int .i64 0) (.int .i64 32)).run Tryz.prog w=.ok (.slice (some ⟨w.heap.size,0,none⟩) 0 32) (w.alloc (.cells (ic (List.replicate 32 0)) tNo)):=fun _=>by kernel_rfl
  have hown0:=World.ownsRow_made (base:=w.heap.size+1) (e:=tNo) (size:=1) (w.alloc (.cells (oc false M) tO)) (ic (List.replicate 32 0)) 32 (by simp) (by decide) rfl
  rw [show (w.alloc (.cells (oc false M) tO)).heap.size=w.heap.size+1 by simp] at hown0
  have HOw:Hid (World.ownsRow _ _ _ _ _ _ _):=hown0
  have HBd:Hid (∀ (wr:World) (f:Nat),f < 32->Below w.heap.size w wr->Calls Tryz.prog 110 #[.agg (oc false M),.int .i64 (f:Int)] wr fun e w'=>e=.returned (.int .i64 (bd M f))/\Below wr.heap.size wr w'):=fun wr f hf hb=>o_bound (HG.out.keep hb hgs) f hf HS.out
  have HA1:Hid (OAt ((w.alloc (.cells (oc false M) tO)).alloc (.cells (ic (List.replicate 32 0)) tNo)) w.heap.size false M):=At.allocH HA0.out _
  have HB1:Hid (Below w.heap.size w ((w.alloc (.cells (oc false M) tO)).alloc (.cells (ic (List.replicate 32 0)) tNo))):=(HB0.out _).alloc (by simp) _
  clear hG hS hown0
  generalize ic (List.replicate 32 0)=zs at *
  go_enter Tryz.func74,Tryz.ntmps74
  go_wp2_with fail
  go_loopw [3,4] (fun sl i wr=>∃ (q:Nat),q<=32/\i=.int .i64 q/\sl=.slice (some ⟨w.heap.size+1,0,none⟩) q 32/\Hid (wr.ownsRow (w.heap.size+1) tNo 1 (.slice (some ⟨w.heap.size+1,0,none⟩) q 32) q ((List.range q).map fun i=>.int .i64 (bd M i))/\OAt wr w.heap.size false M/\Below w.heap.size w wr/\w.heap.size+2<=wr.heap.size)) (fun _ i _=>32 - (intOf i).toNat)
  case atStart=>exact ⟨0,by omega,rfl,rfl,HOw.out,HA1.out,HB1.out,by simp⟩
  case round =>
   obtain ⟨q,hq,rfl,rfl,HQ⟩:=hrel
   by_cases hlt:q < 32
   ·have hqi:(q:Int) < 32:=by omega
    have hbd:=HBd.out wr q hlt HQ.out.2.2.1
    go_wp2_with (refine wpList_load_o (e0:=false) (M:=M) rfl (.tmp 1) rfl rfl HQ.out.2.1 ?_)
    refine hbd.mono ?_
    rintro e w3 ⟨rfl,hb3⟩
    have H3:Hid (w3.ownsRow (w.heap.size+1) tNo 1 (.slice (some ⟨w.heap.size+1,0,none⟩) q 32) q ((List.range q).map fun i=>.int .i64 (bd M i))/\OAt w3 w.heap.size false M/\Below w.heap.size w w3/\w.heap.size+2<=w3.heap.size):=by
     have hsz:=HQ.out.2.2.2
     refine ⟨?_,At.keep HQ.out.2.1 hb3 (by omega),HQ.out.2.2.1.trans (hb3.mono (by omega)),Nat.le_trans hsz hb3.size⟩
     obtain ⟨h1,h2⟩:=HQ.out.1
     refine ⟨h1,?_⟩
     rcases h2 with h2 | ⟨g,cap,c,hv,hg,hh,r⟩
     ·exact .inl h2
     ·cases hv
      exact .inr ⟨_,_,c,rfl,hg,by rw [hb3.block _ (by omega)]; exact hh,r⟩
    clear hb3 hbd
    obtain ⟨x,hx⟩:∃ x,x=bd M q:=⟨_,rfl⟩
    rw [<- hx]
    have HX:Hid (x=bd M q):=hx
    clear hx
    go_wp2_with (at_builtin; refine wpList_append_fits _ rfl (.tmp 12) (.tmp 16) 32 rfl (w.heap.size+1) tNo i0 1 Tryz.underlying32 hi0 hz1 (w.heap.size+1) q 32 _ rfl (H3.out.1.alloc _) ⟨w3.heap.size,0,none⟩ 1 1 [.int .i64 x] rfl rfl (by intro t u ht; match t,ht with | 0,ht=>simp at ht; subst ht; exact World.cell?_alloc_at _ _ _ _ rfl) (by intro u hu; simp at hu; subst hu; rfl) (by omega) ?_; intro w5 hown5 hgrow5)
    go_roundw
    case rel =>
     refine ⟨q+1,by omega,by go_num,rfl,?_,?_,?_,?_⟩
     ·rw [HX.out] at hown5
      rw [List.range_succ,List.map_append]
      exact hown5
     ·have:=hgrow5.block w.heap.size (by have:=H3.out.2.2.2; simp; omega) (by intro e; have:=Option.some.inj e; omega)
      exact At.same (At.allocH H3.out.2.1 _) this
     ·exact ((H3.out.2.2.1.alloc H3.out.2.2.1.size _).grown hgrow5 (by have:=H3.out.2.2.2; simp; omega) (fun k hk=>by cases hk; omega))
     ·have h1:=hgrow5.size
      have h2:=H3.out.2.2.2
      simp at h1
      omega
    case measure=>simp [intOf]; omega
   ·have hq32:q=32:=by omega
    subst hq32
    go_wp2_with fail
    go_ret
    refine ⟨HQ.out.2.2.1,.inr ⟨rfl,w.heap.size+1,rfl,by omega,?_⟩⟩
    obtain ⟨⟨_,h2⟩,_⟩:=HQ.out
    rcases h2 with ⟨e,_⟩ | ⟨g,cap,cur,e,hg,hh,hn4,hc4,hsz,htk⟩
    ·cases e
    ·cases e
     have:cur=ic (bdL M):=by
      apply Array.toList_inj.1
      rw [<- List.take_of_length_le (l:=cur.toList) (i:=32*1) (by simp; omega),htk]
      simp [ic,bdL]
     rw [<- this]
     exact hh
end Go.Proofs.YtffajooegiempaaGreatDoor

namespace Go.Proofs.YtffajooegiempaaGreatDoor
open Go.RowKit
variable {w:World} {b:Nat} {e1 e2:Bool} {M N:Nat->Int}
def leF (M N:Nat->Int):Nat->Bool
 | 0=>true
 | k+1=>leF M N k && decide (M k<=N k)
def wiB (e1 e2:Bool) (M N:Nat->Int):Bool:=if (e1 || e2)=true then e1 else leF M N 64
theorem leF_false {k:Nat} (h:k < 64) (hn:¬ M k<=N k):leF M N 64=false:=by
 have:∀ d,leF M N (k+1+d)=false:=by
  intro d
  induction d with
  | zero=>show (leF M N k && decide (M k<=N k))=false; rw [decide_eq_false hn]; simp
  | succ d ih=>show (leF M N (k+1+d) && _)=false; rw [ih]; rfl
 rw [show 64=k+1+(63 - k) by omega]
 exact this _
theorem o_within:Calls Tryz.prog 77 #[.agg (oc e1 M),.agg (oc e2 N)] w fun e w'=>e=.returned (.bool (wiB e1 e2 M N))/\Below w.heap.size w w':=by
 obtain ⟨w0,hw0⟩:∃ w0,w0=(w.alloc (.cells (oc e1 M) tO)).alloc (.cells (oc e2 N) tO):=⟨_,rfl⟩
 have ha1:OAt w0 w.heap.size e1 M:=by rw [hw0]; exact At.allocH (At.new _ _ _) _
 have ha2:OAt w0 (w.heap.size+1) e2 N:=by
  have:=At.new (w.alloc (.cells (oc e1 M) tO)) (oc e2 N) tO
  rw [show (w.alloc (.cells (oc e1 M) tO)).heap.size=w.heap.size+1 by simp] at this
  rw [hw0]; exact this
 have hb0:Below w.heap.size w w0:=by rw [hw0]; exact ((Below.refl _ _).alloc (Nat.le_refl _) _).alloc (by simp) _
 have hs0:w0.heap.size=w.heap.size+2:=by rw [hw0]; simp
 have z1:w0.cell? ⟨w.heap.size,0,none⟩=some (.bool e1):=by rw [At.cell ha1]; exact oc_0 _ _
 have z2:w0.cell? ⟨w.heap.size+1,0,none⟩=some (.bool e2):=by rw [At.cell ha2]; exact oc_0 _ _
 have HW0:Hid (w0=_):=hw0
 have H1:Hid (OAt w0 w.heap.size e1 M):=ha1
 have H2:Hid (OAt w0 (w.heap.size+1) e2 N):=ha2
 have HB0:Hid (Below w.heap.size w w0):=hb0
 clear ha1 ha2 hb0
 cases e1 with
 | true =>
  have HE:Hid (wiB true e2 M N=true):=rfl
  rw [hw0] at z1 z2
  clear hw0
  go_enter Tryz.func77,Tryz.ntmps77
  go_wp2_with fail
  go_ret
  exact ⟨by rw [HE.out]; rfl,by have:=HB0.out; rw [HW0.out] at this; exact this⟩
 | false =>
 cases e2 with
 | true =>
  have HE:Hid (wiB false true M N=false):=rfl
  rw [hw0] at z1 z2
  clear hw0
  go_enter Tryz.func77,Tryz.ntmps77
  go_wp2_with fail
  go_ret
  exact ⟨by rw [HE.out]; rfl,by have:=HB0.out; rw [HW0.out] at this; exact this⟩
 | false =>
  have HE:Hid (wiB false false M N=leF M N 64):=rfl
  rw [hw0] at z1 z2
  clear hw0
  go_enter Tryz.func77,Tryz.ntmps77
  go_wp2_with fail
  go_loopw [5] (fun i wr=>∃ (p d:Nat),p<=8/\i=.int .i64 p/\Hid (leF M N (p*8)=true/\wr=w0.drewN d)) (fun i _=>8 - (intOf i).toNat)
  case atStart=>exact ⟨0,0,by omega,rfl,rfl,HW0.out.symm⟩
  case round =>
   obtain ⟨p,d,hp,rfl,HR⟩:=hrel
   by_cases hlt:p < 8
   ·have hpi:(p:Int) < 8:=by omega
    obtain ⟨w4,rfl⟩:∃ w4,w4=wr:=⟨_,rfl⟩
    go_wp2_with fail
    go_loopw [6] (fun j wr=>∃ (q d:Nat),q<=8/\j=.int .i64 q/\Hid (leF M N (p*8+q)=true/\wr=w0.drewN d)) (fun j _=>8 - (intOf j).toNat)
    case atStart=>exact ⟨0,d,by omega,rfl,HR.out⟩
    case round =>
     obtain ⟨q,d,hq,rfl,HQ⟩:=hrel
     by_cases hlt2:q < 8
     ·have hqi:(q:Int) < 8:=by omega
      have c1:wr.cell? ⟨w.heap.size,1+p*8+q,none⟩=some (.int .i64 (M (p*8+q))):=by rw [Nat.add_assoc,HQ.out.2]; exact OAt.cell (w:=w0.drewN d) (At.drewN H1.out d) (p*8+q) (by omega)
      have c2:wr.cell? ⟨w.heap.size+1,1+p*8+q,none⟩=some (.int .i64 (N (p*8+q))):=by rw [Nat.add_assoc,HQ.out.2]; exact OAt.cell (w:=w0.drewN d) (At.drewN H2.out d) (p*8+q) (by omega)
      have HEq:Hid (leF M N (p*8+(q+1))=(leF M N (p*8+q) && decide (M (p*8+q)<=N (p*8+q)))):=rfl
      have HNo:Hid (¬ M (p*8+q)<=N (p*8+q)->leF M N 64=false):=fun h=>leF_false (by omega) h
      generalize M (p*8+q)=m at *
      generalize N (p*8+q)=n at *
      by_cases hn:n < m
      ·have HF:Hid (leF M N 64=false):=HNo.out (by omega)
       go_wp2_with fail
       go_quiet (fail)
       go_wp2_with fail
       go_ret
       refine ⟨by rw [HE.out,HF.out]; rfl,?_⟩
       rw [HQ.out.2]
       exact below_drewN (below_drewN HB0.out _) _
      ·have hle:m<=n:=by omega
       go_wp2_with fail
       go_quiet (fail)
       go_wp2_with fail
       go_roundw
       case rel=>exact ⟨q+1,d+nq,by omega,by go_num,by rw [HEq.out,HQ.out.1]; simpa using hle,by rw [HQ.out.2]; exact World.drewN_drewN _ _ _⟩
       case measure=>simp [intOf]; omega
     ·have hq8:q=8:=by omega
      subst hq8
      go_wp2_with fail
      go_roundw
      case rel=>exact ⟨p+1,d,by omega,by go_num,by rw [show (p+1)*8=p*8+8 by omega]; exact HQ.out.1,HQ.out.2⟩
      case measure=>simp [intOf]; omega
   ·have hp8:p=8:=by omega
    subst hp8
    go_wp2_with fail
    go_ret
    refine ⟨by rw [HE.out,HR.out.1]; rfl,?_⟩
    rw [HR.out.2]
    exact below_drewN HB0.out _
def jF (M N:Nat->Int):Nat->Nat->Int
 | 0=>M
 | k+1=>if jF M N k k < N k then upd (jF M N k) k (N k) else jF M N k
def joE (e1 e2:Bool):Bool:=if e1=true then e2 else e1
def joM (e1 e2:Bool) (M N:Nat->Int):Nat->Int:=if e1=true then N else if e2=true then M else jF M N 64
theorem o_join:Calls Tryz.prog 78 #[.agg (oc e1 M),.agg (oc e2 N)] w fun e w'=>e=.returned (.agg (oc (joE e1 e2) (joM e1 e2 M N)))/\Below w.heap.size w w':=by
 have hz:=o_zero
 obtain ⟨w0,hw0⟩:∃ w0,w0=((w.alloc (.cells (oc e1 M) tO)).alloc (.cells (oc e2 N) tO)).alloc (.cells (oc false fun _=>0) tO):=⟨_,rfl⟩
 have ha1:OAt w0 w.heap.size e1 M:=by rw [hw0]; exact At.allocH (At.allocH (At.new _ _ _) _) _
 have ha2:OAt w0 (w.heap.size+1) e2 N:=by
  have:=At.new (w.alloc (.cells (oc e1 M) tO)) (oc e2 N) tO
  rw [show (w.alloc (.cells (oc e1 M) tO)).heap.size=w.heap.size+1 by simp] at this
  rw [hw0]; exact At.allocH this _
 have ha3:OAt w0 (w.heap.size+2) false (fun _=>0):=by
  have:=At.new ((w.alloc (.cells (oc e1 M) tO)).alloc (.cells (oc e2 N) tO)) (oc false fun _=>0) tO
  rw [show ((w.alloc (.cells (oc e1 M) tO)).alloc (.cells (oc e2 N) tO)).heap.size=w.heap.size+2 by simp] at this
  rw [hw0]; exact this
 have hb0:Below w.heap.size w w0:=by rw [hw0]; exact (((Below.refl _ _).alloc (Nat.le_refl _) _).alloc (by simp) _).alloc (by simp; omega) _
 have hs0:w0.heap.size=w.heap.size+3:=by rw [hw0]; simp
 have z1:w0.cell? ⟨w.heap.size,0,none⟩=some (.bool e1):=by rw [At.cell ha1]; exact oc_0 _ _
 have z2:w0.cell? ⟨w.heap.size+1,0,none⟩=some (.bool e2):=by rw [At.cell ha2]; exact oc_0 _ _
 have HW0:Hid (w0=_):=hw0
 have H1:Hid (OAt w0 w.heap.size e1 M):=ha1
 have H2:Hid (OAt w0 (w.heap.size+1) e2 N):=ha2
 have H3:Hid (OAt w0 (w.heap.size+2) false fun _=>0):=ha3
 have HB0:Hid (Below w.heap.size w w0):=hb0
 clear ha1 ha2 ha3 hb0
 cases e1 with
 | true =>
  obtain ⟨w5,hst5,hat5,ho5⟩:=o_store (H3.out) (e2) (N)
  have H5:Hid (OAt w5 (w.heap.size+2) (e2) (N)/\Below w.heap.size w w5):=⟨hat5,(HB0.out).trans (ho5.below (by omega) (by omega))⟩
  clear hat5 ho5
  have hl2:=H2.out
  rw [hw0] at z1 z2 hst5 hl2
  have HL2:Hid (OAt _ _ _ _):=hl2
  clear hw0 hl2
  go_enter Tryz.func78,Tryz.ntmps78
  go_wp2_with (refine wpList_load_o rfl (.tmp 3) rfl rfl HL2.out ?_)
  try simp only [Exit.inBlock,Exit.then]
  refine bodyPost_ret (results_o rfl _ rfl H5.out.1) rfl ?_
  exact ⟨rfl,H5.out.2⟩
 | false =>
 cases e2 with
 | true =>
  obtain ⟨w5,hst5,hat5,ho5⟩:=o_store (H3.out) (false) (M)
  have H5:Hid (OAt w5 (w.heap.size+2) (false) (M)/\Below w.heap.size w w5):=⟨hat5,(HB0.out).trans (ho5.below (by omega) (by omega))⟩
  clear hat5 ho5
  have hl1:=H1.out
  rw [hw0] at z1 z2 hst5 hl1
  have HL1:Hid (OAt _ _ _ _):=hl1
  clear hw0 hl1
  go_enter Tryz.func78,Tryz.ntmps78
  go_wp2_with (refine wpList_load_o rfl (.tmp 2) rfl rfl HL1.out ?_)
  try simp only [Exit.inBlock,Exit.then]
  refine bodyPost_ret (results_o rfl _ rfl H5.out.1) rfl ?_
  exact ⟨rfl,H5.out.2⟩
 | false =>
  rw [hw0] at z1 z2
  clear hw0
  go_enter Tryz.func78,Tryz.ntmps78
  go_wp2_with fail
  go_loopw [5] (fun i wr=>∃ (p:Nat),p<=8/\i=.int .i64 p/\Hid (OAt wr w.heap.size false (jF M N (p*8))/\Onl w.heap.size w0 wr)) (fun i _=>8 - (intOf i).toNat)
  case atStart=>exact ⟨0,by omega,rfl,by have:=H1.out; rw [HW0.out] at this; exact this,by rw [<- HW0.out]; exact Onl.refl _ _⟩
  case round =>
   obtain ⟨p,hp,rfl,HR⟩:=hrel
   by_cases hlt:p < 8
   ·have hpi:(p:Int) < 8:=by omega
    obtain ⟨w4,rfl⟩:∃ w4,w4=wr:=⟨_,rfl⟩
    go_wp2_with fail
    go_loopw [6] (fun j wr=>∃ (q:Nat),q<=8/\j=.int .i64 q/\Hid (OAt wr w.heap.size false (jF M N (p*8+q))/\Onl w.heap.size w0 wr)) (fun j _=>8 - (intOf j).toNat)
    case atStart=>exact ⟨0,by omega,rfl,HR.out⟩
    case round =>
     obtain ⟨q,hq,rfl,HQ⟩:=hrel
     by_cases hlt2:q < 8
     ·have hqi:(q:Int) < 8:=by omega
      have hk:p*8+q < 64:=by omega
      have HE0:Hid (jF M N (p*8+(q+1))=if jF M N (p*8+q) (p*8+q) < N (p*8+q) then upd (jF M N (p*8+q)) (p*8+q) (N (p*8+q)) else jF M N (p*8+q)):=rfl
      generalize jF M N (p*8+q)=J at *
      have c1:wr.cell? ⟨w.heap.size,1+p*8+q,none⟩=some (.int .i64 (J (p*8+q))):=by rw [Nat.add_assoc]; exact HQ.out.1.cell (p*8+q) hk
      have h2':OAt wr (w.heap.size+1) false N:=HQ.out.2.at_ H2.out (by omega)
      have c2:wr.cell? ⟨w.heap.size+1,1+p*8+q,none⟩=some (.int .i64 (N (p*8+q))):=by rw [Nat.add_assoc]; exact h2'.cell (p*8+q) hk
      have cf:wr.frozen? ⟨w.heap.size,1+p*8+q,none⟩=false:=At.free HQ.out.1 _
      have hl1:w.heap.size < wr.heap.size:=At.lt HQ.out.1
      clear h2'
      generalize hJ:J (p*8+q)=m at *
      generalize hNn:N (p*8+q)=n at *
      have HNn:Hid (N (p*8+q)=n):=hNn
      clear hJ hNn
      by_cases hn:m < n
      ·have HE:Hid (_=_):=HE0.out.trans (if_pos hn)
       clear HE0
       go_wp2_with fail
       go_quiet (fail)
       obtain ⟨w5,hW5⟩:∃ w5,w5=wr.drewN nq:=⟨_,rfl⟩
       rw [<- hW5]
       have k1:∀ a,w5.cell? a=wr.cell? a:=fun a=>by rw [hW5]; rfl
       rw [<- k1] at c1 c2
       have cf5:w5.frozen? ⟨w.heap.size,1+p*8+q,none⟩=false:=by rw [hW5]; exact cf
       have HQ5:Hid (OAt w5 w.heap.size false J/\Onl w.heap.size w0 w5):=by rw [hW5]; exact ⟨At.drewN HQ.out.1 nq,HQ.out.2.drewN nq⟩
       have hl5:w.heap.size < w5.heap.size:=by rw [hW5]; exact hl1
       clear k1 hW5 cf hl1
       go_wp2_with fail
       go_region
       all_goals
        go_wp2_with fail
        go_roundw
        case rel =>
         refine ⟨q+1,by omega,by go_num,?_,(HQ5.out.2.setCell _ _).drewN 1⟩
         rw [HE.out,Nat.add_assoc]
         exact At.drewN (OAt.put HQ5.out.1 (p*8+q) hk _) 1
        case measure=>simp [intOf]; omega
      ·have HE:Hid (_=_):=HE0.out.trans (if_neg hn)
       clear HE0
       go_wp2_with fail
       go_quiet (fail)
       go_wp2_with fail
       go_roundw
       case rel=>exact ⟨q+1,by omega,by go_num,by rw [HE.out]; exact At.drewN HQ.out.1 nq,HQ.out.2.drewN nq⟩
       case measure=>simp [intOf]; omega
     ·have hq8:q=8:=by omega
      subst hq8
      go_wp2_with fail
      go_roundw
      case rel=>exact ⟨p+1,by omega,by go_num,by rw [show (p+1)*8=p*8+8 by omega]; exact HQ.out.1,HQ.out.2⟩
      case measure=>simp [intOf]; omega
   ·have hp8:p=8:=by omega
    subst hp8
    have h3:OAt wr (w.heap.size+2) false (fun _=>0):=HR.out.2.at_ H3.out (by omega)
    have hsz:=HR.out.2.size
    have hbw:Below w.heap.size w wr:=HB0.out.trans (HR.out.2.below (Nat.le_refl _) (by omega))
    obtain ⟨w5,hst5,hat5,ho5⟩:=o_store (h3) (false) (jF M N 64)
    have H5:Hid (OAt w5 (w.heap.size+2) (false) (jF M N 64)/\Below w.heap.size w w5):=⟨hat5,(hbw).trans (ho5.below (by omega) (by omega))⟩
    clear hat5 ho5
    have HLr:Hid (OAt wr w.heap.size false (jF M N 64)):=HR.out.1
    clear h3 hbw
    go_wp2_with (refine wpList_load_o rfl (.tmp 2) rfl rfl HLr.out ?_)
    try simp only [Exit.inBlock,Exit.then]
    refine bodyPost_ret (results_o rfl _ rfl H5.out.1) rfl ?_
    exact ⟨rfl,H5.out.2⟩
end Go.Proofs.YtffajooegiempaaGreatDoor

namespace Go.Proofs.YtffajooegiempaaGreatDoor
open Go.RowKit
variable {w:World} {b:Nat} {e0 e1 e2:Bool} {M N:Nat->Int}
theorem o_fresh (w1:World) (e:Bool) (M:Nat->Int):∃ w2,(storeCells ⟨w1.heap.size,0,none⟩ (oc e M).toList).run Tryz.prog (w1.alloc (.cells (oc false fun _=>0) tO))=.ok () w2/\OAt w2 w1.heap.size e M/\Below w1.heap.size w1 w2/\w1.heap.size < w2.heap.size:=by
 have h0:OAt (w1.alloc (.cells (oc false fun _=>0) tO)) w1.heap.size false (fun _=>0):=At.new _ _ _
 obtain ⟨w2,h1,h2,h3⟩:=o_store h0 e M
 exact ⟨w2,h1,h2,((Below.refl _ _).alloc (Nat.le_refl _) _).trans (h3.below (Nat.le_refl _) (by simp)),At.lt h2⟩
end Go.Proofs.YtffajooegiempaaGreatDoor

namespace Go.Proofs.YtffajooegiempaaGreatDoor
open Go.RowKit
variable {w:World} {b:Nat} {e0 e1 e2:Bool} {M N:Nat->Int}
theorem LSays.from_ {w w1:World} {x:Ending} {w':World} (h:LSays w1 e0 M x w') (hb:Below w.heap.size w w1):LSays w e0 M x w':=by
 have hs:=hb.size
 obtain ⟨h1,h2⟩:=h
 refine ⟨hb.trans (h1.mono hs),?_⟩
 rcases h2 with h2 | ⟨he,g,hx,hg,hat⟩
 ·exact .inl h2
 ·exact .inr ⟨he,g,hx,by omega,hat⟩
theorem LSays.val {x:Ending} {w':World} (h:LSays w e0 M x w'):∃ y,x=.returned y/\∃ a n c,y=.slice a n c:=by
 obtain ⟨_,⟨_,h⟩ | ⟨_,g,h,_⟩⟩:=h
 ·exact ⟨_,h,_,_,_,rfl⟩
 ·exact ⟨_,h,_,_,_,rfl⟩
end Go.Proofs.YtffajooegiempaaGreatDoor

namespace Go.Proofs.YtffajooegiempaaGreatDoor
open Go.RowKit
variable {w:World}
theorem fold_put (l:List Value):∀ (n:Nat) (C:Array Value),n+l.length<=C.size->(l.zipIdx n).foldl (fun cs (x:Value × Nat)=>cs.setIfInBounds (0*65+x.2) x.1) C=(C.toList.take n ++ l ++ C.toList.drop (n+l.length)).toArray:=by
 induction l with
 | nil=>intro n C _; simp
 | cons a l ih =>
  intro n C h
  rw [List.length_cons] at h
  rw [List.zipIdx_cons,List.foldl_cons,ih (n+1) _ (by simp; omega)]
  congr 1
  have hn:n < C.toList.length:=by simp; omega
  simp only [Nat.zero_mul,Nat.zero_add,Array.toList_setIfInBounds]
  rw [List.take_add_one,List.getElem?_set_self (by simpa using hn),List.take_set_of_le (Nat.le_refl _),List.drop_set_of_lt (by omega)]
  simp only [Option.toList,List.append_assoc,List.cons_append,List.length_cons]
  rw [show n+1+l.length=n+(l.length+1) by omega]
  simp
theorem fill_any (A C:Array Value) (hs:A.size=65) (hC:C.size=65):Instr.fill (fun i=>some (i*65,65)) C [(0,.agg A)]=some A:=by
 have hf:A.zipIdx.foldl (fun cs (x:Value × Nat)=>cs.setIfInBounds (0*65+x.2) x.1) C=A:=by
  rw [<- Array.foldl_toList,Array.toList_zipIdx]
  have:=fold_put A.toList 0 C (by simp [hs,hC])
  rw [this]
  rw [List.drop_of_length_le (by simp [hs,hC])]
  simp
 have hb:(decide (A.size ≠ 65) || decide (0*65+A.size > C.size))=false:=by simp [hs,hC]
 have h1:Instr.fill (fun i=>some (i*65,65)) C [(0,.agg A)]=if (decide (A.size ≠ 65) || decide (0*65+A.size > C.size))=true then none else some (A.zipIdx.foldl (fun cs (x:Value × Nat)=>cs.setIfInBounds (0*65+x.2) x.1) C):=rfl
 rw [h1,hb,hf]
 rfl
theorem fill_one (e:Bool) (M:Nat->Int) (C:Array Value) (hC:C.size=65):Instr.fill (fun i=>some (i*65,65)) C [(0,.agg (oc e M))]=some (oc e M):=fill_any _ C (oc_size e M) hC
theorem wpList_one {ops:Array Oper} {rest:List Oper} {o:Oper} {a:Act} {Q:Exit->Act->World->Prop} (hg:o.guard=none) (x:Operand) (ho:o.op=.buildSlice 132 1 #[(0,x)]) (e:Bool) (M:Nat->Int) (hx:a.eval x=.agg (oc e M))
  (h:wpList Tryz.prog ops Q rest (a.put o.dst (.slice (some ⟨w.heap.size,0,none⟩) 1 1)) (w.alloc (.cells (oc e M) tO))):wpList Tryz.prog ops Q (o :: rest) a w:=by
 obtain ⟨i0,hi,hz0,hz1,hz2⟩:=info_parts (P:=Tryz.prog) (e:=tO) (z:=.agg (oc false fun _=>0)) (size:=65) (bytes:=520) (by kernel_rfl)
 refine wpList_buildSlice hg 132 tO 1 _ ho (oc e M) i0 _ Tryz.underlying132 hi hz0 (by rw [hz1]; decide) (by rw [hz1]; decide) ?_ h
 rw [hz1]
 have:=fill_one e M ((Array.range (1*65)).map ((Value.agg (oc false fun _=>0)).cells[· % (Value.agg (oc false fun _=>0)).cells.size]!)) (by simp)
 simpa [hx] using this
end Go.Proofs.YtffajooegiempaaGreatDoor

