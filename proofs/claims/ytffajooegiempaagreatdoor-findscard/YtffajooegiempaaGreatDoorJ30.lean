import Derived.Test.YtffajooegiempaaGreatDoorJ29
set_option maxRecDepth 100000
set_option maxHeartbeats 6400000
namespace Go.Proofs.YtffajooegiempaaGreatDoor
open Go.RowKit
variable {s g:Nat} {w:World} {pv:Value} {P:SS}
theorem OAt.range {b:Nat} {e:Bool} {M:Nat->Int} (h:OAt w b e M):w.rangeAt b 0 (oc e M).toList:=by
 intro j v hv
 rw [Nat.zero_add,At.cell h,<- Array.getElem?_toList]
 exact hv
theorem s_claim (h:SSt w s g pv P) (pt:Int) (e:Bool) (M:Nat->Int) :
  Calls Tryz.prog 53 #[.pointer (some ⟨s,0,none⟩),.int .i64 pt,.agg (oc e M)] w fun x w'=>x=.returned (.tuple #[])/\SSt w' s g pv (clmS P pt e M)/\On2 s g w w':=by
 obtain ⟨M0,hM0⟩:∃ M0:Nat->Int,M0=fun _=>0:=⟨_,rfl⟩
 have hz:∀ w,(zeroValue tO).run Tryz.prog w=.ok (.agg (oc false M0)) w:=by rw [hM0]; exact o_zero
 have ho3:(oc false M0).size=65:=oc_size _ _
 have ho4:¬ oc false M0=#[]:=fun h=>by have:=congrArg Array.size h; rw [oc_size] at this; simp at this
 have HFr:Hid (∀ (w:World) e M,∃ w2,(storeCells ⟨w.heap.size,0,none⟩ (oc e M).toList).run Tryz.prog (w.alloc (.cells (oc false M0) tO))=.ok () w2/\OAt w2 w.heap.size e M/\Below w.heap.size w w2/\w.heap.size < w2.heap.size):=by rw [hM0]; exact fun w e M=>o_fresh w e M
 clear hM0
 have hb1:Below w.heap.size w (w.alloc (.cells (oc e M) tO)):=(Below.refl _ _).alloc (Nat.le_refl _) _
 have H1:Hid (SSt (w.alloc (.cells (oc e M) tO)) s g pv P/\OAt (w.alloc (.cells (oc e M) tO)) w.heap.size e M/\Below w.heap.size w (w.alloc (.cells (oc e M) tO))):=⟨h.keep hb1,At.new _ _ _,hb1⟩
 have c1:(w.alloc (.cells (oc e M) tO)).cell? ⟨s,1,none⟩=some (.slice (some ⟨g,0,none⟩) P.1.length 21):=H1.out.1.sa.cell 1
 have HC:Hid (clmS P pt e M=if pt < 0 \/ (P.1.length:Int)<=pt then P else if wiB e (P.1.getD pt.toNat p0).e M (P.1.getD pt.toNat p0).M=true then P else (P.1.set pt.toNat ⟨joE (P.1.getD pt.toNat p0).e e,joM (P.1.getD pt.toNat p0).e e (P.1.getD pt.toNat p0).M M,true⟩,true)):=rfl
 have hsl:=h.sa.lt
 have hgl:=h.glt
 have hne:=h.ne
 by_cases p0_:pt < 0
 ·have HE:Hid (clmS P pt e M=P):=HC.out.trans (if_pos (.inl p0_))
  clear h hb1
  go_enter Tryz.func53,Tryz.ntmps53
  go_wp2_with fail
  try simp only [Exit.inBlock,Exit.then]
  refine bodyPost_ret (results_none rfl _ _ _) rfl ?_
  exact ⟨rfl,by rw [HE.out]; exact H1.out.1,On2.of H1.out.2.2 (Nat.le_refl _) _ _⟩
 ·by_cases p1:(P.1.length:Int)<=pt
  ·have HE:Hid (clmS P pt e M=P):=HC.out.trans (if_pos (.inr p1))
   clear h hb1
   go_enter Tryz.func53,Tryz.ntmps53
   go_wp2_with fail
   try simp only [Exit.inBlock,Exit.then]
   refine bodyPost_ret (results_none rfl _ _ _) rfl ?_
   exact ⟨rfl,by rw [HE.out]; exact H1.out.1,On2.of H1.out.2.2 (Nat.le_refl _) _ _⟩
  ·obtain ⟨k,rfl⟩:∃ k:Nat,pt=(k:Int):=⟨pt.toNat,by omega⟩
   have hk:k < P.1.length:=by omega
   have hk0:(0:Int)<=(k:Int):=Int.natCast_nonneg _
   have hki:(k:Int) < (P.1.length:Int):=by omega
   have HE:Hid (clmS P (k:Int) e M=if wiB e (P.1.getD k p0).e M (P.1.getD k p0).M=true then P else (P.1.set k ⟨joE (P.1.getD k p0).e e,joM (P.1.getD k p0).e e (P.1.getD k p0).M M,true⟩,true)):=by
    show _=_
    rw [HC.out,if_neg (by omega),Int.toNat_natCast]
   have HO:Hid ((w.alloc (.cells (oc e M) tO)).rangeAt g (k*66) (oc (P.1.getD k p0).e (P.1.getD k p0).M).toList):=H1.out.1.oct hk
   have hl:∀ e M,(Tryz.prog.info? 90).map (·.size)=some (oc e M).toList.length:=fun e M=>by
    obtain ⟨i0,hi,hz1⟩:=o_info
    have hi':Tryz.prog.info? 90=some i0:=hi
    simp [hi',hz1,oc_size]
   have HSO:Hid (∀ w1 e' M',SSt w1 s g pv P->SSt (((w1.setCells g (k*66) (oc e' M').toList).setCell ⟨g,k*66+65,none⟩ (.bool true)).setCell ⟨s,2,none⟩ (.bool true)) s g pv (P.1.set k ⟨e',M',true⟩,true)):=fun w1 e' M' h1=>by
    have h2:=((h1.setO hk e' M').setW (k:=k) (by simpa using hk) true).setG true
    have h3:(P.1.set k ⟨e',M',(P.1.getD k p0).wt⟩).getD k p0=⟨e',M',(P.1.getD k p0).wt⟩:=by rw [plset_at hk,if_pos rfl]
    simp only [h3,List.set_set] at h2
    exact h2
   have HTh:Hid (∀ w1,SSt w1 s g pv P->w1.there g (k*66) 65/\w1.cell? ⟨s,1,none⟩=some (.slice (some ⟨g,0,none⟩) P.1.length 21)/\(∃ C,At w1 g C tPl/\P.1.length*66<=C.size)):=fun w1 h1=>⟨h1.there hk,h1.sa.cell 1,h1.ga⟩
   clear HC h
   generalize (P.1.getD k p0).e=e1 at *
   generalize (P.1.getD k p0).M=M1 at *
   obtain ⟨w3,hst3,hat3,hb3,hs3⟩:=HFr.out (w.alloc (.cells (oc e M) tO)) e1 M1
   have hwz:(w.alloc (.cells (oc e M) tO)).heap.size=w.heap.size+1:=by simp
   rw [hwz] at hst3 hat3 hb3 hs3
   have H3:Hid (SSt w3 s g pv P/\OAt w3 w.heap.size e M/\OAt w3 (w.heap.size+1) e1 M1/\Below w.heap.size w w3):=⟨H1.out.1.keep (by rw [hwz]; exact hb3),At.keep H1.out.2.1 hb3 (by omega),hat3,H1.out.2.2.trans (hb3.mono (by omega))⟩
   clear hat3 hb3 hb1
   go_enter Tryz.func53,Tryz.ntmps53
   go_wp2_with (first | refine wpList_load_mid rfl tO (.tmp 24) rfl g (k*66) rfl (oc e1 M1).toList _ HO.out Tryz.underlying90 rfl (hl _ _) ?_ | refine wpList_load_o rfl (.tmp 5) rfl rfl H3.out.2.1 ?_ | refine wpList_load_o rfl (.tmp 6) rfl rfl H3.out.2.2.1 ?_)
   refine (o_within (w:=w3) (e1:=e) (e2:=e1) (M:=M) (N:=M1)).mono ?_
   rintro x w4 ⟨rfl,hb4⟩
   have H4:Hid (SSt w4 s g pv P/\OAt w4 w.heap.size e M/\OAt w4 (w.heap.size+1) e1 M1/\Below w.heap.size w w4):=⟨H3.out.1.keep hb4,At.keep H3.out.2.1 hb4 (At.lt H3.out.2.1),At.keep H3.out.2.2.1 hb4 (At.lt H3.out.2.2.1),H3.out.2.2.2.trans (hb4.mono H3.out.2.2.2.size)⟩
   clear hb4
   cases hwi:wiB e e1 M M1 with
   | true =>
    have HF:Hid (clmS P (k:Int) e M=P):=HE.out.trans (if_pos hwi)
    clear hwi
    go_wp2_with fail
    try simp only [Exit.inBlock,Exit.then]
    refine bodyPost_ret (results_none rfl _ _ _) rfl ?_
    exact ⟨rfl,by rw [HF.out]; exact H4.out.1,On2.of H4.out.2.2.2 (Nat.le_refl _) _ _⟩
   | false =>
    have HF:Hid (clmS P (k:Int) e M=(P.1.set k ⟨joE e1 e,joM e1 e M1 M,true⟩,true)):=HE.out.trans (if_neg (by rw [hwi]; decide))
    clear hwi HE
    have HJ:Hid (∀ w1,Calls Tryz.prog 78 #[.agg (oc e1 M1),.agg (oc e M)] w1 fun x w'=>x=.returned (.agg (oc (joE e1 e) (joM e1 e M1 M)))/\Below w1.heap.size w1 w'):=fun w1=>o_join
    obtain ⟨S,hS⟩:∃ S:World->Prop,S=fun w'=>w'.cell? ⟨s,1,none⟩=some (.slice (some ⟨g,0,none⟩) P.1.length 21)/\OAt w' w.heap.size e M/\OAt w' (w.heap.size+1) e1 M1:=⟨_,rfl⟩
    have HS4:Hid (S w4.drew/\SSt w4.drew s g pv P/\Below w.heap.size w w4.drew/\w.heap.size+1 < w4.drew.heap.size):=by
     have k4:SSt w4.drew s g pv P:=H4.out.1.keep (Below.refl _ _).drew
     refine ⟨?_,k4,H4.out.2.2.2.drew,At.lt H4.out.2.2.1⟩
     rw [hS]
     exact ⟨k4.sa.cell 1,H4.out.2.1,H4.out.2.2.1⟩
    have HSb:Hid (∀ w1 w2,S w1->w.heap.size+1 < w1.heap.size->Below w1.heap.size w1 w2->S w2):=by
     rw [hS]
     exact fun w1 w2 ⟨q1,q2,q3⟩ hz hb=>⟨(hb.cell (by show s < _; omega)).trans q1,At.keep q2 hb (At.lt q2),At.keep q3 hb (At.lt q3)⟩
    have HSc:Hid (∀ w1 o vs,S w1->S (w1.setCells g o vs)):=by
     rw [hS]
     intro w1 o vs ⟨q1,q2,q3⟩
     have on:=On2.setCells (s:=g) (g:=g) vs o w1 (On2.refl g g w1)
     have l2:=At.lt q2
     exact ⟨(on.cell (by show s < _; omega) hne hne 1).trans q1,on.at_ q2 (by omega) (by omega),on.at_ q3 (by omega) (by omega)⟩
    have HSv:Hid (∀ w1,S w1->w1.cell? ⟨s,1,none⟩=some (.slice (some ⟨g,0,none⟩) P.1.length 21)/\w1.rangeAt w.heap.size 0 (oc e M).toList/\w1.rangeAt (w.heap.size+1) 0 (oc e1 M1).toList):=by
     rw [hS]
     exact fun w1 ⟨q1,q2,q3⟩=>⟨q1,OAt.range q2,OAt.range q3⟩
    have HOn:Hid (∀ w1 w2 vs,Below w.heap.size w w1->Below w1.heap.size w1 w2->On2 s g w (((w2.setCells g (k*66) vs).setCell ⟨g,k*66+65,none⟩ (.bool true)).setCell ⟨s,2,none⟩ (.bool true))):=fun w1 w2 vs h1 h2 =>
     ((On2.setCells vs (k*66) w2 (On2.of (h1.trans (h2.mono h1.size)) (Nat.le_refl _) s g)).setCell (.inr rfl) _ _).setCell (.inl rfl) _ _
    have hu:=Tryz.underlying90
    clear hS
    go_wp2_with fail
    refine wp_region_held (S:=S) (by kernel_rfl) ?_
    change wpAnyH _ _ _ _ _ _ _ _ (World.drew _)
    generalize w4.drew=w5 at *
    refine wpAnyH_take (i:=0) (v:=.pointer (some ⟨s,0,none⟩)) rfl (by kernel_rfl) (by kernel_rfl) (by kernel_rfl) (fun _ _ _ h=>h) (Or.inl ⟨by rfl,by intro w1 _; go_simp⟩) (HS4.out.1) ?_
    simp only [Act.put]
    refine wpAnyH_take (i:=1) (v:=.pointer (some ⟨s,0,none⟩)) rfl (by kernel_rfl) (by kernel_rfl) (by kernel_rfl) (fun _ _ _ h=>h) (Or.inl ⟨by rfl,by intro w1 _; go_simp⟩) (HS4.out.1) ?_
    simp only [Act.put]
    refine wpAnyH_take (i:=2) (v:=.pointer (some ⟨s,1,none⟩)) rfl (by kernel_rfl) (by kernel_rfl) (by kernel_rfl) (fun _ _ _ h=>h) (Or.inl ⟨by rfl,by intro w1 _; go_simp⟩) (HS4.out.1) ?_
    simp only [Act.put]
    refine wpAnyH_take (i:=3) (v:=.slice (some ⟨g,0,none⟩) P.1.length 21) rfl (by kernel_rfl) (by kernel_rfl) (by kernel_rfl) (fun _ _ _ h=>h) (Or.inl ⟨by rfl,by intro w1 hw1; have cc:=(HSv.out w1 hw1).1; go_simp⟩) HS4.out.1 ?_
    simp only [Act.put]
    refine wpAnyH_take (i:=4) (v:=.int .i64 (k:Int)) rfl (by kernel_rfl) (by kernel_rfl) (by kernel_rfl) (fun _ _ _ h=>h) (Or.inl ⟨by rfl,by intro w1 _; go_simp⟩) (HS4.out.1) ?_
    simp only [Act.put]
    refine wpAnyH_take (i:=5) (v:=.agg (oc e1 M1)) rfl (by kernel_rfl) (by kernel_rfl) (by kernel_rfl) (fun _ _ _ h=>h) (yieldsIf_load_mid (by rfl) 90 (.tmp 6) rfl (w.heap.size+1) 0 rfl (oc e1 M1).toList _ (fun w1 hw1=>(HSv.out w1 hw1).2.2) hu rfl (hl e1 M1)) HS4.out.1 ?_
    simp only [Act.put]
    refine wpAnyH_take (i:=6) (v:=.agg (oc e M)) rfl (by kernel_rfl) (by kernel_rfl) (by kernel_rfl) (fun _ _ _ h=>h) (yieldsIf_load_mid (by rfl) 90 (.tmp 5) rfl w.heap.size 0 rfl (oc e M).toList _ (fun w1 hw1=>(HSv.out w1 hw1).2.1) hu rfl (hl e M)) HS4.out.1 ?_
    simp only [Act.put]
    refine wpAnyH_ready (rs:=[7]) (by kernel_rfl) (by simp) ?_
    refine AllReadyH.cons (o:=⟨some 36,.call _,_,_,_,none⟩) rfl (fun K hK=>?_) AllReadyH.nil
    go_simp
    refine (HJ.out w5).mono ?_
    rintro x w6 ⟨rfl,hb6⟩
    have H6:Hid (S w6/\SSt w6 s g pv P/\Below w5.heap.size w5 w6):=⟨HSb.out w5 w6 HS4.out.1 HS4.out.2.2.2 hb6,HS4.out.2.1.keep hb6,hb6⟩
    clear hb6
    refine hK.out _ _ H6.out.1 (fun _=>?_)
    clear hK K
    refine wpAnyH_take (i:=8) (v:=.pointer (some ⟨g,k*66,none⟩)) rfl (by kernel_rfl) (by kernel_rfl) (by kernel_rfl) (fun _ _ _ h=>h) (Or.inl ⟨by rfl,by intro w1 _; go_simp⟩) (H6.out.1) ?_
    simp only [Act.put]
    refine wpAnyH_take (i:=9) (v:=.pointer (some ⟨g,k*66,none⟩)) rfl (by kernel_rfl) (by kernel_rfl) (by kernel_rfl) (fun _ _ _ h=>h) (Or.inl ⟨by rfl,by intro w1 _; go_simp⟩) (H6.out.1) ?_
    simp only [Act.put]
    refine wpAnyH_ready (rs:=[10]) (by kernel_rfl) (by simp) ?_
    refine AllReadyH.cons (o:=⟨none,.store 90 (.tmp 38) (.tmp 36),_,_,_,none⟩) rfl (fun K hK=>?_) AllReadyH.nil
    rw [if_pos (by rfl)]
    have hth:=(HTh.out w6 H6.out.2.1).1
    have h65:(oc (joE e1 e) (joM e1 e M1 M)).size=65:=oc_size _ _
    refine wp_store_mid 90 (.tmp 38) (.tmp 36) rfl g (k*66) (oc (joE e1 e) (joM e1 e M1 M)) rfl rfl (by rw [h65]; exact hth) (by rw [hl (joE e1 e) (joM e1 e M1 M)]; simp) (Array.all_eq_true_iff_forall_mem.2 fun v hv=>oc_one _ _ v (by simpa using hv)) ?_
    refine hK.out _ _ (HSc.out w6 _ _ H6.out.1) (fun _=>?_)
    clear hK K
    refine wpAnyH_done (by kernel_rfl) ?_ _
    have HFin:Hid (SSt (((w6.setCells g (k*66) (oc (joE e1 e) (joM e1 e M1 M)).toList).setCell ⟨g,k*66+65,none⟩ (.bool true)).setCell ⟨s,2,none⟩ (.bool true)) s g pv (P.1.set k ⟨joE e1 e,joM e1 e M1 M,true⟩,true)/\On2 s g w (((w6.setCells g (k*66) (oc (joE e1 e) (joM e1 e M1 M)).toList).setCell ⟨g,k*66+65,none⟩ (.bool true)).setCell ⟨s,2,none⟩ (.bool true))):=⟨HSO.out w6 _ _ H6.out.2.1,HOn.out w5 w6 _ HS4.out.2.2.1 H6.out.2.2⟩
    have h7:=H6.out.2.1.setO hk (joE e1 e) (joM e1 e M1 M)
    have hln:(P.1.set k ⟨joE e1 e,joM e1 e M1 M,(P.1.getD k p0).wt⟩).length=P.1.length:=by simp
    obtain ⟨w7,hw7⟩:∃ w7,w7=w6.setCells g (k*66) (oc (joE e1 e) (joM e1 e M1 M)).toList:=⟨_,rfl⟩
    rw [<- hw7] at HFin h7 |-
    clear hw7
    have c7:w7.cell? ⟨s,1,none⟩=some (.slice (some ⟨g,0,none⟩) P.1.length 21):=by
     have:=h7.sa.cell 1
     rw [this]
     show some (Value.slice (some ⟨g,0,none⟩) (P.1.set k _).length 21)=_
     rw [hln]
    have c9:w7.cell? ⟨s,2,none⟩=some (.bool P.2):=h7.sa.cell 2
    have f9:=h7.sa.free
    obtain ⟨wt,c8⟩:∃ wt,w7.cell? ⟨g,k*66+65,none⟩=some (.bool wt):=⟨_,(h7.pl k 65 (by rw [hln]; exact hk) (by omega)).trans (plc_wt _)⟩
    obtain ⟨C7,hC7,-⟩:=h7.ga
    have f8:=hC7.free
    have l7:=hC7.lt
    have l8:=h7.sa.lt
    clear h7 hC7 hth
    go_wp2_with fail
    go_end0
    exact ⟨rfl,by rw [HF.out]; exact HFin.out.1,HFin.out.2⟩
end Go.Proofs.YtffajooegiempaaGreatDoor

namespace Go.Proofs.YtffajooegiempaaGreatDoor
open Go.RowKit
variable {s g:Nat} {w w':World} {pv:Value} {P:SS} {F:List Ds}
def PK (w:World) (s g:Nat) (pv:Value) (F:List Ds):Prop:=∃ ao cap,pv=.slice ao F.length cap/\(F.length ≠ 0->∃ g0,ao=some ⟨g0,0,none⟩/\g0 ≠ s/\g0 ≠ g/\PRow w g0 F)
theorem PK.on (h:PK w s g pv F) (ho:On2 s g w w'):PK w' s g pv F:=by
 obtain ⟨ao,cap,hv,h0⟩:=h
 refine ⟨ao,cap,hv,fun hn=>?_⟩
 obtain ⟨g0,h1,h2,h3,h4⟩:=h0 hn
 refine ⟨g0,h1,h2,h3,Nat.lt_of_lt_of_le h4.1 ho.size,fun j x hx=>?_⟩
 have hc:∀ o,w'.cell? ⟨g0,o,none⟩=w.cell? ⟨g0,o,none⟩:=fun o=>ho.cell h4.1 h2 h3 o
 have:=h4.2 j x hx
 simp only [hc]
 exact this
theorem PK.keep (h:PK w s g pv F) (hb:Below w.heap.size w w'):PK w' s g pv F:=h.on (On2.of hb (Nat.le_refl _) s g)
structure FB (w wr:World) (s g B5 B6:Nat) (pv:Value) (F:List Ds) (e:Bool) (M:Nat->Int) (x:Ds) (P:SS):Prop where
 oa:OAt wr B5 e M
 da:At wr B6 (dsCells x) tDs
 st:SSt wr s g pv P
 pk:PK wr s g pv F
 on:On2 s g w wr
theorem FB.keep {wr w':World} {B5 B6:Nat} {e:Bool} {M:Nat->Int} {x:Ds} (h:FB w wr s g B5 B6 pv F e M x P) (hb:Below wr.heap.size wr w'):FB w w' s g B5 B6 pv F e M x P :=
 ⟨At.keep h.oa hb (At.lt h.oa),h.da.keep hb h.da.lt,h.st.keep hb,h.pk.keep hb,h.on.trans (On2.of hb (Nat.le_refl _) s g)⟩
theorem FB.step {wr w':World} {B5 B6:Nat} {e:Bool} {M:Nat->Int} {x:Ds} {P':SS} (h:FB w wr s g B5 B6 pv F e M x P) (ho:On2 s g wr w') (hs:SSt w' s g pv P') (h5:B5 ≠ s/\B5 ≠ g) (h6:B6 ≠ s/\B6 ≠ g):FB w w' s g B5 B6 pv F e M x P' :=
 ⟨ho.at_ h.oa h5.1 h5.2,ho.at_ h.da h6.1 h6.2,hs,h.pk.on ho,h.on.trans ho⟩
theorem s_follow (h:SSt w s g pv P) (hK:PK w s g pv F) (hl:F.length<=20) (hpar:∀ (k:Nat) (x:Ds),F[k]?=some x->-1<=x.parent/\x.parent < (k:Int)) (k:Nat) (e:Bool) (M:Nat->Int)
  (hx:k < F.length->DsG (F.getD k (newDs 0 0))/\0<=(F.getD k (newDs 0 0)).target/\(F.getD k (newDs 0 0)).target < 4) (hM:∀ j,j < 64->-20000000000<=M j/\M j<=1000000) (hS:e=false->Sh M) :
  Calls Tryz.prog 86 #[.pointer (some ⟨s,0,none⟩),.int .i64 (k:Int),.agg (oc e M)] w fun x w'=>x=.returned (.tuple #[])/\SSt w' s g pv (flwS F k e M P)/\On2 s g w w':=by
 have hb1:Below w.heap.size w (w.alloc (.cells (oc e M) tO)):=(Below.refl _ _).alloc (Nat.le_refl _) _
 have hsl:=h.sa.lt
 have hgl:=h.glt
 have H1:Hid (SSt (w.alloc (.cells (oc e M) tO)) s g pv P/\OAt (w.alloc (.cells (oc e M) tO)) w.heap.size e M/\Below w.heap.size w (w.alloc (.cells (oc e M) tO))/\PK (w.alloc (.cells (oc e M) tO)) s g pv F):=⟨h.keep hb1,At.new _ _ _,hb1,hK.keep hb1⟩
 have cp:(w.alloc (.cells (oc e M) tO)).cell? ⟨s,0,none⟩=some pv:=H1.out.1.sa.cell 0
 obtain ⟨ao,cap,hpv,hrow⟩:=id hK
 by_cases hk:k < F.length
 case neg =>
  have HE:Hid (flwS F k e M P=P):=if_neg hk
  have HAt:Hid (∀ w1,Calls Tryz.prog 81 #[.agg #[pv],.int .i64 (k:Int)] w1 fun x w'=>x=.returned (.tuple #[dsv zDs,.int .i64 2])/\Below w1.heap.size w1 w'):=fun w1=>by rw [hpv]; exact d_at_out ao F.length hl (k:Int) (.inr (by omega))
  unfold dsv zDs newDs at HAt
  clear hrow hpv hK h hb1 hx hM hS
  go_enter Tryz.func86,Tryz.ntmps86
  go_wp2_with fail
  refine (HAt.out _).mono ?_
  rintro x w2 ⟨rfl,hb2⟩
  have H2:Hid (SSt w2 s g pv P/\Below w.heap.size w w2):=⟨H1.out.1.keep hb2,H1.out.2.2.1.trans (hb2.mono (by simp))⟩
  clear hb2
  go_wp2_with fail
  try simp only [Exit.inBlock,Exit.then]
  refine bodyPost_ret (results_none rfl _ _ _) rfl ?_
  exact ⟨rfl,by rw [HE.out]; exact H2.out.1.keep ((Below.refl _ _).alloc (Nat.le_refl _) _),On2.of (H2.out.2.alloc H2.out.2.size _) (Nat.le_refl _) _ _⟩
 obtain ⟨g0,hao,hg1,hg2,hP⟩:=hrow (by omega)
 have hx:=hx hk
 have HAt:Hid (∀ w1,PK w1 s g pv F->Calls Tryz.prog 81 #[.agg #[pv],.int .i64 (k:Int)] w1 fun e w'=>e=.returned (.tuple #[dsv (F.getD k (newDs 0 0)),.int .i64 0])/\Below w1.heap.size w1 w'):=fun w1 hp=>by
  obtain ⟨ao,cap,e1,h2⟩:=hp
  obtain ⟨g1,e2,_,_,h3⟩:=h2 (by omega)
  rw [e1,e2]
  exact d_at_in h3 k hk
 have HNx:Hid (∀ w1 (way:Nat),(way:Int) < waysP (F.getD k (newDs 0 0)).kind->PK w1 s g pv F->Calls Tryz.prog 68 #[.agg #[pv],.int .i64 (k:Int),.int .i64 (way:Int)] w1 fun e w'=>e=.returned (.tuple #[.int .i64 (nextP F k way).1,.int .i64 0])/\Below w1.heap.size w1 w'):=fun w1 way hw hp=>by
  obtain ⟨ao,cap,e1,h2⟩:=hp
  obtain ⟨g1,e2,_,_,h3⟩:=h2 (by omega)
  rw [e1,e2]
  have:=d_next_in (cap:=cap) h3 hl hpar k hk (way:Int)
  unfold twoD at this
  rw [next_z F k hk way hw] at this
  exact this
 have HSf:Hid (∀ w1,Calls Tryz.prog 82 #[dsv (F.getD k (newDs 0 0)),.agg (oc e M)] w1 fun x w'=>x=.returned (.bool (sfP e M (F.getD k (newDs 0 0))))/\Below w1.heap.size w1 w'):=fun w1=>e_safe _ hx.1 (fun j hj=>by have:=hM j hj; omega)
 have HPo:Hid (∀ w1 (way:Nat),Calls Tryz.prog 80 #[dsv (F.getD k (newDs 0 0)),.int .i64 (way:Int),.agg (oc e M)] w1 fun x w'=>x=.returned (.agg (oc (poE e M (F.getD k (newDs 0 0)) way) (poM e M (F.getD k (newDs 0 0)) way)))/\Below w1.heap.size w1 w'):=fun w1 way=>e_post _ hx.1 hx.2 (way:Int) hM hS
 have HCl:Hid (∀ w1 P pt e M,SSt w1 s g pv P->Calls Tryz.prog 53 #[.pointer (some ⟨s,0,none⟩),.int .i64 pt,.agg (oc e M)] w1 fun x w'=>x=.returned (.tuple #[])/\SSt w' s g pv (clmS P pt e M)/\On2 s g w1 w'):=fun w1 P pt e M h=>s_claim h pt e M
 have HC:Hid (flwS F k e M P=if sfP e M (F.getD k (newDs 0 0))=true then wysS F k e M P (waysP (F.getD k (newDs 0 0)).kind).toNat else P):=if_pos hk
 have HWs:Hid (∀ i:Nat,wysS F k e M P (i+1)=clmS (wysS F k e M P i) (nextP F k i).1 (poE e M (F.getD k (newDs 0 0)) i) (poM e M (F.getD k (newDs 0 0)) i)):=fun i=>rfl
 have HW0:Hid (wysS F k e M P 0=P):=rfl
 clear hP hl hpar hx hM hS hK h hrow hb1 hao hpv
 generalize wysS F k e M P=ws at *
 generalize F.getD k (newDs 0 0)=x at *
 have hwr:=ways_rng x.kind
 obtain ⟨n,hn⟩:∃ n:Nat,waysP x.kind=(n:Int):=⟨(waysP x.kind).toNat,by omega⟩
 have HW:Hid (∀ w1,Calls Tryz.prog 111 #[dsv x] w1 fun e w'=>e=.returned (.int .i64 (n:Int))/\Below w1.heap.size w1 w'):=fun w1=>by
  rw [<- hn]
  exact (d_ways _ _ _ _ _ _ _ _ _ _ w1).mono fun e w' ⟨h1,o,h2⟩=>⟨h1,by rw [h2]; exact (Below.refl _ _).alloc (Nat.le_refl _) _⟩
 rw [hn] at HC HNx
 rw [Int.toNat_natCast] at HC
 unfold dsv at HAt HSf HPo HW
 have hn2:n<=2:=by omega
 clear hwr hn
 have hz:=o_zero
 go_enter Tryz.func86,Tryz.ntmps86
 go_wp2_with fail
 refine (HAt.out _ H1.out.2.2.2).mono ?_
 rintro y w1 ⟨rfl,hb1⟩
 have hs1:w.heap.size+1<=w1.heap.size:=by have:=hb1.size; simpa using this
 have H2:Hid (FB w (w1.alloc (.cells (dsCells x) tDs)) s g w.heap.size w1.heap.size pv F e M x P):=by
  have hB:Below w.heap.size w w1:=H1.out.2.2.1.trans (hb1.mono (by simp))
  have hb2:Below w1.heap.size w1 (w1.alloc (.cells (dsCells x) tDs)):=(Below.refl _ _).alloc (Nat.le_refl _) _
  have ho:OAt w1 w.heap.size e M:=At.keep H1.out.2.1 hb1 (by simp)
  exact ⟨At.keep ho hb2 (At.lt ho),At.new _ _ _,(H1.out.1.keep hb1).keep hb2,(H1.out.2.2.2.keep hb1).keep hb2,On2.of (hB.trans (hb2.mono hB.size)) (Nat.le_refl _) s g⟩
 clear hb1 H1 cp
 obtain ⟨w2,hw2⟩:∃ w2,w2=w1.alloc (.cells (dsCells x) tDs):=⟨_,rfl⟩
 have y0:(w1.alloc (.cells (dsCells x) tDs)).cell? ⟨w1.heap.size,0,none⟩=some (.int .i64 x.kind):=(H2.out.da).cell 0
 have y1:(w1.alloc (.cells (dsCells x) tDs)).cell? ⟨w1.heap.size,1,none⟩=some (.int .i64 x.target):=(H2.out.da).cell 1
 have y2:(w1.alloc (.cells (dsCells x) tDs)).cell? ⟨w1.heap.size,2,none⟩=some (.bool x.any):=(H2.out.da).cell 2
 have y3:(w1.alloc (.cells (dsCells x) tDs)).cell? ⟨w1.heap.size,3,none⟩=some (.int .i64 (sgAt x.sg 0)):=(H2.out.da).cell 3
 have y4:(w1.alloc (.cells (dsCells x) tDs)).cell? ⟨w1.heap.size,4,none⟩=some (.int .i64 (sgAt x.sg 1)):=(H2.out.da).cell 4
 have y5:(w1.alloc (.cells (dsCells x) tDs)).cell? ⟨w1.heap.size,5,none⟩=some (.int .i64 (sgAt x.sg 2)):=(H2.out.da).cell 5
 have y6:(w1.alloc (.cells (dsCells x) tDs)).cell? ⟨w1.heap.size,6,none⟩=some (.int .i64 (sgAt x.sg 3)):=(H2.out.da).cell 6
 have y7:(w1.alloc (.cells (dsCells x) tDs)).cell? ⟨w1.heap.size,7,none⟩=some (.int .i64 x.num):=(H2.out.da).cell 7
 have y8:(w1.alloc (.cells (dsCells x) tDs)).cell? ⟨w1.heap.size,8,none⟩=some (.int .i64 x.parent):=(H2.out.da).cell 8
 have y9:(w1.alloc (.cells (dsCells x) tDs)).cell? ⟨w1.heap.size,9,none⟩=some (.int .i64 x.block):=(H2.out.da).cell 9
 go_wp2_with (refine wpList_load_o rfl (.tmp 5) rfl rfl H2.out.oa ?_)
 refine (HSf.out _).mono ?_
 rintro y w3 ⟨rfl,hb3⟩
 have h56:(w.heap.size ≠ s/\w.heap.size ≠ g)/\(w1.heap.size ≠ s/\w1.heap.size ≠ g):=⟨⟨by omega,by omega⟩,⟨by omega,by omega⟩⟩
 have H3:Hid (FB w w3 s g w.heap.size w1.heap.size pv F e M x P):=H2.out.keep hb3
 have H56:Hid ((w.heap.size ≠ s/\w.heap.size ≠ g)/\(w1.heap.size ≠ s/\w1.heap.size ≠ g)):=h56
 clear hb3 HSf y0 y1 y2 y3 y4 y5 y6 y7 y8 y9 H2 hw2 w2 h56
 cases hsf:sfP e M x with
 | false =>
  have HE:Hid (flwS F k e M P=P):=by show _=_; rw [HC.out,if_neg (by rw [hsf]; decide)]
  clear hsf
  go_wp2_with fail
  try simp only [Exit.inBlock,Exit.then]
  refine bodyPost_ret (results_none rfl _ _ _) rfl ?_
  exact ⟨rfl,by rw [HE.out]; exact H3.out.st,H3.out.on⟩
 | true =>
  have HE:Hid (flwS F k e M P=ws n):=by show _=_; rw [HC.out,if_pos hsf]
  clear hsf HC
  go_wp2_with fail
  go_loopw [8] (fun iv wr=>∃ i:Nat,i<=n/\iv=.int .i64 (i:Int)/\Hid (FB w wr s g w.heap.size w1.heap.size pv F e M x (ws i))) (fun iv _=>n - (intOf iv).toNat)
  case atStart=>exact ⟨0,by omega,rfl,by rw [HW0.out]; exact H3.out⟩
  case round =>
   obtain ⟨i,hi,rfl,HR⟩:=hrel
   have y0:wr.cell? ⟨w1.heap.size,0,none⟩=some (.int .i64 x.kind):=(HR.out.da).cell 0
   have y1:wr.cell? ⟨w1.heap.size,1,none⟩=some (.int .i64 x.target):=(HR.out.da).cell 1
   have y2:wr.cell? ⟨w1.heap.size,2,none⟩=some (.bool x.any):=(HR.out.da).cell 2
   have y3:wr.cell? ⟨w1.heap.size,3,none⟩=some (.int .i64 (sgAt x.sg 0)):=(HR.out.da).cell 3
   have y4:wr.cell? ⟨w1.heap.size,4,none⟩=some (.int .i64 (sgAt x.sg 1)):=(HR.out.da).cell 4
   have y5:wr.cell? ⟨w1.heap.size,5,none⟩=some (.int .i64 (sgAt x.sg 2)):=(HR.out.da).cell 5
   have y6:wr.cell? ⟨w1.heap.size,6,none⟩=some (.int .i64 (sgAt x.sg 3)):=(HR.out.da).cell 6
   have y7:wr.cell? ⟨w1.heap.size,7,none⟩=some (.int .i64 x.num):=(HR.out.da).cell 7
   have y8:wr.cell? ⟨w1.heap.size,8,none⟩=some (.int .i64 x.parent):=(HR.out.da).cell 8
   have y9:wr.cell? ⟨w1.heap.size,9,none⟩=some (.int .i64 x.block):=(HR.out.da).cell 9
   have hl7:=HR.out.da.lt
   go_wp2_with fail
   refine (HW.out wr).mono ?_
   rintro y w5 ⟨rfl,hb5⟩
   have H5:Hid (FB w w5 s g w.heap.size w1.heap.size pv F e M x (ws i)):=HR.out.keep hb5
   clear hb5 y0 y1 y2 y3 y4 y5 y6 y7 y8 y9 hl7
   by_cases hin:i < n
   ·have hii:(i:Int) < (n:Int):=by omega
    have c3:w5.cell? ⟨s,0,none⟩=some pv:=H5.out.st.sa.cell 0
    have l3:=H5.out.st.sa.lt
    have hnx:=HNx.out w5 i hii H5.out.pk
    have HWi:Hid (ws (i+1)=clmS (ws i) (nextP F k i).1 (poE e M x i) (poM e M x i)):=HWs.out i
    generalize (nextP F k i).1=q at *
    have HPi:Hid _:=fun w1=>HPo.out w1 i
    generalize poE e M x i=e4 at *
    generalize poM e M x i=M4 at *
    go_wp2_with fail
    refine hnx.mono ?_
    rintro y w6 ⟨rfl,hb6⟩
    have H6:Hid (FB w w6 s g w.heap.size w1.heap.size pv F e M x (ws i)):=H5.out.keep hb6
    clear hb6 hnx c3 l3
    have y0:w6.cell? ⟨w1.heap.size,0,none⟩=some (.int .i64 x.kind):=(H6.out.da).cell 0
    have y1:w6.cell? ⟨w1.heap.size,1,none⟩=some (.int .i64 x.target):=(H6.out.da).cell 1
    have y2:w6.cell? ⟨w1.heap.size,2,none⟩=some (.bool x.any):=(H6.out.da).cell 2
    have y3:w6.cell? ⟨w1.heap.size,3,none⟩=some (.int .i64 (sgAt x.sg 0)):=(H6.out.da).cell 3
    have y4:w6.cell? ⟨w1.heap.size,4,none⟩=some (.int .i64 (sgAt x.sg 1)):=(H6.out.da).cell 4
    have y5:w6.cell? ⟨w1.heap.size,5,none⟩=some (.int .i64 (sgAt x.sg 2)):=(H6.out.da).cell 5
    have y6:w6.cell? ⟨w1.heap.size,6,none⟩=some (.int .i64 (sgAt x.sg 3)):=(H6.out.da).cell 6
    have y7:w6.cell? ⟨w1.heap.size,7,none⟩=some (.int .i64 x.num):=(H6.out.da).cell 7
    have y8:w6.cell? ⟨w1.heap.size,8,none⟩=some (.int .i64 x.parent):=(H6.out.da).cell 8
    have y9:w6.cell? ⟨w1.heap.size,9,none⟩=some (.int .i64 x.block):=(H6.out.da).cell 9
    go_wp2_with (refine wpList_load_o rfl (.tmp 5) rfl rfl H6.out.oa ?_)
    refine (HPi.out w6).mono ?_
    rintro y w7 ⟨rfl,hb7⟩
    obtain ⟨w8,hst8,hat8,hb8,hs8⟩:=o_fresh w7 e4 M4
    have H8:Hid (OAt w8 w7.heap.size e4 M4/\FB w w8 s g w.heap.size w1.heap.size pv F e M x (ws i)):=⟨hat8,(H6.out.keep hb7).keep hb8⟩
    clear hb7 hat8 hb8 y0 y1 y2 y3 y4 y5 y6 y7 y8 y9
    go_wp2_with (refine wpList_load_o rfl (.tmp 11) rfl rfl H8.out.1 ?_)
    refine (HCl.out w8 (ws i) q e4 M4 H8.out.2.st).mono ?_
    rintro y w9 ⟨rfl,hst9,hon9⟩
    have H9:Hid (FB w w9 s g w.heap.size w1.heap.size pv F e M x (ws (i+1))):=H8.out.2.step hon9 (by rw [HWi.out]; exact hst9) H56.out.1 H56.out.2
    clear hst9 hon9
    go_wp2_with fail
    go_roundw
    case rel=>exact ⟨i+1,by omega,by go_num,H9.out⟩
    case measure=>simp [intOf]; omega
   ·have hie:i=n:=by omega
    subst hie
    go_wp2_with fail
    go_end0
    exact ⟨rfl,by rw [HE.out]; exact H5.out.st,H5.out.on⟩
end Go.Proofs.YtffajooegiempaaGreatDoor

namespace Go.Proofs.YtffajooegiempaaGreatDoor
open Go.RowKit
variable {s g:Nat} {w w':World} {pv:Value} {P:SS} {F:List Ds}
def plA (p:Pl):Array Value:=(plc p).toArray
theorem plA_size (p:Pl):(plA p).size=66:=by simp [plA,plc_len]
theorem plc_one (p:Pl):∀ v,v ∈ plc p->v.oneCell'=true:=by
 intro v hv
 unfold plc at hv
 rcases List.mem_append.1 hv with q | q
 ·exact oc_one p.e p.M v q
 ·rw [List.mem_singleton.1 q]; rfl
theorem pl_zero (w:World):(zeroValue 128).run Tryz.prog w=.ok (.agg (plA ⟨false,fun _=>0,false⟩)) w:=by kernel_rfl
theorem pl_info:∃ i0,Tryz.prog.info? 128=some i0/\i0.size=66:=by
 obtain ⟨i0,hi,hz0,hz1,hz2⟩:=info_parts (P:=Tryz.prog) (e:=128) (z:=.agg (plA ⟨false,fun _=>0,false⟩)) (size:=66) (bytes:=528) (by kernel_rfl)
 exact ⟨i0,hi,hz1⟩
theorem pl_size (p:Pl):(Tryz.prog.info? 128).map (·.size)=some (plc p).length:=by
 obtain ⟨i0,hi,hz1⟩:=pl_info
 simp [hi,hz1,plc_len]
theorem pl_fresh (w1:World) (p:Pl):∃ w2,(storeCells ⟨w1.heap.size,0,none⟩ (plc p)).run Tryz.prog (w1.alloc (.cells (plA ⟨false,fun _=>0,false⟩) tPl))=.ok () w2/\At w2 w1.heap.size (plA p) tPl/\Below w1.heap.size w1 w2/\w1.heap.size < w2.heap.size:=by
 have h0:At (w1.alloc (.cells (plA ⟨false,fun _=>0,false⟩) tPl)) w1.heap.size (plA ⟨false,fun _=>0,false⟩) tPl:=At.new _ _ _
 have hr:=run_storeCells_at Tryz.prog w1.heap.size 0 tPl (plc p) 0 (plA ⟨false,fun _=>0,false⟩) _ h0 (by rw [plc_len,plA_size]; omega) (plc_one p)
 have h1:=setRow_heap _ w1.heap.size (plA ⟨false,fun _=>0,false⟩) ((plA ⟨false,fun _=>0,false⟩).toList.take (0+0) ++ plc p ++ (plA ⟨false,fun _=>0,false⟩).toList.drop (0+0+(plc p).length)).toArray tPl (0,0) h0
 have e1:((plA ⟨false,fun _=>0,false⟩).toList.take (0+0) ++ plc p ++ (plA ⟨false,fun _=>0,false⟩).toList.drop (0+0+(plc p).length)).toArray=plA p:=by
  rw [List.drop_of_length_le (by rw [plc_len]; simp [plA_size])]
  simp [plA]
 rw [e1] at h1
 refine ⟨_,hr,by rw [e1]; exact h1,?_,?_⟩
 ·have hon:Onl w1.heap.size (w1.alloc (.cells (plA ⟨false,fun _=>0,false⟩) tPl)) ((w1.alloc (.cells (plA ⟨false,fun _=>0,false⟩) tPl)).setRow w1.heap.size ((plA ⟨false,fun _=>0,false⟩).toList.take (0+0) ++ plc p ++ (plA ⟨false,fun _=>0,false⟩).toList.drop (0+0+(plc p).length)).toArray):=⟨rfl,rfl,rfl,by simp [World.setRow],fun k _ hk=>setRow_other _ _ k _ (fun e=>hk e)⟩
  exact ((Below.refl _ _).alloc (Nat.le_refl _) _).trans (hon.below (Nat.le_refl _) (by simp))
 ·simp [World.setRow]
def RgP (p:Pl):Prop:=(∀ j,j < 64->-20000000000<=p.M j/\p.M j<=1000000)/\(p.e=false->Sh p.M)
theorem s_goRound (h:SSt w s g pv P) (hP21:P.1.length<=21) (hK:PK w s g pv F) (hl:F.length<=20) (hpar:∀ (k:Nat) (x:Ds),F[k]?=some x->-1<=x.parent/\x.parent < (k:Int))
  (hx:∀ k,k < F.length->DsG (F.getD k (newDs 0 0))/\0<=(F.getD k (newDs 0 0)).target/\(F.getD k (newDs 0 0)).target < 4) (hR:∀ k,k < P.1.length->RgP ((rndS F P k).1.getD k p0)) :
  Calls Tryz.prog 54 #[.pointer (some ⟨s,0,none⟩)] w fun x w'=>x=.returned (.tuple #[])/\SSt w' s g pv (rndS F P P.1.length)/\On2 s g w w':=by
 obtain ⟨z0,hz0⟩:∃ z0:Pl,z0=⟨false,fun _=>0,false⟩:=⟨_,rfl⟩
 have hz:∀ w,(zeroValue 128).run Tryz.prog w=.ok (.agg (plA z0)) w:=by rw [hz0]; exact pl_zero
 have HFr:Hid (∀ (w1:World) (p:Pl),∃ w2,(storeCells ⟨w1.heap.size,0,none⟩ (plc p)).run Tryz.prog (w1.alloc (.cells (plA z0) 128))=.ok () w2/\At w2 w1.heap.size (plA p) tPl/\Below w1.heap.size w1 w2/\w1.heap.size < w2.heap.size):=by rw [hz0]; exact pl_fresh
 have hz3:(plA z0).size=66:=plA_size z0
 have hz4:¬ plA z0=#[]:=fun h=>by have:=congrArg Array.size h; rw [plA_size] at this; simp at this
 clear hz0
 have HFo:Hid (∀ w1 P' k e M,SSt w1 s g pv P'->PK w1 s g pv F->RgP ⟨e,M,false⟩->Calls Tryz.prog 86 #[.pointer (some ⟨s,0,none⟩),.int .i64 ((k:Nat):Int),.agg (oc e M)] w1 fun x w'=>x=.returned (.tuple #[])/\SSt w' s g pv (flwS F k e M P')/\On2 s g w1 w'):=fun w1 P' k e M h1 h2 h3=>s_follow h1 h2 hl hpar k e M (hx k) h3.1 h3.2
 have HR:Hid (∀ k,k < P.1.length->RgP ⟨((rndS F P k).1.getD k p0).e,((rndS F P k).1.getD k p0).M,false⟩):=fun k hk=>hR k hk
 have HLn:Hid (∀ i,(rndS F P i).1.length=P.1.length):=fun i=>rndS_len F P i
 have HPn:Hid (∀ i:Nat,rndS F P (i+1)=if ((rndS F P i).1.getD i p0).wt=true then flwS F i ((rndS F P i).1.getD i p0).e ((rndS F P i).1.getD i p0).M ((rndS F P i).1.set i ⟨((rndS F P i).1.getD i p0).e,((rndS F P i).1.getD i p0).M,false⟩,(rndS F P i).2) else rndS F P i):=fun i=>rfl
 have H0:Hid (SSt (w.setCell ⟨s,2,none⟩ (.bool false)) s g pv (rndS F P 0)/\PK (w.setCell ⟨s,2,none⟩ (.bool false)) s g pv F/\On2 s g w (w.setCell ⟨s,2,none⟩ (.bool false))):=by
  have hon:=(On2.refl s g w).setCell (q:=s) (.inl rfl) 2 (.bool false)
  exact ⟨h.setG false,hK.on hon,hon⟩
 have hsl:=h.sa.lt
 have hgl:=h.glt
 have hne:=h.ne
 have cg:w.cell? ⟨s,2,none⟩=some (.bool P.2):=h.sa.cell 2
 have cf:=h.sa.free
 have HSz:Hid (∀ w1,On2 s g w w1->w.heap.size<=w1.heap.size):=fun w1 h1=>h1.size
 clear h hK hR hx hpar
 generalize P.1.length=n at *
 generalize rndS F P=rs at *
 go_enter Tryz.func54,Tryz.ntmps54
 go_wp2_with fail
 go_loopw [2] (fun iv wr=>∃ i:Nat,i<=n/\iv=.int .i64 (i:Int)/\Hid (SSt wr s g pv (rs i)/\PK wr s g pv F/\On2 s g w wr)) (fun iv _=>n - (intOf iv).toNat)
 case atStart=>exact ⟨0,by omega,rfl,H0.out⟩
 case round =>
  obtain ⟨i,hi,rfl,HQ⟩:=hrel
  have c1:wr.cell? ⟨s,1,none⟩=some (.slice (some ⟨g,0,none⟩) n 21):=by
   have:=HQ.out.1.sa.cell 1
   rw [this]
   show some (Value.slice (some ⟨g,0,none⟩) (rs i).1.length 21)=_
   rw [HLn.out i]
  have hsz:=HSz.out wr HQ.out.2.2
  by_cases hin:i < n
  ·have hii:(i:Int) < (n:Int):=by omega
   have hi0:(0:Int)<=(i:Int):=Int.natCast_nonneg _
   have hil:i < (rs i).1.length:=by rw [HLn.out i]; exact hin
   have HRow:Hid (wr.rangeAt g (i*66) (plc ((rs i).1.getD i p0))):=HQ.out.1.row hil
   have HPi:=HPn.out i
   have HPi:Hid (rs (i+1)=if ((rs i).1.getD i p0).wt=true then flwS F i ((rs i).1.getD i p0).e ((rs i).1.getD i p0).M ((rs i).1.set i ⟨((rs i).1.getD i p0).e,((rs i).1.getD i p0).M,false⟩,(rs i).2) else rs i):=HPi
   have HRi:Hid (RgP ⟨((rs i).1.getD i p0).e,((rs i).1.getD i p0).M,false⟩):=HR.out i hin
   have HSW:Hid (∀ w1,SSt w1 s g pv (rs i)->SSt (w1.setCell ⟨g,i*66+65,none⟩ (.bool false)) s g pv ((rs i).1.set i ⟨((rs i).1.getD i p0).e,((rs i).1.getD i p0).M,false⟩,(rs i).2)):=fun w1 h1=>h1.setW hil false
   have HCw:Hid (∀ w1,SSt w1 s g pv (rs i)->w1.cell? ⟨s,1,none⟩=some (.slice (some ⟨g,0,none⟩) n 21)/\w1.cell? ⟨g,i*66+65,none⟩=some (.bool ((rs i).1.getD i p0).wt)/\w1.frozen? ⟨g,i*66+65,none⟩=false):=fun w1 h1=>by
    obtain ⟨C,hC,_⟩:=h1.ga
    refine ⟨?_,(h1.pl i 65 hil (by omega)).trans (plc_wt _),hC.free _⟩
    rw [h1.sa.cell 1]
    show some (Value.slice (some ⟨g,0,none⟩) (rs i).1.length 21)=_
    rw [HLn.out i]
   have hps:=pl_size ((rs i).1.getD i p0)
   obtain ⟨w2,hst2,hat2,hb2,hs2⟩:=HFr.out wr ((rs i).1.getD i p0)
   have H2:Hid (SSt w2 s g pv (rs i)/\PK w2 s g pv F/\On2 s g w w2/\At w2 wr.heap.size (plA ((rs i).1.getD i p0)) tPl):=⟨HQ.out.1.keep hb2,HQ.out.2.1.keep hb2,HQ.out.2.2.trans (On2.of hb2 (Nat.le_refl _) s g),hat2⟩
   clear hat2 hb2 hil
   generalize (rs i).1.getD i p0=p at *
   have cw:w2.cell? ⟨wr.heap.size,65,none⟩=some (.bool p.wt):=by
    rw [H2.out.2.2.2.cell]
    show (plc p).toArray[65]?=_
    rw [List.getElem?_toArray]
    exact plc_wt p
   have HOc:Hid (∀ w1,At w1 wr.heap.size (plA p) tPl->w1.rangeAt wr.heap.size 0 (oc p.e p.M).toList):=fun w1 h1 j v hv=>by
    have hj:j < 65:=by
     rcases Nat.lt_or_ge j 65 with q | q
     ·exact q
     ·rw [List.getElem?_eq_none (by simp [oc_size]; omega)] at hv; cases hv
    rw [Nat.zero_add,h1.cell]
    show (plc p).toArray[j]?=_
    rw [List.getElem?_toArray,plc_oc p hj,<- Array.getElem?_toList]
    exact hv
   have hlo:(Tryz.prog.info? 90).map (·.size)=some (oc p.e p.M).toList.length:=by
    obtain ⟨i0,hi,hz1⟩:=o_info
    have hi':Tryz.prog.info? 90=some i0:=hi
    simp [hi',hz1,oc_size]
   obtain ⟨d1,d2,d3⟩:=HCw.out w2 H2.out.1
   have hg2:g < w2.heap.size:=H2.out.1.glt
   cases hwt:p.wt with
   | false =>
    have HE:Hid (rs (i+1)=rs i):=HPi.out.trans (if_neg (by rw [hwt]; decide))
    rw [hwt] at cw
    clear hwt
    go_wp2_with (refine wpList_load_mid rfl 128 (.tmp 21) rfl g (i*66) rfl (plc p) _ HRow.out Tryz.underlying128 rfl hps ?_)
    go_roundw
    case rel=>exact ⟨i+1,by omega,by go_num,by rw [HE.out]; exact H2.out.1,H2.out.2.1,H2.out.2.2.1⟩
    case measure=>simp [intOf]; omega
   | true =>
    have HE:Hid (rs (i+1)=flwS F i p.e p.M ((rs i).1.set i ⟨p.e,p.M,false⟩,(rs i).2)):=HPi.out.trans (if_pos hwt)
    have H3:Hid (SSt (w2.setCell ⟨g,i*66+65,none⟩ (.bool false)) s g pv ((rs i).1.set i ⟨p.e,p.M,false⟩,(rs i).2)/\PK (w2.setCell ⟨g,i*66+65,none⟩ (.bool false)) s g pv F/\On2 s g w (w2.setCell ⟨g,i*66+65,none⟩ (.bool false))/\At (w2.setCell ⟨g,i*66+65,none⟩ (.bool false)) wr.heap.size (plA p) tPl):=by
     have hon:=(On2.refl s g w2).setCell (q:=g) (.inr rfl) (i*66+65) (.bool false)
     exact ⟨HSW.out w2 H2.out.1,H2.out.2.1.on hon,H2.out.2.2.1.trans hon,H2.out.2.2.2.other _ _ (by omega)⟩
    have HO3:Hid ((w2.setCell ⟨g,i*66+65,none⟩ (.bool false)).rangeAt wr.heap.size 0 (oc p.e p.M).toList):=HOc.out _ H3.out.2.2.2
    rw [hwt] at cw d2
    clear hwt
    go_wp2_with (first | refine wpList_load_mid rfl 128 (.tmp 21) rfl g (i*66) rfl (plc p) _ HRow.out Tryz.underlying128 rfl hps ?_ | refine wpList_load_mid rfl 90 (.tmp 34) rfl wr.heap.size 0 rfl (oc p.e p.M).toList _ HO3.out Tryz.underlying90 rfl hlo ?_)
    refine (HFo.out _ _ i p.e p.M H3.out.1 H3.out.2.1 HRi.out).mono ?_
    rintro x w4 ⟨rfl,hst4,hon4⟩
    have H4:Hid (SSt w4 s g pv (rs (i+1))/\PK w4 s g pv F/\On2 s g w w4):=⟨by rw [HE.out]; exact hst4,H3.out.2.1.on hon4,H3.out.2.2.1.trans hon4⟩
    clear hst4 hon4
    go_wp2_with fail
    go_roundw
    case rel=>exact ⟨i+1,by omega,by go_num,H4.out⟩
    case measure=>simp [intOf]; omega
  ·have hie:i=n:=by omega
   subst hie
   go_wp2_with fail
   go_end0
   exact ⟨rfl,HQ.out.1,HQ.out.2.2⟩
end Go.Proofs.YtffajooegiempaaGreatDoor

