import Derived.Test.YtffajooegiempaaGreatDoorJ17
import Derived.BigRegion
set_option maxRecDepth 100000
set_option maxHeartbeats 6400000
namespace Go.Proofs.YtffajooegiempaaGreatDoor
open Go.RowKit
variable {B:Nat} {w w':World} {r:Nat} {m:Rd} {vs vo:Value} {P Q O:Nat->Nat}
theorem Tryz.infoPS:(Tryz.prog.info? tPS).map (fun i=>(i.zero,i.size,i.bytes))=some (some (.pointer none),1,8):=by kernel_rfl
theorem Tryz.infoPB:(Tryz.prog.info? tPB).map (fun i=>(i.zero,i.size,i.bytes))=some (some (.pointer none),1,8):=by kernel_rfl
theorem Rep.slen (h:Rep B w r m vs vo P Q O):∃ ao cap,vs=.slice ao m.st.length cap:=by
 obtain ⟨_,h2⟩:=h.rs
 rcases h2 with ⟨rfl,e⟩ | ⟨g,cap,c,rfl,_⟩
 ·exact ⟨none,0,by rw [e]⟩
 ·exact ⟨_,cap,rfl⟩
theorem Rep.olen (h:Rep B w r m vs vo P Q O):∃ ao cap,vo=.slice ao m.op.length cap:=by
 obtain ⟨_,h2⟩:=h.ro
 rcases h2 with ⟨rfl,e⟩ | ⟨g,cap,c,rfl,_⟩
 ·exact ⟨none,0,by rw [e]⟩
 ·exact ⟨_,cap,rfl⟩
def begun (w:World) (kd v:Int) (n:Nat):World :=
 (((w.alloc (.cells #[.int .i64 0,.int .i64 0,.int .i64 0,.int .i64 0] tI)).alloc (.cells #[.int .u8 kd,.int .i64 v,.bool false,.slice (some ⟨w.heap.size,0,none⟩) 4 4,.int .i64 0,.int .i64 0,.int .i64 ((n:Int)+1)] tS)).alloc (.cells #[.pointer (some ⟨w.heap.size+1,0,none⟩)] tPS)).drew
theorem begun_old (w:World) (kd v:Int) (n:Nat) (k:Nat) (hk:k < w.heap.size):(begun w kd v n).heap[k]?=w.heap[k]?:=by
 show ((((w.heap.push _).push _).push _))[k]?=_
 rw [Array.getElem?_push,if_neg (by simp; omega),Array.getElem?_push,if_neg (by simp; omega),Array.getElem?_push,if_neg (by omega)]
theorem begun_size (w:World) (kd v:Int) (n:Nat):(begun w kd v n).heap.size=w.heap.size+3:=by
 show ((((w.heap.push _).push _).push _)).size=_
 simp
theorem begun_q (w:World) (kd v:Int) (n:Nat):At (begun w kd v n) w.heap.size #[.int .i64 0,.int .i64 0,.int .i64 0,.int .i64 0] tI:=by
 show ((((w.heap.push _).push _).push _))[w.heap.size]?=_
 rw [Array.getElem?_push,if_neg (by simp; omega),Array.getElem?_push,if_neg (by simp),Array.getElem?_push,if_pos rfl]
theorem begun_p (w:World) (kd v:Int) (n:Nat):At (begun w kd v n) (w.heap.size+1) #[.int .u8 kd,.int .i64 v,.bool false,.slice (some ⟨w.heap.size,0,none⟩) 4 4,.int .i64 0,.int .i64 0,.int .i64 ((n:Int)+1)] tS:=by
 show ((((w.heap.push _).push _).push _))[w.heap.size+1]?=_
 rw [Array.getElem?_push,if_neg (by simp),Array.getElem?_push,if_pos (by simp)]
theorem begin_same {kd v:Int} {n:Nat} {w2:World} (h:Rep B w r m vs vo P Q O) (hg:(begun w kd v n).grownBy w2 vs.ownBlock):w2.heap[r]?=w.heap[r]? :=
 (hg.block r (by rw [begun_size]; have:=h.rd.lt; omega) (fun e=>ownsRow_type h.rs h.rd (by decide) e.symm)).trans (begun_old w kd v n r h.rd.lt)
theorem begin_below {kd v:Int} {n:Nat} {w2:World} {u:Value} (h:Rep B w r m vs vo P Q O) (hg:(begun w kd v n).grownBy w2 vs.ownBlock) (hB:B<=w.heap.size):Below B w (w2.setCell ⟨r,1,none⟩ u):=by
 refine Below.setCell ?_ h.geR _
 have hb:Below B w (begun w kd v n):=(((((Below.refl B w).alloc hB _).alloc (by simp; omega) _).alloc (by simp; omega) _)).drew
 exact hb.grown hg (by rw [begun_size]; omega) (fun k e=>(h.rs.lt k e).1)
theorem begin_rep (h:Rep B w r m vs vo P Q O) (kd v:Int) {w2:World} {u:Value} (hg:(begun w kd v m.st.length).grownBy w2 vs.ownBlock)
  (hown:w2.ownsRow B tPS 1 u (m.st.length+1) (((List.range m.st.length).map fun i=>ptr (P i)) ++ [.pointer (some ⟨w.heap.size+1,0,none⟩)])) (hB:B<=w.heap.size) :
  Rep B (w2.setCell ⟨r,1,none⟩ u) r { m with st:=m.st ++ [⟨kd,v,false,[0,0,0,0],0,0,m.st.length+1⟩] } u vo (updR P m.st.length (w.heap.size+1)) (updR Q m.st.length w.heap.size) O :=
 h.pushSt ⟨kd,v,false,[0,0,0,0],0,0,m.st.length+1⟩ u (w.heap.size+1) w.heap.size (begun w kd v m.st.length) w2 (by omega) (by omega) (by rw [begun_size]; omega) (by rw [begun_size]; omega) (begun_old w kd v _)
  (begun_p w kd v _) (begun_q w kd v _) hg hown hB
theorem Rep.begin_ (h:Rep B w r m vs vo P Q O) (hl:m.st.length < 20) (kd v:Int) (hB:B<=w.heap.size) :
  Calls Tryz.prog 124 #[.pointer (some ⟨r,0,none⟩),.int .u8 kd,.int .i64 v] w fun e w'=>e=.returned (.bool true)/\Below B w w' /\
   ∃ vs' P' Q',Rep B w' r { m with st:=m.st ++ [⟨kd,v,false,[0,0,0,0],0,0,m.st.length+1⟩] } vs' vo P' Q' O:=by
 obtain ⟨ao,cap,rfl⟩:=h.slen
 obtain ⟨r0,r1,r2,r3,r4,r5,rf⟩:=h.rdc
 have geR:=h.geR
 have hlt:=h.rd.lt
 have hown:=h.rs
 obtain ⟨i0,hi,hz0,hz1,hz2⟩:=info_parts Tryz.infoPS
 have b20:(((m.st.length:Nat):Int) == 20)=false:=by simp; omega
 have hmk:∀ w,(Instr.makeSlice 32 (.int .i64 4) (.int .i64 4)).run Tryz.prog w=.ok (.slice (some ⟨w.heap.size,0,none⟩) 4 4) (w.alloc (.cells #[.int .i64 0,.int .i64 0,.int .i64 0,.int .i64 0] 3)):=fun _=>by kernel_rfl
 have HR:Hid (Rep _ _ _ _ _ _ _ _ _):=h
 have HO:Hid (World.ownsRow _ _ _ _ _ _ _):=hown
 clear h hown
 go_enter Tryz.func124,Tryz.ntmps124
 go_wp2
 go_region
 go_wp2_with (at_builtin; refine wpList_append_own _ rfl (.tmp 29) (.tmp 31) 50 rfl B tPS i0 (.pointer none) 1 8 Tryz.underlying50 hi hz0 hz1 hz2 rfl (by decide) _ _ _ rfl ((((HO.out.alloc _).alloc _).alloc _).drew) ⟨w.heap.size+1+1,0,none⟩ 1 1 [.pointer (some ⟨w.heap.size+1,0,none⟩)] rfl rfl ?c1 ?c2 ?c3 ?c4 ?c5 ?_)
 case c1 =>
  intro j u hj
  match j,hj with
  | 0,hj=>simp at hj; subst hj; simp [Addr.add]; rw [World.cell?_alloc_at]; · rfl
        ·simp
 case c2=>intro u hu; simp at hu; subst hu; rfl
 case c3=>unfold maxLen; omega
 case c4=>omega
 case c5=>simp; omega
 intro v' w2 hown' hgrow _
 obtain ⟨g',cap',c',rfl,hg',ha',hc'⟩:=ownsRow_at hown' (by omega)
 have hsame:w2.heap[r]?=w.heap[r]?:=begin_same HR.out hgrow
 have k1:∀ i,w2.cell? ⟨r,i,none⟩=w.cell? ⟨r,i,none⟩:=fun i=>World.cell?_of_block (a:=⟨r,i,none⟩) hsame
 have k2:∀ i,w2.frozen? ⟨r,i,none⟩=w.frozen? ⟨r,i,none⟩:=fun i=>World.frozen?_of_block (a:=⟨r,i,none⟩) hsame
 have HW:Hid (World.ownsRow _ _ _ _ _ _ _):=hown'
 have HG:Hid (World.grownBy _ _ _):=hgrow
 clear hown' hgrow hsame ha'
 go_wp2
 go_ret
 refine ⟨rfl,begin_below HR.out HG.out hB,_,_,_,begin_rep HR.out kd v HG.out HW.out hB⟩
end Go.Proofs.YtffajooegiempaaGreatDoor

namespace Go.Proofs.YtffajooegiempaaGreatDoor
open Go.RowKit
variable {B:Nat} {w w':World} {r:Nat} {m:Rd} {vs vo:Value} {P Q O:Nat->Nat}
theorem Rep.beginFull (h:Rep B w r m vs vo P Q O) (hl:m.st.length=20) (kd v:Int) :
  Calls Tryz.prog 124 #[.pointer (some ⟨r,0,none⟩),.int .u8 kd,.int .i64 v] w fun e w'=>e=.returned (.bool false)/\w'=w:=by
 obtain ⟨ao,cap,hv⟩:=h.slen
 obtain ⟨r0,r1,r2,r3,r4,r5,rf⟩:=h.rdc
 rw [hv,hl] at r1
 clear h hl hv
 go_enter Tryz.func124,Tryz.ntmps124
 go_wp2
 go_ret
 exact ⟨rfl,rfl⟩
theorem Rep.rowO (h:Rep B w r m vs vo P Q O) (hn:0 < m.op.length):∃ g cap,vo=.slice (some ⟨g,0,none⟩) m.op.length cap/\(∀ i,i < m.op.length->w.cell? ⟨g,i,none⟩=some (ptr (O i)))/\g ≠ r/\m.op.length<=cap/\(∀ k s,m.st[k]?=some s->g ≠ P k/\g ≠ Q k)/\(∀ k,k < m.op.length->g ≠ O k):=by
 obtain ⟨g,cap,c,hv,hg,ha,hc⟩:=ownsRow_at h.ro hn
 refine ⟨g,cap,hv,?_,ha.ne h.rd (by decide),hc,fun k s hk=>?_,fun k hk=>?_⟩
 ·intro i hi
  have:=h.ro
  rw [hv] at this
  rw [this.cellAt i (by omega)]
  simp [hi]
 ·obtain ⟨a,b⟩:=h.st k s hk
  exact ⟨ha.ne a (by decide),ha.ne b (by decide)⟩
 ·exact ha.ne (h.op k _ (List.getElem?_eq_getElem hk)) (by decide)
theorem tops (hn:0 < m.op.length):m.op[m.op.length - 1]?=some (top m):=by
 unfold top
 rw [List.getD_eq_getElem?_getD,List.getElem?_eq_getElem (by omega)]; rfl
theorem Rep.opc (h:Rep B w r m vs vo P Q O) (k:Nat) (b:Bk) (hk:m.op[k]?=some b):w.cell? ⟨O k,0,none⟩=some (.int .i64 b.of_)/\w.cell? ⟨O k,1,none⟩=some (.bool b.second)/\(∀ i,w.frozen? ⟨O k,i,none⟩=false)/\O k ≠ r/\∀ j s,m.st[j]?=some s->O k ≠ P j:=by
 have a:=h.op k b hk
 exact ⟨a.cell 0,a.cell 1,a.free,a.ne h.rd (by decide),fun j s hj=>a.ne (h.st j s hj).1 (by decide)⟩
theorem rep_shut1 (h:Rep B w r m vs vo P Q O) (k:Nat) (s:St) (hk:m.st[k]?=some s) (hof:k < m.st.length) (a b:Nat) :
  Rep B (((((w.drewN a).setCell ⟨P k,6,none⟩ (.int .i64 m.st.length)).drewN b).setCell ⟨P k,5,none⟩ (.int .i64 m.st.length)).setCell ⟨r,0,none⟩ (.int .u8 125)) r
   { m with st:=m.st.set k { s with fin:=m.st.length,mid:=m.st.length },state:=125 } vs vo P Q O:=by
 have e1:=((h.drewN a).setSt k s { s with fin:=m.st.length } hk 6 (.int .i64 m.st.length) _ rfl rfl rfl).drewN b
 have hm1:({ m with st:=m.st.set k { s with fin:=m.st.length } }:Rd).st[k]?=some { s with fin:=m.st.length }:=by simp [hof]
 have e2:=e1.setSt k _ { s with fin:=m.st.length,mid:=m.st.length } hm1 5 (.int .i64 m.st.length) { m with st:=m.st.set k { s with fin:=m.st.length,mid:=m.st.length } } rfl rfl (by simp)
 exact e2.setRd 0 (.int .u8 125) _ rfl rfl rfl
theorem rep_shut2 {go cap:Nat} (h:Rep B w r m vs (.slice (some ⟨go,0,none⟩) m.op.length cap) P Q O) (k:Nat) (s:St) (hk:m.st[k]?=some s) (hn:0 < m.op.length) (a b:Nat) :
  Rep B ((((w.drewN a).setCell ⟨P k,6,none⟩ (.int .i64 m.st.length)).drewN b).setCell ⟨r,2,none⟩ (.slice (some ⟨go,0,none⟩) (m.op.length - 1) cap)) r
   { m with st:=m.st.set k { s with fin:=m.st.length },op:=m.op.take (m.op.length - 1) } vs (.slice (some ⟨go,0,none⟩) (m.op.length - 1) cap) P Q O:=by
 have e1:=((h.drewN a).setSt k s { s with fin:=m.st.length } hk 6 (.int .i64 m.st.length) _ rfl rfl rfl).drewN b
 exact e1.popOp hn rfl
theorem Rep.shut (h:Rep B w r m vs vo P Q O) (ok:Ok m) (hn:0 < m.op.length) :
  Calls Tryz.prog 125 #[.pointer (some ⟨r,0,none⟩)] w (Post B w r (shutStep m)):=by
 have ht:=tops hn
 have hof:(top m).of_ < m.st.length:=ok.ofs _ (List.mem_of_getElem? ht)
 have hs:m.st[(top m).of_]?=some (m.st.getD (top m).of_ noSt):=by rw [List.getD_eq_getElem?_getD,List.getElem?_eq_getElem hof]; rfl
 obtain ⟨g,cap,hvs,hrow,ngr,hcap,ngp⟩:=h.row (by omega)
 obtain ⟨go,capo,hvo,hrowo,ngor,hcapo,ngop,ngo⟩:=h.rowO hn
 obtain ⟨o0,o1,of,nor,nop⟩:=h.opc _ _ ht
 obtain ⟨c0,c1,c2,c3,c4,c5,c6,f7,f8,n9,n10,n11⟩:=h.stc _ _ hs
 have noP:=nop _ _ hs
 obtain ⟨r0,r1,r2,r3,r4,r5,rf⟩:=h.rdc
 have geR:=h.geR
 obtain ⟨geP,geQ⟩:=h.geP _ hof
 have hg1:=hrow _ hof
 have hg2:=hrowo (m.op.length - 1) (by omega)
 have ngp1:=(ngp _ _ hs).1
 have ngop1:=(ngop _ _ hs).1
 unfold ptr at hg1 hg2
 have hl:=ok.len
 have ho:=ok.oplen
 have HS:Hid (shutStep m=if (m.st.getD (top m).of_ noSt).kind=63/\(top m).second=false then some { m with st:=m.st.set (top m).of_ { m.st.getD (top m).of_ noSt with fin:=m.st.length,mid:=m.st.length },state:=125 }
  else some { m with st:=m.st.set (top m).of_ { m.st.getD (top m).of_ noSt with fin:=m.st.length },op:=m.op.take (m.op.length - 1) }):=rfl
 generalize hb:top m=b at *
 generalize hss:m.st.getD b.of_ noSt=s at *
 have HT:Hid (m.op[m.op.length - 1]?=some b):=ht
 have HM:Hid (m.st[b.of_]?=some s):=hs
 subst hvs
 subst hvo
 have HR:Hid (Rep _ _ _ _ _ _ _ _ _):=h
 have OK:Hid (Ok m):=ok
 clear h ok ht hs hrow hrowo hb hss ngp ngop ngo nop
 generalize hp:P b.of_=p at *
 generalize O (m.op.length - 1)=q at *
 have nrp:r ≠ p:=fun e=>n9 e.symm
 have nrq:r ≠ q:=fun e=>nor e.symm
 have npq:p ≠ q:=fun e=>noP e.symm
 have npg:p ≠ g:=fun e=>ngp1 e.symm
 have hofi:((b.of_:Nat):Int) < (m.st.length:Int):=by omega
 have hof0:(0:Int)<=((b.of_:Nat):Int):=by omega
 have NP:Hid (P b.of_=p):=hp
 clear hp
 by_cases hk:s.kind=63
 ·rw [hk] at c0
  cases hsec:b.second
  ·rw [hsec] at o1
   have HY:Hid (shutStep m=some { m with st:=m.st.set b.of_ { s with fin:=m.st.length,mid:=m.st.length },state:=125 }):=HS.out.trans (if_pos ⟨hk,hsec⟩)
   clear hk hsec HS
   go_enter Tryz.func125,Tryz.ntmps125
   go_wp2
   go_quiet (fail)
   go_wp2
   go_region
   go_wp2
   go_quiet (fail)
   go_wp2
   go_region
   go_wp2
   go_ret
   rw [<- NP.out]
   exact post_yes HY.out (Below.setCell (Below.setCell (below_drewN (Below.setCell (below_drewN (Below.refl _ _) _) (by rw [NP.out]; exact geP) _) _) (by rw [NP.out]; exact geP) _) geR _) (rep_shut1 HR.out b.of_ s HM.out hof _ _)
  ·rw [hsec] at o1
   have HY:Hid (shutStep m=some { m with st:=m.st.set b.of_ { s with fin:=m.st.length },op:=m.op.take (m.op.length - 1) }):=HS.out.trans (if_neg (by rintro ⟨_,e⟩; rw [hsec] at e; cases e))
   clear hk hsec HS
   go_enter Tryz.func125,Tryz.ntmps125
   go_wp2
   go_quiet (fail)
   go_wp2
   go_region
   go_wp2
   go_quiet (fail)
   go_wp2
   go_region
   go_wp2
   go_ret
   rw [<- NP.out]
   exact post_yes HY.out (Below.setCell (below_drewN (Below.setCell (below_drewN (Below.refl _ _) _) (by rw [NP.out]; exact geP) _) _) geR _) (rep_shut2 HR.out b.of_ s HM.out hn _ _)
 ·have bk:(s.kind == 63)=false:=by simpa using hk
  have HY:Hid (shutStep m=some { m with st:=m.st.set b.of_ { s with fin:=m.st.length },op:=m.op.take (m.op.length - 1) }):=HS.out.trans (if_neg (fun e=>hk e.1))
  clear hk HS
  go_enter Tryz.func125,Tryz.ntmps125
  go_wp2
  go_quiet (fail)
  go_wp2
  go_region
  go_wp2
  go_quiet (fail)
  go_wp2
  go_region
  go_wp2
  go_ret
  rw [<- NP.out]
  exact post_yes HY.out (Below.setCell (below_drewN (Below.setCell (below_drewN (Below.refl _ _) _) (by rw [NP.out]; exact geP) _) _) geR _) (rep_shut2 HR.out b.of_ s HM.out hn _ _)
end Go.Proofs.YtffajooegiempaaGreatDoor

namespace Go.Proofs.YtffajooegiempaaGreatDoor
open Go.RowKit
variable {B:Nat} {w w':World} {r:Nat} {m:Rd} {vs vo:Value} {P Q O:Nat->Nat}
theorem IntKind_wrap_small (x:Int) (h0:0<=x) (h1:x<=1000):IntKind.i64.wrap x=x:=by
 rw [IntKind.wrap_i64]; omega
def opened (w:World) (x:Int):World :=
 ((w.alloc (.cells #[.int .i64 x,.bool false] tB)).alloc (.cells #[.pointer (some ⟨w.heap.size,0,none⟩)] tPB)).drew
theorem opened_old (w:World) (x:Int) (k:Nat) (hk:k < w.heap.size):(opened w x).heap[k]?=w.heap[k]?:=by
 show (((w.heap.push _).push _))[k]?=_
 rw [Array.getElem?_push,if_neg (by simp; omega),Array.getElem?_push,if_neg (by omega)]
theorem opened_size (w:World) (x:Int):(opened w x).heap.size=w.heap.size+2:=by
 show (((w.heap.push _).push _)).size=_
 simp
theorem opened_p (w:World) (x:Int):At (opened w x) w.heap.size #[.int .i64 x,.bool false] tB:=by
 show (((w.heap.push _).push _))[w.heap.size]?=_
 rw [Array.getElem?_push,if_neg (by simp),Array.getElem?_push,if_pos rfl]
theorem opened_lit (w:World) (x:Int):∀ (j:Nat) (u:Value),[Value.pointer (some ⟨w.heap.size,0,none⟩)][j]?=some u->(opened w x).cell? ((⟨w.heap.size+1,0,none⟩:Addr).add j)=some u:=by
 intro j u hj
 match j,hj with
 | 0,hj =>
  simp at hj; subst hj
  simp only [opened,World.cell?_drew]
  simp [Addr.add]
theorem open_same {x:Int} {w2:World} (h:Rep B w r m vs vo P Q O) (hg:(opened w x).grownBy w2 vo.ownBlock):w2.heap[r]?=w.heap[r]? :=
 (hg.block r (by rw [opened_size]; have:=h.rd.lt; omega) (fun e=>ownsRow_type h.ro h.rd (by decide) e.symm)).trans (opened_old w x r h.rd.lt)
theorem open_below {x:Int} {w2:World} {u:Value} (h:Rep B w r m vs vo P Q O) (hg:(opened w x).grownBy w2 vo.ownBlock) (hB:B<=w.heap.size):Below B w ((w2.setCell ⟨r,2,none⟩ u).setCell ⟨r,0,none⟩ (.int .u8 115)):=by
 refine Below.setCell (Below.setCell ?_ h.geR _) h.geR _
 have hb:Below B w (opened w x):=((((Below.refl B w).alloc hB _).alloc (by simp; omega) _)).drew
 exact hb.grown hg (by rw [opened_size]; omega) (fun k e=>(h.ro.lt k e).1)
theorem open_rep (h:Rep B w r m vs vo P Q O) (hn:0 < m.st.length) {w2:World} {u:Value} (hg:(opened w ((m.st.length:Int) - 1)).grownBy w2 vo.ownBlock)
  (hown:w2.ownsRow B tPB 1 u (m.op.length+1) (((List.range m.op.length).map fun i=>ptr (O i)) ++ [.pointer (some ⟨w.heap.size,0,none⟩)])) (hB:B<=w.heap.size) :
  Rep B ((w2.setCell ⟨r,2,none⟩ u).setCell ⟨r,0,none⟩ (.int .u8 115)) r { m with op:=m.op ++ [⟨m.st.length - 1,false⟩],state:=115 } vs u P Q (updR O m.op.length w.heap.size):=by
 have hp:=opened_p w ((m.st.length:Int) - 1)
 have e:(m.st.length:Int) - 1=((m.st.length - 1:Nat):Int):=by omega
 refine (h.pushOp ⟨m.st.length - 1,false⟩ u (opened w ((m.st.length:Int) - 1)) w2 (by rw [opened_size]; omega) (opened_old w _) ?_ hg hown hB).setRd 0 (.int .u8 115) _ rfl rfl rfl
 rw [e] at hp |-
 exact hp
theorem Rep.bytePlain (h:Rep B w r m vs vo P Q O) (hsl:m.st.length<=20) (hol:m.op.length<=4) (hn:0 < m.st.length) (hB:B<=w.heap.size) (c:Int) (h0:0<=c) (h1:c<=255) (hx:m.state=59 \/ m.state=123) :
  Calls Tryz.prog 58 #[.pointer (some ⟨r,0,none⟩),.int .u8 c] w (Post B w r (plainStep m c)):=by
 obtain ⟨r0,r1,r2,r3,r4,r5,rf⟩:=h.rdc
 have geR:=h.geR
 rcases hx with hx | hx
 ·rw [hx] at r0
  by_cases hc:c=59
  ·subst hc
   have HY:Hid (plainStep m 59=some { m with state:=115 }):=by show plainStep m 59=_; unfold plainStep; rw [if_pos hx,if_pos rfl]
   have HR:Hid (Rep _ _ _ _ _ _ _ _ _):=h
   clear h hx
   go_enter Tryz.func58,Tryz.ntmps58
   go_wp2_with fail
   go_ret
   exact post_yes HY.out (Below.setCell (Below.refl _ _) geR _) (HR.out.setRd 0 (.int .u8 115) _ rfl rfl rfl)
  ·have bc:(c == 59)=false:=by simpa using hc
   have HY:Hid (plainStep m c=none):=by show plainStep m c=_; unfold plainStep; rw [if_pos hx,if_neg hc]
   have HR:Hid (Rep _ _ _ _ _ _ _ _ _):=h
   clear h hx hc
   go_enter Tryz.func58,Tryz.ntmps58
   go_wp2_with fail
   go_ret
   exact post_no HY.out (Below.setCell (Below.refl _ _) geR _)
 ·rw [hx] at r0
  by_cases hc:c=123
  ·subst hc
   obtain ⟨ao,cap,hvo⟩:=h.olen
   obtain ⟨so,scap,hvs⟩:=h.slen
   by_cases h4:m.op.length=4
   ·have HY:Hid (plainStep m 123=none):=by show plainStep m 123=_; unfold plainStep; rw [hx,if_neg (by decide),if_pos (.inr h4)]
    rw [hvo,h4] at r2
    clear h hx h4 hvo hvs
    go_enter Tryz.func58,Tryz.ntmps58
    go_wp2_with fail
    go_ret
    exact post_no HY.out (Below.refl _ _)
   ·have b4:(((m.op.length:Nat):Int) == 4)=false:=by simp; omega
    have HY:Hid (plainStep m 123=some { m with op:=m.op ++ [⟨m.st.length - 1,false⟩],state:=115 }):=by
     show plainStep m 123=_; unfold plainStep; rw [hx,if_neg (by decide),if_neg (fun e=>e.elim (fun e=>e rfl) h4)]
    have hown:=h.ro
    subst hvo
    subst hvs
    have hlt:=h.rd.lt
    obtain ⟨i0,hi,hz0,hz1,hz2⟩:=info_parts Tryz.infoPB
    have HR:Hid (Rep _ _ _ _ _ _ _ _ _):=h
    have HO:Hid (World.ownsRow _ _ _ _ _ _ _):=hown
    clear h hx h4 hown
    go_enter Tryz.func58,Tryz.ntmps58
    go_wp2_with fail
    have hwr:IntKind.i64.wrap ((m.st.length:Int) - 1)=(m.st.length:Int) - 1:=by have:=IntKind_wrap_small ((m.st.length:Int) - 1) (by omega) (by omega); exact this
    go_region_law (refine step_append_own rfl (.tmp 53) (.tmp 62) 51 rfl B tPB i0 (.pointer none) 1 8 Tryz.underlying51 hi hz0 hz1 hz2 rfl (by decide) _ _ _ rfl (((HO.out.alloc _).alloc _).drew) ⟨w.heap.size+1,0,none⟩ 1 1 [.pointer (some ⟨w.heap.size,0,none⟩)] rfl rfl (opened_lit w ((m.st.length:Int) - 1)) (by intro u hu; simp at hu; subst hu; rfl) (by unfold maxLen; omega) (by omega) (by simp; omega) ?_; intro v' w2 hown' hgrow; obtain ⟨g',cap',c',rfl,hg',ha',hc'⟩:=ownsRow_at hown' (by omega); have hsame:w2.heap[r]?=w.heap[r]?:=open_same HR.out hgrow; have k1:∀ i,w2.cell? ⟨r,i,none⟩=w.cell? ⟨r,i,none⟩:=fun i=>World.cell?_of_block (a:=⟨r,i,none⟩) hsame; have k2:∀ i,w2.frozen? ⟨r,i,none⟩=w.frozen? ⟨r,i,none⟩:=fun i=>World.frozen?_of_block (a:=⟨r,i,none⟩) hsame; have HW:Hid (World.ownsRow _ _ _ _ _ _ _):=hown'; have HG:Hid (World.grownBy _ _ _):=hgrow; clear hown' hgrow hsame ha')
    all_goals
     go_wp2_with fail
     go_ret
     exact post_yes HY.out (open_below HR.out HG.out hB) (open_rep HR.out hn HG.out HW.out hB)
  ·have bc:(c == 123)=false:=by simpa using hc
   have bn:(c != 123)=true:=by simpa using hc
   have HY:Hid (plainStep m c=none):=by show plainStep m c=_; unfold plainStep; rw [hx,if_neg (by decide),if_pos (.inl hc)]
   have HR:Hid (Rep _ _ _ _ _ _ _ _ _):=h
   clear h hx hc
   go_enter Tryz.func58,Tryz.ntmps58
   go_wp2_with fail
   go_ret
   exact post_no HY.out (Below.refl _ _)
end Go.Proofs.YtffajooegiempaaGreatDoor

namespace Go.Proofs.YtffajooegiempaaGreatDoor
open Go.RowKit
variable {B:Nat} {w w':World} {r:Nat} {m:Rd} {vs vo:Value} {P Q O:Nat->Nat}
theorem Rep.start (h:Rep B w r m vs vo P Q O) (ok:Ok m) (hB:B<=w.heap.size) (c:Int) (h0:0<=c) (h1:c<=255) :
  Calls Tryz.prog 92 #[.pointer (some ⟨r,0,none⟩),.int .u8 c] w (Post B w r (startStep m c)):=by
 obtain ⟨r0,r1,r2,r3,r4,r5,rf⟩:=h.rdc
 have geR:=h.geR
 have hlen:=ok.len
 have holen:=ok.oplen
 obtain ⟨ao,cap,hvo⟩:=h.olen
 by_cases hv:97<=c/\c<=100
 ·obtain ⟨hva,hvb⟩:=hv
  by_cases h20:m.st.length=20
  ·have HY:Hid (startStep m c=none):=by show startStep m c=_; unfold startStep beginStep; rw [if_pos ⟨hva,hvb⟩,if_pos h20]
   have HR:Hid (Rep _ _ _ _ _ _ _ _ _):=h
   have OK:Hid (Ok m):=ok
   clear h ok
   go_enter Tryz.func92,Tryz.ntmps92
   go_wp2_with (first | (go_at_call 123; refine (variable_yes c _ hva hvb).mono ?_; rintro e w' ⟨rfl,rfl⟩) | (go_at_call 124; refine (HR.out.beginFull h20 _ _).mono ?_; rintro e w' ⟨rfl,rfl⟩))
   go_ret
   exact post_no HY.out (Below.setCell (Below.refl _ _) geR _)
  ·have HY:Hid (startStep m c=some { m with st:=m.st ++ [⟨61,c - 97,false,[0,0,0,0],0,0,m.st.length+1⟩],state:=61 }):=by
    show startStep m c=_; unfold startStep beginStep; rw [if_pos ⟨hva,hvb⟩,if_neg h20]
   replace h20:m.st.length < 20:=by omega
   have HR:Hid (Rep _ _ _ _ _ _ _ _ _):=h
   have OK:Hid (Ok m):=ok
   clear h ok
   go_enter Tryz.func92,Tryz.ntmps92
   go_wp2_with (first | (go_at_call 123; refine (variable_yes c _ hva hvb).mono ?_; rintro e w' ⟨rfl,rfl⟩) | (go_at_call 124; refine (HR.out.begin_ h20 _ _ hB).mono ?_; rintro e w' ⟨rfl,hb,vs',P',Q',hr⟩; have hr0:=hr.rdc.1; have hr2:=hr.rdc.2.2.1; have hrf:=hr.rdc.2.2.2.2.2.2; have HQ:Hid (Rep _ _ _ _ _ _ _ _ _):=hr; clear hr))
   go_ret
   exact post_yes HY.out (Below.setCell hb geR _) (HQ.out.setRd 0 (.int .u8 61) _ rfl rfl rfl)
 by_cases hq:c=63 \/ c=64
 ·have b33:(c == 33)=false:=by rcases hq with rfl | rfl <;> rfl
  have hqb:((c == 63) || (c == 64))=true:=by rcases hq with rfl | rfl <;> rfl
  by_cases h20:m.st.length=20
  ·have HY:Hid (startStep m c=none):=by show startStep m c=_; unfold startStep beginStep; rw [if_neg hv,if_pos hq]; simp [h20]
   subst hvo
   clear hqb
   rcases hq with rfl | rfl
   ·have HR:Hid (Rep _ _ _ _ _ _ _ _ _):=h
    have OK:Hid (Ok m):=ok
    clear h ok
    go_enter Tryz.func92,Tryz.ntmps92
    go_wp2_with (first | (go_at_call 123; refine (variable_no _ _ (by omega) (by omega) (by omega)).mono ?_; rintro e w' ⟨rfl,rfl⟩) | (go_at_call 124; refine (HR.out.beginFull h20 _ _).mono ?_; rintro e w' ⟨rfl,rfl⟩))
    go_ret
    exact post_no HY.out (Below.setCell (Below.refl _ _) geR _)
   ·have HR:Hid (Rep _ _ _ _ _ _ _ _ _):=h
    have OK:Hid (Ok m):=ok
    clear h ok
    go_enter Tryz.func92,Tryz.ntmps92
    go_wp2_with (first | (go_at_call 123; refine (variable_no _ _ (by omega) (by omega) (by omega)).mono ?_; rintro e w' ⟨rfl,rfl⟩) | (go_at_call 124; refine (HR.out.beginFull h20 _ _).mono ?_; rintro e w' ⟨rfl,rfl⟩))
    go_ret
    exact post_no HY.out (Below.setCell (Below.refl _ _) geR _)
  ·by_cases h4:m.op.length < 4
   ·have HY:Hid (startStep m c=some { m with st:=m.st ++ [⟨c,0,false,[0,0,0,0],0,0,m.st.length+1⟩],state:=99 }):=by
     show startStep m c=_; unfold startStep beginStep; rw [if_neg hv,if_pos hq,if_pos h4,if_neg h20]
    replace h20:m.st.length < 20:=by omega
    have d4:decide (((m.op.length:Nat):Int) < 4)=true:=by simp; omega
    subst hvo
    clear hqb
    rcases hq with rfl | rfl
    ·have HR:Hid (Rep _ _ _ _ _ _ _ _ _):=h
     have OK:Hid (Ok m):=ok
     clear h ok
     go_enter Tryz.func92,Tryz.ntmps92
     go_wp2_with (first | (go_at_call 123; refine (variable_no _ _ (by omega) (by omega) (by omega)).mono ?_; rintro e w' ⟨rfl,rfl⟩) | (go_at_call 124; refine (HR.out.begin_ h20 _ _ hB).mono ?_; rintro e w' ⟨rfl,hb,vs',P',Q',hr⟩; have hr0:=hr.rdc.1; have hr2:=hr.rdc.2.2.1; have hrf:=hr.rdc.2.2.2.2.2.2; have HQ:Hid (Rep _ _ _ _ _ _ _ _ _):=hr; clear hr))
     go_ret
     exact post_yes HY.out (Below.setCell hb geR _) (HQ.out.setRd 0 (.int .u8 99) _ rfl rfl rfl)
    ·have HR:Hid (Rep _ _ _ _ _ _ _ _ _):=h
     have OK:Hid (Ok m):=ok
     clear h ok
     go_enter Tryz.func92,Tryz.ntmps92
     go_wp2_with (first | (go_at_call 123; refine (variable_no _ _ (by omega) (by omega) (by omega)).mono ?_; rintro e w' ⟨rfl,rfl⟩) | (go_at_call 124; refine (HR.out.begin_ h20 _ _ hB).mono ?_; rintro e w' ⟨rfl,hb,vs',P',Q',hr⟩; have hr0:=hr.rdc.1; have hr2:=hr.rdc.2.2.1; have hrf:=hr.rdc.2.2.2.2.2.2; have HQ:Hid (Rep _ _ _ _ _ _ _ _ _):=hr; clear hr))
     go_ret
     exact post_yes HY.out (Below.setCell hb geR _) (HQ.out.setRd 0 (.int .u8 99) _ rfl rfl rfl)
   ·have HY:Hid (startStep m c=none):=by show startStep m c=_; unfold startStep; rw [if_neg hv,if_pos hq,if_neg h4]
    replace h20:m.st.length < 20:=by omega
    have d4:decide (((m.op.length:Nat):Int) < 4)=false:=by simp; omega
    clear h4
    subst hvo
    clear hqb
    rcases hq with rfl | rfl
    ·have HR:Hid (Rep _ _ _ _ _ _ _ _ _):=h
     have OK:Hid (Ok m):=ok
     clear h ok
     go_enter Tryz.func92,Tryz.ntmps92
     go_wp2_with (first | (go_at_call 123; refine (variable_no _ _ (by omega) (by omega) (by omega)).mono ?_; rintro e w' ⟨rfl,rfl⟩) | (go_at_call 124; refine (HR.out.begin_ h20 _ _ hB).mono ?_; rintro e w' ⟨rfl,hb,vs',P',Q',hr⟩; have hr0:=hr.rdc.1; have hr2:=hr.rdc.2.2.1; have hrf:=hr.rdc.2.2.2.2.2.2; have HQ:Hid (Rep _ _ _ _ _ _ _ _ _):=hr; clear hr))
     go_ret
     exact post_no HY.out (Below.setCell hb geR _)
    ·have HR:Hid (Rep _ _ _ _ _ _ _ _ _):=h
     have OK:Hid (Ok m):=ok
     clear h ok
     go_enter Tryz.func92,Tryz.ntmps92
     go_wp2_with (first | (go_at_call 123; refine (variable_no _ _ (by omega) (by omega) (by omega)).mono ?_; rintro e w' ⟨rfl,rfl⟩) | (go_at_call 124; refine (HR.out.begin_ h20 _ _ hB).mono ?_; rintro e w' ⟨rfl,hb,vs',P',Q',hr⟩; have hr0:=hr.rdc.1; have hr2:=hr.rdc.2.2.1; have hrf:=hr.rdc.2.2.2.2.2.2; have HQ:Hid (Rep _ _ _ _ _ _ _ _ _):=hr; clear hr))
     go_ret
     exact post_no HY.out (Below.setCell hb geR _)
 have b63:(c == 63)=false:=by simp; omega
 have b64:(c == 64)=false:=by simp; omega
 by_cases h33:c=33
 ·by_cases h20:m.st.length=20
  ·have HY:Hid (startStep m c=none):=by show startStep m c=_; unfold startStep beginStep; rw [if_neg hv,if_neg hq,if_pos h33,if_pos h20]
   subst h33
   clear b63 b64
   have HR:Hid (Rep _ _ _ _ _ _ _ _ _):=h
   have OK:Hid (Ok m):=ok
   clear h ok
   go_enter Tryz.func92,Tryz.ntmps92
   go_wp2_with (first | (go_at_call 123; refine (variable_no _ _ (by omega) (by omega) (by omega)).mono ?_; rintro e w' ⟨rfl,rfl⟩) | (go_at_call 124; refine (HR.out.beginFull h20 _ _).mono ?_; rintro e w' ⟨rfl,rfl⟩))
   go_ret
   exact post_no HY.out (Below.setCell (Below.refl _ _) geR _)
  ·have HY:Hid (startStep m c=some { m with st:=m.st ++ [⟨c,0,false,[0,0,0,0],0,0,m.st.length+1⟩],state:=99 }):=by
    show startStep m c=_; unfold startStep beginStep; rw [if_neg hv,if_neg hq,if_pos h33,if_neg h20]
   replace h20:m.st.length < 20:=by omega
   subst h33
   clear b63 b64
   have HR:Hid (Rep _ _ _ _ _ _ _ _ _):=h
   have OK:Hid (Ok m):=ok
   clear h ok
   go_enter Tryz.func92,Tryz.ntmps92
   go_wp2_with (first | (go_at_call 123; refine (variable_no _ _ (by omega) (by omega) (by omega)).mono ?_; rintro e w' ⟨rfl,rfl⟩) | (go_at_call 124; refine (HR.out.begin_ h20 _ _ hB).mono ?_; rintro e w' ⟨rfl,hb,vs',P',Q',hr⟩; have hr0:=hr.rdc.1; have hr2:=hr.rdc.2.2.1; have hrf:=hr.rdc.2.2.2.2.2.2; have HQ:Hid (Rep _ _ _ _ _ _ _ _ _):=hr; clear hr))
   go_ret
   exact post_yes HY.out (Below.setCell hb geR _) (HQ.out.setRd 0 (.int .u8 99) _ rfl rfl rfl)
 have b33:(c == 33)=false:=by simpa using h33
 by_cases h125:c=125
 ·by_cases ho:0 < m.op.length
  ·have HY:Hid (startStep m c=shutStep m):=by show startStep m c=_; unfold startStep; rw [if_neg hv,if_neg hq,if_neg h33,if_pos ⟨h125,ho⟩]
   subst h125
   subst hvo
   clear b63 b64 b33
   have HR:Hid (Rep _ _ _ _ _ _ _ _ _):=h
   have OK:Hid (Ok m):=ok
   clear h ok
   go_enter Tryz.func92,Tryz.ntmps92
   go_wp2_with (first | (go_at_call 123; refine (variable_no _ _ (by omega) (by omega) (by omega)).mono ?_; rintro e w' ⟨rfl,rfl⟩) | (go_at_call 125; refine (HR.out.shut OK.out ho).mono ?_; rintro e w' ⟨rfl,hb,hr⟩))
   go_ret
   exact post_via HY.out (Below.refl _ _) hb hr
  ·have HY:Hid (startStep m c=none):=by show startStep m c=_; unfold startStep; rw [if_neg hv,if_neg hq,if_neg h33,if_neg (fun e=>ho e.2)]
   have ho0:m.op.length=0:=by omega
   rw [hvo,ho0] at r2
   subst h125
   clear b63 b64 b33 hvo ho ho0
   have HR:Hid (Rep _ _ _ _ _ _ _ _ _):=h
   have OK:Hid (Ok m):=ok
   clear h ok
   go_enter Tryz.func92,Tryz.ntmps92
   go_wp2_with (go_at_call 123; refine (variable_no _ _ (by omega) (by omega) (by omega)).mono ?_; rintro e w' ⟨rfl,rfl⟩)
   go_ret
   exact post_no HY.out (Below.refl _ _)
 ·have b125:(c == 125)=false:=by simpa using h125
  have HY:Hid (startStep m c=none):=by show startStep m c=_; unfold startStep; rw [if_neg hv,if_neg hq,if_neg h33,if_neg (fun e=>h125 e.1)]
  clear h125 h33 hq
  have HR:Hid (Rep _ _ _ _ _ _ _ _ _):=h
  have OK:Hid (Ok m):=ok
  clear h ok
  go_enter Tryz.func92,Tryz.ntmps92
  go_wp2_with (go_at_call 123; refine (variable_no _ _ (by omega) (by omega) hv).mono ?_; rintro e w' ⟨rfl,rfl⟩)
  go_ret
  exact post_no HY.out (Below.refl _ _)
end Go.Proofs.YtffajooegiempaaGreatDoor

namespace Go.Proofs.YtffajooegiempaaGreatDoor
open Go.RowKit
variable {B:Nat} {w w':World} {r:Nat} {m:Rd} {vs vo:Value} {P Q O:Nat->Nat}
theorem Rep.condM (h:Rep B w r m vs vo P Q O) (ok:Ok m) (hn:0 < m.st.length) (hB:B<=w.heap.size) (c:Int) (h0:0<=c) (h1:c<=255) (hx:m.state=109) :
  Calls Tryz.prog 94 #[.pointer (some ⟨r,0,none⟩),.int .u8 c] w (Post B w r (condStep m c)):=by
 have hc:=h.now hn ok.len
 have hcur:=Rep.curs hn
 obtain ⟨c0,c1,c2,c3,c4,c5,c6,f7,f8,n9,n10,n11⟩:=h.stc _ _ hcur
 obtain ⟨r0,r1,r2,r3,r4,r5,rf⟩:=h.rdc
 have geR:=h.geR
 obtain ⟨geP,geQ⟩:=h.geC hn
 obtain ⟨sg0,sg1⟩:=ok.sgn
 obtain ⟨nu0,nu1⟩:=ok.nums (cur m) (List.mem_of_getElem? hcur)
 have HC:Hid (_=_):=hcur
 clear hcur
 rw [hx] at r0
 have HX:Hid (_=_):=hx
 clear hx
 have nrp:r ≠ P (m.st.length - 1):=fun e=>n9 e.symm
 have nrq:r ≠ Q (m.st.length - 1):=fun e=>n10 e.symm
 have npq:P (m.st.length - 1) ≠ Q (m.st.length - 1):=fun e=>n11 e.symm
 by_cases h59:c=59
 ·subst h59
  have HY:Hid (condStep m 59=plainStep { setCur m { cur m with num:=if m.neg then -(cur m).num else (cur m).num } with state:=behindOf m } 59):=by show condStep m 59=_; unfold condStep; rw [HX.out,if_neg (by decide),if_neg (by decide),if_neg (by decide),if_neg (by decide),if_neg (by decide),if_neg (by decide),if_neg (by decide),if_neg (by decide),if_pos rfl,if_pos (by decide)]
  cases hneg:m.neg
  ·rw [hneg] at r4
   have HZ:Hid (condStep m 59=plainStep { m with state:=behindOf m } 59):=HY.out.trans (by
    have e:({ cur m with num:=if m.neg then -(cur m).num else (cur m).num }:St)=cur m:=by rw [hneg]; rfl
    rw [e,setCur_cur hn])
   clear hneg HY
   have HR:Hid (Rep _ _ _ _ _ _ _ _ _):=h
   have OK:Hid (Ok m):=ok
   clear h ok
   go_enter Tryz.func94,Tryz.ntmps94
   go_wp2_with (first | (go_at_call 126; refine hc.mono ?_; rintro e w' ⟨rfl,k,rfl⟩) | (go_at_call 123; refine (variable_no _ _ (by omega) (by omega) (by omega)).mono ?_; rintro e w' ⟨rfl,rfl⟩))
   have e1:=HR.out.drewN k
   refine (e1.behind (by first | exact hn | (rw [len_setCur]; exact hn)) (by first | exact OK.out.len | (rw [len_setCur]; exact OK.out.len))).mono ?_
   rintro e w' ⟨rfl,k2,rfl⟩
   have e2:=(HR.out.drewN (k+k2)).setRd 0 (.int .u8 (behindOf m)) { m with state:=behindOf m } rfl rfl rfl
   have HE:Hid (Rep _ _ _ _ _ _ _ _ _):=e2
   clear e1 e2
   go_wp2_with fail
   refine (HE.out.bytePlain (by first | exact OK.out.len | (show (setCur _ _).st.length<=20; rw [len_setCur]; exact OK.out.len)) OK.out.oplen (by first | exact hn | (show 0 < (setCur _ _).st.length; rw [len_setCur]; exact hn)) (by simpa using hB) _ (by omega) (by omega) (by show behindOf _=59 \/ behindOf _=123; exact behind_or _)).mono ?_
   rintro e w' ⟨rfl,hb,hr⟩
   go_wp2
   go_ret
   exact post_via HZ.out (Below.setCell (below_drewN (Below.refl _ _) _) geR _) hb hr
  ·rw [hneg] at r4
   have HZ:Hid (condStep m 59=plainStep { setCur m { cur m with num:=-(cur m).num } with state:=behindOf m } 59):=HY.out.trans (by rw [hneg]; rfl)
   have HBe:Hid (behindOf (setCur m { cur m with num:=-(cur m).num })=behindOf m):=by show behindOf _=_; unfold behindOf; rw [cur_setCur hn]
   clear hneg HY
   have HR:Hid (Rep _ _ _ _ _ _ _ _ _):=h
   have OK:Hid (Ok m):=ok
   clear h ok
   go_enter Tryz.func94,Tryz.ntmps94
   go_wp2_with (first | (go_at_call 126; refine hc.mono ?_; rintro e w' ⟨rfl,k,rfl⟩) | (go_at_call 123; refine (variable_no _ _ (by omega) (by omega) (by omega)).mono ?_; rintro e w' ⟨rfl,rfl⟩))
   have e1:=(HR.out.drewN k).setC hn { cur m with num:=-(cur m).num } 4 (.int .i64 (-(cur m).num)) rfl rfl
   refine (e1.behind (by first | exact hn | (rw [len_setCur]; exact hn)) (by first | exact OK.out.len | (rw [len_setCur]; exact OK.out.len))).mono ?_
   rintro e w' ⟨rfl,k2,rfl⟩
   have e2:=(e1.drewN k2).setRd 0 (.int .u8 (behindOf (setCur m { cur m with num:=-(cur m).num }))) { (setCur m { cur m with num:=-(cur m).num }) with state:=behindOf (setCur m { cur m with num:=-(cur m).num }) } rfl rfl rfl
   have HE:Hid (Rep _ _ _ _ _ _ _ _ _):=e2
   clear e1 e2
   go_wp2_with fail
   refine (HE.out.bytePlain (by first | exact OK.out.len | (show (setCur _ _).st.length<=20; rw [len_setCur]; exact OK.out.len)) OK.out.oplen (by first | exact hn | (show 0 < (setCur _ _).st.length; rw [len_setCur]; exact hn)) (by simpa using hB) _ (by omega) (by omega) (by show behindOf _=59 \/ behindOf _=123; exact behind_or _)).mono ?_
   rintro e w' ⟨rfl,hb,hr⟩
   go_wp2
   go_ret
   refine post_via (HZ.out.trans ?_) (Below.setCell (below_drewN (Below.setCell (below_drewN (Below.refl _ _) _) geP _) _) geR _) hb hr
   rw [HBe.out]
 by_cases h123:c=123
 ·subst h123
  clear h59
  have HY:Hid (condStep m 123=plainStep { setCur m { cur m with num:=if m.neg then -(cur m).num else (cur m).num } with state:=behindOf m } 123):=by show condStep m 123=_; unfold condStep; rw [HX.out,if_neg (by decide),if_neg (by decide),if_neg (by decide),if_neg (by decide),if_neg (by decide),if_neg (by decide),if_neg (by decide),if_neg (by decide),if_pos rfl,if_pos (by decide)]
  cases hneg:m.neg
  ·rw [hneg] at r4
   have HZ:Hid (condStep m 123=plainStep { m with state:=behindOf m } 123):=HY.out.trans (by
    have e:({ cur m with num:=if m.neg then -(cur m).num else (cur m).num }:St)=cur m:=by rw [hneg]; rfl
    rw [e,setCur_cur hn])
   clear hneg HY
   have HR:Hid (Rep _ _ _ _ _ _ _ _ _):=h
   have OK:Hid (Ok m):=ok
   clear h ok
   go_enter Tryz.func94,Tryz.ntmps94
   go_wp2_with (first | (go_at_call 126; refine hc.mono ?_; rintro e w' ⟨rfl,k,rfl⟩) | (go_at_call 123; refine (variable_no _ _ (by omega) (by omega) (by omega)).mono ?_; rintro e w' ⟨rfl,rfl⟩))
   have e1:=HR.out.drewN k
   refine (e1.behind (by first | exact hn | (rw [len_setCur]; exact hn)) (by first | exact OK.out.len | (rw [len_setCur]; exact OK.out.len))).mono ?_
   rintro e w' ⟨rfl,k2,rfl⟩
   have e2:=(HR.out.drewN (k+k2)).setRd 0 (.int .u8 (behindOf m)) { m with state:=behindOf m } rfl rfl rfl
   have HE:Hid (Rep _ _ _ _ _ _ _ _ _):=e2
   clear e1 e2
   go_wp2_with fail
   refine (HE.out.bytePlain (by first | exact OK.out.len | (show (setCur _ _).st.length<=20; rw [len_setCur]; exact OK.out.len)) OK.out.oplen (by first | exact hn | (show 0 < (setCur _ _).st.length; rw [len_setCur]; exact hn)) (by simpa using hB) _ (by omega) (by omega) (by show behindOf _=59 \/ behindOf _=123; exact behind_or _)).mono ?_
   rintro e w' ⟨rfl,hb,hr⟩
   go_wp2
   go_ret
   exact post_via HZ.out (Below.setCell (below_drewN (Below.refl _ _) _) geR _) hb hr
  ·rw [hneg] at r4
   have HZ:Hid (condStep m 123=plainStep { setCur m { cur m with num:=-(cur m).num } with state:=behindOf m } 123):=HY.out.trans (by rw [hneg]; rfl)
   have HBe:Hid (behindOf (setCur m { cur m with num:=-(cur m).num })=behindOf m):=by show behindOf _=_; unfold behindOf; rw [cur_setCur hn]
   clear hneg HY
   have HR:Hid (Rep _ _ _ _ _ _ _ _ _):=h
   have OK:Hid (Ok m):=ok
   clear h ok
   go_enter Tryz.func94,Tryz.ntmps94
   go_wp2_with (first | (go_at_call 126; refine hc.mono ?_; rintro e w' ⟨rfl,k,rfl⟩) | (go_at_call 123; refine (variable_no _ _ (by omega) (by omega) (by omega)).mono ?_; rintro e w' ⟨rfl,rfl⟩))
   have e1:=(HR.out.drewN k).setC hn { cur m with num:=-(cur m).num } 4 (.int .i64 (-(cur m).num)) rfl rfl
   refine (e1.behind (by first | exact hn | (rw [len_setCur]; exact hn)) (by first | exact OK.out.len | (rw [len_setCur]; exact OK.out.len))).mono ?_
   rintro e w' ⟨rfl,k2,rfl⟩
   have e2:=(e1.drewN k2).setRd 0 (.int .u8 (behindOf (setCur m { cur m with num:=-(cur m).num }))) { (setCur m { cur m with num:=-(cur m).num }) with state:=behindOf (setCur m { cur m with num:=-(cur m).num }) } rfl rfl rfl
   have HE:Hid (Rep _ _ _ _ _ _ _ _ _):=e2
   clear e1 e2
   go_wp2_with fail
   refine (HE.out.bytePlain (by first | exact OK.out.len | (show (setCur _ _).st.length<=20; rw [len_setCur]; exact OK.out.len)) OK.out.oplen (by first | exact hn | (show 0 < (setCur _ _).st.length; rw [len_setCur]; exact hn)) (by simpa using hB) _ (by omega) (by omega) (by show behindOf _=59 \/ behindOf _=123; exact behind_or _)).mono ?_
   rintro e w' ⟨rfl,hb,hr⟩
   go_wp2
   go_ret
   refine post_via (HZ.out.trans ?_) (Below.setCell (below_drewN (Below.setCell (below_drewN (Below.refl _ _) _) geP _) _) geR _) hb hr
   rw [HBe.out]
 have b59:(c == 59)=false:=by simpa using h59
 have b123:(c == 123)=false:=by simpa using h123
 have HY:Hid (condStep m c=digitStep m c false 109):=by show condStep m c=_; unfold condStep; rw [HX.out,if_neg (by decide),if_neg (by decide),if_neg (by decide),if_neg (by decide),if_neg (by decide),if_neg (by decide),if_neg (by decide),if_neg (by decide),if_pos rfl,if_neg (fun e=>e.elim h59 h123)]
 clear h59 h123
 by_cases hv:97<=c/\c<=100
 ·obtain ⟨hva,hvb⟩:=hv
  have HR:Hid (Rep _ _ _ _ _ _ _ _ _):=h
  have OK:Hid (Ok m):=ok
  clear h ok
  go_enter Tryz.func94,Tryz.ntmps94
  go_wp2_with (first | (go_at_call 126; refine hc.mono ?_; rintro e w' ⟨rfl,k,rfl⟩) | (go_at_call 123; refine (variable_yes c _ hva hvb).mono ?_; rintro e w' ⟨rfl,rfl⟩))
  refine ((HR.out.drewN k).digit OK.out hn c false h0 h1 109).mono ?_
  rintro e w' ⟨rfl,hb,hr⟩
  go_wp2
  go_ret
  exact post_via HY.out (below_drewN (Below.refl _ _) _) hb hr
 ·have HR:Hid (Rep _ _ _ _ _ _ _ _ _):=h
  have OK:Hid (Ok m):=ok
  clear h ok
  go_enter Tryz.func94,Tryz.ntmps94
  go_wp2_with (first | (go_at_call 126; refine hc.mono ?_; rintro e w' ⟨rfl,k,rfl⟩) | (go_at_call 123; refine (variable_no _ _ (by omega) (by omega) (by omega)).mono ?_; rintro e w' ⟨rfl,rfl⟩))
  refine ((HR.out.drewN k).digit OK.out hn c false h0 h1 109).mono ?_
  rintro e w' ⟨rfl,hb,hr⟩
  go_wp2
  go_ret
  exact post_via HY.out (below_drewN (Below.refl _ _) _) hb hr
end Go.Proofs.YtffajooegiempaaGreatDoor

namespace Go.Proofs.YtffajooegiempaaGreatDoor
open Go.RowKit
variable {B:Nat} {w w':World} {r:Nat} {m:Rd} {vs vo:Value} {P Q O:Nat->Nat}
theorem Rep.condZ (h:Rep B w r m vs vo P Q O) (ok:Ok m) (hn:0 < m.st.length) (_hB:B<=w.heap.size) (c:Int) (h0:0<=c) (h1:c<=255) (hx:m.state=125) :
  Calls Tryz.prog 94 #[.pointer (some ⟨r,0,none⟩),.int .u8 c] w (Post B w r (condStep m c)):=by
 have hc:=h.now hn ok.len
 have hcur:=Rep.curs hn
 obtain ⟨c0,c1,c2,c3,c4,c5,c6,f7,f8,n9,n10,n11⟩:=h.stc _ _ hcur
 obtain ⟨r0,r1,r2,r3,r4,r5,rf⟩:=h.rdc
 have geR:=h.geR
 obtain ⟨geP,geQ⟩:=h.geC hn
 obtain ⟨sg0,sg1⟩:=ok.sgn
 obtain ⟨nu0,nu1⟩:=ok.nums (cur m) (List.mem_of_getElem? hcur)
 have HC:Hid (_=_):=hcur
 clear hcur
 rw [hx] at r0
 have HX:Hid (_=_):=hx
 clear hx
 have nrp:r ≠ P (m.st.length - 1):=fun e=>n9 e.symm
 have nrq:r ≠ Q (m.st.length - 1):=fun e=>n10 e.symm
 have npq:P (m.st.length - 1) ≠ Q (m.st.length - 1):=fun e=>n11 e.symm
 have ho:=ok.open_ HX.out
 have ht:=tops ho
 have hol:=ok.oplen
 obtain ⟨go,capo,hvo,hrowo,ngor,hcapo,ngop,ngo⟩:=h.rowO ho
 obtain ⟨o0,o1,of,nor,nop⟩:=h.opc _ _ ht
 have hg2:=hrowo (m.op.length - 1) (by omega)
 unfold ptr at hg2
 have geO:=h.geO (m.op.length - 1) (by omega)
 have nro:r ≠ O (m.op.length - 1):=fun e=>nor e.symm
 subst hvo
 have HT:Hid (m.op[m.op.length - 1]?=some (top m)):=ht
 clear ht nop ngo ngop hrowo
 by_cases h123:c=123
 ·subst h123
  have HY:Hid (condStep m 123=some { m with op:=m.op.set (m.op.length - 1) { top m with second:=true },state:=115 }):=by show condStep m 123=_; unfold condStep; rw [HX.out,if_neg (by decide),if_neg (by decide),if_neg (by decide),if_neg (by decide),if_neg (by decide),if_neg (by decide),if_neg (by decide),if_neg (by decide),if_neg (by decide),if_pos rfl]
  have HR:Hid (Rep _ _ _ _ _ _ _ _ _):=h
  have OK:Hid (Ok m):=ok
  clear h ok
  go_enter Tryz.func94,Tryz.ntmps94
  go_wp2_with (first | (go_at_call 126; refine hc.mono ?_; rintro e w' ⟨rfl,k,rfl⟩) | (go_at_call 123; refine (variable_no _ _ (by omega) (by omega) (by omega)).mono ?_; rintro e w' ⟨rfl,rfl⟩))
  go_quiet (fail)
  go_wp2
  go_ret
  exact post_yes HY.out (Below.setCell (Below.setCell (below_drewN (Below.refl _ _) _) geO _) geR _) (((HR.out.drewN _).setBk (m.op.length - 1) (top m) { top m with second:=true } HT.out 1 (.bool true) _ rfl rfl).setRd 0 (.int .u8 115) _ rfl rfl rfl)
 have b123:(c == 123)=false:=by simpa using h123
 have n123:(c != 123)=true:=by simpa using h123
 have HY:Hid (condStep m c=none):=by show condStep m c=_; unfold condStep; rw [HX.out,if_neg (by decide),if_neg (by decide),if_neg (by decide),if_neg (by decide),if_neg (by decide),if_neg (by decide),if_neg (by decide),if_neg (by decide),if_neg (by decide),if_neg h123]
 clear h123
 have HR:Hid (Rep _ _ _ _ _ _ _ _ _):=h
 have OK:Hid (Ok m):=ok
 clear h ok
 by_cases hv:97<=c/\c<=100
 ·obtain ⟨hva,hvb⟩:=hv
  go_enter Tryz.func94,Tryz.ntmps94
  go_wp2_with (first | (go_at_call 126; refine hc.mono ?_; rintro e w' ⟨rfl,k,rfl⟩) | (go_at_call 123; refine (variable_yes c _ hva hvb).mono ?_; rintro e w' ⟨rfl,rfl⟩))
  go_ret
  exact post_no HY.out (below_drewN (Below.refl _ _) _)
 ·go_enter Tryz.func94,Tryz.ntmps94
  go_wp2_with (first | (go_at_call 126; refine hc.mono ?_; rintro e w' ⟨rfl,k,rfl⟩) | (go_at_call 123; refine (variable_no _ _ (by omega) (by omega) (by omega)).mono ?_; rintro e w' ⟨rfl,rfl⟩))
  go_ret
  exact post_no HY.out (below_drewN (Below.refl _ _) _)
end Go.Proofs.YtffajooegiempaaGreatDoor

