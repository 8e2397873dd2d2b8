import Derived.Test.YtffajooegiempaaGreatDoorJ10
import Derived.Deep.RegionLaw
set_option maxRecDepth 100000
set_option maxHeartbeats 6400000
namespace Go.Proofs.YtffajooegiempaaGreatDoor
open Go.RowKit
variable {w:World} {r q:Nat} {s:ByteArray} {d:Nat × Bool} {vf:Value} {x:Ds}
def rHead (s:ByteArray) (d:Nat × Bool) (x:Ds) (dp:Int):Ds × (Nat × Bool) :=
 let k:=rKind s d x dp
 let v:=if k.1.kind=0 then rValue s (nd s k.2 61) k.1 else rCond s k.2 k.1
 if blocksOf v.1.kind=0 then (v.1,nd s v.2 59) else v
theorem rKind_le (hd:d.1<=s.size) (dp:Int):(rKind s d x dp).2.1<=s.size:=by
 unfold rKind
 split
 ·rename_i h; have:=(pk_lt h (by decide)).1; show d.1+1<=_; omega
 split
 ·rename_i h; have:=(pk_lt h (by decide)).1
  show (if 4<=dp then stk d else adv d).1<=_
  split
  ·exact hd
  ·show d.1+1<=_; omega
 split
 ·rename_i h; have:=(pk_lt h (by decide)).1
  show (if 4<=dp then stk d else adv d).1<=_
  split
  ·exact hd
  ·show d.1+1<=_; omega
 ·exact rVar_le hd (-1)
theorem rKind_sg (dp:Int):(rKind s d x dp).1.sg=x.sg:=by
 unfold rKind
 split
 ·rfl
 split
 ·rfl
 split
 ·rfl
 ·rfl
theorem rValue_le (hd:d.1<=s.size):(rValue s d x).2.1<=s.size:=by
 unfold rValue
 split
 ·rename_i h; have:=(pk_lt h (by decide)).1; show d.1+1<=_; omega
 split
 ·exact rNum_le (rSign_le hd) _
 ·exact rSummand_le (rVar_le (rSign_le hd) (-1))
theorem rCond_le (hd:d.1<=s.size):(rCond s d x).2.1<=s.size:=by
 unfold rCond
 split
 ·rename_i h; have:=(pk_lt h (by decide)).1; show d.1+1<=_; omega
 ·exact rNum_le (rSign_le (nd_le (nd_le (rSecond_le (rVar_le (rSign_le hd) (-1)) _) (by decide)) (by decide))) _
theorem rValue_sgl (hl:x.sg.length=4):(rValue s d x).1.sg.length=4:=by
 unfold rValue
 split
 ·exact hl
 split
 ·exact hl
 ·show (x.sg.set _ _).length=4; rw [List.length_set]; exact hl
theorem rCond_sgl (hl:x.sg.length=4):(rCond s d x).1.sg.length=4:=by
 unfold rCond
 split
 ·exact hl
 ·exact rSecond_sgl (by show (x.sg.set _ _).length=4; rw [List.length_set]; exact hl) _
theorem rHead_le (hd:d.1<=s.size) (dp:Int):(rHead s d x dp).2.1<=s.size:=by
 unfold rHead
 have hk:=rKind_le (x:=x) hd dp
 have hv:(if (rKind s d x dp).1.kind=0 then rValue s (nd s (rKind s d x dp).2 61) (rKind s d x dp).1 else rCond s (rKind s d x dp).2 (rKind s d x dp).1).2.1<=s.size:=by
  split
  ·exact rValue_le (nd_le hk (by decide))
  ·exact rCond_le hk
 simp only
 generalize (if (rKind s d x dp).1.kind=0 then rValue s (nd s (rKind s d x dp).2 61) (rKind s d x dp).1 else rCond s (rKind s d x dp).2 (rKind s d x dp).1)=y at hv |-
 split
 ·exact nd_le (c:=59) hv (by decide)
 ·exact hv
theorem rHead_sgl (hl:x.sg.length=4) (dp:Int):(rHead s d x dp).1.sg.length=4:=by
 unfold rHead
 have hk:(rKind s d x dp).1.sg.length=4:=by rw [rKind_sg]; exact hl
 have hv:(if (rKind s d x dp).1.kind=0 then rValue s (nd s (rKind s d x dp).2 61) (rKind s d x dp).1 else rCond s (rKind s d x dp).2 (rKind s d x dp).1).1.sg.length=4:=by
  split
  ·exact rValue_sgl hk
  ·exact rCond_sgl hk
 simp only
 generalize (if (rKind s d x dp).1.kind=0 then rValue s (nd s (rKind s d x dp).2 61) (rKind s d x dp).1 else rCond s (rKind s d x dp).2 (rKind s d x dp).1)=y at hv |-
 split
 ·exact hv
 ·exact hv
theorem d_readHead (h:Dat w r s d vf) (hq:DsAt w q x) (hl:x.sg.length=4) (hs:s.size<=160) (hd:d.1<=s.size) (dp:Int) :
  Calls Tryz.prog 119 #[.pointer (some ⟨r,0,none⟩),.pointer (some ⟨q,0,none⟩),.int .i64 dp] w (FPost w r q s vf (rHead s d x dp)):=by
 have hk:=d_readKind h hq hs hd dp
 have hn:=hq.ne h
 obtain ⟨k,hK⟩:∃ k,k=rKind s d x dp:=⟨_,rfl⟩
 obtain ⟨y,hY⟩:∃ y,y=if k.1.kind=0 then rValue s (nd s k.2 61) k.1 else rCond s k.2 k.1:=⟨_,rfl⟩
 have HT:Hid (rHead s d x dp=if blocksOf y.1.kind=0 then (y.1,nd s y.2 59) else y):=by show rHead s d x dp=_; unfold rHead; rw [hY,hK]
 have hkl:k.2.1<=s.size:=by rw [hK]; exact rKind_le hd dp
 have hks:k.1.sg.length=4:=by rw [hK,rKind_sg]; exact hl
 have h61:(nd s k.2 61).1<=s.size:=nd_le hkl (by decide)
 rw [<- hK] at hk
 clear h hq hK
 by_cases h0:k.1.kind=0
 ·rw [if_pos h0] at hY
  have hyl:y.2.1<=s.size:=by rw [hY]; exact rValue_le h61
  have HY:Hid (_=_):=hY
  have HK0:Hid (_=_):=h0
  clear hY h0
  go_enter Tryz.func119,Tryz.ntmps119
  go_wp2_with fail
  refine hk.mono ?_
  rintro e w1 ⟨rfl,hD1,hQ1,hF1⟩
  obtain ⟨c0,c1,c2,c3,c4,c5,c6,c7,c8,c9,cf⟩:=hQ1.cells
  rw [HK0.out] at c0
  have HQ1:Hid (DsAt _ _ _):=hQ1
  clear hQ1
  go_wp2_with fail
  refine (d_need hD1 hs (by omega) 61).mono ?_
  rintro e w2 ⟨rfl,hD2,hT2⟩
  have k3:=d_readValue hD2 (HQ1.out.keep hT2 hn) hks hs h61
  rw [<- HY.out] at k3
  go_wp2_with fail
  refine k3.mono ?_
  rintro e w4 ⟨rfl,hD4,hQ4,hT4⟩
  clear c0 c1 c2 c3 c4 c5 c6 c7 c8 c9 cf
  have hq4:=hQ4
  obtain ⟨c0,c1,c2,c3,c4,c5,c6,c7,c8,c9,cf⟩:=hq4.cells
  have HQ4:Hid (DsAt _ _ _):=hq4
  clear hq4
  by_cases hb:blocksOf y.1.kind=0
  ·have HT2:Hid (rHead s d x dp=(y.1,nd s y.2 59)):=HT.out.trans (if_pos hb)
   have kb:=fun (t:Int) (an:Bool) (g0 g1 g2 g3 n p b:Int) (w:World)=>d_blocks y.1.kind t an g0 g1 g2 g3 n p b w
   rw [hb] at kb
   generalize sgAt y.1.sg 0=g0 at *
   generalize sgAt y.1.sg 1=g1 at *
   generalize sgAt y.1.sg 2=g2 at *
   generalize sgAt y.1.sg 3=g3 at *
   clear hb
   go_wp2_with fail
   refine (kb _ _ _ _ _ _ _ _ _ _).mono ?_
   rintro e w6 ⟨rfl,o,rfl⟩
   go_wp2_with fail
   refine (d_need (hD4.alloc o) hs (by omega) 59).mono ?_
   rintro e w7 ⟨rfl,hD7,hT7⟩
   go_wp2
   go_end0
   rw [HT2.out]
   exact ⟨rfl,hD7,(HQ4.out.alloc o).keep hT7 hn,(((hF1.trans (hT2.two q).fr).trans hT4.fr).alloc o).trans (hT7.two q).fr⟩
  ·have HT2:Hid (rHead s d x dp=y):=HT.out.trans (if_neg hb)
   have bb:(blocksOf y.1.kind == 0)=false:=by simpa using hb
   generalize sgAt y.1.sg 0=g0 at *
   generalize sgAt y.1.sg 1=g1 at *
   generalize sgAt y.1.sg 2=g2 at *
   generalize sgAt y.1.sg 3=g3 at *
   clear hb
   go_wp2_with fail
   refine (d_blocks _ _ _ _ _ _ _ _ _ _ _).mono ?_
   rintro e w6 ⟨rfl,o,rfl⟩
   go_wp2
   go_end0
   rw [HT2.out]
   exact ⟨rfl,hD4.alloc o,HQ4.out.alloc o,((hF1.trans (hT2.two q).fr).trans hT4.fr).alloc o⟩
 ·rw [if_neg h0] at hY
  have hyl:y.2.1<=s.size:=by rw [hY]; exact rCond_le hkl
  have HY:Hid (_=_):=hY
  have b0:(k.1.kind == 0)=false:=by simpa using h0
  clear hY h0
  go_enter Tryz.func119,Tryz.ntmps119
  go_wp2_with fail
  refine hk.mono ?_
  rintro e w1 ⟨rfl,hD1,hQ1,hF1⟩
  obtain ⟨c0,c1,c2,c3,c4,c5,c6,c7,c8,c9,cf⟩:=hQ1.cells
  have k3:=d_readCondition hD1 hQ1 hks hs hkl
  rw [<- HY.out] at k3
  have HQ1:Hid (DsAt _ _ _):=hQ1
  clear hQ1
  go_wp2_with fail
  refine k3.mono ?_
  rintro e w4 ⟨rfl,hD4,hQ4,hT4⟩
  clear c0 c1 c2 c3 c4 c5 c6 c7 c8 c9 cf
  have hq4:=hQ4
  obtain ⟨c0,c1,c2,c3,c4,c5,c6,c7,c8,c9,cf⟩:=hq4.cells
  have HQ4:Hid (DsAt _ _ _):=hq4
  clear hq4
  by_cases hb:blocksOf y.1.kind=0
  ·have HT2:Hid (rHead s d x dp=(y.1,nd s y.2 59)):=HT.out.trans (if_pos hb)
   have kb:=fun (t:Int) (an:Bool) (g0 g1 g2 g3 n p b:Int) (w:World)=>d_blocks y.1.kind t an g0 g1 g2 g3 n p b w
   rw [hb] at kb
   generalize sgAt y.1.sg 0=g0 at *
   generalize sgAt y.1.sg 1=g1 at *
   generalize sgAt y.1.sg 2=g2 at *
   generalize sgAt y.1.sg 3=g3 at *
   clear hb
   go_wp2_with fail
   refine (kb _ _ _ _ _ _ _ _ _ _).mono ?_
   rintro e w6 ⟨rfl,o,rfl⟩
   go_wp2_with fail
   refine (d_need (hD4.alloc o) hs (by omega) 59).mono ?_
   rintro e w7 ⟨rfl,hD7,hT7⟩
   go_wp2
   go_end0
   rw [HT2.out]
   exact ⟨rfl,hD7,(HQ4.out.alloc o).keep hT7 hn,((hF1.trans hT4.fr).alloc o).trans (hT7.two q).fr⟩
  ·have HT2:Hid (rHead s d x dp=y):=HT.out.trans (if_neg hb)
   have bb:(blocksOf y.1.kind == 0)=false:=by simpa using hb
   generalize sgAt y.1.sg 0=g0 at *
   generalize sgAt y.1.sg 1=g1 at *
   generalize sgAt y.1.sg 2=g2 at *
   generalize sgAt y.1.sg 3=g3 at *
   clear hb
   go_wp2_with fail
   refine (d_blocks _ _ _ _ _ _ _ _ _ _ _).mono ?_
   rintro e w6 ⟨rfl,o,rfl⟩
   go_wp2
   go_end0
   rw [HT2.out]
   exact ⟨rfl,hD4.alloc o,HQ4.out.alloc o,(hF1.trans hT4.fr).alloc o⟩
end Go.Proofs.YtffajooegiempaaGreatDoor

namespace Go.Proofs.YtffajooegiempaaGreatDoor
open Go.RowKit
variable {B:Nat} {w w':World} {r q:Nat} {s:ByteArray} {vf:Value}
abbrev Zt:Type:=(Nat × Bool) × List Ds
def rBlockWith (s:ByteArray) (f:Int->Int->Int->Zt->Zt) (p b dp:Int) (z:Zt):Zt :=
 (nd s (f p b dp (nd s z.1 123,z.2)).1 125,(f p b dp (nd s z.1 123,z.2)).2)
def aft (s:ByteArray) (f:Int->Int->Int->Zt->Zt) (p dp:Int) (z:Zt):Nat->Zt
 | 0=>z
 | b+1=>rBlockWith s f p b dp (aft s f p dp z b)
def newDs (p b:Int):Ds:=⟨0,0,false,[0,0,0,0],0,p,b⟩
def rStmtWith (s:ByteArray) (f:Int->Int->Int->Zt->Zt) (p b dp:Int) (z:Zt):Zt :=
 if 20<=z.2.length then (stk z.1,z.2)
 else if (rHead s z.1 (newDs p b) dp).2.2=true then ((rHead s z.1 (newDs p b) dp).2,z.2)
 else aft s f z.2.length (dp+1) ((rHead s z.1 (newDs p b) dp).2,z.2 ++ [(rHead s z.1 (newDs p b) dp).1]) (blocksOf (rHead s z.1 (newDs p b) dp).1.kind).toNat
def rStmts (s:ByteArray):Nat->Int->Int->Int->Zt->Zt
 | 0,_,_,_,z=>z
 | n+1,p,b,dp,z=>if pk s z.1=0 \/ pk s z.1=125 then z else rStmts s n p b dp (rStmtWith s (rStmts s n) p b dp z)
structure Zok (s:ByteArray) (z:Zt):Prop where
 at_:z.1.1<=s.size
 len:z.2.length<=20
structure Zle (s:ByteArray) (z z':Zt):Prop where
 ok:Zok s z'
 len:z.2.length<=z'.2.length
theorem Zle.refl {z:Zt} (h:Zok s z):Zle s z z:=⟨h,Nat.le_refl _⟩
theorem Zle.trans {a b c:Zt} (h:Zle s a b) (k:Zle s b c):Zle s a c:=⟨k.ok,Nat.le_trans h.len k.len⟩
def Goes (s:ByteArray) (f:Int->Int->Int->Zt->Zt):Prop:=∀ p b dp z,Zok s z->Zle s z (f p b dp z)
theorem Goes.block {f:Int->Int->Int->Zt->Zt} (h:Goes s f) (p b dp:Int) {z:Zt} (hz:Zok s z):Zle s z (rBlockWith s f p b dp z):=by
 have h1:=h p b dp (nd s z.1 123,z.2) ⟨nd_le hz.at_ (by decide),hz.len⟩
 exact ⟨⟨nd_le h1.ok.at_ (by decide),h1.ok.len⟩,h1.len⟩
theorem Goes.aft {f:Int->Int->Int->Zt->Zt} (h:Goes s f) (p dp:Int) {z:Zt} (hz:Zok s z) (n:Nat):Zle s z (Go.Proofs.YtffajooegiempaaGreatDoor.aft s f p dp z n):=by
 induction n with
 | zero=>exact Zle.refl hz
 | succ n ih=>exact ih.trans (h.block p n dp ih.ok)
theorem Goes.stmt {f:Int->Int->Int->Zt->Zt} (h:Goes s f) (p b dp:Int) {z:Zt} (hz:Zok s z):Zle s z (rStmtWith s f p b dp z):=by
 unfold rStmtWith
 split
 ·exact ⟨⟨hz.at_,hz.len⟩,Nat.le_refl _⟩
 split
 ·exact ⟨⟨rHead_le hz.at_ dp,hz.len⟩,Nat.le_refl _⟩
 ·have h1:=h.aft z.2.length (dp+1) (z:=((rHead s z.1 (newDs p b) dp).2,z.2 ++ [(rHead s z.1 (newDs p b) dp).1])) ⟨rHead_le hz.at_ dp,by simp; omega⟩ (blocksOf (rHead s z.1 (newDs p b) dp).1.kind).toNat
  exact ⟨h1.ok,by have:=h1.len; simp at this; omega⟩
theorem rStmts_goes (s:ByteArray) (n:Nat):Goes s (rStmts s n):=by
 induction n with
 | zero=>intro p b dp z hz; exact Zle.refl hz
 | succ n ih =>
  intro p b dp z hz
  unfold rStmts
  split
  ·exact Zle.refl hz
  ·have h1:=ih.stmt p b dp hz
   exact h1.trans (ih p b dp _ h1.ok)
def Mz (z:Zt):Nat:=if z.1.2 then 0 else 21 - z.2.length
theorem Mz_stmt (f:Int->Int->Int->Zt->Zt) (h:Goes s f) (p b dp:Int) {z:Zt} (hz:Zok s z) (hs:z.1.2=false):Mz (rStmtWith s f p b dp z) < Mz z:=by
 have hl:=hz.len
 have h1:Mz z=21 - z.2.length:=by unfold Mz; rw [hs]; rfl
 rw [h1]
 unfold rStmtWith
 split
 ·show (if true then 0 else _) < _; simp; omega
 split
 ·rename_i h2
  show (if (rHead s z.1 (newDs p b) dp).2.2 then 0 else _) < _
  rw [h2]; simp; omega
 ·have h3:=h.aft z.2.length (dp+1) (z:=((rHead s z.1 (newDs p b) dp).2,z.2 ++ [(rHead s z.1 (newDs p b) dp).1])) ⟨rHead_le hz.at_ dp,by simp; omega⟩ (blocksOf (rHead s z.1 (newDs p b) dp).1.kind).toNat
  have h4:=h3.len
  have h5:=h3.ok.len
  generalize Go.Proofs.YtffajooegiempaaGreatDoor.aft s f z.2.length (dp+1) ((rHead s z.1 (newDs p b) dp).2,z.2 ++ [(rHead s z.1 (newDs p b) dp).1]) (blocksOf (rHead s z.1 (newDs p b) dp).1.kind).toNat=y at *
  simp at h4
  unfold Mz
  split <;> omega
def flat (F:List Ds):List Value:=F.flatMap fun x=>(dsCells x).toList
theorem flat_snoc (F:List Ds) (x:Ds):flat (F ++ [x])=flat F ++ (dsCells x).toList:=by simp [flat]
structure DRep (B:Nat) (w:World) (r:Nat) (s:ByteArray) (z:Zt) (vf:Value):Prop where
 dat:Dat w r s z.1 vf
 row:w.ownsRow B tDs 10 vf z.2.length (flat z.2)
 geR:B<=r
 geW:B<=w.heap.size
structure ZFr (r:Nat) (vf vf':Value) (w w':World):Prop where
 os:w'.os=w.os
 tape:w'.tape=w.tape
 output:w'.output=w.output
 size:w.heap.size<=w'.heap.size
 block:∀ k,k < w.heap.size->k ≠ r->vf.ownBlock ≠ some k->w'.heap[k]?=w.heap[k]?
 row:vf'.ownBlock=vf.ownBlock \/ ∀ g,vf'.ownBlock=some g->w.heap.size<=g
theorem ZFr.refl (r:Nat) (vf:Value) (w:World):ZFr r vf vf w w:=⟨rfl,rfl,rfl,Nat.le_refl _,fun _ _ _ _=>rfl,.inl rfl⟩
theorem ZFr.trans {v1 v2 v3:Value} {a b c:World} (h:ZFr r v1 v2 a b) (k:ZFr r v2 v3 b c):ZFr r v1 v3 a c where
 os:=k.os.trans h.os
 tape:=k.tape.trans h.tape
 output:=k.output.trans h.output
 size:=Nat.le_trans h.size k.size
 block:=fun i h0 h1 h2=>(k.block i (Nat.lt_of_lt_of_le h0 h.size) h1 (by
  rcases h.row with e | e
  ·rw [e]; exact h2
  ·intro e2; have:=e i e2; omega)).trans (h.block i h0 h1 h2)
 row:=by
  rcases k.row with e | e
  ·rw [e]; exact h.row
  ·exact .inr fun g hg=>Nat.le_trans h.size (e g hg)
theorem Tch.zfr {a b:World} (h:Tch r a b) (vf:Value):ZFr r vf vf a b:=⟨h.os,h.tape,h.output,by have:=h.size; omega,fun k _ h1 _=>h.block k h1,.inl rfl⟩
theorem ZFr.below {vf':Value} {z:Zt} (h:ZFr r vf vf' w w') (hd:DRep B w r s z vf):Below B w w':=⟨h.os,h.tape,h.output,h.size,fun k hk=>h.block k (by have:=hd.geW; omega) (by have:=hd.geR; omega) (fun e=>by have:=(hd.row.lt k e).1; omega)⟩
def ZPost (B:Nat) (w:World) (r:Nat) (s:ByteArray) (vf:Value) (z:Zt):Ending->World->Prop:=fun e w'=>e=.returned (.tuple #[])/\∃ vf',DRep B w' r s z vf'/\ZFr r vf vf' w w'
def SP (s:ByteArray) (n:Nat):Prop:=∀ (B r:Nat) (vf:Value) (w:World) (z:Zt) (p b dp:Int),DRep B w r s z vf->Zok s z->0<=dp->dp<=z.2.length->Mz z < n ->
 Calls Tryz.prog 50 #[.pointer (some ⟨r,0,none⟩),.int .i64 p,.int .i64 b,.int .i64 dp] w (ZPost B w r s vf (rStmts s n p b dp z))
theorem ownsRow_keep {e:TypeId} {size:Nat} {v:Value} {n:Nat} {xs:List Value} (h:w.ownsRow B e size v n xs) (k:∀ g,v.ownBlock=some g->w'.heap[g]?=w.heap[g]?):w'.ownsRow B e size v n xs:=by
 obtain ⟨h1,h2⟩:=h
 refine ⟨h1,?_⟩
 rcases h2 with h2 | ⟨g,cap,c,hv,hg,hh,r⟩
 ·exact .inl h2
 ·subst hv; exact .inr ⟨g,cap,c,rfl,hg,by rw [k g rfl]; exact hh,r⟩
theorem ownsRow_not {e:TypeId} {size:Nat} {v:Value} {n:Nat} {xs:List Value} (h:w.ownsRow B e size v n xs) {b:Nat} {c:Array Value} {t:TypeId} (k:At w b c t) (hn:e ≠ t):v.ownBlock ≠ some b:=by
 obtain ⟨h1,h2⟩:=h
 rcases h2 with ⟨rfl,_⟩ | ⟨g,cap,c',rfl,hg,hh,r⟩
 ·simp [Value.ownBlock]
 ·intro e'
  simp [Value.ownBlock] at e'
  exact (At.ne (show At w g c' e from hh) k hn) e'
theorem DRep.tch {z:Zt} (h:DRep B w r s z vf) (t:Tch r w w') {d':Nat × Bool} (hd:Dat w' r s d' vf):DRep B w' r s (d',z.2) vf where
 dat:=hd
 row:=ownsRow_keep h.row fun g hg=>t.block g (fun e=>ownsRow_not h.row h.dat (by decide) (by rw [hg,e]))
 geR:=h.geR
 geW:=by rw [t.size]; exact h.geW
theorem d_readBlock {n:Nat} (H:SP s n) (hs:s.size<=160) {z:Zt} (h:DRep B w r s z vf) (hz:Zok s z) (p b dp:Int) (h0:0<=dp) (h1:dp<=z.2.length) (hm:Mz z < n) :
  Calls Tryz.prog 120 #[.pointer (some ⟨r,0,none⟩),.int .i64 p,.int .i64 b,.int .i64 dp] w (ZPost B w r s vf (rBlockWith s (rStmts s n) p b dp z)):=by
 have hat:=hz.at_
 have hm2:Mz (nd s z.1 123,z.2) < n:=by
  have:Mz (nd s z.1 123,z.2)<=Mz z:=by
   unfold Mz nd
   split <;> split <;> simp_all
  omega
 have hz2:Zok s (nd s z.1 123,z.2):=⟨nd_le hat (by decide),hz.len⟩
 have hz3:=rStmts_goes s n p b dp _ hz2
 obtain ⟨y,hY⟩:∃ y,y=rStmts s n p b dp (nd s z.1 123,z.2):=⟨_,rfl⟩
 have HT:Hid (rBlockWith s (rStmts s n) p b dp z=(nd s y.1 125,y.2)):=by show rBlockWith _ _ _ _ _ _=_; rw [hY]; rfl
 rw [<- hY] at hz3
 have hyat:=hz3.ok.at_
 have HY:Hid (_=_):=hY
 have HD:Hid (DRep _ _ _ _ _ _):=h
 clear hY h
 go_enter Tryz.func120,Tryz.ntmps120
 go_wp2_with fail
 refine (d_need HD.out.dat hs (by omega) 123).mono ?_
 rintro e w1 ⟨rfl,hD1,hT1⟩
 have k2:=H B r vf w1 (nd s z.1 123,z.2) p b dp (HD.out.tch hT1 hD1) hz2 h0 h1 hm2
 rw [<- HY.out] at k2
 go_wp2_with fail
 refine k2.mono ?_
 rintro e w2 ⟨rfl,vf2,hD2,hZ2⟩
 have HD2:Hid (DRep _ _ _ _ _ _):=hD2
 clear hD2
 go_wp2_with fail
 refine (d_need HD2.out.dat hs (by omega) 125).mono ?_
 rintro e w3 ⟨rfl,hD3,hT3⟩
 go_wp2
 go_end0
 rw [HT.out]
 exact ⟨rfl,vf2,HD2.out.tch hT3 hD3,((hT1.zfr vf).trans hZ2).trans (hT3.zfr vf2)⟩
end Go.Proofs.YtffajooegiempaaGreatDoor

namespace Go.Proofs.YtffajooegiempaaGreatDoor
open Go.RowKit
variable {B:Nat} {w w':World} {r q:Nat} {s:ByteArray} {vf:Value}
theorem Tryz.infoDs:(Tryz.prog.info? tDs).map (fun i=>(i.zero,i.size,i.bytes))=some (some (.agg #[.int .i64 0,.int .i64 0,.bool false,.int .i64 0,.int .i64 0,.int .i64 0,.int .i64 0,.int .i64 0,.int .i64 0,.int .i64 0]),10,80):=by kernel_rfl
theorem DRep.vlen {z:Zt} (h:DRep B w r s z vf):∃ ao cap,vf=.slice ao z.2.length cap:=by
 obtain ⟨_,h2⟩:=h.row
 rcases h2 with ⟨rfl,e⟩ | ⟨g,cap,c,rfl,_⟩
 ·exact ⟨none,0,by rw [e]⟩
 ·exact ⟨_,cap,rfl⟩
theorem step_append_own2 {P:Program} {ops:Array Oper} {o:Oper} {a:Act} {w:World} {K:Act->World->Prop} {Q:Exit->Act->World->Prop} {E:Prop}
  (hg:o.guard=none) (s x:Operand) (t:TypeId) (hop:o.op=Op.call { callee:=Callee.builtin Builtin.append,args:=#[s,x],argTypes:=#[t,t] })
  (base:Nat) (e:TypeId) (i:TypeInfo) (z:Value) (size bytes:Nat) (h1:P.underlying t=some (.slice e)) (h2:P.info? e=some i) (h3:i.zero=some z) (h4:i.size=size) (h5:i.bytes=bytes) (h6:z.cells.size=size) (h7:0 < size)
  (v:Value) (n:Nat) (xs:List Value) (hs:a.eval s=v) (hown:w.ownsRow base e size v n xs)
  (ad:Addr) (m c:Nat) (news:List Value) (hx:a.eval x=.slice (some ad) m c) (hn:news.length=m*size) (hc:∀ j u,news[j]?=some u->w.cell? (ad.add j)=some u) (h1c:∀ u ∈ news,u.oneCell'=true)
  (b1:n+m<=maxLen) (b2:(n+m)*bytes<=140737488355328) (hbase:base<=w.heap.size)
  (hK:∀ v' w',w'.ownsRow base e size v' (n+m) (xs ++ news)->w.grownBy w' v.ownBlock->(v'.ownBlock=v.ownBlock \/ ∀ g,v'.ownBlock=some g->w.heap.size<=g)->K (a.put o.dst v') w') :
  if Region.wanted o (yielded ops a.tmps)=true then Oper.wp P o a w K Q else E:=by
 have hw:Region.wanted o (yielded ops a.tmps)=true:=by simp [Region.wanted,hg]
 rw [if_pos hw]
 obtain ⟨v',w',hr,r2,r3,r4⟩:=run_append_own2 (P:=P) w base t o.type e i z size bytes h1 h2 h3 h4 h5 h6 h7 v n xs hown ad m c news hn hc h1c b1 b2 hbase
 unfold Oper.wp execOp
 simp only [hop,resolve,invoke,builtin,Sem.run_bind,Sem.run_pure,Result.andThen_ok,List.map_toArray,List.map_cons,List.map_nil,hs,hx,hr]
 exact hK v' w' r2 r3 r4
theorem DRep.fr {z:Zt} {o:Obj} (h:DRep B w r s z vf) (f:Fr2 r w.heap.size (w.alloc o) w') {d':Nat × Bool} (hd:Dat w' r s d' vf):DRep B w' r s (d',z.2) vf/\ZFr r vf vf w w':=by
 have same:∀ k,k < w.heap.size->k ≠ r->w'.heap[k]?=w.heap[k]?:=fun k hk hr=>(f.block k (by simp; omega) hr (by omega)).trans (Below.heap_alloc _ _ _ hk)
 have hsz:w.heap.size<=w'.heap.size:=by have:=f.size; simp at this; omega
 exact ⟨⟨hd,ownsRow_keep h.row fun g hg=>same g (h.row.lt g hg).2 (fun e=>ownsRow_not h.row h.dat (by decide) (by rw [hg,e])),h.geR,by have:=h.geW; omega⟩,
  ⟨f.os,f.tape,f.output,hsz,fun k hk hr _=>same k hk hr,.inl rfl⟩⟩
def laidDs (w:World) (x:Ds):World:=(w.alloc (.cells (dsCells x) tDs)).drew
theorem laidDs_old (x:Ds) (k:Nat) (hk:k < w.heap.size):(laidDs w x).heap[k]?=w.heap[k]?:=by
 show (w.heap.push _)[k]?=_
 rw [Array.getElem?_push,if_neg (by omega)]
theorem laidDs_size (x:Ds):(laidDs w x).heap.size=w.heap.size+1:=by show (w.heap.push _).size=_; simp
theorem laidDs_lit (x:Ds):∀ (j:Nat) (u:Value),(dsCells x).toList[j]?=some u->(laidDs w x).cell? ((⟨w.heap.size,0,none⟩:Addr).add j)=some u:=by
 intro j u hj
 have ha:At (laidDs w x) w.heap.size (dsCells x) tDs:=by
  show (w.heap.push _)[w.heap.size]?=_
  rw [Array.getElem?_push,if_pos rfl]
 have e:(⟨w.heap.size,0,none⟩:Addr).add j=⟨w.heap.size,j,none⟩:=by cases j <;> simp [Addr.add]
 rw [e,ha.cell j]
 simpa using hj
theorem DRep.push {z:Zt} (h:DRep B w r s z vf) (x:Ds) {w3:World} {v':Value} (hg:(laidDs w x).grownBy w3 vf.ownBlock)
  (hown:w3.ownsRow B tDs 10 v' (z.2.length+1) (flat z.2 ++ (dsCells x).toList)) (hr:v'.ownBlock=vf.ownBlock \/ ∀ g,v'.ownBlock=some g->(laidDs w x).heap.size<=g) :
  DRep B (w3.setCell ⟨r,3,none⟩ v') r s (z.1,z.2 ++ [x]) v'/\ZFr r vf v' w (w3.setCell ⟨r,3,none⟩ v'):=by
 have hlr:r < w.heap.size:=At.lt h.dat
 have nr:=ownsRow_not h.row h.dat (by decide)
 have same:∀ k,k < w.heap.size->vf.ownBlock ≠ some k->w3.heap[k]?=w.heap[k]?:=fun k hk hn=>(hg.block k (by rw [laidDs_size]; omega) (fun e=>hn e.symm)).trans (laidDs_old x k hk)
 have hd3:Dat w3 r s z.1 vf:=At.same h.dat (same r hlr nr)
 have hsz:w.heap.size<=w3.heap.size:=by have:=hg.size; rw [laidDs_size] at this; omega
 have nr':v'.ownBlock ≠ some r:=by
  rcases hr with e | e
  ·rw [e]; exact nr
  ·intro e2; have:=e r e2; rw [laidDs_size] at this; omega
 refine ⟨⟨At.put hd3 3 v',?_,h.geR,by have:=h.geW; simp [World.setCell]; omega⟩,⟨hg.os,hg.tape,hg.output,by simp [World.setCell]; omega,fun k hk h1 h2=>?_,?_⟩⟩
 ·show (w3.setCell ⟨r,3,none⟩ v').ownsRow B tDs 10 v' (z.2 ++ [x]).length (flat (z.2 ++ [x]))
  rw [flat_snoc,List.length_append,List.length_singleton]
  exact ownsRow_setCell_other hown nr' _
 ·rw [Below.heap_setCell _ _ _ _ h1]; exact same k hk h2
 ·rcases hr with e | e
  ·exact .inl e
  ·exact .inr fun g hg=>by have:=e g hg; rw [laidDs_size] at this; omega
theorem blocksOf_range (k:Int):0<=blocksOf k/\blocksOf k<=2:=by
 unfold blocksOf
 split
 ·omega
 split
 ·omega
 ·omega
theorem DsAt.zkeep {x:Ds} {v v':Value} (h:DsAt w q x) (z:ZFr r v v' w w') (hl:q < w.heap.size) (hr:q ≠ r) (hv:v.ownBlock ≠ some q):DsAt w' q x:=At.same h (z.block q hl hr hv)
theorem zrow {v v':Value} (z:ZFr r v v' w w') (hv:v.ownBlock ≠ some q) (hq:q < w.heap.size):v'.ownBlock ≠ some q:=by
 rcases z.row with e | e
 ·rw [e]; exact hv
 ·intro e2; have:=e q e2; omega
theorem ZFr.alloc {v v':Value} (h:ZFr r v v' w w') (o:Obj):ZFr r v v' w (w'.alloc o) :=
 h.trans ⟨rfl,rfl,rfl,by simp,fun k hk _ _=>Below.heap_alloc _ _ _ hk,.inl rfl⟩
theorem DRep.alloc {z:Zt} (h:DRep B w r s z vf) (o:Obj):DRep B (w.alloc o) r s z vf:=⟨h.dat.alloc o,h.row.alloc o,h.geR,by have:=h.geW; simp; omega⟩
theorem push_same {z:Zt} (h:DRep B w r s z vf) {x:Ds} {w3:World} (hg:(laidDs w x).grownBy w3 vf.ownBlock):w3.heap[r]?=w.heap[r]? :=
 (hg.block r (by rw [laidDs_size]; have:=At.lt h.dat; omega) (fun e=>ownsRow_not h.row h.dat (by decide) e.symm)).trans (laidDs_old x r (At.lt h.dat))
theorem ownsRow_form {e:TypeId} {size:Nat} {v:Value} {n:Nat} {xs:List Value} (h:w.ownsRow B e size v (n+1) xs):∃ g cap,v=.slice (some ⟨g,0,none⟩) (n+1) cap:=by
 obtain ⟨_,h2⟩:=h
 rcases h2 with ⟨_,e⟩ | ⟨g,cap,c,rfl,_⟩
 ·omega
 ·exact ⟨g,cap,rfl⟩
theorem d_readStatement {n:Nat} (H:SP s n) (hs:s.size<=160) {z:Zt} (h:DRep B w r s z vf) (hz:Zok s z) (hst:z.1.2=false) (p b dp:Int) (h0:0<=dp) (h1:dp<=z.2.length) (hm:Mz z<=n) :
  Calls Tryz.prog 85 #[.pointer (some ⟨r,0,none⟩),.int .i64 p,.int .i64 b,.int .i64 dp] w (ZPost B w r s vf (rStmtWith s (rStmts s n) p b dp z)):=by
 obtain ⟨ao,cap,hvf⟩:=h.vlen
 obtain ⟨r0,r1,r2,r3,rf⟩:=h.dat.cells
 have hlr:r < w.heap.size:=At.lt h.dat
 have hlen:=hz.len
 have hat:=hz.at_
 have HD:Hid (DRep _ _ _ _ _ _):=h
 clear h
 by_cases h20:20<=z.2.length
 ·have HT:Hid (rStmtWith s (rStmts s n) p b dp z=(stk z.1,z.2)):=if_pos h20
  have e20:z.2.length=20:=by omega
  rw [hvf,e20] at r3
  clear hvf e20 h20
  go_enter Tryz.func85,Tryz.ntmps85
  go_wp2_with fail
  go_end0
  rw [HT.out]
  exact ⟨rfl,vf,HD.out.tch ((Tch.refl r _).setCell _ _) HD.out.dat.stick,((Tch.refl r _).setCell _ _).zfr vf⟩
 have b20:decide ((20:Int)<=(z.2.length:Int))=false:=decide_eq_false (by omega)
 have hdn:Dat (w.alloc (.cells (dsCells (newDs p b)) tDs)) r s z.1 vf:=HD.out.dat.alloc _
 have hqn:DsAt (w.alloc (.cells (dsCells (newDs p b)) tDs)) w.heap.size (newDs p b):=by
  show (w.heap.push _)[w.heap.size]?=_
  rw [Array.getElem?_push,if_pos rfl]
 have hh:=d_readHead hdn hqn rfl hs hat dp
 obtain ⟨y,hY⟩:∃ y,y=rHead s z.1 (newDs p b) dp:=⟨_,rfl⟩
 rw [<- hY] at hh
 have hyat:y.2.1<=s.size:=by rw [hY]; exact rHead_le hat dp
 have hysg:y.1.sg.length=4:=by rw [hY]; exact rHead_sgl rfl dp
 subst hvf
 clear hdn hqn
 by_cases hys:y.2.2=true
 ·have HT:Hid (rStmtWith s (rStmts s n) p b dp z=(y.2,z.2)):=by show rStmtWith _ _ _ _ _ _=_; unfold rStmtWith; rw [if_neg h20,<- hY,if_pos hys]
  have HYS:Hid (_=_):=hys
  clear hys hY h20
  go_enter Tryz.func85,Tryz.ntmps85
  go_wp2_with fail
  refine hh.mono ?_
  rintro e w2 ⟨rfl,hD2,hQ2,hF2⟩
  have hD2c:=hD2.cells.2.2.1
  rw [HYS.out] at hD2c
  have HDR:Hid (_/\_):=HD.out.fr hF2 hD2
  clear hD2 hQ2 hF2
  go_wp2
  go_end0
  rw [HT.out]
  exact ⟨rfl,_,HDR.out.1,HDR.out.2⟩
 ·have HT:Hid (rStmtWith s (rStmts s n) p b dp z=aft s (rStmts s n) z.2.length (dp+1) (y.2,z.2 ++ [y.1]) (blocksOf y.1.kind).toNat):=by show rStmtWith _ _ _ _ _ _=_; unfold rStmtWith; rw [if_neg h20,<- hY,if_neg hys]
  have hysf:y.2.2=false:=by simpa using hys
  have HYS:Hid (_=_):=hysf
  obtain ⟨i0,hi,hz0,hz1,hz2⟩:=info_parts Tryz.infoDs
  have hzok:Zok s (y.2,z.2 ++ [y.1]):=⟨hyat,by simp; omega⟩
  have hMz:Mz z=21 - z.2.length:=by unfold Mz; rw [hst]; rfl
  rw [hMz] at hm
  have hqr:w.heap.size ≠ r:=by omega
  have hrowq:(Value.slice ao z.2.length cap).ownBlock ≠ some w.heap.size:=fun e=>by have:=(HD.out.row.lt _ e).2; omega
  clear hys hysf hY
  go_enter Tryz.func85,Tryz.ntmps85
  go_wp2_with fail
  refine hh.mono ?_
  rintro e w2 ⟨rfl,hD2,hQ2,hF2⟩
  obtain ⟨r0,r1,r2,r3,rf⟩:=hD2.cells
  rw [HYS.out] at r2
  obtain ⟨c0,c1,c2,c3,c4,c5,c6,c7,c8,c9,cf⟩:=hQ2.cells
  have HDR:Hid (_/\_):=HD.out.fr hF2 hD2
  have HQ2:Hid (DsAt _ _ _):=hQ2
  have hlr2:r < w2.heap.size:=At.lt hD2
  have hlq2:w.heap.size < w2.heap.size:=At.lt hQ2
  clear hD2 hQ2 hF2
  go_wp2_with fail
  go_region_law (refine step_append_own2 rfl (.tmp 39) (.tmp 41) 41 rfl B tDs i0 _ 10 80 Tryz.underlying41 hi hz0 hz1 hz2 rfl (by decide) _ _ _ rfl ((HDR.out.1.row.alloc _).drew) ⟨w2.heap.size,0,none⟩ 1 1 (dsCells y.1).toList rfl rfl (laidDs_lit y.1) (by intro u hu; simp [dsCells] at hu; rcases hu with rfl | rfl | rfl | rfl | rfl | rfl | rfl | rfl | rfl | rfl <;> rfl) (by unfold maxLen; show z.2.length+1<=_; omega) (by show (z.2.length+1)*80<=_; omega) (by have:=HDR.out.1.geW; simp; omega) ?_; intro v' w3 hown' hgrow hrow; have HP:Hid (_/\_):=HDR.out.1.push y.1 hgrow hown' hrow; have hsame:w3.heap[r]?=w2.heap[r]?:=push_same HDR.out.1 hgrow; have k1:∀ i,w3.cell? ⟨r,i,none⟩=w2.cell? ⟨r,i,none⟩:=fun i=>World.cell?_of_block (a:=⟨r,i,none⟩) hsame; have k2:∀ i,w3.frozen? ⟨r,i,none⟩=w2.frozen? ⟨r,i,none⟩:=fun i=>World.frozen?_of_block (a:=⟨r,i,none⟩) hsame; obtain ⟨g',cap',rfl⟩:=ownsRow_form hown'; clear hown' hgrow hsame hrow)
  all_goals
   have HQ4:Hid (DsAt _ _ _):=HQ2.out.zkeep HP.out.2 hlq2 hqr hrowq
   generalize hW4:w3.setCell ⟨r,3,none⟩ (.slice (some ⟨g',0,none⟩) (z.2.length+1) cap')=W4
   have HP4:Hid (DRep B W4 r s (y.2,z.2 ++ [y.1]) (.slice (some ⟨g',0,none⟩) (z.2.length+1) cap')/\ZFr r (.slice ao z.2.length cap) (.slice (some ⟨g',0,none⟩) (z.2.length+1) cap') w2 W4/\DsAt W4 w.heap.size y.1):=by
    show _/\_/\_
    rw [<- hW4]; exact ⟨HP.out.1,HP.out.2,HQ4.out⟩
   clear HP HQ4 hW4 k1 k2 r0 r1 r2 r3 rf c0 c1 c2 c3 c4 c5 c6 c7 c8 c9 cf
   go_wp2_with fail
   go_loopw [10] (fun i wr=>∃ j:Nat,j<=(blocksOf y.1.kind).toNat/\i=.int .i64 j/\DsAt wr w.heap.size y.1/\∃ v,DRep B wr r s (aft s (rStmts s n) z.2.length (dp+1) (y.2,z.2 ++ [y.1]) j) v/\ZFr r (.slice ao z.2.length cap) v w2 wr) (fun i _=>(blocksOf y.1.kind).toNat - (intOf i).toNat)
   case atStart=>exact ⟨0,Nat.zero_le _,rfl,HP4.out.2.2,_,HP4.out.1,HP4.out.2.1⟩
   case round =>
    obtain ⟨j,hj,rfl,hqj,v,hdj,hzj⟩:=hrel
    obtain ⟨c0,c1,c2,c3,c4,c5,c6,c7,c8,c9,cf⟩:=hqj.cells
    have HQJ:Hid (DsAt _ _ _):=hqj
    have HDJ:Hid (DRep _ _ _ _ _ _):=hdj
    clear hqj hdj
    have kb:=fun (t:Int) (an:Bool) (g0 g1 g2 g3 n p b:Int) (w:World)=>d_blocks y.1.kind t an g0 g1 g2 g3 n p b w
    have hbl:=blocksOf_range y.1.kind
    generalize blocksOf y.1.kind=bl at *
    by_cases hlt:(j:Int) < bl
    ·go_wp2_with fail
     refine (kb _ _ _ _ _ _ _ _ _ _).mono ?_
     rintro e w5 ⟨rfl,o,rfl⟩
     go_wp2_with fail
     have hgo:=(rStmts_goes s n).aft (z.2.length:Int) (dp+1) hzok j
     have hlen1:=hgo.len
     simp at hlen1
     have hrb:=d_readBlock H hs (HDJ.out.alloc o) hgo.ok (z.2.length:Int) j (dp+1) (by omega) (by omega) (by
      have h5:=hgo.ok.len
      have h6:Mz (aft s (rStmts s n) z.2.length (dp+1) (y.2,z.2 ++ [y.1]) j)<=21 - (z.2.length+1):=by unfold Mz; split <;> omega
      omega)
     refine hrb.mono ?_
     rintro e w6 ⟨rfl,v6,hd6,hz6⟩
     have HD6:Hid (DRep _ _ _ _ _ _/\ZFr _ _ _ _ _):=⟨hd6,hz6⟩
     clear hrb hgo hlen1 hd6 hz6
     go_wp2
     go_roundw
     case rel=>exact ⟨j+1,by omega,by go_num,((HQJ.out.alloc o).zkeep HD6.out.2 (by have:=hzj.size; simp; omega) hqr (zrow hzj hrowq hlq2)),v6,HD6.out.1,(hzj.alloc o).trans HD6.out.2⟩
     case measure=>simp [intOf]; omega
    ·go_wp2_with fail
     refine (kb _ _ _ _ _ _ _ _ _ _).mono ?_
     rintro e w5 ⟨rfl,o,rfl⟩
     go_wp2
     go_end0
     have hje:j=bl.toNat:=by omega
     rw [HT.out,<- hje]
     exact ⟨rfl,v,HDJ.out.alloc o,HDR.out.2.trans (hzj.alloc o)⟩
end Go.Proofs.YtffajooegiempaaGreatDoor

namespace Go.Proofs.YtffajooegiempaaGreatDoor
open Go.RowKit
variable {B:Nat} {w w':World} {r q:Nat} {s:ByteArray} {vf:Value}
def mOf (r:Nat) (w:World):Nat :=
 match w.cell? ⟨r,2,none⟩,w.cell? ⟨r,3,none⟩ with
 | some (.bool b),some (.slice _ n _)=>if b then 0 else 21 - n
 | _,_=>0
theorem mOf_eq {z:Zt} (h:DRep B w r s z vf):mOf r w=Mz z:=by
 obtain ⟨ao,cap,rfl⟩:=h.vlen
 obtain ⟨r0,r1,r2,r3,rf⟩:=h.dat.cells
 unfold mOf Mz
 rw [r2,r3]
theorem DRep.drewN {z:Zt} (h:DRep B w r s z vf) (k:Nat):DRep B (w.drewN k) r s z vf:=⟨h.dat,h.row,h.geR,h.geW⟩
theorem ZFr.drewN {v v':Value} (h:ZFr r v v' w w') (k:Nat):ZFr r v v' w (w'.drewN k):=⟨h.os,h.tape,h.output,h.size,h.block,h.row⟩
theorem d_readStatements (hs:s.size<=160) (n:Nat):SP s n:=by
 induction n using Nat.strongRecOn with
 | ind n ih =>
  intro B r vf w z p b dp h hz h0 h1 hm
  have HI:Hid (∀ m,m < n->SP s m):=ih
  have hp:=d_peek h.dat hs (by have:=hz.at_; omega)
  have HD:Hid (DRep _ _ _ _ _ _):=h
  clear ih h
  go_enter Tryz.func50,Tryz.ntmps50
  go_wp2_with fail
  refine hp.mono ?_
  rintro e w1 ⟨rfl,k,rfl⟩
  clear hp
  go_wp2_with fail
  go_loopw [8] (fun c wr=>∃ (z':Zt) (m:Nat) (v:Value),m<=n/\Mz z' < m/\rStmts s n p b dp z=rStmts s m p b dp z'/\c=.int .u8 (pk s z'.1)/\Zok s z'/\dp<=z'.2.length/\DRep B wr r s z' v/\ZFr r vf v w wr) (fun _ wr=>mOf r wr)
  case atStart=>exact ⟨z,n,vf,Nat.le_refl _,hm,rfl,rfl,hz,h1,HD.out.drewN k,(ZFr.refl r vf w).drewN k⟩
  case round =>
   obtain ⟨z',m,v,hmn,hmz,he,rfl,hzk,hdp,hd,hzf⟩:=hrel
   have HE:Hid (_=_):=he
   have HDJ:Hid (DRep _ _ _ _ _ _):=hd
   have hmo:=mOf_eq hd
   have HMO:Hid (_=_):=hmo
   clear he hd hmo
   obtain ⟨m',rfl⟩:∃ m',m=m'+1:=⟨m - 1,by omega⟩
   obtain ⟨p0,p1⟩:=pk_range s z'.1
   by_cases hc0:pk s z'.1=0
   ·have HX:Hid (rStmts s n p b dp z=z'):=HE.out.trans (by unfold rStmts; rw [if_pos (.inl hc0)])
    rw [hc0]
    clear hc0
    go_wp2_with fail
    go_end0
    rw [HX.out]
    exact ⟨rfl,v,HDJ.out,hzf⟩
   have b0:(pk s z'.1 != 0)=true:=by rw [bne_iff_ne]; exact hc0
   by_cases hc1:pk s z'.1=125
   ·have HX:Hid (rStmts s n p b dp z=z'):=HE.out.trans (by unfold rStmts; rw [if_pos (.inr hc1)])
    rw [hc1]
    clear hc0 hc1 b0
    go_wp2_with fail
    go_end0
    rw [HX.out]
    exact ⟨rfl,v,HDJ.out,hzf⟩
   ·have b1:(pk s z'.1 != 125)=true:=by rw [bne_iff_ne]; exact hc1
    have HX:Hid (rStmts s n p b dp z=rStmts s m' p b dp (rStmtWith s (rStmts s m') p b dp z')):=HE.out.trans (by rw [rStmts,if_neg (fun e=>e.elim hc0 hc1)])
    have hns:z'.1.2=false:=(pk_lt rfl hc0).2
    have hg:=(rStmts_goes s m').stmt p b dp hzk
    have hMd:=Mz_stmt (rStmts s m') (rStmts_goes s m') p b dp hzk hns
    have hst:=d_readStatement (HI.out m' (by omega)) hs HDJ.out hzk hns p b dp h0 hdp (by omega)
    obtain ⟨z2,hZ2⟩:∃ z2,z2=rStmtWith s (rStmts s m') p b dp z':=⟨_,rfl⟩
    rw [<- hZ2] at hst hg hMd HX
    have hz2a:=hg.ok.at_
    have hz2l:=hg.len
    have HN:Hid (_=_):=hns
    clear hZ2 hc0 hc1 hns
    generalize pk s z'.1=c at *
    go_wp2_with fail
    refine hst.mono ?_
    rintro e w2 ⟨rfl,v2,hd2,hz2⟩
    have HD2:Hid (DRep _ _ _ _ _ _/\ZFr _ _ _ _ _):=⟨hd2,hz2⟩
    clear hst hd2 hz2
    go_wp2_with fail
    refine (d_peek HD2.out.1.dat hs (by omega)).mono ?_
    rintro e w3 ⟨rfl,k3,rfl⟩
    go_wp2
    go_roundw
    case rel=>exact ⟨z2,m',v2,by omega,by omega,HX.out,rfl,hg.ok,by omega,HD2.out.1.drewN k3,(hzf.trans HD2.out.2).drewN k3⟩
    case measure =>
     have e1:=mOf_eq (HD2.out.1.drewN k3)
     rw [e1,HMO.out]
     exact hMd
end Go.Proofs.YtffajooegiempaaGreatDoor

namespace Go.Proofs.YtffajooegiempaaGreatDoor
open Go.RowKit
variable {w w':World} {s:ByteArray}
def readZ (s:ByteArray):Zt:=rStmts s 22 (-1) 0 0 ((0,false),[])
def readGood (s:ByteArray):Bool:=!(readZ s).1.2 && decide (s.size<=(readZ s).1.1)
def DReadPost (w:World) (s:ByteArray):Ending->World->Prop:=fun e w'=>Below w.heap.size w w' /\
 ((160 < s.size/\e=.returned (.tuple #[.agg #[.slice none 0 0],.int .i64 1,.int .i64 0])) \/
  (s.size<=160/\readGood s=false/\e=.returned (.tuple #[.agg #[.slice none 0 0],.int .i64 1,.int .i64 (readZ s).1.1])) \/
  (s.size<=160/\readGood s=true/\∃ v,e=.returned (.tuple #[.agg #[v],.int .i64 0,.int .i64 0])/\w'.ownsRow w.heap.size tDs 10 v (readZ s).2.length (flat (readZ s).2)))
theorem drep_init (s:ByteArray) (w:World) (o:Obj):DRep w.heap.size ((w.alloc o).alloc (.cells #[.string s,.int .i64 0,.bool false,.slice none 0 0] tD)) (w.heap.size+1) s ((0,false),[]) (.slice none 0 0) where
 dat:=by
  show ((w.heap.push _).push _)[w.heap.size+1]?=_
  rw [Array.getElem?_push,if_pos (by simp)]; rfl
 row:=World.ownsRow_nil _ _ _ _
 geR:=by omega
 geW:=by simp; omega
theorem readZ_row {z:Zt} {w2:World} {r B:Nat} {v:Value} {u:Value} (h:DRep B w2 r s z v) (hn:v.ownBlock ≠ some w.heap.size):(w2.setCell ⟨w.heap.size,0,none⟩ u).ownsRow B tDs 10 v z.2.length (flat z.2) :=
 ownsRow_setCell_other h.row hn _
theorem prog_cell (w:World) (o o':Obj):((w.alloc o).alloc o').heap[w.heap.size]?=some o:=by
 show ((w.heap.push _).push _)[w.heap.size]?=_
 rw [Array.getElem?_push,if_neg (by simp),Array.getElem?_push,if_pos rfl]
theorem d_read (s:ByteArray) (w:World) (hm:s.size<=maxLen) :
  Calls Tryz.prog 18 #[.string s] w (DReadPost w s):=by
 unfold maxLen at hm
 by_cases h:160 < s.size
 ·go_enter Tryz.func18,Tryz.ntmps18
  go_wp2_with fail
  exact bodyPost_ret (v:=.tuple #[.agg #[.slice none 0 0],.int .i64 1,.int .i64 0]) (by simp [results,Tryz.results18,go_sem]) rfl ⟨(Below.refl _ _).alloc (Nat.le_refl _) _,.inl ⟨h,rfl⟩⟩
 ·have hsz:s.size<=160:=by omega
  have b160:decide ((160:Int) < (s.size:Int))=false:=decide_eq_false (by omega)
  have HI:Hid (DRep _ _ _ _ _ _):=drep_init s w (.cells #[.slice none 0 0] 43)
  have hst:=d_readStatements hsz 22 _ _ _ _ _ (-1) 0 0 HI.out ⟨Nat.zero_le _,Nat.zero_le _⟩ (Int.le_refl _) (Int.le_refl _) (by decide)
  have hgo:=(rStmts_goes s 22 (-1) 0 0 ((0,false),[]) ⟨Nat.zero_le _,Nat.zero_le _⟩).ok.at_
  have HG:Hid (readGood s=(!(readZ s).1.2 && decide (s.size<=(readZ s).1.1))):=rfl
  obtain ⟨z,hZ⟩:∃ z,z=readZ s:=⟨_,rfl⟩
  rw [show rStmts s 22 (-1) 0 0 ((0,false),[])=z from hZ.symm] at hst hgo
  have HZ:Hid (z=readZ s):=hZ
  clear hZ
  obtain ⟨⟨za,zb⟩,zf⟩:=z
  simp only at hgo
  cases zb
  ·by_cases hl:za < s.size
   ·have hGood:readGood s=false:=by rw [HG.out,<- HZ.out]; simp; omega
    have HGD:Hid (_=_):=hGood
    have bl:decide ((za:Int) < (s.size:Int))=true:=decide_eq_true (by omega)
    clear hGood
    go_enter Tryz.func18,Tryz.ntmps18
    go_wp2_with fail
    refine hst.mono ?_
    rintro e w2 ⟨rfl,v,hd,hzf⟩
    obtain ⟨r0,r1,r2,r3,rf⟩:=hd.dat.cells
    have hb2:Below w.heap.size w w2:=(((Below.refl _ _).alloc (Nat.le_refl _) _).alloc (by simp) _).trans (hzf.below HI.out)
    have hp0:w2.heap[w.heap.size]?=some (.cells #[.slice none 0 0] 43):=(hzf.block w.heap.size (by simp; omega) (by omega) (by simp [Value.ownBlock])).trans (prog_cell w _ _)
    have p1:w2.cell? ⟨w.heap.size,0,none⟩=some (.slice none 0 0):=by simp [World.cell?,hp0]
    have p2:w2.frozen? ⟨w.heap.size,0,none⟩=false:=by simp [World.frozen?,hp0]
    have HDF:Hid (DRep _ _ _ _ _ _):=hd
    have HB2:Hid (Below _ _ _):=hb2
    have hnv:Hid (v.ownBlock ≠ some w.heap.size):=ownsRow_not hd.row (show At w2 w.heap.size _ _ from hp0) (by decide)
    obtain ⟨ao,cap,hv⟩:=hd.vlen
    subst hv
    clear hd hzf hp0 hb2
    go_wp2_with fail
    go_region
    all_goals
     go_wp2
     exact bodyPost_ret (v:=.tuple #[.agg #[.slice none 0 0],.int .i64 1,.int .i64 za]) (by simp [results,Tryz.results18,go_sem,p1]) rfl ⟨Below.setCell (Below.drew HB2.out) (Nat.le_refl _) _,.inr (.inl ⟨hsz,HGD.out,by rw [<- HZ.out]⟩)⟩
   ·have hGood:readGood s=true:=by rw [HG.out,<- HZ.out]; simp; omega
    have HGD:Hid (_=_):=hGood
    have bl:decide ((za:Int) < (s.size:Int))=false:=decide_eq_false (by omega)
    clear hGood
    go_enter Tryz.func18,Tryz.ntmps18
    go_wp2_with fail
    refine hst.mono ?_
    rintro e w2 ⟨rfl,v,hd,hzf⟩
    obtain ⟨r0,r1,r2,r3,rf⟩:=hd.dat.cells
    have hb2:Below w.heap.size w w2:=(((Below.refl _ _).alloc (Nat.le_refl _) _).alloc (by simp) _).trans (hzf.below HI.out)
    have hp0:w2.heap[w.heap.size]?=some (.cells #[.slice none 0 0] 43):=(hzf.block w.heap.size (by simp; omega) (by omega) (by simp [Value.ownBlock])).trans (prog_cell w _ _)
    have p1:w2.cell? ⟨w.heap.size,0,none⟩=some (.slice none 0 0):=by simp [World.cell?,hp0]
    have p2:w2.frozen? ⟨w.heap.size,0,none⟩=false:=by simp [World.frozen?,hp0]
    have HDF:Hid (DRep _ _ _ _ _ _):=hd
    have HB2:Hid (Below _ _ _):=hb2
    have hnv:Hid (v.ownBlock ≠ some w.heap.size):=ownsRow_not hd.row (show At w2 w.heap.size _ _ from hp0) (by decide)
    obtain ⟨ao,cap,hv⟩:=hd.vlen
    subst hv
    clear hd hzf hp0 hb2
    go_wp2_with fail
    exact bodyPost_ret (v:=.tuple #[.agg #[.slice ao zf.length cap],.int .i64 0,.int .i64 0]) (by simp [results,Tryz.results18,go_sem,p1]) rfl ⟨Below.setCell HB2.out (Nat.le_refl _) _,.inr (.inr ⟨hsz,HGD.out,_,rfl,by rw [<- HZ.out]; exact readZ_row HDF.out hnv.out⟩)⟩
  ·have hGood:readGood s=false:=by rw [HG.out,<- HZ.out]; rfl
   have HGD:Hid (_=_):=hGood
   clear hGood
   go_enter Tryz.func18,Tryz.ntmps18
   go_wp2_with fail
   refine hst.mono ?_
   rintro e w2 ⟨rfl,v,hd,hzf⟩
   obtain ⟨r0,r1,r2,r3,rf⟩:=hd.dat.cells
   have hb2:Below w.heap.size w w2:=(((Below.refl _ _).alloc (Nat.le_refl _) _).alloc (by simp) _).trans (hzf.below HI.out)
   have hp0:w2.heap[w.heap.size]?=some (.cells #[.slice none 0 0] 43):=(hzf.block w.heap.size (by simp; omega) (by omega) (by simp [Value.ownBlock])).trans (prog_cell w _ _)
   have p1:w2.cell? ⟨w.heap.size,0,none⟩=some (.slice none 0 0):=by simp [World.cell?,hp0]
   have p2:w2.frozen? ⟨w.heap.size,0,none⟩=false:=by simp [World.frozen?,hp0]
   have HDF:Hid (DRep _ _ _ _ _ _):=hd
   have HB2:Hid (Below _ _ _):=hb2
   have hnv:Hid (v.ownBlock ≠ some w.heap.size):=ownsRow_not hd.row (show At w2 w.heap.size _ _ from hp0) (by decide)
   obtain ⟨ao,cap,hv⟩:=hd.vlen
   subst hv
   clear hd hzf hp0 hb2
   go_wp2_with fail
   go_region
   all_goals
    go_wp2
    exact bodyPost_ret (v:=.tuple #[.agg #[.slice none 0 0],.int .i64 1,.int .i64 za]) (by simp [results,Tryz.results18,go_sem,p1]) rfl ⟨Below.setCell (Below.drew HB2.out) (Nat.le_refl _) _,.inr (.inl ⟨hsz,HGD.out,by rw [<- HZ.out]⟩)⟩
end Go.Proofs.YtffajooegiempaaGreatDoor

namespace Go.Proofs.YtffajooegiempaaGreatDoor
def scanD (s:ByteArray):Int × Int × Int :=
 if 160 < s.size then (0,1,0) else if readGood s=true then (((readZ s).2.length:Int)+1,0,0) else (0,1,(readZ s).1.1)
end Go.Proofs.YtffajooegiempaaGreatDoor

namespace Go.Proofs.YtffajooegiempaaGreatDoor
def firstGo (p b fr:Int):List Ds->Nat->Int
 | [],_=>-1
 | x :: l,i=>if fr<=i/\x.parent=p/\x.block=b then (i:Int) else firstGo p b fr l (i+1)
def firstP (F:List Ds) (p b fr:Int):Int:=firstGo p b fr F 0
def isRepP (F:List Ds) (p:Int):Bool:=decide (0<=p) && decide (p < F.length) && decide ((F.getD p.toNat (newDs 0 0)).kind=3)
def followP (F:List Ds):Nat->Int->Int
 | 0,_=>F.length
 | n+1,pt=>if pt < 0 \/ (F.length:Int)<=pt then F.length else
  if firstP F (F.getD pt.toNat (newDs 0 0)).parent (F.getD pt.toNat (newDs 0 0)).block (pt+1) ≠ -1 then firstP F (F.getD pt.toNat (newDs 0 0)).parent (F.getD pt.toNat (newDs 0 0)).block (pt+1)
  else if isRepP F (F.getD pt.toNat (newDs 0 0)).parent=true then (F.getD pt.toNat (newDs 0 0)).parent
  else followP F n (F.getD pt.toNat (newDs 0 0)).parent
def waysP (k:Int):Int:=if k=2 \/ k=3 then 2 else 1
def nextP (F:List Ds) (pt way:Int):Int × Int :=
 if pt < 0 \/ (F.length:Int)<=pt then (0,2)
 else if way < 0 \/ waysP (F.getD pt.toNat (newDs 0 0)).kind<=way then (0,2)
 else if blocksOf (F.getD pt.toNat (newDs 0 0)).kind<=way then (followP F 21 pt,0)
 else if firstP F pt way (pt+1) ≠ -1 then (firstP F pt way (pt+1),0)
 else if (F.getD pt.toNat (newDs 0 0)).kind=3 then (pt,0)
 else (followP F 21 pt,0)
theorem firstGo_drop {p b fr:Int} {F:List Ds} {k:Nat} (hk:k < F.length):firstGo p b fr (F.drop k) k=if fr<=k/\(F.getD k (newDs 0 0)).parent=p/\(F.getD k (newDs 0 0)).block=b then (k:Int) else firstGo p b fr (F.drop (k+1)) (k+1):=by
 have e:F.drop k=F.getD k (newDs 0 0) :: F.drop (k+1):=by
  rw [List.drop_eq_getElem_cons hk,List.getD_eq_getElem?_getD,List.getElem?_eq_getElem hk]; rfl
 rw [e,firstGo]
end Go.Proofs.YtffajooegiempaaGreatDoor

