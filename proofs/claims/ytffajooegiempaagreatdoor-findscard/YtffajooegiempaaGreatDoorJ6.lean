import Derived.Test.YtffajooegiempaaGreatDoorJ5
set_option maxRecDepth 100000
set_option maxHeartbeats 6400000
namespace Go.Proofs.YtffajooegiempaaGreatDoor
def sgn (i:Nat):Int:=1 - 2*((i % 2:Nat):Int)
def frm (f:Nat):List Int:=if f < 8 then [0,0,0,0].set (f / 2) (sgn f) else ([0,0,0,0].set (fs f / 2) (sgn (fs f))).set (ss f / 2) (sgn (ss f))
def gAt (l:List Int) (i:Nat):Int:=l.getD i 0
theorem fs_lo:∀ f:Nat,f < 8->fs f=f/\ss f=f:=by decide
theorem fs_hi:∀ f:Nat,f < 32->8<=f->fs f ≠ ss f:=by decide
def bv (l:List Int) (f:Nat):Int:=if fs f=ss f/\l.getD f 0 ≠ NB then 2*l.getD f 0 else l.getD f 0
theorem lay_form (l:List Int):∀ f,f < 32->lay l 32 (fs f*8+ss f)=bv l f/\lay l 32 (ss f*8+fs f)=bv l f
 | 0,_=>⟨rfl,rfl⟩
 | 1,_=>⟨rfl,rfl⟩
 | 2,_=>⟨rfl,rfl⟩
 | 3,_=>⟨rfl,rfl⟩
 | 4,_=>⟨rfl,rfl⟩
 | 5,_=>⟨rfl,rfl⟩
 | 6,_=>⟨rfl,rfl⟩
 | 7,_=>⟨rfl,rfl⟩
 | 8,_=>⟨rfl,rfl⟩
 | 9,_=>⟨rfl,rfl⟩
 | 10,_=>⟨rfl,rfl⟩
 | 11,_=>⟨rfl,rfl⟩
 | 12,_=>⟨rfl,rfl⟩
 | 13,_=>⟨rfl,rfl⟩
 | 14,_=>⟨rfl,rfl⟩
 | 15,_=>⟨rfl,rfl⟩
 | 16,_=>⟨rfl,rfl⟩
 | 17,_=>⟨rfl,rfl⟩
 | 18,_=>⟨rfl,rfl⟩
 | 19,_=>⟨rfl,rfl⟩
 | 20,_=>⟨rfl,rfl⟩
 | 21,_=>⟨rfl,rfl⟩
 | 22,_=>⟨rfl,rfl⟩
 | 23,_=>⟨rfl,rfl⟩
 | 24,_=>⟨rfl,rfl⟩
 | 25,_=>⟨rfl,rfl⟩
 | 26,_=>⟨rfl,rfl⟩
 | 27,_=>⟨rfl,rfl⟩
 | 28,_=>⟨rfl,rfl⟩
 | 29,_=>⟨rfl,rfl⟩
 | 30,_=>⟨rfl,rfl⟩
 | 31,_=>⟨rfl,rfl⟩
 | n+32,h=>absurd h (by omega)
 
theorem lay_opp (l:List Int):∀ i,i < 8->lay l 32 (i*8+opp i)=0
 | 0,_=>rfl
 | 1,_=>rfl
 | 2,_=>rfl
 | 3,_=>rfl
 | 4,_=>rfl
 | 5,_=>rfl
 | 6,_=>rfl
 | 7,_=>rfl
 | n+8,h=>absurd h (by omega)
 
theorem bd_le {o:List Int} {M:Nat->Int} (hok:∀ i,i < 32->isB (o.getD i 0)=true) (hM:∀ k,M k<=lay o 32 k) (f:Nat) (hf:f < 32):bd M f<=gAt o f:=by
 have hl:=(lay_form o f hf).1
 have hm:=hM (fs f*8+ss f)
 have hr:=(lay_range o 32 hok (fs f*8+ss f)).2
 have hb:=hok f hf
 unfold isB at hb
 have hb:=of_decide_eq_true hb
 rw [hl] at hm hr
 unfold bd gAt
 unfold bv at hm hr
 by_cases h8:f < 8
 ·obtain ⟨q1,q2⟩:=fs_lo f h8
  rw [q1,q2] at hm hr |-
  by_cases hn:o.getD f 0=NB
  ·rw [if_neg (fun q=>q.2 hn)] at hm hr
   rw [hn] at hm |-
   by_cases hz:M (f*8+f)=NB
   ·rw [if_neg (fun q=>q.2 hz)]; exact hm
   ·rw [if_pos ⟨rfl,hz⟩]
    have:=tdiv2 (M (f*8+f))
    unfold NB at *
    rcases Int.lt_or_le (M (f*8+f)) 0 with e | e
    ·rw [this.2 e]; omega
    ·rw [this.1 e]; omega
  ·rw [if_pos ⟨rfl,hn⟩] at hm hr
   have hz:M (f*8+f) ≠ NB:=by unfold NB at *; omega
   rw [if_pos ⟨rfl,hz⟩]
   have:=tdiv2 (M (f*8+f))
   rcases Int.lt_or_le (M (f*8+f)) 0 with e | e
   ·rw [this.2 e]; omega
   ·rw [this.1 e]; omega
 ·have hne:=fs_hi f hf (by omega)
  rw [if_neg (fun q=>hne q.1)] at hm |-
  exact hm
theorem bdL_get (M:Nat->Int) (f:Nat) (hf:f < 32):gAt (bdL M) f=bd M f:=by simp [gAt,bdL,List.getD,hf]
end Go.Proofs.YtffajooegiempaaGreatDoor

namespace Go.Proofs.YtffajooegiempaaGreatDoor
def vadd (f g:Nat):List Int:=[gAt (frm f) 0+gAt (frm g) 0,gAt (frm f) 1+gAt (frm g) 1,gAt (frm f) 2+gAt (frm g) 2,gAt (frm f) 3+gAt (frm g) 3]
def onesV (v:List Int):Nat:=v.countP fun x=>x == 1 || x == -1
def twosV (v:List Int):Nat:=v.countP fun x=>x == 2 || x == -2
def nst (v:List Int):Nat->Option (Int × Int)
 | 0=>some (-1,-1)
 | i+1=>match nst v i with
  | none=>none
  | some (x,y)=>if gAt v i < -1 \/ gAt v i > 1 \/ (gAt v i ≠ 0/\0<=y) then none else some (if gAt v i ≠ 0/\x < 0 then (i:Int) else x,if gAt v i ≠ 0/\0<=x then (i:Int) else y)
def numV (v:List Int):Int:=match nst v 4 with
 | none=>-1
 | some (x,y)=>if x < 0 then -1 else if y < 0 then 2*x+(1 - gAt v x.toNat).tdiv 2 else 8+4*((x*(8 - x - 1)).tdiv 2+y - x - 1)+(1 - gAt v x.toNat).tdiv 2*2+(1 - gAt v y.toNat).tdiv 2
def halfV (v:List Int):List Int:=v.map fun x=>x.tdiv 2
def kd (v:List Int):Nat:=if onesV v=0/\twosV v=0 then 1 else if onesV v=0/\twosV v=1 then 2 else if twosV v=0/\0 < onesV v/\onesV v < 3 then 3 else 0
def folV (v:List Int) (c:Int):Int × Int:=if kd v=1/\c < 0 then (-2,0) else if kd v=2 then (numV (halfV v),c / 2) else if kd v=3 then (numV v,c) else (-1,0)
def kdT (f g:Nat):Nat:=kd (vadd f g)
def nmT (f g:Nat):Nat:=if kdT f g=2 then (numV (halfV (vadd f g))).toNat else (numV (vadd f g)).toNat
def nf (i j:Nat):Nat:=if i=j then i else if i < j then 8+4*(i / 2*(7 - i / 2) / 2+j / 2 - i / 2 - 1)+i % 2*2+j % 2 else 8+4*(j / 2*(7 - j / 2) / 2+i / 2 - j / 2 - 1)+j % 2*2+i % 2
theorem nf_ok:∀ i:Nat,i < 8->∀ j,j < 8->j ≠ opp i->nf i j < 32/\((fs (nf i j)=i/\ss (nf i j)=j) \/ (fs (nf i j)=j/\ss (nf i j)=i)):=by decide +kernel
theorem nf_self (i:Nat):nf i i=i:=if_pos rfl
theorem nf_fs:∀ f:Nat,f < 32->fs f < 8/\ss f < 8/\nf (fs f) (ss f)=f/\ss f ≠ opp (fs f)/\(f < 8->fs f=f/\ss f=f)/\(8<=f->fs f ≠ ss f):=by decide +kernel
theorem nm_ok:∀ f:Nat,f < 32->∀ g,g < 32->(kdT f g=2->numV (halfV (vadd f g))=(nmT f g:Int)/\nmT f g < 8)/\(kdT f g=3->numV (vadd f g)=(nmT f g:Int)/\nmT f g < 32):=by decide +kernel
def Tab1 (i s j:Nat):Prop:=(i ≠ s/\i ≠ opp s/\j ≠ s/\j ≠ opp s)->(j=opp i->kdT (nf i (opp s)) (nf s j)=1)/\(j=i->kdT (nf i (opp s)) (nf s j)=2/\nmT (nf i (opp s)) (nf s j)=i)/\(j ≠ i/\j ≠ opp i->kdT (nf i (opp s)) (nf s j)=3/\nmT (nf i (opp s)) (nf s j)=nf i j)
instance (i s j:Nat):Decidable (Tab1 i s j):=by unfold Tab1; infer_instance
theorem tab1:∀ i:Nat,i < 8->∀ s,s < 8->∀ j,j < 8->Tab1 i s j:=by decide +kernel
theorem tab2:∀ s:Nat,s < 8->∀ j,j < 8->(j ≠ s/\j ≠ opp s)->kdT (opp s) (nf s j)=3/\nmT (opp s) (nf s j)=j/\kdT (nf j s) (opp s)=3/\nmT (nf j s) (opp s)=j:=by decide +kernel
theorem tab3:∀ i:Nat,i < 8->∀ j,j < 8->(j=opp i->kdT i j=1)/\(j ≠ i/\j ≠ opp i->kdT i j=3/\nmT i j=nf i j):=by decide +kernel
def tabB (f g:Nat):Bool:=decide (kdT f g=0) || (decide (f < 8) && decide (g < 8) && ((decide (g=opp f) && decide (kdT f g=1)) || (decide (g=f) && decide (kdT f g=2) && decide (nmT f g=f)) || (decide (g ≠ f) && decide (g ≠ opp f) && decide (kdT f g=3) && decide (nmT f g=nf f g)))) ||
 (decide (f < 8) && decide (8<=g) && decide (kdT f g=3) && ((decide (fs g=opp f) && decide (nmT f g=ss g)) || (decide (ss g=opp f) && decide (nmT f g=fs g)))) ||
 (decide (8<=f) && decide (g < 8) && decide (kdT f g=3) && ((decide (fs f=opp g) && decide (nmT f g=ss f)) || (decide (ss f=opp g) && decide (nmT f g=fs f)))) ||
 (decide (8<=f) && decide (8<=g) && [true,false].any fun b1=>[true,false].any fun b2 =>
  decide ((if b1=true then ss f else fs f)=opp (if b2=true then fs g else ss g)) && ((decide (kdT f g=1) && decide ((if b2=true then ss g else fs g)=opp (if b1=true then fs f else ss f))) || (decide (kdT f g=2) && decide ((if b2=true then ss g else fs g)=(if b1=true then fs f else ss f)) && decide (nmT f g=if b1=true then fs f else ss f)) ||
   (decide (kdT f g=3) && decide ((if b2=true then ss g else fs g) ≠ (if b1=true then fs f else ss f)) && decide ((if b2=true then ss g else fs g) ≠ opp (if b1=true then fs f else ss f)) && decide (nmT f g=nf (if b1=true then fs f else ss f) (if b2=true then ss g else fs g)))))
theorem tab_all:∀ f:Nat,f < 32->∀ g,g < 32->tabB f g=true:=by decide +kernel
structure RdO (R R':Nat->Int):Prop where
 le:∀ f,f < 32->R' f<=R f
 zer:∀ f g,f < 32->g < 32->kdT f g=1->R f ≠ NB->R g ≠ NB->0<=R f+R g
 dou:∀ f g,f < 32->g < 32->kdT f g=2->R f ≠ NB->R g ≠ NB->R' (nmT f g)<=(R f+R g) / 2
 sum:∀ f g,f < 32->g < 32->kdT f g=3->R f ≠ NB->R g ≠ NB->R' (nmT f g)<=R f+R g
structure Un (R M:Nat->Int):Prop where
 dia:∀ i,i < 8->M (i*8+i) ≠ NB->2*R i<=M (i*8+i)
 off:∀ i j,i < 8->j < 8->i ≠ j->j ≠ opp i->M (i*8+j) ≠ NB->R (nf i j)<=M (i*8+j)
 zer:∀ i,i < 8->0<=M (i*8+opp i)
theorem Un.rd {R R' M:Nat->Int} (h:Un R M) (hr:RdO R R'):Un R' M:=by
 refine ⟨fun i hi q=>?_,fun i j hi hj h1 h2 q=>?_,h.zer⟩
 ·have:=h.dia i hi q
  have:=hr.le i (by omega)
  omega
 ·have:=h.off i j hi hj h1 h2 q
  have:=hr.le (nf i j) (nf_ok i hi j hj h2).1
  omega
theorem opp_eq {i j:Nat} (hi:i < 8) (h:j=opp i):i=opp j:=by rw [h,opp_opp i hi]
theorem Un.chain {R R' R2 M:Nat->Int} {U:Int} {s:Nat} (hs:s < 8) (hU:2*U < 1000000) (hU0:0<=U) (hB:Bd U M) (h0:M (s*8+opp s)=0) (h:Un R M) (h1:RdO R R') (h2:RdO R' R2):Un R2 (chF s M 64):=by
 have ho:=opp_lt hs
 have hoo:=opp_opp s hs
 have hne:=opp_ne s
 have hm:Un R2 M:=(h.rd h1).rd h2
 have h1s:=h.rd h1
 -- the bounds of one side,of two
 have one:∀ i,i < 8->M (i*8+i) ≠ NB->R i ≠ NB/\2*R i<=U:=by
  intro i hi q
  have a:=h.dia i hi q
  have b:=(hB (i*8+i) (by omega)).resolve_left q
  exact ⟨by unfold NB; omega,by omega⟩
 have one':∀ i,i < 8->M (i*8+i) ≠ NB->R' i ≠ NB:=by
  intro i hi q
  have a:=h1s.dia i hi q
  have b:=(hB (i*8+i) (by omega)).resolve_left q
  unfold NB
  omega
 have two:∀ i j,i < 8->j < 8->i ≠ j->j ≠ opp i->M (i*8+j) ≠ NB->R (nf i j) ≠ NB/\R (nf i j)<=U:=by
  intro i j hi hj e1 e2 q
  have a:=h.off i j hi hj e1 e2 q
  have b:=(hB (i*8+j) (by omega)).resolve_left q
  exact ⟨by unfold NB; omega,by omega⟩
 have le2:∀ f,f < 32->R2 f<=R' f:=h2.le
 -- a sum of two that are bounds
 have gen:∀ i j,i < 8->j < 8->i ≠ s->j ≠ opp s->M (i*8+opp s) ≠ NB->M (s*8+j) ≠ NB ->
   (j=opp i->0<=M (i*8+opp s)+M (s*8+j))/\(j=i->2*R2 i<=M (i*8+opp s)+M (s*8+j))/\(j ≠ i->j ≠ opp i->R2 (nf i j)<=M (i*8+opp s)+M (s*8+j)):=by
  intro i j hi hj n1 n2 f1 f2
  by_cases ei:i=opp s
  ·subst ei
   by_cases ej:j=s
   ·subst ej
    obtain ⟨a1,a2⟩:=one (opp j) ho f1
    obtain ⟨b1,b2⟩:=one j hs f2
    have a:=h.dia (opp j) ho f1
    have b:=h.dia j hs f2
    have z:=h1.zer (opp j) j (by omega) (by omega) ((tab3 (opp j) ho j hs).1 hoo.symm) a1 b1
    exact ⟨fun _=>by omega,fun e=>absurd e.symm hne,fun _ e=>absurd hoo.symm e⟩
   ·have t:=tab2 s hs j hj ⟨ej,n2⟩
    obtain ⟨a1,a2⟩:=one (opp s) ho f1
    obtain ⟨b1,b2⟩:=two s j hs hj (fun e=>ej e.symm) n2 f2
    have a:=h.dia (opp s) ho f1
    have b:=h.off s j hs hj (fun e=>ej e.symm) n2 f2
    have hnf:=(nf_ok s hs j hj n2).1
    have x:=h1.sum (opp s) (nf s j) (by omega) hnf t.1 a1 b1
    rw [t.2.1] at x
    have y1:R' j ≠ NB:=by unfold NB; omega
    have y:=h2.sum (opp s) j (by omega) (by omega) ((tab3 (opp s) ho j hj).2 ⟨n2,by rw [hoo]; exact ej⟩).1 (one' (opp s) ho f1) y1
    rw [((tab3 (opp s) ho j hj).2 ⟨n2,by rw [hoo]; exact ej⟩).2] at y
    have w:=h1.le (opp s) (by omega)
    exact ⟨fun e=>absurd (e.trans hoo) ej,fun e=>absurd e n2,fun _ _=>by omega⟩
  ·by_cases ej:j=s
   ·subst ej
    have n3:opp j ≠ opp i:=by
     intro e
     exact n1 (by rw [<- opp_opp i hi,<- e,hoo])
    have n4:i ≠ opp (opp j):=by rw [hoo]; exact n1
    have t:=tab2 (opp j) ho i hi ⟨ei,n4⟩
    rw [hoo] at t
    obtain ⟨a1,a2⟩:=two i (opp j) hi ho ei n3 f1
    obtain ⟨b1,b2⟩:=one j hs f2
    have a:=h.off i (opp j) hi ho ei n3 f1
    have b:=h.dia j hs f2
    have hnf:=(nf_ok i hi (opp j) ho n3).1
    have x:=h1.sum (nf i (opp j)) j hnf (by omega) t.2.2.1 a1 b1
    rw [t.2.2.2] at x
    have y1:R' i ≠ NB:=by unfold NB; omega
    have n5:j ≠ opp i:=by
     intro e
     exact ei (opp_eq hi e)
    have y:=h2.sum i j (by omega) (by omega) ((tab3 i hi j hj).2 ⟨fun e=>n1 e.symm,n5⟩).1 y1 (one' j hs f2)
    rw [((tab3 i hi j hj).2 ⟨fun e=>n1 e.symm,n5⟩).2] at y
    have w:=h1.le j (by omega)
    exact ⟨fun e=>absurd e n5,fun e=>absurd e.symm n1,fun _ _=>by omega⟩
   ·have t:=tab1 i hi s hs j hj ⟨n1,ei,ej,n2⟩
    have n3:opp s ≠ opp i:=by
     intro e
     exact n1 (by rw [<- opp_opp i hi,<- e,hoo])
    obtain ⟨a1,a2⟩:=two i (opp s) hi ho ei n3 f1
    obtain ⟨b1,b2⟩:=two s j hs hj (fun e=>ej e.symm) n2 f2
    have a:=h.off i (opp s) hi ho ei n3 f1
    have b:=h.off s j hs hj (fun e=>ej e.symm) n2 f2
    have g1:=(nf_ok i hi (opp s) ho n3).1
    have g2:=(nf_ok s hs j hj n2).1
    refine ⟨fun e=>?_,fun e=>?_,fun e1 e2=>?_⟩
    ·have:=h1.zer _ _ g1 g2 (t.1 e) a1 b1
     omega
    ·have x:=h1.dou _ _ g1 g2 (t.2.1 e).1 a1 b1
     rw [(t.2.1 e).2] at x
     have:=le2 i (by omega)
     omega
    ·have x:=h1.sum _ _ g1 g2 (t.2.2 ⟨e1,e2⟩).1 a1 b1
     rw [(t.2.2 ⟨e1,e2⟩).2] at x
     have:=le2 (nf i j) (nf_ok i hi j hj e2).1
     omega
 refine ⟨fun i hi q=>?_,fun i j hi hj e1 e2 q=>?_,fun i hi=>?_⟩
 ·rw [chain_at hs h0 hi hi] at q |-
  rcases mnpl q with ⟨e,z⟩ | ⟨e,z1,z2⟩
  ·rw [e]; exact hm.dia i hi z
  ·rw [e]
   by_cases x1:i=s
   ·subst x1; rw [h0]; have:=hm.dia i hi z2; omega
   ·by_cases x2:i=opp s
    ·have:=(gen i i hi hi x1)
     subst x2
     rw [hoo] at *
     have:=hm.dia (opp s) ho z1
     rw [show s*8+opp s=s*8+opp s from rfl,h0]
     omega
    ·exact (gen i i hi hi x1 x2 z1 z2).2.1 rfl
 ·rw [chain_at hs h0 hi hj] at q |-
  rcases mnpl q with ⟨e,z⟩ | ⟨e,z1,z2⟩
  ·rw [e]; exact hm.off i j hi hj e1 e2 z
  ·rw [e]
   by_cases x1:i=s
   ·subst x1; rw [h0]; have:=hm.off i j hi hj e1 e2 z2; omega
   ·by_cases x2:j=opp s
    ·subst x2; rw [h0]; have:=hm.off i (opp s) hi hj e1 e2 z1; omega
    ·exact (gen i j hi hj x1 x2 z1 z2).2.2 (fun e=>e1 e.symm) e2
 ·have hoi:=opp_lt hi
  rw [chain_at hs h0 hi hoi]
  by_cases q:mn (M (i*8+opp i)) (pl (M (i*8+opp s)) (M (s*8+opp i)))=NB
  ·rw [q]; decide
  ·rcases mnpl q with ⟨e,z⟩ | ⟨e,z1,z2⟩
   ·rw [e]; exact h.zer i hi
   ·rw [e]
    by_cases x1:i=s
    ·subst x1; rw [h0]; exact Int.le_refl _
    ·have x2:opp i ≠ opp s:=by
      intro e
      exact x1 (by rw [<- opp_opp i hi,e,hoo])
     exact (gen i (opp i) hi hoi x1 x2 z1 z2).1 rfl
end Go.Proofs.YtffajooegiempaaGreatDoor

namespace Go.Proofs.YtffajooegiempaaGreatDoor
theorem fol1 {f g:Nat} {c:Int} (h:kdT f g=1):(c < 0->folV (vadd f g) c=(-2,0))/\(¬ c < 0->folV (vadd f g) c=(-1,0)):=by
 have h':kd (vadd f g)=1:=h
 unfold folV
 rw [h']
 exact ⟨fun q=>if_pos ⟨rfl,q⟩,fun q=>by rw [if_neg (fun z=>q z.2),if_neg (by decide),if_neg (by decide)]⟩
theorem fol2 {f g:Nat} {c:Int} (hf:f < 32) (hg:g < 32) (h:kdT f g=2):folV (vadd f g) c=((nmT f g:Int),c / 2):=by
 have h':kd (vadd f g)=2:=h
 unfold folV
 rw [h',if_neg (fun z=>absurd z.1 (by decide)),if_pos rfl,((nm_ok f hf g hg).1 h).1]
theorem fol3 {f g:Nat} {c:Int} (hf:f < 32) (hg:g < 32) (h:kdT f g=3):folV (vadd f g) c=((nmT f g:Int),c):=by
 have h':kd (vadd f g)=3:=h
 unfold folV
 rw [h',if_neg (fun z=>absurd z.1 (by decide)),if_neg (by decide),if_pos rfl,((nm_ok f hf g hg).2 h).1]
theorem fol0 {f g:Nat} {c:Int} (h1:kdT f g ≠ 1) (h2:kdT f g ≠ 2) (h3:kdT f g ≠ 3):folV (vadd f g) c=(-1,0):=by
 unfold folV
 rw [if_neg (fun z=>h1 z.1),if_neg (show ¬ kd (vadd f g)=2 from h2),if_neg (show ¬ kd (vadd f g)=3 from h3)]
def rs1 (R:Nat->Int) (b:Bool) (f g:Nat):Option ((Nat->Int) × Bool) :=
 if R f=NB \/ R g=NB then some (R,b)
 else if (folV (vadd f g) (R f+R g)).1=-2 then none
 else if 0<=(folV (vadd f g) (R f+R g)).1/\(folV (vadd f g) (R f+R g)).2 < R (folV (vadd f g) (R f+R g)).1.toNat then some (upd R (folV (vadd f g) (R f+R g)).1.toNat (folV (vadd f g) (R f+R g)).2,true)
 else some (R,b)
def rF (R:Nat->Int):Nat->Option ((Nat->Int) × Bool)
 | 0=>some (R,false)
 | k+1=>match rF R k with
  | none=>none
  | some (R',b)=>rs1 R' b (k / 32) (k % 32)
inductive Rs (R:Nat->Int) (b:Bool) (f g:Nat):Option ((Nat->Int) × Bool)->Prop
 | none:R f ≠ NB->R g ≠ NB->kdT f g=1->R f+R g < 0->Rs R b f g none
 | same:(R f ≠ NB->R g ≠ NB->(kdT f g=1->0<=R f+R g)/\(kdT f g=2->R (nmT f g)<=(R f+R g) / 2)/\(kdT f g=3->R (nmT f g)<=R f+R g))->Rs R b f g (some (R,b))
 | put (n:Nat) (c:Int):R f ≠ NB->R g ≠ NB->n < 32->n=nmT f g->c < R n->(kdT f g=2/\c=(R f+R g) / 2) \/ (kdT f g=3/\c=R f+R g)->Rs R b f g (some (upd R n c,true))
theorem rs1_is (R:Nat->Int) (b:Bool) {f g:Nat} (hf:f < 32) (hg:g < 32):Rs R b f g (rs1 R b f g):=by
 unfold rs1
 by_cases q:R f=NB \/ R g=NB
 ·rw [if_pos q]
  exact .same fun h1 h2=>absurd q (fun z=>z.elim h1 h2)
 ·rw [if_neg q]
  have q1:R f ≠ NB:=fun z=>q (.inl z)
  have q2:R g ≠ NB:=fun z=>q (.inr z)
  by_cases k1:kdT f g=1
  ·by_cases c:R f+R g < 0
   ·rw [(fol1 k1).1 c,if_pos rfl]
    exact .none q1 q2 k1 c
   ·rw [(fol1 k1).2 c,if_neg (by decide),if_neg (fun z=>absurd z.1 (by decide))]
    exact .same fun _ _=>⟨fun _=>by omega,fun z=>absurd (k1.symm.trans z) (by decide),fun z=>absurd (k1.symm.trans z) (by decide)⟩
  ·by_cases k2:kdT f g=2
   ·rw [fol2 hf hg k2,if_neg (by show ¬ ((nmT f g:Nat):Int)=-2; omega)]
    show Rs R b f g (if 0<=((nmT f g:Nat):Int)/\(R f+R g) / 2 < R (((nmT f g:Nat):Int)).toNat then some (upd R (((nmT f g:Nat):Int)).toNat ((R f+R g) / 2),true) else some (R,b))
    rw [Int.toNat_natCast]
    by_cases c:(R f+R g) / 2 < R (nmT f g)
    ·rw [if_pos ⟨by omega,c⟩]
     exact .put _ _ q1 q2 (by have:=((nm_ok f hf g hg).1 k2).2; omega) rfl c (.inl ⟨k2,rfl⟩)
    ·rw [if_neg (fun z=>c z.2)]
     exact .same fun _ _=>⟨fun z=>absurd z k1,fun _=>by omega,fun z=>absurd (k2.symm.trans z) (by decide)⟩
   ·by_cases k3:kdT f g=3
    ·rw [fol3 hf hg k3,if_neg (by show ¬ ((nmT f g:Nat):Int)=-2; omega)]
     show Rs R b f g (if 0<=((nmT f g:Nat):Int)/\(R f+R g) < R (((nmT f g:Nat):Int)).toNat then some (upd R (((nmT f g:Nat):Int)).toNat (R f+R g),true) else some (R,b))
     rw [Int.toNat_natCast]
     by_cases c:R f+R g < R (nmT f g)
     ·rw [if_pos ⟨by omega,c⟩]
      exact .put _ _ q1 q2 ((nm_ok f hf g hg).2 k3).2 rfl c (.inr ⟨k3,rfl⟩)
     ·rw [if_neg (fun z=>c z.2)]
      exact .same fun _ _=>⟨fun z=>absurd z k1,fun z=>absurd (k3.symm.trans z) (by decide),fun _=>by omega⟩
    ·rw [fol0 k1 k2 k3,if_neg (by decide),if_neg (fun z=>absurd z.1 (by decide))]
     exact .same fun _ _=>⟨fun z=>absurd z k1,fun z=>absurd z k2,fun z=>absurd z k3⟩
structure RI (R:Nat->Int) (k:Nat) (R':Nat->Int) (b:Bool):Prop where
 le:∀ f,f < 32->R' f<=R f
 same:b=false->∀ f,f < 32->R' f=R f
 more:b=true->∃ f,f < 32/\R' f < R f
 done:∀ m,m < k->R (m / 32) ≠ NB->R (m % 32) ≠ NB->(kdT (m / 32) (m % 32)=1->0<=R (m / 32)+R (m % 32))/\(kdT (m / 32) (m % 32)=2->R' (nmT (m / 32) (m % 32))<=(R (m / 32)+R (m % 32)) / 2)/\(kdT (m / 32) (m % 32)=3->R' (nmT (m / 32) (m % 32))<=R (m / 32)+R (m % 32))
theorem nm_lt {f g:Nat} (hf:f < 32) (hg:g < 32) (h:kdT f g=2 \/ kdT f g=3):nmT f g < 32:=by
 rcases h with h | h
 ·have:=((nm_ok f hf g hg).1 h).2; omega
 ·exact ((nm_ok f hf g hg).2 h).2
theorem rF_inv {R:Nat->Int} (hR:∀ f,f < 32->R f<=NB):∀ k,k<=1024->∀ R' b,rF R k=some (R',b)->RI R k R' b:=by
 intro k
 induction k with
 | zero =>
  intro _ R' b h
  rw [rF] at h
  cases h
  exact ⟨fun _ _=>Int.le_refl _,fun _ _ _=>rfl,fun q=>Bool.noConfusion q,fun m hm=>by omega⟩
 | succ k ih =>
  intro hk R' b h
  rw [rF] at h
  generalize hp:rF R k=p at h
  match p,hp,h with
  | some (R1,b1),hp,h =>
   have hi:=ih (by omega) R1 b1 hp
   have hf:k / 32 < 32:=by omega
   have hg:k % 32 < 32:=by omega
   have s:=rs1_is R1 b1 hf hg
   replace h:rs1 R1 b1 (k / 32) (k % 32)=some (R',b):=h
   rw [h] at s
   have fin:∀ f,f < 32->R f ≠ NB->R1 f ≠ NB:=by
    intro f hf q
    have:=hR f hf
    have:=hi.le f hf
    omega
   cases s with
   | same hs =>
    refine ⟨hi.le,hi.same,hi.more,fun m hm q1 q2=>?_⟩
    rcases Nat.lt_or_eq_of_le (Nat.lt_succ_iff.1 hm) with e | e
    ·exact hi.done m e q1 q2
    ·subst e
     obtain ⟨a1,a2,a3⟩:=hs (fin _ hf q1) (fin _ hg q2)
     have l1:=hi.le _ hf
     have l2:=hi.le _ hg
     exact ⟨fun z=>by have:=a1 z; omega,fun z=>by have:=a2 z; omega,fun z=>by have:=a3 z; omega⟩
   | put n c q1 q2 hn en hc hk' =>
    have le':∀ f,f < 32->upd R1 n c f<=R1 f:=by
     intro f hf
     unfold upd
     split
     ·rename_i e; subst e; omega
     ·exact Int.le_refl _
    refine ⟨fun f hf=>Int.le_trans (le' f hf) (hi.le f hf),fun q=>Bool.noConfusion q,fun _=>⟨n,hn,?_⟩,fun m hm w1 w2=>?_⟩
    ·rw [upd_same]
     have:=hi.le n hn
     omega
    ·rcases Nat.lt_or_eq_of_le (Nat.lt_succ_iff.1 hm) with e | e
     ·obtain ⟨a1,a2,a3⟩:=hi.done m e w1 w2
      refine ⟨a1,fun z=>?_,fun z=>?_⟩
      ·exact Int.le_trans (le' _ (nm_lt (by omega) (by omega) (.inl z))) (a2 z)
      ·exact Int.le_trans (le' _ (nm_lt (by omega) (by omega) (.inr z))) (a3 z)
     ·subst e
      have l1:=hi.le _ hf
      have l2:=hi.le _ hg
      rw [<- en,upd_same]
      rcases hk' with ⟨k2,ec⟩ | ⟨k3,ec⟩
      ·exact ⟨fun z=>absurd (k2.symm.trans z) (by decide),fun _=>by omega,fun z=>absurd (k2.symm.trans z) (by decide)⟩
      ·exact ⟨fun z=>absurd (k3.symm.trans z) (by decide),fun z=>absurd (k3.symm.trans z) (by decide),fun _=>by omega⟩
theorem rF_rd {R R':Nat->Int} {b:Bool} (hR:∀ f,f < 32->R f<=NB) (h:rF R 1024=some (R',b)):RdO R R':=by
 have hi:=rF_inv hR 1024 (Nat.le_refl _) R' b h
 have hd:∀ f g,f < 32->g < 32->R f ≠ NB->R g ≠ NB->(kdT f g=1->0<=R f+R g)/\(kdT f g=2->R' (nmT f g)<=(R f+R g) / 2)/\(kdT f g=3->R' (nmT f g)<=R f+R g):=by
  intro f g hf hg
  have:=hi.done (f*32+g) (by omega)
  rw [show (f*32+g) / 32=f by omega,show (f*32+g) % 32=g by omega] at this
  exact this
 exact ⟨hi.le,fun f g hf hg k q1 q2=>(hd f g hf hg q1 q2).1 k,fun f g hf hg k q1 q2=>(hd f g hf hg q1 q2).2.1 k,fun f g hf hg k q1 q2=>(hd f g hf hg q1 q2).2.2 k⟩
theorem Raw.rounds {M:Nat->Int} (h:Raw M) {R:Nat->Nat->Int} (hr:∀ r,r < 16->RdO (R r) (R (r+1))) (h0:Un (R 0) M):∀ s,s<=8->Ex M s/\Un (R (2*s)) (fw M s):=by
 intro s
 induction s with
 | zero=>intro _; exact ⟨fun r hr=>by omega,h0⟩
 | succ s ih =>
  intro hs
  obtain ⟨hx,hu⟩:=ih (by omega)
  have hz:fw M s (s*8+opp s)=0:=by
   have a:=hu.zer s (by omega)
   have b:=fw_le M s (s*8+opp s)
   rw [h.zero s (by omega)] at b
   omega
  refine ⟨fun r hr=>?_,?_⟩
  ·rcases Nat.lt_or_eq_of_le (Nat.lt_succ_iff.1 hr) with e | e
   ·exact hx r e
   ·rw [e]; exact hz
  ·rw [fw,show 2*(s+1)=2*s+1+1 by omega]
   exact hu.chain (by omega) (U:=7*60000) (by decide) (by decide) (fw_bd (by decide) (by decide) h.bd h.zero s (by omega) hx) hz (hr (2*s) (by omega)) (hr (2*s+1) (by omega))
theorem Un.sharp {R R' T:Nat->Int} (hB:Bd 432000 T) (h:Un R T) (hr:RdO R R'):Un R' (ahF (rdF T 8) 64):=by
 have sh:∀ {i j:Nat},i < 8->j < 8->ShAt T (ahF (rdF T 8) 64 (i*8+j)) i j:=fun hi hj=>sh_at (U:=432000) (by omega) hB hi hj
 generalize ahF (rdF T 8) 64=C at sh |-
 have h':=h.rd hr
 have one:∀ i,i < 8->ev (T (i*8+i)) ≠ NB->R i ≠ NB/\2*R i<=ev (T (i*8+i)):=by
  intro i hi q
  obtain ⟨k1,k2⟩:=ev_fin q
  have a:=h.dia i hi k1
  have b:=(hB (i*8+i) (by omega)).resolve_left k1
  rw [k2]
  exact ⟨by unfold NB; omega,by omega⟩
 refine ⟨fun i hi q=>?_,fun i j hi hj e1 e2 q=>?_,fun i hi=>?_⟩
 ·rw [sh_dia (sh hi hi)] at q |-
  have:=(one i hi q).2
  have:=hr.le i (by omega)
  omega
 ·rcases (sh hi hj).cas with z | ⟨_,z2,z3⟩ | ⟨z1,z2,z3⟩
  ·exact absurd z q
  ·rw [z2]; exact h'.off i j hi hj e1 e2 z3
  ·obtain ⟨a1,a2⟩:=one i hi z1
   obtain ⟨b1,b2⟩:=one j hj z2
   have t:=(tab3 i hi j hj).2 ⟨fun e=>e1 e.symm,e2⟩
   have x:=hr.sum i j (by omega) (by omega) t.1 a1 b1
   rw [t.2] at x
   omega
 ·rcases (sh hi (opp_lt hi)).cas with z | ⟨_,z2,z3⟩ | ⟨z1,z2,z3⟩
  ·rw [z]; decide
  ·rw [z2]; exact h.zer i hi
  ·obtain ⟨a1,a2⟩:=one i hi z1
   obtain ⟨b1,b2⟩:=one (opp i) (opp_lt hi) z2
   have x:=hr.zer i (opp i) (by omega) (by have:=opp_lt hi; omega) ((tab3 i hi (opp i) (opp_lt hi)).1 rfl) a1 b1
   omega
theorem Raw.rounds17 {M:Nat->Int} (h:Raw M) {R:Nat->Nat->Int} (hr:∀ r,r < 17->RdO (R r) (R (r+1))) (h0:Un (R 0) M):Un (R 17) (sharp M):=by
 obtain ⟨hx,hu⟩:=h.rounds (fun r hr'=>hr r (by omega)) h0 8 (Nat.le_refl _)
 exact hu.sharp ((fw_bd (by decide) (by decide) h.bd h.zero 8 (Nat.le_refl _) hx).mono (by decide)) (hr 16 (by omega))
end Go.Proofs.YtffajooegiempaaGreatDoor

namespace Go.Proofs.YtffajooegiempaaGreatDoor
inductive Tab (f g:Nat):Prop
 | no:kdT f g=0->Tab f g
 | z11:f < 8->g < 8->g=opp f->kdT f g=1->Tab f g
 | d11:f < 8->g < 8->g=f->kdT f g=2->nmT f g=f->Tab f g
 | s11:f < 8->g < 8->g ≠ f->g ≠ opp f->kdT f g=3->nmT f g=nf f g->Tab f g
 | s12 (a b:Nat):f < 8->8<=g->kdT f g=3->(fs g=a/\ss g=b) \/ (ss g=a/\fs g=b)->a=opp f->nmT f g=b->Tab f g
 | s21 (a b:Nat):8<=f->g < 8->kdT f g=3->(fs f=a/\ss f=b) \/ (ss f=a/\fs f=b)->a=opp g->nmT f g=b->Tab f g
 | t22 (i p s j:Nat):8<=f->8<=g->(fs f=i/\ss f=p) \/ (ss f=i/\fs f=p)->(fs g=s/\ss g=j) \/ (ss g=s/\fs g=j)->p=opp s ->
   (kdT f g=1/\j=opp i) \/ (kdT f g=2/\j=i/\nmT f g=i) \/ (kdT f g=3/\j ≠ i/\j ≠ opp i/\nmT f g=nf i j)->Tab f g
theorem tab_is {f g:Nat} (hf:f < 32) (hg:g < 32):Tab f g:=by
 have h:=tab_all f hf g hg
 unfold tabB at h
 simp only [Bool.or_eq_true,Bool.and_eq_true,decide_eq_true_eq,List.any_eq_true] at h
 rcases h with (((h | ⟨⟨h1,h2⟩,h3⟩) | ⟨⟨⟨h1,h2⟩,h3⟩,h4⟩) | ⟨⟨⟨h1,h2⟩,h3⟩,h4⟩) | ⟨⟨h1,h2⟩,h3⟩
 ·exact .no h
 ·rcases h3 with (⟨e,k⟩ | ⟨⟨e,k⟩,n⟩) | ⟨⟨⟨e1,e2⟩,k⟩,n⟩
  ·exact .z11 h1 h2 e k
  ·exact .d11 h1 h2 e k n
  ·exact .s11 h1 h2 e1 e2 k n
 ·rcases h4 with ⟨e,n⟩ | ⟨e,n⟩
  ·exact .s12 (fs g) (ss g) h1 h2 h3 (.inl ⟨rfl,rfl⟩) e n
  ·exact .s12 (ss g) (fs g) h1 h2 h3 (.inr ⟨rfl,rfl⟩) e n
 ·rcases h4 with ⟨e,n⟩ | ⟨e,n⟩
  ·exact .s21 (fs f) (ss f) h1 h2 h3 (.inl ⟨rfl,rfl⟩) e n
  ·exact .s21 (ss f) (fs f) h1 h2 h3 (.inr ⟨rfl,rfl⟩) e n
 ·obtain ⟨b1,_,b2,_,e,t⟩:=h3
  refine .t22 (if b1=true then fs f else ss f) (if b1=true then ss f else fs f) (if b2=true then fs g else ss g) (if b2=true then ss g else fs g) h1 h2 ?_ ?_ e ?_
  ·cases b1
   ·exact .inr ⟨rfl,rfl⟩
   ·exact .inl ⟨rfl,rfl⟩
  ·cases b2
   ·exact .inr ⟨rfl,rfl⟩
   ·exact .inl ⟨rfl,rfl⟩
  ·rcases t with (⟨k,e⟩ | ⟨⟨k,e⟩,n⟩) | ⟨⟨⟨k,e1⟩,e2⟩,n⟩
   ·exact .inl ⟨k,e⟩
   ·exact .inr (.inl ⟨k,e,n⟩)
   ·exact .inr (.inr ⟨k,e1,e2,n⟩)
theorem TC.lo {C:Nat->Int} (h:TC C) {f:Nat} (hf:f < 8):(C (f*8+f)=NB->bd C f=NB)/\(C (f*8+f) ≠ NB->2*bd C f=C (f*8+f)/\bd C f ≠ NB):=by
 obtain ⟨_,_,_,_,e,_⟩:=nf_fs f (by omega)
 obtain ⟨e1,e2⟩:=e hf
 unfold bd
 rw [e1,e2]
 refine ⟨fun q=>?_,fun q=>?_⟩
 ·rw [if_neg (fun z=>z.2 q),q]
 ·rw [if_pos ⟨rfl,q⟩]
  have:=tdiv_even ((h.even f hf).resolve_left q)
  have:=(h.top (f*8+f) (by omega)).resolve_left q
  exact ⟨by omega,by unfold NB; omega⟩
theorem bd_hi {C:Nat->Int} (hS:Sym C) {f i j:Nat} (hf:f < 32) (h8:8<=f) (h:(fs f=i/\ss f=j) \/ (ss f=i/\fs f=j)):bd C f=C (i*8+j)/\i < 8/\j < 8:=by
 obtain ⟨l1,l2,_,_,_,e⟩:=nf_fs f hf
 unfold bd
 rw [if_neg (fun z=>e h8 z.1)]
 rcases h with ⟨a,b⟩ | ⟨a,b⟩
 ·rw [<- a,<- b]; exact ⟨rfl,l1,l2⟩
 ·rw [<- a,<- b]; exact ⟨hS _ _ l1 l2,l2,l1⟩
theorem nf_ge:∀ i:Nat,i < 8->∀ j,j < 8->(i ≠ j/\j ≠ opp i)->8<=nf i j:=by decide +kernel
theorem bd_nf {C:Nat->Int} (hS:Sym C) {i j:Nat} (hi:i < 8) (hj:j < 8) (h1:i ≠ j) (h2:j ≠ opp i):bd C (nf i j)=C (i*8+j):=by
 obtain ⟨a,b⟩:=nf_ok i hi j hj h2
 have g:=nf_ge i hi j hj ⟨h1,h2⟩
 refine (bd_hi hS (i:=i) (j:=j) a g ?_).1
 rcases b with b | b
 ·exact .inl b
 ·exact .inr ⟨b.2,b.1⟩
theorem TC.single {C:Nat->Int} (h:TC C) {i b:Nat} (hi:i < 8) (hb:b < 8) (h1:C (opp i*8+b) ≠ NB) (h2:C (i*8+i) ≠ NB):C (b*8+b) ≠ NB/\C (b*8+b)<=2*C (opp i*8+b)+C (i*8+i):=by
 have ho:=opp_lt hi
 have a:=h.tri (opp i) ho i b hi hb
 rw [opp_opp i hi] at a
 obtain ⟨a1,a2⟩:=(a.resolve_left h2).resolve_left h1
 have c:=h.tri i hi b b hb hb
 rw [h.sym b (opp i) hb ho] at c
 obtain ⟨c1,c2⟩:=(c.resolve_left h1).resolve_left a1
 exact ⟨c1,by omega⟩
theorem TC.sum {C:Nat->Int} (h:TC C) {f g:Nat} (hf:f < 32) (hg:g < 32) (q1:bd C f ≠ NB) (q2:bd C g ≠ NB) :
  (kdT f g=1->0<=bd C f+bd C g)/\(kdT f g=2->2*bd C (nmT f g)<=bd C f+bd C g)/\(kdT f g=3->bd C (nmT f g)<=bd C f+bd C g):=by
 have lo:∀ i,i < 8->bd C i ≠ NB->C (i*8+i) ≠ NB/\2*bd C i=C (i*8+i):=by
  intro i hi q
  by_cases e:C (i*8+i)=NB
  ·exact absurd ((h.lo hi).1 e) q
  ·exact ⟨e,((h.lo hi).2 e).1⟩
 cases tab_is hf hg with
 | no k=>exact ⟨fun z=>absurd (k.symm.trans z) (by decide),fun z=>absurd (k.symm.trans z) (by decide),fun z=>absurd (k.symm.trans z) (by decide)⟩
 | z11 f8 g8 e k =>
  refine ⟨fun _=>?_,fun z=>absurd (k.symm.trans z) (by decide),fun z=>absurd (k.symm.trans z) (by decide)⟩
  subst e
  obtain ⟨a1,a2⟩:=lo f f8 q1
  obtain ⟨b1,b2⟩:=lo _ g8 q2
  have:=(h.half f (opp f) f8 g8 a1 b1).2
  rw [h.zero f f8] at this
  omega
 | d11 f8 g8 e k n =>
  refine ⟨fun z=>absurd (k.symm.trans z) (by decide),fun _=>?_,fun z=>absurd (k.symm.trans z) (by decide)⟩
  rw [n,e]
  omega
 | s11 f8 g8 e1 e2 k n =>
  refine ⟨fun z=>absurd (k.symm.trans z) (by decide),fun z=>absurd (k.symm.trans z) (by decide),fun _=>?_⟩
  rw [n,bd_nf h.sym f8 g8 (fun e=>e1 e.symm) e2]
  obtain ⟨a1,a2⟩:=lo f f8 q1
  obtain ⟨b1,b2⟩:=lo _ g8 q2
  have:=(h.half f g f8 g8 a1 b1).2
  omega
 | s12 a b f8 g8 k s e n =>
  refine ⟨fun z=>absurd (k.symm.trans z) (by decide),fun z=>absurd (k.symm.trans z) (by decide),fun _=>?_⟩
  obtain ⟨x,la,lb⟩:=bd_hi h.sym hg g8 s
  rw [x] at q2 |-
  rw [n]
  subst e
  obtain ⟨a1,a2⟩:=lo f f8 q1
  obtain ⟨c1,c2⟩:=h.single f8 lb q2 a1
  have:=((h.lo lb).2 c1).1
  omega
 | s21 a b f8 g8 k s e n =>
  refine ⟨fun z=>absurd (k.symm.trans z) (by decide),fun z=>absurd (k.symm.trans z) (by decide),fun _=>?_⟩
  obtain ⟨x,la,lb⟩:=bd_hi h.sym hf f8 s
  rw [x] at q1 |-
  rw [n]
  subst e
  obtain ⟨a1,a2⟩:=lo g g8 q2
  obtain ⟨c1,c2⟩:=h.single g8 lb q1 a1
  have:=((h.lo lb).2 c1).1
  omega
 | t22 i p s j f8 g8 x y e t =>
  obtain ⟨u,li,lp⟩:=bd_hi h.sym hf f8 x
  obtain ⟨v,ls,lj⟩:=bd_hi h.sym hg g8 y
  rw [u] at q1 |-
  rw [v] at q2 |-
  subst e
  obtain ⟨c1,c2⟩:=((h.tri s ls i j li lj).resolve_left q1).resolve_left q2
  rcases t with ⟨k,e⟩ | ⟨k,e,n⟩ | ⟨k,e1,e2,n⟩
  ·refine ⟨fun _=>?_,fun z=>absurd (k.symm.trans z) (by decide),fun z=>absurd (k.symm.trans z) (by decide)⟩
   rw [e,h.zero i li] at c2
   rw [e]
   exact c2
  ·refine ⟨fun z=>absurd (k.symm.trans z) (by decide),fun _=>?_,fun z=>absurd (k.symm.trans z) (by decide)⟩
   rw [n]
   rw [e] at c1 c2 |-
   have:=((h.lo li).2 c1).1
   omega
  ·refine ⟨fun z=>absurd (k.symm.trans z) (by decide),fun z=>absurd (k.symm.trans z) (by decide),fun _=>?_⟩
   rw [n,bd_nf h.sym li lj (fun z=>e1 z.symm) e2]
   exact c2
def Ab (C R:Nat->Int):Prop:=∀ f,f < 32->bd C f<=R f
theorem rs1_ab {C R:Nat->Int} (h:TC C) (hA:Ab C R) (hR:∀ f,f < 32->R f<=NB) (b:Bool) {f g:Nat} (hf:f < 32) (hg:g < 32):∃ R' b',rs1 R b f g=some (R',b')/\Ab C R'/\∀ f,f < 32->R' f<=NB:=by
 have s:=rs1_is R b hf hg
 generalize rs1 R b f g=o at s
 have fin:∀ f,f < 32->R f ≠ NB->bd C f ≠ NB:=by
  intro f hf q
  have:=hA f hf
  have:=hR f hf
  omega
 cases s with
 | none q1 q2 k c =>
  exfalso
  have:=(h.sum hf hg (fin f hf q1) (fin g hg q2)).1 k
  have:=hA f hf
  have:=hA g hg
  omega
 | same _=>exact ⟨R,b,rfl,hA,hR⟩
 | put n c q1 q2 hn en hc hk =>
  refine ⟨upd R n c,true,rfl,fun x hx=>?_,fun x hx=>?_⟩
  ·unfold upd
   split
   ·rename_i e
    subst e
    have a1:=hA f hf
    have a2:=hA g hg
    have hs:=h.sum hf hg (fin f hf q1) (fin g hg q2)
    rw [<- en] at hs
    rcases hk with ⟨k,e⟩ | ⟨k,e⟩
    ·have:=hs.2.1 k; omega
    ·have:=hs.2.2 k; omega
   ·exact hA x hx
  ·unfold upd
   split
   ·rename_i e
    subst e
    have:=hR x hx
    omega
   ·exact hR x hx
theorem rF_ab {C R:Nat->Int} (h:TC C) (hA:Ab C R) (hR:∀ f,f < 32->R f<=NB):∀ k,k<=1024->∃ R' b',rF R k=some (R',b')/\Ab C R'/\∀ f,f < 32->R' f<=NB:=by
 intro k
 induction k with
 | zero=>intro _; exact ⟨R,false,rfl,hA,hR⟩
 | succ k ih =>
  intro hk
  obtain ⟨R1,b1,e,h1,h2⟩:=ih (by omega)
  rw [rF,e]
  exact rs1_ab h h1 h2 b1 (by omega) (by omega)
def rnd (R:Nat->Int):Option ((Nat->Int) × Bool):=rF R 1024
def itF (R:Nat->Int):Nat->Option (Nat->Int)
 | 0=>some R
 | n+1=>match itF R n with
  | none=>none
  | some R'=>(rnd R').map fun x=>x.1
theorem itF_none {R:Nat->Int} {n:Nat} (h:itF R n=none):∀ k,itF R (n+k)=none
 | 0=>h
 | k+1=>by
  show (match itF R (n+k) with | none=>none | some R'=>(rnd R').map fun x=>x.1)=none
  rw [itF_none h k]
theorem itF_succ {R R':Nat->Int} {n:Nat} (h:itF R (n+1)=some R'):∃ R1 b,itF R n=some R1/\rnd R1=some (R',b):=by
 rw [itF] at h
 cases e:itF R n with
 | none=>rw [e] at h; cases h
 | some R1 =>
  rw [e] at h
  cases e2:rnd R1 with
  | none =>
   replace h:(rnd R1).map (fun x=>x.1)=some R':=h
   rw [e2] at h; cases h
  | some x =>
   replace h:(rnd R1).map (fun x=>x.1)=some R':=h
   rw [e2] at h
   obtain ⟨R2,b⟩:=x
   have:R2=R':=Option.some.inj h
   subst this
   exact ⟨R1,b,rfl,e2⟩
theorem itF_hi {R:Nat->Int} (hR:∀ f,f < 32->R f<=NB):∀ n R',itF R n=some R'->∀ f,f < 32->R' f<=NB:=by
 intro n
 induction n with
 | zero=>intro R' h; cases h; exact hR
 | succ n ih =>
  intro R' h f hf
  obtain ⟨R1,b,e,e2⟩:=itF_succ h
  have h1:=ih R1 e
  exact Int.le_trans ((rF_inv h1 1024 (Nat.le_refl _) _ b e2).le f hf) (h1 f hf)
theorem itF_rd {R:Nat->Int} (hR:∀ f,f < 32->R f<=NB) {n:Nat} {R1 R2:Nat->Int} (h1:itF R n=some R1) (h2:itF R (n+1)=some R2):RdO R1 R2:=by
 obtain ⟨R3,b,e,e2⟩:=itF_succ h2
 rw [h1] at e
 have:R1=R3:=Option.some.inj e
 subst this
 exact rF_rd (itF_hi hR n R1 h1) e2
theorem Un.eqs {C R:Nat->Int} (hT:TC C) (h:Un R C) (hA:Ab C R) (hR:∀ f,f < 32->R f<=NB):∀ f,f < 32->R f=bd C f:=by
 intro f hf
 have a:=hA f hf
 by_cases q:bd C f=NB
 ·have:=hR f hf
  omega
 ·obtain ⟨l1,l2,e,e2,e3,e4⟩:=nf_fs f hf
  by_cases f8:f < 8
  ·have q':C (f*8+f) ≠ NB:=fun z=>q ((hT.lo f8).1 z)
   have:=h.dia f f8 q'
   have:=((hT.lo f8).2 q').1
   omega
  ·have b:=bd_hi hT.sym hf (by omega) (.inl ⟨rfl,rfl⟩)
   rw [b.1] at q a |-
   have:=h.off (fs f) (ss f) l1 l2 (e4 (by omega)) e2 q
   rw [e] at this
   omega
theorem itF_ab {C R:Nat->Int} (h:TC C) (hR:∀ f,f < 32->R f<=NB) (hA:Ab C R):∀ n,∃ R',itF R n=some R'/\Ab C R'/\∀ f,f < 32->R' f<=NB:=by
 intro n
 induction n with
 | zero=>exact ⟨R,rfl,hA,hR⟩
 | succ n ih =>
  obtain ⟨R1,e,h1,h2⟩:=ih
  obtain ⟨R2,b,e2,h3,h4⟩:=rF_ab h h1 h2 1024 (Nat.le_refl _)
  exact ⟨R2,by rw [itF,e]; show (rnd R1).map _=_; rw [show rnd R1=some (R2,b) from e2]; rfl,h3,h4⟩
theorem RdO.un {M R:Nat->Int} (h:Raw M) (hr:RdO R R) (h0:Un R M):Un R (sharp M):=h.rounds17 (R:=fun _=>R) (fun _ _=>hr) h0
end Go.Proofs.YtffajooegiempaaGreatDoor

namespace Go.Proofs.YtffajooegiempaaGreatDoor
theorem lay_nf (l:List Int) {i j:Nat} (hi:i < 8) (hj:j < 8) (h:j ≠ opp i):lay l 32 (i*8+j)=bv l (nf i j):=by
 obtain ⟨a,b⟩:=nf_ok i hi j hj h
 have c:=lay_form l (nf i j) a
 rcases b with ⟨b1,b2⟩ | ⟨b1,b2⟩
 ·rw [b1,b2] at c; exact c.1
 ·rw [b1,b2] at c; exact c.2
theorem bv_lo (l:List Int) {i:Nat} (hi:i < 8):(l.getD i 0=NB->bv l i=NB)/\(l.getD i 0 ≠ NB->bv l i=2*l.getD i 0):=by
 obtain ⟨_,_,_,_,e,_⟩:=nf_fs i (by omega)
 obtain ⟨e1,e2⟩:=e hi
 unfold bv
 rw [e1,e2]
 exact ⟨fun q=>by rw [if_neg (fun z=>z.2 q),q],fun q=>if_pos ⟨rfl,q⟩⟩
theorem bv_hi (l:List Int) {i j:Nat} (hi:i < 8) (hj:j < 8) (h1:i ≠ j) (h2:j ≠ opp i):bv l (nf i j)=l.getD (nf i j) 0:=by
 obtain ⟨_,_,_,_,_,e⟩:=nf_fs (nf i j) (nf_ok i hi j hj h2).1
 unfold bv
 rw [if_neg (fun z=>e (nf_ge i hi j hj ⟨h1,h2⟩) z.1)]
theorem isB_or {n:Int} (h:isB n=true):n=NB \/ (-4000<=n/\n<=4000):=of_decide_eq_true h
theorem bd_lay {l:List Int} (hl:okL l):Bd 8000 (lay l 32):=by
 have hz:=lay_opp l
 intro a ha
 have hi:a / 8 < 8:=by omega
 have hj:a % 8 < 8:=by omega
 rw [show a=a / 8*8+a % 8 by omega]
 generalize a / 8=i at hi
 generalize a % 8=j at hj
 by_cases e:j=opp i
 ·rw [e,hz i hi]; exact .inr (by decide)
 ·by_cases hn:i=j
  ·subst hn
   have q:=isB_or (hl.2 i (by omega))
   rw [lay_nf l hi hi (fun e=>opp_ne i e.symm),nf_self]
   have b:=bv_lo l hi
   by_cases e:l.getD i 0=NB
   ·exact .inl (b.1 e)
   ·rw [b.2 e]
    have:=q.resolve_left e
    exact .inr (by omega)
  ·have q:=isB_or (hl.2 (nf i j) (nf_ok i hi j hj e).1)
   rw [lay_nf l hi hj e,bv_hi l hi hj hn e]
   rcases q with q | q
   ·exact .inl q
   ·exact .inr (by omega)
theorem raw_lay {l:List Int} (hl:okL l):Raw (lay l 32):=by
 have hz:=lay_opp l
 refine ⟨(bd_lay hl).mono (by decide),fun i j hi hj=>?_,hz⟩
 by_cases e:j=opp i
 ·rw [e,hz i hi]
  have:=hz (opp i) (opp_lt hi)
  rw [opp_opp i hi] at this
  exact this.symm
 ·obtain ⟨a,b⟩:=nf_ok i hi j hj e
  have c:=lay_form l (nf i j) a
  rcases b with ⟨b1,b2⟩ | ⟨b1,b2⟩
  ·rw [b1,b2] at c; rw [c.1,c.2]
  ·rw [b1,b2] at c; rw [c.1,c.2]
theorem un_lay (l:List Int):Un (fun f=>l.getD f 0) (lay l 32):=by
 refine ⟨fun i hi q=>?_,fun i j hi hj h1 h2 _=>?_,fun i hi=>?_⟩
 ·rw [lay_nf l hi hi (fun e=>opp_ne i e.symm),nf_self] at q |-
  have b:=bv_lo l hi
  by_cases e:l.getD i 0=NB
  ·exact absurd (b.1 e) q
  ·rw [b.2 e]; exact Int.le_refl _
 ·rw [lay_nf l hi hj h2,bv_hi l hi hj h1 h2]
  exact Int.le_refl _
 ·rw [lay_opp l i hi]; exact Int.le_refl _
theorem ab_lay {l:List Int} (hl:okL l):Ab (sharp (lay l 32)) (fun f=>l.getD f 0):=fun f hf=>bd_le hl.2 (fun k=>sharp_le _ k) f hf
theorem hi_lay {l:List Int} (hl:okL l):∀ f,f < 32->(fun f=>l.getD f 0) f<=NB:=by
 intro f hf
 show l.getD f 0<=NB
 rcases isB_or (hl.2 f hf) with q | q
 ·omega
 ·unfold NB; omega
theorem doc_some {l:List Int} (hl:okL l) (he:ovE l=false) (n:Nat):∃ R',itF (fun f=>l.getD f 0) n=some R'/\Ab (ovM l) R'/\∀ f,f < 32->R' f<=NB:=itF_ab ((raw_lay hl).tc he) (hi_lay hl) (ab_lay hl) n
theorem doc_done {l:List Int} (hl:okL l) {n:Nat} {R R':Nat->Int} (h:itF (fun f=>l.getD f 0) n=some R) (h2:rnd R=some (R',false)):ovE l=false/\∀ f,f < 32->R' f=bd (ovM l) f:=by
 have hiR:=itF_hi (hi_lay hl) n R h
 have hI:=rF_inv hiR 1024 (Nat.le_refl _) R' false h2
 have hs:=hI.same rfl
 have hd:=rF_rd hiR h2
 have hrd:RdO R R:=⟨fun f _=>Int.le_refl _,hd.zer,fun f g hf hg k q1 q2=>by rw [<- hs _ (nm_lt hf hg (.inl k))]; exact hd.dou f g hf hg k q1 q2,fun f g hf hg k q1 q2=>by rw [<- hs _ (nm_lt hf hg (.inr k))]; exact hd.sum f g hf hg k q1 q2⟩
 have hle:∀ m R1,itF (fun f=>l.getD f 0) m=some R1->∀ f,f < 32->R1 f<=l.getD f 0:=by
  intro m
  induction m with
  | zero=>intro R1 e f _; cases e; exact Int.le_refl _
  | succ m ih =>
   intro R1 e f hf
   obtain ⟨R0,b,e1,e2⟩:=itF_succ e
   have hi0:=itF_hi (hi_lay hl) m R0 e1
   exact Int.le_trans ((rF_inv hi0 1024 (Nat.le_refl _) _ b e2).le f hf) (ih R0 e1 f hf)
 have h0:Un R (lay l 32):=by
  have u:=un_lay l
  refine ⟨fun i hi q=>?_,fun i j hi hj h1 h2' q=>?_,u.zer⟩
  ·have a:=u.dia i hi q
   have b:=hle n R h i (by omega)
   have a':2*l.getD i 0<=lay l 32 (i*8+i):=a
   omega
  ·have a:l.getD (nf i j) 0<=lay l 32 (i*8+j):=u.off i j hi hj h1 h2' q
   have b:=hle n R h (nf i j) (nf_ok i hi j hj h2').1
   omega
 have hu:=hrd.un (raw_lay hl) h0
 cases he:ovE l with
 | true =>
  obtain ⟨i,hi,q⟩:=conF_true he
  have:0<=ovM l (i*8+opp i):=hu.zer i hi
  omega
 | false =>
  obtain ⟨R1,e,a,hi⟩:=doc_some hl he n
  have:R1=R:=Option.some.inj (e.symm.trans h)
  subst this
  refine ⟨rfl,fun f hf=>?_⟩
  rw [hs f hf]
  exact hu.eqs ((raw_lay hl).tc he) a hi f hf
end Go.Proofs.YtffajooegiempaaGreatDoor

