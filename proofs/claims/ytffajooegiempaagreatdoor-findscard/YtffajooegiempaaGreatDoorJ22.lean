import Derived.Test.YtffajooegiempaaGreatDoorJ21
set_option maxRecDepth 100000
set_option maxHeartbeats 6400000
namespace Go.Proofs.YtffajooegiempaaGreatDoor
variable {F:List Ds} {S:List St}
theorem getD_some {α:Type} {l:List α} {i:Nat} {x d:α} (h:l[i]?=some x):l.getD i d=x:=by rw [List.getD_eq_getElem?_getD,h]; rfl
theorem firstGo_hit {p b fr:Int}:∀ (l:List Ds) (i j:Nat) (x:Ds),l[j]?=some x->fr<=((i+j:Nat):Int)->x.parent=p->x.block=b->(∀ k y,k < j->l[k]?=some y->fr<=((i+k:Nat):Int)->¬ (y.parent=p/\y.block=b))->firstGo p b fr l i=((i+j:Nat):Int):=by
 intro l
 induction l with
 | nil=>intro i j x h; simp at h
 | cons y l ih =>
  intro i j x h hf hp hb hno
  cases j with
  | zero =>
   simp at h
   subst h
   simp only [firstGo]
   rw [if_pos ⟨by simpa using hf,hp,hb⟩]; rfl
  | succ j =>
   simp only [firstGo]
   rw [if_neg (by
    rintro ⟨h1,h2⟩
    exact hno 0 y (by omega) rfl (by simpa using h1) h2)]
   rw [ih (i+1) j x (by simpa using h) (by rw [show i+1+j=i+(j+1) by omega]; exact hf) hp hb (fun k z hk hz hfk=>hno (k+1) z (by omega) (by simpa using hz) (by rw [show i+(k+1)=i+1+k by omega]; exact hfk))]
   rw [show i+1+j=i+(j+1) by omega]
theorem firstGo_miss {p b fr:Int}:∀ (l:List Ds) (i:Nat),(∀ k y,l[k]?=some y->fr<=((i+k:Nat):Int)->¬ (y.parent=p/\y.block=b))->firstGo p b fr l i=-1:=by
 intro l
 induction l with
 | nil=>intro i _; rfl
 | cons y l ih =>
  intro i hno
  simp only [firstGo]
  rw [if_neg (by
   rintro ⟨h1,h2⟩
   exact hno 0 y rfl (by simpa using h1) h2)]
  exact ih (i+1) (fun k z hz hfk=>hno (k+1) z (by simpa using hz) (by rw [show i+(k+1)=i+1+k by omega]; exact hfk))
theorem lastOpen_hit {i q:Nat}:∀ (k:Nat),q < k->i < (S.getD q noSt).fin->(∀ j,q < j->j < k->(S.getD j noSt).fin<=i)->lastOpen S i k=q:=by
 intro k
 induction k with
 | zero=>intro h; omega
 | succ k ih =>
  intro h1 h2 h3
  unfold lastOpen
  by_cases e:q=k
  ·subst e; rw [if_pos h2]
  ·rw [if_neg (by have:=h3 k (by omega) (by omega); omega)]
   exact ih (by omega) h2 (fun j hj hjk=>h3 j hj (by omega))
theorem lastOpen_miss {i:Nat}:∀ (k:Nat),(∀ j,j < k->(S.getD j noSt).fin<=i)->lastOpen S i k=-1:=by
 intro k
 induction k with
 | zero=>intro _; rfl
 | succ k ih =>
  intro h
  unfold lastOpen
  rw [if_neg (by have:=h k (by omega); omega)]
  exact ih (fun j hj=>h j (by omega))
theorem StmOk.par {g:Nat} {p b:Int} {a e:Nat} (h:StmOk F S (Blk F S g) p b a e) (j:Nat) (h1:a < j) (h2:j < e):∃ x,F[j]?=some x/\(a:Int)<=x.parent:=by
 obtain ⟨x,u,hx,hu,hp,hb,hf,hae,hk⟩:=h
 rcases hk with ⟨_,hk⟩ | ⟨_,hk⟩ | ⟨_,q1,q2,hk1,hk2⟩
 ·omega
 ·obtain ⟨y,hy,h3⟩:=hk.par j (by omega) h2
  exact ⟨y,hy,by rcases h3 with ⟨h3,_⟩ | h3 <;> omega⟩
 ·by_cases hjq:j < u.mid
  ·obtain ⟨y,hy,h3⟩:=hk1.par j (by omega) hjq
   exact ⟨y,hy,by rcases h3 with ⟨h3,_⟩ | h3 <;> omega⟩
  ·obtain ⟨y,hy,h3⟩:=hk2.par j (by omega) h2
   exact ⟨y,hy,by rcases h3 with ⟨h3,_⟩ | h3 <;> omega⟩
theorem Ctx.det {p b:Int} {a c a' c':Nat} (h:Ctx F S p b a c) (k:Ctx F S p b a' c'):a=a'/\c=c':=by
 rcases h with ⟨h1,h2,h3,h4⟩ | ⟨q,x,u,h1,hx,hu,h2⟩
 ·rcases k with ⟨k1,k2,k3,k4⟩ | ⟨q',x',u',k1,kx,ku,k2⟩
  ·exact ⟨by omega,by omega⟩
  ·omega
 ·rcases k with ⟨k1,k2,k3,k4⟩ | ⟨q',x',u',k1,kx,ku,k2⟩
  ·omega
  ·have e:q=q':=by omega
   subst e
   rw [hx] at kx
   rw [hu] at ku
   cases kx
   cases ku
   rcases h2 with h2 | h2 | h2 <;> rcases k2 with k2 | k2 | k2 <;> omega
theorem Whole.at_ (h:Whole F S) (i:Nat) (hi:i < F.length):∃ x u a0 c0 g,F[i]?=some x/\S[i]?=some u/\Cor x u/\a0<=i/\i < u.fin/\u.fin<=c0/\Ctx F S x.parent x.block a0 c0 /\
  StmOk F S (Blk F S g) x.parent x.block i u.fin/\Blk F S g x.parent x.block u.fin c0/\(∀ k,a0<=k->k < i->(S.getD k noSt).fin<=i):=by
 obtain ⟨x,a0,c0,hx,ha,hc,hC,g,hg⟩:=h.pos i hi
 obtain ⟨h1,g',e,he,hs,hr⟩:=hg.at_ hC.lt i x ha hc hx rfl
 obtain ⟨y,u,hy,hu,hp,hb,hf,hae,hk⟩:=hs
 rw [hx] at hy
 cases hy
 subst hf
 exact ⟨x,u,a0,c0,g',hx,hu,h.1.cor i x u hx hu,ha,hae,he,hC,⟨x,u,hx,hu,hp,hb,rfl,hae,hk⟩,hr,fun k hk1 hk2=>by
  obtain ⟨v,hv,hvf⟩:=h1 k hk1 hk2
  rw [getD_some hv]; exact hvf⟩
theorem Whole.first (h:Whole F S) {i:Nat} {x:Ds} {u:St} {a0 c0 g:Nat} (_hx:F[i]?=some x) (ha:a0<=i) (hfc:u.fin<=c0) (hif:i < u.fin) (hC:Ctx F S x.parent x.block a0 c0) (hs:StmOk F S (Blk F S g) x.parent x.block i u.fin) (hr:Blk F S g x.parent x.block u.fin c0) :
  firstP F x.parent x.block (i+1)=if u.fin < c0 then (u.fin:Int) else -1:=by
 have hplt:=hC.lt
 have hin:∀ k y,i < k->k < u.fin->F[k]?=some y->¬ (y.parent=x.parent/\y.block=x.block):=by
  rintro k y h1 h2 hy ⟨h3,_⟩
  obtain ⟨z,hz,h4⟩:=hs.par k h1 h2
  rw [hy] at hz
  cases hz
  omega
 by_cases hlt:u.fin < c0
 ·rw [if_pos hlt]
  obtain ⟨y,hy,hyp⟩:∃ y,F[u.fin]?=some y/\y.parent=x.parent/\y.block=x.block:=by
   cases g with
   | zero=>have h':u.fin=c0:=hr; omega
   | succ g =>
    rcases hr with hr | ⟨e,he,hs2,_⟩
    ·omega
    ·obtain ⟨y,v,hy,_,hp,hb,_⟩:=hs2
     exact ⟨y,hy,hp,hb⟩
  have:=firstGo_hit (p:=x.parent) (b:=x.block) (fr:=(i:Int)+1) F 0 u.fin y hy (by omega) hyp.1 hyp.2 (fun k z hk hz hf=>hin k z (by omega) hk hz)
  rw [Nat.zero_add] at this
  exact this
 ·rw [if_neg hlt]
  refine firstGo_miss F 0 (fun k y hy hf hm=>?_)
  have hk:k < F.length:=by
   rcases Nat.lt_or_ge k F.length with h' | h'
   ·exact h'
   ·simp [List.getElem?_eq_none h'] at hy
  obtain ⟨z,a1,c1,hz,_,hkc,hC1,_⟩:=h.pos k hk
  rw [hy] at hz
  cases hz
  rw [hm.1,hm.2] at hC1
  have:=hC.det hC1
  exact hin k y (by omega) (by omega) hy hm
theorem Whole.open_ (h:Whole F S) {i:Nat} (_hi:i < F.length) {x:Ds} {a0 c0:Nat} (hC:Ctx F S x.parent x.block a0 c0) (hic:i < c0) (hai:a0<=i) (hk:∀ k,a0<=k->k < i->(S.getD k noSt).fin<=i):lastOpen S i i=x.parent:=by
 rcases hC with ⟨h1,h2,h3,h4⟩ | ⟨q,y,v,h1,hy,hv,h2⟩
 ·rw [h1]; exact lastOpen_miss i (fun j hj=>hk j (by omega) hj)
 ·rw [h1]
  have hq:q < F.length:=by
   rcases Nat.lt_or_ge q F.length with h' | h'
   ·exact h'
   ·simp [List.getElem?_eq_none h'] at hy
  have hvD:S.getD q noSt=v:=getD_some hv
  obtain ⟨y',v',a1,c1,g1,hy',hv',_,_,hq1,_,_,hs,_,_⟩:=h.at_ q hq
  rw [hy] at hy'
  rw [hv] at hv'
  cases hy'
  cases hv'
  refine lastOpen_hit i (by rcases h2 with h2 | h2 | h2 <;> omega) (by rw [hvD]; rcases h2 with h2 | h2 | h2 <;> omega) (fun j hj1 hj2=>?_)
  by_cases hja:a0<=j
  ·exact hk j hja hj2
  ·obtain ⟨y2,v2,hy2,hv2,_,_,_,_,hkk⟩:=hs
   rw [hy] at hy2
   rw [hv] at hv2
   cases hy2
   cases hv2
   rcases hkk with ⟨hk0,_⟩ | ⟨hk3,_⟩ | ⟨_,q1,q2,hk1,_⟩
   ·rcases h2 with h2 | h2 | h2 <;> omega
   ·rcases h2 with h2 | h2 | h2 <;> omega
   ·have hjm:j < v.mid:=by rcases h2 with h2 | h2 | h2 <;> omega
    obtain ⟨t,ht,_,htf⟩:=hk1.fins j (by omega) hjm
    rw [getD_some ht]
    rcases h2 with h2 | h2 | h2 <;> omega
theorem follow_same (h:Whole F S):∀ (n i:Nat),i < F.length->i < n->followP F n i=followR S n i:=by
 intro n
 induction n with
 | zero=>intro i _ hi; omega
 | succ n ih =>
  intro i hi hn
  obtain ⟨x,u,a0,c0,g,hx,hu,hcor,ha,hif,hfc,hC,hs,hr,hk⟩:=h.at_ i hi
  have hxD:F.getD i (newDs 0 0)=x:=getD_some hx
  have huD:S.getD i noSt=u:=getD_some hu
  have hfirst:=h.first hx ha hfc hif hC hs hr
  have hopen:=h.open_ hi hC (by omega) ha hk
  have e1:followP F (n+1) i=if firstP F x.parent x.block (i+1) ≠ -1 then firstP F x.parent x.block (i+1) else if isRepP F x.parent=true then x.parent else followP F n x.parent:=by
   rw [followP,if_neg (by omega)]
   simp only [Int.toNat_natCast]
   rw [hxD]
  have e2:followR S (n+1) i=if x.parent < 0 then (u.fin:Int) else if u.fin < endOf (S.getD x.parent.toNat noSt) i then (u.fin:Int) else if (S.getD x.parent.toNat noSt).kind=64 then x.parent else followR S n x.parent.toNat:=by
   rw [followR,hopen,huD]
  rw [e1,e2,hfirst]
  rcases hC with ⟨h1,h2,h3,h4⟩ | ⟨q,y,v,h1,hy,hv,h2⟩
  ·rw [h1,if_pos (by decide:(-1:Int) < 0)]
   by_cases hlt:u.fin < c0
   ·rw [if_pos hlt,if_pos (show ((u.fin:Int) ≠ -1) by omega)]
   ·rw [if_neg hlt,if_neg (show ¬ ((-1:Int) ≠ -1) by decide),if_neg (show ¬ (isRepP F (-1)=true) by simp [isRepP])]
    cases n with
    | zero=>show (F.length:Int)=_; omega
    | succ n=>rw [followP,if_pos (.inl (by decide))]; omega
  ·have hyD:F.getD q (newDs 0 0)=y:=getD_some hy
   have hvD:S.getD q noSt=v:=getD_some hv
   have hq:q < F.length:=by
    rcases Nat.lt_or_ge q F.length with h' | h'
    ·exact h'
    ·simp [List.getElem?_eq_none h'] at hy
   have hcor2:=h.1.cor q y v hy hv
   rw [h1,if_neg (show ¬ ((q:Int) < 0) by omega)]
   simp only [Int.toNat_natCast]
   rw [hvD]
   have hend:endOf v i=c0:=by
    unfold endOf
    rcases h2 with ⟨k3,_,_,hc⟩ | ⟨k2,_,_,hc,_⟩ | ⟨k2,_,hm,hc,_⟩
    ·rw [if_neg (by rw [hcor2.1,k3]; rintro ⟨e,_⟩; exact absurd e (by decide))]; exact hc.symm
    ·rw [if_pos ⟨by rw [hcor2.1,k2]; rfl,by omega⟩]; exact hc.symm
    ·rw [if_neg (by omega)]; exact hc.symm
   rw [hend]
   by_cases hlt:u.fin < c0
   ·rw [if_pos hlt,if_pos (show ((u.fin:Int) ≠ -1) by omega),if_pos hlt]
   ·rw [if_neg hlt,if_neg (show ¬ ((-1:Int) ≠ -1) by decide),if_neg hlt]
    have hqi:q < i:=by rcases h2 with h2 | h2 | h2 <;> omega
    have hrep:isRepP F q=decide (y.kind=3):=by
     have e:(F.getD ((q:Int)).toNat (newDs 0 0)).kind=y.kind:=by rw [Int.toNat_natCast,hyD]
     unfold isRepP
     simp only [e]
     rw [decide_eq_true (show (0:Int)<=q by omega),decide_eq_true (show (q:Int) < F.length by omega)]
     rfl
    have hkind:v.kind=64 ↔ y.kind=3:=by
     rw [hcor2.1]
     rcases h2 with h2 | h2 | h2
     ·rw [h2.1]; decide
     ·rw [h2.1]; decide
     ·rw [h2.1]; decide
    rw [hrep]
    by_cases hk3:y.kind=3
    ·rw [if_pos (by simp [hk3]),if_pos (hkind.2 hk3)]
    ·rw [if_neg (by simp [hk3]),if_neg (fun e=>hk3 (hkind.1 e))]
     exact ih q hq (by omega)
end Go.Proofs.YtffajooegiempaaGreatDoor

namespace Go.Proofs.YtffajooegiempaaGreatDoor
variable {F:List Ds} {S:List St}
theorem Whole.par (h:Whole F S) (k:Nat) (x:Ds) (hx:F[k]?=some x):-1<=x.parent/\x.parent < (k:Int):=by
 have hk:k < F.length:=by
  rcases Nat.lt_or_ge k F.length with h' | h'
  ·exact h'
  ·simp [List.getElem?_eq_none h'] at hx
 obtain ⟨y,a0,c0,hy,ha,_,hC,_⟩:=h.pos k hk
 rw [hx] at hy
 cases hy
 have hlt:=hC.lt
 rcases hC with ⟨h1,_⟩ | ⟨q,_,_,h1,_⟩ <;> omega
theorem Whole.inner (h:Whole F S) {i:Nat} {b:Int} {a c g:Nat} (hC:Ctx F S i b a c) (hB:Blk F S g i b a c):firstP F i b ((i:Int)+1)=if a < c then (a:Int) else -1:=by
 have hia:(i:Int) < a:=hC.lt
 have hno:∀ (k:Nat) (y:Ds),F[k]?=some y->y.parent=(i:Int)->y.block=b->a<=k/\k < c:=by
  intro k y hy hp hb
  have hk:k < F.length:=by
   rcases Nat.lt_or_ge k F.length with h' | h'
   ·exact h'
   ·simp [List.getElem?_eq_none h'] at hy
  obtain ⟨z,a1,c1,hz,h1,h2,hC1,_⟩:=h.pos k hk
  rw [hy] at hz
  cases hz
  rw [hp,hb] at hC1
  have:=hC.det hC1
  omega
 by_cases hlt:a < c
 ·rw [if_pos hlt]
  obtain ⟨y,hy,hyp⟩:∃ y,F[a]?=some y/\y.parent=i/\y.block=b:=by
   cases g with
   | zero=>have h':a=c:=hB; omega
   | succ g =>
    rcases hB with hB | ⟨e,he,hs2,_⟩
    ·omega
    ·obtain ⟨y,v,hy,_,hp,hb,_⟩:=hs2
     exact ⟨y,hy,hp,hb⟩
  have:=firstGo_hit (p:=i) (b:=b) (fr:=(i:Int)+1) F 0 a y hy (by omega) hyp.1 hyp.2 (fun k z hk hz _ hm=>by have:=hno k z hz hm.1 hm.2; omega)
  rw [Nat.zero_add] at this
  exact this
 ·rw [if_neg hlt]
  refine firstGo_miss F 0 (fun k y hy _ hm=>?_)
  have:=hno k y hy hm.1 hm.2
  omega
theorem next_same (h:Whole F S) (hl:F.length<=20) (k:Nat) (hk:k < F.length) (way:Int) :
  nextP F k way=if way < 0 \/ waysR (S.getD k noSt)<=way then (0,2) else (nextR S k way,0):=by
 obtain ⟨x,u,a0,c0,g,hx,hu,hcor,ha,hif,hfc,hC,hs,hr,hkk⟩:=h.at_ k hk
 have hxD:F.getD k (newDs 0 0)=x:=getD_some hx
 have huD:S.getD k noSt=u:=getD_some hu
 have hfol:=follow_same h 21 k hk (by omega)
 have e1:nextP F k way=if way < 0 \/ waysP x.kind<=way then (0,2) else if blocksOf x.kind<=way then (followP F 21 k,0) else if firstP F k way ((k:Int)+1) ≠ -1 then (firstP F k way ((k:Int)+1),0) else if x.kind=3 then ((k:Int),0) else (followP F 21 k,0):=by
  unfold nextP
  rw [if_neg (by omega),Int.toNat_natCast,hxD]
 have e2:nextR S k way=if u.kind=61 \/ u.kind=33 \/ (u.kind=64/\way=1) then followR S 21 k else if u.kind=64/\u.fin=k+1 then (k:Int) else if u.kind=64 then (k:Int)+1 else if way=0/\k+1 < u.mid then (k:Int)+1 else if way=1/\u.mid < u.fin then (u.mid:Int) else followR S 21 k:=by
  unfold nextR
  simp only [huD]
 rw [e1,huD,e2,hfol]
 obtain ⟨x',u',hx',hu',_,_,_,_,hkd⟩:=hs
 rw [hx] at hx'
 rw [hu] at hu'
 cases hx'
 cases hu'
 have hkind:=hcor.1
 rcases hkd with ⟨hk01,_⟩ | ⟨hk3,hB⟩ | ⟨hk2,q1,q2,hB1,hB2⟩
 ·have hu61:u.kind=61 \/ u.kind=33:=by
   rcases hk01 with e | e
   ·left; rw [hkind,e]; rfl
   ·right; rw [hkind,e]; rfl
  have hw:waysP x.kind=1/\waysR u=1/\blocksOf x.kind=0:=by
   refine ⟨?_,?_,?_⟩
   ·rcases hk01 with e | e <;> rw [e] <;> decide
   ·unfold waysR; rw [if_pos hu61]
   ·rcases hk01 with e | e <;> rw [e] <;> decide
  rw [hw.1,hw.2.1,hw.2.2]
  by_cases hbad:way < 0 \/ (1:Int)<=way
  ·rw [if_pos hbad,if_pos hbad]
  ·rw [if_neg hbad,if_neg hbad,if_pos (show (0:Int)<=way by omega),if_pos (show u.kind=61 \/ u.kind=33 \/ (u.kind=64/\way=1) from hu61.elim .inl (fun e=>.inr (.inl e)))]
 ·have hu64:u.kind=64:=by rw [hkind,hk3]; rfl
  have hw:waysP x.kind=2/\waysR u=2/\blocksOf x.kind=1:=by
   refine ⟨by rw [hk3]; decide,?_,by rw [hk3]; decide⟩
   unfold waysR; rw [hu64]; decide
  rw [hw.1,hw.2.1,hw.2.2]
  by_cases hbad:way < 0 \/ (2:Int)<=way
  ·rw [if_pos hbad,if_pos hbad]
  ·rw [if_neg hbad,if_neg hbad]
   have hin:=h.inner (b:=0) (.inr ⟨k,x,u,rfl,hx,hu,.inl ⟨hk3,rfl,rfl,rfl⟩⟩) hB
   by_cases w1:way=1
   ·rw [if_pos (show (1:Int)<=way by omega),if_pos (show u.kind=61 \/ u.kind=33 \/ (u.kind=64/\way=1) from .inr (.inr ⟨hu64,w1⟩))]
   ·have w0:way=0:=by omega
    subst w0
    rw [if_neg (show ¬ (1:Int)<=0 by decide),hin,if_neg (show ¬ (u.kind=61 \/ u.kind=33 \/ (u.kind=64/\(0:Int)=1)) by rw [hu64]; decide)]
    by_cases hlt:k+1 < u.fin
    ·rw [if_pos hlt,if_pos (show ((k+1:Nat):Int) ≠ -1 by omega),if_neg (show ¬ (u.kind=64/\u.fin=k+1) by omega),if_pos hu64]
     rfl
    ·rw [if_neg hlt,if_neg (show ¬ ((-1:Int) ≠ -1) by decide),if_pos hk3,if_pos (show u.kind=64/\u.fin=k+1 from ⟨hu64,by omega⟩)]
 ·have hu63:u.kind=63:=by rw [hkind,hk2]; rfl
  have hw:waysP x.kind=2/\waysR u=2/\blocksOf x.kind=2:=by
   refine ⟨by rw [hk2]; decide,?_,by rw [hk2]; decide⟩
   unfold waysR; rw [hu63]; decide
  rw [hw.1,hw.2.1,hw.2.2]
  by_cases hbad:way < 0 \/ (2:Int)<=way
  ·rw [if_pos hbad,if_pos hbad]
  ·rw [if_neg hbad,if_neg hbad,if_neg (show ¬ (2:Int)<=way by omega)]
   have n1:¬ (u.kind=61 \/ u.kind=33 \/ (u.kind=64/\way=1)):=by omega
   have n2:¬ (u.kind=64/\u.fin=k+1):=by omega
   have n3:¬ u.kind=64:=by omega
   have n4:¬ x.kind=3:=by omega
   rw [if_neg n1,if_neg n2,if_neg n3]
   have hin0:=h.inner (b:=0) (.inr ⟨k,x,u,rfl,hx,hu,.inr (.inl ⟨hk2,rfl,rfl,rfl,q2⟩)⟩) hB1
   have hin1:=h.inner (b:=1) (.inr ⟨k,x,u,rfl,hx,hu,.inr (.inr ⟨hk2,rfl,rfl,rfl,q1⟩)⟩) hB2
   by_cases w0:way=0
   ·subst w0
    rw [hin0]
    by_cases hlt:k+1 < u.mid
    ·rw [if_pos hlt,if_pos (show ((k+1:Nat):Int) ≠ -1 by omega),if_pos (show (0:Int)=0/\k+1 < u.mid from ⟨rfl,hlt⟩)]
     rfl
    ·rw [if_neg hlt,if_neg (show ¬ ((-1:Int) ≠ -1) by decide),if_neg n4,if_neg (show ¬ ((0:Int)=0/\k+1 < u.mid) from fun e=>hlt e.2),if_neg (show ¬ ((0:Int)=1/\u.mid < u.fin) from fun e=>absurd e.1 (by decide))]
   ·have w1:way=1:=by omega
    subst w1
    rw [hin1,if_neg (show ¬ ((1:Int)=0/\k+1 < u.mid) from fun e=>absurd e.1 (by decide))]
    by_cases hlt:u.mid < u.fin
    ·rw [if_pos hlt,if_pos (show ((u.mid:Nat):Int) ≠ -1 by omega),if_pos (show (1:Int)=1/\u.mid < u.fin from ⟨rfl,hlt⟩)]
    ·rw [if_neg hlt,if_neg (show ¬ ((-1:Int) ≠ -1) by decide),if_neg n4,if_neg (show ¬ ((1:Int)=1/\u.mid < u.fin) from fun e=>hlt e.2)]
end Go.Proofs.YtffajooegiempaaGreatDoor

namespace Go.Proofs.YtffajooegiempaaGreatDoor
open Go.RowKit
theorem prog_whole (s:ByteArray) (h160:s.size<=160):(readGood s=false/\progOf (bytesOf s)=none) \/ ∃ m,readGood s=true/\progOf (bytesOf s)=some m/\Whole (readZ s).2 m.st:=by
 have hl:=bytesOf_len s
 have hsame:=scan_same s
 rcases read_says s with hd | ⟨m,ho,hf,hpk⟩
 ·left
  have hg:readGood s=false:=by unfold readGood; rw [hd.st]; rfl
  refine ⟨hg,?_⟩
  cases hp:progOf (bytesOf s) with
  | none=>rfl
  | some m =>
   exfalso
   have e:=(progOf_some hp).2.2.2
   rw [<- hsame] at e
   unfold scanD at e
   rw [if_neg (by omega),hg] at e
   simp at e
 ·by_cases hlt:(readZ s).1.1 < s.size
  ·left
   have hg:readGood s=false:=by unfold readGood; rw [ho.sync.ns]; simp; omega
   refine ⟨hg,?_⟩
   cases hp:progOf (bytesOf s) with
   | none=>rfl
   | some m =>
    exfalso
    have e:=(progOf_some hp).2.2.2
    rw [<- hsame] at e
    unfold scanD at e
    rw [if_neg (by omega),hg] at e
    simp at e
  ·right
   have hg:readGood s=true:=by unfold readGood; rw [ho.sync.ns]; simp; omega
   have hfd:=ho.sync.fd
   have he:(readZ s).1.1=s.size:=by have:=ho.sync.le; omega
   rw [he,take_all] at hfd
   refine ⟨m,hg,?_,ho.cor,hf⟩
   have hop:m.op=[]:=ho.op
   unfold progOf
   rw [if_neg (by omega),readFrom_some (n:=0) hfd]
   have hdn:isDone m=true:=by unfold isDone; rw [ho.st,hop]; rfl
   simp [hdn]
end Go.Proofs.YtffajooegiempaaGreatDoor

namespace Go.Proofs.YtffajooegiempaaGreatDoor
open Go.RowKit
variable {w:World}
theorem ovS {l:List Int} (ho:okL l):Sm (ovM l):=ah_sm (lay_rng l 32 ho.2) 64 (Nat.le_refl _)
theorem bdL_len (M:Nat->Int):(bdL M).length=32:=by simp [bdL]
end Go.Proofs.YtffajooegiempaaGreatDoor

namespace Go.Proofs.YtffajooegiempaaGreatDoor
open Go.RowKit
variable {w:World}
def bi (x:Bool × Int):Ending:=.returned (.tuple #[.bool x.1,.int .i64 x.2])
structure StG (u:St):Prop where
 len:u.sg.length=4
 sg:∀ i,-1<=gAt u.sg i/\gAt u.sg i<=1
 num:-99<=u.num/\u.num<=99
 nz:nz u.sg<=2
theorem stg_no:StG noSt:=⟨rfl,fun i=>by
 rcases (show i=0 \/ i=1 \/ i=2 \/ i=3 \/ 4<=i by omega) with rfl | rfl | rfl | rfl | h4
 ·exact ⟨by decide,by decide⟩
 ·exact ⟨by decide,by decide⟩
 ·exact ⟨by decide,by decide⟩
 ·exact ⟨by decide,by decide⟩
 ·have:gAt noSt.sg i=0:=by unfold gAt noSt; rw [List.getD_eq_getElem?_getD,List.getElem?_eq_none (by simp; omega)]; rfl
  omega,by decide,by decide⟩
theorem stg_of {l:List Int} {m:Rd} (hp:progOf l=some m) (k:Nat):StG (m.st.getD k noSt):=by
 obtain ⟨_,⟨n,hr⟩,_,_⟩:=progOf_some hp
 obtain ⟨hg,ok⟩:=gd_from (m:=init) (m':=m) (fun s hs=>absurd hs (by simp [init])) Ok.init hr
 have hc:=cn_from (m:=init) (m':=m) ⟨fun s hs=>absurd hs (by simp [init]),by decide⟩ Ok.init hr
 rw [List.getD_eq_getElem?_getD]
 cases e:m.st[k]? with
 | none=>exact stg_no
 | some u =>
  have hu:=List.mem_of_getElem? e
  have hl:=ok.sgl u hu
  refine ⟨hl,fun i=>?_,ok.nums u hu,hc.all u hu⟩
  show -1<=gAt u.sg i/\gAt u.sg i<=1
  unfold gAt
  rw [List.getD_eq_getElem?_getD]
  cases e2:u.sg[i]? with
  | none=>exact ⟨by decide,by decide⟩
  | some x=>exact (hg u hu).2.2 x (List.mem_of_getElem? e2)
theorem dsg_of {l:List Int} {m:Rd} {F:List Ds} (hp:progOf l=some m) (hW:Whole F m.st) {k:Nat} (hk:k < F.length):DsG (F.getD k (newDs 0 0))/\Cor (F.getD k (newDs 0 0)) (m.st.getD k noSt):=by
 have hl:=hW.1.len
 have hx:=gets' hk
 have hu:m.st[k]?=some (m.st.getD k noSt):=by rw [List.getD_eq_getElem?_getD,List.getElem?_eq_getElem (by omega)]; rfl
 have hc:=hW.1.cor k _ _ hx hu
 have hg:=stg_of hp k
 obtain ⟨_,_,_,c3,c4⟩:=id hc
 exact ⟨⟨by rw [<- c3]; exact hg.sg,by rw [<- c4]; exact hg.num⟩,hc⟩
end Go.Proofs.YtffajooegiempaaGreatDoor

namespace Go.Proofs.YtffajooegiempaaGreatDoor
open Go.RowKit
variable {B:Nat} {w:World} {r:Nat} {m:Rd} {vs vo:Value} {P Q O:Nat->Nat}
def sfD (e:Bool) (C:Nat->Int) (u:St):Bool :=
 if e=true then true else if u.kind=61 then u.star || decide (grD C u.sg ≠ NB/\grD C (ngL u.sg) ≠ NB/\grD C u.sg+u.num<=999/\grD C (ngL u.sg) - u.num<=999)
 else if u.kind=33 then !u.star && decide (grD C u.sg<=u.num) else true
theorem bd_rng {M:Nat->Int} (hS:Sm M) {f:Nat} (hf:f < 32):-200000000000000000<=bd M f/\bd M f<=1000000000000:=mo_rng hS (fs_lt f hf) (ss_lt f hf)
theorem grD_rng {M:Nat->Int} (hS:Sm M) (hC:M (0*8+1)=0) {l:List Int} (hl:l.length=4) (h:∀ i,-1<=gAt l i/\gAt l i<=1) (h2:nz l<=2):-200000000000000000<=grD M l/\grD M l<=1000000000000:=by
 rw [<- (grP_grD hC hl h h2).1]
 exact grP_rng hS l
def pnL (l:List Int):Nat->List Int
 | 0=>[0,0,0,0]
 | j+1=>(pnL l j).set j (-gAt l j)
theorem pnL_at (l:List Int) {j:Nat} (hj:j < 4):(pnL l j).length=4/\(pnL l j).getD j 0=0:=by
 rcases (show j=0 \/ j=1 \/ j=2 \/ j=3 by omega) with rfl | rfl | rfl | rfl <;> exact ⟨rfl,rfl⟩
theorem ngL_len (l:List Int):(ngL l).length=4:=rfl
structure StW (w:World) (r k:Nat) (u:St) (len:Nat):Prop where
 ex:∃ g cap p q,w.cell? ⟨r,1,none⟩=some (.slice (some ⟨g,0,none⟩) len cap)/\w.cell? ⟨g,k,none⟩=some (.pointer (some ⟨p,0,none⟩))/\w.cell? ⟨p,0,none⟩=some (.int .u8 u.kind)/\w.cell? ⟨p,2,none⟩=some (.bool u.star) /\
  w.cell? ⟨p,3,none⟩=some (.slice (some ⟨q,0,none⟩) 4 4)/\w.cell? ⟨p,4,none⟩=some (.int .i64 u.num)/\At w q (ic u.sg) tNk/\p < w.heap.size/\g < w.heap.size/\r < w.heap.size
theorem Rep.stw (h:Rep B w r m vs vo P Q O) {k:Nat} (hk:k < m.st.length):StW w r k (m.st.getD k noSt) m.st.length:=by
 obtain ⟨g,cap,hvs,hrow,_⟩:=h.row (by omega)
 obtain ⟨r0,r1,_⟩:=h.rdc
 have hg:=Rep.gets hk
 obtain ⟨c0,_,c2,c3,c4,_⟩:=h.stc k _ hg
 obtain ⟨a,b⟩:=h.st k _ hg
 rw [hvs] at r1
 have hgl:=World.block_lt_of_cell? w _ (hrow k hk)
 exact ⟨g,cap,P k,Q k,r1,hrow k hk,c0,c2,c3,c4,b,a.lt,hgl,h.rd.lt⟩
theorem r_safe_c (h:Rep B w r m vs vo P Q O) (k:Nat) (hk:k < m.st.length) (hu:StG (m.st.getD k noSt)) (v:Value) {e0:Bool} {C:Nat->Int} (hva:∃ a n c,v=.slice a n c) (hcl:Calls Tryz.prog 59 #[v] w (LSays w e0 C)) (hS:Sm C) (hT:e0=false->C (0*8+1)=0) :
  Calls Tryz.prog 64 #[.pointer (some ⟨r,0,none⟩),.int .i64 (k:Int),v] w fun e w'=>e=.returned (.bool (sfD e0 C (m.st.getD k noSt)))/\Below w.heap.size w w':=by
 have hq1:∀ (w:World) (a:Option Addr) (n c:Nat),(binOp .eql 32 (.slice a n c) (.slice none 0 0)).run Tryz.prog w=.ok (.bool a.isNone) w:=fun w a n c=>Lib.run_eql_slice_nil w 32 tN a n c 0 0 Tryz.underlying32
 have hmk:∀ w,(Instr.makeSlice 32 (.int .i64 4) (.int .i64 4)).run Tryz.prog w=.ok (.slice (some ⟨w.heap.size,0,none⟩) 4 4) (w.alloc (.cells #[.int .i64 0,.int .i64 0,.int .i64 0,.int .i64 0] tNk)):=fun _=>by kernel_rfl
 have StK:Hid (∀ w1,Below w.heap.size w w1->StW w1 r k (m.st.getD k noSt) m.st.length):=fun w1 hb=>(h.keep hb).stw hk
 have hki:(k:Int) < (m.st.length:Int):=by omega
 have HTC:Hid (e0=false->C (0*8+1)=0):=hT
 obtain ⟨ao,an,ca,rfl⟩:=hva
 clear h hT
 generalize m.st.getD k noSt=u at *
 cases e0 with
 | true =>
  have HE:Hid (sfD true C u=true):=rfl
  clear HTC hS
  go_enter Tryz.func64,Tryz.ntmps64
  go_wp2_with fail
  refine hcl.mono ?_
  rintro e w1 ⟨hb1,⟨-,rfl⟩ | ⟨he,-⟩⟩
  ·have hrw:=StK.out w1 hb1
   obtain ⟨g,cap,p,q,x1,x2,x3,x4,x5,x6,hq,hpl,hgl,hrl⟩:=hrw.ex
   have HQ:Hid (At w1 q (ic u.sg) tNk/\Below w.heap.size w w1):=⟨hq,hb1⟩
   clear hrw hq
   clear hb1 hcl
   go_wp2_with fail
   go_ret
   exact ⟨ret_b' HE.out,HQ.out.2⟩
  ·cases he
 | false =>
 have hC0:=HTC.out rfl
 have HGr:Hid (∀ w1 gq vv (l:List Int),At w1 gq (ic (bdL C)) tNo->Reads w1 vv l->l.length=4->(∀ i,-1<=gAt l i/\gAt l i<=1)->nz l<=2->Calls Tryz.prog 97 #[.slice (some ⟨gq,0,none⟩) 32 32,vv] w1 fun e w'=>e=.returned (.int .i64 (grD C l))/\Below w1.heap.size w1 w'):=fun w1 gq vv l ha hr h4 hs h2=>r_greatest C _ vv l h4 hs h2 hC0 (Reads.at_ ha (by simp [bdL]) (Nat.le_refl _) (fun i hi=>ic_get _ _ (by simpa [bdL] using hi))) hr
 obtain ⟨r1,r2⟩:=grD_rng hS hC0 hu.len hu.sg hu.nz
 obtain ⟨r3,r4⟩:=grD_rng hS hC0 (ngL_len u.sg) (ngL_rng hu.sg) (by rw [nz_ngL hu.len]; exact hu.nz)
 obtain ⟨n1,n2⟩:=hu.num
 have HU:Hid (StG u):=hu
 clear hS HTC hu hC0
 by_cases k61:u.kind=61
 ·have HE0:Hid (sfD false C u=(u.star || decide (grD C u.sg ≠ NB/\grD C (ngL u.sg) ≠ NB/\grD C u.sg+u.num<=999/\grD C (ngL u.sg) - u.num<=999))):=by show sfD false C u=_; unfold sfD; rw [if_neg (by decide),if_pos k61]
  cases hst:u.star with
  | true =>
   have HE:Hid (sfD false C u=true):=by show _=true; rw [HE0.out,hst]; rfl
   clear HE0
   go_enter Tryz.func64,Tryz.ntmps64
   go_wp2_with fail
   refine hcl.mono ?_
   rintro e w1 ⟨hb1,⟨he,-⟩ | ⟨-,gq,rfl,hgq,ha⟩⟩
   ·cases he
   ·have hrw:=StK.out w1 hb1
    obtain ⟨g,cap,p,q,x1,x2,x3,x4,x5,x6,hq,hpl,hgl,hrl⟩:=hrw.ex
    have HQ:Hid (At w1 q (ic u.sg) tNk/\Below w.heap.size w w1):=⟨hq,hb1⟩
    clear hrw hq
    rw [k61] at x3
    rw [hst] at x4
    clear hb1 hcl ha k61
    go_wp2_with fail
    go_ret
    exact ⟨ret_b' HE.out,HQ.out.2⟩
  | false =>
   have HE1:Hid (sfD false C u=decide (grD C u.sg ≠ NB/\grD C (ngL u.sg) ≠ NB/\grD C u.sg+u.num<=999/\grD C (ngL u.sg) - u.num<=999)):=by show _=decide _; rw [HE0.out,hst]; rfl
   clear HE0
   go_enter Tryz.func64,Tryz.ntmps64
   go_wp2_with fail
   refine hcl.mono ?_
   rintro e w1 ⟨hb1,⟨he,-⟩ | ⟨-,gq,rfl,hgq,ha⟩⟩
   ·cases he
   ·have hrw:=StK.out w1 hb1
    obtain ⟨g,cap,p,q,x1,x2,x3,x4,x5,x6,hq,hpl,hgl,hrl⟩:=hrw.ex
    have HQ:Hid (At w1 q (ic u.sg) tNk/\Below w.heap.size w w1):=⟨hq,hb1⟩
    clear hrw hq
    rw [k61] at x3
    rw [hst] at x4
    have HA:Hid (At (w1.alloc (.cells #[.int .i64 0,.int .i64 0,.int .i64 0,.int .i64 0] tNk)) w1.heap.size (ic (pnL u.sg 0)) tNk/\Below w1.heap.size w1 (w1.alloc (.cells #[.int .i64 0,.int .i64 0,.int .i64 0,.int .i64 0] tNk))):=⟨At.new _ _ _,(Below.refl _ _).alloc (Nat.le_refl _) _⟩
    have HGa:Hid (At w1 gq (ic (bdL C)) tNo):=ha
    have hqlt:q < w1.heap.size:=HQ.out.1.lt
    clear hb1 hcl ha k61
    go_wp2_with fail
    go_loopw [10] (fun iv wr=>∃ (j:Nat),j<=4/\iv=.int .i64 j/\Hid (At wr w1.heap.size (ic (pnL u.sg j)) tNk/\Below w1.heap.size w1 wr)) (fun iv _=>4 - (intOf iv).toNat)
    case atStart=>exact ⟨0,by omega,rfl,HA.out⟩
    case round =>
     obtain ⟨j,hj,rfl,HR⟩:=hrel
     have y5:wr.cell? ⟨p,3,none⟩=some (.slice (some ⟨q,0,none⟩) 4 4):=(HR.out.2.cell (p:=⟨p,3,none⟩) hpl).trans x5
     by_cases hlt:j < 4
     ·have hji:(j:Int) < 4:=by omega
      have hpn:=pnL_at u.sg hlt
      have ca:wr.cell? ⟨q,j,none⟩=some (.int .i64 (gAt u.sg j)):=by
       rw [HR.out.2.cell (p:=⟨q,j,none⟩) hqlt,HQ.out.1.cell,ic_get _ _ (by rw [HU.out.len]; exact hlt)]; rfl
      have cb:wr.cell? ⟨w1.heap.size,j,none⟩=some (.int .i64 0):=by
       rw [HR.out.1.cell,ic_get _ _ (by omega),hpn.2]
      have cf:=HR.out.1.free
      have hbl:=HR.out.1.lt
      have hx:=HU.out.sg j
      have HP:Hid (pnL u.sg (j+1)=(pnL u.sg j).set j (-gAt u.sg j)):=rfl
      clear hpn
      generalize gAt u.sg j=x at *
      go_wp2_with fail
      go_roundw
      case rel =>
       refine ⟨j+1,by omega,by go_num,?_,HR.out.2.setCell (Nat.le_refl _) _⟩
       rw [HP.out,<- ic_set]
       exact HR.out.1.put j _
      case measure=>simp [intOf]; omega
     ·have hj4:j=4:=by omega
      subst hj4
      have hgr:=HGr.out wr gq (.slice (some ⟨q,0,none⟩) 4 4) u.sg (HGa.out.keep HR.out.2 HGa.out.lt) (Reads.at_ (HQ.out.1.keep HR.out.2 HQ.out.1.lt) HU.out.len (Nat.le_refl _) (fun i hi=>ic_get _ _ (by rw [HU.out.len]; exact hi))) HU.out.len HU.out.sg HU.out.nz
      have HGr2:Hid (∀ w3,Below wr.heap.size wr w3->Calls Tryz.prog 97 #[.slice (some ⟨gq,0,none⟩) 32 32,.slice (some ⟨w1.heap.size,0,none⟩) 4 4] w3 fun e w'=>e=.returned (.int .i64 (grD C (ngL u.sg)))/\Below w3.heap.size w3 w'):=by
       intro w3 hb3
       have a1:=(HGa.out.keep HR.out.2 HGa.out.lt)
       have a2:At w3 w1.heap.size (ic (ngL u.sg)) tNk:=HR.out.1.keep hb3 HR.out.1.lt
       exact HGr.out w3 gq _ (ngL u.sg) (a1.keep hb3 a1.lt) (Reads.at_ a2 (ngL_len _) (Nat.le_refl _) (fun i hi=>ic_get _ _ (by rw [ngL_len]; exact hi))) (ngL_len _) (ngL_rng HU.out.sg) (by rw [nz_ngL HU.out.len]; exact HU.out.nz)
      have HBr:Hid (Below w.heap.size w wr):=HQ.out.2.trans (HR.out.2.mono HQ.out.2.size)
      have z6:wr.cell? ⟨p,4,none⟩=some (.int .i64 u.num):=(HR.out.2.cell (p:=⟨p,4,none⟩) hpl).trans x6
      have hplr:p < wr.heap.size:=Nat.lt_of_lt_of_le hpl HR.out.2.size
      clear HGr HA HQ
      generalize grD C u.sg=hi at *
      generalize grD C (ngL u.sg)=lo at *
      generalize u.num=n at *
      go_wp2_with fail
      refine hgr.mono ?_
      rintro e w3 ⟨rfl,hb3⟩
      have hg2:=HGr2.out w3 hb3
      have H3:Hid (Below w.heap.size w w3):=HBr.out.trans (hb3.mono HBr.out.size)
      have t6:w3.cell? ⟨p,4,none⟩=some (.int .i64 n):=(hb3.cell (p:=⟨p,4,none⟩) hplr).trans z6
      have hpl3:p < w3.heap.size:=Nat.lt_of_lt_of_le hplr hb3.size
      clear hb3 hgr HGr2
      go_wp2_with fail
      refine hg2.mono ?_
      rintro e w4 ⟨rfl,hb4⟩
      have H4:Hid (Below w.heap.size w w4):=H3.out.trans (hb4.mono H3.out.size)
      have s6:w4.cell? ⟨p,4,none⟩=some (.int .i64 n):=(hb4.cell (p:=⟨p,4,none⟩) hpl3).trans t6
      clear hb4 hg2
      by_cases q1:hi=NB
      ·have HE:Hid (sfD false C u=false):=HE1.out.trans (decide_eq_false (fun z=>z.1 q1))
       have b1:(hi != 1000000)=false:=by rw [q1]; rfl
       clear HE1 q1
       go_wp2_with fail
       go_ret
       exact ⟨ret_b' HE.out,H4.out⟩
      have b1:(hi != 1000000)=true:=by rw [bne_iff_ne]; exact q1
      by_cases q2:lo=NB
      ·have HE:Hid (sfD false C u=false):=HE1.out.trans (decide_eq_false (fun z=>z.2.1 q2))
       have b2:(lo != 1000000)=false:=by rw [q2]; rfl
       clear HE1 q1 q2
       go_wp2_with fail
       go_ret
       exact ⟨ret_b' HE.out,H4.out⟩
      have b2:(lo != 1000000)=true:=by rw [bne_iff_ne]; exact q2
      by_cases q3:hi+n<=999
      ·have HE:Hid (sfD false C u=decide (lo - n<=999)):=HE1.out.trans (decide_eq_decide.2 ⟨fun z=>z.2.2.2,fun z=>⟨q1,q2,q3,z⟩⟩)
       clear HE1 q1 q2
       go_wp2_with fail
       go_ret
       exact ⟨ret_b' HE.out,H4.out⟩
      ·have HE:Hid (sfD false C u=false):=HE1.out.trans (decide_eq_false (fun z=>q3 z.2.2.1))
       clear HE1 q1 q2
       go_wp2_with fail
       go_ret
       exact ⟨ret_b' HE.out,H4.out⟩
 by_cases k33:u.kind=33
 ·have HE0:Hid (sfD false C u=(!u.star && decide (grD C u.sg<=u.num))):=by show sfD false C u=_; unfold sfD; rw [if_neg (by decide),if_neg k61,if_pos k33]
  cases hst:u.star with
  | true =>
   have HE:Hid (sfD false C u=false):=by show _=false; rw [HE0.out,hst]; rfl
   clear HE0
   go_enter Tryz.func64,Tryz.ntmps64
   go_wp2_with fail
   refine hcl.mono ?_
   rintro e w1 ⟨hb1,⟨he,-⟩ | ⟨-,gq,rfl,hgq,ha⟩⟩
   ·cases he
   ·have hrw:=StK.out w1 hb1
    obtain ⟨g,cap,p,q,x1,x2,x3,x4,x5,x6,hq,hpl,hgl,hrl⟩:=hrw.ex
    have HQ:Hid (At w1 q (ic u.sg) tNk/\Below w.heap.size w w1):=⟨hq,hb1⟩
    clear hrw hq
    rw [k33] at x3
    rw [hst] at x4
    clear hb1 hcl ha k33 k61
    go_wp2_with fail
    go_ret
    exact ⟨ret_b' HE.out,HQ.out.2⟩
  | false =>
   have HE:Hid (sfD false C u=decide (grD C u.sg<=u.num)):=by show _=decide (grD C u.sg<=u.num); rw [HE0.out,hst]; rfl
   clear HE0
   go_enter Tryz.func64,Tryz.ntmps64
   go_wp2_with fail
   refine hcl.mono ?_
   rintro e w1 ⟨hb1,⟨he,-⟩ | ⟨-,gq,rfl,hgq,ha⟩⟩
   ·cases he
   ·have hrw:=StK.out w1 hb1
    obtain ⟨g,cap,p,q,x1,x2,x3,x4,x5,x6,hq,hpl,hgl,hrl⟩:=hrw.ex
    have HQ:Hid (At w1 q (ic u.sg) tNk/\Below w.heap.size w w1):=⟨hq,hb1⟩
    clear hrw hq
    have hgr:=HGr.out w1 gq (.slice (some ⟨q,0,none⟩) 4 4) u.sg ha (Reads.at_ HQ.out.1 HU.out.len (Nat.le_refl _) (fun i hi=>ic_get _ _ (by rw [HU.out.len]; exact hi))) HU.out.len HU.out.sg HU.out.nz
    rw [k33] at x3
    rw [hst] at x4
    clear hb1 hcl ha k33 k61
    generalize grD C u.sg=gr at *
    go_wp2_with fail
    refine hgr.mono ?_
    rintro e w2 ⟨rfl,hb2⟩
    have y6:w2.cell? ⟨p,4,none⟩=some (.int .i64 u.num):=(hb2.cell (p:=⟨p,4,none⟩) hpl).trans x6
    have H2:Hid (Below w.heap.size w w2):=HQ.out.2.trans (hb2.mono HQ.out.2.size)
    clear hb2 hgr
    go_wp2_with fail
    go_ret
    exact ⟨ret_b' HE.out,H2.out⟩
 ·have HE:Hid (sfD false C u=true):=by show sfD false C u=_; unfold sfD; rw [if_neg (by decide),if_neg k61,if_neg k33]
  have b61:(u.kind == 61)=false:=by simpa using k61
  have b33:(u.kind == 33)=false:=by simpa using k33
  go_enter Tryz.func64,Tryz.ntmps64
  go_wp2_with fail
  refine hcl.mono ?_
  rintro e w1 ⟨hb1,⟨he,-⟩ | ⟨-,gq,rfl,hgq,ha⟩⟩
  ·cases he
  ·have hrw:=StK.out w1 hb1
   obtain ⟨g,cap,p,q,x1,x2,x3,x4,x5,x6,hq,hpl,hgl,hrl⟩:=hrw.ex
   have HQ:Hid (At w1 q (ic u.sg) tNk/\Below w.heap.size w w1):=⟨hq,hb1⟩
   clear hrw hq
   clear hb1 hcl ha k33 k61
   go_wp2_with fail
   go_ret
   exact ⟨ret_b' HE.out,HQ.out.2⟩
theorem r_safe (h:Rep B w r m vs vo P Q O) (k:Nat) (hk:k < m.st.length) (hu:StG (m.st.getD k noSt)) (v:Value) (o:List Int) (ho:okL o) (hv:Reads w v o) :
  Calls Tryz.prog 64 #[.pointer (some ⟨r,0,none⟩),.int .i64 (k:Int),v] w fun e w'=>e=.returned (.bool (sfD (ovE o) (ovM o) (m.st.getD k noSt)))/\Below w.heap.size w w' :=
 r_safe_c h k hk hu v (by obtain ⟨a,c,e,_,_⟩:=hv; exact ⟨_,_,_,e⟩) (r_closed_ok v o ho hv) (ovS ho) (fun he=>((raw_lay ho).tc he).zero 0 (by omega))
end Go.Proofs.YtffajooegiempaaGreatDoor

