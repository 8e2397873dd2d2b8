import Derived.Test.YtffajooegiempaaGreatDoorJ6
set_option maxRecDepth 100000
set_option maxHeartbeats 6400000
namespace Go.Proofs.YtffajooegiempaaGreatDoor
theorem nf_symm:∀ i:Nat,i < 8->∀ j,j < 8->nf i j=nf j i:=by decide +kernel
theorem most_of (L:Nat->Option Int):∀ n:Nat,(∀ i,i < n->L i=none) \/ ∃ m,(∃ i,i < n/\L i=some m)/\∀ i,i < n->∀ l,L i=some l->l<=m:=by
 intro n
 induction n with
 | zero=>exact .inl fun i hi=>absurd hi (by omega)
 | succ n ih =>
  cases e:L n with
  | none =>
   rcases ih with h | ⟨m,⟨i,hi,q⟩,h⟩
   ·refine .inl fun i hi=>?_
    rcases Nat.lt_or_eq_of_le (Nat.lt_succ_iff.1 hi) with a | a
    ·exact h i a
    ·rw [a]; exact e
   ·refine .inr ⟨m,⟨i,by omega,q⟩,fun j hj l hl=>?_⟩
    rcases Nat.lt_or_eq_of_le (Nat.lt_succ_iff.1 hj) with a | a
    ·exact h j a l hl
    ·rw [a,e] at hl; cases hl
  | some x =>
   rcases ih with h | ⟨m,⟨i,hi,q⟩,h⟩
   ·refine .inr ⟨x,⟨n,by omega,e⟩,fun j hj l hl=>?_⟩
    rcases Nat.lt_or_eq_of_le (Nat.lt_succ_iff.1 hj) with a | a
    ·rw [h j a] at hl; cases hl
    ·rw [a,e] at hl; cases hl; exact Int.le_refl _
   ·by_cases c:m<=x
    ·refine .inr ⟨x,⟨n,by omega,e⟩,fun j hj l hl=>?_⟩
     rcases Nat.lt_or_eq_of_le (Nat.lt_succ_iff.1 hj) with a | a
     ·exact Int.le_trans (h j a l hl) c
     ·rw [a,e] at hl; cases hl; exact Int.le_refl _
    ·refine .inr ⟨m,⟨i,by omega,q⟩,fun j hj l hl=>?_⟩
     rcases Nat.lt_or_eq_of_le (Nat.lt_succ_iff.1 hj) with a | a
     ·exact h j a l hl
     ·rw [a,e] at hl; cases hl; omega
theorem between (L U:Nat->Option Int) (n:Nat) (h:∀ i j,i < n->j < n->∀ l u,L i=some l->U j=some u->l<=u):∃ t:Int,(∀ i,i < n->∀ l,L i=some l->l<=t)/\(∀ j,j < n->∀ u,U j=some u->t<=u):=by
 rcases most_of L n with a | ⟨m,⟨i,hi,q⟩,a⟩
 ·rcases most_of (fun j=>(U j).map fun x=>-x) n with b | ⟨m,⟨j,hj,q⟩,b⟩
  ·refine ⟨0,fun i hi l hl=>(by rw [a i hi] at hl; cases hl),fun j hj u hu=>?_⟩
   have:=b j hj
   rw [hu] at this
   cases this
  ·refine ⟨-m,fun i hi l hl=>(by rw [a i hi] at hl; cases hl),fun k hk u hu=>?_⟩
   have:=b k hk (-u) (by rw [hu]; rfl)
   omega
 ·exact ⟨m,a,fun j hj u hu=>h i j hi hj m u q hu⟩
structure SK (P v:Nat->Int) (k:Nat):Prop where
 one:∀ i,i < 2*k->P i=NB \/ sd v i<=P i
 two:∀ i j,i < 2*k->j < 2*k->i ≠ j->j ≠ opp i->P (nf i j)=NB \/ sd v i+sd v j<=P (nf i j)
def setV (v:Nat->Int) (k:Nat) (t:Int):Nat->Int:=fun i=>if i=k then t else v i
theorem opp_even (k:Nat):opp (2*k)=2*k+1:=by unfold opp; rw [if_pos (by omega)]
theorem opp_odd (k:Nat):opp (2*k+1)=2*k:=by unfold opp; rw [if_neg (by omega)]; omega
theorem sd_setV_lt (v:Nat->Int) (t:Int) {i k:Nat} (h:i < 2*k):sd (setV v k t) i=sd v i:=by
 unfold sd setV
 rw [if_neg (show ¬ i / 2=k by omega)]
theorem sd_setV_e (v:Nat->Int) (t:Int) (k:Nat):sd (setV v k t) (2*k)=t:=by
 unfold sd setV
 rw [if_pos (by omega),if_pos (by omega)]
theorem sd_setV_o (v:Nat->Int) (t:Int) (k:Nat):sd (setV v k t) (2*k+1)=-t:=by
 unfold sd setV
 rw [if_neg (by omega),if_pos (by omega)]
theorem elim {P P' v:Nat->Int} {U:Int} {k:Nat} (hk:k < 4) (hU:2*U < NB) (hU0:0<=U) (hP:∀ f,f < 32->P f=NB \/ P f<=U) (hr:RdO P P') (hv:SK P' v k):∃ t,SK P (setV v k t) (k+1):=by
 have hs:2*k < 8:=by omega
 have ho:2*k+1 < 8:=by omega
 have oe:=opp_even k
 have oo:=opp_odd k
 have fin:∀ f,f < 32->P f ≠ NB->P f<=U:=fun f hf q=>(hP f hf).resolve_left q
 have v1:∀ i,i < 2*k->∀ c,c < NB->P' i<=c->sd v i<=c:=by
  intro i hi c hc hl
  have:=(hv.one i hi).resolve_left (by omega)
  omega
 have v2:∀ i j,i < 2*k->j < 2*k->i ≠ j->j ≠ opp i->∀ c,c < NB->P' (nf i j)<=c->sd v i+sd v j<=c:=by
  intro i j hi hj e1 e2 c hc hl
  have:=(hv.two i j hi hj e1 e2).resolve_left (by omega)
  omega
 have key:∀ i j,i < 2*k+1->j < 2*k+1->P (if i=2*k then 2*k else nf (2*k) i) ≠ NB->P (if j=2*k then 2*k+1 else nf (2*k+1) j) ≠ NB ->
   (if i=2*k then 0 else sd v i)+(if j=2*k then 0 else sd v j)<=P (if i=2*k then 2*k else nf (2*k) i)+P (if j=2*k then 2*k+1 else nf (2*k+1) j):=by
  intro i j hi hj q1 q2
  by_cases ei:i=2*k
  ·rw [if_pos ei] at q1 |-
   rw [if_pos ei]
   by_cases ej:j=2*k
   ·rw [if_pos ej] at q2 |-
    rw [if_pos ej]
    have z:=hr.zer (2*k) (2*k+1) (by omega) (by omega) ((tab3 (2*k) hs (2*k+1) ho).1 oe.symm) q1 q2
    omega
   ·rw [if_neg ej] at q2 |-
    rw [if_neg ej]
    have t:=tab2 (2*k+1) ho j (by omega) ⟨by omega,by rw [oo]; omega⟩
    rw [oo] at t
    have n:=(nf_ok (2*k+1) ho j (by omega) (by rw [oo]; omega)).1
    have x:=hr.sum (2*k) (nf (2*k+1) j) (by omega) n t.1 q1 q2
    rw [t.2.1] at x
    have a:=fin _ (by omega) q1
    have b:=fin _ n q2
    have:=v1 j (by omega) _ (by omega) x
    omega
  ·rw [if_neg ei] at q1 |-
   rw [if_neg ei]
   have n1:=(nf_ok (2*k) hs i (by omega) (by rw [oe]; omega)).1
   have a:=fin _ n1 q1
   by_cases ej:j=2*k
   ·rw [if_pos ej] at q2 |-
    rw [if_pos ej]
    have t:=tab2 (2*k) hs i (by omega) ⟨by omega,by rw [oe]; omega⟩
    rw [oe] at t
    have x:=hr.sum (2*k+1) (nf (2*k) i) (by omega) n1 t.1 q2 q1
    rw [t.2.1] at x
    have b:=fin _ (by omega) q2
    have:=v1 i (by omega) _ (by omega) x
    omega
   ·rw [if_neg ej] at q2 |-
    rw [if_neg ej]
    have n2:=(nf_ok (2*k+1) ho j (by omega) (by rw [oo]; omega)).1
    have b:=fin _ n2 q2
    have t:=tab1 i (by omega) (2*k+1) ho j (by omega) ⟨by omega,by rw [oo]; omega,by omega,by rw [oo]; omega⟩
    rw [oo,nf_symm i (by omega) (2*k) hs] at t
    by_cases e:j=opp i
    ·have z:=hr.zer _ _ n1 n2 (t.1 e) q1 q2
     rw [e,sd_opp]
     rw [e] at z
     omega
    ·by_cases e':j=i
     ·have x:=hr.dou _ _ n1 n2 (t.2.1 e').1 q1 q2
      rw [(t.2.1 e').2] at x
      have:=v1 i (by omega) _ (by omega) x
      rw [e'] at this |-
      omega
     ·have x:=hr.sum _ _ n1 n2 (t.2.2 ⟨e',e⟩).1 q1 q2
      rw [(t.2.2 ⟨e',e⟩).2] at x
      exact v2 i j (by omega) (by omega) (fun z=>e' z.symm) e _ (by omega) x
 obtain ⟨t,hL,hH⟩:=between (fun j=>if P (if j=2*k then 2*k+1 else nf (2*k+1) j)=NB then none else some ((if j=2*k then 0 else sd v j) - P (if j=2*k then 2*k+1 else nf (2*k+1) j)))
  (fun i=>if P (if i=2*k then 2*k else nf (2*k) i)=NB then none else some (P (if i=2*k then 2*k else nf (2*k) i) - (if i=2*k then 0 else sd v i))) (2*k+1) (by
   intro j i hj hi l u hl hu
   by_cases q2:P (if j=2*k then 2*k+1 else nf (2*k+1) j)=NB
   ·rw [if_pos q2] at hl; cases hl
   ·by_cases q1:P (if i=2*k then 2*k else nf (2*k) i)=NB
    ·rw [if_pos q1] at hu; cases hu
    ·rw [if_neg q2] at hl
     rw [if_neg q1] at hu
     have:=key i j hi hj q1 q2
     have:=Option.some.inj hl
     have:=Option.some.inj hu
     omega)
 have lo:∀ j,j < 2*k->P (nf (2*k+1) j)=NB \/ -t+sd v j<=P (nf (2*k+1) j):=by
  intro j hj
  by_cases q:P (nf (2*k+1) j)=NB
  ·exact .inl q
  ·have ne:¬ j=2*k:=by omega
   have:=hL j (by omega) (sd v j - P (nf (2*k+1) j)) (by simp only [if_neg ne,if_neg q])
   exact .inr (by omega)
 have hi:∀ j,j < 2*k->P (nf (2*k) j)=NB \/ t+sd v j<=P (nf (2*k) j):=by
  intro j hj
  by_cases q:P (nf (2*k) j)=NB
  ·exact .inl q
  ·have ne:¬ j=2*k:=by omega
   have:=hH j (by omega) (P (nf (2*k) j) - sd v j) (by simp only [if_neg ne,if_neg q])
   exact .inr (by omega)
 refine ⟨t,⟨fun i hi'=>?_,fun i j hi' hj' e1 e2=>?_⟩⟩
 ·by_cases c:i < 2*k
  ·rw [sd_setV_lt v t c]
   by_cases q:P i=NB
   ·exact .inl q
   ·have:=fin i (by omega) q
    exact .inr (v1 i c _ (by omega) (hr.le i (by omega)))
  ·by_cases c2:i=2*k
   ·rw [c2,sd_setV_e]
    by_cases q:P (2*k)=NB
    ·exact .inl q
    ·have:=hH (2*k) (by omega) (P (2*k) - 0) (by simp only [if_true,if_neg q])
     exact .inr (by omega)
   ·rw [show i=2*k+1 by omega,sd_setV_o]
    by_cases q:P (2*k+1)=NB
    ·exact .inl q
    ·have:=hL (2*k) (by omega) (0 - P (2*k+1)) (by simp only [if_true,if_neg q])
     exact .inr (by omega)
 ·by_cases c:i < 2*k
  ·rw [sd_setV_lt v t c]
   by_cases d:j < 2*k
   ·rw [sd_setV_lt v t d]
    by_cases q:P (nf i j)=NB
    ·exact .inl q
    ·have n:=(nf_ok i (by omega) j (by omega) e2).1
     have:=fin _ n q
     exact .inr (v2 i j c d e1 e2 _ (by omega) (hr.le _ n))
   ·rw [nf_symm i (by omega) j (by omega),Int.add_comm]
    by_cases d2:j=2*k
    ·rw [d2,sd_setV_e]; exact hi i c
    ·rw [show j=2*k+1 by omega,sd_setV_o]; exact lo i c
  ·have d:j < 2*k:=by
    rcases Nat.lt_or_ge j (2*k) with d | d
    ·exact d
    ·exfalso
     by_cases c2:i=2*k
     ·rw [c2,oe] at e2; omega
     ·rw [show i=2*k+1 by omega,oo] at e2; omega
   rw [sd_setV_lt v t d]
   by_cases c2:i=2*k
   ·rw [c2,sd_setV_e]; exact hi j d
   ·rw [show i=2*k+1 by omega,sd_setV_o]; exact lo j d
def qqs (P Q:Nat->Int) (f g:Nat):Nat->Int :=
 if P f=NB \/ P g=NB then Q
 else if kdT f g=2 then (if (P f+P g) / 2 < Q (nmT f g) then upd Q (nmT f g) ((P f+P g) / 2) else Q)
 else if kdT f g=3 then (if P f+P g < Q (nmT f g) then upd Q (nmT f g) (P f+P g) else Q)
 else Q
def qqF (P:Nat->Int):Nat->Nat->Int
 | 0=>P
 | m+1=>qqs P (qqF P m) (m / 32) (m % 32)
theorem low_le {Q:Nat->Int} {n:Nat} {c:Int} (x:Nat):(if c < Q n then upd Q n c else Q) x<=Q x:=by
 split
 ·unfold upd
  split
  ·rename_i h e; subst e; omega
  ·exact Int.le_refl _
 ·exact Int.le_refl _
theorem low_at {Q:Nat->Int} {n:Nat} {c:Int}:(if c < Q n then upd Q n c else Q) n<=c:=by
 split
 ·rw [upd_same]; exact Int.le_refl _
 ·omega
theorem low_cas {Q:Nat->Int} {n:Nat} {c:Int} (x:Nat):(if c < Q n then upd Q n c else Q) x=Q x \/ (x=n/\(if c < Q n then upd Q n c else Q) x=c):=by
 split
 ·unfold upd
  split
  ·rename_i e; exact .inr ⟨e,rfl⟩
  ·exact .inl rfl
 ·exact .inl rfl
theorem qqs_le (P Q:Nat->Int) (f g x:Nat):qqs P Q f g x<=Q x:=by
 unfold qqs
 split
 ·exact Int.le_refl _
 ·split
  ·exact low_le x
  ·split
   ·exact low_le x
   ·exact Int.le_refl _
theorem qqs_do (P Q:Nat->Int) {f g:Nat} (q1:P f ≠ NB) (q2:P g ≠ NB):(kdT f g=2->qqs P Q f g (nmT f g)<=(P f+P g) / 2)/\(kdT f g=3->qqs P Q f g (nmT f g)<=P f+P g):=by
 unfold qqs
 rw [if_neg (show ¬ (P f=NB \/ P g=NB) from fun z=>z.elim q1 q2)]
 refine ⟨fun k=>?_,fun k=>?_⟩
 ·rw [if_pos k]; exact low_at
 ·rw [if_neg (show ¬ kdT f g=2 by omega),if_pos k]; exact low_at
theorem qqs_cas (P Q:Nat->Int) (f g x:Nat):qqs P Q f g x=Q x \/ (P f ≠ NB/\P g ≠ NB/\x=nmT f g/\((kdT f g=2/\qqs P Q f g x=(P f+P g) / 2) \/ (kdT f g=3/\qqs P Q f g x=P f+P g))):=by
 unfold qqs
 by_cases q:P f=NB \/ P g=NB
 ·rw [if_pos q]; exact .inl rfl
 ·rw [if_neg q]
  have q1:P f ≠ NB:=fun z=>q (.inl z)
  have q2:P g ≠ NB:=fun z=>q (.inr z)
  by_cases k2:kdT f g=2
  ·rw [if_pos k2]
   rcases low_cas (Q:=Q) (n:=nmT f g) (c:=(P f+P g) / 2) x with h | ⟨h1,h2⟩
   ·exact .inl h
   ·exact .inr ⟨q1,q2,h1,.inl ⟨k2,h2⟩⟩
  ·rw [if_neg k2]
   by_cases k3:kdT f g=3
   ·rw [if_pos k3]
    rcases low_cas (Q:=Q) (n:=nmT f g) (c:=P f+P g) x with h | ⟨h1,h2⟩
    ·exact .inl h
    ·exact .inr ⟨q1,q2,h1,.inr ⟨k3,h2⟩⟩
   ·rw [if_neg k3]; exact .inl rfl
theorem qqF_le (P:Nat->Int):∀ m x,qqF P m x<=P x
 | 0,_=>Int.le_refl _
 | m+1,x=>Int.le_trans (qqs_le P _ _ _ x) (qqF_le P m x)
theorem qqF_do (P:Nat->Int):∀ k m,m < k->P (m / 32) ≠ NB->P (m % 32) ≠ NB->(kdT (m / 32) (m % 32)=2->qqF P k (nmT (m / 32) (m % 32))<=(P (m / 32)+P (m % 32)) / 2)/\(kdT (m / 32) (m % 32)=3->qqF P k (nmT (m / 32) (m % 32))<=P (m / 32)+P (m % 32)):=by
 intro k
 induction k with
 | zero=>intro m hm; omega
 | succ k ih =>
  intro m hm q1 q2
  rcases Nat.lt_or_eq_of_le (Nat.lt_succ_iff.1 hm) with e | e
  ·obtain ⟨a,b⟩:=ih m e q1 q2
   exact ⟨fun z=>Int.le_trans (qqs_le P _ _ _ _) (a z),fun z=>Int.le_trans (qqs_le P _ _ _ _) (b z)⟩
  ·subst e
   exact qqs_do P (qqF P m) q1 q2
theorem qqF_ab {P R R':Nat->Int} (hr:RdO R R') {U:Int} (hU:U < NB) (hP:∀ f,f < 32->P f=NB \/ P f<=U) (hl:∀ f,f < 32->R f<=P f):∀ k,k<=1024->∀ f,f < 32->R' f<=qqF P k f:=by
 intro k
 induction k with
 | zero=>intro _ f hf; exact Int.le_trans (hr.le f hf) (hl f hf)
 | succ k ih =>
  intro hk f hf
  have hx:k / 32 < 32:=by omega
  have hy:k % 32 < 32:=by omega
  rw [qqF]
  rcases qqs_cas P (qqF P k) (k / 32) (k % 32) f with h | ⟨q1,q2,e,h⟩
  ·rw [h]; exact ih (by omega) f hf
  ·have a1:=(hP _ hx).resolve_left q1
   have a2:=(hP _ hy).resolve_left q2
   have b1:=hl _ hx
   have b2:=hl _ hy
   rcases h with ⟨k2,h⟩ | ⟨k3,h⟩
   ·rw [h,e]
    have:=hr.dou _ _ hx hy k2 (by omega) (by omega)
    omega
   ·rw [h,e]
    have:=hr.sum _ _ hx hy k3 (by omega) (by omega)
    omega
theorem qqF_hi {P:Nat->Int} {U:Int} (hU0:0<=U) (hP:∀ f,f < 32->P f=NB \/ P f<=U):∀ k,k<=1024->∀ f,f < 32->qqF P k f=NB \/ qqF P k f<=2*U:=by
 intro k
 induction k with
 | zero =>
  intro _ f hf
  rcases hP f hf with h | h
  ·exact .inl h
  ·exact .inr (by show P f<=_; omega)
 | succ k ih =>
  intro hk f hf
  rw [qqF]
  rcases qqs_cas P (qqF P k) (k / 32) (k % 32) f with h | ⟨q1,q2,e,h⟩
  ·rw [h]; exact ih (by omega) f hf
  ·have a1:=(hP _ (show k / 32 < 32 by omega)).resolve_left q1
   have a2:=(hP _ (show k % 32 < 32 by omega)).resolve_left q2
   rcases h with ⟨k2,h⟩ | ⟨k3,h⟩
   ·rw [h]; exact .inr (by omega)
   ·rw [h]; exact .inr (by omega)
theorem qqF_rd {P R R':Nat->Int} (hr:RdO R R') {U:Int} (hU:U < NB) (hP:∀ f,f < 32->P f=NB \/ P f<=U) (hl:∀ f,f < 32->R f<=P f):RdO P (qqF P 1024):=by
 refine ⟨fun f _=>qqF_le P 1024 f,fun f g hf hg k q1 q2=>?_,fun f g hf hg k q1 q2=>?_,fun f g hf hg k q1 q2=>?_⟩
 ·have a1:=(hP f hf).resolve_left q1
  have a2:=(hP g hg).resolve_left q2
  have b1:=hl f hf
  have b2:=hl g hg
  have:=hr.zer f g hf hg k (by omega) (by omega)
  omega
 ·have:=qqF_do P 1024 (f*32+g) (by omega)
  rw [show (f*32+g) / 32=f by omega,show (f*32+g) % 32=g by omega] at this
  exact (this q1 q2).1 k
 ·have:=qqF_do P 1024 (f*32+g) (by omega)
  rw [show (f*32+g) / 32=f by omega,show (f*32+g) % 32=g by omega] at this
  exact (this q1 q2).2 k
theorem four {R0 R1 R2 R3 R4:Nat->Int} (h0:RdO R0 R1) (h1:RdO R1 R2) (h2:RdO R2 R3) (h3:RdO R3 R4) (hR:∀ f,f < 32->R0 f=NB \/ R0 f<=4000):∃ v,SK R0 v 4:=by
 have n0:(4000:Int) < NB:=by decide
 have n1:(2*4000:Int) < NB:=by decide
 have n2:(2*(2*4000):Int) < NB:=by decide
 have n3:(2*(2*(2*4000)):Int) < NB:=by decide
 have n4:(2*(2*(2*(2*4000))):Int) < NB:=by decide
 have r0:=qqF_rd h0 n0 hR (fun _ _=>Int.le_refl _)
 have b1:=qqF_hi (by decide) hR 1024 (Nat.le_refl _)
 have a1:=qqF_ab h0 n0 hR (fun _ _=>Int.le_refl _) 1024 (Nat.le_refl _)
 generalize qqF R0 1024=P1 at r0 a1 b1
 have r1:=qqF_rd h1 n1 b1 a1
 have b2:=qqF_hi (by decide) b1 1024 (Nat.le_refl _)
 have a2:=qqF_ab h1 n1 b1 a1 1024 (Nat.le_refl _)
 generalize qqF P1 1024=P2 at r1 a2 b2
 have r2:=qqF_rd h2 n2 b2 a2
 have b3:=qqF_hi (by decide) b2 1024 (Nat.le_refl _)
 have a3:=qqF_ab h2 n2 b2 a2 1024 (Nat.le_refl _)
 generalize qqF P2 1024=P3 at r2 a3 b3
 have r3:=qqF_rd h3 n3 b3 a3
 obtain ⟨ta,ka⟩:=elim (k:=0) (v:=fun _=>0) (by decide) n4 (by decide) b3 r3 ⟨fun i hi=>absurd hi (by omega),fun i j hi=>absurd hi (by omega)⟩
 obtain ⟨tb,kb⟩:=elim (by decide) n3 (by decide) b2 r2 ka
 obtain ⟨tc,kc⟩:=elim (by decide) n2 (by decide) b1 r1 kb
 obtain ⟨td,kd'⟩:=elim (by decide) n1 (by decide) hR r0 kc
 exact ⟨_,kd'⟩
theorem sk_lay {l:List Int} {v:Nat->Int} (h:SK (fun f=>l.getD f 0) v 4):Sat v (lay l 32):=by
 intro i j hi hj
 by_cases e:j=opp i
 ·rw [e,lay_opp l i hi,sd_opp]; exact .inr (by omega)
 ·rw [lay_nf l hi hj e]
  by_cases e':i=j
  ·subst e'
   rw [nf_self]
   rcases h.one i (by omega) with q | q
   ·exact .inl ((bv_lo l hi).1 q)
   ·by_cases z:l.getD i 0=NB
    ·exact .inl ((bv_lo l hi).1 z)
    ·rw [(bv_lo l hi).2 z]
     have q':sd v i<=l.getD i 0:=q
     exact .inr (by omega)
  ·rw [bv_hi l hi hj e' e]
   exact h.two i j (by omega) (by omega) e' e
theorem doc_empty4 {l:List Int} (hl:okL l) (he:ovE l=true):itF (fun f=>l.getD f 0) 4=none:=by
 cases e4:itF (fun f=>l.getD f 0) 4 with
 | none=>rfl
 | some R4 =>
  obtain ⟨R3,b3,e3,_⟩:=itF_succ e4
  obtain ⟨R2,b2,e2,_⟩:=itF_succ e3
  obtain ⟨R1,b1,e1,_⟩:=itF_succ e2
  have e0:itF (fun f=>l.getD f 0) 0=some (fun f=>l.getD f 0):=rfl
  have hR:=hi_lay hl
  obtain ⟨v,hv⟩:=four (itF_rd hR e0 e1) (itF_rd hR e1 e2) (itF_rd hR e2 e3) (itF_rd hR e3 e4) (fun f hf=>by
   rcases isB_or (hl.2 f hf) with q | q
   ·exact .inl q
   ·exact .inr q.2)
  have:=(sk_lay hv).sharp.some
  rw [show conF (sharp (lay l 32)) 8=ovE l from rfl,he] at this
  cases this
end Go.Proofs.YtffajooegiempaaGreatDoor

namespace Go.Proofs.YtffajooegiempaaGreatDoor
def sgmL (i j:Nat):List Nat :=
 let x:=i / 2
 let y:=if j / 2=x then (if x=0 then 1 else 0) else j / 2
 let r:=[0,1,2,3].filter fun z=>decide (z ≠ x) && decide (z ≠ y)
 let jj:=if j / 2=x then 2*y else j
 [i,opp i,jj,opp jj,2*r.getD 0 0,2*r.getD 0 0+1,2*r.getD 1 0,2*r.getD 1 0+1]
def sgm (f a:Nat):Nat:=(sgmL (fs f) (ss f)).getD a 0
def sgi (f b:Nat):Nat:=(List.range 8).findIdx fun a=>sgm f a == b
theorem sgm_ok:∀ f:Nat,f < 32->(∀ a,a < 8->sgm f a < 8/\sgm f (opp a)=opp (sgm f a)/\sgi f (sgm f a)=a)/\(∀ b,b < 8->sgi f b < 8/\sgm f (sgi f b)=b)/\sgm f 0=fs f/\(8<=f->sgm f 2=ss f):=by decide +kernel
def trn (f:Nat) (C:Nat->Int):Nat->Int:=fun a=>C (sgm f (a / 8)*8+sgm f (a % 8))
theorem trn_at (f:Nat) (C:Nat->Int) {i j:Nat} (hj:j < 8):trn f C (i*8+j)=C (sgm f i*8+sgm f j):=by
 unfold trn
 rw [show (i*8+j) / 8=i by omega,show (i*8+j) % 8=j by omega]
theorem TC.trn {C:Nat->Int} (h:TC C) {f:Nat} (hf:f < 32):TC (trn f C):=by
 obtain ⟨s1,_,_,_⟩:=sgm_ok f hf
 refine ⟨fun k hk i j hi hj=>?_,fun i hi=>?_,fun i hi=>?_,fun i j hi hj h1 h2=>?_,fun i j hi hj=>?_,fun a ha=>?_⟩
 ·rw [trn_at f C hj,trn_at f C (opp_lt hk),trn_at f C hj,(s1 k hk).2.1]
  exact h.tri (sgm f k) (s1 k hk).1 (sgm f i) (sgm f j) (s1 i hi).1 (s1 j hj).1
 ·rw [trn_at f C (opp_lt hi),(s1 i hi).2.1]
  exact h.zero _ (s1 i hi).1
 ·rw [trn_at f C hi]
  exact h.even _ (s1 i hi).1
 ·rw [trn_at f C hi] at h1
  rw [trn_at f C hj] at h2
  rw [trn_at f C hj,trn_at f C hi,trn_at f C hj]
  exact h.half _ _ (s1 i hi).1 (s1 j hj).1 h1 h2
 ·rw [trn_at f C hj,trn_at f C hi]
  exact h.sym _ _ (s1 i hi).1 (s1 j hj).1
 ·have:=h.top (sgm f (a / 8)*8+sgm f (a % 8)) (by have:=(s1 (a / 8) (by omega)).1; have:=(s1 (a % 8) (by omega)).1; omega)
  exact this
theorem TC.rd {C:Nat->Int} (h:TC C):RdO (bd C) (bd C):=by
 refine ⟨fun f _=>Int.le_refl _,fun f g hf hg k q1 q2=>(h.sum hf hg q1 q2).1 k,fun f g hf hg k q1 q2=>?_,fun f g hf hg k q1 q2=>(h.sum hf hg q1 q2).2.2 k⟩
 have:=(h.sum hf hg q1 q2).2.1 k
 omega
theorem TC.bd_top {C:Nat->Int} (h:TC C) {f:Nat} (hf:f < 32):bd C f=NB \/ bd C f<=432000:=by
 have k:fs f*8+ss f < 64:=by have:=fs_lt f hf; have:=ss_lt f hf; omega
 have t:=h.top _ k
 unfold bd
 split
 ·rename_i q
  have:=t.resolve_left q.2
  have:=tdiv2_le (C (fs f*8+ss f))
  exact .inr (by omega)
 ·exact t
theorem nb2:(2*432000:Int) < NB:=by decide
theorem TC.sat {C v:Nat->Int} (h:TC C) (k:SK (bd C) v 4):Sat v C:=by
 intro i j hi hj
 by_cases e:j=opp i
 ·rw [e,h.zero i hi,sd_opp]; exact .inr (by omega)
 ·by_cases e':i=j
  ·subst e'
   by_cases q:C (i*8+i)=NB
   ·exact .inl q
   ·obtain ⟨b1,b2⟩:=(h.lo hi).2 q
    have:=(k.one i (by omega)).resolve_left b2
    exact .inr (by omega)
  ·have:=k.two i j (by omega) (by omega) e' e
   rw [bd_nf h.sym hi hj e' e] at this
   exact this
def fval (v:Nat->Int) (f:Nat):Int:=if f < 8 then sd v f else sd v (fs f)+sd v (ss f)
theorem sgi_opp {f:Nat} (hf:f < 32) {b:Nat} (hb:b < 8):sgi f (opp b)=opp (sgi f b):=by
 obtain ⟨s1,s2,_,_⟩:=sgm_ok f hf
 obtain ⟨a1,a2⟩:=s2 b hb
 have:=(s1 (opp (sgi f b)) (opp_lt a1)).2.2
 rw [(s1 (sgi f b) a1).2.1,a2] at this
 exact this
end Go.Proofs.YtffajooegiempaaGreatDoor

namespace Go.Proofs.YtffajooegiempaaGreatDoor
def tst (T:List Nat) (f g:Nat):List Nat :=
 if kdT f g=2 then (if (T.getD f 0+T.getD g 0+1) / 2<=T.getD (nmT f g) 0 then T else T.set (nmT f g) ((T.getD f 0+T.getD g 0+1) / 2))
 else if kdT f g=3 then (if T.getD f 0+T.getD g 0<=T.getD (nmT f g) 0 then T else T.set (nmT f g) (T.getD f 0+T.getD g 0))
 else T
def tbL:List (List Nat):=[[1,1,1,1,1,1,1,1,1,1,1,1,1,1,1,1,1,1,1,1,1,1,1,1,1,1,1,1,1,1,1,1],
 [7,7,3,3,9,9,9,9,4,8,4,9,2,2,3,3,2,2,3,3,6,6,7,7,6,6,7,7,1,1,1,1],
 [79,79,75,75,63,63,27,27,4,8,4,9,16,20,16,21,52,56,52,57,12,24,12,25,48,60,48,61,36,72,36,73],
 [91,104,95,100,63,63,27,27,4,8,4,9,28,33,41,46,64,69,77,82,32,37,37,42,68,73,73,78,36,72,36,73],
 [165,252,95,100,206,211,27,27,65,70,152,157,28,33,41,46,138,143,225,230,106,111,111,116,68,73,73,78,179,184,184,189],
 [533,988,95,100,206,211,758,763,433,438,888,893,322,327,777,782,138,143,225,230,106,111,111,116,658,663,663,668,547,552,552,557],
 [533,988,317,544,428,433,758,763,655,882,1110,1337,766,771,1221,1226,138,143,225,230,106,111,111,116,880,885,1107,1112,991,996,996,1001],
 [533,988,2309,4528,428,433,3416,3421,2647,4866,3102,5321,766,771,1221,1226,3754,3759,4209,4214,1876,1881,4095,4100,880,885,1107,1112,2983,2988,2988,2993],
 [533,988,2309,4528,6404,12385,9392,9397,2647,4866,3102,5321,6742,12723,7197,13178,9730,9735,10185,10190,7852,13833,10071,16052,10840,10845,13059,13064,2983,2988,2988,2993],
 [10412,10867,3830,6049,17804,23785,20792,20797,4363,14940,4818,16721,6937,12918,8718,14699,9925,9930,11706,11711,11755,17736,19950,25931,14743,14748,22938,22943,2983,2988,2988,2993],
 [176768,177223,170186,172405,142571,148552,62381,62386,4363,14940,4818,16721,28216,54507,28671,56288,114382,134697,114837,136478,21634,59325,23853,67520,107800,139515,110019,147710,80185,163368,86166,169349],
 [196526,218065,201344,213247,142571,148552,62381,62386,4363,14940,4818,16721,47974,75591,69513,97130,134140,155781,155679,177320,52792,80409,64695,92312,138958,160599,150861,172502,80185,163368,86166,169349],
 [341630,508273,201344,213247,411143,438760,62381,62386,128383,140286,295026,306929,47974,75591,69513,97130,279244,300885,445887,467528,197896,225513,209799,237416,138958,160599,150861,172502,348757,370398,376374,398015],
 [1088402,2001817,201344,213247,411143,438760,1534289,1555930,875155,887058,1788570,1800473,649642,677259,1563057,1590674,279244,300885,445887,467528,197896,225513,209799,237416,1321042,1342683,1332945,1354586,1095529,1117170,1123146,1144787],
 [1088402,2001817,636656,1083871,846455,874072,1534289,1555930,1310467,1757682,2223882,2671097,1520266,1547883,2433681,2461298,279244,300885,445887,467528,197896,225513,209799,237416,1756354,1777995,2203569,2225210,1966153,1987794,1993770,2015411],
 [1088402,2001817,4618220,9046999,846455,874072,6821789,6843430,5292031,9720810,6205446,10634225,1520266,1547883,2433681,2461298,7495600,7517241,8409015,8430656,3744148,3771765,8172927,8200544,1756354,1777995,2203569,2225210,5947717,5969358,5975334,5996975],
 [1088402,2001817,4618220,9046999,12791147,24763456,18766481,18788122,5292031,9720810,6205446,10634225,13464958,25437267,14378373,26350682,19440292,19461933,20353707,20375348,15688840,27661149,20117619,32089928,21664174,21685815,26092953,26114594,5947717,5969358,5975334,5996975],
 [20934059,21847474,7708439,12137218,35727023,47699332,41702357,41723998,8796841,29981058,9710256,33570101,13879549,25851858,17468592,29440901,19854883,19876524,23443926,23465567,23589805,35562114,39963276,51935585,29565139,29586780,45938610,45960251,5947717,5969358,5975334,5996975],
 [354639479,355552894,341413859,345842638,286006088,297978397,125128712,125150353,8796841,29981058,9710256,33570101,56661082,109278213,57574497,112867256,229489126,270155589,230402541,273744632,43435462,118988469,47864241,135361940,216263506,279865845,220692285,296239316,160855735,327730086,172828044,339702395],
 [394330793,437611150,404041049,427900894,286006088,297978397,125128712,125150353,8796841,29981058,9710256,33570101,96352396,151645155,139632753,194925512,269180440,312522531,312460797,355802888,106062652,161355411,129922497,185215256,278890696,322232787,302750541,346092632,160855735,327730086,172828044,339702395],
 [685608701,1020166966,404041049,427900894,825241454,880534213,125128712,125150353,257707807,281567652,592266072,616125917,96352396,151645155,139632753,194925512,560458348,603800439,895016613,938358704,397340560,452633319,421200405,476493164,278890696,322232787,302750541,346092632,700091101,743433192,755383860,798725951],
 [2184425753,4017801070,404041049,427900894,825241454,880534213,3079442366,3122784457,1756524859,1780384704,3589900176,3613760021,1303891540,1359184299,3137266857,3192559616,560458348,603800439,895016613,938358704,397340560,452633319,421200405,476493164,2651541472,2694883563,2675401317,2718743408,2198908153,2242250244,2254200912,2297543003],
 [2184425753,4017801070,1277874773,2175568342,1699075178,1754367937,3079442366,3122784457,2630358583,3528052152,4463733900,5361427469,3051558988,3106851747,4884934305,4940227064,560458348,603800439,895016613,938358704,397340560,452633319,421200405,476493164,3525375196,3568717287,4423068765,4466410856,3946575601,3989917692,4001868360,4045210451],
 [2184425753,4017801070,9269660825,18159140446,1699075178,1754367937,13692729590,13736071681,10622144635,19511624256,12455519952,21344999573,3051558988,3106851747,4884934305,4940227064,15045213400,15088555491,16878588717,16921930808,7515292888,7570585647,16404772509,16460065268,3525375196,3568717287,4423068765,4466410856,11938361653,11981703744,11993654412,12036996503],
 [2184425753,4017801070,9269660825,18159140446,25674433334,49705084249,37668087746,37711429837,10622144635,19511624256,12455519952,21344999573,27026917144,51057568059,28860292461,52890943376,39020571556,39063913647,40853946873,40897288964,31490651044,55521301959,40380130665,64410781580,43484305456,43527647547,52373785077,52417127168,11938361653,11981703744,11993654412,12036996503],
 [42017680670,43851055987,15471887648,24361367269,71709915074,95740565989,83703569486,83746911577,17656313401,60176821116,19489688718,67380481313,27858859087,51889510002,35062519284,59093170199,39852513499,39895855590,47056173696,47099515787,47348547805,71379198720,80213385582,104244036497,59342202217,59385544308,92207039994,92250382085,11938361653,11981703744,11993654412,12036996503],
 [711819604922,713652980239,685273811900,694163291521,574061358263,598092009178,251154050549,251197392640,17656313401,60176821116,19489688718,67380481313,113727595744,219339991065,115560971061,226543651262,460622212282,542247298779,462455587599,549450958976,87181802722,238829679783,96071282343,271694517560,434076419260,561736987497,442965898881,594601825274,322863965623,657808269840,346894616538,681838920755],
 [791486114756,878356284787,810975803474,858866596069,574061358263,598092009178,251154050549,251197392640,17656313401,60176821116,19489688718,67380481313,193394105578,304376785779,280264275609,391246955810,540288722116,627284093493,627158892147,714154263524,212883794296,323866474497,260774586891,371757267092,559778410834,646773782211,607669203429,694664574806,322863965623,657808269840,346894616538,681838920755],
 [1376127176144,2047638407563,810975803474,858866596069,1656391451753,1767374131954,251154050549,251197392640,517260580075,565151372670,1188771811494,1236662604089,193394105578,304376785779,280264275609,391246955810,1124929783504,1211925154881,1796441014923,1883436386300,797524855684,908507535885,845415648279,956398328480,559778410834,646773782211,607669203429,694664574806,1405194059113,1492189430490,1516176739314,1603172110691],
 [4384493345948,8064370747171,810975803474,858866596069,1656391451753,1767374131954,6180934360871,6267929732248,3525626749879,3573517542474,7205504151102,7253394943697,2617119213994,2728101894195,6296996615217,6407979295418,1124929783504,1211925154881,1796441014923,1883436386300,797524855684,908507535885,845415648279,956398328480,5322067764802,5409063136179,5369958557397,5456953928774,4413560228917,4500555600294,4524542909118,4611538280495],
 [4384493345948,8064370747171,2564898987638,4366712964397,3410314635917,3521297316118,6180934360871,6267929732248,5279549934043,7081363910802,8959427335266,10761241312025,6124965582322,6235948262523,9804842983545,9915825663746,1124929783504,1211925154881,1796441014923,1883436386300,797524855684,908507535885,845415648279,956398328480,7075990948966,7162986320343,8877804925725,8964800297102,7921406597245,8008401968622,8032389277446,8119384648823],
 [4384493345948,8064370747171,18605690233706,36448295456533,3410314635917,3521297316118,27483495159431,27570490530808,21320341180111,39162946402938,25000218581334,42842823804161,6124965582322,6235948262523,9804842983545,9915825663746,30198146105836,30285141477213,33878023507059,33965018878436,15084392917588,15195375597789,32926998140415,33037980820616,7075990948966,7162986320343,8877804925725,8964800297102,23962197843313,24049193214690,24073180523514,24160175894891],
 [4384493345948,8064370747171,18605690233706,36448295456533,51532688374121,99766044792526,75605868897635,75692864269012,21320341180111,39162946402938,25000218581334,42842823804161,54247339320526,102480695738931,57927216721749,106160573140154,78320519844040,78407515215417,82000397245263,82087392616640,63206766655792,111440123074197,81049371878619,129282728297024,87279947179306,87366942550683,105122552402133,105209547773510,23962197843313,24049193214690,24073180523514,24160175894891]]
def tb (c:Nat):List Nat:=tbL.getD c []
def twR (T:List Nat) (s:Nat):Nat->List Nat
 | 0=>T
 | n+1=>tst (twR T s n) ((s+n) / 32 % 32) ((s+n) % 32)
theorem tab_row:∀ c:Nat,c < 32->twR (tb c) (c*128) 128=tb (c+1):=by decide +kernel
def twS (m:Nat):List Nat:=twR (tb (m / 128)) (m / 128*128) (m % 128)
theorem twS_succ {m:Nat} (hm:m < 4096):twS (m+1)=tst (twS m) (m / 32 % 32) (m % 32):=by
 have e:m / 128*128+m % 128=m:=by omega
 have h:twR (tb (m / 128)) (m / 128*128) (m % 128+1)=tst (twS m) (m / 32 % 32) (m % 32):=by
  show tst (twR _ _ _) ((m / 128*128+m % 128) / 32 % 32) ((m / 128*128+m % 128) % 32)=_
  rw [e]; rfl
 rw [<- h]
 by_cases c:m % 128+1 < 128
 ·unfold twS
  rw [show (m+1) / 128=m / 128 by omega,show (m+1) % 128=m % 128+1 by omega]
 ·rw [show m % 128+1=128 by omega,tab_row (m / 128) (by omega)]
  unfold twS
  rw [show (m+1) / 128=m / 128+1 by omega,show (m+1) % 128=0 by omega]
  rfl
theorem tst_len (T:List Nat) (f g:Nat):(tst T f g).length=T.length:=by
 unfold tst
 split
 ·split
  ·rfl
  ·exact List.length_set
 ·split
  ·split
   ·rfl
   ·exact List.length_set
  ·rfl
theorem twS_len:∀ m,m<=4096->(twS m).length=32:=by
 intro m
 induction m with
 | zero=>intro _; rfl
 | succ m ih=>intro hm; rw [twS_succ (by omega),tst_len]; exact ih (by omega)
theorem getD_set (T:List Nat) (n x c:Nat) (hn:n < T.length):(T.set n c).getD x 0=if x=n then c else T.getD x 0:=by
 by_cases e:x=n
 ·subst e; simp [List.getD,hn]
 ·rw [if_neg e]; simp [List.getD,List.getElem?_set_ne (fun z=>e z.symm)]
theorem tst_ge {T:List Nat} (hT:T.length=32) {f g:Nat} (hf:f < 32) (hg:g < 32):(∀ x,T.getD x 0<=(tst T f g).getD x 0)/\(kdT f g=2->T.getD f 0+T.getD g 0<=2*(tst T f g).getD (nmT f g) 0)/\(kdT f g=3->T.getD f 0+T.getD g 0<=(tst T f g).getD (nmT f g) 0):=by
 by_cases k2:kdT f g=2
 ·have hn:=nm_lt hf hg (.inl k2)
  unfold tst
  rw [if_pos k2]
  by_cases c:(T.getD f 0+T.getD g 0+1) / 2<=T.getD (nmT f g) 0
  ·rw [if_pos c]
   exact ⟨fun _=>Nat.le_refl _,fun _=>by omega,fun k3=>absurd (k2.symm.trans k3) (by decide)⟩
  ·rw [if_neg c]
   refine ⟨fun x=>?_,fun _=>?_,fun k3=>absurd (k2.symm.trans k3) (by decide)⟩
   ·rw [getD_set _ _ _ _ (by omega)]
    split
    ·rename_i e; rw [e]; omega
    ·exact Nat.le_refl _
   ·rw [getD_set _ _ _ _ (by omega),if_pos rfl]; omega
 ·by_cases k3:kdT f g=3
  ·have hn:=nm_lt hf hg (.inr k3)
   unfold tst
   rw [if_neg k2,if_pos k3]
   by_cases c:T.getD f 0+T.getD g 0<=T.getD (nmT f g) 0
   ·rw [if_pos c]
    exact ⟨fun _=>Nat.le_refl _,fun z=>absurd z k2,fun _=>c⟩
   ·rw [if_neg c]
    refine ⟨fun x=>?_,fun z=>absurd z k2,fun _=>?_⟩
    ·rw [getD_set _ _ _ _ (by omega)]
     split
     ·rename_i e; rw [e]; omega
     ·exact Nat.le_refl _
    ·rw [getD_set _ _ _ _ (by omega),if_pos rfl]
     exact Nat.le_refl _
  ·unfold tst
   rw [if_neg k2,if_neg k3]
   exact ⟨fun _=>Nat.le_refl _,fun z=>absurd z k2,fun z=>absurd z k3⟩
theorem twS_mono (m:Nat):∀ k x,m+k<=4096->(twS m).getD x 0<=(twS (m+k)).getD x 0
 | 0,_,_=>Nat.le_refl _
 | k+1,x,h=>by
  have a:=twS_mono m k x (by omega)
  have b:=(tst_ge (twS_len (m+k) (by omega)) (show (m+k) / 32 % 32 < 32 by omega) (show (m+k) % 32 < 32 by omega)).1 x
  rw [show m+(k+1)=(m+k)+1 by omega,twS_succ (by omega)]
  omega
theorem twS_end:(tb 32).length=32/\(tb 32).all (fun x=>decide (x<=281474976710656))=true:=by decide +kernel
theorem twS_small {m:Nat} (hm:m<=4096) {x:Nat} (hx:x < 32):(twS m).getD x 0<=281474976710656:=by
 have h:=List.all_eq_true.1 twS_end.2
 have a:=twS_mono m (4096 - m) x (by omega)
 have e:twS (m+(4096 - m))=tb 32:=by rw [show m+(4096 - m)=4096 by omega]; rfl
 rw [e] at a
 have hl:=twS_end.1
 have b:=h ((tb 32).getD x 0) (by
  rw [List.getD,List.getElem?_eq_getElem (by omega)]
  exact List.getElem_mem _)
 have:=of_decide_eq_true b
 omega
def TLo (m:Nat) (R:Nat->Int):Prop:=∀ f,f < 32->-(4000*((twS m).getD f 0:Int))<=R f
theorem rs1_tlo {m:Nat} (hm:m < 4096) {R:Nat->Int} (h:TLo m R) {b:Bool} {R':Nat->Int} {b':Bool} {f g:Nat} (ef:f=m / 32 % 32) (eg:g=m % 32) (e:rs1 R b f g=some (R',b')):TLo (m+1) R':=by
 have hf:f < 32:=by omega
 have hg:g < 32:=by omega
 have s:=rs1_is R b hf hg
 rw [e] at s
 have hT:=tst_ge (twS_len m (by omega)) hf hg
 have hS:twS (m+1)=tst (twS m) f g:=by rw [twS_succ hm,ef,eg]
 cases s with
 | same _ =>
  intro x hx
  have:=h x hx
  have:=hT.1 x
  rw [hS]
  omega
 | put n c q1 q2 hn en hc hk =>
  intro x hx
  rw [hS]
  unfold upd
  split
  ·rename_i ex
   have a:=h f hf
   have a':=h g hg
   rcases hk with ⟨k,ec⟩ | ⟨k,ec⟩
   ·have:=hT.2.1 k
    rw [ex,en,ec]
    omega
   ·have:=hT.2.2 k
    rw [ex,en,ec]
    omega
  ·have:=h x hx
   have:=hT.1 x
   omega
theorem rF_tlo {r:Nat} (hr:r < 4) {R:Nat->Int} (h:TLo (r*1024) R):∀ k,k<=1024->∀ R' b,rF R k=some (R',b)->TLo (r*1024+k) R':=by
 intro k
 induction k with
 | zero=>intro _ R' b e; rw [rF] at e; cases e; rw [Nat.add_zero]; exact h
 | succ k ih =>
  intro hk R' b e
  rw [rF] at e
  rw [<- Nat.add_assoc]
  generalize hp:rF R k=p at e
  match p,hp,e with
  | some (R1,b1),hp,e =>
   exact rs1_tlo (by omega) (ih (by omega) R1 b1 hp) (by omega) (by omega) e
theorem itF_tlo {R:Nat->Int} (h:∀ f,f < 32->-4000<=R f):∀ n,n<=4->∀ R',itF R n=some R'->TLo (n*1024) R':=by
 intro n
 induction n with
 | zero =>
  intro _ R' e
  cases e
  intro f hf
  have:=h f hf
  have:(twS (0*1024)).getD f 0=1:=(show ∀ f:Nat,f < 32->(twS (0*1024)).getD f 0=1 by decide +kernel) f hf
  rw [this]
  omega
 | succ n ih =>
  intro hn R' e
  obtain ⟨R1,b,e1,e2⟩:=itF_succ e
  rw [show (n+1)*1024=n*1024+1024 by omega]
  exact rF_tlo (by omega) (ih (by omega) R1 e1) 1024 (Nat.le_refl _) R' b e2
def Nov (R:Nat->Int):Prop:=∀ k,k<=1024->∀ R' b,rF R k=some (R',b)->∀ f,f < 32->-2000000000000000000<=R' f/\R' f<=1000000
theorem bd_lo {M:Nat->Int} {L:Int} (hL:0<=L) (h:Lo L M) {f:Nat} (hf:f < 32):-L - 1<=bd M f:=by
 have a:=fs_lt f hf
 have b:=ss_lt f hf
 have:=h (fs f*8+ss f) (by omega)
 unfold bd
 split
 ·have:=tdiv2_le (M (fs f*8+ss f))
  omega
 ·omega
theorem doc_nov {l:List Int} (hl:okL l) {n:Nat} {R:Nat->Int} (h:itF (fun f=>l.getD f 0) n=some R):Nov R:=by
 have hi:=itF_hi (hi_lay hl) n R h
 intro k hk R' b e f hf
 have up:R' f<=1000000:=by
  have:=(rF_inv hi k hk R' b e).le f hf
  have:=hi f hf
  unfold NB at this
  omega
 refine ⟨?_,up⟩
 cases he:ovE l with
 | true =>
  have hn:n < 4:=by
   rcases Nat.lt_or_ge n 4 with c | c
   ·exact c
   ·have:=itF_none (doc_empty4 hl he) (n - 4)
    rw [show 4+(n - 4)=n by omega,h] at this
    cases this
  have a:=rF_tlo hn (itF_tlo (fun f hf=>by
   show -4000<=l.getD f 0
   rcases isB_or (hl.2 f hf) with q | q
   ·rw [q]; decide
   ·exact q.1) n (by omega) R h) k hk R' b e f hf
  have c:=twS_small (m:=n*1024+k) (by omega) hf
  omega
 | false =>
  have hT:=(raw_lay hl).tc he
  obtain ⟨R1,e1,a,hi1⟩:=doc_some hl he n
  have:R1=R:=Option.some.inj (e1.symm.trans h)
  subst this
  obtain ⟨R2,b2,e2,a2,_⟩:=rF_ab hT a hi1 k hk
  have e3:(R',b)=(R2,b2):=Option.some.inj (e.symm.trans e2)
  cases e3
  have x:=a2 f hf
  have hlo:Lo (8000*6 ^ 8+1) (sharp (lay l 32)):=sharp_lo (fun a _=>(lay_range l 32 hl.2 a).1)
  have y:-(8000*6 ^ 8+1) - 1<=bd (sharp (lay l 32)) f:=bd_lo (by decide) hlo hf
  have z:(8000*6 ^ 8+1:Int)=13436928001:=by decide
  rw [z] at y
  have x':bd (sharp (lay l 32)) f<=R' f:=x
  omega
end Go.Proofs.YtffajooegiempaaGreatDoor

namespace Go.Proofs.YtffajooegiempaaGreatDoor
theorem TC.below_rd {C T:Nat->Int} (hC:TC C) (h:Le C T) (hi:∀ a,a < 64->T a<=NB):Le C (rdF T 8):=by
 intro a ha
 rw [rdF_at]
 have h1:=h a ha
 split
 ·rename_i q
  have e:a=a / 9*8+a / 9:=by omega
  have h3:=hi a ha
  rcases hC.even (a / 9) q.2.1 with z | z
  ·rw [<- e] at z
   have:=q.2.2
   omega
  ·rw [<- e] at z
   omega
 ·exact h1
theorem TC.below_ah {C T:Nat->Int} (hC:TC C) (h:Le C T) (hi:∀ a,a < 64->T a<=NB):∀ k,k<=64->Le C (ahF T k):=by
 intro k
 induction k with
 | zero=>intro _; exact h
 | succ k ih =>
  intro hk
  have h1:=ih (by omega)
  have hi1:∀ a,a < 64->ahF T k a<=NB:=fun a ha=>Int.le_trans (ahF_le T k a) (hi a ha)
  rw [ahF]
  generalize ahF T k=S at h1 hi1
  intro a ha
  unfold ah1
  split
  ·rename_i q
   unfold upd
   split
   ·rename_i e
    obtain ⟨q1,q2,q3⟩:=pl_fin q.1
    have i8:k / 8 < 8:=by omega
    have j8:k % 8 < 8:=by omega
    have l1:=h1 (k / 8*8+k / 8) (by omega)
    have l2:=h1 (k % 8*8+k % 8) (by omega)
    have u1:=hi1 (k / 8*8+k / 8) (by omega)
    have u2:=hi1 (k % 8*8+k % 8) (by omega)
    have hh:=(hC.half (k / 8) (k % 8) i8 j8 (by omega) (by omega)).2
    rw [show k / 8*8+k % 8=k by omega] at hh
    rw [e,q3]
    have t:=tdiv2 (S (k / 8*8+k / 8)+S (k % 8*8+k % 8))
    rcases Int.lt_or_le (S (k / 8*8+k / 8)+S (k % 8*8+k % 8)) 0 with c | c
    ·rw [t.2 c]; omega
    ·rw [t.1 c]; omega
   ·exact h1 a ha
  ·exact h1 a ha
theorem TC.below_sharp {C M:Nat->Int} (hC:TC C) (h:Le C M) (hi:∀ a,a < 64->M a<=NB):Le C (sharp M):=by
 have h1:=below_fw hC.tri h hi 8 (Nat.le_refl _)
 have i1:∀ a,a < 64->fw M 8 a<=NB:=fun a ha=>Int.le_trans (fw_le M 8 a) (hi a ha)
 have h2:=hC.below_rd h1 i1
 exact hC.below_ah h2 (fun a ha=>Int.le_trans (rdF_le _ 8 a) (i1 a ha)) 64 (Nat.le_refl _)
theorem leF_iff {M N:Nat->Int}:∀ {n:Nat},leF M N n=true ↔ ∀ k,k < n->M k<=N k:=by
 intro n
 induction n with
 | zero=>exact ⟨fun _ k hk=>absurd hk (by omega),fun _=>rfl⟩
 | succ n ih =>
  show (leF M N n && decide (M n<=N n))=true ↔ _
  rw [Bool.and_eq_true,ih,decide_eq_true_eq]
  constructor
  ·rintro ⟨h1,h2⟩ k hk
   rcases Nat.lt_or_eq_of_le (Nat.lt_succ_iff.1 hk) with e | e
   ·exact h1 k e
   ·rw [e]; exact h2
  ·intro h
   exact ⟨fun k hk=>h k (by omega),h n (by omega)⟩
theorem conF_no {M:Nat->Int}:∀ {n:Nat},(∀ i,i < n->0<=M (i*8+opp i))->conF M n=false:=by
 intro n
 induction n with
 | zero=>intro _; rfl
 | succ n ih =>
  intro h
  rw [conF,ih (fun i hi=>h i (by omega))]
  have:=h n (by omega)
  rw [decide_eq_false (by omega)]
  rfl
theorem lay_above {C:Nat->Int} {p:List Int} (hC:TC C) (hp:okL p) (h:∀ f,f < 32->bd C f<=p.getD f 0):Le C (lay p 32):=by
 intro a ha
 have e:a=a / 8*8+a % 8:=by omega
 have hi:a / 8 < 8:=by omega
 have hj:a % 8 < 8:=by omega
 rw [e]
 generalize a / 8=i at hi
 generalize a % 8=j at hj
 by_cases e1:j=opp i
 ·rw [e1,lay_opp p i hi,hC.zero i hi]; exact Int.le_refl _
 ·rw [lay_nf p hi hj e1]
  have top:∀ k,k < 64->C k<=NB:=fun k hk=>by
   rcases hC.top k hk with q | q
   ·omega
   ·unfold NB; omega
  by_cases e2:i=j
  ·subst e2
   rw [nf_self]
   have b:=bv_lo p hi
   by_cases q:p.getD i 0=NB
   ·rw [b.1 q]; exact top _ (by omega)
   ·rw [b.2 q]
    have h1:=h i (by omega)
    have h2:=(isB_or (hp.2 i (by omega))).resolve_left q
    by_cases z:C (i*8+i)=NB
    ·rw [(hC.lo hi).1 z] at h1
     unfold NB at h1
     omega
    ·have:=((hC.lo hi).2 z).1
     omega
  ·rw [bv_hi p hi hj e2 e1]
   have h1:=h (nf i j) (nf_ok i hi j hj e1).1
   rw [bd_nf hC.sym hi hj e2 e1] at h1
   exact h1
theorem lay_top {p:List Int} (hp:okL p):∀ a,a < 64->lay p 32 a<=NB:=fun a _=>(lay_range p 32 hp.2 a).2
theorem bd_below {C:Nat->Int} {p:List Int} (hp:okL p) (h:Le C (lay p 32)):∀ f,f < 32->bd C f<=p.getD f 0:=by
 intro f hf
 have a:=fs_lt f hf
 have b:=ss_lt f hf
 have:=bd_le (o:=p) (M:=fun k=>if k < 64 then C k else lay p 32 k) hp.2 (fun k=>by
  show (if k < 64 then C k else lay p 32 k)<=_
  split
  ·rename_i hk; exact h k hk
  ·exact Int.le_refl _) f hf
 have e:bd (fun k=>if k < 64 then C k else lay p 32 k) f=bd C f:=by
  unfold bd
  simp only [if_pos (show fs f*8+ss f < 64 by omega)]
 rw [e] at this
 exact this
def mxR (R S:Nat->Int) (f:Nat):Int:=if R f < S f then S f else R f
theorem jF_eq (M N:Nat->Int):∀ k a,jF M N k a=if a < k/\M a < N a then N a else M a:=by
 intro k
 induction k with
 | zero=>intro a; rw [if_neg (by omega)]; rfl
 | succ k ih =>
  intro a
  rw [jF]
  have hk:jF M N k k=M k:=by rw [ih,if_neg (by omega)]
  rw [hk]
  by_cases e:a=k
  ·subst e
   by_cases c:M a < N a
   ·rw [if_pos c,upd_same,if_pos ⟨by omega,c⟩]
   ·rw [if_neg c,ih,if_neg (by omega),if_neg (fun z=>c z.2)]
  ·have:(if M k < N k then upd (jF M N k) k (N k) else jF M N k) a=jF M N k a:=by
    split
    ·exact upd_other _ _ e
    ·rfl
   rw [this,ih]
   by_cases q:a < k/\M a < N a
   ·rw [if_pos q,if_pos ⟨by omega,q.2⟩]
   ·rw [if_neg q,if_neg (fun z=>q ⟨by omega,z.2⟩)]
theorem bd_mono {M N:Nat->Int} {f:Nat} (hM:M (fs f*8+ss f)<=NB) (hN:N (fs f*8+ss f)<=NB) (h:M (fs f*8+ss f)<=N (fs f*8+ss f)):bd M f<=bd N f:=by
 unfold bd
 generalize M (fs f*8+ss f)=x at *
 generalize N (fs f*8+ss f)=y at *
 have tx:=tdiv2 x
 have ty:=tdiv2 y
 have hx:=Int.lt_or_le x 0
 have hy:=Int.lt_or_le y 0
 unfold NB at *
 by_cases e:fs f=ss f
 ·by_cases qy:y=1000000
  ·rw [if_neg (show ¬ (fs f=ss f/\y ≠ 1000000) from fun z=>z.2 qy)]
   split
   ·rcases hx with c | c
    ·rw [tx.2 c]; omega
    ·rw [tx.1 c]; omega
   ·omega
  ·rw [if_pos (show fs f=ss f/\y ≠ 1000000 from ⟨e,qy⟩),if_pos (show fs f=ss f/\x ≠ 1000000 from ⟨e,by omega⟩)]
   rcases hx with c | c
   ·rw [tx.2 c]
    rcases hy with d | d
    ·rw [ty.2 d]; omega
    ·rw [ty.1 d]; omega
   ·rw [tx.1 c,ty.1 (by omega)]; omega
 ·rw [if_neg (show ¬ (fs f=ss f/\y ≠ 1000000) from fun z=>e z.1),if_neg (show ¬ (fs f=ss f/\x ≠ 1000000) from fun z=>e z.1)]
  exact h
theorem jo_bd {M N:Nat->Int} (hM:∀ a,a < 64->M a<=NB) (hN:∀ a,a < 64->N a<=NB) {f:Nat} (hf:f < 32):bd (jF M N 64) f=mxR (bd M) (bd N) f:=by
 have k:fs f*8+ss f < 64:=by have:=fs_lt f hf; have:=ss_lt f hf; omega
 have e:=jF_eq M N 64 (fs f*8+ss f)
 unfold mxR
 by_cases c:M (fs f*8+ss f) < N (fs f*8+ss f)
 ·rw [if_pos ⟨k,c⟩] at e
  have h1:bd (jF M N 64) f=bd N f:=by unfold bd; rw [e]
  have h2:=bd_mono (hM _ k) (hN _ k) (Int.le_of_lt c)
  rw [h1]
  split <;> omega
 ·rw [if_neg (fun z=>c z.2)] at e
  have h1:bd (jF M N 64) f=bd M f:=by unfold bd; rw [e]
  have h2:=bd_mono (f:=f) (hN _ k) (hM _ k) (by omega)
  rw [h1,if_neg (by omega)]
end Go.Proofs.YtffajooegiempaaGreatDoor

