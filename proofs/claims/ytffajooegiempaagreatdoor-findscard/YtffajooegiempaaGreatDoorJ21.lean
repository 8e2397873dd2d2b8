import Derived.Test.YtffajooegiempaaGreatDoorJ20
set_option maxRecDepth 100000
set_option maxHeartbeats 6400000
namespace Go.Proofs.YtffajooegiempaaGreatDoor
variable {s:ByteArray} {d:Nat × Bool} {m m':Rd}
def kindOf (k:Int):Int:=if k=0 then 61 else if k=1 then 33 else if k=2 then 63 else 64
def Cor (x:Ds) (u:St):Prop:=u.kind=kindOf x.kind/\u.var=x.target/\u.star=x.any/\u.sg=x.sg/\u.num=x.num
structure CorL (F:List Ds) (S:List St):Prop where
 len:F.length=S.length
 cor:∀ (i:Nat) (x:Ds) (u:St),F[i]?=some x->S[i]?=some u->Cor x u
def Pre {α:Type} (l l':List α):Prop:=∀ i,i < l.length->l'[i]?=l[i]?
theorem Pre.refl {α:Type} (l:List α):Pre l l:=fun _ _=>rfl
theorem Pre.trans {α:Type} {a b c:List α} (h:Pre a b) (k:Pre b c) (hl:a.length<=b.length):Pre a c:=fun i hi=>(k i (by omega)).trans (h i hi)
theorem Pre.snoc {α:Type} (l:List α) (x:α):Pre l (l ++ [x]):=fun _ hi=>List.getElem?_append_left hi
def StmOk (F:List Ds) (S:List St) (R:Int->Int->Nat->Nat->Prop) (p b:Int) (a e:Nat):Prop :=
 ∃ x u,F[a]?=some x/\S[a]?=some u/\x.parent=p/\x.block=b/\u.fin=e/\a < e /\
  (((x.kind=0 \/ x.kind=1)/\e=a+1) \/ (x.kind=3/\R a 0 (a+1) e) \/ (x.kind=2/\a+1<=u.mid/\u.mid<=e/\R a 0 (a+1) u.mid/\R a 1 u.mid e))
def Blk (F:List Ds) (S:List St):Nat->Int->Int->Nat->Nat->Prop
 | 0,_,_,a,c=>a=c
 | f+1,p,b,a,c=>a=c \/ ∃ e,e<=c/\StmOk F S (Blk F S f) p b a e/\Blk F S f p b e c
theorem StmOk.into {F F':List Ds} {S S':List St} {R R':Int->Int->Nat->Nat->Prop} {p b:Int} {a e:Nat} (h:StmOk F S R p b a e) (h1:F'[a]?=F[a]?) (h2:S'[a]?=S[a]?) (h3:∀ p b i j,a < i->i<=j->j<=e->R p b i j->R' p b i j):StmOk F' S' R' p b a e:=by
 obtain ⟨x,u,hx,hu,hp,hb,hf,hae,hk⟩:=h
 refine ⟨x,u,by rw [h1]; exact hx,by rw [h2]; exact hu,hp,hb,hf,hae,?_⟩
 rcases hk with hk | ⟨k3,hk⟩ | ⟨k2,q1,q2,hk1,hk2⟩
 ·exact .inl hk
 ·exact .inr (.inl ⟨k3,h3 _ _ _ _ (by omega) (by omega) (Nat.le_refl _) hk⟩)
 ·exact .inr (.inr ⟨k2,q1,q2,h3 _ _ _ _ (by omega) q1 (by omega) hk1,h3 _ _ _ _ (by omega) q2 (Nat.le_refl _) hk2⟩)
theorem StmOk.lt {F:List Ds} {S:List St} {R:Int->Int->Nat->Nat->Prop} {p b:Int} {a e:Nat} (h:StmOk F S R p b a e):a < e:=by
 obtain ⟨x,u,hx,hu,hp,hb,hf,hae,hk⟩:=h
 exact hae
theorem Blk.succ {F:List Ds} {S:List St} {f:Nat}:∀ {p b:Int} {a c:Nat},Blk F S f p b a c->Blk F S (f+1) p b a c:=by
 induction f with
 | zero=>intro p b a c h; exact .inl h
 | succ f ih =>
  intro p b a c h
  rcases h with h | ⟨e,he,hs,hr⟩
  ·exact .inl h
  ·exact .inr ⟨e,he,hs.into rfl rfl (fun _ _ _ _ _ _ _ hR=>ih hR),ih hr⟩
theorem Blk.more {F:List Ds} {S:List St} {f:Nat} (g:Nat) {p b:Int} {a c:Nat} (h:Blk F S f p b a c):Blk F S (f+g) p b a c:=by
 induction g with
 | zero=>exact h
 | succ g ih=>exact ih.succ
theorem Blk.keep {F F':List Ds} {S S':List St} {f:Nat}:∀ {p b:Int} {a c:Nat},Blk F S f p b a c->(∀ i,a<=i->i < c->F'[i]?=F[i]?)->(∀ i,a<=i->i < c->S'[i]?=S[i]?)->Blk F' S' f p b a c:=by
 induction f with
 | zero=>intro p b a c h _ _; exact h
 | succ f ih =>
  intro p b a c h h1 h2
  rcases h with h | ⟨e,he,hs,hr⟩
  ·exact .inl h
  ·have hae:=hs.lt
   refine .inr ⟨e,he,hs.into (h1 a (by omega) (by omega)) (h2 a (by omega) (by omega)) (fun _ _ i j hi hij hj hR=>ih hR (fun k hk1 hk2=>h1 k (by omega) (by omega)) (fun k hk1 hk2=>h2 k (by omega) (by omega))),ih hr (fun k hk1 hk2=>h1 k (by omega) hk2) (fun k hk1 hk2=>h2 k (by omega) hk2)⟩
theorem CorL.snoc {F:List Ds} {S:List St} (h:CorL F S) {x:Ds} {u:St} (hc:Cor x u):CorL (F ++ [x]) (S ++ [u]):=by
 refine ⟨by simp [h.len],fun i y v hy hv=>?_⟩
 by_cases hi:i < F.length
 ·rw [List.getElem?_append_left hi] at hy
  rw [List.getElem?_append_left (by rw [<- h.len]; exact hi)] at hv
  exact h.cor i y v hy hv
 ·have hl:=h.len
  have:i=F.length:=by
   have:i < (F ++ [x]).length:=by
    rcases Nat.lt_or_ge i (F ++ [x]).length with h' | h'
    ·exact h'
    ·simp [List.getElem?_eq_none h'] at hy
   simp at this; omega
  subst this
  simp at hy
  rw [hl] at hv
  simp at hv
  subst hy; subst hv; exact hc
theorem CorL.set {F:List Ds} {S:List St} (h:CorL F S) {k:Nat} {u u':St} (hk:S[k]?=some u) (hc:∀ x,Cor x u->Cor x u'):CorL F (S.set k u'):=by
 refine ⟨by simp [h.len],fun i y v hy hv=>?_⟩
 rw [List.getElem?_set] at hv
 split at hv
 ·rename_i e
  subst e
  split at hv
  ·simp at hv; subst hv; exact hc y (h.cor k y u hy hk)
  ·cases hv
 ·exact h.cor i y v hy hv
structure Out (s:ByteArray) (z:Zt) (m:Rd) (z':Zt) (m':Rd):Prop where
 sync:Sync s z'.1 m'
 st:m'.state=115
 op:m'.op=m.op
 cor:CorL z'.2 m'.st
 preF:Pre z.2 z'.2
 preS:Pre m.st m'.st
 len:z.2.length<=z'.2.length
def Says (s:ByteArray) (n:Nat):Prop:=∀ (p b dp:Int) (z:Zt) (m:Rd),Sync s z.1 m->m.state=115->(m.op.length:Int)=dp->CorL z.2 m.st->Mz z < n ->
 Dead s (rStmts s n p b dp z).1 \/ ∃ m',Out s z m (rStmts s n p b dp z) m'/\(∃ f,Blk (rStmts s n p b dp z).2 m'.st f p b z.2.length (rStmts s n p b dp z).2.length)/\(pk s (rStmts s n p b dp z).1=0 \/ pk s (rStmts s n p b dp z).1=125)
theorem Dead.dStmts {z:Zt} (h:Dead s z.1) (n:Nat) (p b dp:Int):rStmts s n p b dp z=z:=by
 cases n with
 | zero=>rfl
 | succ n=>unfold rStmts; rw [if_pos (.inl h.dpk)]
theorem Dead.dBlock {z:Zt} (h:Dead s z.1) (n:Nat) (p b dp:Int):rBlockWith s (rStmts s n) p b dp z=z:=by
 unfold rBlockWith
 rw [h.dnd (by decide),Dead.dStmts (z:=(z.1,z.2)) h,h.dnd (by decide)]
theorem byte_115 (h:m.state=115) (c:Int):byteStep m c=startStep m c:=by unfold byteStep; rw [if_pos h]
theorem byte_125 (h:m.state=125) (c:Int):byteStep m c=if c=123 then some { m with op:=m.op.set (m.op.length - 1) { top m with second:=true },state:=115 } else none:=by
 rw [byte_cond (by rw [h]; decide)]; unfold condStep; rw [h,if_neg (by decide),if_neg (by decide),if_neg (by decide),if_neg (by decide),if_neg (by decide),if_neg (by decide),if_neg (by decide),if_neg (by decide),if_neg (by decide)]
theorem block_in {n:Nat} (H:Says s n) {z:Zt} (p b dp:Int) (h:Sync s z.1 m) (hs:m.state=115) (hop:0 < m.op.length) (hdp:(m.op.length:Int)=dp) (hc:CorL z.2 m.st) (hm:Mz z < n) :
  Dead s (nd s (rStmts s n p b dp z).1 125) \/ ∃ m2 m3,Out s z m (rStmts s n p b dp z) m2/\(∃ f,Blk (rStmts s n p b dp z).2 m2.st f p b z.2.length (rStmts s n p b dp z).2.length)/\shutStep m2=some m3/\Sync s (nd s (rStmts s n p b dp z).1 125) m3:=by
 rcases H p b dp z m h hs hdp hc hm with hd | ⟨m2,ho,hf,hpk⟩
 ·left; rw [hd.dnd (by decide)]; exact hd
 ·have hb:=byte_115 ho.st (pk s (rStmts s n p b dp z).1)
  have hop2:0 < m2.op.length:=by rw [ho.op]; exact hop
  by_cases e:pk s (rStmts s n p b dp z).1=125
  ·right
   rw [e] at hb
   have hst:startStep m2 125=shutStep m2:=by unfold startStep; rw [if_neg (by decide),if_neg (by decide),if_neg (by decide),if_pos ⟨rfl,hop2⟩]
   rw [hst] at hb
   obtain ⟨m3,hm3⟩:∃ m3,shutStep m2=some m3:=by
    simp only [shutStep]
    split
    ·exact ⟨_,rfl⟩
    ·exact ⟨_,rfl⟩
   refine ⟨m2,m3,ho,hf,hm3,?_⟩
   have en:nd s (rStmts s n p b dp z).1 125=adv (rStmts s n p b dp z).1:=if_pos e
   rw [en]
   exact ho.sync.aadv (by omega) (by rw [e,hb,hm3])
  ·left
   have e0:pk s (rStmts s n p b dp z).1=0:=hpk.elim id (fun h=>absurd h e)
   have en:nd s (rStmts s n p b dp z).1 125=stk (rStmts s n p b dp z).1:=if_neg e
   rw [en]
   refine ho.sync.adead ?_ (fun _=>?_)
   ·rw [hb,e0]; unfold startStep; rw [if_neg (by decide),if_neg (by decide),if_neg (by decide),if_neg (by omega)]
   ·unfold isDone; simp; intro _ h0; rw [h0] at hop2; exact absurd hop2 (by simp)
end Go.Proofs.YtffajooegiempaaGreatDoor

namespace Go.Proofs.YtffajooegiempaaGreatDoor
variable {s:ByteArray} {d:Nat × Bool} {m m':Rd}
theorem top_snoc {o:List Bk} {b:Bk} (h:m.op=o ++ [b]):top m=b/\m.op.take (m.op.length - 1)=o/\0 < m.op.length:=by
 unfold top
 rw [h]
 simp
theorem rValue_same (s:ByteArray) (d:Nat × Bool) (x:Ds):(rValue s d x).1.kind=x.kind/\(rValue s d x).1.target=x.target/\(rValue s d x).1.parent=x.parent/\(rValue s d x).1.block=x.block:=by
 unfold rValue
 split
 ·exact ⟨rfl,rfl,rfl,rfl⟩
 split
 ·exact ⟨rfl,rfl,rfl,rfl⟩
 ·exact ⟨rfl,rfl,rfl,rfl⟩
theorem rSecond_same (s:ByteArray) (d:Nat × Bool) (x:Ds) (f:Int):(rSecond s d x f).1.kind=x.kind/\(rSecond s d x f).1.target=x.target/\(rSecond s d x f).1.parent=x.parent/\(rSecond s d x f).1.block=x.block:=by
 unfold rSecond
 split
 ·exact ⟨rfl,rfl,rfl,rfl⟩
 ·exact ⟨rfl,rfl,rfl,rfl⟩
theorem rCond_same (s:ByteArray) (d:Nat × Bool) (x:Ds):(rCond s d x).1.kind=x.kind/\(rCond s d x).1.target=x.target/\(rCond s d x).1.parent=x.parent/\(rCond s d x).1.block=x.block:=by
 unfold rCond
 split
 ·exact ⟨rfl,rfl,rfl,rfl⟩
 ·exact rSecond_same _ _ _ _
def u0 (m:Rd) (k v:Int):St:=⟨k,v,false,[0,0,0,0],0,0,m.st.length+1⟩
def begun0 (m:Rd) (k v x:Int):Rd:={ m with st:=m.st ++ [u0 m k v],state:=x }
theorem begin_yes {k v x:Int} (h:m.st.length ≠ 20):beginStep m k v x=some (begun0 m k v x):=by unfold beginStep; rw [if_neg h]; rfl
theorem cur_begun (k v x:Int):cur (begun0 m k v x)=u0 m k v:=by unfold cur begun0; simp
theorem setCur_begun (k v x:Int) (u:St):(setCur (begun0 m k v x) u).st=m.st ++ [u]:=by unfold setCur begun0; simp
theorem start_full (hl:m.st.length=20) {c:Int} (hc:c ≠ 125):startStep m c=none:=by
 unfold startStep beginStep
 split
 ·first | rfl | rw [if_pos hl]
 split
 ·split
  ·first | rfl | rw [if_pos hl]
  ·rfl
 split
 ·first | rfl | rw [if_pos hl]
 ·rw [if_neg (fun e=>hc e.1)]
theorem simple_says {n:Nat} {z:Zt} {p b dp:Int} {x:Ds} {d1:Nat × Bool} {u:St} (hc:CorL z.2 m.st) (h20:¬ 20<=z.2.length) (hh:rHead s z.1 (newDs p b) dp=(x,d1)) (hk:x.kind=0 \/ x.kind=1) (hp:x.parent=p/\x.block=b) (hcor:Cor x u) (hfin:u.fin=m.st.length+1)
  (hr:Res s d1 (fun y=>y.state=115/\y.op=m.op/\y.st=m.st ++ [u])) :
  Dead s (rStmtWith s (rStmts s n) p b dp z).1 \/ ∃ m1,Out s z m (rStmtWith s (rStmts s n) p b dp z) m1/\∃ f,StmOk (rStmtWith s (rStmts s n) p b dp z).2 m1.st (Blk (rStmtWith s (rStmts s n) p b dp z).2 m1.st f) p b z.2.length (rStmtWith s (rStmts s n) p b dp z).2.length:=by
 have hb0:blocksOf x.kind=0:=by
  rcases hk with e | e <;> rw [e] <;> decide
 have hl:=hc.len
 rcases hr with hd | ⟨m1,h1,hst,hop,hS⟩
 ·left
  have e:rStmtWith s (rStmts s n) p b dp z=(d1,z.2):=by unfold rStmtWith; rw [if_neg h20,hh,if_pos hd.st]
  rw [e]; exact hd
 ·right
  have e:rStmtWith s (rStmts s n) p b dp z=(d1,z.2 ++ [x]):=by unfold rStmtWith; rw [if_neg h20,hh,if_neg (by rw [h1.ns]; decide)]; simp only; rw [hb0]; rfl
  rw [e]
  refine ⟨m1,⟨h1,hst,hop,by rw [hS]; exact hc.snoc hcor,Pre.snoc _ _,by rw [hS]; exact Pre.snoc _ _,by simp⟩,0,x,u,by simp,by rw [hS,hl]; simp,hp.1,hp.2,by rw [hfin,<- hl]; simp,by simp,.inl ⟨hk,by simp⟩⟩
theorem blocks_says {n:Nat} (H:Says s n) {z:Zt} {p b dp:Int} {x:Ds} {d1:Nat × Bool} {u:St} (hz:z.1.2=false) (hm:Mz z<=n) (hdp:(m.op.length:Int)=dp) (hc:CorL z.2 m.st) (h20:¬ 20<=z.2.length) (hh:rHead s z.1 (newDs p b) dp=(x,d1)) (hk:x.kind=2 \/ x.kind=3) (hp:x.parent=p/\x.block=b) (hcor:Cor x u)
  (hr:Res s (nd s d1 123) (fun y=>y.state=115/\y.op=m.op ++ [⟨m.st.length,false⟩]/\y.st=m.st ++ [u])) :
  Dead s (rStmtWith s (rStmts s n) p b dp z).1 \/ ∃ m1,Out s z m (rStmtWith s (rStmts s n) p b dp z) m1/\∃ f,StmOk (rStmtWith s (rStmts s n) p b dp z).2 m1.st (Blk (rStmtWith s (rStmts s n) p b dp z).2 m1.st f) p b z.2.length (rStmtWith s (rStmts s n) p b dp z).2.length:=by
 have hl:=hc.len
 have hMz:Mz z=21 - z.2.length:=by unfold Mz; rw [hz]; rfl
 by_cases hst1:d1.2=true
 ·left
  have e:rStmtWith s (rStmts s n) p b dp z=(d1,z.2):=by unfold rStmtWith; rw [if_neg h20,hh,if_pos hst1]
  rw [e]
  have epk:pk s d1=0:=by unfold pk; rw [hst1]; rfl
  have en:nd s d1 123=d1:=by unfold nd; rw [if_neg (by rw [epk]; decide),<- hst1]
  rw [en] at hr
  rcases hr with hd | ⟨m1,h1,_⟩
  ·exact hd
  ·exact absurd h1.ns (by rw [hst1]; decide)
 obtain ⟨z1,hz1⟩:∃ z1,z1=rBlockWith s (rStmts s n) z.2.length 0 (dp+1) (d1,z.2 ++ [x]):=⟨_,rfl⟩
 have e3:x.kind=3->rStmtWith s (rStmts s n) p b dp z=z1:=by
  intro e; unfold rStmtWith; rw [if_neg h20,hh,if_neg hst1]; simp only; rw [e,hz1]; rfl
 have e2:x.kind=2->rStmtWith s (rStmts s n) p b dp z=rBlockWith s (rStmts s n) z.2.length 1 (dp+1) z1:=by
  intro e; unfold rStmtWith; rw [if_neg h20,hh,if_neg hst1]; simp only; rw [e,hz1]; rfl
 have deadAll:Dead s z1.1->Dead s (rStmtWith s (rStmts s n) p b dp z).1:=by
  intro hd
  rcases hk with e | e
  ·rw [e2 e,hd.dBlock]; exact hd
  ·rw [e3 e]; exact hd
 rcases hr with hd | ⟨m2,h2,s2,o2,t2⟩
 ·left
  refine deadAll ?_
  rw [hz1]
  unfold rBlockWith
  rw [Dead.dStmts (z:=(nd s d1 123,z.2 ++ [x])) hd]
  show Dead s (nd s (nd s d1 123) 125)
  rw [hd.dnd (by decide)]; exact hd
 have ht2:=top_snoc o2
 have hc2:CorL (z.2 ++ [x]) m2.st:=by rw [t2]; exact hc.snoc hcor
 have hM2:Mz (nd s d1 123,z.2 ++ [x]) < n:=by
  unfold Mz; rw [h2.ns]; simp; omega
 have hdp2:(m2.op.length:Int)=dp+1:=by rw [o2]; simp; omega
 have hz1':z1=(nd s (rStmts s n z.2.length 0 (dp+1) (nd s d1 123,z.2 ++ [x])).1 125,(rStmts s n z.2.length 0 (dp+1) (nd s d1 123,z.2 ++ [x])).2):=hz1
 rcases block_in H (z:=(nd s d1 123,z.2 ++ [x])) z.2.length 0 (dp+1) h2 s2 ht2.2.2 hdp2 hc2 hM2 with hd | ⟨m3,m4,ho3,⟨f3,hf3⟩,hsh,h4⟩
 ·left; refine deadAll ?_; rw [hz1']; exact hd
 obtain ⟨y,hy⟩:∃ y,y=rStmts s n z.2.length 0 (dp+1) (nd s d1 123,z.2 ++ [x]):=⟨_,rfl⟩
 rw [<- hy] at ho3 hf3 h4 hz1'
 have hlen1:z.2.length+1<=y.2.length:=by have:=ho3.len; simp at this; omega
 have hu3:m3.st[z.2.length]?=some u:=by
  rw [ho3.preS _ (by rw [t2]; simp; omega),t2,hl]; simp
 have hx3:y.2[z.2.length]?=some x:=by
  rw [ho3.preF _ (by simp)]; simp
 have hS3:m3.st.length=y.2.length:=ho3.cor.len.symm
 have o3:m3.op=m.op ++ [⟨m.st.length,false⟩]:=ho3.op.trans o2
 have ht3:=top_snoc o3
 have hg3:m3.st.getD m.st.length noSt=u:=by rw [<- hl,List.getD_eq_getElem?_getD,hu3]; rfl
 have preS0:∀ i,i < m.st.length->m3.st[i]?=m.st[i]?:=fun i hi=>by
  rw [ho3.preS i (by rw [t2]; simp; omega),t2,List.getElem?_append_left hi]
 have preF0:∀ i,i < z.2.length->y.2[i]?=z.2[i]?:=fun i hi=>by
  rw [ho3.preF i (by simp; omega)]; exact List.getElem?_append_left hi
 simp only [shutStep] at hsh
 rw [ht3.1,ht3.2.1] at hsh
 simp only at hsh
 rw [hg3] at hsh
 rcases hk with hk | hk
 ·-- two blocks
  have hku:u.kind=63:=by rw [hcor.1,hk]; rfl
  rw [if_pos ⟨hku,by first | rfl | trivial⟩] at hsh
  simp only [Option.some.injEq] at hsh
  rw [e2 hk,hz1']
  have hb4:=byte_125 (m:=m4) (by rw [<- hsh]) (pk s (nd s y.1 125))
  have o4:m4.op=m.op ++ [⟨m.st.length,false⟩]:=by rw [<- hsh]; exact o3
  have ht4:=top_snoc o4
  have hS4:m4.st=m3.st.set m.st.length { u with fin:=m3.st.length,mid:=m3.st.length }:=by rw [<- hsh]
  unfold rBlockWith
  simp only
  rcases h4.aneed (c:=123) (m':={ m4 with op:=m4.op.set (m4.op.length - 1) { top m4 with second:=true },state:=115 }) (by decide) (fun e=>by rw [e,if_pos rfl] at hb4; exact hb4) (fun e=>by rw [if_neg e] at hb4; exact hb4) (notDone (by rw [<- hsh]; show (125:Int) ≠ 115; decide)) with hd | ⟨m5,h5,e5⟩
  ·left
   rw [Dead.dStmts (z:=(nd s (nd s y.1 125) 123,y.2)) hd]
   show Dead s (nd s (nd s (nd s y.1 125) 123) 125)
   rw [hd.dnd (by decide)]; exact hd
  have o5:m5.op=m.op ++ [⟨m.st.length,true⟩]:=by rw [e5]; show m4.op.set _ _=_; rw [ht4.1,o4]; simp
  have t5:m5.st=m4.st:=by rw [e5]
  have ht5:=top_snoc o5
  have hc5:CorL y.2 m5.st:=by rw [t5,hS4,<- hl]; exact ho3.cor.set hu3 (fun w hw=>hw)
  have hM5:Mz (nd s (nd s y.1 125) 123,y.2) < n:=by
   unfold Mz; rw [h5.ns]; simp; omega
  have hdp5:(m5.op.length:Int)=dp+1:=by rw [o5]; simp; omega
  rcases block_in H (z:=(nd s (nd s y.1 125) 123,y.2)) z.2.length 1 (dp+1) h5 (by rw [e5]) ht5.2.2 hdp5 hc5 hM5 with hd | ⟨m6,m7,ho6,⟨f6,hf6⟩,hsh7,h7⟩
  ·left; exact hd
  right
  obtain ⟨y2,hy2⟩:∃ y2,y2=rStmts s n z.2.length 1 (dp+1) (nd s (nd s y.1 125) 123,y.2):=⟨_,rfl⟩
  rw [<- hy2] at ho6 hf6 h7 |-
  have hlen2:y.2.length<=y2.2.length:=ho6.len
  have o6:m6.op=m.op ++ [⟨m.st.length,true⟩]:=ho6.op.trans o5
  have ht6:=top_snoc o6
  have hl5:m5.st.length=y.2.length:=hc5.len.symm
  have hu6:m6.st[m.st.length]?=some { u with fin:=m3.st.length,mid:=m3.st.length }:=by
   rw [ho6.preS _ (by rw [hl5]; omega),t5,hS4,List.getElem?_set,if_pos rfl,if_pos (by rw [hS3]; omega)]
  have hg6:m6.st.getD m.st.length noSt={ u with fin:=m3.st.length,mid:=m3.st.length }:=by rw [List.getD_eq_getElem?_getD,hu6]; rfl
  simp only [shutStep] at hsh7
  rw [ht6.1,ht6.2.1] at hsh7
  simp only at hsh7
  rw [hg6,if_neg (by simp)] at hsh7
  simp only [Option.some.injEq] at hsh7
  have hS7:m7.st=m6.st.set m.st.length { u with fin:=m6.st.length,mid:=m3.st.length }:=by rw [<- hsh7]
  have hS6:m6.st.length=y2.2.length:=ho6.cor.len.symm
  have far7:∀ i,i ≠ m.st.length->m7.st[i]?=m6.st[i]?:=fun i hi=>by rw [hS7,List.getElem?_set,if_neg (fun e=>hi e.symm)]
  have far4:∀ i,i ≠ m.st.length->m4.st[i]?=m3.st[i]?:=fun i hi=>by rw [hS4,List.getElem?_set,if_neg (fun e=>hi e.symm)]
  have pre6:∀ i,i < y.2.length->m6.st[i]?=m4.st[i]?:=fun i hi=>by rw [ho6.preS i (by rw [hl5]; exact hi),t5]
  refine ⟨m7,⟨h7,by rw [<- hsh7]; exact ho6.st,by rw [<- hsh7],by rw [hS7]; exact ho6.cor.set hu6 (fun w hw=>hw),fun i hi=>(ho6.preF i (by show i < y.2.length; omega)).trans (preF0 i hi),fun i hi=>by
   rw [far7 i (by omega),pre6 i (by omega),far4 i (by omega),preS0 i hi],by show z.2.length<=y2.2.length; omega⟩,f3+f6,x,{ u with fin:=m6.st.length,mid:=m3.st.length },?_,?_,hp.1,hp.2,by show m6.st.length=y2.2.length; exact hS6,by show z.2.length < y2.2.length; omega,.inr (.inr ⟨hk,by show z.2.length+1<=m3.st.length; omega,by show m3.st.length<=y2.2.length; omega,?_,?_⟩)⟩
  ·show y2.2[z.2.length]?=some x
   rw [ho6.preF _ (by show z.2.length < y.2.length; omega)]; exact hx3
  ·rw [hS7,hl,List.getElem?_set,if_pos rfl,if_pos (by omega)]
  ·show Blk y2.2 m7.st (f3+f6) z.2.length 0 (z.2.length+1) m3.st.length
   rw [hS3]
   have hb:Blk y.2 m3.st f3 z.2.length 0 (z.2.length+1) y.2.length:=by
    have h:=hf3
    simp at h
    exact h
   exact (hb.keep (fun i h1 h2=>ho6.preF i h2) (fun i h1 h2=>by rw [far7 i (by omega),pre6 i h2,far4 i (by omega)])).more f6
  ·show Blk y2.2 m7.st (f3+f6) z.2.length 1 m3.st.length y2.2.length
   rw [hS3,Nat.add_comm]
   exact (hf6.keep (fun i _ _=>rfl) (fun i h1 h2=>far7 i (by have h1':y.2.length<=i:=h1; omega))).more f3
 ·-- one block
  have hku:u.kind=64:=by rw [hcor.1,hk]; rfl
  rw [if_neg (by rw [hku]; simp)] at hsh
  simp only [Option.some.injEq] at hsh
  right
  rw [e3 hk,hz1']
  have hS4:m4.st=m3.st.set m.st.length { u with fin:=m3.st.length }:=by rw [<- hsh]
  have far4:∀ i,i ≠ m.st.length->m4.st[i]?=m3.st[i]?:=fun i hi=>by rw [hS4,List.getElem?_set,if_neg (fun e=>hi e.symm)]
  refine ⟨m4,⟨h4,by rw [<- hsh]; exact ho3.st,by rw [<- hsh],by rw [hS4,<- hl]; exact ho3.cor.set hu3 (fun w hw=>hw),preF0,fun i hi=>by rw [far4 i (by omega),preS0 i hi],by show z.2.length<=y.2.length; omega⟩,f3,x,{ u with fin:=m3.st.length },hx3,?_,hp.1,hp.2,by show m3.st.length=y.2.length; exact hS3,by show z.2.length < y.2.length; omega,.inr (.inl ⟨hk,?_⟩)⟩
  ·rw [hS4,hl,List.getElem?_set,if_pos rfl,if_pos (by omega)]
  ·show Blk y.2 m4.st f3 z.2.length 0 (z.2.length+1) y.2.length
   have hb:Blk y.2 m3.st f3 z.2.length 0 (z.2.length+1) y.2.length:=by
    have h:=hf3
    simp at h
    exact h
   exact hb.keep (fun i _ _=>rfl) (fun i h1 h2=>far4 i (by omega))
end Go.Proofs.YtffajooegiempaaGreatDoor

namespace Go.Proofs.YtffajooegiempaaGreatDoor
variable {s:ByteArray} {d:Nat × Bool} {m m':Rd}
theorem rHead_val {x x1:Ds} {d1:Nat × Bool} {dp:Int} {y:Ds × (Nat × Bool)} (ek:rKind s d x dp=(x1,d1)) (h0:x1.kind=0) (hy:y=rValue s (nd s d1 61) x1) (hb:blocksOf y.1.kind=0):rHead s d x dp=(y.1,nd s y.2 59):=by
 unfold rHead
 rw [ek]
 have e:(if x1.kind=0 then rValue s (nd s d1 61) x1 else rCond s d1 x1)=y:=by rw [if_pos h0,hy]
 show (if blocksOf (if x1.kind=0 then rValue s (nd s d1 61) x1 else rCond s d1 x1).1.kind=0 then ((if x1.kind=0 then rValue s (nd s d1 61) x1 else rCond s d1 x1).1,nd s (if x1.kind=0 then rValue s (nd s d1 61) x1 else rCond s d1 x1).2 59) else (if x1.kind=0 then rValue s (nd s d1 61) x1 else rCond s d1 x1))=_
 rw [e,if_pos hb]
theorem rHead_cond {x x1:Ds} {d1:Nat × Bool} {dp:Int} {y:Ds × (Nat × Bool)} (ek:rKind s d x dp=(x1,d1)) (h0:x1.kind ≠ 0) (hy:y=rCond s d1 x1):rHead s d x dp=if blocksOf y.1.kind=0 then (y.1,nd s y.2 59) else y:=by
 unfold rHead
 rw [ek]
 have e:(if x1.kind=0 then rValue s (nd s d1 61) x1 else rCond s d1 x1)=y:=by rw [if_neg h0,hy]
 show (if blocksOf (if x1.kind=0 then rValue s (nd s d1 61) x1 else rCond s d1 x1).1.kind=0 then ((if x1.kind=0 then rValue s (nd s d1 61) x1 else rCond s d1 x1).1,nd s (if x1.kind=0 then rValue s (nd s d1 61) x1 else rCond s d1 x1).2 59) else (if x1.kind=0 then rValue s (nd s d1 61) x1 else rCond s d1 x1))=_
 rw [e]
theorem stmt_says {n:Nat} (H:Says s n) {z:Zt} (p b dp:Int) (h:Sync s z.1 m) (hs:m.state=115) (hdp:(m.op.length:Int)=dp) (hc:CorL z.2 m.st) (hm:Mz z<=n) (h0:pk s z.1 ≠ 0) (h125:pk s z.1 ≠ 125) :
  Dead s (rStmtWith s (rStmts s n) p b dp z).1 \/ ∃ m1,Out s z m (rStmtWith s (rStmts s n) p b dp z) m1/\∃ f,StmOk (rStmtWith s (rStmts s n) p b dp z).2 m1.st (Blk (rStmtWith s (rStmts s n) p b dp z).2 m1.st f) p b z.2.length (rStmtWith s (rStmts s n) p b dp z).2.length:=by
 have hl:=hc.len
 have hlen:=h.aok.len
 have hb:=byte_115 hs (pk s z.1)
 have hlt:=(pk_lt rfl h0).1
 have dead0:byteStep m (pk s z.1)=none->Dead s (stk z.1):=fun hn=>h.adead hn (fun e=>absurd hlt (by omega))
 by_cases h20:20<=z.2.length
 ·left
  have e:rStmtWith s (rStmts s n) p b dp z=(stk z.1,z.2):=if_pos h20
  rw [e]
  exact dead0 (by rw [hb]; exact start_full (by omega) h125)
 have hne:m.st.length ≠ 20:=by omega
 by_cases h33:pk s z.1=33
 ·have hst:startStep m (pk s z.1)=some (begun0 m 33 0 99):=by unfold startStep; rw [h33,if_neg (by decide),if_neg (by decide),if_pos rfl,begin_yes hne]
  rw [hst] at hb
  have h1:=h.aadv h0 hb
  have hcond:=h1.cond rfl (.inl (by rw [cur_begun]; rfl)) { newDs p b with kind:=1 } (by rw [cur_begun]; exact ⟨rfl,rfl,rfl,rfl⟩) (by rw [cur_begun]; rfl)
  have hsame:=rCond_same s (adv z.1) { newDs p b with kind:=1 }
  have hbh:behindOf (begun0 m 33 0 99)=59:=by unfold behindOf; rw [cur_begun]; rfl
  have hopA:opAft (begun0 m 33 0 99)=m.op:=by unfold opAft; rw [cur_begun]; rfl
  rw [hbh] at hcond
  obtain ⟨y,hy⟩:∃ y,y=rCond s (adv z.1) { newDs p b with kind:=1 }:=⟨_,rfl⟩
  rw [<- hy] at hcond hsame
  have hh:rHead s z.1 (newDs p b) dp=(y.1,nd s y.2 59):=by
   have ek:rKind s z.1 (newDs p b) dp=({ newDs p b with kind:=1 },adv z.1):=if_pos h33
   exact (rHead_cond ek (by show (1:Int) ≠ 0; decide) hy).trans (if_pos (by rw [hsame.1]; show blocksOf 1=0; decide))
  refine simple_says (u:={ u0 m 33 0 with star:=y.1.any,sg:=y.1.sg,num:=y.1.num }) hc h20 hh (.inr hsame.1) ⟨hsame.2.2.1,hsame.2.2.2⟩ ⟨by rw [hsame.1]; rfl,by rw [hsame.2.1]; rfl,rfl,rfl,rfl⟩ rfl ?_
  refine hcond.mono ?_
  rintro w - ⟨a,b',c⟩
  rw [cur_begun,setCur_begun] at b'
  exact ⟨a,c.trans hopA,b'⟩
 by_cases hq:pk s z.1=63 \/ pk s z.1=64
 ·obtain ⟨kk,hkk⟩:∃ kk:Int,(kk=2/\pk s z.1=63) \/ (kk=3/\pk s z.1=64):=by
   rcases hq with e | e
   ·exact ⟨2,.inl ⟨rfl,e⟩⟩
   ·exact ⟨3,.inr ⟨rfl,e⟩⟩
  have ek:rKind s z.1 (newDs p b) dp=({ newDs p b with kind:=kk },if 4<=dp then stk z.1 else adv z.1):=by
   unfold rKind; rw [if_neg h33]
   rcases hkk with ⟨rfl,e⟩ | ⟨rfl,e⟩
   ·rw [if_pos e]
   ·rw [if_neg (by omega),if_pos e]
  have hkb:blocksOf kk ≠ 0/\kk ≠ 0:=by rcases hkk with ⟨rfl,_⟩ | ⟨rfl,_⟩ <;> decide
  by_cases h4:m.op.length < 4
  ·have hst:startStep m (pk s z.1)=some (begun0 m (pk s z.1) 0 99):=by unfold startStep; rw [if_neg (by omega),if_pos hq,if_pos h4,begin_yes hne]
   rw [hst] at hb
   have h1:=h.aadv h0 hb
   have hcond:=h1.cond rfl (.inr (by show m.op.length ≠ 4; omega)) { newDs p b with kind:=kk } (by rw [cur_begun]; exact ⟨rfl,rfl,rfl,rfl⟩) (by rw [cur_begun]; rfl)
   have hsame:=rCond_same s (adv z.1) { newDs p b with kind:=kk }
   have hn33:¬ (cur (begun0 m (pk s z.1) 0 99)).kind=33:=by rw [cur_begun]; exact h33
   have hbh:behindOf (begun0 m (pk s z.1) 0 99)=123:=if_neg hn33
   have hopA:opAft (begun0 m (pk s z.1) 0 99)=m.op ++ [⟨m.st.length,false⟩]:=by
    unfold opAft; rw [if_neg hn33]; show m.op ++ [⟨(m.st ++ [u0 m (pk s z.1) 0]).length - 1,false⟩]=_; simp
   rw [hbh] at hcond
   obtain ⟨y,hy⟩:∃ y,y=rCond s (adv z.1) { newDs p b with kind:=kk }:=⟨_,rfl⟩
   rw [<- hy] at hcond hsame
   have hh:rHead s z.1 (newDs p b) dp=(y.1,y.2):=by
    rw [if_neg (by omega)] at ek
    exact (rHead_cond ek hkb.2 hy).trans (if_neg (by rw [hsame.1]; exact hkb.1))
   refine blocks_says H (u:={ u0 m (pk s z.1) 0 with star:=y.1.any,sg:=y.1.sg,num:=y.1.num }) h.ns hm hdp hc h20 hh (by rw [hsame.1]; exact hkk.elim (fun e=>.inl e.1) (fun e=>.inr e.1)) ⟨hsame.2.2.1,hsame.2.2.2⟩ ⟨?_,by rw [hsame.2.1]; rfl,rfl,rfl,rfl⟩ ?_
   ·show pk s z.1=kindOf y.1.kind
    rw [hsame.1]
    rcases hkk with ⟨rfl,e⟩ | ⟨rfl,e⟩ <;> rw [e] <;> rfl
   ·refine hcond.mono ?_
    rintro w - ⟨a,b',c⟩
    rw [cur_begun,setCur_begun] at b'
    exact ⟨a,c.trans hopA,b'⟩
  ·left
   have hst:startStep m (pk s z.1)=none:=by unfold startStep; rw [if_neg (by omega),if_pos hq,if_neg h4]
   have hd:=dead0 (by rw [hb]; exact hst)
   have hh:(rHead s z.1 (newDs p b) dp).2=stk z.1:=by
    rw [if_pos (by omega)] at ek
    rw [(rHead_cond ek hkb.2 rfl).trans (if_neg (by rw [(rCond_same s (stk z.1) { newDs p b with kind:=kk }).1]; exact hkb.1))]
    exact hd.dCond _
   have e:(rStmtWith s (rStmts s n) p b dp z).1=stk z.1:=by unfold rStmtWith; rw [if_neg h20,hh]; rfl
   rw [e]; exact hd
 by_cases hv:97<=pk s z.1/\pk s z.1<=100
 ·have hst:startStep m (pk s z.1)=some (begun0 m 61 (pk s z.1 - 97) 61):=by unfold startStep; rw [if_pos hv,begin_yes hne]
  rw [hst] at hb
  have h1:=h.aadv h0 hb
  have ev:rVar s z.1 (-1)=(pk s z.1 - 97,adv z.1):=by unfold rVar; rw [varOf_pos hv,if_neg (by omega)]
  have ek:rKind s z.1 (newDs p b) dp=({ newDs p b with kind:=0,target:=pk s z.1 - 97 },adv z.1):=by
   unfold rKind; rw [if_neg h33,if_neg (fun e=>hq (.inl e)),if_neg (fun e=>hq (.inr e)),ev]
  obtain ⟨y,hy⟩:∃ y,y=rValue s (nd s (adv z.1) 61) { newDs p b with kind:=0,target:=pk s z.1 - 97 }:=⟨_,rfl⟩
  have hsame:=rValue_same s (nd s (adv z.1) 61) { newDs p b with kind:=0,target:=pk s z.1 - 97 }
  rw [<- hy] at hsame
  have hh:rHead s z.1 (newDs p b) dp=(y.1,nd s y.2 59):=by
   exact rHead_val ek rfl hy (by rw [hsame.1]; show blocksOf 0=0; decide)
  refine simple_says (u:={ u0 m 61 (pk s z.1 - 97) with star:=y.1.any,sg:=y.1.sg,num:=y.1.num }) hc h20 hh (.inl hsame.1) ⟨hsame.2.2.1,hsame.2.2.2⟩ ⟨by rw [hsame.1]; rfl,by rw [hsame.2.1]; rfl,rfl,rfl,rfl⟩ rfl ?_
  rcases h1.aneed (c:=61) (m':={ begun0 m 61 (pk s z.1 - 97) 61 with state:=118 }) (by decide) (fun e=>by rw [byte_61 rfl,if_pos rfl]) (fun e=>by rw [byte_61 rfl,if_neg e]) (notDone (by decide:(61:Int) ≠ 115)) with hd | ⟨m2,h2,e2⟩
  ·have e:y.2=nd s (adv z.1) 61:=by rw [hy]; exact hd.dValue _
   rw [e,hd.dnd (by decide)]
   exact .inl hd
  ·have ec:cur m2=u0 m 61 (pk s z.1 - 97):=by rw [e2]; exact cur_begun 61 _ 61
   have hval:=h2.value (by rw [e2]) (by rw [ec]; rfl) { newDs p b with kind:=0,target:=pk s z.1 - 97 } (by rw [ec]; exact ⟨rfl,rfl,rfl,rfl⟩)
   rw [<- hy] at hval
   refine hval.mono ?_
   rintro w - ⟨a,b',c⟩
   refine ⟨a,b'.trans (by rw [e2]; rfl),c.trans ?_⟩
   rw [ec,e2]
   exact setCur_begun 61 _ 61 _
 ·left
  have hst:startStep m (pk s z.1)=none:=by unfold startStep; rw [if_neg hv,if_neg hq,if_neg h33,if_neg (fun e=>h125 e.1)]
  have hd:=dead0 (by rw [hb]; exact hst)
  have ev:rVar s z.1 (-1)=(0,stk z.1):=by unfold rVar; rw [if_pos (.inl (varOf_neg hv))]
  have ek:rKind s z.1 (newDs p b) dp=({ newDs p b with kind:=0,target:=0 },stk z.1):=by
   unfold rKind; rw [if_neg h33,if_neg (fun e=>hq (.inl e)),if_neg (fun e=>hq (.inr e)),ev]
  have hh:(rHead s z.1 (newDs p b) dp).2=stk z.1:=by
   rw [rHead_val ek rfl rfl (by rw [(rValue_same s (nd s (stk z.1) 61) { newDs p b with kind:=0,target:=0 }).1]; show blocksOf 0=0; decide)]
   show nd s (rValue s (nd s (stk z.1) 61) _).2 59=_
   rw [hd.dnd (by decide),hd.dValue,hd.dnd (by decide)]
  have e:(rStmtWith s (rStmts s n) p b dp z).1=stk z.1:=by unfold rStmtWith; rw [if_neg h20,hh]; rfl
  rw [e]; exact hd
theorem says_all (s:ByteArray) (n:Nat):Says s n:=by
 induction n with
 | zero=>intro p b dp z m _ _ _ _ hm; omega
 | succ n ih =>
  intro p b dp z m h hs hdp hc hm
  by_cases he:pk s z.1=0 \/ pk s z.1=125
  ·right
   have e:rStmts s (n+1) p b dp z=z:=by unfold rStmts; rw [if_pos he]
   rw [e]
   exact ⟨m,⟨h,hs,rfl,hc,Pre.refl _,Pre.refl _,Nat.le_refl _⟩,⟨0,rfl⟩,he⟩
  ·have e:rStmts s (n+1) p b dp z=rStmts s n p b dp (rStmtWith s (rStmts s n) p b dp z):=by rw [rStmts,if_neg he]
   have hzok:Zok s z:=⟨h.le,by rw [hc.len]; exact h.aok.len⟩
   have hMd:=Mz_stmt (rStmts s n) (rStmts_goes s n) p b dp hzok h.ns
   rw [e]
   rcases stmt_says ih p b dp h hs hdp hc (by omega) (fun e=>he (.inl e)) (fun e=>he (.inr e)) with hd | ⟨m1,ho,f1,hst⟩
   ·left; rw [hd.dStmts]; exact hd
   obtain ⟨y,hy⟩:∃ y,y=rStmtWith s (rStmts s n) p b dp z:=⟨_,rfl⟩
   rw [<- hy] at ho hst hMd |-
   rcases ih p b dp y m1 ho.sync ho.st (by rw [ho.op]; exact hdp) ho.cor (by omega) with hd | ⟨m2,ho2,⟨f2,hf2⟩,hpk⟩
   ·left; exact hd
   ·right
    have hlen1:=ho.cor.len
    refine ⟨m2,⟨ho2.sync,ho2.st,ho2.op.trans ho.op,ho2.cor,ho.preF.trans ho2.preF ho.len,ho.preS.trans ho2.preS (by rw [<- hlen1,<- hc.len]; exact ho.len),Nat.le_trans ho.len ho2.len⟩,⟨f1+f2+1,.inr ⟨y.2.length,ho2.len,?_,?_⟩⟩,hpk⟩
    ·have hlt:=hst.lt
     refine hst.into (ho2.preF _ hlt) (ho2.preS _ (by rw [<- hlen1]; exact hlt)) (fun _ _ i j hi hij hj hR=>?_)
     exact (Blk.keep hR (fun k h1 h2=>ho2.preF k (by omega)) (fun k h1 h2=>ho2.preS k (by rw [<- hlen1]; omega))).more f2
    ·rw [Nat.add_comm f1 f2]; exact hf2.more f1
theorem read_says (s:ByteArray):Dead s (readZ s).1 \/ ∃ m,Out s ((0,false),[]) init (readZ s) m/\(∃ f,Blk (readZ s).2 m.st f (-1) 0 0 (readZ s).2.length)/\(pk s (readZ s).1=0 \/ pk s (readZ s).1=125) :=
 says_all s 22 (-1) 0 0 ((0,false),[]) init ⟨rfl,Nat.zero_le _,rfl⟩ rfl rfl ⟨rfl,fun i x u h=>by simp at h⟩ (by decide)
theorem take_all (s:ByteArray):(bytesOf s).take s.size=bytesOf s:=List.take_of_length_le (by rw [bytesOf_len]; exact Nat.le_refl _)
theorem getD_get {s:ByteArray} {k:Nat} (h:k < s.size):(bytesOf s)[k]?=some ((bytesOf s).getD k 0):=by rw [List.getD_eq_getElem?_getD,bytesOf_get s k h]; rfl
theorem scan_same (s:ByteArray):scanD s=scanOf (bytesOf s):=by
 have hl:=bytesOf_len s
 by_cases h:160 < s.size
 ·unfold scanD scanOf; rw [if_pos h,if_pos (by omega)]
 have hof:∀ x,scanOf (bytesOf s)=x ↔ (match readFrom init (bytesOf s) 0 with
  | (n,none)=>(0,1,n)
  | (n,some m)=>if isDone m then ((m.st.length:Int)+1,0,0) else (0,1,n))=x:=by intro x; unfold scanOf; rw [if_neg (by omega)]; exact Iff.rfl
 symm
 rw [hof]
 have rest:∀ (m:Rd),feed init ((bytesOf s).take (readZ s).1.1)=some m->(readZ s).1.1 < s.size->byteStep m ((bytesOf s).getD (readZ s).1.1 0)=none->readGood s=false->(match readFrom init (bytesOf s) 0 with
  | (n,none)=>(0,1,(n:Int))
  | (n,some m)=>if isDone m then ((m.st.length:Int)+1,0,0) else (0,1,n))=scanD s:=by
  intro m hf hlt hb hg
  rw [readFrom_none (n:=0) hf (getD_get hlt) hb]
  unfold scanD; rw [if_neg h,hg]; simp
 rcases read_says s with hd | ⟨m,ho,_,hpk⟩
 ·obtain ⟨m,hf,hle,h1,h2⟩:=hd.ex
  have hg:readGood s=false:=by unfold readGood; rw [hd.st]; rfl
  by_cases hlt:(readZ s).1.1 < s.size
  ·exact rest m hf hlt (h1 hlt) hg
  ·have he:(readZ s).1.1=s.size:=by omega
   rw [he,take_all] at hf
   rw [readFrom_some (n:=0) hf]
   simp only
   rw [h2 he]
   unfold scanD; rw [if_neg h,hg]; simp; omega
 ·have hf:=ho.sync.fd
  have hop:m.op=[]:=ho.op
  by_cases hlt:(readZ s).1.1 < s.size
  ·have hg:readGood s=false:=by unfold readGood; rw [ho.sync.ns]; simp; omega
   refine rest m hf hlt ?_ hg
   rw [<- ho.sync.apk,byte_115 ho.st]
   rcases hpk with e | e
   ·rw [e]; unfold startStep; rw [if_neg (by decide),if_neg (by decide),if_neg (by decide),if_neg (by omega)]
   ·rw [e]; unfold startStep; rw [if_neg (by decide),if_neg (by decide),if_neg (by decide),if_neg (by rw [hop]; simp)]
  ·have hg:readGood s=true:=by unfold readGood; rw [ho.sync.ns]; simp; omega
   have he:(readZ s).1.1=s.size:=by have:=ho.sync.le; omega
   rw [he,take_all] at hf
   rw [readFrom_some (n:=0) hf]
   have hdn:isDone m=true:=by unfold isDone; rw [ho.st,hop]; rfl
   simp only
   rw [hdn]
   unfold scanD; rw [if_neg h,hg,ho.cor.len]; rfl
end Go.Proofs.YtffajooegiempaaGreatDoor

namespace Go.Proofs.YtffajooegiempaaGreatDoor
variable {F:List Ds} {S:List St}
theorem Blk.par {f:Nat}:∀ {p b:Int} {a c:Nat},Blk F S f p b a c->∀ j,a<=j->j < c->∃ x,F[j]?=some x/\((x.parent=p/\x.block=b) \/ ((a:Int)<=x.parent/\x.parent < j)):=by
 induction f with
 | zero=>intro p b a c h j h1 h2; have h':a=c:=h; omega
 | succ f ih =>
  intro p b a c h j h1 h2
  rcases h with h | ⟨e,he,hs,hr⟩
  ·omega
  ·obtain ⟨x,u,hx,hu,hp,hb,hf,hae,hk⟩:=hs
   by_cases hj:j=a
   ·subst hj; exact ⟨x,hx,.inl ⟨hp,hb⟩⟩
   ·by_cases hje:j < e
    ·rcases hk with ⟨_,hk⟩ | ⟨_,hk⟩ | ⟨_,q1,q2,hk1,hk2⟩
     ·omega
     ·obtain ⟨y,hy,h3⟩:=ih hk j (by omega) hje
      refine ⟨y,hy,.inr ?_⟩
      rcases h3 with ⟨h3,_⟩ | h3 <;> omega
     ·by_cases hjq:j < u.mid
      ·obtain ⟨y,hy,h3⟩:=ih hk1 j (by omega) hjq
       refine ⟨y,hy,.inr ?_⟩
       rcases h3 with ⟨h3,_⟩ | h3 <;> omega
      ·obtain ⟨y,hy,h3⟩:=ih hk2 j (by omega) hje
       refine ⟨y,hy,.inr ?_⟩
       rcases h3 with ⟨h3,_⟩ | h3 <;> omega
    ·obtain ⟨y,hy,h3⟩:=ih hr j (by omega) h2
     refine ⟨y,hy,?_⟩
     rcases h3 with h3 | h3
     ·exact .inl h3
     ·exact .inr (by omega)
theorem Blk.fins {f:Nat}:∀ {p b:Int} {a c:Nat},Blk F S f p b a c->∀ j,a<=j->j < c->∃ u,S[j]?=some u/\j < u.fin/\u.fin<=c:=by
 induction f with
 | zero=>intro p b a c h j h1 h2; have h':a=c:=h; omega
 | succ f ih =>
  intro p b a c h j h1 h2
  rcases h with h | ⟨e,he,hs,hr⟩
  ·omega
  ·obtain ⟨x,u,hx,hu,hp,hb,hf,hae,hk⟩:=hs
   by_cases hj:j=a
   ·subst hj; exact ⟨u,hu,by omega,by omega⟩
   ·by_cases hje:j < e
    ·rcases hk with ⟨_,hk⟩ | ⟨_,hk⟩ | ⟨_,q1,q2,hk1,hk2⟩
     ·omega
     ·obtain ⟨v,hv,h3,h4⟩:=ih hk j (by omega) hje
      exact ⟨v,hv,h3,by omega⟩
     ·by_cases hjq:j < u.mid
      ·obtain ⟨v,hv,h3,h4⟩:=ih hk1 j (by omega) hjq
       exact ⟨v,hv,h3,by omega⟩
      ·obtain ⟨v,hv,h3,h4⟩:=ih hk2 j (by omega) hje
       exact ⟨v,hv,h3,by omega⟩
    ·exact ih hr j (by omega) h2
theorem Blk.at_ {f:Nat}:∀ {p b:Int} {a c:Nat},Blk F S f p b a c->p < a->∀ i x,a<=i->i < c->F[i]?=some x->x.parent=p->(∀ k,a<=k->k < i->∃ u,S[k]?=some u/\u.fin<=i)/\∃ g e,e<=c/\StmOk F S (Blk F S g) p b i e/\Blk F S g p b e c:=by
 induction f with
 | zero=>intro p b a c h _ i x h1 h2; have h':a=c:=h; omega
 | succ f ih =>
  intro p b a c h hpa i x h1 h2 hx hp
  rcases h with h | ⟨e,he,hs,hr⟩
  ·omega
  ·have hae:=hs.lt
   by_cases hi:i=a
   ·subst hi
    exact ⟨fun k h3 h4=>by omega,f,e,he,hs,hr⟩
   ·have hall:Blk F S (f+1) p b a c:=.inr ⟨e,he,hs,hr⟩
    have hone:Blk F S (f+1) p b a e:=.inr ⟨e,Nat.le_refl _,hs,by cases f with | zero=>exact rfl | succ f=>exact .inl rfl⟩
    by_cases hie:i < e
    ·exfalso
     obtain ⟨y,u,hy,hu,hp',hb',hf,hae',hk⟩:=hs
     have inner:∀ (b:Int) (a1 c1:Nat),a+1<=a1->Blk F S f a b a1 c1->a1<=i->i < c1->False:=by
      intro b a1 c1 ha1 hB h3 h4
      obtain ⟨z,hz,h5⟩:=hB.par i h3 h4
      rw [hx] at hz
      cases hz
      rcases h5 with ⟨h5,_⟩ | h5 <;> omega
     rcases hk with ⟨_,hk⟩ | ⟨_,hk⟩ | ⟨_,q1,q2,hk1,hk2⟩
     ·omega
     ·exact inner _ _ _ (by omega) hk (by omega) hie
     ·by_cases hjq:i < u.mid
      ·exact inner _ _ _ (by omega) hk1 (by omega) hjq
      ·exact inner _ _ _ (by omega) hk2 (by omega) hie
    ·obtain ⟨h3,h4⟩:=ih hr (by omega) i x (by omega) h2 hx hp
     refine ⟨fun k hk1 hk2=>?_,h4⟩
     by_cases hke:k < e
     ·obtain ⟨v,hv,_,h6⟩:=hone.fins k hk1 hke
      exact ⟨v,hv,by omega⟩
     ·exact h3 k (by omega) hk2
def Ctx (F:List Ds) (S:List St) (p b:Int) (a c:Nat):Prop :=
 (p=-1/\b=0/\a=0/\c=F.length) \/ ∃ (q:Nat) (x:Ds) (u:St),p=q/\F[q]?=some x/\S[q]?=some u /\
  ((x.kind=3/\b=0/\a=q+1/\c=u.fin) \/ (x.kind=2/\b=0/\a=q+1/\c=u.mid/\u.mid<=u.fin) \/ (x.kind=2/\b=1/\a=u.mid/\c=u.fin/\q+1<=u.mid))
theorem Ctx.lt {p b:Int} {a c:Nat} (h:Ctx F S p b a c):p < a:=by
 rcases h with ⟨h1,_,h3,_⟩ | ⟨q,x,u,h1,_,_,h2⟩
 ·omega
 ·rcases h2 with h2 | h2 | h2 <;> omega
theorem Blk.pos {f:Nat}:∀ {p b:Int} {a c:Nat},Blk F S f p b a c->(∃ a0,a0<=a/\Ctx F S p b a0 c/\∃ g,Blk F S g p b a0 c)->∀ i,a<=i->i < c->∃ x a0 c0,F[i]?=some x/\a0<=i/\i < c0/\Ctx F S x.parent x.block a0 c0/\∃ g,Blk F S g x.parent x.block a0 c0:=by
 induction f with
 | zero=>intro p b a c h _ i h1 h2; have h':a=c:=h; omega
 | succ f ih =>
  intro p b a c h hctx i h1 h2
  obtain ⟨a0,ha0,hC,g,hg⟩:=hctx
  rcases h with h | ⟨e,he,hs,hr⟩
  ·omega
  ·obtain ⟨x,u,hx,hu,hp,hb,hf,hae,hk⟩:=hs
   by_cases hi:i=a
   ·subst hi
    exact ⟨x,a0,c,hx,ha0,h2,by rw [hp,hb]; exact hC,g,by rw [hp,hb]; exact hg⟩
   ·by_cases hie:i < e
    ·rcases hk with ⟨_,hk⟩ | ⟨k3,hk⟩ | ⟨k2,q1,q2,hk1,hk2⟩
     ·omega
     ·exact ih hk ⟨a+1,Nat.le_refl _,.inr ⟨a,x,u,rfl,hx,hu,.inl ⟨k3,rfl,rfl,hf.symm⟩⟩,f,hk⟩ i (by omega) hie
     ·by_cases hiq:i < u.mid
      ·exact ih hk1 ⟨a+1,Nat.le_refl _,.inr ⟨a,x,u,rfl,hx,hu,.inr (.inl ⟨k2,rfl,rfl,rfl,by omega⟩)⟩,f,hk1⟩ i (by omega) hiq
      ·exact ih hk2 ⟨u.mid,Nat.le_refl _,.inr ⟨a,x,u,rfl,hx,hu,.inr (.inr ⟨k2,rfl,rfl,hf.symm,by omega⟩)⟩,f,hk2⟩ i (by omega) hie
    ·exact ih hr ⟨a0,by omega,hC,g,hg⟩ i (by omega) h2
def Whole (F:List Ds) (S:List St):Prop:=CorL F S/\∃ f,Blk F S f (-1) 0 0 F.length
theorem Whole.pos (h:Whole F S) (i:Nat) (hi:i < F.length):∃ x a0 c0,F[i]?=some x/\a0<=i/\i < c0/\Ctx F S x.parent x.block a0 c0/\∃ g,Blk F S g x.parent x.block a0 c0:=by
 obtain ⟨_,f,hf⟩:=h
 exact hf.pos ⟨0,Nat.le_refl _,.inl ⟨rfl,rfl,rfl,rfl⟩,f,hf⟩ i (Nat.zero_le _) hi
end Go.Proofs.YtffajooegiempaaGreatDoor

