import Derived.Test.YtffajooegiempaaGreatDoorJ7
set_option maxRecDepth 100000
set_option maxHeartbeats 6400000
namespace Go.Proofs.YtffajooegiempaaGreatDoor
def ngf (f:Nat):Nat:=nf (opp (fs f)) (opp (ss f))
theorem ngf_ok:∀ f:Nat,f < 32->ngf f < 32/\kdT f (ngf f)=1/\ngf f ≠ f:=by decide +kernel
theorem TC.pick1c {C:Nat->Int} (h:TC C) {c:Int} (hc:bd C 1=NB \/ 0<=c+bd C 1):∃ v,SK (bd C) v 4/\sd v 0<=c:=by
 have hr:=h.rd
 obtain ⟨a,a1,a2,a3⟩:∃ a:Int,a<=c/\(bd C 0=NB \/ a<=bd C 0)/\(bd C 1=NB \/ -a<=bd C 1):=by
  have z:bd C 0=NB \/ bd C 1=NB \/ 0<=bd C 0+bd C 1:=by
   by_cases q1:bd C 0=NB
   ·exact .inl q1
   ·by_cases q2:bd C 1=NB
    ·exact .inr (.inl q2)
    ·exact .inr (.inr (hr.zer 0 1 (by omega) (by omega) (by decide +kernel) q1 q2))
  generalize bd C 0=x at *
  generalize bd C 1=y at *
  by_cases q:x=NB
  ·exact ⟨c,Int.le_refl _,.inl q,hc.imp id (fun h=>by omega)⟩
  ·by_cases q2:c<=x
   ·exact ⟨c,Int.le_refl _,.inr q2,hc.imp id (fun h=>by omega)⟩
   ·exact ⟨x,by omega,.inr (Int.le_refl _),(z.resolve_left q).imp id (fun h=>by omega)⟩
 have k1:SK (bd C) (fun _=>a) 1:=by
  refine ⟨fun i hi=>?_,fun i j hi hj e1 e2=>?_⟩
  ·rcases (show i=0 \/ i=1 by omega) with rfl | rfl
   ·exact a2
   ·exact a3
  ·exfalso
   rcases (show i=0 \/ i=1 by omega) with rfl | rfl
   ·rcases (show j=0 \/ j=1 by omega) with rfl | rfl
    ·exact e1 rfl
    ·exact e2 rfl
   ·rcases (show j=0 \/ j=1 by omega) with rfl | rfl
    ·exact e2 rfl
    ·exact e1 rfl
 have hP:∀ f,f < 32->bd C f=NB \/ bd C f<=432000:=fun f hf=>h.bd_top hf
 obtain ⟨t2,k2⟩:=elim (by decide) nb2 (by decide) hP hr k1
 obtain ⟨t3,k3⟩:=elim (by decide) nb2 (by decide) hP hr k2
 obtain ⟨t4,k4⟩:=elim (by decide) nb2 (by decide) hP hr k3
 exact ⟨_,k4,a1⟩
theorem TC.pick2c {C:Nat->Int} (h:TC C) {c:Int} (hc8:c<=bd C 8) (hc:bd C 11=NB \/ 0<=c+bd C 11):∃ v,SK (bd C) v 4/\sd v 0+sd v 2<=c:=by
 have hr:=h.rd
 have hP:∀ f,f < 32->bd C f=NB \/ bd C f<=432000:=fun f hf=>h.bd_top hf
 have Z:∀ f g,f < 32->g < 32->kdT f g=1->bd C f ≠ NB->bd C g ≠ NB->0<=bd C f+bd C g:=fun f g hf hg k q1 q2=>hr.zer f g hf hg k q1 q2
 have S:∀ f g n,f < 32->g < 32->(kdT f g=3/\nmT f g=n)->bd C f ≠ NB->bd C g ≠ NB->bd C n ≠ NB/\bd C n<=bd C f+bd C g:=fun f g n hf hg k q1 q2=>by
  have:=hr.sum f g hf hg k.1 q1 q2
  rw [k.2] at this
  have a:=(hP f hf).resolve_left q1
  have b:=(hP g hg).resolve_left q2
  unfold NB
  exact ⟨by omega,this⟩
 have D:∀ f g n,f < 32->g < 32->(kdT f g=2/\nmT f g=n)->bd C f ≠ NB->bd C g ≠ NB->bd C n ≠ NB/\2*bd C n<=bd C f+bd C g:=fun f g n hf hg k q1 q2=>by
  have:=hr.dou f g hf hg k.1 q1 q2
  rw [k.2] at this
  have a:=(hP f hf).resolve_left q1
  have b:=(hP g hg).resolve_left q2
  unfold NB
  exact ⟨by omega,by omega⟩
 have z1:=Z 0 1 (by omega) (by omega) (by decide +kernel)
 have z2:=Z 2 3 (by omega) (by omega) (by decide +kernel)
 have z4:=Z 9 10 (by omega) (by omega) (by decide +kernel)
 have s4:=S 1 3 11 (by omega) (by omega) (by decide +kernel)
 have d2:=D 10 11 1 (by omega) (by omega) (by decide +kernel)
 have t1:=S 9 2 0 (by omega) (by omega) (by decide +kernel)
 have t5:=S 9 1 3 (by omega) (by omega) (by decide +kernel)
 have t6:=S 11 2 1 (by omega) (by omega) (by decide +kernel)
 have t7:=S 10 3 1 (by omega) (by omega) (by decide +kernel)
 have hn:(1000000:Int)=NB:=rfl
 obtain ⟨a,b,h0,h1,h2,h3,h9,h10,h11,hab⟩:∃ a b:Int,(bd C 0=NB \/ a<=bd C 0)/\(bd C 1=NB \/ -a<=bd C 1)/\(bd C 2=NB \/ b<=bd C 2)/\(bd C 3=NB \/ -b<=bd C 3)/\(bd C 9=NB \/ a - b<=bd C 9)/\(bd C 10=NB \/ -a+b<=bd C 10)/\(bd C 11=NB \/ -a - b<=bd C 11)/\a+b<=c:=by
  clear hP hr S D Z
  generalize bd C 0=r0 at *
  generalize bd C 1=r1 at *
  generalize bd C 2=r2 at *
  generalize bd C 3=r3 at *
  generalize bd C 9=r9 at *
  generalize bd C 10=r10 at *
  generalize bd C 11=r11 at *
  obtain ⟨a,a0,a1,a3,a9⟩:∃ a:Int,(r0=NB \/ a<=r0)/\(r1=NB \/ a=-r1)/\(r3=NB \/ a<=c+r3)/\(r9=NB \/ 2*a<=c+r9):=by
   by_cases q:r1=NB
   ·refine ⟨min (min r0 (c+r3)) (min (c+r9) 0),.inr (by omega),.inl q,.inr (by omega),.inr (by omega)⟩
   ·refine ⟨-r1,?_,.inr rfl,?_,?_⟩
    ·by_cases q0:r0=NB
     ·exact .inl q0
     ·have:=z1 q0 q; exact .inr (by omega)
    ·by_cases q3:r3=NB
     ·exact .inl q3
     ·have:=s4 q q3
      have:=hc.resolve_left this.1
      exact .inr (by omega)
    ·by_cases q9:r9=NB
     ·exact .inl q9
     ·have x:=t5 q9 q
      have y:=s4 q x.1
      have:=hc.resolve_left y.1
      exact .inr (by omega)
  have low:∀ b:Int,(b=c - a \/ (r2 ≠ NB/\b=r2) \/ (r10 ≠ NB/\b=r10+a))->(r3=NB \/ -b<=r3)/\(r9=NB \/ a - b<=r9)/\(r11=NB \/ -a - b<=r11):=by
   intro b hb
   refine ⟨?_,?_,?_⟩
   ·by_cases q:r3=NB
    ·exact .inl q
    ·have y:=a3.resolve_left q
     rcases hb with e | ⟨e1,e⟩ | ⟨e1,e⟩
     ·exact .inr (by omega)
     ·have:=z2 e1 q; exact .inr (by omega)
     ·have x:=t7 e1 q
      have:=a1.resolve_left x.1
      exact .inr (by omega)
   ·by_cases q:r9=NB
    ·exact .inl q
    ·have y:=a9.resolve_left q
     rcases hb with e | ⟨e1,e⟩ | ⟨e1,e⟩
     ·exact .inr (by omega)
     ·have x:=t1 q e1
      have:=a0.resolve_left x.1
      exact .inr (by omega)
     ·have:=z4 q e1
      exact .inr (by omega)
   ·by_cases q:r11=NB
    ·exact .inl q
    ·have y:=hc.resolve_left q
     rcases hb with e | ⟨e1,e⟩ | ⟨e1,e⟩
     ·exact .inr (by omega)
     ·have x:=t6 q e1
      have:=a1.resolve_left x.1
      exact .inr (by omega)
     ·have x:=d2 e1 q
      have:=a1.resolve_left x.1
      exact .inr (by omega)
  have a1':r1=NB \/ -a<=r1:=a1.imp id (fun h=>by omega)
  by_cases q2:r2=NB
  ·by_cases q10:r10=NB
   ·obtain ⟨l1,l2,l3⟩:=low (c - a) (.inl rfl)
    exact ⟨a,c - a,a0,a1',.inl q2,l1,l2,.inl q10,l3,by omega⟩
   ·by_cases m:c - a<=r10+a
    ·obtain ⟨l1,l2,l3⟩:=low (c - a) (.inl rfl)
     exact ⟨a,c - a,a0,a1',.inl q2,l1,l2,.inr (by omega),l3,by omega⟩
    ·obtain ⟨l1,l2,l3⟩:=low (r10+a) (.inr (.inr ⟨q10,rfl⟩))
     exact ⟨a,r10+a,a0,a1',.inl q2,l1,l2,.inr (by omega),l3,by omega⟩
  ·by_cases q10:r10=NB
   ·by_cases m:c - a<=r2
    ·obtain ⟨l1,l2,l3⟩:=low (c - a) (.inl rfl)
     exact ⟨a,c - a,a0,a1',.inr (by omega),l1,l2,.inl q10,l3,by omega⟩
    ·obtain ⟨l1,l2,l3⟩:=low r2 (.inr (.inl ⟨q2,rfl⟩))
     exact ⟨a,r2,a0,a1',.inr (by omega),l1,l2,.inl q10,l3,by omega⟩
   ·by_cases m:c - a<=r10+a
    ·by_cases m2:c - a<=r2
     ·obtain ⟨l1,l2,l3⟩:=low (c - a) (.inl rfl)
      exact ⟨a,c - a,a0,a1',.inr (by omega),l1,l2,.inr (by omega),l3,by omega⟩
     ·obtain ⟨l1,l2,l3⟩:=low r2 (.inr (.inl ⟨q2,rfl⟩))
      exact ⟨a,r2,a0,a1',.inr (by omega),l1,l2,.inr (by omega),l3,by omega⟩
    ·by_cases m2:r10+a<=r2
     ·obtain ⟨l1,l2,l3⟩:=low (r10+a) (.inr (.inr ⟨q10,rfl⟩))
      exact ⟨a,r10+a,a0,a1',.inr (by omega),l1,l2,.inr (by omega),l3,by omega⟩
     ·obtain ⟨l1,l2,l3⟩:=low r2 (.inr (.inl ⟨q2,rfl⟩))
      exact ⟨a,r2,a0,a1',.inr (by omega),l1,l2,.inr (by omega),l3,by omega⟩
 have q8:bd C 8=NB \/ a+b<=bd C 8:=.inr (by omega)
 ·have k2:SK (bd C) (setV (fun _=>a) 1 b) 2:=by
   have v0:sd (setV (fun _=>a) 1 b) 0=a:=rfl
   have v1:sd (setV (fun _=>a) 1 b) 1=-a:=rfl
   have v2:sd (setV (fun _=>a) 1 b) 2=b:=rfl
   have v3:sd (setV (fun _=>a) 1 b) 3=-b:=rfl
   refine ⟨fun i hi=>?_,fun i j hi hj e1 e2=>?_⟩
   ·rcases (show i=0 \/ i=1 \/ i=2 \/ i=3 by omega) with rfl | rfl | rfl | rfl
    ·rw [v0]; exact h0
    ·rw [v1]; exact h1
    ·rw [v2]; exact h2
    ·rw [v3]; exact h3
   ·have n1:nf 0 2=8/\nf 2 0=8/\nf 0 3=9/\nf 3 0=9/\nf 1 2=10/\nf 2 1=10/\nf 1 3=11/\nf 3 1=11:=by decide
    obtain ⟨m1,m2,m3,m4,m5,m6,m7,m8⟩:=n1
    rcases (show i=0 \/ i=1 \/ i=2 \/ i=3 by omega) with rfl | rfl | rfl | rfl
    ·rcases (show j=0 \/ j=1 \/ j=2 \/ j=3 by omega) with rfl | rfl | rfl | rfl
     ·exact absurd rfl e1
     ·exact absurd rfl e2
     ·rw [v0,v2,m1]; exact q8
     ·rw [v0,v3,m3]; exact h9.imp id (fun h=>by omega)
    ·rcases (show j=0 \/ j=1 \/ j=2 \/ j=3 by omega) with rfl | rfl | rfl | rfl
     ·exact absurd rfl e2
     ·exact absurd rfl e1
     ·rw [v1,v2,m5]; exact h10
     ·rw [v1,v3,m7]; exact h11.imp id (fun h=>by omega)
    ·rcases (show j=0 \/ j=1 \/ j=2 \/ j=3 by omega) with rfl | rfl | rfl | rfl
     ·rw [v2,v0,m2]; exact q8.imp id (fun h=>by omega)
     ·rw [v2,v1,m6]; exact h10.imp id (fun h=>by omega)
     ·exact absurd rfl e1
     ·exact absurd rfl e2
    ·rcases (show j=0 \/ j=1 \/ j=2 \/ j=3 by omega) with rfl | rfl | rfl | rfl
     ·rw [v3,v0,m4]; exact h9.imp id (fun h=>by omega)
     ·rw [v3,v1,m8]; exact h11.imp id (fun h=>by omega)
     ·exact absurd rfl e2
     ·exact absurd rfl e1
  obtain ⟨t3',k3⟩:=elim (by decide) nb2 (by decide) hP hr k2
  obtain ⟨t4',k4⟩:=elim (by decide) nb2 (by decide) hP hr k3
  exact ⟨_,k4,hab⟩
theorem TC.back {C:Nat->Int} (h:TC C) {f:Nat} (hf:f < 32) {v:Nat->Int} (hv:SK (bd (Go.Proofs.YtffajooegiempaaGreatDoor.trn f C)) v 4):∃ v',Sat v' C/\∀ b,b < 8->sd v' b=sd v (sgi f b):=by
 obtain ⟨s1,s2,s3,s4⟩:=sgm_ok f hf
 have hs:=(h.trn hf).sat hv
 have hb:∀ b,b < 8->sd (fun x=>sd v (sgi f (2*x))) b=sd v (sgi f b):=by
  intro b hb
  by_cases e:b % 2=0
  ·unfold sd
   rw [if_pos e]
   show sd v (sgi f (2*(b / 2)))=sd v (sgi f b)
   rw [show 2*(b / 2)=b by omega]
  ·have ho:opp b=2*(b / 2):=by unfold opp; rw [if_neg e]; omega
   have e1:sd (fun x=>sd v (sgi f (2*x))) b=-sd v (sgi f (2*(b / 2))):=by
    show (if b % 2=0 then sd v (sgi f (2*(b / 2))) else -sd v (sgi f (2*(b / 2))))=_
    rw [if_neg e]
   rw [e1,<- ho,sgi_opp hf hb,sd_opp,Int.neg_neg]
 refine ⟨fun x=>sd v (sgi f (2*x)),fun i j hi hj=>?_,hb⟩
 rw [hb i hi,hb j hj]
 have:=hs (sgi f i) (sgi f j) (s2 i hi).1 (s2 j hj).1
 rw [trn_at f C (s2 j hj).1,(s2 i hi).2,(s2 j hj).2] at this
 exact this
theorem ngf_sides:∀ f:Nat,f < 32->(f < 8->fs (ngf f)=opp f/\ss (ngf f)=opp f)/\(8<=f->opp (fs f) ≠ opp (ss f)/\opp (ss f) ≠ opp (opp (fs f))):=by decide +kernel
theorem TC.low {C:Nat->Int} (h:TC C) {f:Nat} (hf:f < 32) {c:Int} (hlt:c<=bd C f) (hc:bd C (ngf f)=NB \/ 0<=c+bd C (ngf f)):∃ v,Sat v C/\fval v f<=c:=by
 obtain ⟨s1,s2,s3,s4⟩:=sgm_ok f hf
 have hT:=h.trn hf
 have hfs:=fs_lt f hf
 have hss:=ss_lt f hf
 have e0:sgi f (fs f)=0:=by rw [<- s3]; exact (s1 0 (by omega)).2.2
 have m1:sgm f 1=opp (fs f):=by rw [<- s3]; exact (s1 0 (by omega)).2.1
 by_cases f8:f < 8
 ·have ff:=fs_lo f f8
  have e1:bd (Go.Proofs.YtffajooegiempaaGreatDoor.trn f C) 1=bd C (ngf f):=by
   obtain ⟨g1,g2⟩:=(ngf_sides f hf).1 f8
   have z0:fs 1=1/\ss 1=1:=by decide
   unfold bd
   rw [z0.1,z0.2,trn_at f C (by omega),m1,g1,g2,ff.1]
   simp
  obtain ⟨v,hv,e⟩:=hT.pick1c (c:=c) (by rw [e1]; exact hc)
  obtain ⟨v',h1,h2⟩:=h.back hf hv
  refine ⟨v',h1,?_⟩
  unfold fval
  rw [if_pos f8,h2 f f8]
  rw [ff.1] at e0
  rw [e0]
  exact e
 ·have hne:=fs_hi f hf (by omega)
  have m3:sgm f 3=opp (ss f):=by rw [<- s4 (by omega)]; exact (s1 2 (by omega)).2.1
  have e8:bd (Go.Proofs.YtffajooegiempaaGreatDoor.trn f C) 8=bd C f:=by
   unfold bd
   have z8:fs 8=0/\ss 8=2:=by decide
   rw [z8.1,z8.2,trn_at f C (by omega),s3,s4 (by omega),if_neg (fun q=>absurd q.1 (by decide)),if_neg (fun q=>hne q.1)]
  have e11:bd (Go.Proofs.YtffajooegiempaaGreatDoor.trn f C) 11=bd C (ngf f):=by
   obtain ⟨g1,g2⟩:=(ngf_sides f hf).2 (by omega)
   have z8:fs 11=1/\ss 11=3:=by decide
   have x:bd C (ngf f)=C (opp (fs f)*8+opp (ss f)):=bd_nf h.sym (opp_lt hfs) (opp_lt hss) g1 g2
   rw [x]
   unfold bd
   rw [z8.1,z8.2,trn_at f C (by omega),m1,m3,if_neg (fun q=>absurd q.1 (by decide))]
  obtain ⟨v,hv,e⟩:=hT.pick2c (c:=c) (by rw [e8]; exact hlt) (by rw [e11]; exact hc)
  obtain ⟨v',h1,h2⟩:=h.back hf hv
  refine ⟨v',h1,?_⟩
  have e2:sgi f (ss f)=2:=by rw [<- s4 (by omega)]; exact (s1 2 (by omega)).2.2
  unfold fval
  rw [if_neg f8,h2 _ hfs,h2 _ hss,e0,e2]
  exact e
end Go.Proofs.YtffajooegiempaaGreatDoor

namespace Go.Proofs.YtffajooegiempaaGreatDoor
structure Doc (M R:Nat->Int):Prop where
 raw:Raw M
 hi:∀ f,f < 32->R f<=NB
 un:Un R M
 ab:Ab (sharp M) R
theorem Doc.some {M R:Nat->Int} (h:Doc M R) (he:conF (sharp M) 8=false) (n:Nat):∃ R',itF R n=some R'/\Ab (sharp M) R'/\∀ f,f < 32->R' f<=NB:=itF_ab (h.raw.tc he) h.hi h.ab n
theorem Doc.done {M R0:Nat->Int} (hD:Doc M R0) {n:Nat} {R R':Nat->Int} (h:itF R0 n=Option.some R) (h2:rnd R=Option.some (R',false)):conF (sharp M) 8=false/\∀ f,f < 32->R' f=bd (sharp M) f:=by
 have hiR:=itF_hi hD.hi n R h
 have hI:=rF_inv hiR 1024 (Nat.le_refl _) R' false h2
 have hs:=hI.same rfl
 have hd:=rF_rd hiR h2
 have hrd:RdO R R:=⟨fun f _=>Int.le_refl _,hd.zer,fun f g hf hg k q1 q2=>by rw [<- hs _ (nm_lt hf hg (.inl k))]; exact hd.dou f g hf hg k q1 q2,fun f g hf hg k q1 q2=>by rw [<- hs _ (nm_lt hf hg (.inr k))]; exact hd.sum f g hf hg k q1 q2⟩
 have hle:∀ m R1,itF R0 m=Option.some R1->∀ f,f < 32->R1 f<=R0 f:=by
  intro m
  induction m with
  | zero=>intro R1 e f _; cases e; exact Int.le_refl _
  | succ m ih =>
   intro R1 e f hf
   obtain ⟨R2,b,e1,e2⟩:=itF_succ e
   have hi0:=itF_hi hD.hi m R2 e1
   exact Int.le_trans ((rF_inv hi0 1024 (Nat.le_refl _) _ b e2).le f hf) (ih R2 e1 f hf)
 have h0:Un R M:=by
  have u:=hD.un
  refine ⟨fun i hi q=>?_,fun i j hi hj h1 h2' q=>?_,u.zer⟩
  ·have a:=u.dia i hi q
   have b:=hle n R h i (by omega)
   omega
  ·have a:=u.off i j hi hj h1 h2' q
   have b:=hle n R h (nf i j) (nf_ok i hi j hj h2').1
   omega
 have hu:=hrd.un hD.raw h0
 cases he:conF (sharp M) 8 with
 | true =>
  obtain ⟨i,hi,q⟩:=conF_true he
  have:=hu.zer i hi
  omega
 | false =>
  obtain ⟨R1,e,a,hi⟩:=hD.some he n
  have:R1=R:=Option.some.inj (e.symm.trans h)
  subst this
  refine ⟨rfl,fun f hf=>?_⟩
  rw [hs f hf]
  exact hu.eqs (hD.raw.tc he) a hi f hf
def TLoB (m:Nat) (R:Nat->Int):Prop:=∀ f,f < 32->-(20000000000*((twS m).getD f 0:Int))<=R f
theorem rs1_tlob {m:Nat} (hm:m < 4096) {R:Nat->Int} (h:TLoB m R) {b:Bool} {R':Nat->Int} {b':Bool} {f g:Nat} (ef:f=m / 32 % 32) (eg:g=m % 32) (e:rs1 R b f g=some (R',b')):TLoB (m+1) R':=by
 have hf:f < 32:=by omega
 have hg:g < 32:=by omega
 have s:=rs1_is R b hf hg
 rw [e] at s
 have hT:=tst_ge (twS_len m (by omega)) hf hg
 have hS:twS (m+1)=tst (twS m) f g:=by rw [twS_succ hm,ef,eg]
 cases s with
 | same _ =>
  intro x hx
  have:=h x hx
  have:=hT.1 x
  rw [hS]
  omega
 | put n c q1 q2 hn en hc hk =>
  intro x hx
  rw [hS]
  unfold upd
  split
  ·rename_i ex
   have a:=h f hf
   have a':=h g hg
   rcases hk with ⟨k,ec⟩ | ⟨k,ec⟩
   ·have:=hT.2.1 k
    rw [ex,en,ec]
    omega
   ·have:=hT.2.2 k
    rw [ex,en,ec]
    omega
  ·have:=h x hx
   have:=hT.1 x
   omega
theorem rF_tlob {R:Nat->Int} (h:∀ f,f < 32->-20000000000<=R f):∀ k,k<=1024->∀ R' b,rF R k=some (R',b)->TLoB k R':=by
 intro k
 induction k with
 | zero =>
  intro _ R' b e
  rw [rF] at e
  cases e
  intro f hf
  have:=h f hf
  have:(twS 0).getD f 0=1:=(show ∀ f:Nat,f < 32->(twS 0).getD f 0=1 by decide +kernel) f hf
  rw [this]
  omega
 | succ k ih =>
  intro hk R' b e
  rw [rF] at e
  generalize hp:rF R k=p at e
  match p,hp,e with
  | some (R1,b1),hp,e =>
   exact rs1_tlob (by omega) (ih (by omega) R1 b1 hp) (by omega) (by omega) e
theorem tw1_end:(tb 8).length=32/\(tb 8).all (fun x=>decide (x<=20000))=true:=by decide +kernel
theorem tw1_small {m:Nat} (hm:m<=1024) {x:Nat} (hx:x < 32):(twS m).getD x 0<=20000:=by
 have h:=List.all_eq_true.1 tw1_end.2
 have a:=twS_mono m (1024 - m) x (by omega)
 have e:twS (m+(1024 - m))=tb 8:=by rw [show m+(1024 - m)=1024 by omega]; rfl
 rw [e] at a
 have hl:=tw1_end.1
 have b:=h ((tb 8).getD x 0) (by
  rw [List.getD,List.getElem?_eq_getElem (by omega)]
  exact List.getElem_mem _)
 have:=of_decide_eq_true b
 omega
theorem Doc.nov {M R0:Nat->Int} (hD:Doc M R0) (hlo:∀ k,k < 64->-20000000000<=M k) (hR:∀ f,f < 32->-20000000000<=R0 f) (hem:conF (sharp M) 8=true->itF R0 1=none) {n:Nat} {R:Nat->Int} (h:itF R0 n=Option.some R):Nov R:=by
 have hi:=itF_hi hD.hi n R h
 intro k hk R' b e f hf
 have up:R' f<=1000000:=by
  have:=(rF_inv hi k hk R' b e).le f hf
  have:=hi f hf
  unfold NB at this
  omega
 refine ⟨?_,up⟩
 cases he:conF (sharp M) 8 with
 | true =>
  have hn:n=0:=by
   rcases Nat.eq_zero_or_pos n with c | c
   ·exact c
   ·have:=itF_none (hem he) (n - 1)
    rw [show 1+(n - 1)=n by omega,h] at this
    cases this
  subst hn
  cases h
  have a:=rF_tlob hR k hk R' b e f hf
  have c:=tw1_small hk hf
  omega
 | false =>
  have hT:=hD.raw.tc he
  obtain ⟨R1,e1,a,hi1⟩:=hD.some he n
  have:R1=R:=Option.some.inj (e1.symm.trans h)
  subst this
  obtain ⟨R2,b2,e2,a2,_⟩:=rF_ab hT a hi1 k hk
  have e3:(R',b)=(R2,b2):=Option.some.inj (e.symm.trans e2)
  cases e3
  have x:=a2 f hf
  have hlo':Lo 33592320000000001 (sharp M):=ahF_lo (by decide) (rdF_lo (fw_lo (L:=20000000000) (by decide) hlo 8 (Nat.le_refl _)) 8) 64 (Nat.le_refl _)
  have y:=bd_lo (by decide) hlo' hf
  omega
theorem sharp_bd (M:Nat->Int) (hM:∀ a,a < 64->M a<=NB):∀ f,f < 32->bd (sharp M) f<=bd M f:=by
 intro f hf
 have k1:=fs_lt f hf
 have k2:=ss_lt f hf
 exact bd_mono (Int.le_trans (sharp_le M _) (hM _ (by omega))) (hM _ (by omega)) (sharp_le M _)
theorem TC.hi {C:Nat->Int} (h:TC C):∀ a,a < 64->C a<=NB:=by
 intro a ha
 rcases h.top a ha with q | q
 ·omega
 ·unfold NB; omega
theorem TC.un {C:Nat->Int} (h:TC C):Un (bd C) C:=by
 refine ⟨fun i hi q=>?_,fun i j hi hj h1 h2 q=>?_,fun i hi=>?_⟩
 ·have:=((h.lo hi).2 q).1; omega
 ·rw [bd_nf h.sym hi hj h1 h2]; exact Int.le_refl _
 ·rw [h.zero i hi]; exact Int.le_refl _
theorem TC.bd_hi {C:Nat->Int} (h:TC C) {f:Nat} (hf:f < 32):bd C f<=NB:=by
 rcases h.bd_top hf with q | q
 ·omega
 ·unfold NB; omega
theorem TC.doc {C:Nat->Int} (h:TC C) (hb:Bd 60000 C):Doc C (bd C) :=
 ⟨⟨hb,h.sym,h.zero⟩,fun _ hf=>h.bd_hi hf,h.un,sharp_bd C h.hi⟩
theorem TC.sharp_eq {C:Nat->Int} (h:TC C):∀ a,a < 64->sharp C a=C a:=by
 intro a ha
 have h1:=sharp_le C a
 have h2:=h.below_sharp (fun a _=>Int.le_refl _) h.hi a ha
 omega
theorem TC.sharp_con {C:Nat->Int} (h:TC C):conF (sharp C) 8=false:=by
 refine conF_no fun i hi=>?_
 rw [h.sharp_eq _ (by have:=opp_lt hi; omega),h.zero i hi]
 exact Int.le_refl _
theorem TC.sharp_bd_eq {C:Nat->Int} (h:TC C) {f:Nat} (hf:f < 32):bd (sharp C) f=bd C f:=by
 have k1:=fs_lt f hf
 have k2:=ss_lt f hf
 unfold bd
 rw [h.sharp_eq _ (by omega)]
def lowR (C:Nat->Int) (f:Nat) (c:Int):Nat->Int:=fun g=>if g=f then c else bd C g
theorem sb_at (C:Nat->Int) {f:Nat} (hf:f < 32) {c:Int} (hc:c ≠ NB) {i j:Nat} (_hi:i < 8) (hj:j < 8):sb C f c (i*8+j)=if (i=fs f/\j=ss f) \/ (i=ss f/\j=fs f) then (if f < 8 then 2*c else c) else C (i*8+j):=by
 obtain ⟨a1,a2,a3,a4,a5,a6⟩:=nf_fs f hf
 have e:(if fs f=ss f/\c ≠ NB then 2*c else c)=if f < 8 then 2*c else c:=by
  by_cases q:f < 8
  ·rw [if_pos q,if_pos ⟨by rw [(a5 q).1,(a5 q).2],hc⟩]
  ·rw [if_neg q,if_neg (fun z=>a6 (by omega) z.1)]
 unfold sb
 rw [e]
 generalize (if f < 8 then 2*c else c)=y
 unfold upd
 by_cases q1:i*8+j=ss f*8+fs f
 ·rw [if_pos q1,if_pos (.inr (by omega))]
 ·rw [if_neg q1]
  by_cases q2:i*8+j=fs f*8+ss f
  ·rw [if_pos q2,if_pos (.inl (by omega))]
  ·rw [if_neg q2,if_neg (by omega)]
theorem opp_sides {f:Nat} (hf:f < 32) {i:Nat} (hi:i < 8):¬ ((i=fs f/\opp i=ss f) \/ (i=ss f/\opp i=fs f)):=by
 obtain ⟨a1,a2,a3,a4,a5,a6⟩:=nf_fs f hf
 rintro (⟨e1,e2⟩ | ⟨e1,e2⟩)
 ·exact a4 (by rw [<- e1]; exact e2.symm)
 ·exact a4 (by rw [<- e2,opp_opp i hi]; exact e1.symm)
variable {C:Nat->Int} {f:Nat} {c:Int}
theorem sb_raw (h:TC C) (hb:Bd 60000 C) (hf:f < 32) (hc:c<=1000):Raw (sb C f c):=by
 have hn:c ≠ NB:=by unfold NB; omega
 refine ⟨fun a ha=>?_,fun i j hi hj=>?_,fun i hi=>?_⟩
 ·rw [show a=a / 8*8+a % 8 by omega,sb_at C hf hn (by omega) (by omega)]
  split
  ·split
   ·exact .inr (by omega)
   ·exact .inr (by omega)
  ·exact hb _ (by omega)
 ·rw [sb_at C hf hn hi hj,sb_at C hf hn hj hi]
  generalize (if f < 8 then 2*c else c)=y
  by_cases q:(i=fs f/\j=ss f) \/ (i=ss f/\j=fs f)
  ·rw [if_pos q,if_pos (by omega)]
  ·rw [if_neg q,if_neg (by omega)]
   exact h.sym i j hi hj
 ·rw [sb_at C hf hn hi (opp_lt hi),if_neg (opp_sides hf hi)]
  exact h.zero i hi
theorem sb_bd (_h:TC C) (hf:f < 32) (hc:c<=1000) {g:Nat} (hg:g < 32):bd (sb C f c) g=lowR C f c g:=by
 have hn:c ≠ NB:=by unfold NB; omega
 have hn2:2*c ≠ NB:=by unfold NB; omega
 obtain ⟨a1,a2,a3,a4,a5,a6⟩:=nf_fs f hf
 obtain ⟨b1,b2,b3,b4,b5,b6⟩:=nf_fs g hg
 have hE:sb C f c (fs g*8+ss g)=if g=f then (if f < 8 then 2*c else c) else C (fs g*8+ss g):=by
  rw [sb_at C hf hn b1 b2]
  generalize (if f < 8 then 2*c else c)=y
  by_cases e:g=f
  ·rw [if_pos e,if_pos (.inl (by rw [e]; exact ⟨rfl,rfl⟩))]
  ·rw [if_neg e,if_neg]
   rintro (⟨e1,e2⟩ | ⟨e1,e2⟩)
   ·exact e (by rw [<- b3,<- a3,e1,e2])
   ·exact e (by rw [<- b3,<- a3,e1,e2,nf_symm _ (ss_lt f hf) _ (fs_lt f hf)])
 unfold lowR bd
 rw [hE]
 by_cases e:g=f
 ·rw [if_pos e,if_pos e]
  by_cases q:f < 8
  ·rw [if_pos q,if_pos ⟨by rw [e,(a5 q).1,(a5 q).2],hn2⟩]
   have:=tdiv2 (2*c)
   rcases Int.lt_or_le (2*c) 0 with z | z
   ·rw [this.2 z]; omega
   ·rw [this.1 z]; omega
  ·rw [if_neg q,if_neg (fun z=>a6 (by omega) (by rw [<- e]; exact z.1))]
 ·rw [if_neg e,if_neg e]
theorem sb_le (h:TC C) (hf:f < 32) (hc:c<=1000):∀ a,a < 64->sb C f c a<=NB:=by
 have hn:c ≠ NB:=by unfold NB; omega
 intro a ha
 rw [show a=a / 8*8+a % 8 by omega,sb_at C hf hn (by omega) (by omega)]
 split
 ·split <;> (unfold NB; omega)
 ·exact h.hi _ (by omega)
theorem sb_doc (h:TC C) (hb:Bd 60000 C) (hf:f < 32) (hc:c<=1000):Doc (sb C f c) (lowR C f c):=by
 have hn:c ≠ NB:=by unfold NB; omega
 obtain ⟨a1,a2,a3,a4,a5,a6⟩:=nf_fs f hf
 refine ⟨sb_raw h hb hf hc,fun g hg=>?_,⟨fun i hi q=>?_,fun i j hi hj h1 h2 q=>?_,fun i hi=>?_⟩,fun g hg=>?_⟩
 ·unfold lowR
  split
  ·unfold NB; omega
  ·exact h.bd_hi hg
 ·rw [sb_at C hf hn hi hi] at q |-
  unfold lowR
  by_cases e:i=f
  ·have q8:f < 8:=by omega
   rw [if_pos e,if_pos (.inl (by rw [(a5 q8).1,(a5 q8).2]; exact ⟨e,e⟩)),if_pos q8]
   exact Int.le_refl _
  ·have hne:¬ ((i=fs f/\i=ss f) \/ (i=ss f/\i=fs f)):=by
    intro z
    have z1:fs f=i:=by omega
    have z2:ss f=i:=by omega
    rw [z1,z2,nf_self] at a3
    exact e a3
   rw [if_neg hne] at q |-
   rw [if_neg e]
   have:=((h.lo hi).2 q).1
   omega
 ·rw [sb_at C hf hn hi hj] at q |-
  unfold lowR
  by_cases e:(i=fs f/\j=ss f) \/ (i=ss f/\j=fs f)
  ·have e2:nf i j=f:=by
    rcases e with ⟨e1,e2⟩ | ⟨e1,e2⟩
    ·rw [e1,e2]; exact a3
    ·rw [e1,e2,nf_symm _ a2 _ a1]; exact a3
   have q8:¬ f < 8:=fun z=>by have:=a5 z; omega
   rw [if_pos e,if_neg q8,if_pos e2]
   exact Int.le_refl _
  ·have e2:nf i j ≠ f:=by
    intro z
    obtain ⟨_,n2⟩:=nf_ok i hi j hj h2
    rw [z] at n2
    exact e (by omega)
   rw [if_neg e] at q |-
   rw [if_neg e2,bd_nf h.sym hi hj h1 h2]
   exact Int.le_refl _
 ·rw [sb_at C hf hn hi (opp_lt hi),if_neg (opp_sides hf hi),h.zero i hi]
  exact Int.le_refl _
 ·rw [<- sb_bd h hf hc hg]
  exact sharp_bd _ (sb_le h hf hc) g hg
theorem sat_sb {v:Nat->Int} (hv:Sat v C) (hf:f < 32) (hc:c<=1000) (hl:fval v f<=c):Sat v (sb C f c):=by
 have hn:c ≠ NB:=by unfold NB; omega
 obtain ⟨a1,a2,a3,a4,a5,a6⟩:=nf_fs f hf
 intro i j hi hj
 rw [sb_at C hf hn hi hj]
 unfold fval at hl
 split
 ·rename_i e
  right
  by_cases q8:f < 8
  ·rw [if_pos q8] at hl |-
   have:=a5 q8
   have e1:i=f:=by omega
   have e2:j=f:=by omega
   rw [e1,e2]
   omega
  ·rw [if_neg q8] at hl |-
   rcases e with ⟨e1,e2⟩ | ⟨e1,e2⟩
   ·rw [e1,e2]; exact hl
   ·rw [e1,e2]; omega
 ·exact hv i j hi hj
theorem sb_empty (h:TC C) (hb:Bd 60000 C) (hf:f < 32) (hc:c<=1000) (hlt:c<=bd C f) (he:conF (sharp (sb C f c)) 8=true):itF (lowR C f c) 1=none:=by
 cases e1:itF (lowR C f c) 1 with
 | none=>rfl
 | some R1 =>
  exfalso
  have hD:=sb_doc h hb hf hc
  obtain ⟨n1,n2,n3⟩:=ngf_ok f hf
  have hr:=itF_rd hD.hi (n:=0) (R1:=lowR C f c) rfl e1
  have hcn:bd C (ngf f)=NB \/ 0<=c+bd C (ngf f):=by
   by_cases q:bd C (ngf f)=NB
   ·exact .inl q
   ·right
    have r1:lowR C f c f=c:=if_pos rfl
    have r2:lowR C f c (ngf f)=bd C (ngf f):=if_neg n3
    have:=hr.zer f (ngf f) hf n1 n2 (by rw [r1]; unfold NB; omega) (by rw [r2]; exact q)
    rw [r1,r2] at this
    exact this
  obtain ⟨v,hv,hl⟩:=h.low hf hlt hcn
  have:=(sat_sb hv hf hc hl).sharp.some
  rw [he] at this
  cases this
end Go.Proofs.YtffajooegiempaaGreatDoor

namespace Go.Proofs.YtffajooegiempaaGreatDoor
open Go.RowKit
variable {w:World}
theorem nst_no {l:List Int} {j:Nat} (h:nst l j=none):∀ d,nst l (j+d)=none
 | 0=>h
 | d+1=>by
  show (match nst l (j+d) with | none=>none | some (x,y)=>_)=none
  rw [nst_no h d]
theorem nst_4 {l:List Int} {j:Nat} (hj:j < 4) (h:nst l (j+1)=none):numV l=-1:=by
 have:=nst_no h (3 - j)
 rw [show j+1+(3 - j)=4 by omega] at this
 unfold numV
 rw [this]
theorem nst_step {l:List Int} {j:Nat} {x y:Int} (h:nst l j=some (x,y)):nst l (j+1)=if gAt l j < -1 \/ gAt l j > 1 \/ (gAt l j ≠ 0/\0<=y) then none else some (if gAt l j ≠ 0/\x < 0 then (j:Int) else x,if gAt l j ≠ 0/\0<=x then (j:Int) else y):=by
 rw [nst,h]
theorem numV_of {l:List Int} {x y:Int} (h:nst l 4=some (x,y)):numV l=if x < 0 then -1 else if y < 0 then 2*x+(1 - gAt l x.toNat).tdiv 2 else 8+4*((x*(8 - x - 1)).tdiv 2+y - x - 1)+(1 - gAt l x.toNat).tdiv 2*2+(1 - gAt l y.toNat).tdiv 2:=by
 unfold numV
 rw [h]
theorem ret_eq {a b:Int} (h:a=b):Ending.returned (.int .i64 a)=.returned (.int .i64 b):=by rw [h]
theorem r_number (u:Value) (l:List Int) (hl:l.length=4) (hu:Reads w u l) (hv:∀ i,i < 4->-5000<=gAt l i/\gAt l i<=5000) :
  Calls Tryz.prog 98 #[u] w fun e w'=>e=.returned (.int .i64 (numV l))/\Below w.heap.size w w':=by
 obtain ⟨au,cu,rfl,hcu,h0⟩:=hu
 obtain ⟨p,off,rfl,hp,hcell⟩:=h0 (by omega)
 have HC:Hid (∀ i,i < 4->w.cell? ⟨p,off+i,none⟩=some (.int .i64 (gAt l i))):=fun i hi=>hcell i (by omega)
 rw [hl]
 clear h0 hcell hcu
 go_enter Tryz.func98,Tryz.ntmps98
 go_wp2_with fail
 go_loopw [3,4,5] (fun xv yv i wr=>∃ (j:Nat) (x y:Int),j<=4/\xv=.int .i64 x/\yv=.int .i64 y/\i=.int .i64 j/\wr=w/\Hid (nst l j=some (x,y))/\-1<=x/\x < 4/\-1<=y/\y < 4) (fun _ _ i _=>4 - (intOf i).toNat)
 case atStart=>exact ⟨0,-1,-1,by omega,rfl,rfl,rfl,rfl,rfl,by omega,by omega,by omega,by omega⟩
 case round =>
  obtain ⟨j,x,y,hj,rfl,rfl,rfl,rfl,HR,x1,x2,y1,y2⟩:=hrel
  by_cases hlt:j < 4
  ·have hji:(j:Int) < 4:=by omega
   have cx:=HC.out j hlt
   have hb:=hv j hlt
   have HStep:Hid (nst l (j+1)=_):=nst_step HR.out
   generalize gAt l j=a at *
   by_cases e1:a < -1
   ·have HF:Hid (numV l=-1):=nst_4 hlt ((HStep.out).trans (if_pos (by exact .inl e1)))
    go_wp2_with fail
    go_ret
    exact ⟨by rw [HF.out]; rfl,Below.refl _ _⟩
   ·by_cases e2:1 < a
    ·have HF:Hid (numV l=-1):=nst_4 hlt ((HStep.out).trans (if_pos (by exact .inr (.inl e2))))
     go_wp2_with fail
     go_ret
     exact ⟨by rw [HF.out]; rfl,Below.refl _ _⟩
    ·by_cases e3:a=0
     ·have e3':(a != 0)=false:=by rw [e3]; rfl
      have HX:Hid (nst l (j+1)=some (x,y)):=by
       show nst l (j+1)=_
       rw [HStep.out,if_neg (by omega),if_neg (fun q=>q.1 e3),if_neg (fun q=>q.1 e3)]
      go_wp2_with fail
      go_roundw
      case rel=>exact ⟨j+1,_,_,by omega,rfl,rfl,by go_num,by simp,(HX.out),by omega,by omega,by omega,by omega⟩
      case measure=>simp [intOf]; omega
     ·have e3':(a != 0)=true:=by rw [bne_iff_ne]; exact e3
      by_cases e4:0<=y
      ·have HF:Hid (numV l=-1):=nst_4 hlt ((HStep.out).trans (if_pos (by exact .inr (.inr ⟨e3,e4⟩))))
       go_wp2_with fail
       go_ret
       exact ⟨by rw [HF.out]; rfl,Below.refl _ _⟩
      ·by_cases e5:0<=x
       ·have HX:Hid (nst l (j+1)=some (x,(j:Int))):=by
         show nst l (j+1)=_
         rw [HStep.out,if_neg (by omega),if_neg (fun q=>by omega),if_pos ⟨e3,e5⟩]
        go_wp2_with fail
        go_roundw
        case rel=>exact ⟨j+1,_,_,by omega,rfl,rfl,by go_num,by simp,(HX.out),by omega,by omega,by omega,by omega⟩
        case measure=>simp [intOf]; omega
       ·have HX:Hid (nst l (j+1)=some ((j:Int),y)):=by
         show nst l (j+1)=_
         rw [HStep.out,if_neg (by omega),if_pos ⟨e3,by omega⟩,if_neg (fun q=>by omega)]
        go_wp2_with fail
        go_roundw
        case rel=>exact ⟨j+1,_,_,by omega,rfl,rfl,by go_num,by simp,(HX.out),by omega,by omega,by omega,by omega⟩
        case measure=>simp [intOf]; omega
  ·have hj4:j=4:=by omega
   subst hj4
   have HN:Hid (numV l=_):=numV_of HR.out
   by_cases e1:x < 0
   ·have HF:Hid (numV l=-1):=HN.out.trans (if_pos e1)
    go_wp2_with fail
    go_ret
    exact ⟨by rw [HF.out]; rfl,Below.refl _ _⟩
   ·by_cases e2:y < 0
    ·rcases (show x=0 \/ x=1 \/ x=2 \/ x=3 by omega) with rfl | rfl | rfl | rfl
     ·have cx:=HC.out 0 (by omega)
      have hb:=hv 0 (by omega)
      have HF:Hid (numV l=2*0+(1 - gAt l 0).tdiv 2):=HN.out.trans ((if_neg (by omega)).trans (if_pos e2))
      try rw [Nat.add_zero] at cx
      generalize gAt l 0=a at *
      have ta:=tdiv2_le (1 - a)
      go_wp2_with fail
      go_ret
      exact ⟨by rw [HF.out]; exact ret_eq (by omega),Below.refl _ _⟩
     ·have cx:=HC.out 1 (by omega)
      have hb:=hv 1 (by omega)
      have HF:Hid (numV l=2*1+(1 - gAt l 1).tdiv 2):=HN.out.trans ((if_neg (by omega)).trans (if_pos e2))
      try rw [Nat.add_zero] at cx
      generalize gAt l 1=a at *
      have ta:=tdiv2_le (1 - a)
      go_wp2_with fail
      go_ret
      exact ⟨by rw [HF.out]; exact ret_eq (by omega),Below.refl _ _⟩
     ·have cx:=HC.out 2 (by omega)
      have hb:=hv 2 (by omega)
      have HF:Hid (numV l=2*2+(1 - gAt l 2).tdiv 2):=HN.out.trans ((if_neg (by omega)).trans (if_pos e2))
      try rw [Nat.add_zero] at cx
      generalize gAt l 2=a at *
      have ta:=tdiv2_le (1 - a)
      go_wp2_with fail
      go_ret
      exact ⟨by rw [HF.out]; exact ret_eq (by omega),Below.refl _ _⟩
     ·have cx:=HC.out 3 (by omega)
      have hb:=hv 3 (by omega)
      have HF:Hid (numV l=2*3+(1 - gAt l 3).tdiv 2):=HN.out.trans ((if_neg (by omega)).trans (if_pos e2))
      try rw [Nat.add_zero] at cx
      generalize gAt l 3=a at *
      have ta:=tdiv2_le (1 - a)
      go_wp2_with fail
      go_ret
      exact ⟨by rw [HF.out]; exact ret_eq (by omega),Below.refl _ _⟩
    ·rcases (show x=0 \/ x=1 \/ x=2 \/ x=3 by omega) with rfl | rfl | rfl | rfl
     ·rcases (show y=0 \/ y=1 \/ y=2 \/ y=3 by omega) with rfl | rfl | rfl | rfl
      ·have cx:=HC.out 0 (by omega)
       have hb:=hv 0 (by omega)
       have cy:=HC.out 0 (by omega)
       have hc:=hv 0 (by omega)
       have HF:Hid (numV l=8+4*(-1)+(1 - gAt l 0).tdiv 2*2+(1 - gAt l 0).tdiv 2):=HN.out.trans ((if_neg (by omega)).trans (if_neg (by omega)))
       try rw [Nat.add_zero] at cx
       try rw [Nat.add_zero] at cy
       generalize gAt l 0=a at *
       generalize gAt l 0=c at *
       have ta:=tdiv2_le (1 - a)
       have tc:=tdiv2_le (1 - c)
       go_wp2_with fail
       go_quiet (fail)
       go_wp2_with fail
       go_ret
       exact ⟨by rw [HF.out]; exact ret_eq (by omega),below_drewN (Below.refl _ _) _⟩
      ·have cx:=HC.out 0 (by omega)
       have hb:=hv 0 (by omega)
       have cy:=HC.out 1 (by omega)
       have hc:=hv 1 (by omega)
       have HF:Hid (numV l=8+4*(0)+(1 - gAt l 0).tdiv 2*2+(1 - gAt l 1).tdiv 2):=HN.out.trans ((if_neg (by omega)).trans (if_neg (by omega)))
       try rw [Nat.add_zero] at cx
       try rw [Nat.add_zero] at cy
       generalize gAt l 0=a at *
       generalize gAt l 1=c at *
       have ta:=tdiv2_le (1 - a)
       have tc:=tdiv2_le (1 - c)
       go_wp2_with fail
       go_quiet (fail)
       go_wp2_with fail
       go_ret
       exact ⟨by rw [HF.out]; exact ret_eq (by omega),below_drewN (Below.refl _ _) _⟩
      ·have cx:=HC.out 0 (by omega)
       have hb:=hv 0 (by omega)
       have cy:=HC.out 2 (by omega)
       have hc:=hv 2 (by omega)
       have HF:Hid (numV l=8+4*(1)+(1 - gAt l 0).tdiv 2*2+(1 - gAt l 2).tdiv 2):=HN.out.trans ((if_neg (by omega)).trans (if_neg (by omega)))
       try rw [Nat.add_zero] at cx
       try rw [Nat.add_zero] at cy
       generalize gAt l 0=a at *
       generalize gAt l 2=c at *
       have ta:=tdiv2_le (1 - a)
       have tc:=tdiv2_le (1 - c)
       go_wp2_with fail
       go_quiet (fail)
       go_wp2_with fail
       go_ret
       exact ⟨by rw [HF.out]; exact ret_eq (by omega),below_drewN (Below.refl _ _) _⟩
      ·have cx:=HC.out 0 (by omega)
       have hb:=hv 0 (by omega)
       have cy:=HC.out 3 (by omega)
       have hc:=hv 3 (by omega)
       have HF:Hid (numV l=8+4*(2)+(1 - gAt l 0).tdiv 2*2+(1 - gAt l 3).tdiv 2):=HN.out.trans ((if_neg (by omega)).trans (if_neg (by omega)))
       try rw [Nat.add_zero] at cx
       try rw [Nat.add_zero] at cy
       generalize gAt l 0=a at *
       generalize gAt l 3=c at *
       have ta:=tdiv2_le (1 - a)
       have tc:=tdiv2_le (1 - c)
       go_wp2_with fail
       go_quiet (fail)
       go_wp2_with fail
       go_ret
       exact ⟨by rw [HF.out]; exact ret_eq (by omega),below_drewN (Below.refl _ _) _⟩
     ·rcases (show y=0 \/ y=1 \/ y=2 \/ y=3 by omega) with rfl | rfl | rfl | rfl
      ·have cx:=HC.out 1 (by omega)
       have hb:=hv 1 (by omega)
       have cy:=HC.out 0 (by omega)
       have hc:=hv 0 (by omega)
       have HF:Hid (numV l=8+4*(1)+(1 - gAt l 1).tdiv 2*2+(1 - gAt l 0).tdiv 2):=HN.out.trans ((if_neg (by omega)).trans (if_neg (by omega)))
       try rw [Nat.add_zero] at cx
       try rw [Nat.add_zero] at cy
       generalize gAt l 1=a at *
       generalize gAt l 0=c at *
       have ta:=tdiv2_le (1 - a)
       have tc:=tdiv2_le (1 - c)
       go_wp2_with fail
       go_quiet (fail)
       go_wp2_with fail
       go_ret
       exact ⟨by rw [HF.out]; exact ret_eq (by omega),below_drewN (Below.refl _ _) _⟩
      ·have cx:=HC.out 1 (by omega)
       have hb:=hv 1 (by omega)
       have cy:=HC.out 1 (by omega)
       have hc:=hv 1 (by omega)
       have HF:Hid (numV l=8+4*(2)+(1 - gAt l 1).tdiv 2*2+(1 - gAt l 1).tdiv 2):=HN.out.trans ((if_neg (by omega)).trans (if_neg (by omega)))
       try rw [Nat.add_zero] at cx
       try rw [Nat.add_zero] at cy
       generalize gAt l 1=a at *
       generalize gAt l 1=c at *
       have ta:=tdiv2_le (1 - a)
       have tc:=tdiv2_le (1 - c)
       go_wp2_with fail
       go_quiet (fail)
       go_wp2_with fail
       go_ret
       exact ⟨by rw [HF.out]; exact ret_eq (by omega),below_drewN (Below.refl _ _) _⟩
      ·have cx:=HC.out 1 (by omega)
       have hb:=hv 1 (by omega)
       have cy:=HC.out 2 (by omega)
       have hc:=hv 2 (by omega)
       have HF:Hid (numV l=8+4*(3)+(1 - gAt l 1).tdiv 2*2+(1 - gAt l 2).tdiv 2):=HN.out.trans ((if_neg (by omega)).trans (if_neg (by omega)))
       try rw [Nat.add_zero] at cx
       try rw [Nat.add_zero] at cy
       generalize gAt l 1=a at *
       generalize gAt l 2=c at *
       have ta:=tdiv2_le (1 - a)
       have tc:=tdiv2_le (1 - c)
       go_wp2_with fail
       go_quiet (fail)
       go_wp2_with fail
       go_ret
       exact ⟨by rw [HF.out]; exact ret_eq (by omega),below_drewN (Below.refl _ _) _⟩
      ·have cx:=HC.out 1 (by omega)
       have hb:=hv 1 (by omega)
       have cy:=HC.out 3 (by omega)
       have hc:=hv 3 (by omega)
       have HF:Hid (numV l=8+4*(4)+(1 - gAt l 1).tdiv 2*2+(1 - gAt l 3).tdiv 2):=HN.out.trans ((if_neg (by omega)).trans (if_neg (by omega)))
       try rw [Nat.add_zero] at cx
       try rw [Nat.add_zero] at cy
       generalize gAt l 1=a at *
       generalize gAt l 3=c at *
       have ta:=tdiv2_le (1 - a)
       have tc:=tdiv2_le (1 - c)
       go_wp2_with fail
       go_quiet (fail)
       go_wp2_with fail
       go_ret
       exact ⟨by rw [HF.out]; exact ret_eq (by omega),below_drewN (Below.refl _ _) _⟩
     ·rcases (show y=0 \/ y=1 \/ y=2 \/ y=3 by omega) with rfl | rfl | rfl | rfl
      ·have cx:=HC.out 2 (by omega)
       have hb:=hv 2 (by omega)
       have cy:=HC.out 0 (by omega)
       have hc:=hv 0 (by omega)
       have HF:Hid (numV l=8+4*(2)+(1 - gAt l 2).tdiv 2*2+(1 - gAt l 0).tdiv 2):=HN.out.trans ((if_neg (by omega)).trans (if_neg (by omega)))
       try rw [Nat.add_zero] at cx
       try rw [Nat.add_zero] at cy
       generalize gAt l 2=a at *
       generalize gAt l 0=c at *
       have ta:=tdiv2_le (1 - a)
       have tc:=tdiv2_le (1 - c)
       go_wp2_with fail
       go_quiet (fail)
       go_wp2_with fail
       go_ret
       exact ⟨by rw [HF.out]; exact ret_eq (by omega),below_drewN (Below.refl _ _) _⟩
      ·have cx:=HC.out 2 (by omega)
       have hb:=hv 2 (by omega)
       have cy:=HC.out 1 (by omega)
       have hc:=hv 1 (by omega)
       have HF:Hid (numV l=8+4*(3)+(1 - gAt l 2).tdiv 2*2+(1 - gAt l 1).tdiv 2):=HN.out.trans ((if_neg (by omega)).trans (if_neg (by omega)))
       try rw [Nat.add_zero] at cx
       try rw [Nat.add_zero] at cy
       generalize gAt l 2=a at *
       generalize gAt l 1=c at *
       have ta:=tdiv2_le (1 - a)
       have tc:=tdiv2_le (1 - c)
       go_wp2_with fail
       go_quiet (fail)
       go_wp2_with fail
       go_ret
       exact ⟨by rw [HF.out]; exact ret_eq (by omega),below_drewN (Below.refl _ _) _⟩
      ·have cx:=HC.out 2 (by omega)
       have hb:=hv 2 (by omega)
       have cy:=HC.out 2 (by omega)
       have hc:=hv 2 (by omega)
       have HF:Hid (numV l=8+4*(4)+(1 - gAt l 2).tdiv 2*2+(1 - gAt l 2).tdiv 2):=HN.out.trans ((if_neg (by omega)).trans (if_neg (by omega)))
       try rw [Nat.add_zero] at cx
       try rw [Nat.add_zero] at cy
       generalize gAt l 2=a at *
       generalize gAt l 2=c at *
       have ta:=tdiv2_le (1 - a)
       have tc:=tdiv2_le (1 - c)
       go_wp2_with fail
       go_quiet (fail)
       go_wp2_with fail
       go_ret
       exact ⟨by rw [HF.out]; exact ret_eq (by omega),below_drewN (Below.refl _ _) _⟩
      ·have cx:=HC.out 2 (by omega)
       have hb:=hv 2 (by omega)
       have cy:=HC.out 3 (by omega)
       have hc:=hv 3 (by omega)
       have HF:Hid (numV l=8+4*(5)+(1 - gAt l 2).tdiv 2*2+(1 - gAt l 3).tdiv 2):=HN.out.trans ((if_neg (by omega)).trans (if_neg (by omega)))
       try rw [Nat.add_zero] at cx
       try rw [Nat.add_zero] at cy
       generalize gAt l 2=a at *
       generalize gAt l 3=c at *
       have ta:=tdiv2_le (1 - a)
       have tc:=tdiv2_le (1 - c)
       go_wp2_with fail
       go_quiet (fail)
       go_wp2_with fail
       go_ret
       exact ⟨by rw [HF.out]; exact ret_eq (by omega),below_drewN (Below.refl _ _) _⟩
     ·rcases (show y=0 \/ y=1 \/ y=2 \/ y=3 by omega) with rfl | rfl | rfl | rfl
      ·have cx:=HC.out 3 (by omega)
       have hb:=hv 3 (by omega)
       have cy:=HC.out 0 (by omega)
       have hc:=hv 0 (by omega)
       have HF:Hid (numV l=8+4*(2)+(1 - gAt l 3).tdiv 2*2+(1 - gAt l 0).tdiv 2):=HN.out.trans ((if_neg (by omega)).trans (if_neg (by omega)))
       try rw [Nat.add_zero] at cx
       try rw [Nat.add_zero] at cy
       generalize gAt l 3=a at *
       generalize gAt l 0=c at *
       have ta:=tdiv2_le (1 - a)
       have tc:=tdiv2_le (1 - c)
       go_wp2_with fail
       go_quiet (fail)
       go_wp2_with fail
       go_ret
       exact ⟨by rw [HF.out]; exact ret_eq (by omega),below_drewN (Below.refl _ _) _⟩
      ·have cx:=HC.out 3 (by omega)
       have hb:=hv 3 (by omega)
       have cy:=HC.out 1 (by omega)
       have hc:=hv 1 (by omega)
       have HF:Hid (numV l=8+4*(3)+(1 - gAt l 3).tdiv 2*2+(1 - gAt l 1).tdiv 2):=HN.out.trans ((if_neg (by omega)).trans (if_neg (by omega)))
       try rw [Nat.add_zero] at cx
       try rw [Nat.add_zero] at cy
       generalize gAt l 3=a at *
       generalize gAt l 1=c at *
       have ta:=tdiv2_le (1 - a)
       have tc:=tdiv2_le (1 - c)
       go_wp2_with fail
       go_quiet (fail)
       go_wp2_with fail
       go_ret
       exact ⟨by rw [HF.out]; exact ret_eq (by omega),below_drewN (Below.refl _ _) _⟩
      ·have cx:=HC.out 3 (by omega)
       have hb:=hv 3 (by omega)
       have cy:=HC.out 2 (by omega)
       have hc:=hv 2 (by omega)
       have HF:Hid (numV l=8+4*(4)+(1 - gAt l 3).tdiv 2*2+(1 - gAt l 2).tdiv 2):=HN.out.trans ((if_neg (by omega)).trans (if_neg (by omega)))
       try rw [Nat.add_zero] at cx
       try rw [Nat.add_zero] at cy
       generalize gAt l 3=a at *
       generalize gAt l 2=c at *
       have ta:=tdiv2_le (1 - a)
       have tc:=tdiv2_le (1 - c)
       go_wp2_with fail
       go_quiet (fail)
       go_wp2_with fail
       go_ret
       exact ⟨by rw [HF.out]; exact ret_eq (by omega),below_drewN (Below.refl _ _) _⟩
      ·have cx:=HC.out 3 (by omega)
       have hb:=hv 3 (by omega)
       have cy:=HC.out 3 (by omega)
       have hc:=hv 3 (by omega)
       have HF:Hid (numV l=8+4*(5)+(1 - gAt l 3).tdiv 2*2+(1 - gAt l 3).tdiv 2):=HN.out.trans ((if_neg (by omega)).trans (if_neg (by omega)))
       try rw [Nat.add_zero] at cx
       try rw [Nat.add_zero] at cy
       generalize gAt l 3=a at *
       generalize gAt l 3=c at *
       have ta:=tdiv2_le (1 - a)
       have tc:=tdiv2_le (1 - c)
       go_wp2_with fail
       go_quiet (fail)
       go_wp2_with fail
       go_ret
       exact ⟨by rw [HF.out]; exact ret_eq (by omega),below_drewN (Below.refl _ _) _⟩
end Go.Proofs.YtffajooegiempaaGreatDoor

