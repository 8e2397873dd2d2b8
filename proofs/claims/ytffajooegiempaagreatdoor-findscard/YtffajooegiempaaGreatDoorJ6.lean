import Derived.Test.YtffajooegiempaaGreatDoorJ5
set_option maxRecDepth 100000
set_option maxHeartbeats 6400000
namespace Go.Proofs.YtffajooegiempaaGreatDoor
theorem Vm{f g:Nat}{c:Int}(h:kdT f g=1):(c<0->CS (Ci f g) c=(-2,0))/\(¬c<0->CS (Ci f g) c=(-1,0)):=by
 have h':kd (Ci f g)=1:=h;unfold CS;rw[h'];exact⟨λq=>if_pos ⟨rfl,q⟩,λq=>by rw[if_neg (λz=>q z.2),if_neg (by decide),if_neg (by decide)]⟩
theorem Y1{f g:Nat}{c:Int}(hf:f<32)(hg:g<32)(h:kdT f g=2):CS (Ci f g) c=((nmT f g:Int),c/2):=by
 have h':kd (Ci f g)=2:=h;unfold CS;rw[h',if_neg (λz=>absurd z.1 (by decide)),if_pos rfl,((Li f hf g hg).1 h).1]
theorem Y2{f g:Nat}{c:Int}(hf:f<32)(hg:g<32)(h:kdT f g=3):CS (Ci f g) c=((nmT f g:Int),c):=by
 have h':kd (Ci f g)=3:=h;unfold CS;rw[h',if_neg (λz=>absurd z.1 (by decide)),if_neg (by decide),if_pos rfl,((Li f hf g hg).2 h).1]
theorem Y0{f g:Nat}{c:Int}(h1:kdT f g≠1)(h2:kdT f g≠2)(h3:kdT f g≠3):CS (Ci f g) c=(-1,0):=by
 unfold CS;rw[if_neg (λz=>h1 z.1),if_neg (show¬kd (Ci f g)=2 from h2),if_neg (show¬kd (Ci f g)=3 from h3)]
def Lw(R:Nat->Int)(b:Bool)(f g:Nat):Option ((Nat->Int)×Bool):=
 if R f=NB\/R g=NB then some (R,b)
 else if(CS (Ci f g) (R f+R g)).1= -2 then none
 else if 0<=(CS (Ci f g) (R f+R g)).1/\(CS (Ci f g) (R f+R g)).2<R (CS (Ci f g) (R f+R g)).1.toNat then some (Bw R (CS (Ci f g) (R f+R g)).1.toNat (CS (Ci f g) (R f+R g)).2,true)
 else some (R,b)
def rF(R:Nat->Int):Nat->Option ((Nat->Int)×Bool)
 |0=>some (R,false)
 |k+1=>match rF R k with
  |none=>none
  |some (R',b)=>Lw R' b (k/32) (k%32)
inductive Rs(R:Nat->Int)(b:Bool)(f g:Nat):Option ((Nat->Int)×Bool)->Prop
 |none:R f≠NB->R g≠NB->kdT f g=1->R f+R g<0->Rs R b f g none
 |same:(R f≠NB->R g≠NB->(kdT f g=1->0<=R f+R g)/\(kdT f g=2->R (nmT f g)<=(R f+R g)/2)/\(kdT f g=3->R (nmT f g)<=R f+R g))->Rs R b f g (some (R,b))
 |put (n:Nat) (c:Int):R f≠NB->R g≠NB->n<32->n=nmT f g->c<R n->(kdT f g=2/\c=(R f+R g)/2)\/(kdT f g=3/\c=R f+R g)->Rs R b f g (some (Bw R n c,true))
theorem Mp(R:Nat->Int)(b:Bool){f g:Nat}(hf:f<32)(hg:g<32):Rs R b f g (Lw R b f g):=by
 unfold Lw;by_cases q:R f=NB\/R g=NB
 ·rw[if_pos q];exact .same λh1 h2=>absurd q (λz=>z.elim h1 h2)
 ·rw[if_neg q];have q1:R f≠NB:=λz=>q (.inl z);have q2:R g≠NB:=λz=>q (.inr z);by_cases k1:kdT f g=1
  ·by_cases c:R f+R g<0
   ·rw[(Vm k1).1 c,if_pos rfl];exact .none q1 q2 k1 c
   ·rw[(Vm k1).2 c,if_neg (by decide),if_neg (λz=>absurd z.1 (by decide))];exact .same λ_ _=>⟨λ_=>by omega,λz=>absurd (k1.symm.trans z) (by decide),λz=>absurd (k1.symm.trans z) (by decide)⟩
  ·by_cases k2:kdT f g=2
   ·rw[Y1 hf hg k2,if_neg (by show¬((nmT f g:Nat):Int)= -2;omega)];show Rs R b f g (if 0<=((nmT f g:Nat):Int)/\(R f+R g)/2<R (((nmT f g:Nat):Int)).toNat then some (Bw R (((nmT f g:Nat):Int)).toNat ((R f+R g)/2),true)else some (R,b));rw[Int.toNat_natCast];by_cases c:(R f+R g)/2<R (nmT f g)
    ·rw[if_pos ⟨by omega,c⟩];exact .put _ _ q1 q2 (by have:=((Li f hf g hg).1 k2).2;omega) rfl c (.inl ⟨k2,rfl⟩)
    ·rw[if_neg (λz=>c z.2)];exact .same λ_ _=>⟨λz=>absurd z k1,λ_=>by omega,λz=>absurd (k2.symm.trans z) (by decide)⟩
   ·by_cases k3:kdT f g=3
    ·rw[Y2 hf hg k3,if_neg (by show¬((nmT f g:Nat):Int)= -2;omega)];show Rs R b f g (if 0<=((nmT f g:Nat):Int)/\(R f+R g)<R (((nmT f g:Nat):Int)).toNat then some (Bw R (((nmT f g:Nat):Int)).toNat (R f+R g),true)else some (R,b));rw[Int.toNat_natCast];by_cases c:R f+R g<R (nmT f g)
     ·rw[if_pos ⟨by omega,c⟩];exact .put _ _ q1 q2 ((Li f hf g hg).2 k3).2 rfl c (.inr ⟨k3,rfl⟩)
     ·rw[if_neg (λz=>c z.2)];exact .same λ_ _=>⟨λz=>absurd z k1,λz=>absurd (k3.symm.trans z) (by decide),λ_=>by omega⟩
    ·rw[Y0 k1 k2 k3,if_neg (by decide),if_neg (λz=>absurd z.1 (by decide))];exact .same λ_ _=>⟨λz=>absurd z k1,λz=>absurd z k2,λz=>absurd z k3⟩
structure RI(R:Nat->Int)(k:Nat)(R':Nat->Int)(b:Bool):Prop where
 le:∀f,f<32->R' f<=R f
 same:b=false->∀f,f<32->R' f=R f
 more:b=true->∃f,f<32/\R' f<R f
 done:∀m,m<k->R (m/32)≠NB->R (m%32)≠NB->(kdT (m/32) (m%32)=1->0<=R (m/32)+R (m%32))/\(kdT (m/32) (m%32)=2->R' (nmT (m/32) (m%32))<=(R (m/32)+R (m%32))/2)/\(kdT (m/32) (m%32)=3->R' (nmT (m/32) (m%32))<=R (m/32)+R (m%32))
theorem G_{f g:Nat}(hf:f<32)(hg:g<32)(h:kdT f g=2\/kdT f g=3):nmT f g<32:=by
 rcases h with h|h
 ·have:=((Li f hf g hg).1 h).2;omega
 ·exact((Li f hf g hg).2 h).2
theorem EW{R:Nat->Int}(hR:∀f,f<32->R f<=NB):∀k,k<=1024->∀R' b,rF R k=some (R',b)->RI R k R' b:=by
 intro k;induction k with
 |zero=>
  intro _ R' b h;rw[rF]at h;cases h
  exact⟨λ_ _=>Int.le_refl _,λ_ _ _=>rfl,λq=>Bool.noConfusion q,λm hm=>by omega⟩
 |succ k ih=>
  intro hk R' b h;rw[rF]at h;generalize hp:rF R k=p at h
  match p,hp,h with
  |some (R1,b1),hp,h=>
   have hi:=ih (by omega) R1 b1 hp;have hf:k/32<32:=by omega
   have hg:k%32<32:=by omega
   have s:=Mp R1 b1 hf hg;replace h:Lw R1 b1 (k/32) (k%32)=some (R',b):=h;rw[h]at s;have fin:∀f,f<32->R f≠NB->R1 f≠NB:=by
    intro f hf q;have:=hR f hf;have:=hi.le f hf;omega
   cases s with
   |same hs=>
    refine⟨hi.le,hi.same,hi.more,λm hm q1 q2=>?_⟩;rcases Nat.lt_or_eq_of_le (Nat.lt_succ_iff.1 hm)with e|e
    ·exact hi.done m e q1 q2
    ·subst e;obtain⟨a1,a2,a3⟩:=hs (fin _ hf q1) (fin _ hg q2);have l1:=hi.le _ hf;have l2:=hi.le _ hg;exact⟨λz=>by have:=a1 z;omega,λz=>by have:=a2 z;omega,λz=>by have:=a3 z;omega⟩
   |put n c q1 q2 hn en hc hk'=>
    have le':∀f,f<32->Bw R1 n c f<=R1 f:=by
     intro f hf;unfold Bw;split
     ·rename_i e;subst e;omega
     ·exact Int.le_refl _
    refine⟨λf hf=>Int.le_trans (le' f hf) (hi.le f hf),λq=>Bool.noConfusion q,λ_=>⟨n,hn,?_⟩,λm hm w1 w2=>?_⟩
    ·rw[CV];have:=hi.le n hn;omega
    ·rcases Nat.lt_or_eq_of_le (Nat.lt_succ_iff.1 hm)with e|e
     ·obtain⟨a1,a2,a3⟩:=hi.done m e w1 w2;refine⟨a1,λz=>?_,λz=>?_⟩
      ·exact Int.le_trans (le' _ (G_ (by omega) (by omega) (.inl z))) (a2 z)
      ·exact Int.le_trans (le' _ (G_ (by omega) (by omega) (.inr z))) (a3 z)
     ·subst e;have l1:=hi.le _ hf;have l2:=hi.le _ hg;rw[<-en,CV];rcases hk' with⟨k2,ec⟩|⟨k3,ec⟩
      ·exact⟨λz=>absurd (k2.symm.trans z) (by decide),λ_=>by omega,λz=>absurd (k2.symm.trans z) (by decide)⟩
      ·exact⟨λz=>absurd (k3.symm.trans z) (by decide),λz=>absurd (k3.symm.trans z) (by decide),λ_=>by omega⟩
theorem T7{R R':Nat->Int}{b:Bool}(hR:∀f,f<32->R f<=NB)(h:rF R 1024=some (R',b)):Ku R R':=by
 have hi:=EW hR 1024 (Nat.le_refl _) R' b h;have hd:∀f g,f<32->g<32->R f≠NB->R g≠NB->(kdT f g=1->0<=R f+R g)/\(kdT f g=2->R' (nmT f g)<=(R f+R g)/2)/\(kdT f g=3->R' (nmT f g)<=R f+R g):=by
  intro f g hf hg;have:=hi.done (f*32+g) (by omega);rw[show(f*32+g)/32=f by omega,show(f*32+g)%32=g by omega]at this;exact this
 exact⟨hi.le,λf g hf hg k q1 q2=>(hd f g hf hg q1 q2).1 k,λf g hf hg k q1 q2=>(hd f g hf hg q1 q2).2.1 k,λf g hf hg k q1 q2=>(hd f g hf hg q1 q2).2.2 k⟩
theorem NI.rounds{M:Nat->Int}(h:NI M){R:Nat->Nat->Int}(hr:∀r,r<16->Ku (R r) (R (r+1)))(h0:Un (R 0) M):∀s,s<=8->Ex M s/\Un (R (2*s)) (fw M s):=by
 intro s;induction s with
 |zero=>intro _;exact⟨λr hr=>by omega,h0⟩
 |succ s ih=>
  intro hs;obtain⟨hx,hu⟩:=ih (by omega);have hz:fw M s (s*8+opp s)=0:=by
   have a:=hu.zer s (by omega);have b:=F8 M s (s*8+opp s);rw[h.zero s (by omega)]at b;omega
  refine⟨λr hr=>?_,?_⟩
  ·rcases Nat.lt_or_eq_of_le (Nat.lt_succ_iff.1 hr)with e|e
   ·exact hx r e
   ·rw[e];exact hz
  ·rw[fw,show 2*(s+1)=2*s+1+1 by omega];exact hu.chain (by omega) (U:=7*60000) (by decide) (by decide) (QU (by decide) (by decide) h.bd h.zero s (by omega) hx) hz (hr (2*s) (by omega)) (hr (2*s+1) (by omega))
theorem Un.sharp{R R' T:Nat->Int}(hB:Bd 432000 T)(h:Un R T)(hr:Ku R R'):Un R' (Ea (Ef T 8) 64):=by
 have sh:∀{i j:Nat},i<8->j<8->VP T (Ea (Ef T 8) 64 (i*8+j)) i j:=λhi hj=>Ud (U:=432000) (by omega) hB hi hj;generalize Ea (Ef T 8) 64=C at sh|-;have h':=h.rd hr;have one:∀i,i<8->ev (T (i*8+i))≠NB->R i≠NB/\2*R i<=ev (T (i*8+i)):=by
  intro i hi q;obtain⟨k1,k2⟩:=S_ q;have a:=h.dia i hi k1;have b:=(hB (i*8+i) (by omega)).resolve_left k1;rw[k2];exact⟨by unfold NB;omega,by omega⟩
 refine⟨λi hi q=>?_,λi j hi hj e1 e2 q=>?_,λi hi=>?_⟩
 ·rw[Ue (sh hi hi)]at q|-;have:=(one i hi q).2;have:=hr.le i (by omega);omega
 ·rcases(sh hi hj).cas with z|⟨_,z2,z3⟩|⟨z1,z2,z3⟩
  ·exact absurd z q
  ·rw[z2];exact h'.off i j hi hj e1 e2 z3
  ·obtain⟨a1,a2⟩:=one i hi z1;obtain⟨b1,b2⟩:=one j hj z2;have t:=(OS i hi j hj).2 ⟨λe=>e1 e.symm,e2⟩;have x:=hr.sum i j (by omega) (by omega) t.1 a1 b1;rw[t.2]at x;omega
 ·rcases(sh hi (Ah hi)).cas with z|⟨_,z2,z3⟩|⟨z1,z2,z3⟩
  ·rw[z];decide
  ·rw[z2];exact h.zer i hi
  ·obtain⟨a1,a2⟩:=one i hi z1;obtain⟨b1,b2⟩:=one (opp i) (Ah hi) z2;have x:=hr.zer i (opp i) (by omega) (by have:=Ah hi;omega) ((OS i hi (opp i) (Ah hi)).1 rfl) a1 b1;omega
theorem NI.rounds17{M:Nat->Int}(h:NI M){R:Nat->Nat->Int}(hr:∀r,r<17->Ku (R r) (R (r+1)))(h0:Un (R 0) M):Un (R 17) (Aj M):=by
 obtain⟨hx,hu⟩:=h.rounds (λr hr'=>hr r (by omega)) h0 8 (Nat.le_refl _);exact hu.sharp ((QU (by decide) (by decide) h.bd h.zero 8 (Nat.le_refl _) hx).mono (by decide)) (hr 16 (by omega))
inductive Tab(f g:Nat):Prop
 |no:kdT f g=0->Tab f g
 |z11:f<8->g<8->g=opp f->kdT f g=1->Tab f g
 |d11:f<8->g<8->g=f->kdT f g=2->nmT f g=f->Tab f g
 |s11:f<8->g<8->g≠f->g≠opp f->kdT f g=3->nmT f g=nf f g->Tab f g
 |s12 (a b:Nat):f<8->8<=g->kdT f g=3->(fs g=a/\ss g=b)\/(ss g=a/\fs g=b)->a=opp f->nmT f g=b->Tab f g
 |s21 (a b:Nat):8<=f->g<8->kdT f g=3->(fs f=a/\ss f=b)\/(ss f=a/\fs f=b)->a=opp g->nmT f g=b->Tab f g
 |t22 (i p s j:Nat):8<=f->8<=g->(fs f=i/\ss f=p)\/(ss f=i/\fs f=p)->(fs g=s/\ss g=j)\/(ss g=s/\fs g=j)->p=opp s->
   (kdT f g=1/\j=opp i)\/(kdT f g=2/\j=i/\nmT f g=i)\/(kdT f g=3/\j≠i/\j≠opp i/\nmT f g=nf i j)->Tab f g
theorem YT{f g:Nat}(hf:f<32)(hg:g<32):Tab f g:=by
 have h:=WQ f hf g hg;unfold ZX at h;simp only[Bool.or_eq_true,Bool.and_eq_true,decide_eq_true_eq,List.any_eq_true]at h;rcases h with(((h|⟨⟨h1,h2⟩,h3⟩)|⟨⟨⟨h1,h2⟩,h3⟩,h4⟩)|⟨⟨⟨h1,h2⟩,h3⟩,h4⟩)|⟨⟨h1,h2⟩,h3⟩
 ·exact .no h
 ·rcases h3 with(⟨e,k⟩|⟨⟨e,k⟩,n⟩)|⟨⟨⟨e1,e2⟩,k⟩,n⟩
  ·exact .z11 h1 h2 e k
  ·exact .d11 h1 h2 e k n
  ·exact .s11 h1 h2 e1 e2 k n
 ·rcases h4 with⟨e,n⟩|⟨e,n⟩
  ·exact .s12 (fs g) (ss g) h1 h2 h3 (.inl ⟨rfl,rfl⟩) e n
  ·exact .s12 (ss g) (fs g) h1 h2 h3 (.inr ⟨rfl,rfl⟩) e n
 ·rcases h4 with⟨e,n⟩|⟨e,n⟩
  ·exact .s21 (fs f) (ss f) h1 h2 h3 (.inl ⟨rfl,rfl⟩) e n
  ·exact .s21 (ss f) (fs f) h1 h2 h3 (.inr ⟨rfl,rfl⟩) e n
 ·obtain⟨b1,_,b2,_,e,t⟩:=h3;refine .t22 (if b1=true then fs f else ss f) (if b1=true then ss f else fs f) (if b2=true then fs g else ss g) (if b2=true then ss g else fs g) h1 h2 ?_ ?_ e ?_
  ·cases b1
   ·exact .inr ⟨rfl,rfl⟩
   ·exact .inl ⟨rfl,rfl⟩
  ·cases b2
   ·exact .inr ⟨rfl,rfl⟩
   ·exact .inl ⟨rfl,rfl⟩
  ·rcases t with(⟨k,e⟩|⟨⟨k,e⟩,n⟩)|⟨⟨⟨k,e1⟩,e2⟩,n⟩
   ·exact .inl ⟨k,e⟩
   ·exact .inr (.inl ⟨k,e,n⟩)
   ·exact .inr (.inr ⟨k,e1,e2,n⟩)
theorem TC.lo{C:Nat->Int}(h:TC C){f:Nat}(hf:f<8):(C (f*8+f)=NB->bd C f=NB)/\(C (f*8+f)≠NB->2*bd C f=C (f*8+f)/\bd C f≠NB):=by
 obtain⟨_,_,_,_,e,_⟩:=FE f (by omega);obtain⟨e1,e2⟩:=e hf;unfold bd;rw[e1,e2];refine⟨λq=>?_,λq=>?_⟩
 ·rw[if_neg (λz=>z.2 q),q]
 ·rw[if_pos ⟨rfl,q⟩];have:=EF ((h.even f hf).resolve_left q);have:=(h.top (f*8+f) (by omega)).resolve_left q;exact⟨by omega,by unfold NB;omega⟩
theorem LM{C:Nat->Int}(hS:VA C){f i j:Nat}(hf:f<32)(h8:8<=f)(h:(fs f=i/\ss f=j)\/(ss f=i/\fs f=j)):bd C f=C (i*8+j)/\i<8/\j<8:=by
 obtain⟨l1,l2,_,_,_,e⟩:=FE f hf;unfold bd;rw[if_neg (λz=>e h8 z.1)];rcases h with⟨a,b⟩|⟨a,b⟩
 ·rw[<-a,<-b];exact⟨rfl,l1,l2⟩
 ·rw[<-a,<-b];exact⟨hS _ _ l1 l2,l2,l1⟩
theorem W6:∀i:Nat,i<8->∀j,j<8->(i≠j/\j≠opp i)->8<=nf i j:=by decide +kernel
theorem IC{C:Nat->Int}(hS:VA C){i j:Nat}(hi:i<8)(hj:j<8)(h1:i≠j)(h2:j≠opp i):bd C (nf i j)=C (i*8+j):=by
 obtain⟨a,b⟩:=DN i hi j hj h2;have g:=W6 i hi j hj ⟨h1,h2⟩;refine(LM hS (i:=i) (j:=j) a g ?_).1;rcases b with b|b
 ·exact .inl b
 ·exact .inr ⟨b.2,b.1⟩
theorem TC.single{C:Nat->Int}(h:TC C){i b:Nat}(hi:i<8)(hb:b<8)(h1:C (opp i*8+b)≠NB)(h2:C (i*8+i)≠NB):C (b*8+b)≠NB/\C (b*8+b)<=2*C (opp i*8+b)+C (i*8+i):=by
 have ho:=Ah hi;have a:=h.tri (opp i) ho i b hi hb;rw[CL i hi]at a;obtain⟨a1,a2⟩:=(a.resolve_left h2).resolve_left h1;have c:=h.tri i hi b b hb hb;rw[h.sym b (opp i) hb ho]at c;obtain⟨c1,c2⟩:=(c.resolve_left h1).resolve_left a1;exact⟨c1,by omega⟩
theorem TC.sum{C:Nat->Int}(h:TC C){f g:Nat}(hf:f<32)(hg:g<32)(q1:bd C f≠NB)(q2:bd C g≠NB):
  (kdT f g=1->0<=bd C f+bd C g)/\(kdT f g=2->2*bd C (nmT f g)<=bd C f+bd C g)/\(kdT f g=3->bd C (nmT f g)<=bd C f+bd C g):=by
 have lo:∀i,i<8->bd C i≠NB->C (i*8+i)≠NB/\2*bd C i=C (i*8+i):=by
  intro i hi q;by_cases e:C (i*8+i)=NB
  ·exact absurd ((h.lo hi).1 e) q
  ·exact⟨e,((h.lo hi).2 e).1⟩
 cases YT hf hg with
 |no k=>exact⟨λz=>absurd (k.symm.trans z) (by decide),λz=>absurd (k.symm.trans z) (by decide),λz=>absurd (k.symm.trans z) (by decide)⟩
 |z11 f8 g8 e k=>
  refine⟨λ_=>?_,λz=>absurd (k.symm.trans z) (by decide),λz=>absurd (k.symm.trans z) (by decide)⟩;subst e;obtain⟨a1,a2⟩:=lo f f8 q1;obtain⟨b1,b2⟩:=lo _ g8 q2;have:=(h.half f (opp f) f8 g8 a1 b1).2;rw[h.zero f f8]at this;omega
 |d11 f8 g8 e k n=>
  refine⟨λz=>absurd (k.symm.trans z) (by decide),λ_=>?_,λz=>absurd (k.symm.trans z) (by decide)⟩;rw[n,e];omega
 |s11 f8 g8 e1 e2 k n=>
  refine⟨λz=>absurd (k.symm.trans z) (by decide),λz=>absurd (k.symm.trans z) (by decide),λ_=>?_⟩;rw[n,IC h.sym f8 g8 (λe=>e1 e.symm) e2];obtain⟨a1,a2⟩:=lo f f8 q1;obtain⟨b1,b2⟩:=lo _ g8 q2;have:=(h.half f g f8 g8 a1 b1).2;omega
 |s12 a b f8 g8 k s e n=>
  refine⟨λz=>absurd (k.symm.trans z) (by decide),λz=>absurd (k.symm.trans z) (by decide),λ_=>?_⟩;obtain⟨x,la,lb⟩:=LM h.sym hg g8 s;rw[x]at q2|-;rw[n];subst e;obtain⟨a1,a2⟩:=lo f f8 q1;obtain⟨c1,c2⟩:=h.single f8 lb q2 a1;have:=((h.lo lb).2 c1).1;omega
 |s21 a b f8 g8 k s e n=>
  refine⟨λz=>absurd (k.symm.trans z) (by decide),λz=>absurd (k.symm.trans z) (by decide),λ_=>?_⟩;obtain⟨x,la,lb⟩:=LM h.sym hf f8 s;rw[x]at q1|-;rw[n];subst e;obtain⟨a1,a2⟩:=lo g g8 q2;obtain⟨c1,c2⟩:=h.single g8 lb q1 a1;have:=((h.lo lb).2 c1).1;omega
 |t22 i p s j f8 g8 x y e t=>
  obtain⟨u,li,lp⟩:=LM h.sym hf f8 x;obtain⟨v,ls,lj⟩:=LM h.sym hg g8 y;rw[u]at q1|-;rw[v]at q2|-;subst e;obtain⟨c1,c2⟩:=((h.tri s ls i j li lj).resolve_left q1).resolve_left q2;rcases t with⟨k,e⟩|⟨k,e,n⟩|⟨k,e1,e2,n⟩
  ·refine⟨λ_=>?_,λz=>absurd (k.symm.trans z) (by decide),λz=>absurd (k.symm.trans z) (by decide)⟩;rw[e,h.zero i li]at c2;rw[e];exact c2
  ·refine⟨λz=>absurd (k.symm.trans z) (by decide),λ_=>?_,λz=>absurd (k.symm.trans z) (by decide)⟩;rw[n];rw[e]at c1 c2|-;have:=((h.lo li).2 c1).1;omega
  ·refine⟨λz=>absurd (k.symm.trans z) (by decide),λz=>absurd (k.symm.trans z) (by decide),λ_=>?_⟩;rw[n,IC h.sym li lj (λz=>e1 z.symm) e2];exact c2
def Ab(C R:Nat->Int):Prop:=∀f,f<32->bd C f<=R f
theorem YH{C R:Nat->Int}(h:TC C)(hA:Ab C R)(hR:∀f,f<32->R f<=NB)(b:Bool){f g:Nat}(hf:f<32)(hg:g<32):∃R' b',Lw R b f g=some (R',b')/\Ab C R'/\∀f,f<32->R' f<=NB:=by
 have s:=Mp R b hf hg;generalize Lw R b f g=o at s;have fin:∀f,f<32->R f≠NB->bd C f≠NB:=by
  intro f hf q;have:=hA f hf;have:=hR f hf;omega
 cases s with
 |none q1 q2 k c=>
  exfalso;have:=(h.sum hf hg (fin f hf q1) (fin g hg q2)).1 k;have:=hA f hf;have:=hA g hg;omega
 |same _=>exact⟨R,b,rfl,hA,hR⟩
 |put n c q1 q2 hn en hc hk=>
  refine⟨Bw R n c,true,rfl,λx hx=>?_,λx hx=>?_⟩
  ·unfold Bw;split
   ·rename_i e;subst e;have a1:=hA f hf;have a2:=hA g hg;have hs:=h.sum hf hg (fin f hf q1) (fin g hg q2);rw[<-en]at hs;rcases hk with⟨k,e⟩|⟨k,e⟩
    ·have:=hs.2.1 k;omega
    ·have:=hs.2.2 k;omega
   ·exact hA x hx
  ·unfold Bw;split
   ·rename_i e;subst e;have:=hR x hx;omega
   ·exact hR x hx
theorem KR{C R:Nat->Int}(h:TC C)(hA:Ab C R)(hR:∀f,f<32->R f<=NB):∀k,k<=1024->∃R' b',rF R k=some (R',b')/\Ab C R'/\∀f,f<32->R' f<=NB:=by
 intro k;induction k with
 |zero=>intro _;exact⟨R,false,rfl,hA,hR⟩
 |succ k ih=>
  intro hk;obtain⟨R1,b1,e,h1,h2⟩:=ih (by omega);rw[rF,e];exact YH h h1 h2 b1 (by omega) (by omega)
def Kq(R:Nat->Int):Option ((Nat->Int)×Bool):=rF R 1024
def EO(R:Nat->Int):Nat->Option (Nat->Int)
 |0=>some R
 |n+1=>match EO R n with
  |none=>none
  |some R'=>(Kq R').map λx=>x.1
theorem IU{R:Nat->Int}{n:Nat}(h:EO R n=none):∀k,EO R (n+k)=none
 |0=>h
 |k+1=>by
  show(match EO R (n+k)with|none=>none|some R'=>(Kq R').map λx=>x.1)=none;rw[IU h k]
theorem Dq{R R':Nat->Int}{n:Nat}(h:EO R (n+1)=some R'):∃R1 b,EO R n=some R1/\Kq R1=some (R',b):=by
 rw[EO]at h;cases e:EO R n with
 |none=>rw[e]at h;cases h
 |some R1=>
  rw[e]at h;cases e2:Kq R1 with
  |none=>
   replace h:(Kq R1).map (λx=>x.1)=some R':=h;rw[e2]at h;cases h
  |some x=>
   replace h:(Kq R1).map (λx=>x.1)=some R':=h;rw[e2]at h;obtain⟨R2,b⟩:=x;have:R2=R':=Option.some.inj h;subst this;exact⟨R1,b,rfl,e2⟩
theorem Fp{R:Nat->Int}(hR:∀f,f<32->R f<=NB):∀n R',EO R n=some R'->∀f,f<32->R' f<=NB:=by
 intro n;induction n with
 |zero=>intro R' h;cases h;exact hR
 |succ n ih=>
  intro R' h f hf;obtain⟨R1,b,e,e2⟩:=Dq h;have h1:=ih R1 e;exact Int.le_trans ((EW h1 1024 (Nat.le_refl _) _ b e2).le f hf) (h1 f hf)
theorem Hm{R:Nat->Int}(hR:∀f,f<32->R f<=NB){n:Nat}{R1 R2:Nat->Int}(h1:EO R n=some R1)(h2:EO R (n+1)=some R2):Ku R1 R2:=by
 obtain⟨R3,b,e,e2⟩:=Dq h2;rw[h1]at e;have:R1=R3:=Option.some.inj e;subst this;exact T7 (Fp hR n R1 h1) e2
theorem Un.eqs{C R:Nat->Int}(hT:TC C)(h:Un R C)(hA:Ab C R)(hR:∀f,f<32->R f<=NB):∀f,f<32->R f=bd C f:=by
 intro f hf;have a:=hA f hf;by_cases q:bd C f=NB
 ·have:=hR f hf;omega
 ·obtain⟨l1,l2,e,e2,e3,e4⟩:=FE f hf;by_cases f8:f<8
  ·have q':C (f*8+f)≠NB:=λz=>q ((hT.lo f8).1 z);have:=h.dia f f8 q';have:=((hT.lo f8).2 q').1;omega
  ·have b:=LM hT.sym hf (by omega) (.inl ⟨rfl,rfl⟩);rw[b.1]at q a|-;have:=h.off (fs f) (ss f) l1 l2 (e4 (by omega)) e2 q;rw[e]at this;omega
theorem I0{C R:Nat->Int}(h:TC C)(hR:∀f,f<32->R f<=NB)(hA:Ab C R):∀n,∃R',EO R n=some R'/\Ab C R'/\∀f,f<32->R' f<=NB:=by
 intro n;induction n with
 |zero=>exact⟨R,rfl,hA,hR⟩
 |succ n ih=>
  obtain⟨R1,e,h1,h2⟩:=ih;obtain⟨R2,b,e2,h3,h4⟩:=KR h h1 h2 1024 (Nat.le_refl _);exact⟨R2,by rw[EO,e];show(Kq R1).map _=_;rw[show Kq R1=some (R2,b)from e2];rfl,h3,h4⟩
theorem Ku.un{M R:Nat->Int}(h:NI M)(hr:Ku R R)(h0:Un R M):Un R (Aj M):=h.rounds17 (R:=λ_=>R) (λ_ _=>hr) h0
theorem Hp(l:List Int){i j:Nat}(hi:i<8)(hj:j<8)(h:j≠opp i):FW l 32 (i*8+j)=bv l (nf i j):=by
 obtain⟨a,b⟩:=DN i hi j hj h;have c:=KK l (nf i j) a;rcases b with⟨b1,b2⟩|⟨b1,b2⟩
 ·rw[b1,b2]at c;exact c.1
 ·rw[b1,b2]at c;exact c.2
theorem J0(l:List Int){i:Nat}(hi:i<8):(l.getD i 0=NB->bv l i=NB)/\(l.getD i 0≠NB->bv l i=2*l.getD i 0):=by
 obtain⟨_,_,_,_,e,_⟩:=FE i (by omega);obtain⟨e1,e2⟩:=e hi;unfold bv;rw[e1,e2];exact⟨λq=>by rw[if_neg (λz=>z.2 q),q],λq=>if_pos ⟨rfl,q⟩⟩
theorem NS(l:List Int){i j:Nat}(hi:i<8)(hj:j<8)(h1:i≠j)(h2:j≠opp i):bv l (nf i j)=l.getD (nf i j) 0:=by
 obtain⟨_,_,_,_,_,e⟩:=FE (nf i j) (DN i hi j hj h2).1;unfold bv;rw[if_neg (λz=>e (W6 i hi j hj ⟨h1,h2⟩) z.1)]
theorem Iz{n:Int}(h:G8 n=true):n=NB\/(-4000<=n/\n<=4000):=of_decide_eq_true h
theorem Sd{l:List Int}(hl:B_ l):Bd 8000 (FW l 32):=by
 have hz:=Gs l;intro a ha;have hi:a/8<8:=by omega
 have hj:a%8<8:=by omega
 rw[show a=a/8*8+a%8 by omega];generalize a/8=i at hi;generalize a%8=j at hj;by_cases e:j=opp i
 ·rw[e,hz i hi];exact .inr (by decide)
 ·by_cases hn:i=j
  ·subst hn;have q:=Iz (hl.2 i (by omega));rw[Hp l hi hi (λe=>KP i e.symm),Gv];have b:=J0 l hi;by_cases e:l.getD i 0=NB
   ·exact .inl (b.1 e)
   ·rw[b.2 e];have:=q.resolve_left e;exact .inr (by omega)
  ·have q:=Iz (hl.2 (nf i j) (DN i hi j hj e).1);rw[Hp l hi hj e,NS l hi hj hn e];rcases q with q|q
   ·exact .inl q
   ·exact .inr (by omega)
theorem Db{l:List Int}(hl:B_ l):NI (FW l 32):=by
 have hz:=Gs l;refine⟨(Sd hl).mono (by decide),λi j hi hj=>?_,hz⟩;by_cases e:j=opp i
 ·rw[e,hz i hi];have:=hz (opp i) (Ah hi);rw[CL i hi]at this;exact this.symm
 ·obtain⟨a,b⟩:=DN i hi j hj e;have c:=KK l (nf i j) a;rcases b with⟨b1,b2⟩|⟨b1,b2⟩
  ·rw[b1,b2]at c;rw[c.1,c.2]
  ·rw[b1,b2]at c;rw[c.1,c.2]
theorem Px(l:List Int):Un (λf=>l.getD f 0) (FW l 32):=by
 refine⟨λi hi q=>?_,λi j hi hj h1 h2 _=>?_,λi hi=>?_⟩
 ·rw[Hp l hi hi (λe=>KP i e.symm),Gv]at q|-;have b:=J0 l hi;by_cases e:l.getD i 0=NB
  ·exact absurd (b.1 e) q
  ·rw[b.2 e];exact Int.le_refl _
 ·rw[Hp l hi hj h2,NS l hi hj h1 h2];exact Int.le_refl _
 ·rw[Gs l i hi];exact Int.le_refl _
theorem SX{l:List Int}(hl:B_ l):Ab (Aj (FW l 32)) (λf=>l.getD f 0):=λf hf=>Wo hl.2 (λk=>Cs _ k) f hf
theorem Hl{l:List Int}(hl:B_ l):∀f,f<32->(λf=>l.getD f 0) f<=NB:=by
 intro f hf;show l.getD f 0<=NB;rcases Iz (hl.2 f hf)with q|q
 ·omega
 ·unfold NB;omega
theorem IK{l:List Int}(hl:B_ l)(he:ovE l=false)(n:Nat):∃R',EO (λf=>l.getD f 0) n=some R'/\Ab (BT l) R'/\∀f,f<32->R' f<=NB:=I0 ((Db hl).tc he) (Hl hl) (SX hl) n
theorem S4{l:List Int}(hl:B_ l){n:Nat}{R R':Nat->Int}(h:EO (λf=>l.getD f 0) n=some R)(h2:Kq R=some (R',false)):ovE l=false/\∀f,f<32->R' f=bd (BT l) f:=by
 have hiR:=Fp (Hl hl) n R h;have hI:=EW hiR 1024 (Nat.le_refl _) R' false h2;have hs:=hI.same rfl;have hd:=T7 hiR h2;have hrd:Ku R R:=⟨λf _=>Int.le_refl _,hd.zer,λf g hf hg k q1 q2=>by rw[<-hs _ (G_ hf hg (.inl k))];exact hd.dou f g hf hg k q1 q2,λf g hf hg k q1 q2=>by rw[<-hs _ (G_ hf hg (.inr k))];exact hd.sum f g hf hg k q1 q2⟩
 have hle:∀m R1,EO (λf=>l.getD f 0) m=some R1->∀f,f<32->R1 f<=l.getD f 0:=by
  intro m;induction m with
  |zero=>intro R1 e f _;cases e;exact Int.le_refl _
  |succ m ih=>
   intro R1 e f hf;obtain⟨R0,b,e1,e2⟩:=Dq e;have hi0:=Fp (Hl hl) m R0 e1;exact Int.le_trans ((EW hi0 1024 (Nat.le_refl _) _ b e2).le f hf) (ih R0 e1 f hf)
 have h0:Un R (FW l 32):=by
  have u:=Px l;refine⟨λi hi q=>?_,λi j hi hj h1 h2' q=>?_,u.zer⟩
  ·have a:=u.dia i hi q;have b:=hle n R h i (by omega);have a':2*l.getD i 0<=FW l 32 (i*8+i):=a;omega
  ·have a:l.getD (nf i j) 0<=FW l 32 (i*8+j):=u.off i j hi hj h1 h2' q;have b:=hle n R h (nf i j) (DN i hi j hj h2').1;omega
 have hu:=hrd.un (Db hl) h0;cases he:ovE l with
 |true=>
  obtain⟨i,hi,q⟩:=Gi he;have:0<=BT l (i*8+opp i):=hu.zer i hi;omega
 |false=>
  obtain⟨R1,e,a,hi⟩:=IK hl he n;have:R1=R:=Option.some.inj (e.symm.trans h);subst this;refine⟨rfl,λf hf=>?_⟩;rw[hs f hf];exact hu.eqs ((Db hl).tc he) a hi f hf
theorem Jg:∀i:Nat,i<8->∀j,j<8->nf i j=nf j i:=by decide +kernel
theorem Qp(L:Nat->Option Int):∀n:Nat,(∀i,i<n->L i=none)\/∃m,(∃i,i<n/\L i=some m)/\∀i,i<n->∀l,L i=some l->l<=m:=by
 intro n;induction n with
 |zero=>exact .inl λi hi=>absurd hi (by omega)
 |succ n ih=>
  cases e:L n with
  |none=>
   rcases ih with h|⟨m,⟨i,hi,q⟩,h⟩
   ·refine .inl λi hi=>?_;rcases Nat.lt_or_eq_of_le (Nat.lt_succ_iff.1 hi)with a|a
    ·exact h i a
    ·rw[a];exact e
   ·refine .inr ⟨m,⟨i,by omega,q⟩,λj hj l hl=>?_⟩;rcases Nat.lt_or_eq_of_le (Nat.lt_succ_iff.1 hj)with a|a
    ·exact h j a l hl
    ·rw[a,e]at hl;cases hl
  |some x=>
   rcases ih with h|⟨m,⟨i,hi,q⟩,h⟩
   ·refine .inr ⟨x,⟨n,by omega,e⟩,λj hj l hl=>?_⟩;rcases Nat.lt_or_eq_of_le (Nat.lt_succ_iff.1 hj)with a|a
    ·rw[h j a]at hl;cases hl
    ·rw[a,e]at hl;cases hl;exact Int.le_refl _
   ·by_cases c:m<=x
    ·refine .inr ⟨x,⟨n,by omega,e⟩,λj hj l hl=>?_⟩;rcases Nat.lt_or_eq_of_le (Nat.lt_succ_iff.1 hj)with a|a
     ·exact Int.le_trans (h j a l hl) c
     ·rw[a,e]at hl;cases hl;exact Int.le_refl _
    ·refine .inr ⟨m,⟨i,by omega,q⟩,λj hj l hl=>?_⟩;rcases Nat.lt_or_eq_of_le (Nat.lt_succ_iff.1 hj)with a|a
     ·exact h j a l hl
     ·rw[a,e]at hl;cases hl;omega
theorem VV(L U:Nat->Option Int)(n:Nat)(h:∀i j,i<n->j<n->∀l u,L i=some l->U j=some u->l<=u):∃t:Int,(∀i,i<n->∀l,L i=some l->l<=t)/\(∀j,j<n->∀u,U j=some u->t<=u):=by
 rcases Qp L n with a|⟨m,⟨i,hi,q⟩,a⟩
 ·rcases Qp (λj=>(U j).map λx=> -x) n with b|⟨m,⟨j,hj,q⟩,b⟩
  ·refine⟨0,λi hi l hl=>(by rw[a i hi]at hl;cases hl),λj hj u hu=>?_⟩;have:=b j hj;rw[hu]at this;cases this
  ·refine⟨-m,λi hi l hl=>(by rw[a i hi]at hl;cases hl),λk hk u hu=>?_⟩;have:=b k hk (-u) (by rw[hu];rfl);omega
 ·exact⟨m,a,λj hj u hu=>h i j hi hj m u q hu⟩
structure SK(P v:Nat->Int)(k:Nat):Prop where
 one:∀i,i<2*k->P i=NB\/sd v i<=P i
 two:∀i j,i<2*k->j<2*k->i≠j->j≠opp i->P (nf i j)=NB\/sd v i+sd v j<=P (nf i j)
def GX(v:Nat->Int)(k:Nat)(t:Int):Nat->Int:=λi=>if i=k then t else v i
theorem Tx(k:Nat):opp (2*k)=2*k+1:=by unfold opp;rw[if_pos (by omega)]
theorem V9(k:Nat):opp (2*k+1)=2*k:=by unfold opp;rw[if_neg (by omega)];omega
theorem F3(v:Nat->Int)(t:Int){i k:Nat}(h:i<2*k):sd (GX v k t) i=sd v i:=by
 unfold sd GX;rw[if_neg (show¬i/2=k by omega)]
theorem I_(v:Nat->Int)(t:Int)(k:Nat):sd (GX v k t) (2*k)=t:=by
 unfold sd GX;rw[if_pos (by omega),if_pos (by omega)]
theorem JA(v:Nat->Int)(t:Int)(k:Nat):sd (GX v k t) (2*k+1)= -t:=by
 unfold sd GX;rw[if_neg (by omega),if_pos (by omega)]
theorem IL{P P' v:Nat->Int}{U:Int}{k:Nat}(hk:k<4)(hU:2*U<NB)(hU0:0<=U)(hP:∀f,f<32->P f=NB\/P f<=U)(hr:Ku P P')(hv:SK P' v k):∃t,SK P (GX v k t) (k+1):=by
 have hs:2*k<8:=by omega
 have ho:2*k+1<8:=by omega
 have oe:=Tx k;have oo:=V9 k;have fin:∀f,f<32->P f≠NB->P f<=U:=λf hf q=>(hP f hf).resolve_left q;have v1:∀i,i<2*k->∀c,c<NB->P' i<=c->sd v i<=c:=by
  intro i hi c hc hl;have:=(hv.one i hi).resolve_left (by omega);omega
 have v2:∀i j,i<2*k->j<2*k->i≠j->j≠opp i->∀c,c<NB->P' (nf i j)<=c->sd v i+sd v j<=c:=by
  intro i j hi hj e1 e2 c hc hl;have:=(hv.two i j hi hj e1 e2).resolve_left (by omega);omega
 have key:∀i j,i<2*k+1->j<2*k+1->P (if i=2*k then 2*k else nf (2*k) i)≠NB->P (if j=2*k then 2*k+1 else nf (2*k+1) j)≠NB->
   (if i=2*k then 0 else sd v i)+(if j=2*k then 0 else sd v j)<=P (if i=2*k then 2*k else nf (2*k) i)+P (if j=2*k then 2*k+1 else nf (2*k+1) j):=by
  intro i j hi hj q1 q2;by_cases ei:i=2*k
  ·rw[if_pos ei]at q1|-;rw[if_pos ei];by_cases ej:j=2*k
   ·rw[if_pos ej]at q2|-;rw[if_pos ej];have z:=hr.zer (2*k) (2*k+1) (by omega) (by omega) ((OS (2*k) hs (2*k+1) ho).1 oe.symm) q1 q2;omega
   ·rw[if_neg ej]at q2|-;rw[if_neg ej];have t:=WN (2*k+1) ho j (by omega) ⟨by omega,by rw[oo];omega⟩;rw[oo]at t;have n:=(DN (2*k+1) ho j (by omega) (by rw[oo];omega)).1;have x:=hr.sum (2*k) (nf (2*k+1) j) (by omega) n t.1 q1 q2;rw[t.2.1]at x;have a:=fin _ (by omega) q1;have b:=fin _ n q2;have:=v1 j (by omega) _ (by omega) x;omega
  ·rw[if_neg ei]at q1|-;rw[if_neg ei];have n1:=(DN (2*k) hs i (by omega) (by rw[oe];omega)).1;have a:=fin _ n1 q1;by_cases ej:j=2*k
   ·rw[if_pos ej]at q2|-;rw[if_pos ej];have t:=WN (2*k) hs i (by omega) ⟨by omega,by rw[oe];omega⟩;rw[oe]at t;have x:=hr.sum (2*k+1) (nf (2*k) i) (by omega) n1 t.1 q2 q1;rw[t.2.1]at x;have b:=fin _ (by omega) q2;have:=v1 i (by omega) _ (by omega) x;omega
   ·rw[if_neg ej]at q2|-;rw[if_neg ej];have n2:=(DN (2*k+1) ho j (by omega) (by rw[oo];omega)).1;have b:=fin _ n2 q2;have t:=ZW i (by omega) (2*k+1) ho j (by omega) ⟨by omega,by rw[oo];omega,by omega,by rw[oo];omega⟩;rw[oo,Jg i (by omega) (2*k) hs]at t;by_cases e:j=opp i
    ·have z:=hr.zer _ _ n1 n2 (t.1 e) q1 q2;rw[e,FR];rw[e]at z;omega
    ·by_cases e':j=i
     ·have x:=hr.dou _ _ n1 n2 (t.2.1 e').1 q1 q2;rw[(t.2.1 e').2]at x;have:=v1 i (by omega) _ (by omega) x;rw[e']at this|-;omega
     ·have x:=hr.sum _ _ n1 n2 (t.2.2 ⟨e',e⟩).1 q1 q2;rw[(t.2.2 ⟨e',e⟩).2]at x;exact v2 i j (by omega) (by omega) (λz=>e' z.symm) e _ (by omega) x
 obtain⟨t,hL,hH⟩:=VV (λj=>if P (if j=2*k then 2*k+1 else nf (2*k+1) j)=NB then none else some ((if j=2*k then 0 else sd v j)-P (if j=2*k then 2*k+1 else nf (2*k+1) j)))
  (λi=>if P (if i=2*k then 2*k else nf (2*k) i)=NB then none else some (P (if i=2*k then 2*k else nf (2*k) i)-(if i=2*k then 0 else sd v i))) (2*k+1) (by
   intro j i hj hi l u hl hu;by_cases q2:P (if j=2*k then 2*k+1 else nf (2*k+1) j)=NB
   ·rw[if_pos q2]at hl;cases hl
   ·by_cases q1:P (if i=2*k then 2*k else nf (2*k) i)=NB
    ·rw[if_pos q1]at hu;cases hu
    ·rw[if_neg q2]at hl;rw[if_neg q1]at hu;have:=key i j hi hj q1 q2;have:=Option.some.inj hl;have:=Option.some.inj hu
     omega)
 have lo:∀j,j<2*k->P (nf (2*k+1) j)=NB\/ -t+sd v j<=P (nf (2*k+1) j):=by
  intro j hj;by_cases q:P (nf (2*k+1) j)=NB
  ·exact .inl q
  ·have ne:¬j=2*k:=by omega
   have:=hL j (by omega) (sd v j-P (nf (2*k+1) j)) (by simp only[if_neg ne,if_neg q]);exact .inr (by omega)
 have hi:∀j,j<2*k->P (nf (2*k) j)=NB\/t+sd v j<=P (nf (2*k) j):=by
  intro j hj;by_cases q:P (nf (2*k) j)=NB
  ·exact .inl q
  ·have ne:¬j=2*k:=by omega
   have:=hH j (by omega) (P (nf (2*k) j)-sd v j) (by simp only[if_neg ne,if_neg q]);exact .inr (by omega)
 refine⟨t,⟨λi hi'=>?_,λi j hi' hj' e1 e2=>?_⟩⟩
 ·by_cases c:i<2*k
  ·rw[F3 v t c];by_cases q:P i=NB
   ·exact .inl q
   ·have:=fin i (by omega) q;exact .inr (v1 i c _ (by omega) (hr.le i (by omega)))
  ·by_cases c2:i=2*k
   ·rw[c2,I_];by_cases q:P (2*k)=NB
    ·exact .inl q
    ·have:=hH (2*k) (by omega) (P (2*k)-0) (by simp only[if_true,if_neg q]);exact .inr (by omega)
   ·rw[show i=2*k+1 by omega,JA];by_cases q:P (2*k+1)=NB
    ·exact .inl q
    ·have:=hL (2*k) (by omega) (0-P (2*k+1)) (by simp only[if_true,if_neg q]);exact .inr (by omega)
 ·by_cases c:i<2*k
  ·rw[F3 v t c];by_cases d:j<2*k
   ·rw[F3 v t d];by_cases q:P (nf i j)=NB
    ·exact .inl q
    ·have n:=(DN i (by omega) j (by omega) e2).1;have:=fin _ n q;exact .inr (v2 i j c d e1 e2 _ (by omega) (hr.le _ n))
   ·rw[Jg i (by omega) j (by omega),Int.add_comm];by_cases d2:j=2*k
    ·rw[d2,I_];exact hi i c
    ·rw[show j=2*k+1 by omega,JA];exact lo i c
  ·have d:j<2*k:=by
    rcases Nat.lt_or_ge j (2*k)with d|d
    ·exact d
    ·exfalso;by_cases c2:i=2*k
     ·rw[c2,oe]at e2;omega
     ·rw[show i=2*k+1 by omega,oo]at e2;omega
   rw[F3 v t d];by_cases c2:i=2*k
   ·rw[c2,I_];exact hi j d
   ·rw[show i=2*k+1 by omega,JA];exact lo j d
def VD(P Q:Nat->Int)(f g:Nat):Nat->Int:=
 if P f=NB\/P g=NB then Q
 else if kdT f g=2 then(if(P f+P g)/2<Q (nmT f g)then Bw Q (nmT f g) ((P f+P g)/2)else Q)
 else if kdT f g=3 then(if P f+P g<Q (nmT f g)then Bw Q (nmT f g) (P f+P g)else Q)
 else Q
def Oc(P:Nat->Int):Nat->Nat->Int
 |0=>P
 |m+1=>VD P (Oc P m) (m/32) (m%32)
theorem Tc{Q:Nat->Int}{n:Nat}{c:Int}(x:Nat):(if c<Q n then Bw Q n c else Q) x<=Q x:=by
 split
 ·unfold Bw;split
  ·rename_i h e;subst e;omega
  ·exact Int.le_refl _
 ·exact Int.le_refl _
theorem Tb{Q:Nat->Int}{n:Nat}{c:Int}:(if c<Q n then Bw Q n c else Q) n<=c:=by
 split
 ·rw[CV];exact Int.le_refl _
 ·omega
theorem Ql{Q:Nat->Int}{n:Nat}{c:Int}(x:Nat):(if c<Q n then Bw Q n c else Q) x=Q x\/(x=n/\(if c<Q n then Bw Q n c else Q) x=c):=by
 split
 ·unfold Bw;split
  ·rename_i e;exact .inr ⟨e,rfl⟩
  ·exact .inl rfl
 ·exact .inl rfl
theorem PU(P Q:Nat->Int)(f g x:Nat):VD P Q f g x<=Q x:=by
 unfold VD;split
 ·exact Int.le_refl _
 ·split
  ·exact Tc x
  ·split
   ·exact Tc x
   ·exact Int.le_refl _
theorem X_(P Q:Nat->Int){f g:Nat}(q1:P f≠NB)(q2:P g≠NB):(kdT f g=2->VD P Q f g (nmT f g)<=(P f+P g)/2)/\(kdT f g=3->VD P Q f g (nmT f g)<=P f+P g):=by
 unfold VD;rw[if_neg (show¬(P f=NB\/P g=NB)from λz=>z.elim q1 q2)];refine⟨λk=>?_,λk=>?_⟩
 ·rw[if_pos k];exact Tb
 ·rw[if_neg (show¬kdT f g=2 by omega),if_pos k];exact Tb
theorem Q2(P Q:Nat->Int)(f g x:Nat):VD P Q f g x=Q x\/(P f≠NB/\P g≠NB/\x=nmT f g/\((kdT f g=2/\VD P Q f g x=(P f+P g)/2)\/(kdT f g=3/\VD P Q f g x=P f+P g))):=by
 unfold VD;by_cases q:P f=NB\/P g=NB
 ·rw[if_pos q];exact .inl rfl
 ·rw[if_neg q];have q1:P f≠NB:=λz=>q (.inl z);have q2:P g≠NB:=λz=>q (.inr z);by_cases k2:kdT f g=2
  ·rw[if_pos k2];rcases Ql (Q:=Q) (n:=nmT f g) (c:=(P f+P g)/2) x with h|⟨h1,h2⟩
   ·exact .inl h
   ·exact .inr ⟨q1,q2,h1,.inl ⟨k2,h2⟩⟩
  ·rw[if_neg k2];by_cases k3:kdT f g=3
   ·rw[if_pos k3];rcases Ql (Q:=Q) (n:=nmT f g) (c:=P f+P g) x with h|⟨h1,h2⟩
    ·exact .inl h
    ·exact .inr ⟨q1,q2,h1,.inr ⟨k3,h2⟩⟩
   ·rw[if_neg k3];exact .inl rfl
theorem T6(P:Nat->Int):∀m x,Oc P m x<=P x
 |0,_=>Int.le_refl _
 |m+1,x=>Int.le_trans (PU P _ _ _ x) (T6 P m x)
theorem T5(P:Nat->Int):∀k m,m<k->P (m/32)≠NB->P (m%32)≠NB->(kdT (m/32) (m%32)=2->Oc P k (nmT (m/32) (m%32))<=(P (m/32)+P (m%32))/2)/\(kdT (m/32) (m%32)=3->Oc P k (nmT (m/32) (m%32))<=P (m/32)+P (m%32)):=by
 intro k;induction k with
 |zero=>intro m hm;omega
 |succ k ih=>
  intro m hm q1 q2;rcases Nat.lt_or_eq_of_le (Nat.lt_succ_iff.1 hm)with e|e
  ·obtain⟨a,b⟩:=ih m e q1 q2;exact⟨λz=>Int.le_trans (PU P _ _ _ _) (a z),λz=>Int.le_trans (PU P _ _ _ _) (b z)⟩
  ·subst e;exact X_ P (Oc P m) q1 q2
theorem PS{P R R':Nat->Int}(hr:Ku R R'){U:Int}(hU:U<NB)(hP:∀f,f<32->P f=NB\/P f<=U)(hl:∀f,f<32->R f<=P f):∀k,k<=1024->∀f,f<32->R' f<=Oc P k f:=by
 intro k;induction k with
 |zero=>intro _ f hf;exact Int.le_trans (hr.le f hf) (hl f hf)
 |succ k ih=>
  intro hk f hf;have hx:k/32<32:=by omega
  have hy:k%32<32:=by omega
  rw[Oc];rcases Q2 P (Oc P k) (k/32) (k%32) f with h|⟨q1,q2,e,h⟩
  ·rw[h];exact ih (by omega) f hf
  ·have a1:=(hP _ hx).resolve_left q1;have a2:=(hP _ hy).resolve_left q2;have b1:=hl _ hx;have b2:=hl _ hy;rcases h with⟨k2,h⟩|⟨k3,h⟩
   ·rw[h,e];have:=hr.dou _ _ hx hy k2 (by omega) (by omega);omega
   ·rw[h,e];have:=hr.sum _ _ hx hy k3 (by omega) (by omega);omega
theorem PT{P:Nat->Int}{U:Int}(hU0:0<=U)(hP:∀f,f<32->P f=NB\/P f<=U):∀k,k<=1024->∀f,f<32->Oc P k f=NB\/Oc P k f<=2*U:=by
 intro k;induction k with
 |zero=>
  intro _ f hf;rcases hP f hf with h|h
  ·exact .inl h
  ·exact .inr (by show P f<=_;omega)
 |succ k ih=>
  intro hk f hf;rw[Oc];rcases Q2 P (Oc P k) (k/32) (k%32) f with h|⟨q1,q2,e,h⟩
  ·rw[h];exact ih (by omega) f hf
  ·have a1:=(hP _ (show k/32<32 by omega)).resolve_left q1;have a2:=(hP _ (show k%32<32 by omega)).resolve_left q2;rcases h with⟨k2,h⟩|⟨k3,h⟩
   ·rw[h];exact .inr (by omega)
   ·rw[h];exact .inr (by omega)
theorem Mf{P R R':Nat->Int}(hr:Ku R R'){U:Int}(hU:U<NB)(hP:∀f,f<32->P f=NB\/P f<=U)(hl:∀f,f<32->R f<=P f):Ku P (Oc P 1024):=by
 refine⟨λf _=>T6 P 1024 f,λf g hf hg k q1 q2=>?_,λf g hf hg k q1 q2=>?_,λf g hf hg k q1 q2=>?_⟩
 ·have a1:=(hP f hf).resolve_left q1;have a2:=(hP g hg).resolve_left q2;have b1:=hl f hf;have b2:=hl g hg;have:=hr.zer f g hf hg k (by omega) (by omega);omega
 ·have:=T5 P 1024 (f*32+g) (by omega);rw[show(f*32+g)/32=f by omega,show(f*32+g)%32=g by omega]at this;exact(this q1 q2).1 k
 ·have:=T5 P 1024 (f*32+g) (by omega);rw[show(f*32+g)/32=f by omega,show(f*32+g)%32=g by omega]at this;exact(this q1 q2).2 k
theorem Zu{R0 R1 R2 R3 R4:Nat->Int}(h0:Ku R0 R1)(h1:Ku R1 R2)(h2:Ku R2 R3)(h3:Ku R3 R4)(hR:∀f,f<32->R0 f=NB\/R0 f<=4000):∃v,SK R0 v 4:=by
 have n0:(4000:Int)<NB:=by decide
 have n1:(2*4000:Int)<NB:=by decide
 have n2:(2*(2*4000):Int)<NB:=by decide
 have n3:(2*(2*(2*4000)):Int)<NB:=by decide
 have n4:(2*(2*(2*(2*4000))):Int)<NB:=by decide
 have r0:=Mf h0 n0 hR (λ_ _=>Int.le_refl _);have b1:=PT (by decide) hR 1024 (Nat.le_refl _);have a1:=PS h0 n0 hR (λ_ _=>Int.le_refl _) 1024 (Nat.le_refl _);generalize Oc R0 1024=P1 at r0 a1 b1;have r1:=Mf h1 n1 b1 a1;have b2:=PT (by decide) b1 1024 (Nat.le_refl _);have a2:=PS h1 n1 b1 a1 1024 (Nat.le_refl _);generalize Oc P1 1024=P2 at r1 a2 b2;have r2:=Mf h2 n2 b2 a2;have b3:=PT (by decide) b2 1024 (Nat.le_refl _);have a3:=PS h2 n2 b2 a2 1024 (Nat.le_refl _);generalize Oc P2 1024=P3 at r2 a3 b3;have r3:=Mf h3 n3 b3 a3;obtain⟨ta,ka⟩:=IL (k:=0) (v:=λ_=>0) (by decide) n4 (by decide) b3 r3 ⟨λi hi=>absurd hi (by omega),λi j hi=>absurd hi (by omega)⟩;obtain⟨tb,kb⟩:=IL (by decide) n3 (by decide) b2 r2 ka;obtain⟨tc,kc⟩:=IL (by decide) n2 (by decide) b1 r1 kb;obtain⟨td,kd'⟩:=IL (by decide) n1 (by decide) hR r0 kc;exact⟨_,kd'⟩
theorem YL{l:List Int}{v:Nat->Int}(h:SK (λf=>l.getD f 0) v 4):Ej v (FW l 32):=by
 intro i j hi hj;by_cases e:j=opp i
 ·rw[e,Gs l i hi,FR];exact .inr (by omega)
 ·rw[Hp l hi hj e];by_cases e':i=j
  ·subst e';rw[Gv];rcases h.one i (by omega)with q|q
   ·exact .inl ((J0 l hi).1 q)
   ·by_cases z:l.getD i 0=NB
    ·exact .inl ((J0 l hi).1 z)
    ·rw[(J0 l hi).2 z];have q':sd v i<=l.getD i 0:=q;exact .inr (by omega)
  ·rw[NS l hi hj e' e];exact h.two i j (by omega) (by omega) e' e
theorem Ow{l:List Int}(hl:B_ l)(he:ovE l=true):EO (λf=>l.getD f 0) 4=none:=by
 cases e4:EO (λf=>l.getD f 0) 4 with
 |none=>rfl
 |some R4=>
  obtain⟨R3,b3,e3,_⟩:=Dq e4;obtain⟨R2,b2,e2,_⟩:=Dq e3;obtain⟨R1,b1,e1,_⟩:=Dq e2;have e0:EO (λf=>l.getD f 0) 0=some (λf=>l.getD f 0):=rfl;have hR:=Hl hl
  obtain⟨v,hv⟩:=Zu (Hm hR e0 e1) (Hm hR e1 e2) (Hm hR e2 e3) (Hm hR e3 e4) (λf hf=>by
   rcases Iz (hl.2 f hf)with q|q
   ·exact .inl q
   ·exact .inr q.2)
  have:=(YL hv).sharp.some;rw[show By (Aj (FW l 32)) 8=ovE l from rfl,he]at this;cases this
def Z2(i j:Nat):List Nat:=
 let x:=i/2
 let y:=if j/2=x then(if x=0 then 1 else 0)else j/2
 let r:=[0,1,2,3].filter λz=>decide (z≠x)&&decide (z≠y)
 let jj:=if j/2=x then 2*y else j
 [i,opp i,jj,opp jj,2*r.getD 0 0,2*r.getD 0 0+1,2*r.getD 1 0,2*r.getD 1 0+1]
def Mu(f a:Nat):Nat:=(Z2 (fs f) (ss f)).getD a 0
def GZ(f b:Nat):Nat:=(List.range 8).findIdx λa=>Mu f a==b
theorem Kb:∀f:Nat,f<32->(∀a,a<8->Mu f a<8/\Mu f (opp a)=opp (Mu f a)/\GZ f (Mu f a)=a)/\(∀b,b<8->GZ f b<8/\Mu f (GZ f b)=b)/\Mu f 0=fs f/\(8<=f->Mu f 2=ss f):=by decide +kernel
def Uv(f:Nat)(C:Nat->Int):Nat->Int:=λa=>C (Mu f (a/8)*8+Mu f (a%8))
theorem Ch(f:Nat)(C:Nat->Int){i j:Nat}(hj:j<8):Uv f C (i*8+j)=C (Mu f i*8+Mu f j):=by
 unfold Uv;rw[show(i*8+j)/8=i by omega,show(i*8+j)%8=j by omega]
theorem TC.trn{C:Nat->Int}(h:TC C){f:Nat}(hf:f<32):TC (Uv f C):=by
 obtain⟨s1,_,_,_⟩:=Kb f hf;refine⟨λk hk i j hi hj=>?_,λi hi=>?_,λi hi=>?_,λi j hi hj h1 h2=>?_,λi j hi hj=>?_,λa ha=>?_⟩
 ·rw[Ch f C hj,Ch f C (Ah hk),Ch f C hj,(s1 k hk).2.1];exact h.tri (Mu f k) (s1 k hk).1 (Mu f i) (Mu f j) (s1 i hi).1 (s1 j hj).1
 ·rw[Ch f C (Ah hi),(s1 i hi).2.1];exact h.zero _ (s1 i hi).1
 ·rw[Ch f C hi];exact h.even _ (s1 i hi).1
 ·rw[Ch f C hi]at h1;rw[Ch f C hj]at h2;rw[Ch f C hj,Ch f C hi,Ch f C hj];exact h.half _ _ (s1 i hi).1 (s1 j hj).1 h1 h2
 ·rw[Ch f C hj,Ch f C hi];exact h.sym _ _ (s1 i hi).1 (s1 j hj).1
 ·have:=h.top (Mu f (a/8)*8+Mu f (a%8)) (by have:=(s1 (a/8) (by omega)).1;have:=(s1 (a%8) (by omega)).1;omega);exact this
theorem TC.rd{C:Nat->Int}(h:TC C):Ku (bd C) (bd C):=by
 refine⟨λf _=>Int.le_refl _,λf g hf hg k q1 q2=>(h.sum hf hg q1 q2).1 k,λf g hf hg k q1 q2=>?_,λf g hf hg k q1 q2=>(h.sum hf hg q1 q2).2.2 k⟩;have:=(h.sum hf hg q1 q2).2.1 k;omega
theorem TC.bd_top{C:Nat->Int}(h:TC C){f:Nat}(hf:f<32):bd C f=NB\/bd C f<=432000:=by
 have k:fs f*8+ss f<64:=by have:=D5 f hf;have:=D7 f hf;omega
 have t:=h.top _ k;unfold bd;split
 ·rename_i q;have:=t.resolve_left q.2;have:=AW (C (fs f*8+ss f));exact .inr (by omega)
 ·exact t
theorem VC:(2*432000:Int)<NB:=by decide
theorem TC.sat{C v:Nat->Int}(h:TC C)(k:SK (bd C) v 4):Ej v C:=by
 intro i j hi hj;by_cases e:j=opp i
 ·rw[e,h.zero i hi,FR];exact .inr (by omega)
 ·by_cases e':i=j
  ·subst e';by_cases q:C (i*8+i)=NB
   ·exact .inl q
   ·obtain⟨b1,b2⟩:=(h.lo hi).2 q;have:=(k.one i (by omega)).resolve_left b2;exact .inr (by omega)
  ·have:=k.two i j (by omega) (by omega) e' e;rw[IC h.sym hi hj e' e]at this;exact this
def K_(v:Nat->Int)(f:Nat):Int:=if f<8 then sd v f else sd v (fs f)+sd v (ss f)
theorem Q6{f:Nat}(hf:f<32){b:Nat}(hb:b<8):GZ f (opp b)=opp (GZ f b):=by
 obtain⟨s1,s2,_,_⟩:=Kb f hf;obtain⟨a1,a2⟩:=s2 b hb;have:=(s1 (opp (GZ f b)) (Ah a1)).2.2;rw[(s1 (GZ f b) a1).2.1,a2]at this;exact this
end Go.Proofs.YtffajooegiempaaGreatDoor
