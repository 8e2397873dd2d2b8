import Derived.Test.YtffajooegiempaaGreatDoorJ11
set_option maxRecDepth 100000
set_option maxHeartbeats 6400000
namespace Go.Proofs.YtffajooegiempaaGreatDoor
variable {C:Nat->Int}
theorem YN(M:Nat->Int)(t f:Nat)(n:Int):∀k a,DO M t f n k a=if a<k then pl (M (Ak t f (a/8)*8+Ak t f (a%8))) (BK t n (a/8)+BK t n (a%8))else M a:=by
 intro k;induction k with
 |zero=>intro a;rw[if_neg (by omega)];rfl
 |succ k ih=>
  intro a;rw[DO];unfold Bw;by_cases e:a=k
  ·rw[if_pos e,if_pos (by omega),e]
  ·rw[if_neg e,ih];by_cases q:a<k
   ·rw[if_pos q,if_pos (by omega)]
   ·rw[if_neg q,if_neg (by omega)]
theorem Hd(M:Nat->Int)(t f:Nat)(n:Int){i j:Nat}(hi:i<8)(hj:j<8):DO M t f n 64 (i*8+j)=pl (M (Ak t f i*8+Ak t f j)) (BK t n i+BK t n j):=by
 rw[YN,if_pos (by omega),show(i*8+j)/8=i by omega,show(i*8+j)%8=j by omega]
theorem Qt:∀t:Nat,t<4->∀f,f<8->∀i,i<8->Ak t f (opp i)=opp (Ak t f i):=by decide +kernel
theorem QD(t:Nat)(n:Int)(i:Nat):BK t n (opp i)= -BK t n i:=by
 unfold BK opp;by_cases e:i%2=0
 ·rw[if_pos e,if_neg (show¬i+1=2*t by omega)];by_cases q:i=2*t
  ·rw[if_pos (by omega),if_pos q]
  ·rw[if_neg (by omega),if_neg q,if_neg (show¬i=2*t+1 by omega)];rfl
 ·rw[if_neg e];by_cases q:i=2*t+1
  ·rw[if_pos (show i-1=2*t by omega),if_neg (show¬i=2*t by omega),if_pos q];omega
  ·rw[if_neg (show¬i-1=2*t by omega),if_neg (show¬i-1=2*t+1 by omega),if_neg (show¬i=2*t by omega),if_neg q];rfl
theorem N6{x a:Int}(hx:x=NB\/x<=60000)(ha: -2000<=a/\a<=2000):(x=NB->pl x a=NB)/\(x≠NB->pl x a=x+a/\pl x a≠NB):=by
 unfold pl;constructor
 ·intro h;rw[if_pos (.inl h)]
 ·intro h;have:=hx.resolve_left h;have e:a≠NB:=by unfold NB;omega
  rw[if_neg (λz=>z.elim h e)];exact⟨rfl,by unfold NB;omega⟩
theorem Uj(h:TC C)(hb:Bd 56000 C){t f:Nat}(ht:t<4)(hf:f<8){n:Int}(hn: -999<=n/\n<=999):TC (DO C t f n 64)/\Bd 60000 (DO C t f n 64):=by
 have hb':Bd 60000 C:=hb.mono (by decide);have ho:∀{i:Nat},i<8->Ak t f i<8:=λhi=>Cv hf hi;have hr:=λi=>Cm (t:=t) hn i;have P:∀{i j:Nat},i<8->j<8->(C (Ak t f i*8+Ak t f j)=NB->DO C t f n 64 (i*8+j)=NB)/\(C (Ak t f i*8+Ak t f j)≠NB->DO C t f n 64 (i*8+j)=C (Ak t f i*8+Ak t f j)+(BK t n i+BK t n j)/\DO C t f n 64 (i*8+j)≠NB):=by
  intro i j hi hj;rw[Hd C t f n hi hj];have a:=hr i;have b:=hr j;have:=ho hi;have:=ho hj;exact N6 (hb' _ (by omega)) ⟨by omega,by omega⟩
 have Q:∀{i j:Nat},i<8->j<8->DO C t f n 64 (i*8+j)≠NB->C (Ak t f i*8+Ak t f j)≠NB:=λhi hj q z=>q ((P hi hj).1 z);have top:Bd 60000 (DO C t f n 64):=by
  intro a ha;rw[show a=a/8*8+a%8 by omega];have hi:a/8<8:=by omega
  have hj:a%8<8:=by omega
  by_cases q:DO C t f n 64 (a/8*8+a%8)=NB
  ·exact .inl q
  ·have z:=Q hi hj q;have e:=((P hi hj).2 z).1;have:=ho hi;have:=ho hj;have:=(hb _ (show Ak t f (a/8)*8+Ak t f (a%8)<64 by omega)).resolve_left z;have x:=hr (a/8);have y:=hr (a%8);exact .inr (by omega)
 refine⟨⟨?_,?_,?_,?_,?_,top.mono (by decide)⟩,top⟩
 ·intro k hk i j hi hj;by_cases q1:DO C t f n 64 (i*8+opp k)=NB
  ·exact .inl q1
  ·by_cases q2:DO C t f n 64 (k*8+j)=NB
   ·exact .inr (.inl q2)
   ·have z1:=Q hi (Ah hk) q1;have z2:=Q hk hj q2;have e1:=((P hi (Ah hk)).2 z1).1;have e2:=((P hk hj).2 z2).1;rw[Qt t ht f hf k hk]at z1 e1;rw[QD]at e1;obtain⟨t1,t2⟩:=((h.tri (Ak t f k) (ho hk) (Ak t f i) (Ak t f j) (ho hi) (ho hj)).resolve_left z1).resolve_left z2;obtain⟨e3,e4⟩:=(P hi hj).2 t1;exact .inr (.inr ⟨e4,by omega⟩)
 ·intro i hi;have z:C (Ak t f i*8+Ak t f (opp i))=0:=by rw[Qt t ht f hf i hi];exact h.zero _ (ho hi)
  have e:=((P hi (Ah hi)).2 (by rw[z];decide)).1;rw[QD]at e;omega
 ·intro i hi;by_cases q:DO C t f n 64 (i*8+i)=NB
  ·exact .inl q
  ·have z:=Q hi hi q;have e:=((P hi hi).2 z).1;have:=(h.even _ (ho hi)).resolve_left z;exact .inr (by omega)
 ·intro i j hi hj q1 q2;have z1:=Q hi hi q1;have z2:=Q hj hj q2;have e1:=((P hi hi).2 z1).1;have e2:=((P hj hj).2 z2).1;obtain⟨t1,t2⟩:=h.half _ _ (ho hi) (ho hj) z1 z2;obtain⟨e3,e4⟩:=(P hi hj).2 t1;exact⟨e4,by omega⟩
 ·intro i j hi hj;rw[Hd C t f n hi hj,Hd C t f n hj hi,h.sym _ _ (ho hi) (ho hj),Int.add_comm]
def uF(C:Nat->Int)(t:Nat)(lo hi:Int)(i:Nat):Int:=if i=2*t then hi else if i=2*t+1 then -lo else mo C i i
abbrev C6(t i:Nat):Prop:=i=2*t\/i=2*t+1
def Po(C:Nat->Int)(t:Nat)(lo hi:Int)(i j:Nat):Int:=
 if C6 t i then(if C6 t j then(if i=j then(if i=2*t then 2*hi else 2* -lo)else C (i*8+j))else pl (uF C t lo hi i) (mo C j j))
 else if C6 t j then pl (uF C t lo hi j) (mo C i i)else C (i*8+j)
theorem Qj(M:Nat->Int)(p q:Nat)(n:Int){i j:Nat}(_hi:i<8)(hj:j<8)(hp:p<8)(hq:q<8):lm M p q n (i*8+j)=if(i=p/\j=q)\/(i=q/\j=p)then(if p=q/\n≠NB then 2*n else n)else M (i*8+j):=by
 unfold lm;generalize(if p=q/\n≠NB then 2*n else n)=y;unfold Bw;by_cases q1:i*8+j=q*8+p
 ·rw[if_pos q1,if_pos (.inr (by omega))]
 ·rw[if_neg q1];by_cases q2:i*8+j=p*8+q
  ·rw[if_pos q2,if_pos (.inl (by omega))]
  ·rw[if_neg q2,if_neg (by omega)]
theorem Qe{b c:Prop}[Decidable b][Decidable c]{x x' y y':Int}(h:b↔c)(hx:x=x')(hy:y=y'):(if b then x else y)=if c then x' else y':=by
 by_cases q:c
 ·rw[if_pos (h.2 q),if_pos q,hx]
 ·rw[if_neg (λz=>q (h.1 z)),if_neg q,hy]
theorem YJ(M:Nat->Int){t:Nat}(ht:t<4)(lo hi':Int):∀n,n<=8->∀i j,i<8->j<8->E3 M t lo hi' n (i*8+j)=
  if C6 t i/\¬C6 t j/\j<n then pl (uF M t lo hi' i) (mo M j j)else if C6 t j/\¬C6 t i/\i<n then pl (uF M t lo hi' j) (mo M i i)else M (i*8+j):=by
 intro n;induction n with
 |zero=>intro _ i j _ _;rw[if_neg (by omega),if_neg (by omega)];rfl
 |succ n ih=>
  intro hn i j hi hj;rw[E3];by_cases c:n=2*t\/n=2*t+1
  ·rw[if_pos c,ih (by omega) i j hi hj];exact Qe ⟨λh=>⟨h.1,h.2.1,by omega⟩,λh=>⟨h.1,h.2.1,by omega⟩⟩ rfl (Qe ⟨λh=>⟨h.1,h.2.1,by omega⟩,λh=>⟨h.1,h.2.1,by omega⟩⟩ rfl rfl)
  ·rw[if_neg c,KL (Mr M ht lo hi' n (by omega) n (by omega) (λz=>c (.inl z)) (λz=>c (.inr z)))];rw[Qj _ _ _ _ hi hj (by omega) (by omega),Qj _ _ _ _ hi hj (by omega) (by omega),ih (by omega) i j hi hj];rw[if_neg (show¬(2*t+1=n/\pl (-lo) (mo M n n)≠NB) by omega),if_neg (show¬(2*t=n/\pl hi' (mo M n n)≠NB) by omega)];by_cases a1:(i=2*t+1/\j=n)\/(i=n/\j=2*t+1)
   ·rw[if_pos a1];rcases a1 with⟨b1,b2⟩|⟨b1,b2⟩
    ·rw[if_pos (show C6 t i/\¬C6 t j/\j<n+1 from⟨.inr b1,by omega,by omega⟩),b2];unfold uF;rw[if_neg (show¬i=2*t by omega),if_pos b1]
    ·rw[if_neg (show¬(C6 t i/\¬C6 t j/\j<n+1) by omega),if_pos (show C6 t j/\¬C6 t i/\i<n+1 from⟨.inr b2,by omega,by omega⟩),b1];unfold uF;rw[if_neg (show¬j=2*t by omega),if_pos b2]
   ·rw[if_neg a1];by_cases a2:(i=2*t/\j=n)\/(i=n/\j=2*t)
    ·rw[if_pos a2];rcases a2 with⟨b1,b2⟩|⟨b1,b2⟩
     ·rw[if_pos (show C6 t i/\¬C6 t j/\j<n+1 from⟨.inl b1,by omega,by omega⟩),b2];unfold uF;rw[if_pos b1]
     ·rw[if_neg (show¬(C6 t i/\¬C6 t j/\j<n+1) by omega),if_pos (show C6 t j/\¬C6 t i/\i<n+1 from⟨.inl b2,by omega,by omega⟩),b1];unfold uF;rw[if_pos b2]
    ·rw[if_neg a2];exact Qe ⟨λh=>⟨h.1,h.2.1,by omega⟩,λh=>⟨h.1,h.2.1,by omega⟩⟩ rfl (Qe ⟨λh=>⟨h.1,h.2.1,by omega⟩,λh=>⟨h.1,h.2.1,by omega⟩⟩ rfl rfl)
theorem Dx(M:Nat->Int){t:Nat}(ht:t<4){lo hi:Int}(hlo: -999<=lo/\lo<=999)(hhi: -999<=hi/\hi<=999){i j:Nat}(hi':i<8)(hj:j<8):FI M t lo hi (i*8+j)=Po M t lo hi i j:=by
 have n1:hi≠NB:=by unfold NB;omega
 have n2: -lo≠NB:=by unfold NB;omega
 unfold FI Po;rw[Qj _ _ _ _ hi' hj (by omega) (by omega),Qj _ _ _ _ hi' hj (by omega) (by omega),YJ M ht lo hi 8 (Nat.le_refl _) i j hi' hj,if_pos (show 2*t+1=2*t+1/\ -lo≠NB from⟨rfl,n2⟩),if_pos (show 2*t=2*t/\hi≠NB from⟨rfl,n1⟩)];by_cases a1:i=2*t+1/\j=2*t+1
 ·rw[if_pos (.inl a1),if_pos (show C6 t i from .inr a1.1),if_pos (show C6 t j from .inr a1.2),if_pos (show i=j by omega),if_neg (show¬i=2*t by omega)]
 ·rw[if_neg (show¬((i=2*t+1/\j=2*t+1)\/(i=2*t+1/\j=2*t+1)) by omega)];by_cases a2:i=2*t/\j=2*t
  ·rw[if_pos (.inl a2),if_pos (show i=2*t\/i=2*t+1 by omega),if_pos (show j=2*t\/j=2*t+1 by omega),if_pos (show i=j by omega),if_pos a2.1]
  ·rw[if_neg (show¬((i=2*t/\j=2*t)\/(i=2*t/\j=2*t)) by omega)];by_cases q1:i=2*t\/i=2*t+1
   ·rw[if_pos q1];by_cases q2:j=2*t\/j=2*t+1
    ·rw[if_pos q2,if_neg (show¬i=j by omega),if_neg (λz=>z.2.1 q2),if_neg (λz=>z.2.1 q1)]
    ·rw[if_neg q2,if_pos ⟨q1,q2,hj⟩]
   ·rw[if_neg q1,if_neg (λz=>q1 z.1)];by_cases q2:j=2*t\/j=2*t+1
    ·rw[if_pos q2,if_pos ⟨q2,q1,hi'⟩]
    ·rw[if_neg q2,if_neg (λz=>q2 z.1)]
theorem Lg(h:TC C){j:Nat}(hj:j<8):(C (j*8+j)=NB->mo C j j=NB)/\(C (j*8+j)≠NB->2*mo C j j=C (j*8+j)/\mo C j j≠NB):=by
 unfold mo;constructor
 ·intro q;rw[if_neg (λz=>z.2 q),q]
 ·intro q;rw[if_pos ⟨rfl,q⟩];have e:=EF ((h.even j hj).resolve_left q);have:=(h.top (j*8+j) (by omega)).resolve_left q;exact⟨by omega,by unfold NB;omega⟩
theorem Ja(t i:Nat):C6 t (opp i)↔C6 t i:=by
 unfold C6 opp;split<;>omega
theorem FN{t i j:Nat}(hi:C6 t i)(hj:C6 t j):j=i\/j=opp i:=by
 unfold C6 opp at *;split<;>omega
theorem QI(h:TC C)(hb:Bd 56000 C){t:Nat}(ht:t<4){lo hi:Int}(hlo: -999<=lo/\lo<=999)(hhi: -999<=hi/\hi<=999)(hle:lo<=hi):TC (FI C t lo hi)/\Bd 60000 (FI C t lo hi):=by
 have u0:∀{i:Nat},C6 t i->0<=uF C t lo hi i+uF C t lo hi (opp i)/\ -999<=uF C t lo hi i/\uF C t lo hi i<=999:=by
  intro i q;rcases q with q|q
  ·have e:opp i=2*t+1:=by unfold opp;rw[if_pos (by omega)];omega
   rw[e];unfold uF;rw[if_pos q,if_neg (show¬2*t+1=2*t by omega),if_pos rfl];omega
  ·have e:opp i=2*t:=by unfold opp;rw[if_neg (by omega)];omega
   rw[e];unfold uF;rw[if_neg (show¬i=2*t by omega),if_pos q,if_pos rfl];omega
 have G1:∀{i j:Nat},i<8->j<8->C6 t i->j=i->FI C t lo hi (i*8+j)=2*uF C t lo hi i:=by
  intro i j hi' hj q e;subst e;rw[Dx C ht hlo hhi hi' hj];unfold Po uF;rw[if_pos q,if_pos q,if_pos rfl];by_cases z:j=2*t
  ·rw[if_pos z,if_pos z]
  ·rw[if_neg z,if_neg z,if_pos (q.resolve_left z)]
 have G2:∀{i j:Nat},i<8->j<8->C6 t i->j=opp i->FI C t lo hi (i*8+j)=0:=by
  intro i j hi' hj q e;subst e;rw[Dx C ht hlo hhi hi' hj];unfold Po;rw[if_pos q,if_pos ((Ja t i).2 q),if_neg (λz=>KP i z.symm)];exact h.zero i hi'
 have G3:∀{i j:Nat},i<8->j<8->C6 t i->¬C6 t j->(C (j*8+j)=NB->FI C t lo hi (i*8+j)=NB/\FI C t lo hi (j*8+i)=NB)/\(C (j*8+j)≠NB->FI C t lo hi (i*8+j)=uF C t lo hi i+mo C j j/\FI C t lo hi (i*8+j)≠NB/\FI C t lo hi (j*8+i)=uF C t lo hi i+mo C j j/\FI C t lo hi (j*8+i)≠NB):=by
  intro i j hi' hj q1 q2;have m:=Lg h hj;have u:=u0 q1;have e1:FI C t lo hi (i*8+j)=pl (uF C t lo hi i) (mo C j j):=by
   rw[Dx C ht hlo hhi hi' hj];unfold Po;rw[if_pos q1,if_neg q2]
  have e2:FI C t lo hi (j*8+i)=pl (uF C t lo hi i) (mo C j j):=by
   rw[Dx C ht hlo hhi hj hi'];unfold Po;rw[if_neg q2,if_pos q1]
  rw[e1,e2];unfold pl;constructor
  ·intro z;rw[if_pos (.inr (m.1 z))];exact⟨rfl,rfl⟩
  ·intro z;obtain⟨m1,m2⟩:=m.2 z;have:=(hb (j*8+j) (by omega)).resolve_left z;have n1:uF C t lo hi i≠NB:=by unfold NB;omega
   rw[if_neg (λy=>y.elim n1 m2)];have n2:uF C t lo hi i+mo C j j≠NB:=by unfold NB;omega
   exact⟨rfl,n2,rfl,n2⟩
 have G5:∀{i j:Nat},i<8->j<8->¬C6 t i->¬C6 t j->FI C t lo hi (i*8+j)=C (i*8+j):=by
  intro i j hi' hj q1 q2;rw[Dx C ht hlo hhi hi' hj];unfold Po;rw[if_neg q1,if_neg q2]
 have mm:=λ{j:Nat} (hj:j<8)=>Lg h hj;generalize hN:FI C t lo hi=N at *;clear hN;have nn:∀x:Int,x<=200000->x≠NB:=λx hx=>by unfold NB;omega
 have top:Bd 60000 N:=by
  intro a ha;rw[show a=a/8*8+a%8 by omega];have hi':a/8<8:=by omega
  have hj:a%8<8:=by omega
  generalize a/8=i at *;generalize a%8=j at *;by_cases q1:C6 t i
  ·by_cases q2:C6 t j
   ·rcases FN q1 q2 with e|e
    ·rw[G1 hi' hj q1 e];have:=u0 q1;exact .inr (by omega)
    ·rw[G2 hi' hj q1 e];exact .inr (by decide)
   ·by_cases z:C (j*8+j)=NB
    ·exact .inl ((G3 hi' hj q1 q2).1 z).1
    ·have:=(hb (j*8+j) (by omega)).resolve_left z;have m:=(mm hj).2 z;have:=u0 q1;have g:=((G3 hi' hj q1 q2).2 z).1;exact .inr (by omega)
  ·by_cases q2:C6 t j
   ·by_cases z:C (i*8+i)=NB
    ·exact .inl ((G3 hj hi' q2 q1).1 z).2
    ·have:=(hb (i*8+i) (by omega)).resolve_left z;have m:=(mm hi').2 z;have:=u0 q2;have g:=((G3 hj hi' q2 q1).2 z).2.2.1;exact .inr (by omega)
   ·rw[G5 hi' hj q1 q2];exact(hb _ (by omega)).imp id (λz=>by omega)
 have sym:VA N:=by
  intro i j hi' hj;by_cases q1:C6 t i
  ·by_cases q2:C6 t j
   ·rcases FN q1 q2 with e|e
    ·rw[e]
    ·rw[G2 hi' hj q1 e,G2 hj hi' q2 (by rw[e,CL i hi'])]
   ·by_cases z:C (j*8+j)=NB
    ·have g:=(G3 hi' hj q1 q2).1 z;rw[g.1,g.2]
    ·have g:=(G3 hi' hj q1 q2).2 z;rw[g.1,g.2.2.1]
  ·by_cases q2:C6 t j
   ·by_cases z:C (i*8+i)=NB
    ·have g:=(G3 hj hi' q2 q1).1 z;rw[g.1,g.2]
    ·have g:=(G3 hj hi' q2 q1).2 z;rw[g.1,g.2.2.1]
   ·rw[G5 hi' hj q1 q2,G5 hj hi' q2 q1];exact h.sym i j hi' hj
 refine⟨⟨?_,λi hi'=>?_,λi hi'=>?_,λi j hi' hj z1 z2=>?_,sym,top.mono (by decide)⟩,top⟩
 ·intro k hk i j hi' hj;have ho:=Ah hk;by_cases qk:C6 t k
  ·have qo:=(Ja t k).2 qk;have uk:=u0 qk;by_cases q1:C6 t i
   ·by_cases q2:C6 t j
    ·right;right
     have ui:=u0 q1;rcases FN qk q1 with e1|e1
     ·have a1:=G2 hi' ho q1 (by rw[e1]);rcases FN qk q2 with e2|e2
      ·have a2:=G1 hk hj qk e2;have a3:=G1 hi' hj q1 (by rw[e1,e2]);rw[a1,a2,a3,e1];exact⟨nn _ (by omega),by omega⟩
      ·have a2:=G2 hk hj qk e2;have a3:=G2 hi' hj q1 (by rw[e1,e2]);rw[a1,a2,a3];exact⟨by decide,by omega⟩
     ·have a1:=G1 hi' ho q1 (by rw[e1]);rcases FN qk q2 with e2|e2
      ·have a2:=G1 hk hj qk e2;have a3:=G2 hi' hj q1 (by rw[e1,e2,CL k hk]);rw[a1,a2,a3,e1];exact⟨by decide,by omega⟩
      ·have a2:=G2 hk hj qk e2;have a3:=G1 hi' hj q1 (by rw[e1,e2]);rw[a1,a2,a3];exact⟨nn _ (by omega),by omega⟩
    ·by_cases z:C (j*8+j)=NB
     ·exact .inr (.inl ((G3 hk hj qk q2).1 z).1)
     ·right;right
      have a2:=(G3 hk hj qk q2).2 z;have a3:=(G3 hi' hj q1 q2).2 z;refine⟨a3.2.1,?_⟩;rw[a2.1,a3.1];rcases FN qk q1 with e1|e1
      ·rw[G2 hi' ho q1 (by rw[e1]),e1];omega
      ·rw[G1 hi' ho q1 (by rw[e1]),e1];omega
   ·by_cases z:C (i*8+i)=NB
    ·exact .inl ((G3 ho hi' qo q1).1 z).2
    ·have a1:=(G3 ho hi' qo q1).2 z;by_cases q2:C6 t j
     ·right;right
      have a3:=(G3 hj hi' q2 q1).2 z;refine⟨a3.2.2.2,?_⟩;rw[a1.2.2.1,a3.2.2.1];rcases FN qk q2 with e2|e2
      ·rw[G1 hk hj qk e2,e2];omega
      ·rw[G2 hk hj qk e2,e2];omega
     ·by_cases z2:C (j*8+j)=NB
      ·exact .inr (.inl ((G3 hk hj qk q2).1 z2).1)
      ·right;right
       have a2:=(G3 hk hj qk q2).2 z2;have x:=h.half i j hi' hj z z2;have m1:=((mm hi').2 z).1;have m2:=((mm hj).2 z2).1;rw[a1.2.2.1,a2.1,G5 hi' hj q1 q2];exact⟨x.1,by omega⟩
  ·have qo:¬C6 t (opp k):=λy=>qk ((Ja t k).1 y);by_cases q1:C6 t i
   ·by_cases zo:C (opp k*8+opp k)=NB
    ·exact .inl ((G3 hi' ho q1 qo).1 zo).1
    ·have a1:=(G3 hi' ho q1 qo).2 zo;have m1:=((mm ho).2 zo).1;by_cases q2:C6 t j
     ·by_cases zk:C (k*8+k)=NB
      ·exact .inr (.inl ((G3 hj hk q2 qk).1 zk).2)
      ·right;right
       have a2:=(G3 hj hk q2 qk).2 zk;have m2:=((mm hk).2 zk).1;have x:=h.half k (opp k) hk ho zk zo;rw[h.zero k hk]at x;rw[a1.1,a2.2.2.1];rcases FN q1 q2 with e|e
       ·rw[G1 hi' hj q1 e,e];have:=u0 q1;exact⟨nn _ (by omega),by omega⟩
       ·rw[G2 hi' hj q1 e,e];have:=u0 q1;exact⟨by decide,by omega⟩
     ·by_cases zk:C (k*8+j)=NB
      ·exact .inr (.inl (by rw[G5 hk hj qk q2];exact zk))
      ·right;right
       have x:=h.single (i:=opp k) (b:=j) ho hj (by rw[CL k hk];exact zk) zo;rw[CL k hk]at x;have a3:=(G3 hi' hj q1 q2).2 x.1;have m3:=((mm hj).2 x.1).1;refine⟨a3.2.1,?_⟩;rw[a1.1,a3.1,G5 hk hj qk q2];omega
   ·by_cases q2:C6 t j
    ·by_cases zk:C (k*8+k)=NB
     ·exact .inr (.inl ((G3 hj hk q2 qk).1 zk).2)
     ·have a2:=(G3 hj hk q2 qk).2 zk;have m2:=((mm hk).2 zk).1;by_cases zi:C (i*8+opp k)=NB
      ·exact .inl (by rw[G5 hi' ho q1 qo];exact zi)
      ·right;right
       have x:=h.single (i:=k) (b:=i) hk hi' (by rw[h.sym _ _ ho hi'];exact zi) zk;have a3:=(G3 hj hi' q2 q1).2 x.1;have m3:=((mm hi').2 x.1).1;have s:=h.sym _ _ ho hi';refine⟨a3.2.2.2,?_⟩;rw[a2.2.2.1,a3.2.2.1,G5 hi' ho q1 qo];omega
    ·rw[G5 hi' hj q1 q2,G5 hi' ho q1 qo,G5 hk hj qk q2];exact h.tri k hk i j hi' hj
 ·by_cases q:C6 t i
  ·exact G2 hi' (Ah hi') q rfl
  ·rw[G5 hi' (Ah hi') q (λy=>q ((Ja t i).1 y))];exact h.zero i hi'
 ·by_cases q:C6 t i
  ·rw[G1 hi' hi' q rfl];exact .inr (by omega)
  ·rw[G5 hi' hi' q q];exact h.even i hi'
 ·by_cases q1:C6 t i
  ·by_cases q2:C6 t j
   ·have u1:=u0 q1;rw[G1 hi' hi' q1 rfl,G1 hj hj q2 rfl];rcases FN q1 q2 with e|e
    ·rw[G1 hi' hj q1 e,e];exact⟨nn _ (by omega),by omega⟩
    ·rw[G2 hi' hj q1 e,e];exact⟨by decide,by omega⟩
   ·rw[G5 hj hj q2 q2]at z2;have g:=(G3 hi' hj q1 q2).2 z2;have m:=((mm hj).2 z2).1;rw[G1 hi' hi' q1 rfl,G5 hj hj q2 q2];exact⟨g.2.1,by rw[g.1];omega⟩
  ·rw[G5 hi' hi' q1 q1]at z1;have m:=((mm hi').2 z1).1;by_cases q2:C6 t j
   ·have g:=(G3 hj hi' q2 q1).2 z1;rw[G1 hj hj q2 rfl,G5 hi' hi' q1 q1];exact⟨g.2.2.2,by rw[g.2.2.1];omega⟩
   ·rw[G5 hj hj q2 q2]at z2;rw[G5 hi' hi' q1 q1,G5 hj hj q2 q2,G5 hi' hj q1 q2];exact h.half i j hi' hj z1 z2
end Go.Proofs.YtffajooegiempaaGreatDoor
namespace Go.Proofs.YtffajooegiempaaGreatDoor
open Go.RowKit
variable {w:World}
abbrev tNk:TypeId:=3
def px(k:Nat):Nat:=[0,0,0,1,1,2].getD k 0
def py(k:Nat):Nat:=[1,2,3,2,3,3].getD k 0
def E2(k:Nat)(sx sy:Int)(t:Nat):List Int:=if k<t then([0,0,0,0].set (px k) sx).set (py k) sy else[0,0,0,0]
theorem Rb(f:Nat)(hf:f<8):Calls Tryz.prog 96 #[.int .i64 (f:Int)] w λe w'=>e=.returned (.slice (some ⟨w.heap.size,0,none⟩) 4 4)/\At w' w.heap.size (ic (C5 f)) tNk/\Below w.heap.size w w':=by
 have hmk:∀w,(Instr.makeSlice 32 (.int .i64 4) (.int .i64 4)).run Tryz.prog w=.ok (.slice (some ⟨w.heap.size,0,none⟩) 4 4) (w.alloc (.cells #[.int .i64 0,.int .i64 0,.int .i64 0,.int .i64 0] tNk)):=λ_=>by kernel_rfl
 have HB:Hid (∀o,Below w.heap.size w (w.alloc o)):=λo=>(Below.refl _ _).alloc (Nat.le_refl _) _;rcases(show f=0\/f=1\/f=2\/f=3\/f=4\/f=5\/f=6\/f=7 by omega)with rfl|rfl|rfl|rfl|rfl|rfl|rfl|rfl;all_goals
  go_enter Tryz.func96,Tryz.ntmps96;go_wp2_with fail;go_ret;refine⟨rfl,?_,?_⟩
  ·exact At.new _ _ _
  ·exact HB.out _
theorem O6:∀f:Nat,f<32->8<=f->((f:Int)-8).tdiv 4=(((f-8)/4:Nat):Int)/\(((f:Int)-8).tmod 4).tdiv 2=(((f-8)%4/2:Nat):Int)/\((f:Int)-8).tmod 2=(((f-8)%2:Nat):Int)/\(f-8)/4<6/\(f-8)%4/2<2/\(f-8)%2<2/\
  C5 f=E2 ((f-8)/4) (1-(((f-8)%4/2:Nat):Int)*2) (1-(((f-8)%2:Nat):Int)*2) 6:=by decide
def tx(x:Nat):Nat:=[0,3,5,6,6].getD x 6
theorem Ra(f:Nat)(hf:f<32)(hf8:8<=f):Calls Tryz.prog 96 #[.int .i64 (f:Int)] w λe w'=>e=.returned (.slice (some ⟨w.heap.size,0,none⟩) 4 4)/\At w' w.heap.size (ic (C5 f)) tNk/\Below w.heap.size w w':=by
 have hmk:∀w,(Instr.makeSlice 32 (.int .i64 4) (.int .i64 4)).run Tryz.prog w=.ok (.slice (some ⟨w.heap.size,0,none⟩) 4 4) (w.alloc (.cells #[.int .i64 0,.int .i64 0,.int .i64 0,.int .i64 0] tNk)):=λ_=>by kernel_rfl
 have HA:Hid (At (w.alloc (.cells #[.int .i64 0,.int .i64 0,.int .i64 0,.int .i64 0] tNk)) w.heap.size (ic [0,0,0,0]) tNk):=At.new _ _ _;have HB:Hid (∀o,Below w.heap.size w (w.alloc o)):=λo=>(Below.refl _ _).alloc (Nat.le_refl _) _;obtain⟨p1,p2,p3,p4,p5,p6,p7⟩:=O6 f hf hf8;have HF:Hid (_=_):=p7;have hfi:¬(f:Int)<8:=by omega
 have hfu:(f:Int)<32:=by omega
 generalize(f-8)/4=k at *;obtain⟨a,ha⟩:∃a:Int,a=(((f-8)%4/2:Nat):Int):=⟨_,rfl⟩
 obtain⟨c,hc⟩:∃c:Int,c=(((f-8)%2:Nat):Int):=⟨_,rfl⟩
 have HA2:Hid (((f:Int)-8)%4/2=a):=by show _=a;omega
 rw[<-ha]at p2 HF;rw[<-hc]at p3 HF;have a0:0<=a:=by omega
 have a1:a<=1:=by omega
 have c0':0<=c:=by omega
 have c1':c<=1:=by omega
 have HS:Hid (E2 k (1-a*2) (1-c*2) 0=[0,0,0,0]):=by show E2 _ _ _ _=_;unfold E2;rw[if_neg (by omega)]
 clear ha hc p5 p6 p7 hf;go_enter Tryz.func96,Tryz.ntmps96;go_wp2_with fail;go_loopw [4,5] (λkv xv wr=>∃(x:Nat),x<=4/\xv=.int .i64 x/\kv=.int .i64 ((k:Int)-((tx x:Nat):Int))/\Hid (At wr w.heap.size (ic (E2 k (1-a*2) (1-c*2) (tx x))) tNk/\Below w.heap.size w wr)) (λ_ xv _=>4-(intOf xv).toNat);case atStart=>exact⟨0,by omega,rfl,by show Value.int .i64 (k:Int)=.int .i64 ((k:Int)-((0:Nat):Int));rw[show((0:Nat):Int)=0 from rfl,Int.sub_zero],by show At _ _ (ic (E2 k (1-a*2) (1-c*2) 0)) _;rw[HS.out];exact HA.out,HB.out _⟩
 case round=>
  obtain⟨x,hx,rfl,rfl,HR⟩:=hrel;rcases(show x=0\/x=1\/x=2\/x=3\/x=4 by omega)with rfl|rfl|rfl|rfl|rfl
  ·have hx4:(0:Nat)<4:=by omega
   obtain⟨w4,rfl⟩:∃w4,w4=wr:=⟨_,rfl⟩
   go_wp2_with fail;go_loopw [4,6] (λkv yv wr=>∃(y:Nat),0+1<=y/\y<=4/\yv=.int .i64 y/\kv=.int .i64 ((k:Int)-((0+(y-0-1):Nat):Int))/\Hid (At wr w.heap.size (ic (E2 k (1-a*2) (1-c*2) (0+(y-0-1)))) tNk/\Below w.heap.size w wr)) (λ_ yv _=>4-(intOf yv).toNat);case atStart=>exact⟨1,by omega,by omega,rfl,rfl,HR.out⟩
   case round=>
    obtain⟨y,hy1,hy2,rfl,rfl,HQ⟩:=hrel;by_cases hlt:y<4
    ·rcases(show y=1\/y=2\/y=3 by omega)with rfl|rfl|rfl
     ·by_cases hk:k=0
      ·subst hk;have c0:=HQ.out.1.cell 0;have c1:=HQ.out.1.cell 1;have c2:=HQ.out.1.cell 2;have c3:=HQ.out.1.cell 3;have cf:=HQ.out.1.free;have hbl:=HQ.out.1.lt;have e00:E2 0 (1-a*2) (1-c*2) 0=[0,0,0,0]:=rfl;rw[e00]at c0 c1 c2 c3;simp[ic]at c0 c1 c2 c3;go_wp2_with fail;go_roundw;case rel=>
        refine⟨1+1,by omega,by omega,rfl,rfl,?_,?_⟩
        ·try rw[HA2.out]
         exact(HQ.out.1.put (px 0) (.int .i64 (1-a*2))).put (py 0) (.int .i64 (1-c*2))
        ·exact(HQ.out.2.setCell (by show w.heap.size<=w.heap.size;omega) _).setCell (by show w.heap.size<=w.heap.size;omega) _
       case measure=>simp[intOf]
      ·have hkb:((k:Int)-0==0)=false:=by rw[beq_eq_false_iff_ne];omega
       have HE:Hid (E2 k (1-a*2) (1-c*2) (0+1)=E2 k (1-a*2) (1-c*2) 0):=by
        show E2 _ _ _ _=_;unfold E2;by_cases q:k<0
        ·rw[if_pos q,if_pos (by omega)]
        ·rw[if_neg q,if_neg (by omega)]
       go_wp2_with fail;go_roundw;case rel=>
        refine⟨1+1,by omega,by omega,rfl,?_,?_,HQ.out.2⟩
        ·first|rfl|(congr 1;omega)|(congr 1;simp;omega)
        ·show At _ _ (ic (E2 k (1-a*2) (1-c*2) (0+1))) _;rw[HE.out];exact HQ.out.1
       case measure=>simp[intOf]
     ·by_cases hk:k=1
      ·subst hk;have c0:=HQ.out.1.cell 0;have c1:=HQ.out.1.cell 1;have c2:=HQ.out.1.cell 2;have c3:=HQ.out.1.cell 3;have cf:=HQ.out.1.free;have hbl:=HQ.out.1.lt;have e00:E2 1 (1-a*2) (1-c*2) 1=[0,0,0,0]:=rfl;rw[e00]at c0 c1 c2 c3;simp[ic]at c0 c1 c2 c3;go_wp2_with fail;go_roundw;case rel=>
        refine⟨2+1,by omega,by omega,rfl,rfl,?_,?_⟩
        ·try rw[HA2.out]
         exact(HQ.out.1.put (px 1) (.int .i64 (1-a*2))).put (py 1) (.int .i64 (1-c*2))
        ·exact(HQ.out.2.setCell (by show w.heap.size<=w.heap.size;omega) _).setCell (by show w.heap.size<=w.heap.size;omega) _
       case measure=>simp[intOf]
      ·have hkb:((k:Int)-1==0)=false:=by rw[beq_eq_false_iff_ne];omega
       have HE:Hid (E2 k (1-a*2) (1-c*2) (1+1)=E2 k (1-a*2) (1-c*2) 1):=by
        show E2 _ _ _ _=_;unfold E2;by_cases q:k<1
        ·rw[if_pos q,if_pos (by omega)]
        ·rw[if_neg q,if_neg (by omega)]
       go_wp2_with fail;go_roundw;case rel=>
        refine⟨2+1,by omega,by omega,rfl,?_,?_,HQ.out.2⟩
        ·first|rfl|(congr 1;omega)|(congr 1;simp;omega)
        ·show At _ _ (ic (E2 k (1-a*2) (1-c*2) (1+1))) _;rw[HE.out];exact HQ.out.1
       case measure=>simp[intOf]
     ·by_cases hk:k=2
      ·subst hk;have c0:=HQ.out.1.cell 0;have c1:=HQ.out.1.cell 1;have c2:=HQ.out.1.cell 2;have c3:=HQ.out.1.cell 3;have cf:=HQ.out.1.free;have hbl:=HQ.out.1.lt;have e00:E2 2 (1-a*2) (1-c*2) 2=[0,0,0,0]:=rfl;rw[e00]at c0 c1 c2 c3;simp[ic]at c0 c1 c2 c3;go_wp2_with fail;go_roundw;case rel=>
        refine⟨3+1,by omega,by omega,rfl,rfl,?_,?_⟩
        ·try rw[HA2.out]
         exact(HQ.out.1.put (px 2) (.int .i64 (1-a*2))).put (py 2) (.int .i64 (1-c*2))
        ·exact(HQ.out.2.setCell (by show w.heap.size<=w.heap.size;omega) _).setCell (by show w.heap.size<=w.heap.size;omega) _
       case measure=>simp[intOf]
      ·have hkb:((k:Int)-2==0)=false:=by rw[beq_eq_false_iff_ne];omega
       have HE:Hid (E2 k (1-a*2) (1-c*2) (2+1)=E2 k (1-a*2) (1-c*2) 2):=by
        show E2 _ _ _ _=_;unfold E2;by_cases q:k<2
        ·rw[if_pos q,if_pos (by omega)]
        ·rw[if_neg q,if_neg (by omega)]
       go_wp2_with fail;go_roundw;case rel=>
        refine⟨3+1,by omega,by omega,rfl,?_,?_,HQ.out.2⟩
        ·first|rfl|(congr 1;omega)|(congr 1;simp;omega)
        ·show At _ _ (ic (E2 k (1-a*2) (1-c*2) (2+1))) _;rw[HE.out];exact HQ.out.1
       case measure=>simp[intOf]
    ·have hy4:y=4:=by omega
     subst hy4;go_wp2_with fail;go_roundw;case rel=>exact⟨0+1,by omega,rfl,rfl,HQ.out⟩
     case measure=>simp[intOf]
  ·have hx4:(1:Nat)<4:=by omega
   obtain⟨w4,rfl⟩:∃w4,w4=wr:=⟨_,rfl⟩
   go_wp2_with fail;go_loopw [4,6] (λkv yv wr=>∃(y:Nat),1+1<=y/\y<=4/\yv=.int .i64 y/\kv=.int .i64 ((k:Int)-((3+(y-1-1):Nat):Int))/\Hid (At wr w.heap.size (ic (E2 k (1-a*2) (1-c*2) (3+(y-1-1)))) tNk/\Below w.heap.size w wr)) (λ_ yv _=>4-(intOf yv).toNat);case atStart=>exact⟨2,by omega,by omega,rfl,rfl,HR.out⟩
   case round=>
    obtain⟨y,hy1,hy2,rfl,rfl,HQ⟩:=hrel;by_cases hlt:y<4
    ·rcases(show y=2\/y=3 by omega)with rfl|rfl
     ·by_cases hk:k=3
      ·subst hk;have c0:=HQ.out.1.cell 0;have c1:=HQ.out.1.cell 1;have c2:=HQ.out.1.cell 2;have c3:=HQ.out.1.cell 3;have cf:=HQ.out.1.free;have hbl:=HQ.out.1.lt;have e00:E2 3 (1-a*2) (1-c*2) 3=[0,0,0,0]:=rfl;rw[e00]at c0 c1 c2 c3;simp[ic]at c0 c1 c2 c3;go_wp2_with fail;go_roundw;case rel=>
        refine⟨2+1,by omega,by omega,rfl,rfl,?_,?_⟩
        ·try rw[HA2.out]
         exact(HQ.out.1.put (px 3) (.int .i64 (1-a*2))).put (py 3) (.int .i64 (1-c*2))
        ·exact(HQ.out.2.setCell (by show w.heap.size<=w.heap.size;omega) _).setCell (by show w.heap.size<=w.heap.size;omega) _
       case measure=>simp[intOf]
      ·have hkb:((k:Int)-3==0)=false:=by rw[beq_eq_false_iff_ne];omega
       have HE:Hid (E2 k (1-a*2) (1-c*2) (3+1)=E2 k (1-a*2) (1-c*2) 3):=by
        show E2 _ _ _ _=_;unfold E2;by_cases q:k<3
        ·rw[if_pos q,if_pos (by omega)]
        ·rw[if_neg q,if_neg (by omega)]
       go_wp2_with fail;go_roundw;case rel=>
        refine⟨2+1,by omega,by omega,rfl,?_,?_,HQ.out.2⟩
        ·first|rfl|(congr 1;omega)|(congr 1;simp;omega)
        ·show At _ _ (ic (E2 k (1-a*2) (1-c*2) (3+1))) _;rw[HE.out];exact HQ.out.1
       case measure=>simp[intOf]
     ·by_cases hk:k=4
      ·subst hk;have c0:=HQ.out.1.cell 0;have c1:=HQ.out.1.cell 1;have c2:=HQ.out.1.cell 2;have c3:=HQ.out.1.cell 3;have cf:=HQ.out.1.free;have hbl:=HQ.out.1.lt;have e00:E2 4 (1-a*2) (1-c*2) 4=[0,0,0,0]:=rfl;rw[e00]at c0 c1 c2 c3;simp[ic]at c0 c1 c2 c3;go_wp2_with fail;go_roundw;case rel=>
        refine⟨3+1,by omega,by omega,rfl,rfl,?_,?_⟩
        ·try rw[HA2.out]
         exact(HQ.out.1.put (px 4) (.int .i64 (1-a*2))).put (py 4) (.int .i64 (1-c*2))
        ·exact(HQ.out.2.setCell (by show w.heap.size<=w.heap.size;omega) _).setCell (by show w.heap.size<=w.heap.size;omega) _
       case measure=>simp[intOf]
      ·have hkb:((k:Int)-4==0)=false:=by rw[beq_eq_false_iff_ne];omega
       have HE:Hid (E2 k (1-a*2) (1-c*2) (4+1)=E2 k (1-a*2) (1-c*2) 4):=by
        show E2 _ _ _ _=_;unfold E2;by_cases q:k<4
        ·rw[if_pos q,if_pos (by omega)]
        ·rw[if_neg q,if_neg (by omega)]
       go_wp2_with fail;go_roundw;case rel=>
        refine⟨3+1,by omega,by omega,rfl,?_,?_,HQ.out.2⟩
        ·first|rfl|(congr 1;omega)|(congr 1;simp;omega)
        ·show At _ _ (ic (E2 k (1-a*2) (1-c*2) (4+1))) _;rw[HE.out];exact HQ.out.1
       case measure=>simp[intOf]
    ·have hy4:y=4:=by omega
     subst hy4;go_wp2_with fail;go_roundw;case rel=>exact⟨1+1,by omega,rfl,rfl,HQ.out⟩
     case measure=>simp[intOf]
  ·have hx4:(2:Nat)<4:=by omega
   obtain⟨w4,rfl⟩:∃w4,w4=wr:=⟨_,rfl⟩
   go_wp2_with fail;go_loopw [4,6] (λkv yv wr=>∃(y:Nat),2+1<=y/\y<=4/\yv=.int .i64 y/\kv=.int .i64 ((k:Int)-((5+(y-2-1):Nat):Int))/\Hid (At wr w.heap.size (ic (E2 k (1-a*2) (1-c*2) (5+(y-2-1)))) tNk/\Below w.heap.size w wr)) (λ_ yv _=>4-(intOf yv).toNat);case atStart=>exact⟨3,by omega,by omega,rfl,rfl,HR.out⟩
   case round=>
    obtain⟨y,hy1,hy2,rfl,rfl,HQ⟩:=hrel;by_cases hlt:y<4
    ·obtain rfl:y=3:=by omega
     by_cases hk:k=5
     ·subst hk;have c0:=HQ.out.1.cell 0;have c1:=HQ.out.1.cell 1;have c2:=HQ.out.1.cell 2;have c3:=HQ.out.1.cell 3;have cf:=HQ.out.1.free;have hbl:=HQ.out.1.lt;have e00:E2 5 (1-a*2) (1-c*2) 5=[0,0,0,0]:=rfl;rw[e00]at c0 c1 c2 c3;simp[ic]at c0 c1 c2 c3;go_wp2_with fail;go_roundw;case rel=>
       refine⟨3+1,by omega,by omega,rfl,rfl,?_,?_⟩
       ·try rw[HA2.out]
        exact(HQ.out.1.put (px 5) (.int .i64 (1-a*2))).put (py 5) (.int .i64 (1-c*2))
       ·exact(HQ.out.2.setCell (by show w.heap.size<=w.heap.size;omega) _).setCell (by show w.heap.size<=w.heap.size;omega) _
      case measure=>simp[intOf]
     ·have hkb:((k:Int)-5==0)=false:=by rw[beq_eq_false_iff_ne];omega
      have HE:Hid (E2 k (1-a*2) (1-c*2) (5+1)=E2 k (1-a*2) (1-c*2) 5):=by
       show E2 _ _ _ _=_;unfold E2;by_cases q:k<5
       ·rw[if_pos q,if_pos (by omega)]
       ·rw[if_neg q,if_neg (by omega)]
      go_wp2_with fail;go_roundw;case rel=>
       refine⟨3+1,by omega,by omega,rfl,?_,?_,HQ.out.2⟩
       ·first|rfl|(congr 1;omega)|(congr 1;simp;omega)
       ·show At _ _ (ic (E2 k (1-a*2) (1-c*2) (5+1))) _;rw[HE.out];exact HQ.out.1
      case measure=>simp[intOf]
    ·have hy4:y=4:=by omega
     subst hy4;go_wp2_with fail;go_roundw;case rel=>exact⟨2+1,by omega,rfl,rfl,HQ.out⟩
     case measure=>simp[intOf]
  ·have hx4:(3:Nat)<4:=by omega
   obtain⟨w4,rfl⟩:∃w4,w4=wr:=⟨_,rfl⟩
   go_wp2_with fail;go_loopw [4,6] (λkv yv wr=>∃(y:Nat),3+1<=y/\y<=4/\yv=.int .i64 y/\kv=.int .i64 ((k:Int)-((6+(y-3-1):Nat):Int))/\Hid (At wr w.heap.size (ic (E2 k (1-a*2) (1-c*2) (6+(y-3-1)))) tNk/\Below w.heap.size w wr)) (λ_ yv _=>4-(intOf yv).toNat);case atStart=>exact⟨4,by omega,by omega,rfl,rfl,HR.out⟩
   case round=>
    obtain⟨y,hy1,hy2,rfl,rfl,HQ⟩:=hrel;have hy4:y=4:=by omega
    subst hy4;go_wp2_with fail;go_roundw;case rel=>exact⟨3+1,by omega,rfl,rfl,HQ.out⟩
    case measure=>simp[intOf]
  ·go_wp2_with fail;go_ret;exact⟨rfl,by rw[HF.out];exact HR.out.1,HR.out.2⟩
def cO(v:List Int):Nat->Nat
 |0=>0
 |i+1=>cO v i+(if AK v i=1\/AK v i= -1 then 1 else 0)
def cT(v:List Int):Nat->Nat
 |0=>0
 |i+1=>cT v i+(if AK v i=2\/AK v i= -2 then 1 else 0)
theorem C0{l:List Int}(h:l.length=4):∃a b c d,l=[a,b,c,d]:=by
 match l,h with
 |[a,b,c,d],_=>exact⟨a,b,c,d,rfl⟩
theorem Jy(x y z:Int):(if(x==y||x==z)=true then 1 else 0:Nat)=if x=y\/x=z then 1 else 0:=by
 simp only[Bool.or_eq_true,beq_iff_eq]
theorem V8{l:List Int}(h:l.length=4):GA l=cO l 4:=by
 obtain⟨a,b,c,d,rfl⟩:=C0 h;simp only[GA,List.countP_cons,List.countP_nil,cO,AK,List.getD_cons_zero,List.getD_cons_succ,Jy];omega
theorem WZ{l:List Int}(h:l.length=4):He l=cT l 4:=by
 obtain⟨a,b,c,d,rfl⟩:=C0 h;simp only[He,List.countP_cons,List.countP_nil,cT,AK,List.getD_cons_zero,List.getD_cons_succ,Jy];omega
def Et(l:List Int):Nat->List Int
 |0=>[0,0,0,0]
 |j+1=>(Et l j).set j ((AK l j).tdiv 2)
theorem T1{l:List Int}(h:l.length=4):Et l 4=CH l:=by
 obtain⟨a,b,c,d,rfl⟩:=C0 h;rfl
theorem Xg(c:Int):(c.tmod 2<0->c/2=c.tdiv 2-1)/\(¬c.tmod 2<0->c/2=c.tdiv 2):=by
 have h:=Int.tmod_def c 2;have t:=ER c;rcases Int.lt_or_le c 0 with e|e
 ·have:=t.2 e;constructor<;>intro _<;>omega
 ·have:=t.1 e;constructor<;>intro _<;>omega
theorem Mn{a b c d:Int}(h:a=c)(k:b=d):Ending.returned (.tuple #[.int .i64 a,.int .i64 b])=.returned (.tuple #[.int .i64 c,.int .i64 d]):=by rw[h,k]
theorem UA(u:Value)(l:List Int)(hl:l.length=4)(hu:AQ w u l)(hv:∀i,i<4-> -2<=AK l i/\AK l i<=2)(c:Int)(hc: -4000000000000000000<=c/\c<=4000000000000000000):
  Calls Tryz.prog 129 #[u,.int .i64 c] w λe w'=>e=.returned (.tuple #[.int .i64 (CS l c).1,.int .i64 (CS l c).2])/\Below w.heap.size w w':=by
 have hmk:∀w,(Instr.makeSlice 32 (.int .i64 4) (.int .i64 4)).run Tryz.prog w=.ok (.slice (some ⟨w.heap.size,0,none⟩) 4 4) (w.alloc (.cells #[.int .i64 0,.int .i64 0,.int .i64 0,.int .i64 0] tNk)):=λ_=>by kernel_rfl
 have HN1:Hid (∀w1,Below w.heap.size w w1->Calls Tryz.prog 98 #[u] w1 λe w'=>e=.returned (.int .i64 (Ar l))/\Below w1.heap.size w1 w'):=λw1 hb=>Fd u l hl (hu.keep hb) (λi hi=>by have:=hv i hi;omega);have HN2:Hid (∀w1,At w1 w.heap.size (ic (Et l 4)) tNk->Calls Tryz.prog 98 #[.slice (some ⟨w.heap.size,0,none⟩) 4 4] w1 λe w'=>e=.returned (.int .i64 (Ar (CH l)))/\Below w1.heap.size w1 w'):=by
  intro w1 h1;rw[T1 hl]at h1;have hh:(CH l).length=4:=by unfold CH;rw[List.length_map];exact hl
  refine Fd _ (CH l) hh (AQ.at_ h1 hh (Nat.le_refl _) (λi hi=>Aa _ _ (by omega))) (λi hi=>?_);have:AK (CH l) i=(AK l i).tdiv 2:=by
   obtain⟨a,b,c,d,rfl⟩:=C0 hl;rcases(show i=0\/i=1\/i=2\/i=3 by omega)with rfl|rfl|rfl|rfl<;>rfl
  rw[this];have:=AW (AK l i);have:=hv i hi;omega
 have HK:Hid (GA l=cO l 4/\He l=cT l 4):=⟨V8 hl,WZ hl⟩
 have hfl:=Xg c;have HFl:Hid (_/\_):=hfl;clear hfl;obtain⟨c0,c1⟩:=hc;have tc:=AW c;obtain⟨au,cu,rfl,hcu,h0⟩:=hu;obtain⟨p,off,rfl,hp,hcell⟩:=h0 (by omega);have HC:Hid (∀i,i<4->w.cell? ⟨p,off+i,none⟩=some (.int .i64 (AK l i))):=λi hi=>hcell i (by omega);have HL:Hid (l.length=4):=hl;rw[hl]at HN1|-;have HA:Hid (At (w.alloc (.cells #[.int .i64 0,.int .i64 0,.int .i64 0,.int .i64 0] tNk)) w.heap.size (ic [0,0,0,0]) tNk):=At.new _ _ _;have HB:Hid (∀o,Below w.heap.size w (w.alloc o)):=λo=>(Below.refl _ _).alloc (Nat.le_refl _) _;clear h0 hcell hcu hl;go_enter Tryz.func129,Tryz.ntmps129;go_wp2_with fail;go_loopw [6,7,8] (λov tv i wr=>∃(j:Nat)(o t:Int),j<=4/\ov=.int .i64 o/\tv=.int .i64 t/\i=.int .i64 j/\wr=w/\Hid (o=((cO l j:Nat):Int)/\t=((cT l j:Nat):Int))/\0<=o/\o<=(j:Int)/\0<=t/\t<=(j:Int)) (λ_ _ i _=>4-(intOf i).toNat);case atStart=>exact⟨0,0,0,by omega,rfl,rfl,rfl,rfl,⟨rfl,rfl⟩,by omega,by omega,by omega,by omega⟩
 case round=>
  obtain⟨j,o,t,hj,rfl,rfl,rfl,hw,HR,o0,o1,t0,t1⟩:=hrel;replace hw:=hw.symm;subst hw;by_cases hlt:j<4
  ·have hji:(j:Int)<4:=by omega
   have cx:=HC.out j hlt;have hx:=hv j hlt;obtain⟨a,ha⟩:∃a,a=AK l j:=⟨_,rfl⟩
   have HG:Hid (AK l j=a):=ha.symm;rw[<-ha]at cx hx;clear ha;rcases(show a= -2\/a= -1\/a=0\/a=1\/a=2 by omega)with e|e|e|e|e
   ·subst e;have HS:Hid (cO l (j+1)=cO l j+0/\cT l (j+1)=cT l j+1):=by
     refine⟨?_,?_⟩
     ·show cO l j+_=_;rw[HG.out];rfl
     ·show cT l j+_=_;rw[HG.out];rfl
    go_wp2_with fail;go_roundw;case rel=>exact⟨j+1,o+0,t+1,by omega,by first|rfl|(congr 1;omega),by first|rfl|(congr 1;omega),by go_num,by simp,⟨by rw[HS.out.1,HR.out.1];simp,by rw[HS.out.2,HR.out.2];simp⟩,by omega,by omega,by omega,by omega⟩
    case measure=>simp[intOf];omega
   ·subst e;have HS:Hid (cO l (j+1)=cO l j+1/\cT l (j+1)=cT l j+0):=by
     refine⟨?_,?_⟩
     ·show cO l j+_=_;rw[HG.out];rfl
     ·show cT l j+_=_;rw[HG.out];rfl
    go_wp2_with fail;go_roundw;case rel=>exact⟨j+1,o+1,t+0,by omega,by first|rfl|(congr 1;omega),by first|rfl|(congr 1;omega),by go_num,by simp,⟨by rw[HS.out.1,HR.out.1];simp,by rw[HS.out.2,HR.out.2];simp⟩,by omega,by omega,by omega,by omega⟩
    case measure=>simp[intOf];omega
   ·subst e;have HS:Hid (cO l (j+1)=cO l j+0/\cT l (j+1)=cT l j+0):=by
     refine⟨?_,?_⟩
     ·show cO l j+_=_;rw[HG.out];rfl
     ·show cT l j+_=_;rw[HG.out];rfl
    go_wp2_with fail;go_roundw;case rel=>exact⟨j+1,o+0,t+0,by omega,by first|rfl|(congr 1;omega),by first|rfl|(congr 1;omega),by go_num,by simp,⟨by rw[HS.out.1,HR.out.1];simp,by rw[HS.out.2,HR.out.2];simp⟩,by omega,by omega,by omega,by omega⟩
    case measure=>simp[intOf];omega
   ·subst e;have HS:Hid (cO l (j+1)=cO l j+1/\cT l (j+1)=cT l j+0):=by
     refine⟨?_,?_⟩
     ·show cO l j+_=_;rw[HG.out];rfl
     ·show cT l j+_=_;rw[HG.out];rfl
    go_wp2_with fail;go_roundw;case rel=>exact⟨j+1,o+1,t+0,by omega,by first|rfl|(congr 1;omega),by first|rfl|(congr 1;omega),by go_num,by simp,⟨by rw[HS.out.1,HR.out.1];simp,by rw[HS.out.2,HR.out.2];simp⟩,by omega,by omega,by omega,by omega⟩
    case measure=>simp[intOf];omega
   ·subst e;have HS:Hid (cO l (j+1)=cO l j+0/\cT l (j+1)=cT l j+1):=by
     refine⟨?_,?_⟩
     ·show cO l j+_=_;rw[HG.out];rfl
     ·show cT l j+_=_;rw[HG.out];rfl
    go_wp2_with fail;go_roundw;case rel=>exact⟨j+1,o+0,t+1,by omega,by first|rfl|(congr 1;omega),by first|rfl|(congr 1;omega),by go_num,by simp,⟨by rw[HS.out.1,HR.out.1];simp,by rw[HS.out.2,HR.out.2];simp⟩,by omega,by omega,by omega,by omega⟩
    case measure=>simp[intOf];omega
  ·have hj4:j=4:=by omega
   subst hj4;have HO:Hid (o=((GA l:Nat):Int)/\t=((He l:Nat):Int)):=⟨by rw[HK.out.1];exact HR.out.1,by rw[HK.out.2];exact HR.out.2⟩
   have HKd:Hid (kd l=if GA l=0/\He l=0 then 1 else if GA l=0/\He l=1 then 2 else if He l=0/\0<GA l/\GA l<3 then 3 else 0):=rfl;have HFo:Hid (CS l c=if kd l=1/\c<0 then(-2,0)else if kd l=2 then(Ar (CH l),c/2)else if kd l=3 then(Ar l,c)else(-1,0)):=rfl;clear HR HK;by_cases eo:o=0
   ·by_cases et:t=0
    ·have hk:kd l=1:=by rw[HKd.out,if_pos (by have:=HO.out;omega)]
     by_cases ec:c<0
     ·have HF:Hid (CS l c=(-2,0)):=by show CS l c=_;rw[HFo.out,if_pos ⟨hk,ec⟩]
      subst eo et;clear hk HKd HFo HO;go_wp2_with fail
      go_ret2
      exact⟨by rw[HF.out];rfl,Below.refl _ _⟩
     ·have HF:Hid (CS l c=(-1,0)):=by show CS l c=_;rw[HFo.out,if_neg (λz=>ec z.2),hk,if_neg (by decide),if_neg (by decide)]
      subst eo et;clear hk HKd HFo HO;go_wp2_with fail
      go_ret2
      exact⟨by rw[HF.out];rfl,Below.refl _ _⟩
    ·by_cases et1:t=1
     ·have hk:kd l=2:=by rw[HKd.out,if_neg (by have:=HO.out;omega),if_pos (by have:=HO.out;omega)]
      have HF:Hid (CS l c=(Ar (CH l),c/2)):=by show CS l c=_;rw[HFo.out,hk,if_neg (λz=>absurd z.1 (by decide)),if_pos rfl]
      subst eo et1;clear hk HKd HFo HO et;go_wp2_with fail;go_loopw [10] (λi wr=>∃(j:Nat),j<=4/\i=.int .i64 j/\Hid (At wr w.heap.size (ic (Et l j)) tNk/\Below w.heap.size w wr)) (λi _=>4-(intOf i).toNat);case atStart=>exact⟨0,by omega,rfl,HA.out,HB.out _⟩
      case round=>
       obtain⟨k,hk,rfl,HQ⟩:=hrel;have hlen:(Et l k).length=4:=by
        rcases(show k=0\/k=1\/k=2\/k=3\/k=4 by omega)with rfl|rfl|rfl|rfl|rfl<;>rfl
       rcases(show k=0\/k=1\/k=2\/k=3\/k=4 by omega)with rfl|rfl|rfl|rfl|rfl
       ·have c0:=HQ.out.1.cell 0;rw[Aa _ _ (by rw[hlen];omega)]at c0;have cf:=HQ.out.1.free;have hbl:=HQ.out.1.lt;have a0:=(HQ.out.2.cell (B:=w.heap.size) (p:=⟨p,off+0,none⟩) hp).trans (HC.out 0 (by omega));have hx:=hv 0 (by omega);have ta:=AW (AK l 0);have HP:Hid (Et l (0+1)=(Et l 0).set 0 ((AK l 0).tdiv 2)):=rfl;try rw[Nat.add_zero]at a0
        generalize AK l 0=x at *;generalize Et l 0=y at *;go_wp2_with fail;go_roundw;case rel=>
         refine⟨0+1,by omega,rfl,?_,HQ.out.2.setCell (by show w.heap.size<=w.heap.size;omega) _⟩;rw[HP.out,<-Be];exact HQ.out.1.put 0 _
        case measure=>simp[intOf]
       ·have c1:=HQ.out.1.cell 1;rw[Aa _ _ (by rw[hlen];omega)]at c1;have cf:=HQ.out.1.free;have hbl:=HQ.out.1.lt;have a1:=(HQ.out.2.cell (B:=w.heap.size) (p:=⟨p,off+1,none⟩) hp).trans (HC.out 1 (by omega));have hx:=hv 1 (by omega);have ta:=AW (AK l 1);have HP:Hid (Et l (1+1)=(Et l 1).set 1 ((AK l 1).tdiv 2)):=rfl;try rw[Nat.add_zero]at a1
        generalize AK l 1=x at *;generalize Et l 1=y at *;go_wp2_with fail;go_roundw;case rel=>
         refine⟨1+1,by omega,rfl,?_,HQ.out.2.setCell (by show w.heap.size<=w.heap.size;omega) _⟩;rw[HP.out,<-Be];exact HQ.out.1.put 1 _
        case measure=>simp[intOf]
       ·have c2:=HQ.out.1.cell 2;rw[Aa _ _ (by rw[hlen];omega)]at c2;have cf:=HQ.out.1.free;have hbl:=HQ.out.1.lt;have a2:=(HQ.out.2.cell (B:=w.heap.size) (p:=⟨p,off+2,none⟩) hp).trans (HC.out 2 (by omega));have hx:=hv 2 (by omega);have ta:=AW (AK l 2);have HP:Hid (Et l (2+1)=(Et l 2).set 2 ((AK l 2).tdiv 2)):=rfl;try rw[Nat.add_zero]at a2
        generalize AK l 2=x at *;generalize Et l 2=y at *;go_wp2_with fail;go_roundw;case rel=>
         refine⟨2+1,by omega,rfl,?_,HQ.out.2.setCell (by show w.heap.size<=w.heap.size;omega) _⟩;rw[HP.out,<-Be];exact HQ.out.1.put 2 _
        case measure=>simp[intOf]
       ·have c3:=HQ.out.1.cell 3;rw[Aa _ _ (by rw[hlen];omega)]at c3;have cf:=HQ.out.1.free;have hbl:=HQ.out.1.lt;have a3:=(HQ.out.2.cell (B:=w.heap.size) (p:=⟨p,off+3,none⟩) hp).trans (HC.out 3 (by omega));have hx:=hv 3 (by omega);have ta:=AW (AK l 3);have HP:Hid (Et l (3+1)=(Et l 3).set 3 ((AK l 3).tdiv 2)):=rfl;try rw[Nat.add_zero]at a3
        generalize AK l 3=x at *;generalize Et l 3=y at *;go_wp2_with fail;go_roundw;case rel=>
         refine⟨3+1,by omega,rfl,?_,HQ.out.2.setCell (by show w.heap.size<=w.heap.size;omega) _⟩;rw[HP.out,<-Be];exact HQ.out.1.put 3 _
        case measure=>simp[intOf]
       ·clear hlen;go_wp2_with fail;refine(HN2.out _ HQ.out.1).mono ?_;rintro e w3 ⟨rfl,hb3⟩;have H3:Hid (Below w.heap.size w w3):=HQ.out.2.trans (hb3.mono HQ.out.2.size);clear hb3;by_cases er:c.tmod 2<0
        ·have HG:Hid (c/2=c.tdiv 2-1):=HFl.out.1 er;go_wp2_with fail
         go_ret2
         exact⟨by rw[HF.out];exact Mn rfl (by show _=c/2;rw[HG.out]),H3.out⟩
        ·have HG:Hid (c/2=c.tdiv 2):=HFl.out.2 (by omega);go_wp2_with fail
         go_ret2
         exact⟨by rw[HF.out];exact Mn rfl (by show _=c/2;rw[HG.out]),H3.out⟩
     ·have hk:kd l=0:=by rw[HKd.out,if_neg (by have:=HO.out;omega),if_neg (by have:=HO.out;omega),if_neg (by have:=HO.out;omega)]
      have HF:Hid (CS l c=(-1,0)):=by show CS l c=_;rw[HFo.out,hk,if_neg (λz=>absurd z.1 (by decide)),if_neg (by decide),if_neg (by decide)]
      have b1:(t==0)=false:=by simpa using et
      have b2:(t==1)=false:=by simpa using et1
      subst eo;clear hk HKd HFo HO et et1;go_wp2_with fail
      go_ret2
      exact⟨by rw[HF.out];rfl,Below.refl _ _⟩
   ·have b0:(o==0)=false:=by simpa using eo
    by_cases et:t=0
    ·by_cases e3:o<3
     ·have hk:kd l=3:=by rw[HKd.out,if_neg (by have:=HO.out;omega),if_neg (by have:=HO.out;omega),if_pos (by have:=HO.out;omega)]
      have HF:Hid (CS l c=(Ar l,c)):=by show CS l c=_;rw[HFo.out,hk,if_neg (λz=>absurd z.1 (by decide)),if_neg (by decide),if_pos rfl]
      have hpos:0<o:=by omega
      subst et;clear hk HKd HFo HO eo;go_wp2_with fail;refine(HN1.out _ (Below.refl _ _)).mono ?_;rintro e w3 ⟨rfl,hb3⟩;go_wp2_with fail
      go_ret2
      exact⟨by rw[HF.out];exact Mn rfl rfl,hb3⟩
     ·have hk:kd l=0:=by rw[HKd.out,if_neg (by have:=HO.out;omega),if_neg (by have:=HO.out;omega),if_neg (by have:=HO.out;omega)]
      have HF:Hid (CS l c=(-1,0)):=by show CS l c=_;rw[HFo.out,hk,if_neg (λz=>absurd z.1 (by decide)),if_neg (by decide),if_neg (by decide)]
      have hpos:0<o:=by omega
      subst et;clear hk HKd HFo HO eo;go_wp2_with fail
      go_ret2
      exact⟨by rw[HF.out];rfl,Below.refl _ _⟩
    ·have hk:kd l=0:=by rw[HKd.out,if_neg (by have:=HO.out;omega),if_neg (by have:=HO.out;omega),if_neg (by have:=HO.out;omega)]
     have HF:Hid (CS l c=(-1,0)):=by show CS l c=_;rw[HFo.out,hk,if_neg (λz=>absurd z.1 (by decide)),if_neg (by decide),if_neg (by decide)]
     have b1:(t==0)=false:=by simpa using et
     clear hk HKd HFo HO eo et;go_wp2_with fail
     go_ret2
     exact⟨by rw[HF.out];rfl,Below.refl _ _⟩
end Go.Proofs.YtffajooegiempaaGreatDoor
