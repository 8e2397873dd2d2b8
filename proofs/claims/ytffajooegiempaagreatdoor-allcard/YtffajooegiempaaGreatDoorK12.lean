import Derived.Test.YtffajooegiempaaGreatDoorK11
set_option maxRecDepth 100000
set_option maxHeartbeats 6400000
namespace Go.Proofs.YtffajooegiempaaGreatDoor
open Go.RowKit Go.Proofs.Tryz
variable {C:Nat->Int}
theorem YN(M:Nat->Int)(t f:Nat)(n:Int):∀k a,DO M t f n k a=if a<k then pl (M (Ak t f (a/8)*8+Ak t f (a%8))) (BK t n (a/8)+BK t n (a%8))else M a:=by
 intro k;induction k with
 |zero=>intro a;rw[a_ (by omega)];rfl
 |succ k ih=>
  intro a;rw[DO];unfold Bw;by_cases e:a=k
  .rw[bA e,bA (by omega),e]
  .rw[a_ e,ih];by_cases q:a<k
   .rw[bA q,bA (by omega)]
   .rw[a_ q,a_ (by omega)]
theorem Hd(M:Nat->Int)(t f:Nat)(n:Int){i j:Nat}(hi:i<8)(l:j<8):DO M t f n 64 (i*8+j)=pl (M (Ak t f i*8+Ak t f j)) (BK t n i+BK t n j):=by
 rw[YN,bA (by omega),show(i*8+j)/8=i by omega,show(i*8+j)%8=j by omega]
theorem Qt:∀t:Nat,t<4->∀f,f<8->∀i,i<8->Ak t f (opp i)=opp (Ak t f i):=by decide +kernel
theorem QD(t:Nat)(n:Int)(i:Nat):BK t n (opp i)= -BK t n i:=by
 unfold BK opp;by_cases e:i%2=0
 .rw[bA e,a_ (show¬i+1=2*t by omega)];by_cases q:i=2*t
  .rw[bA (by omega),bA q]
  .rw[a_ (by omega),a_ q,a_ (show¬i=2*t+1 by omega)];rfl
 .rw[a_ e];by_cases q:i=2*t+1
  .rw[bA (show i-1=2*t by omega),a_ (show¬i=2*t by omega),bA q];omega
  .rw[a_ (show¬i-1=2*t by omega),a_ (show¬i-1=2*t+1 by omega),a_ (show¬i=2*t by omega),a_ q];rfl
theorem N6{x a:Int}(hx:x=NB\/x<=60000)(ha: -2000<=a/\a<=2000):(x=NB->pl x a=NB)/\(x≠NB->pl x a=x+a/\pl x a≠NB):=by
 unfold pl;constructor
 .intro h;rw[bA (.inl h)]
 .intro h;have:=hx.resolve_left h;have e:a≠NB:=by unfold NB;omega
  rw[a_ (λz=>z.elim h e)];exact⟨rfl,by unfold NB;omega⟩
theorem Uj(h:TC C)(hb:Bd 56000 C){t f:Nat}(L:t<4)(hf:f<8){n:Int}(hn: -999<=n/\n<=999):TC (DO C t f n 64)/\Bd 60000 (DO C t f n 64):=by
 have aa:Bd 60000 C:=hb.mono (by decide);have v:∀{i:Nat},i<8->Ak t f i<8:=λhi=>Cv hf hi;have hr:=λi=>Cm (t:=t) hn i;have P:∀{i j:Nat},i<8->j<8->(C (Ak t f i*8+Ak t f j)=NB->DO C t f n 64 (i*8+j)=NB)/\(C (Ak t f i*8+Ak t f j)≠NB->DO C t f n 64 (i*8+j)=C (Ak t f i*8+Ak t f j)+(BK t n i+BK t n j)/\DO C t f n 64 (i*8+j)≠NB):=by
  intro i j hi l;rw[Hd C t f n hi l];have a:=hr i;have b:=hr j;have:=v hi;have:=v l;exact N6 (aa _ (by omega)) ⟨by omega,by omega⟩
 have Q:∀{i j:Nat},i<8->j<8->DO C t f n 64 (i*8+j)≠NB->C (Ak t f i*8+Ak t f j)≠NB:=λhi l q z=>q ((P hi l).1 z);have top:Bd 60000 (DO C t f n 64):=by
  intro a ha;rw[show a=a/8*8+a%8 by omega];have hi:a/8<8:=by omega
  have l:a%8<8:=by omega
  by_cases q:DO C t f n 64 (a/8*8+a%8)=NB
  .exact .inl q
  .have z:=Q hi l q;have e:=((P hi l).2 z).1;have:=v hi;have:=v l;have:=(hb _ (show Ak t f (a/8)*8+Ak t f (a%8)<64 by omega)).resolve_left z;have x:=hr (a/8);have y:=hr (a%8);exact .inr (by omega)
 refine⟨⟨?_,?_,?_,?_,?_,top.mono (by decide)⟩,top⟩
 .intro k hk i j hi l;by_cases o:DO C t f n 64 (i*8+opp k)=NB
  .exact .inl o
  .by_cases r:DO C t f n 64 (k*8+j)=NB
   .exact .inr (.inl r)
   .have S:=Q hi (Ah hk) o;have G:=Q hk l r;have e1:=((P hi (Ah hk)).2 S).1;have e2:=((P hk l).2 G).1;rw[Qt t L f hf k hk]at S e1;rw[QD]at e1;obtain⟨t1,t2⟩:=((h.tri (Ak t f k) (v hk) (Ak t f i) (Ak t f j) (v hi) (v l)).resolve_left S).resolve_left G;obtain⟨e3,e4⟩:=(P hi l).2 t1;exact .inr (.inr ⟨e4,by omega⟩)
 .intro i hi;have z:C (Ak t f i*8+Ak t f (opp i))=0:=by rw[Qt t L f hf i hi];exact h.zero _ (v hi)
  have e:=((P hi (Ah hi)).2 (by rw[z];decide)).1;rw[QD]at e;omega
 .intro i hi;by_cases q:DO C t f n 64 (i*8+i)=NB
  .exact .inl q
  .have z:=Q hi hi q;have e:=((P hi hi).2 z).1;have:=(h.even _ (v hi)).resolve_left z;exact .inr (by omega)
 .intro i j hi l o r;have S:=Q hi hi o;have G:=Q l l r;have e1:=((P hi hi).2 S).1;have e2:=((P l l).2 G).1;obtain⟨t1,t2⟩:=h.half _ _ (v hi) (v l) S G;obtain⟨e3,e4⟩:=(P hi l).2 t1;exact⟨e4,by omega⟩
 .intro i j hi l;rw[Hd C t f n hi l,Hd C t f n l hi,h.sym _ _ (v hi) (v l),Int.add_comm]
def uF(C:Nat->Int)(t:Nat)(lo hi:Int)(i:Nat):Int:=if i=2*t then hi else if i=2*t+1 then -lo else mo C i i
abbrev C6(t i:Nat):Prop:=i=2*t\/i=2*t+1
def Po(C:Nat->Int)(t:Nat)(lo hi:Int)(i j:Nat):Int:=
 if C6 t i then(if C6 t j then(if i=j then(if i=2*t then 2*hi else 2* -lo)else C (i*8+j))else pl (uF C t lo hi i) (mo C j j))
 else if C6 t j then pl (uF C t lo hi j) (mo C i i)else C (i*8+j)
theorem Qj(M:Nat->Int)(p q:Nat)(n:Int){i j:Nat}(_hi:i<8)(l:j<8)(hp:p<8)(hq:q<8):lm M p q n (i*8+j)=if(i=p/\j=q)\/(i=q/\j=p)then(if p=q/\n≠NB then 2*n else n)else M (i*8+j):=by
 unfold lm;generalize(if p=q/\n≠NB then 2*n else n)=y;unfold Bw;by_cases o:i*8+j=q*8+p
 .rw[bA o,bA (.inr (by omega))]
 .rw[a_ o];by_cases r:i*8+j=p*8+q
  .rw[bA r,bA (.inl (by omega))]
  .rw[a_ r,a_ (by omega)]
theorem Qe{b c:Prop}[Decidable b][Decidable c]{x x' y y':Int}(h:b↔c)(hx:x=x')(hy:y=y'):(if b then x else y)=if c then x' else y':=by
 by_cases q:c
 .rw[bA (h.2 q),bA q,hx]
 .rw[a_ (λz=>q (h.1 z)),a_ q,hy]
theorem YJ(M:Nat->Int){t:Nat}(L:t<4)(lo d:Int):∀n,n<=8->∀i j,i<8->j<8->E3 M t lo d n (i*8+j)=
  if C6 t i/\¬C6 t j/\j<n then pl (uF M t lo d i) (mo M j j)else if C6 t j/\¬C6 t i/\i<n then pl (uF M t lo d j) (mo M i i)else M (i*8+j):=by
 intro n;induction n with
 |zero=>intro _ i j _ _;rw[a_ (by omega),a_ (by omega)];rfl
 |succ n ih=>
  intro hn i j hi l;rw[E3];by_cases c:n=2*t\/n=2*t+1
  .rw[bA c,ih (by omega) i j hi l];exact Qe ⟨λh=>⟨h.1,h.2.1,by omega⟩,λh=>⟨h.1,h.2.1,by omega⟩⟩ rfl (Qe ⟨λh=>⟨h.1,h.2.1,by omega⟩,λh=>⟨h.1,h.2.1,by omega⟩⟩ rfl rfl)
  .rw[a_ c,KL (Mr M L lo d n (by omega) n (by omega) (λz=>c (.inl z)) (λz=>c (.inr z)))];rw[Qj _ _ _ _ hi l (by omega) (by omega),Qj _ _ _ _ hi l (by omega) (by omega),ih (by omega) i j hi l];rw[a_ (show¬(2*t+1=n/\pl (-lo) (mo M n n)≠NB) by omega),a_ (show¬(2*t=n/\pl d (mo M n n)≠NB) by omega)];by_cases E:(i=2*t+1/\j=n)\/(i=n/\j=2*t+1)
   .rw[bA E];rcases E with⟨T,U⟩|⟨T,U⟩
    .rw[bA (show C6 t i/\¬C6 t j/\j<n+1 from⟨.inr T,by omega,by omega⟩),U];unfold uF;rw[a_ (show¬i=2*t by omega),bA T]
    .rw[a_ (show¬(C6 t i/\¬C6 t j/\j<n+1) by omega),bA (show C6 t j/\¬C6 t i/\i<n+1 from⟨.inr U,by omega,by omega⟩),T];unfold uF;rw[a_ (show¬j=2*t by omega),bA U]
   .rw[a_ E];by_cases B:(i=2*t/\j=n)\/(i=n/\j=2*t)
    .rw[bA B];rcases B with⟨T,U⟩|⟨T,U⟩
     .rw[bA (show C6 t i/\¬C6 t j/\j<n+1 from⟨.inl T,by omega,by omega⟩),U];unfold uF;rw[bA T]
     .rw[a_ (show¬(C6 t i/\¬C6 t j/\j<n+1) by omega),bA (show C6 t j/\¬C6 t i/\i<n+1 from⟨.inl U,by omega,by omega⟩),T];unfold uF;rw[bA U]
    .rw[a_ B];exact Qe ⟨λh=>⟨h.1,h.2.1,by omega⟩,λh=>⟨h.1,h.2.1,by omega⟩⟩ rfl (Qe ⟨λh=>⟨h.1,h.2.1,by omega⟩,λh=>⟨h.1,h.2.1,by omega⟩⟩ rfl rfl)
theorem Dx(M:Nat->Int){t:Nat}(L:t<4){lo hi:Int}(K: -999<=lo/\lo<=999)(J: -999<=hi/\hi<=999){i j:Nat}(d:i<8)(l:j<8):FI M t lo hi (i*8+j)=Po M t lo hi i j:=by
 have n1:hi≠NB:=by unfold NB;omega
 have Y: -lo≠NB:=by unfold NB;omega
 unfold FI Po;rw[Qj _ _ _ _ d l (by omega) (by omega),Qj _ _ _ _ d l (by omega) (by omega),YJ M L lo hi 8 (bB _) i j d l,bA (show 2*t+1=2*t+1/\ -lo≠NB from⟨rfl,Y⟩),bA (show 2*t=2*t/\hi≠NB from⟨rfl,n1⟩)];by_cases E:i=2*t+1/\j=2*t+1
 .rw[bA (.inl E),bA (show C6 t i from .inr E.1),bA (show C6 t j from .inr E.2),bA (show i=j by omega),a_ (show¬i=2*t by omega)]
 .rw[a_ (show¬((i=2*t+1/\j=2*t+1)\/(i=2*t+1/\j=2*t+1)) by omega)];by_cases B:i=2*t/\j=2*t
  .rw[bA (.inl B),bA (show i=2*t\/i=2*t+1 by omega),bA (show j=2*t\/j=2*t+1 by omega),bA (show i=j by omega),bA B.1]
  .rw[a_ (show¬((i=2*t/\j=2*t)\/(i=2*t/\j=2*t)) by omega)];by_cases o:i=2*t\/i=2*t+1
   .rw[bA o];by_cases r:j=2*t\/j=2*t+1
    .rw[bA r,a_ (show¬i=j by omega),a_ (λz=>z.2.1 r),a_ (λz=>z.2.1 o)]
    .rw[a_ r,bA ⟨o,r,l⟩]
   .rw[a_ o,a_ (λz=>o z.1)];by_cases r:j=2*t\/j=2*t+1
    .rw[bA r,bA ⟨r,o,d⟩]
    .rw[a_ r,a_ (λz=>r z.1)]
theorem Lg(h:TC C){j:Nat}(l:j<8):(C (j*8+j)=NB->mo C j j=NB)/\(C (j*8+j)≠NB->2*mo C j j=C (j*8+j)/\mo C j j≠NB):=by
 unfold mo;constructor
 .intro q;rw[a_ (λz=>z.2 q),q]
 .intro q;rw[bA ⟨rfl,q⟩];have e:=EF ((h.even j l).resolve_left q);have:=(h.top (j*8+j) (by omega)).resolve_left q;exact⟨by omega,by unfold NB;omega⟩
theorem Ja(t i:Nat):C6 t (opp i)↔C6 t i:=by
 unfold C6 opp;split<;>omega
theorem FN{t i j:Nat}(hi:C6 t i)(l:C6 t j):j=i\/j=opp i:=by
 unfold C6 opp at *;split<;>omega
theorem QI(h:TC C)(hb:Bd 56000 C){t:Nat}(L:t<4){lo hi:Int}(K: -999<=lo/\lo<=999)(J: -999<=hi/\hi<=999)(ab:lo<=hi):TC (FI C t lo hi)/\Bd 60000 (FI C t lo hi):=by
 have u0:∀{i:Nat},C6 t i->0<=uF C t lo hi i+uF C t lo hi (opp i)/\ -999<=uF C t lo hi i/\uF C t lo hi i<=999:=by
  intro i q;rcases q with q|q
  .have e:opp i=2*t+1:=by unfold opp;rw[bA (by omega)];omega
   rw[e];unfold uF;rw[bA q,a_ (show¬2*t+1=2*t by omega),bA rfl];omega
  .have e:opp i=2*t:=by unfold opp;rw[a_ (by omega)];omega
   rw[e];unfold uF;rw[a_ (show¬i=2*t by omega),bA q,bA rfl];omega
 have H:∀{i j:Nat},i<8->j<8->C6 t i->j=i->FI C t lo hi (i*8+j)=2*uF C t lo hi i:=by
  intro i j d l q e;subst e;rw[Dx C L K J d l];unfold Po uF;rw[bA q,bA q,bA rfl];by_cases z:j=2*t
  .rw[bA z,bA z]
  .rw[a_ z,a_ z,bA (q.resolve_left z)]
 have I:∀{i j:Nat},i<8->j<8->C6 t i->j=opp i->FI C t lo hi (i*8+j)=0:=by
  intro i j d l q e;subst e;rw[Dx C L K J d l];unfold Po;rw[bA q,bA ((Ja t i).2 q),a_ (λz=>KP i z.symm)];exact h.zero i d
 have w:∀{i j:Nat},i<8->j<8->C6 t i->¬C6 t j->(C (j*8+j)=NB->FI C t lo hi (i*8+j)=NB/\FI C t lo hi (j*8+i)=NB)/\(C (j*8+j)≠NB->FI C t lo hi (i*8+j)=uF C t lo hi i+mo C j j/\FI C t lo hi (i*8+j)≠NB/\FI C t lo hi (j*8+i)=uF C t lo hi i+mo C j j/\FI C t lo hi (j*8+i)≠NB):=by
  intro i j d l o r;have m:=Lg h l;have u:=u0 o;have e1:FI C t lo hi (i*8+j)=pl (uF C t lo hi i) (mo C j j):=by
   rw[Dx C L K J d l];unfold Po;rw[bA o,a_ r]
  have e2:FI C t lo hi (j*8+i)=pl (uF C t lo hi i) (mo C j j):=by
   rw[Dx C L K J l d];unfold Po;rw[a_ r,bA o]
  rw[e1,e2];unfold pl;constructor
  .intro z;rw[bA (.inr (m.1 z))];exact⟨rfl,rfl⟩
  .intro z;obtain⟨m1,X⟩:=m.2 z;have:=(hb (j*8+j) (by omega)).resolve_left z;have n1:uF C t lo hi i≠NB:=by unfold NB;omega
   rw[a_ (λy=>y.elim n1 X)];have Y:uF C t lo hi i+mo C j j≠NB:=by unfold NB;omega
   exact⟨rfl,Y,rfl,Y⟩
 have D:∀{i j:Nat},i<8->j<8->¬C6 t i->¬C6 t j->FI C t lo hi (i*8+j)=C (i*8+j):=by
  intro i j d l o r;rw[Dx C L K J d l];unfold Po;rw[a_ o,a_ r]
 have R:=λ{j:Nat} (l:j<8)=>Lg h l;generalize hN:FI C t lo hi=N at *;clear hN;have Z:∀x:Int,x<=200000->x≠NB:=λx hx=>by unfold NB;omega
 have top:Bd 60000 N:=by
  intro a ha;rw[show a=a/8*8+a%8 by omega];have d:a/8<8:=by omega
  have l:a%8<8:=by omega
  generalize a/8=i at *;generalize a%8=j at *;by_cases o:C6 t i
  .by_cases r:C6 t j
   .rcases FN o r with e|e
    .rw[H d l o e];have:=u0 o;exact .inr (by omega)
    .rw[I d l o e];exact .inr (by decide)
   .by_cases z:C (j*8+j)=NB
    .exact .inl ((w d l o r).1 z).1
    .have:=(hb (j*8+j) (by omega)).resolve_left z;have m:=(R l).2 z;have:=u0 o;have g:=((w d l o r).2 z).1;exact .inr (by omega)
  .by_cases r:C6 t j
   .by_cases z:C (i*8+i)=NB
    .exact .inl ((w l d r o).1 z).2
    .have:=(hb (i*8+i) (by omega)).resolve_left z;have m:=(R d).2 z;have:=u0 r;have g:=((w l d r o).2 z).2.2.1;exact .inr (by omega)
   .rw[D d l o r];exact(hb _ (by omega)).imp id (λz=>by omega)
 have sym:VA N:=by
  intro i j d l;by_cases o:C6 t i
  .by_cases r:C6 t j
   .rcases FN o r with e|e
    .rw[e]
    .rw[I d l o e,I l d r (by rw[e,CL i d])]
   .by_cases z:C (j*8+j)=NB
    .have g:=(w d l o r).1 z;rw[g.1,g.2]
    .have g:=(w d l o r).2 z;rw[g.1,g.2.2.1]
  .by_cases r:C6 t j
   .by_cases z:C (i*8+i)=NB
    .have g:=(w l d r o).1 z;rw[g.1,g.2]
    .have g:=(w l d r o).2 z;rw[g.1,g.2.2.1]
   .rw[D d l o r,D l d r o];exact h.sym i j d l
 refine⟨⟨?_,λi d=>?_,λi d=>?_,λi j d l S G=>?_,sym,top.mono (by decide)⟩,top⟩
 .intro k hk i j d l;have v:=Ah hk;by_cases A:C6 t k
  .have V:=(Ja t k).2 A;have uk:=u0 A;by_cases o:C6 t i
   .by_cases r:C6 t j
    .right;right
     have ui:=u0 o;rcases FN A o with e1|e1
     .have E:=I d v o (by rw[e1]);rcases FN A r with e2|e2
      .have B:=H hk l A e2;have F:=H d l o (by rw[e1,e2]);rw[E,B,F,e1];exact⟨Z _ (by omega),by omega⟩
      .have B:=I hk l A e2;have F:=I d l o (by rw[e1,e2]);rw[E,B,F];exact⟨by decide,by omega⟩
     .have E:=H d v o (by rw[e1]);rcases FN A r with e2|e2
      .have B:=H hk l A e2;have F:=I d l o (by rw[e1,e2,CL k hk]);rw[E,B,F,e1];exact⟨by decide,by omega⟩
      .have B:=I hk l A e2;have F:=H d l o (by rw[e1,e2]);rw[E,B,F];exact⟨Z _ (by omega),by omega⟩
    .by_cases z:C (j*8+j)=NB
     .exact .inr (.inl ((w hk l A r).1 z).1)
     .right;right
      have B:=(w hk l A r).2 z;have F:=(w d l o r).2 z;refine⟨F.2.1,?_⟩;rw[B.1,F.1];rcases FN A o with e1|e1
      .rw[I d v o (by rw[e1]),e1];omega
      .rw[H d v o (by rw[e1]),e1];omega
   .by_cases z:C (i*8+i)=NB
    .exact .inl ((w v d V o).1 z).2
    .have E:=(w v d V o).2 z;by_cases r:C6 t j
     .right;right
      have F:=(w l d r o).2 z;refine⟨F.2.2.2,?_⟩;rw[E.2.2.1,F.2.2.1];rcases FN A r with e2|e2
      .rw[H hk l A e2,e2];omega
      .rw[I hk l A e2,e2];omega
     .by_cases G:C (j*8+j)=NB
      .exact .inr (.inl ((w hk l A r).1 G).1)
      .right;right
       have B:=(w hk l A r).2 G;have x:=h.half i j d l z G;have m1:=((R d).2 z).1;have X:=((R l).2 G).1;rw[E.2.2.1,B.1,D d l o r];exact⟨x.1,by omega⟩
  .have V:¬C6 t (opp k):=λy=>A ((Ja t k).1 y);by_cases o:C6 t i
   .by_cases W:C (opp k*8+opp k)=NB
    .exact .inl ((w d v o V).1 W).1
    .have E:=(w d v o V).2 W;have m1:=((R v).2 W).1;by_cases r:C6 t j
     .by_cases O:C (k*8+k)=NB
      .exact .inr (.inl ((w l hk r A).1 O).2)
      .right;right
       have B:=(w l hk r A).2 O;have X:=((R hk).2 O).1;have x:=h.half k (opp k) hk v O W;rw[h.zero k hk]at x;rw[E.1,B.2.2.1];rcases FN o r with e|e
       .rw[H d l o e,e];have:=u0 o;exact⟨Z _ (by omega),by omega⟩
       .rw[I d l o e,e];have:=u0 o;exact⟨by decide,by omega⟩
     .by_cases O:C (k*8+j)=NB
      .exact .inr (.inl (by rw[D hk l A r];exact O))
      .right;right
       have x:=h.single (i:=opp k) (b:=j) v l (by rw[CL k hk];exact O) W;rw[CL k hk]at x;have F:=(w d l o r).2 x.1;have m3:=((R l).2 x.1).1;refine⟨F.2.1,?_⟩;rw[E.1,F.1,D hk l A r];omega
   .by_cases r:C6 t j
    .by_cases O:C (k*8+k)=NB
     .exact .inr (.inl ((w l hk r A).1 O).2)
     .have B:=(w l hk r A).2 O;have X:=((R hk).2 O).1;by_cases zi:C (i*8+opp k)=NB
      .exact .inl (by rw[D d v o V];exact zi)
      .right;right
       have x:=h.single (i:=k) (b:=i) hk d (by rw[h.sym _ _ v d];exact zi) O;have F:=(w l d r o).2 x.1;have m3:=((R d).2 x.1).1;have s:=h.sym _ _ v d;refine⟨F.2.2.2,?_⟩;rw[B.2.2.1,F.2.2.1,D d v o V];omega
    .rw[D d l o r,D d v o V,D hk l A r];exact h.tri k hk i j d l
 .by_cases q:C6 t i
  .exact I d (Ah d) q rfl
  .rw[D d (Ah d) q (λy=>q ((Ja t i).1 y))];exact h.zero i d
 .by_cases q:C6 t i
  .rw[H d d q rfl];exact .inr (by omega)
  .rw[D d d q q];exact h.even i d
 .by_cases o:C6 t i
  .by_cases r:C6 t j
   .have u1:=u0 o;rw[H d d o rfl,H l l r rfl];rcases FN o r with e|e
    .rw[H d l o e,e];exact⟨Z _ (by omega),by omega⟩
    .rw[I d l o e,e];exact⟨by decide,by omega⟩
   .rw[D l l r r]at G;have g:=(w d l o r).2 G;have m:=((R l).2 G).1;rw[H d d o rfl,D l l r r];exact⟨g.2.1,by rw[g.1];omega⟩
  .rw[D d d o o]at S;have m:=((R d).2 S).1;by_cases r:C6 t j
   .have g:=(w l d r o).2 S;rw[H l l r rfl,D d d o o];exact⟨g.2.2.2,by rw[g.2.2.1];omega⟩
   .rw[D l l r r]at G;rw[D d d o o,D l l r r,D d l o r];exact h.half i j d l S G
variable {w:World}
abbrev tNk:TypeId:=3
def px(k:Nat):Nat:=[0,0,0,1,1,2].getD k 0
def py(k:Nat):Nat:=[1,2,3,2,3,3].getD k 0
def E2(k:Nat)(P Q:Int)(t:Nat):List Int:=if k<t then([0,0,0,0].set (px k) P).set (py k) Q else[0,0,0,0]
theorem Rb(f:Nat)(D:f<8):Calls prog 96 #[.int .i64 (f:Int)] w λe w'=>e=.returned (.slice (some ⟨w.heap.size,0,none⟩) 4 4)/\At w' w.heap.size (ic (C5 f)) tNk/\dc w w':=by
 have F:∀w,(Instr.makeSlice 32 (.int .i64 4) (.int .i64 4)).run prog w=.ok (.slice (some ⟨w.heap.size,0,none⟩) 4 4) (w.alloc (.cells #[.int .i64 0,.int .i64 0,.int .i64 0,.int .i64 0] tNk)):=λ_=>by kernel_rfl
 have B:Hid (∀o,dc w (w.alloc o)):=λo=>(bC _ _).alloc (bB _) _;rcases(show f=0\/f=1\/f=2\/f=3\/f=4\/f=5\/f=6\/f=7 by omega)with rfl|rfl|rfl|rfl|rfl|rfl|rfl|rfl;all_goals
  go_enter func96,ntmps96;go_wp2_with fail;go_ret;refine⟨rfl,?_,?_⟩
  .exact At.new _ _ _
  .exact B.out _
theorem O6:∀f:Nat,f<32->8<=f->((f:Int)-8).tdiv 4=(((f-8)/4:Nat):Int)/\(((f:Int)-8).tmod 4).tdiv 2=(((f-8)%4/2:Nat):Int)/\((f:Int)-8).tmod 2=(((f-8)%2:Nat):Int)/\(f-8)/4<6/\(f-8)%4/2<2/\(f-8)%2<2/\
  C5 f=E2 ((f-8)/4) (1-(((f-8)%4/2:Nat):Int)*2) (1-(((f-8)%2:Nat):Int)*2) 6:=by decide
def tx(x:Nat):Nat:=[0,3,5,6,6].getD x 6
theorem Ra(f:Nat)(D:f<32)(E:8<=f):Calls prog 96 #[.int .i64 (f:Int)] w λe w'=>e=.returned (.slice (some ⟨w.heap.size,0,none⟩) 4 4)/\At w' w.heap.size (ic (C5 f)) tNk/\dc w w':=by
 have F:∀w,(Instr.makeSlice 32 (.int .i64 4) (.int .i64 4)).run prog w=.ok (.slice (some ⟨w.heap.size,0,none⟩) 4 4) (w.alloc (.cells #[.int .i64 0,.int .i64 0,.int .i64 0,.int .i64 0] tNk)):=λ_=>by kernel_rfl
 have J:Hid (At (w.alloc (.cells #[.int .i64 0,.int .i64 0,.int .i64 0,.int .i64 0] tNk)) w.heap.size (ic [0,0,0,0]) tNk):=At.new _ _ _;have B:Hid (∀o,dc w (w.alloc o)):=λo=>(bC _ _).alloc (bB _) _;obtain⟨p1,L,M,p4,N,O,I⟩:=O6 f D E;have C:Hid (_=_):=I;have ac:¬(f:Int)<8:=by omega
 have ad:(f:Int)<32:=by omega
 generalize(f-8)/4=k at *;obtain⟨a,H⟩:∃a:Int,a=(((f-8)%4/2:Nat):Int):=⟨_,rfl⟩
 obtain⟨c,hc⟩:∃c:Int,c=(((f-8)%2:Nat):Int):=⟨_,rfl⟩
 have i:Hid (((f:Int)-8)%4/2=a):=by show _=a;omega
 rw[<-H]at L C;rw[<-hc]at M C;have a0:0<=a:=by omega
 have a1:a<=1:=by omega
 have aa:0<=c:=by omega
 have ab:c<=1:=by omega
 have K:Hid (E2 k (1-a*2) (1-c*2) 0=[0,0,0,0]):=by show E2 _ _ _ _=_;unfold E2;rw[a_ (by omega)]
 clear H hc N O I D;go_enter func96,ntmps96;go_wp2_with fail;go_loopw [4,5] (λp G wr=>∃(x:Nat),x<=4/\G=.int .i64 x/\p=.int .i64 ((k:Int)-((tx x:Nat):Int))/\Hid (At wr w.heap.size (ic (E2 k (1-a*2) (1-c*2) (tx x))) tNk/\dc w wr)) (λ_ G _=>4-(intOf G).toNat);case atStart=>exact⟨0,by omega,rfl,by show Value.int .i64 (k:Int)=.int .i64 ((k:Int)-((0:Nat):Int));rw[show((0:Nat):Int)=0 from rfl,Int.sub_zero],by show At _ _ (ic (E2 k (1-a*2) (1-c*2) 0)) _;rw[K.out];exact J.out,B.out _⟩
 case round=>
  obtain⟨x,hx,rfl,rfl,v⟩:=hrel;rcases(show x=0\/x=1\/x=2\/x=3\/x=4 by omega)with rfl|rfl|rfl|rfl|rfl
  .have r:(0:Nat)<4:=by omega
   obtain⟨n,rfl⟩:∃n,n=wr:=⟨_,rfl⟩
   go_wp2_with fail;go_loopw [4,6] (λp h wr=>∃(y:Nat),0+1<=y/\y<=4/\h=.int .i64 y/\p=.int .i64 ((k:Int)-((0+(y-0-1):Nat):Int))/\Hid (At wr w.heap.size (ic (E2 k (1-a*2) (1-c*2) (0+(y-0-1)))) tNk/\dc w wr)) (λ_ h _=>4-(intOf h).toNat);case atStart=>exact⟨1,by omega,by omega,rfl,rfl,v.out⟩
   case round=>
    obtain⟨y,s,u,rfl,rfl,b⟩:=hrel;by_cases A:y<4
    .rcases(show y=1\/y=2\/y=3 by omega)with rfl|rfl|rfl
     .by_cases hk:k=0
      .subst hk;have c0:=b.out.1.cell 0;have c1:=b.out.1.cell 1;have c2:=b.out.1.cell 2;have c3:=b.out.1.cell 3;have z:=b.out.1.free;have l:=b.out.1.lt;have d:E2 0 (1-a*2) (1-c*2) 0=[0,0,0,0]:=rfl;rw[d]at c0 c1 c2 c3;simp[ic]at c0 c1 c2 c3;go_wp2_with fail;go_roundw;case rel=>
        refine⟨1+1,by omega,by omega,rfl,rfl,?_,?_⟩
        .try rw[i.out]
         exact(b.out.1.put (px 0) (.int .i64 (1-a*2))).put (py 0) (.int .i64 (1-c*2))
        .exact(b.out.2.setCell (by show w.heap.size<=w.heap.size;omega) _).setCell (by show w.heap.size<=w.heap.size;omega) _
       case measure=>simp[intOf]
      .have m:((k:Int)-0==0)=false:=by rw[b9];omega
       have j:Hid (E2 k (1-a*2) (1-c*2) (0+1)=E2 k (1-a*2) (1-c*2) 0):=by
        show E2 _ _ _ _=_;unfold E2;by_cases q:k<0
        .rw[bA q,bA (by omega)]
        .rw[a_ q,a_ (by omega)]
       go_wp2_with fail;go_roundw;case rel=>
        refine⟨1+1,by omega,by omega,rfl,?_,?_,b.out.2⟩
        .first|rfl|(congr 1;omega)|(congr 1;simp;omega)
        .show At _ _ (ic (E2 k (1-a*2) (1-c*2) (0+1))) _;rw[j.out];exact b.out.1
       case measure=>simp[intOf]
     .by_cases hk:k=1
      .subst hk;have c0:=b.out.1.cell 0;have c1:=b.out.1.cell 1;have c2:=b.out.1.cell 2;have c3:=b.out.1.cell 3;have z:=b.out.1.free;have l:=b.out.1.lt;have d:E2 1 (1-a*2) (1-c*2) 1=[0,0,0,0]:=rfl;rw[d]at c0 c1 c2 c3;simp[ic]at c0 c1 c2 c3;go_wp2_with fail;go_roundw;case rel=>
        refine⟨2+1,by omega,by omega,rfl,rfl,?_,?_⟩
        .try rw[i.out]
         exact(b.out.1.put (px 1) (.int .i64 (1-a*2))).put (py 1) (.int .i64 (1-c*2))
        .exact(b.out.2.setCell (by show w.heap.size<=w.heap.size;omega) _).setCell (by show w.heap.size<=w.heap.size;omega) _
       case measure=>simp[intOf]
      .have m:((k:Int)-1==0)=false:=by rw[b9];omega
       have j:Hid (E2 k (1-a*2) (1-c*2) (1+1)=E2 k (1-a*2) (1-c*2) 1):=by
        show E2 _ _ _ _=_;unfold E2;by_cases q:k<1
        .rw[bA q,bA (by omega)]
        .rw[a_ q,a_ (by omega)]
       go_wp2_with fail;go_roundw;case rel=>
        refine⟨2+1,by omega,by omega,rfl,?_,?_,b.out.2⟩
        .first|rfl|(congr 1;omega)|(congr 1;simp;omega)
        .show At _ _ (ic (E2 k (1-a*2) (1-c*2) (1+1))) _;rw[j.out];exact b.out.1
       case measure=>simp[intOf]
     .by_cases hk:k=2
      .subst hk;have c0:=b.out.1.cell 0;have c1:=b.out.1.cell 1;have c2:=b.out.1.cell 2;have c3:=b.out.1.cell 3;have z:=b.out.1.free;have l:=b.out.1.lt;have d:E2 2 (1-a*2) (1-c*2) 2=[0,0,0,0]:=rfl;rw[d]at c0 c1 c2 c3;simp[ic]at c0 c1 c2 c3;go_wp2_with fail;go_roundw;case rel=>
        refine⟨3+1,by omega,by omega,rfl,rfl,?_,?_⟩
        .try rw[i.out]
         exact(b.out.1.put (px 2) (.int .i64 (1-a*2))).put (py 2) (.int .i64 (1-c*2))
        .exact(b.out.2.setCell (by show w.heap.size<=w.heap.size;omega) _).setCell (by show w.heap.size<=w.heap.size;omega) _
       case measure=>simp[intOf]
      .have m:((k:Int)-2==0)=false:=by rw[b9];omega
       have j:Hid (E2 k (1-a*2) (1-c*2) (2+1)=E2 k (1-a*2) (1-c*2) 2):=by
        show E2 _ _ _ _=_;unfold E2;by_cases q:k<2
        .rw[bA q,bA (by omega)]
        .rw[a_ q,a_ (by omega)]
       go_wp2_with fail;go_roundw;case rel=>
        refine⟨3+1,by omega,by omega,rfl,?_,?_,b.out.2⟩
        .first|rfl|(congr 1;omega)|(congr 1;simp;omega)
        .show At _ _ (ic (E2 k (1-a*2) (1-c*2) (2+1))) _;rw[j.out];exact b.out.1
       case measure=>simp[intOf]
    .have g:y=4:=by omega
     subst g;go_wp2_with fail;go_roundw;case rel=>exact⟨0+1,by omega,rfl,rfl,b.out⟩
     case measure=>simp[intOf]
  .have r:(1:Nat)<4:=by omega
   obtain⟨n,rfl⟩:∃n,n=wr:=⟨_,rfl⟩
   go_wp2_with fail;go_loopw [4,6] (λp h wr=>∃(y:Nat),1+1<=y/\y<=4/\h=.int .i64 y/\p=.int .i64 ((k:Int)-((3+(y-1-1):Nat):Int))/\Hid (At wr w.heap.size (ic (E2 k (1-a*2) (1-c*2) (3+(y-1-1)))) tNk/\dc w wr)) (λ_ h _=>4-(intOf h).toNat);case atStart=>exact⟨2,by omega,by omega,rfl,rfl,v.out⟩
   case round=>
    obtain⟨y,s,u,rfl,rfl,b⟩:=hrel;by_cases A:y<4
    .rcases(show y=2\/y=3 by omega)with rfl|rfl
     .by_cases hk:k=3
      .subst hk;have c0:=b.out.1.cell 0;have c1:=b.out.1.cell 1;have c2:=b.out.1.cell 2;have c3:=b.out.1.cell 3;have z:=b.out.1.free;have l:=b.out.1.lt;have d:E2 3 (1-a*2) (1-c*2) 3=[0,0,0,0]:=rfl;rw[d]at c0 c1 c2 c3;simp[ic]at c0 c1 c2 c3;go_wp2_with fail;go_roundw;case rel=>
        refine⟨2+1,by omega,by omega,rfl,rfl,?_,?_⟩
        .try rw[i.out]
         exact(b.out.1.put (px 3) (.int .i64 (1-a*2))).put (py 3) (.int .i64 (1-c*2))
        .exact(b.out.2.setCell (by show w.heap.size<=w.heap.size;omega) _).setCell (by show w.heap.size<=w.heap.size;omega) _
       case measure=>simp[intOf]
      .have m:((k:Int)-3==0)=false:=by rw[b9];omega
       have j:Hid (E2 k (1-a*2) (1-c*2) (3+1)=E2 k (1-a*2) (1-c*2) 3):=by
        show E2 _ _ _ _=_;unfold E2;by_cases q:k<3
        .rw[bA q,bA (by omega)]
        .rw[a_ q,a_ (by omega)]
       go_wp2_with fail;go_roundw;case rel=>
        refine⟨2+1,by omega,by omega,rfl,?_,?_,b.out.2⟩
        .first|rfl|(congr 1;omega)|(congr 1;simp;omega)
        .show At _ _ (ic (E2 k (1-a*2) (1-c*2) (3+1))) _;rw[j.out];exact b.out.1
       case measure=>simp[intOf]
     .by_cases hk:k=4
      .subst hk;have c0:=b.out.1.cell 0;have c1:=b.out.1.cell 1;have c2:=b.out.1.cell 2;have c3:=b.out.1.cell 3;have z:=b.out.1.free;have l:=b.out.1.lt;have d:E2 4 (1-a*2) (1-c*2) 4=[0,0,0,0]:=rfl;rw[d]at c0 c1 c2 c3;simp[ic]at c0 c1 c2 c3;go_wp2_with fail;go_roundw;case rel=>
        refine⟨3+1,by omega,by omega,rfl,rfl,?_,?_⟩
        .try rw[i.out]
         exact(b.out.1.put (px 4) (.int .i64 (1-a*2))).put (py 4) (.int .i64 (1-c*2))
        .exact(b.out.2.setCell (by show w.heap.size<=w.heap.size;omega) _).setCell (by show w.heap.size<=w.heap.size;omega) _
       case measure=>simp[intOf]
      .have m:((k:Int)-4==0)=false:=by rw[b9];omega
       have j:Hid (E2 k (1-a*2) (1-c*2) (4+1)=E2 k (1-a*2) (1-c*2) 4):=by
        show E2 _ _ _ _=_;unfold E2;by_cases q:k<4
        .rw[bA q,bA (by omega)]
        .rw[a_ q,a_ (by omega)]
       go_wp2_with fail;go_roundw;case rel=>
        refine⟨3+1,by omega,by omega,rfl,?_,?_,b.out.2⟩
        .first|rfl|(congr 1;omega)|(congr 1;simp;omega)
        .show At _ _ (ic (E2 k (1-a*2) (1-c*2) (4+1))) _;rw[j.out];exact b.out.1
       case measure=>simp[intOf]
    .have g:y=4:=by omega
     subst g;go_wp2_with fail;go_roundw;case rel=>exact⟨1+1,by omega,rfl,rfl,b.out⟩
     case measure=>simp[intOf]
  .have r:(2:Nat)<4:=by omega
   obtain⟨n,rfl⟩:∃n,n=wr:=⟨_,rfl⟩
   go_wp2_with fail;go_loopw [4,6] (λp h wr=>∃(y:Nat),2+1<=y/\y<=4/\h=.int .i64 y/\p=.int .i64 ((k:Int)-((5+(y-2-1):Nat):Int))/\Hid (At wr w.heap.size (ic (E2 k (1-a*2) (1-c*2) (5+(y-2-1)))) tNk/\dc w wr)) (λ_ h _=>4-(intOf h).toNat);case atStart=>exact⟨3,by omega,by omega,rfl,rfl,v.out⟩
   case round=>
    obtain⟨y,s,u,rfl,rfl,b⟩:=hrel;by_cases A:y<4
    .obtain rfl:y=3:=by omega
     by_cases hk:k=5
     .subst hk;have c0:=b.out.1.cell 0;have c1:=b.out.1.cell 1;have c2:=b.out.1.cell 2;have c3:=b.out.1.cell 3;have z:=b.out.1.free;have l:=b.out.1.lt;have d:E2 5 (1-a*2) (1-c*2) 5=[0,0,0,0]:=rfl;rw[d]at c0 c1 c2 c3;simp[ic]at c0 c1 c2 c3;go_wp2_with fail;go_roundw;case rel=>
       refine⟨3+1,by omega,by omega,rfl,rfl,?_,?_⟩
       .try rw[i.out]
        exact(b.out.1.put (px 5) (.int .i64 (1-a*2))).put (py 5) (.int .i64 (1-c*2))
       .exact(b.out.2.setCell (by show w.heap.size<=w.heap.size;omega) _).setCell (by show w.heap.size<=w.heap.size;omega) _
      case measure=>simp[intOf]
     .have m:((k:Int)-5==0)=false:=by rw[b9];omega
      have j:Hid (E2 k (1-a*2) (1-c*2) (5+1)=E2 k (1-a*2) (1-c*2) 5):=by
       show E2 _ _ _ _=_;unfold E2;by_cases q:k<5
       .rw[bA q,bA (by omega)]
       .rw[a_ q,a_ (by omega)]
      go_wp2_with fail;go_roundw;case rel=>
       refine⟨3+1,by omega,by omega,rfl,?_,?_,b.out.2⟩
       .first|rfl|(congr 1;omega)|(congr 1;simp;omega)
       .show At _ _ (ic (E2 k (1-a*2) (1-c*2) (5+1))) _;rw[j.out];exact b.out.1
      case measure=>simp[intOf]
    .have g:y=4:=by omega
     subst g;go_wp2_with fail;go_roundw;case rel=>exact⟨2+1,by omega,rfl,rfl,b.out⟩
     case measure=>simp[intOf]
  .have r:(3:Nat)<4:=by omega
   obtain⟨n,rfl⟩:∃n,n=wr:=⟨_,rfl⟩
   go_wp2_with fail;go_loopw [4,6] (λp h wr=>∃(y:Nat),3+1<=y/\y<=4/\h=.int .i64 y/\p=.int .i64 ((k:Int)-((6+(y-3-1):Nat):Int))/\Hid (At wr w.heap.size (ic (E2 k (1-a*2) (1-c*2) (6+(y-3-1)))) tNk/\dc w wr)) (λ_ h _=>4-(intOf h).toNat);case atStart=>exact⟨4,by omega,by omega,rfl,rfl,v.out⟩
   case round=>
    obtain⟨y,s,u,rfl,rfl,b⟩:=hrel;have g:y=4:=by omega
    subst g;go_wp2_with fail;go_roundw;case rel=>exact⟨3+1,by omega,rfl,rfl,b.out⟩
    case measure=>simp[intOf]
  .go_wp2_with fail;go_ret;exact⟨rfl,by rw[C.out];exact v.out.1,v.out.2⟩
def cO(v:List Int):Nat->Nat
 |0=>0
 |i+1=>cO v i+(if AK v i=1\/AK v i= -1 then 1 else 0)
def cT(v:List Int):Nat->Nat
 |0=>0
 |i+1=>cT v i+(if AK v i=2\/AK v i= -2 then 1 else 0)
theorem C0{l:List Int}(h:l.length=4):∃a b c d,l=[a,b,c,d]:=by
 match l,h with
 |[a,b,c,d],_=>exact⟨a,b,c,d,rfl⟩
theorem Jy(x y z:Int):(if(x==y||x==z)=true then 1 else 0:Nat)=if x=y\/x=z then 1 else 0:=by
 simp only[cV,beq_iff_eq]
theorem V8{l:List Int}(h:l.length=4):GA l=cO l 4:=by
 obtain⟨a,b,c,d,rfl⟩:=C0 h;simp only[GA,List.countP_cons,List.countP_nil,cO,AK,List.getD_cons_zero,List.getD_cons_succ,Jy];omega
theorem WZ{l:List Int}(h:l.length=4):He l=cT l 4:=by
 obtain⟨a,b,c,d,rfl⟩:=C0 h;simp only[He,List.countP_cons,List.countP_nil,cT,AK,List.getD_cons_zero,List.getD_cons_succ,Jy];omega
def Et(l:List Int):Nat->List Int
 |0=>[0,0,0,0]
 |j+1=>(Et l j).set j ((AK l j).tdiv 2)
theorem T1{l:List Int}(h:l.length=4):Et l 4=CH l:=by
 obtain⟨a,b,c,d,rfl⟩:=C0 h;rfl
theorem Xg(c:Int):(c.tmod 2<0->c/2=c.tdiv 2-1)/\(¬c.tmod 2<0->c/2=c.tdiv 2):=by
 have h:=Int.tmod_def c 2;have t:=ER c;rcases cR c 0 with e|e
 .have:=t.2 e;constructor<;>intro _<;>omega
 .have:=t.1 e;constructor<;>intro _<;>omega
theorem Mn{a b c d:Int}(h:a=c)(k:b=d):Ending.returned (.tuple #[.int .i64 a,.int .i64 b])=.returned (.tuple #[.int .i64 c,.int .i64 d]):=by rw[h,k]
theorem UA(u:Value)(l:List Int)(H:l.length=4)(hu:AQ w u l)(M:∀i,i<4-> -2<=AK l i/\AK l i<=2)(c:Int)(hc: -4000000000000000000<=c/\c<=4000000000000000000):
  Calls prog 129 #[u,.int .i64 c] w λe w'=>e=.returned (.tuple #[.int .i64 (CS l c).1,.int .i64 (CS l c).2])/\dc w w':=by
 have ab:∀w,(Instr.makeSlice 32 (.int .i64 4) (.int .i64 4)).run prog w=.ok (.slice (some ⟨w.heap.size,0,none⟩) 4 4) (w.alloc (.cells #[.int .i64 0,.int .i64 0,.int .i64 0,.int .i64 0] tNk)):=λ_=>by kernel_rfl
 have P:Hid (∀E,dc w E->Calls prog 98 #[u] E λe w'=>e=.returned (.int .i64 (Ar l))/\dc E w'):=λE hb=>Fd u l H (hu.keep hb) (λi hi=>by have:=M i hi;omega);have V:Hid (∀E,At E w.heap.size (ic (Et l 4)) tNk->Calls prog 98 #[.slice (some ⟨w.heap.size,0,none⟩) 4 4] E λe w'=>e=.returned (.int .i64 (Ar (CH l)))/\dc E w'):=by
  intro E h1;rw[T1 H]at h1;have hh:(CH l).length=4:=by unfold CH;rw[List.length_map];exact H
  refine Fd _ (CH l) hh (AQ.at_ h1 hh (bB _) (λi hi=>Aa _ _ (by omega))) (λi hi=>?_);have:AK (CH l) i=(AK l i).tdiv 2:=by
   obtain⟨a,b,c,d,rfl⟩:=C0 H;rcases(show i=0\/i=1\/i=2\/i=3 by omega)with rfl|rfl|rfl|rfl<;>rfl
  rw[this];have:=AW (AK l i);have:=M i hi;omega
 have U:Hid (GA l=cO l 4/\He l=cT l 4):=⟨V8 H,WZ H⟩
 have Q:=Xg c;have O:Hid (_/\_):=Q;clear Q;obtain⟨c0,c1⟩:=hc;have tc:=AW c;obtain⟨au,cu,rfl,Y,h0⟩:=hu;obtain⟨p,off,rfl,T,D⟩:=h0 (by omega);have N:Hid (∀i,i<4->w.cell? ⟨p,off+i,none⟩=some (.int .i64 (AK l i))):=λi hi=>D i (by omega);have HL:Hid (l.length=4):=H;rw[H]at P|-;have HA:Hid (At (w.alloc (.cells #[.int .i64 0,.int .i64 0,.int .i64 0,.int .i64 0] tNk)) w.heap.size (ic [0,0,0,0]) tNk):=At.new _ _ _;have HB:Hid (∀o,dc w (w.alloc o)):=λo=>(bC _ _).alloc (bB _) _;clear h0 D Y H;go_enter func129,ntmps129;go_wp2_with fail;go_loopw [6,7,8] (λov tv i wr=>∃(j:Nat)(o t:Int),j<=4/\ov=.int .i64 o/\tv=.int .i64 t/\i=.int .i64 j/\wr=w/\Hid (o=((cO l j:Nat):Int)/\t=((cT l j:Nat):Int))/\0<=o/\o<=(j:Int)/\0<=t/\t<=(j:Int)) (λ_ _ i _=>4-(intOf i).toNat);case atStart=>exact⟨0,0,0,by omega,rfl,rfl,rfl,rfl,⟨rfl,rfl⟩,by omega,by omega,by omega,by omega⟩
 case round=>
  obtain⟨j,o,t,hj,rfl,rfl,rfl,hw,C,o0,o1,t0,t1⟩:=hrel;replace hw:=hw.symm;subst hw;by_cases R:j<4
  .have aa:(j:Int)<4:=by omega
   have cx:=N.out j R;have hx:=M j R;obtain⟨a,X⟩:∃a,a=AK l j:=⟨_,rfl⟩
   have s:Hid (AK l j=a):=X.symm;rw[<-X]at cx hx;clear X;rcases(show a= -2\/a= -1\/a=0\/a=1\/a=2 by omega)with e|e|e|e|e
   .subst e;have A:Hid (cO l (j+1)=cO l j+0/\cT l (j+1)=cT l j+1):=by
     refine⟨?_,?_⟩
     .show cO l j+_=_;rw[s.out];rfl
     .show cT l j+_=_;rw[s.out];rfl
    go_wp2_with fail;go_roundw;case rel=>exact⟨j+1,o+0,t+1,by omega,by first|rfl|(congr 1;omega),by first|rfl|(congr 1;omega),by go_num,by simp,⟨by rw[A.out.1,C.out.1];simp,by rw[A.out.2,C.out.2];simp⟩,by omega,by omega,by omega,by omega⟩
    case measure=>simp[intOf];omega
   .subst e;have A:Hid (cO l (j+1)=cO l j+1/\cT l (j+1)=cT l j+0):=by
     refine⟨?_,?_⟩
     .show cO l j+_=_;rw[s.out];rfl
     .show cT l j+_=_;rw[s.out];rfl
    go_wp2_with fail;go_roundw;case rel=>exact⟨j+1,o+1,t+0,by omega,by first|rfl|(congr 1;omega),by first|rfl|(congr 1;omega),by go_num,by simp,⟨by rw[A.out.1,C.out.1];simp,by rw[A.out.2,C.out.2];simp⟩,by omega,by omega,by omega,by omega⟩
    case measure=>simp[intOf];omega
   .subst e;have A:Hid (cO l (j+1)=cO l j+0/\cT l (j+1)=cT l j+0):=by
     refine⟨?_,?_⟩
     .show cO l j+_=_;rw[s.out];rfl
     .show cT l j+_=_;rw[s.out];rfl
    go_wp2_with fail;go_roundw;case rel=>exact⟨j+1,o+0,t+0,by omega,by first|rfl|(congr 1;omega),by first|rfl|(congr 1;omega),by go_num,by simp,⟨by rw[A.out.1,C.out.1];simp,by rw[A.out.2,C.out.2];simp⟩,by omega,by omega,by omega,by omega⟩
    case measure=>simp[intOf];omega
   .subst e;have A:Hid (cO l (j+1)=cO l j+1/\cT l (j+1)=cT l j+0):=by
     refine⟨?_,?_⟩
     .show cO l j+_=_;rw[s.out];rfl
     .show cT l j+_=_;rw[s.out];rfl
    go_wp2_with fail;go_roundw;case rel=>exact⟨j+1,o+1,t+0,by omega,by first|rfl|(congr 1;omega),by first|rfl|(congr 1;omega),by go_num,by simp,⟨by rw[A.out.1,C.out.1];simp,by rw[A.out.2,C.out.2];simp⟩,by omega,by omega,by omega,by omega⟩
    case measure=>simp[intOf];omega
   .subst e;have A:Hid (cO l (j+1)=cO l j+0/\cT l (j+1)=cT l j+1):=by
     refine⟨?_,?_⟩
     .show cO l j+_=_;rw[s.out];rfl
     .show cT l j+_=_;rw[s.out];rfl
    go_wp2_with fail;go_roundw;case rel=>exact⟨j+1,o+0,t+1,by omega,by first|rfl|(congr 1;omega),by first|rfl|(congr 1;omega),by go_num,by simp,⟨by rw[A.out.1,C.out.1];simp,by rw[A.out.2,C.out.2];simp⟩,by omega,by omega,by omega,by omega⟩
    case measure=>simp[intOf];omega
  .have Z:j=4:=by omega
   subst Z;have n:Hid (o=((GA l:Nat):Int)/\t=((He l:Nat):Int)):=⟨by rw[U.out.1];exact C.out.1,by rw[U.out.2];exact C.out.2⟩
   have g:Hid (kd l=if GA l=0/\He l=0 then 1 else if GA l=0/\He l=1 then 2 else if He l=0/\0<GA l/\GA l<3 then 3 else 0):=rfl;have f:Hid (CS l c=if kd l=1/\c<0 then(-2,0)else if kd l=2 then(Ar (CH l),c/2)else if kd l=3 then(Ar l,c)else(-1,0)):=rfl;clear C U;by_cases I:o=0
   .by_cases F:t=0
    .have hk:kd l=1:=by rw[g.out,bA (by have:=n.out;omega)]
     by_cases ec:c<0
     .have r:Hid (CS l c=(-2,0)):=by show CS l c=_;rw[f.out,bA ⟨hk,ec⟩]
      subst I F;clear hk g f n;go_wp2_with fail
      go_ret2
      exact⟨by rw[r.out];rfl,bC _ _⟩
     .have r:Hid (CS l c=(-1,0)):=by show CS l c=_;rw[f.out,a_ (λz=>ec z.2),hk,a_ (by decide),a_ (by decide)]
      subst I F;clear hk g f n;go_wp2_with fail
      go_ret2
      exact⟨by rw[r.out];rfl,bC _ _⟩
    .by_cases K:t=1
     .have hk:kd l=2:=by rw[g.out,a_ (by have:=n.out;omega),bA (by have:=n.out;omega)]
      have r:Hid (CS l c=(Ar (CH l),c/2)):=by show CS l c=_;rw[f.out,hk,a_ (λz=>absurd z.1 (by decide)),bA rfl]
      subst I K;clear hk g f n F;go_wp2_with fail;go_loopw [10] (λi wr=>∃(j:Nat),j<=4/\i=.int .i64 j/\Hid (At wr w.heap.size (ic (Et l j)) tNk/\dc w wr)) (λi _=>4-(intOf i).toNat);case atStart=>exact⟨0,by omega,rfl,HA.out,HB.out _⟩
      case round=>
       obtain⟨k,hk,rfl,m⟩:=hrel;have q:(Et l k).length=4:=by
        rcases(show k=0\/k=1\/k=2\/k=3\/k=4 by omega)with rfl|rfl|rfl|rfl|rfl<;>rfl
       rcases(show k=0\/k=1\/k=2\/k=3\/k=4 by omega)with rfl|rfl|rfl|rfl|rfl
       .have c0:=m.out.1.cell 0;rw[Aa _ _ (by rw[q];omega)]at c0;have W:=m.out.1.free;have L:=m.out.1.lt;have a0:=(m.out.2.cell (B:=w.heap.size) (p:=⟨p,off+0,none⟩) T).trans (N.out 0 (by omega));have hx:=M 0 (by omega);have ta:=AW (AK l 0);have J:Hid (Et l (0+1)=(Et l 0).set 0 ((AK l 0).tdiv 2)):=rfl;try rw[bZ]at a0
        generalize AK l 0=x at *;generalize Et l 0=y at *;go_wp2_with fail;go_roundw;case rel=>
         refine⟨0+1,by omega,rfl,?_,m.out.2.setCell (by show w.heap.size<=w.heap.size;omega) _⟩;rw[J.out,<-Be];exact m.out.1.put 0 _
        case measure=>simp[intOf]
       .have c1:=m.out.1.cell 1;rw[Aa _ _ (by rw[q];omega)]at c1;have W:=m.out.1.free;have L:=m.out.1.lt;have a1:=(m.out.2.cell (B:=w.heap.size) (p:=⟨p,off+1,none⟩) T).trans (N.out 1 (by omega));have hx:=M 1 (by omega);have ta:=AW (AK l 1);have J:Hid (Et l (1+1)=(Et l 1).set 1 ((AK l 1).tdiv 2)):=rfl;try rw[bZ]at a1
        generalize AK l 1=x at *;generalize Et l 1=y at *;go_wp2_with fail;go_roundw;case rel=>
         refine⟨1+1,by omega,rfl,?_,m.out.2.setCell (by show w.heap.size<=w.heap.size;omega) _⟩;rw[J.out,<-Be];exact m.out.1.put 1 _
        case measure=>simp[intOf]
       .have c2:=m.out.1.cell 2;rw[Aa _ _ (by rw[q];omega)]at c2;have W:=m.out.1.free;have L:=m.out.1.lt;have a2:=(m.out.2.cell (B:=w.heap.size) (p:=⟨p,off+2,none⟩) T).trans (N.out 2 (by omega));have hx:=M 2 (by omega);have ta:=AW (AK l 2);have J:Hid (Et l (2+1)=(Et l 2).set 2 ((AK l 2).tdiv 2)):=rfl;try rw[bZ]at a2
        generalize AK l 2=x at *;generalize Et l 2=y at *;go_wp2_with fail;go_roundw;case rel=>
         refine⟨2+1,by omega,rfl,?_,m.out.2.setCell (by show w.heap.size<=w.heap.size;omega) _⟩;rw[J.out,<-Be];exact m.out.1.put 2 _
        case measure=>simp[intOf]
       .have c3:=m.out.1.cell 3;rw[Aa _ _ (by rw[q];omega)]at c3;have W:=m.out.1.free;have L:=m.out.1.lt;have a3:=(m.out.2.cell (B:=w.heap.size) (p:=⟨p,off+3,none⟩) T).trans (N.out 3 (by omega));have hx:=M 3 (by omega);have ta:=AW (AK l 3);have J:Hid (Et l (3+1)=(Et l 3).set 3 ((AK l 3).tdiv 2)):=rfl;try rw[bZ]at a3
        generalize AK l 3=x at *;generalize Et l 3=y at *;go_wp2_with fail;go_roundw;case rel=>
         refine⟨3+1,by omega,rfl,?_,m.out.2.setCell (by show w.heap.size<=w.heap.size;omega) _⟩;rw[J.out,<-Be];exact m.out.1.put 3 _
        case measure=>simp[intOf]
       .clear q;go_wp2_with fail;refine(V.out _ m.out.1).mono ?_;rintro e w3 ⟨rfl,G⟩;have H3:Hid (dc w w3):=m.out.2.trans (G.mono m.out.2.size);clear G;by_cases er:c.tmod 2<0
        .have s:Hid (c/2=c.tdiv 2-1):=O.out.1 er;go_wp2_with fail
         go_ret2
         exact⟨by rw[r.out];exact Mn rfl (by show _=c/2;rw[s.out]),H3.out⟩
        .have s:Hid (c/2=c.tdiv 2):=O.out.2 (by omega);go_wp2_with fail
         go_ret2
         exact⟨by rw[r.out];exact Mn rfl (by show _=c/2;rw[s.out]),H3.out⟩
     .have hk:kd l=0:=by rw[g.out,a_ (by have:=n.out;omega),a_ (by have:=n.out;omega),a_ (by have:=n.out;omega)]
      have r:Hid (CS l c=(-1,0)):=by show CS l c=_;rw[f.out,hk,a_ (λz=>absurd z.1 (by decide)),a_ (by decide),a_ (by decide)]
      have b1:(t==0)=false:=by simpa using F
      have b2:(t==1)=false:=by simpa using K
      subst I;clear hk g f n F K;go_wp2_with fail
      go_ret2
      exact⟨by rw[r.out];rfl,bC _ _⟩
   .have b0:(o==0)=false:=by simpa using I
    by_cases F:t=0
    .by_cases e3:o<3
     .have hk:kd l=3:=by rw[g.out,a_ (by have:=n.out;omega),a_ (by have:=n.out;omega),bA (by have:=n.out;omega)]
      have r:Hid (CS l c=(Ar l,c)):=by show CS l c=_;rw[f.out,hk,a_ (λz=>absurd z.1 (by decide)),a_ (by decide),bA rfl]
      have S:0<o:=by omega
      subst F;clear hk g f n I;go_wp2_with fail;refine(P.out _ (bC _ _)).mono ?_;rintro e w3 ⟨rfl,G⟩;go_wp2_with fail
      go_ret2
      exact⟨by rw[r.out];exact Mn rfl rfl,G⟩
     .have hk:kd l=0:=by rw[g.out,a_ (by have:=n.out;omega),a_ (by have:=n.out;omega),a_ (by have:=n.out;omega)]
      have r:Hid (CS l c=(-1,0)):=by show CS l c=_;rw[f.out,hk,a_ (λz=>absurd z.1 (by decide)),a_ (by decide),a_ (by decide)]
      have S:0<o:=by omega
      subst F;clear hk g f n I;go_wp2_with fail
      go_ret2
      exact⟨by rw[r.out];rfl,bC _ _⟩
    .have hk:kd l=0:=by rw[g.out,a_ (by have:=n.out;omega),a_ (by have:=n.out;omega),a_ (by have:=n.out;omega)]
     have r:Hid (CS l c=(-1,0)):=by show CS l c=_;rw[f.out,hk,a_ (λz=>absurd z.1 (by decide)),a_ (by decide),a_ (by decide)]
     have b1:(t==0)=false:=by simpa using F
     clear hk g f n I F;go_wp2_with fail
     go_ret2
     exact⟨by rw[r.out];rfl,bC _ _⟩
end Go.Proofs.YtffajooegiempaaGreatDoor
