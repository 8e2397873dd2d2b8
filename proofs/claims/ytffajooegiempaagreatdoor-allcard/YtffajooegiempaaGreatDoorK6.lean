import Derived.Test.YtffajooegiempaaGreatDoorK5
set_option maxRecDepth 100000
set_option maxHeartbeats 6400000
namespace Go.Proofs.YtffajooegiempaaGreatDoor
inductive Tab(f g:Nat):Prop
 |no:kdT f g=0->Tab f g
 |z11:f<8->g<8->g=opp f->kdT f g=1->Tab f g
 |d11:f<8->g<8->g=f->kdT f g=2->nmT f g=f->Tab f g
 |s11:f<8->g<8->g≠f->g≠opp f->kdT f g=3->nmT f g=nf f g->Tab f g
 |s12 (a b:Nat):f<8->8<=g->kdT f g=3->(fs g=a/\ss g=b)\/(ss g=a/\fs g=b)->a=opp f->nmT f g=b->Tab f g
 |s21 (a b:Nat):8<=f->g<8->kdT f g=3->(fs f=a/\ss f=b)\/(ss f=a/\fs f=b)->a=opp g->nmT f g=b->Tab f g
 |t22 (i p s j:Nat):8<=f->8<=g->(fs f=i/\ss f=p)\/(ss f=i/\fs f=p)->(fs g=s/\ss g=j)\/(ss g=s/\fs g=j)->p=opp s->
   (kdT f g=1/\j=opp i)\/(kdT f g=2/\j=i/\nmT f g=i)\/(kdT f g=3/\j≠i/\j≠opp i/\nmT f g=nf i j)->Tab f g
theorem YT{f g:Nat}(d:f<32)(B:g<32):Tab f g:=by
 have h:=WQ f d g B;unfold ZX at h;simp only[cV,cA,cD,List.any_eq_true]at h;rcases h with(((h|⟨⟨h1,h2⟩,h3⟩)|⟨⟨⟨h1,h2⟩,h3⟩,h4⟩)|⟨⟨⟨h1,h2⟩,h3⟩,h4⟩)|⟨⟨h1,h2⟩,h3⟩
 .exact .no h
 .rcases h3 with(⟨e,k⟩|⟨⟨e,k⟩,n⟩)|⟨⟨⟨e1,e2⟩,k⟩,n⟩
  .exact .z11 h1 h2 e k
  .exact .d11 h1 h2 e k n
  .exact .s11 h1 h2 e1 e2 k n
 .rcases h4 with⟨e,n⟩|⟨e,n⟩
  .exact .s12 (fs g) (ss g) h1 h2 h3 (.inl ⟨rfl,rfl⟩) e n
  .exact .s12 (ss g) (fs g) h1 h2 h3 (.inr ⟨rfl,rfl⟩) e n
 .rcases h4 with⟨e,n⟩|⟨e,n⟩
  .exact .s21 (fs f) (ss f) h1 h2 h3 (.inl ⟨rfl,rfl⟩) e n
  .exact .s21 (ss f) (fs f) h1 h2 h3 (.inr ⟨rfl,rfl⟩) e n
 .obtain⟨G,_,N,_,e,t⟩:=h3;refine .t22 (if G=true then fs f else ss f) (if G=true then ss f else fs f) (if N=true then fs g else ss g) (if N=true then ss g else fs g) h1 h2 ?_ ?_ e ?_
  .cases G
   .exact .inr ⟨rfl,rfl⟩
   .exact .inl ⟨rfl,rfl⟩
  .cases N
   .exact .inr ⟨rfl,rfl⟩
   .exact .inl ⟨rfl,rfl⟩
  .rcases t with(⟨k,e⟩|⟨⟨k,e⟩,n⟩)|⟨⟨⟨k,e1⟩,e2⟩,n⟩
   .exact .inl ⟨k,e⟩
   .exact .inr (.inl ⟨k,e,n⟩)
   .exact .inr (.inr ⟨k,e1,e2,n⟩)
theorem TC.lo{C:Nat->Int}(h:TC C){f:Nat}(d:f<8):(C (f*8+f)=NB->bd C f=NB)/\(C (f*8+f)≠NB->2*bd C f=C (f*8+f)/\bd C f≠NB):=by
 obtain⟨_,_,_,_,e,_⟩:=FE f (by omega);obtain⟨e1,e2⟩:=e d;unfold bd;rw[e1,e2];refine⟨λq=>?_,λq=>?_⟩
 .rw[a_ (λz=>z.2 q),q]
 .rw[bA ⟨rfl,q⟩];have:=EF ((h.even f d).resolve_left q);have:=(h.top (f*8+f) (by omega)).resolve_left q;exact⟨by omega,by unfold NB;omega⟩
theorem LM{C:Nat->Int}(W:VA C){f i j:Nat}(d:f<32)(h8:8<=f)(h:(fs f=i/\ss f=j)\/(ss f=i/\fs f=j)):bd C f=C (i*8+j)/\i<8/\j<8:=by
 obtain⟨O,P,_,_,_,e⟩:=FE f d;unfold bd;rw[a_ (λz=>e h8 z.1)];rcases h with⟨a,b⟩|⟨a,b⟩
 .rw[<-a,<-b];exact⟨rfl,O,P⟩
 .rw[<-a,<-b];exact⟨W _ _ O P,P,O⟩
theorem W6:∀i:Nat,i<8->∀j,j<8->(i≠j/\j≠opp i)->8<=nf i j:=by decide +kernel
theorem IC{C:Nat->Int}(W:VA C){i j:Nat}(hi:i<8)(hj:j<8)(h1:i≠j)(h2:j≠opp i):bd C (nf i j)=C (i*8+j):=by
 obtain⟨a,b⟩:=DN i hi j hj h2;have g:=W6 i hi j hj ⟨h1,h2⟩;refine(LM W (i:=i) (j:=j) a g ?_).1;rcases b with b|b
 .exact .inl b
 .exact .inr ⟨b.2,b.1⟩
theorem TC.single{C:Nat->Int}(h:TC C){i b:Nat}(hi:i<8)(hb:b<8)(h1:C (opp i*8+b)≠NB)(h2:C (i*8+i)≠NB):C (b*8+b)≠NB/\C (b*8+b)<=2*C (opp i*8+b)+C (i*8+i):=by
 have ho:=Ah hi;have a:=h.tri (opp i) ho i b hi hb;rw[CL i hi]at a;obtain⟨F,L⟩:=(a.resolve_left h2).resolve_left h1;have c:=h.tri i hi b b hb hb;rw[h.sym b (opp i) hb ho]at c;obtain⟨c1,c2⟩:=(c.resolve_left h1).resolve_left F;exact⟨c1,by omega⟩
theorem TC.sum{C:Nat->Int}(h:TC C){f g:Nat}(d:f<32)(B:g<32)(D:bd C f≠NB)(E:bd C g≠NB):
  (kdT f g=1->0<=bd C f+bd C g)/\(kdT f g=2->2*bd C (nmT f g)<=bd C f+bd C g)/\(kdT f g=3->bd C (nmT f g)<=bd C f+bd C g):=by
 have lo:∀i,i<8->bd C i≠NB->C (i*8+i)≠NB/\2*bd C i=C (i*8+i):=by
  intro i hi q;by_cases e:C (i*8+i)=NB
  .exact absurd ((h.lo hi).1 e) q
  .exact⟨e,((h.lo hi).2 e).1⟩
 cases YT d B with
 |no k=>exact⟨λz=>absurd (k.symm.trans z) (by decide),λz=>absurd (k.symm.trans z) (by decide),λz=>absurd (k.symm.trans z) (by decide)⟩
 |z11 w g8 e k=>
  refine⟨λ_=>?_,λz=>absurd (k.symm.trans z) (by decide),λz=>absurd (k.symm.trans z) (by decide)⟩;subst e;obtain⟨F,L⟩:=lo f w D;obtain⟨G,N⟩:=lo _ g8 E;have:=(h.half f (opp f) w g8 F G).2;rw[h.zero f w]at this;omega
 |d11 w g8 e k n=>
  refine⟨λz=>absurd (k.symm.trans z) (by decide),λ_=>?_,λz=>absurd (k.symm.trans z) (by decide)⟩;rw[n,e];omega
 |s11 w g8 e1 e2 k n=>
  refine⟨λz=>absurd (k.symm.trans z) (by decide),λz=>absurd (k.symm.trans z) (by decide),λ_=>?_⟩;rw[n,IC h.sym w g8 (λe=>e1 e.symm) e2];obtain⟨F,L⟩:=lo f w D;obtain⟨G,N⟩:=lo _ g8 E;have:=(h.half f g w g8 F G).2;omega
 |s12 a b w g8 k s e n=>
  refine⟨λz=>absurd (k.symm.trans z) (by decide),λz=>absurd (k.symm.trans z) (by decide),λ_=>?_⟩;obtain⟨x,la,Q⟩:=LM h.sym B g8 s;rw[x]at E|-;rw[n];subst e;obtain⟨F,L⟩:=lo f w D;obtain⟨c1,c2⟩:=h.single w Q E F;have:=((h.lo Q).2 c1).1;omega
 |s21 a b w g8 k s e n=>
  refine⟨λz=>absurd (k.symm.trans z) (by decide),λz=>absurd (k.symm.trans z) (by decide),λ_=>?_⟩;obtain⟨x,la,Q⟩:=LM h.sym d w s;rw[x]at D|-;rw[n];subst e;obtain⟨F,L⟩:=lo g g8 E;obtain⟨c1,c2⟩:=h.single g8 Q D F;have:=((h.lo Q).2 c1).1;omega
 |t22 i p s j w g8 x y e t=>
  obtain⟨u,S,lp⟩:=LM h.sym d w x;obtain⟨v,ls,lj⟩:=LM h.sym B g8 y;rw[u]at D|-;rw[v]at E|-;subst e;obtain⟨c1,c2⟩:=((h.tri s ls i j S lj).resolve_left D).resolve_left E;rcases t with⟨k,e⟩|⟨k,e,n⟩|⟨k,e1,e2,n⟩
  .refine⟨λ_=>?_,λz=>absurd (k.symm.trans z) (by decide),λz=>absurd (k.symm.trans z) (by decide)⟩;rw[e,h.zero i S]at c2;rw[e];exact c2
  .refine⟨λz=>absurd (k.symm.trans z) (by decide),λ_=>?_,λz=>absurd (k.symm.trans z) (by decide)⟩;rw[n];rw[e]at c1 c2|-;have:=((h.lo S).2 c1).1;omega
  .refine⟨λz=>absurd (k.symm.trans z) (by decide),λz=>absurd (k.symm.trans z) (by decide),λ_=>?_⟩;rw[n,IC h.sym S lj (λz=>e1 z.symm) e2];exact c2
def Ab(C R:Nat->Int):Prop:=∀f,f<32->bd C f<=R f
theorem YH{C R:Nat->Int}(h:TC C)(A:Ab C R)(m:∀f,f<32->R f<=NB)(b:Bool){f g:Nat}(d:f<32)(B:g<32):∃R' T,Lw R b f g=some (R',T)/\Ab C R'/\∀f,f<32->R' f<=NB:=by
 have s:=Mp R b d B;generalize Lw R b f g=o at s;have fin:∀f,f<32->R f≠NB->bd C f≠NB:=by
  intro f d q;have:=A f d;have:=m f d;omega
 cases s with
 |none D E k c=>
  exfalso;have:=(h.sum d B (fin f d D) (fin g B E)).1 k;have:=A f d;have:=A g B;omega
 |same _=>exact⟨R,b,rfl,A,m⟩
 |put n c D E hn en hc hk=>
  refine⟨Bw R n c,true,rfl,λx hx=>?_,λx hx=>?_⟩
  .unfold Bw;split
   .rename_i e;subst e;have F:=A f d;have L:=A g B;have hs:=h.sum d B (fin f d D) (fin g B E);rw[<-en]at hs;rcases hk with⟨k,e⟩|⟨k,e⟩
    .have:=hs.2.1 k;omega
    .have:=hs.2.2 k;omega
   .exact A x hx
  .unfold Bw;split
   .rename_i e;subst e;have:=m x hx;omega
   .exact m x hx
theorem KR{C R:Nat->Int}(h:TC C)(A:Ab C R)(m:∀f,f<32->R f<=NB):∀k,k<=1024->∃R' T,rF R k=some (R',T)/\Ab C R'/\∀f,f<32->R' f<=NB:=by
 intro k;induction k with
 |zero=>intro _;exact⟨R,false,rfl,A,m⟩
 |succ k ih=>
  intro hk;obtain⟨R1,G,e,h1,h2⟩:=ih (by omega);rw[rF,e];exact YH h h1 h2 G (by omega) (by omega)
def Kq(R:Nat->Int):Option ((Nat->Int)×Bool):=rF R 1024
def EO(R:Nat->Int):Nat->Option (Nat->Int)
 |0=>some R
 |n+1=>match EO R n with
  |none=>none
  |some R'=>(Kq R').map λx=>x.1
theorem IU{R:Nat->Int}{n:Nat}(h:EO R n=none):∀k,EO R (n+k)=none
 |0=>h
 |k+1=>by
  show(match EO R (n+k)with|none=>none|some R'=>(Kq R').map λx=>x.1)=none;rw[IU h k]
theorem Dq{R R':Nat->Int}{n:Nat}(h:EO R (n+1)=some R'):∃R1 b,EO R n=some R1/\Kq R1=some (R',b):=by
 rw[EO]at h;cases e:EO R n with
 |none=>rw[e]at h;cases h
 |some R1=>
  rw[e]at h;cases e2:Kq R1 with
  |none=>
   replace h:(Kq R1).map (λx=>x.1)=some R':=h;rw[e2]at h;cases h
  |some x=>
   replace h:(Kq R1).map (λx=>x.1)=some R':=h;rw[e2]at h;obtain⟨H,b⟩:=x;have:H=R':=bV h;subst this;exact⟨R1,b,rfl,e2⟩
theorem Fp{R:Nat->Int}(m:∀f,f<32->R f<=NB):∀n R',EO R n=some R'->∀f,f<32->R' f<=NB:=by
 intro n;induction n with
 |zero=>intro R' h;cases h;exact m
 |succ n ih=>
  intro R' h f d;obtain⟨R1,b,e,e2⟩:=Dq h;have h1:=ih R1 e;exact cd ((EW h1 1024 (bB _) _ b e2).le f d) (h1 f d)
theorem Hm{R:Nat->Int}(m:∀f,f<32->R f<=NB){n:Nat}{R1 H:Nat->Int}(h1:EO R n=some R1)(h2:EO R (n+1)=some H):Ku R1 H:=by
 obtain⟨Y,b,e,e2⟩:=Dq h2;rw[h1]at e;have:R1=Y:=bV e;subst this;exact T7 (Fp m n R1 h1) e2
theorem Un.eqs{C R:Nat->Int}(J:TC C)(h:Un R C)(A:Ab C R)(m:∀f,f<32->R f<=NB):∀f,f<32->R f=bd C f:=by
 intro f d;have a:=A f d;by_cases q:bd C f=NB
 .have:=m f d;omega
 .obtain⟨O,P,e,e2,U,V⟩:=FE f d;by_cases w:f<8
  .have q':C (f*8+f)≠NB:=λz=>q ((J.lo w).1 z);have:=h.dia f w q';have:=((J.lo w).2 q').1;omega
  .have b:=LM J.sym d (by omega) (.inl ⟨rfl,rfl⟩);rw[b.1]at q a|-;have:=h.off (fs f) (ss f) O P (V (by omega)) e2 q;rw[e]at this;omega
theorem I0{C R:Nat->Int}(h:TC C)(m:∀f,f<32->R f<=NB)(A:Ab C R):∀n,∃R',EO R n=some R'/\Ab C R'/\∀f,f<32->R' f<=NB:=by
 intro n;induction n with
 |zero=>exact⟨R,rfl,A,m⟩
 |succ n ih=>
  obtain⟨R1,e,h1,h2⟩:=ih;obtain⟨H,b,e2,h3,h4⟩:=KR h h1 h2 1024 (bB _);exact⟨H,by rw[EO,e];show(Kq R1).map _=_;rw[show Kq R1=some (H,b)from e2];rfl,h3,h4⟩
theorem Ku.un{M R:Nat->Int}(h:NI M)(hr:Ku R R)(I:Un R M):Un R (Aj M):=h.rounds17 (R:=λ_=>R) (λ_ _=>hr) I
theorem Hp(l:List Int){i j:Nat}(hi:i<8)(o:j<8)(h:j≠opp i):FW l 32 (i*8+j)=bv l (nf i j):=by
 obtain⟨a,b⟩:=DN i hi j o h;have c:=KK l (nf i j) a;rcases b with⟨s,t⟩|⟨s,t⟩
 .rw[s,t]at c;exact c.1
 .rw[s,t]at c;exact c.2
theorem J0(l:List Int){i:Nat}(hi:i<8):(l.getD i 0=NB->bv l i=NB)/\(l.getD i 0≠NB->bv l i=2*l.getD i 0):=by
 obtain⟨_,_,_,_,e,_⟩:=FE i (by omega);obtain⟨e1,e2⟩:=e hi;unfold bv;rw[e1,e2];exact⟨λq=>by rw[a_ (λz=>z.2 q),q],λq=>bA ⟨rfl,q⟩⟩
theorem NS(l:List Int){i j:Nat}(hi:i<8)(o:j<8)(h1:i≠j)(h2:j≠opp i):bv l (nf i j)=l.getD (nf i j) 0:=by
 obtain⟨_,_,_,_,_,e⟩:=FE (nf i j) (DN i hi j o h2).1;unfold bv;rw[a_ (λz=>e (W6 i hi j o ⟨h1,h2⟩) z.1)]
theorem Iz{n:Int}(h:G8 n=true):n=NB\/(-4000<=n/\n<=4000):=ce h
theorem Sd{l:List Int}(d:B_ l):Bd 8000 (FW l 32):=by
 have hz:=Gs l;intro a ha;have hi:a/8<8:=by omega
 have o:a%8<8:=by omega
 rw[show a=a/8*8+a%8 by omega];generalize a/8=i at hi;generalize a%8=j at o;by_cases e:j=opp i
 .rw[e,hz i hi];exact .inr (by decide)
 .by_cases hn:i=j
  .subst hn;have q:=Iz (d.2 i (by omega));rw[Hp l hi hi (λe=>KP i e.symm),Gv];have b:=J0 l hi;by_cases e:l.getD i 0=NB
   .exact .inl (b.1 e)
   .rw[b.2 e];have:=q.resolve_left e;exact .inr (by omega)
  .have q:=Iz (d.2 (nf i j) (DN i hi j o e).1);rw[Hp l hi o e,NS l hi o hn e];rcases q with q|q
   .exact .inl q
   .exact .inr (by omega)
theorem Db{l:List Int}(d:B_ l):NI (FW l 32):=by
 have hz:=Gs l;refine⟨(Sd d).mono (by decide),λi j hi o=>?_,hz⟩;by_cases e:j=opp i
 .rw[e,hz i hi];have:=hz (opp i) (Ah hi);rw[CL i hi]at this;exact this.symm
 .obtain⟨a,b⟩:=DN i hi j o e;have c:=KK l (nf i j) a;rcases b with⟨s,t⟩|⟨s,t⟩
  .rw[s,t]at c;rw[c.1,c.2]
  .rw[s,t]at c;rw[c.1,c.2]
theorem Px(l:List Int):Un (λf=>l.getD f 0) (FW l 32):=by
 refine⟨λi hi q=>?_,λi j hi o h1 h2 _=>?_,λi hi=>?_⟩
 .rw[Hp l hi hi (λe=>KP i e.symm),Gv]at q|-;have b:=J0 l hi;by_cases e:l.getD i 0=NB
  .exact absurd (b.1 e) q
  .rw[b.2 e];exact bN _
 .rw[Hp l hi o h2,NS l hi o h1 h2];exact bN _
 .rw[Gs l i hi];exact bN _
theorem SX{l:List Int}(d:B_ l):Ab (Aj (FW l 32)) (λf=>l.getD f 0):=λf p=>Wo d.2 (λk=>Cs _ k) f p
theorem Hl{l:List Int}(d:B_ l):∀f,f<32->(λf=>l.getD f 0) f<=NB:=by
 intro f p;show l.getD f 0<=NB;rcases Iz (d.2 f p)with q|q
 .omega
 .unfold NB;omega
theorem IK{l:List Int}(d:B_ l)(r:ovE l=false)(n:Nat):∃R',EO (λf=>l.getD f 0) n=some R'/\Ab (BT l) R'/\∀f,f<32->R' f<=NB:=I0 ((Db d).tc r) (Hl d) (SX d) n
theorem S4{l:List Int}(d:B_ l){n:Nat}{R R':Nat->Int}(h:EO (λf=>l.getD f 0) n=some R)(h2:Kq R=some (R',false)):ovE l=false/\∀f,f<32->R' f=bd (BT l) f:=by
 have x:=Fp (Hl d) n R h;have J:=EW x 1024 (bB _) R' false h2;have hs:=J.same rfl;have A:=T7 x h2;have C:Ku R R:=⟨λf _=>bN _,A.zer,λf g p w k D E=>by rw[<-hs _ (G_ p w (.inl k))];exact A.dou f g p w k D E,λf g p w k D E=>by rw[<-hs _ (G_ p w (.inr k))];exact A.sum f g p w k D E⟩
 have y:∀m R1,EO (λf=>l.getD f 0) m=some R1->∀f,f<32->R1 f<=l.getD f 0:=by
  intro m;induction m with
  |zero=>intro R1 e f _;cases e;exact bN _
  |succ m ih=>
   intro R1 e f p;obtain⟨F,b,e1,e2⟩:=Dq e;have B:=Fp (Hl d) m F e1;exact cd ((EW B 1024 (bB _) _ b e2).le f p) (ih F e1 f p)
 have I:Un R (FW l 32):=by
  have u:=Px l;refine⟨λi hi q=>?_,λi j hi o h1 v q=>?_,u.zer⟩
  .have a:=u.dia i hi q;have b:=y n R h i (by omega);have a':2*l.getD i 0<=FW l 32 (i*8+i):=a;omega
  .have a:l.getD (nf i j) 0<=FW l 32 (i*8+j):=u.off i j hi o h1 v q;have b:=y n R h (nf i j) (DN i hi j o v).1;omega
 have G:=C.un (Db d) I;cases r:ovE l with
 |true=>
  obtain⟨i,hi,q⟩:=Gi r;have:0<=BT l (i*8+opp i):=G.zer i hi;omega
 |false=>
  obtain⟨R1,e,a,hi⟩:=IK d r n;have:R1=R:=bV (e.symm.trans h);subst this;refine⟨rfl,λf p=>?_⟩;rw[hs f p];exact G.eqs ((Db d).tc r) a hi f p
theorem Jg:∀i:Nat,i<8->∀j,j<8->nf i j=nf j i:=by decide +kernel
theorem Qp(L:Nat->Option Int):∀n:Nat,(∀i,i<n->L i=none)\/∃m,(∃i,i<n/\L i=some m)/\∀i,i<n->∀l,L i=some l->l<=m:=by
 intro n;induction n with
 |zero=>exact .inl λi hi=>absurd hi (by omega)
 |succ n ih=>
  cases e:L n with
  |none=>
   rcases ih with h|⟨m,⟨i,hi,q⟩,h⟩
   .refine .inl λi hi=>?_;rcases bX (ch.1 hi)with a|a
    .exact h i a
    .rw[a];exact e
   .refine .inr ⟨m,⟨i,by omega,q⟩,λj s l o=>?_⟩;rcases bX (ch.1 s)with a|a
    .exact h j a l o
    .rw[a,e]at o;cases o
  |some x=>
   rcases ih with h|⟨m,⟨i,hi,q⟩,h⟩
   .refine .inr ⟨x,⟨n,by omega,e⟩,λj s l o=>?_⟩;rcases bX (ch.1 s)with a|a
    .rw[h j a]at o;cases o
    .rw[a,e]at o;cases o;exact bN _
   .by_cases c:m<=x
    .refine .inr ⟨x,⟨n,by omega,e⟩,λj s l o=>?_⟩;rcases bX (ch.1 s)with a|a
     .exact cd (h j a l o) c
     .rw[a,e]at o;cases o;exact bN _
    .refine .inr ⟨m,⟨i,by omega,q⟩,λj s l o=>?_⟩;rcases bX (ch.1 s)with a|a
     .exact h j a l o
     .rw[a,e]at o;cases o;omega
theorem VV(L U:Nat->Option Int)(n:Nat)(h:∀i j,i<n->j<n->∀l u,L i=some l->U j=some u->l<=u):∃t:Int,(∀i,i<n->∀l,L i=some l->l<=t)/\(∀j,j<n->∀u,U j=some u->t<=u):=by
 rcases Qp L n with a|⟨m,⟨i,hi,q⟩,a⟩
 .rcases Qp (λj=>(U j).map λx=> -x) n with b|⟨m,⟨j,s,q⟩,b⟩
  .refine⟨0,λi hi l o=>(by rw[a i hi]at o;cases o),λj s u B=>?_⟩;have:=b j s;rw[B]at this;cases this
  .refine⟨-m,λi hi l o=>(by rw[a i hi]at o;cases o),λk hk u B=>?_⟩;have:=b k hk (-u) (by rw[B];rfl);omega
 .exact⟨m,a,λj s u B=>h i j hi s m u q B⟩
structure SK(P v:Nat->Int)(k:Nat):Prop where
 one:∀i,i<2*k->P i=NB\/sd v i<=P i
 two:∀i j,i<2*k->j<2*k->i≠j->j≠opp i->P (nf i j)=NB\/sd v i+sd v j<=P (nf i j)
def GX(v:Nat->Int)(k:Nat)(t:Int):Nat->Int:=λi=>if i=k then t else v i
theorem Tx(k:Nat):opp (2*k)=2*k+1:=by unfold opp;rw[bA (by omega)]
theorem V9(k:Nat):opp (2*k+1)=2*k:=by unfold opp;rw[a_ (by omega)];omega
theorem F3(v:Nat->Int)(t:Int){i k:Nat}(h:i<2*k):sd (GX v k t) i=sd v i:=by
 unfold sd GX;rw[a_ (show¬i/2=k by omega)]
theorem I_(v:Nat->Int)(t:Int)(k:Nat):sd (GX v k t) (2*k)=t:=by
 unfold sd GX;rw[bA (by omega),bA (by omega)]
theorem JA(v:Nat->Int)(t:Int)(k:Nat):sd (GX v k t) (2*k+1)= -t:=by
 unfold sd GX;rw[a_ (by omega),bA (by omega)]
theorem IL{P V v:Nat->Int}{U:Int}{k:Nat}(hk:k<4)(hU:2*U<NB)(aa:0<=U)(y:∀f,f<32->P f=NB\/P f<=U)(hr:Ku P V)(X:SK V v k):∃t,SK P (GX v k t) (k+1):=by
 have hs:2*k<8:=by omega
 have S:2*k+1<8:=by omega
 have T:=Tx k;have I:=V9 k;have fin:∀f,f<32->P f≠NB->P f<=U:=λf w q=>(y f w).resolve_left q;have Z:∀i,i<2*k->∀c,c<NB->V i<=c->sd v i<=c:=by
  intro i hi c hc o;have:=(X.one i hi).resolve_left (by omega);omega
 have v2:∀i j,i<2*k->j<2*k->i≠j->j≠opp i->∀c,c<NB->V (nf i j)<=c->sd v i+sd v j<=c:=by
  intro i j hi s e1 e2 c hc o;have:=(X.two i j hi s e1 e2).resolve_left (by omega);omega
 have ad:∀i j,i<2*k+1->j<2*k+1->P (if i=2*k then 2*k else nf (2*k) i)≠NB->P (if j=2*k then 2*k+1 else nf (2*k+1) j)≠NB->
   (if i=2*k then 0 else sd v i)+(if j=2*k then 0 else sd v j)<=P (if i=2*k then 2*k else nf (2*k) i)+P (if j=2*k then 2*k+1 else nf (2*k+1) j):=by
  intro i j hi s r p;by_cases W:i=2*k
  .rw[bA W]at r|-;rw[bA W];by_cases C:j=2*k
   .rw[bA C]at p|-;rw[bA C];have z:=hr.zer (2*k) (2*k+1) (by omega) (by omega) ((OS (2*k) hs (2*k+1) S).1 T.symm) r p;omega
   .rw[a_ C]at p|-;rw[a_ C];have t:=WN (2*k+1) S j (by omega) ⟨by omega,by rw[I];omega⟩;rw[I]at t;have n:=(DN (2*k+1) S j (by omega) (by rw[I];omega)).1;have x:=hr.sum (2*k) (nf (2*k+1) j) (by omega) n t.1 r p;rw[t.2.1]at x;have a:=fin _ (by omega) r;have b:=fin _ n p;have:=Z j (by omega) _ (by omega) x;omega
  .rw[a_ W]at r|-;rw[a_ W];have E:=(DN (2*k) hs i (by omega) (by rw[T];omega)).1;have a:=fin _ E r;by_cases C:j=2*k
   .rw[bA C]at p|-;rw[bA C];have t:=WN (2*k) hs i (by omega) ⟨by omega,by rw[T];omega⟩;rw[T]at t;have x:=hr.sum (2*k+1) (nf (2*k) i) (by omega) E t.1 p r;rw[t.2.1]at x;have b:=fin _ (by omega) p;have:=Z i (by omega) _ (by omega) x;omega
   .rw[a_ C]at p|-;rw[a_ C];have H:=(DN (2*k+1) S j (by omega) (by rw[I];omega)).1;have b:=fin _ H p;have t:=ZW i (by omega) (2*k+1) S j (by omega) ⟨by omega,by rw[I];omega,by omega,by rw[I];omega⟩;rw[I,Jg i (by omega) (2*k) hs]at t;by_cases e:j=opp i
    .have z:=hr.zer _ _ E H (t.1 e) r p;rw[e,FR];rw[e]at z;omega
    .by_cases A:j=i
     .have x:=hr.dou _ _ E H (t.2.1 A).1 r p;rw[(t.2.1 A).2]at x;have:=Z i (by omega) _ (by omega) x;rw[A]at this|-;omega
     .have x:=hr.sum _ _ E H (t.2.2 ⟨A,e⟩).1 r p;rw[(t.2.2 ⟨A,e⟩).2]at x;exact v2 i j (by omega) (by omega) (λz=>A z.symm) e _ (by omega) x
 obtain⟨t,hL,hH⟩:=VV (λj=>if P (if j=2*k then 2*k+1 else nf (2*k+1) j)=NB then none else some ((if j=2*k then 0 else sd v j)-P (if j=2*k then 2*k+1 else nf (2*k+1) j)))
  (λi=>if P (if i=2*k then 2*k else nf (2*k) i)=NB then none else some (P (if i=2*k then 2*k else nf (2*k) i)-(if i=2*k then 0 else sd v i))) (2*k+1) (by
   intro j i s hi l u o B;by_cases p:P (if j=2*k then 2*k+1 else nf (2*k+1) j)=NB
   .rw[bA p]at o;cases o
   .by_cases r:P (if i=2*k then 2*k else nf (2*k) i)=NB
    .rw[bA r]at B;cases B
    .rw[a_ p]at o;rw[a_ r]at B;have:=ad i j hi s r p;have:=bV o;have:=bV B
     omega)
 have lo:∀j,j<2*k->P (nf (2*k+1) j)=NB\/ -t+sd v j<=P (nf (2*k+1) j):=by
  intro j s;by_cases q:P (nf (2*k+1) j)=NB
  .exact .inl q
  .have ne:¬j=2*k:=by omega
   have:=hL j (by omega) (sd v j-P (nf (2*k+1) j)) (by simp only[a_ ne,a_ q]);exact .inr (by omega)
 have hi:∀j,j<2*k->P (nf (2*k) j)=NB\/t+sd v j<=P (nf (2*k) j):=by
  intro j s;by_cases q:P (nf (2*k) j)=NB
  .exact .inl q
  .have ne:¬j=2*k:=by omega
   have:=hH j (by omega) (P (nf (2*k) j)-sd v j) (by simp only[a_ ne,a_ q]);exact .inr (by omega)
 refine⟨t,⟨λi ab=>?_,λi j ab ae e1 e2=>?_⟩⟩
 .by_cases c:i<2*k
  .rw[F3 v t c];by_cases q:P i=NB
   .exact .inl q
   .have:=fin i (by omega) q;exact .inr (Z i c _ (by omega) (hr.le i (by omega)))
  .by_cases c2:i=2*k
   .rw[c2,I_];by_cases q:P (2*k)=NB
    .exact .inl q
    .have:=hH (2*k) (by omega) (P (2*k)-0) (by simp only[if_true,a_ q]);exact .inr (by omega)
   .rw[show i=2*k+1 by omega,JA];by_cases q:P (2*k+1)=NB
    .exact .inl q
    .have:=hL (2*k) (by omega) (0-P (2*k+1)) (by simp only[if_true,a_ q]);exact .inr (by omega)
 .by_cases c:i<2*k
  .rw[F3 v t c];by_cases d:j<2*k
   .rw[F3 v t d];by_cases q:P (nf i j)=NB
    .exact .inl q
    .have n:=(DN i (by omega) j (by omega) e2).1;have:=fin _ n q;exact .inr (v2 i j c d e1 e2 _ (by omega) (hr.le _ n))
   .rw[Jg i (by omega) j (by omega),Int.add_comm];by_cases d2:j=2*k
    .rw[d2,I_];exact hi i c
    .rw[show j=2*k+1 by omega,JA];exact lo i c
  .have d:j<2*k:=by
    rcases bW j (2*k)with d|d
    .exact d
    .exfalso;by_cases c2:i=2*k
     .rw[c2,T]at e2;omega
     .rw[show i=2*k+1 by omega,I]at e2;omega
   rw[F3 v t d];by_cases c2:i=2*k
   .rw[c2,I_];exact hi j d
   .rw[show i=2*k+1 by omega,JA];exact lo j d
def VD(P Q:Nat->Int)(f g:Nat):Nat->Int:=
 if P f=NB\/P g=NB then Q
 else if kdT f g=2 then(if(P f+P g)/2<Q (nmT f g)then Bw Q (nmT f g) ((P f+P g)/2)else Q)
 else if kdT f g=3 then(if P f+P g<Q (nmT f g)then Bw Q (nmT f g) (P f+P g)else Q)
 else Q
def Oc(P:Nat->Int):Nat->Nat->Int
 |0=>P
 |m+1=>VD P (Oc P m) (m/32) (m%32)
theorem Tc{Q:Nat->Int}{n:Nat}{c:Int}(x:Nat):(if c<Q n then Bw Q n c else Q) x<=Q x:=by
 split
 .unfold Bw;split
  .rename_i h e;subst e;omega
  .exact bN _
 .exact bN _
theorem Tb{Q:Nat->Int}{n:Nat}{c:Int}:(if c<Q n then Bw Q n c else Q) n<=c:=by
 split
 .rw[CV];exact bN _
 .omega
theorem Ql{Q:Nat->Int}{n:Nat}{c:Int}(x:Nat):(if c<Q n then Bw Q n c else Q) x=Q x\/(x=n/\(if c<Q n then Bw Q n c else Q) x=c):=by
 split
 .unfold Bw;split
  .rename_i e;exact .inr ⟨e,rfl⟩
  .exact .inl rfl
 .exact .inl rfl
theorem PU(P Q:Nat->Int)(f g x:Nat):VD P Q f g x<=Q x:=by
 unfold VD;split
 .exact bN _
 .split
  .exact Tc x
  .split
   .exact Tc x
   .exact bN _
theorem X_(P Q:Nat->Int){f g:Nat}(r:P f≠NB)(p:P g≠NB):(kdT f g=2->VD P Q f g (nmT f g)<=(P f+P g)/2)/\(kdT f g=3->VD P Q f g (nmT f g)<=P f+P g):=by
 unfold VD;rw[a_ (show¬(P f=NB\/P g=NB)from λz=>z.elim r p)];refine⟨λk=>?_,λk=>?_⟩
 .rw[bA k];exact Tb
 .rw[a_ (show¬kdT f g=2 by omega),bA k];exact Tb
theorem Q2(P Q:Nat->Int)(f g x:Nat):VD P Q f g x=Q x\/(P f≠NB/\P g≠NB/\x=nmT f g/\((kdT f g=2/\VD P Q f g x=(P f+P g)/2)\/(kdT f g=3/\VD P Q f g x=P f+P g))):=by
 unfold VD;by_cases q:P f=NB\/P g=NB
 .rw[bA q];exact .inl rfl
 .rw[a_ q];have r:P f≠NB:=λz=>q (.inl z);have p:P g≠NB:=λz=>q (.inr z);by_cases k2:kdT f g=2
  .rw[bA k2];rcases Ql (Q:=Q) (n:=nmT f g) (c:=(P f+P g)/2) x with h|⟨h1,h2⟩
   .exact .inl h
   .exact .inr ⟨r,p,h1,.inl ⟨k2,h2⟩⟩
  .rw[a_ k2];by_cases M:kdT f g=3
   .rw[bA M];rcases Ql (Q:=Q) (n:=nmT f g) (c:=P f+P g) x with h|⟨h1,h2⟩
    .exact .inl h
    .exact .inr ⟨r,p,h1,.inr ⟨M,h2⟩⟩
   .rw[a_ M];exact .inl rfl
theorem T6(P:Nat->Int):∀m x,Oc P m x<=P x
 |0,_=>bN _
 |m+1,x=>cd (PU P _ _ _ x) (T6 P m x)
theorem T5(P:Nat->Int):∀k m,m<k->P (m/32)≠NB->P (m%32)≠NB->(kdT (m/32) (m%32)=2->Oc P k (nmT (m/32) (m%32))<=(P (m/32)+P (m%32))/2)/\(kdT (m/32) (m%32)=3->Oc P k (nmT (m/32) (m%32))<=P (m/32)+P (m%32)):=by
 intro k;induction k with
 |zero=>intro m hm;omega
 |succ k ih=>
  intro m hm r p;rcases bX (ch.1 hm)with e|e
  .obtain⟨a,b⟩:=ih m e r p;exact⟨λz=>cd (PU P _ _ _ _) (a z),λz=>cd (PU P _ _ _ _) (b z)⟩
  .subst e;exact X_ P (Oc P m) r p
theorem PS{P R R':Nat->Int}(hr:Ku R R'){U:Int}(hU:U<NB)(y:∀f,f<32->P f=NB\/P f<=U)(o:∀f,f<32->R f<=P f):∀k,k<=1024->∀f,f<32->R' f<=Oc P k f:=by
 intro k;induction k with
 |zero=>intro _ f w;exact cd (hr.le f w) (o f w)
 |succ k ih=>
  intro hk f w;have hx:k/32<32:=by omega
  have Y:k%32<32:=by omega
  rw[Oc];rcases Q2 P (Oc P k) (k/32) (k%32) f with h|⟨r,p,e,h⟩
  .rw[h];exact ih (by omega) f w
  .have J:=(y _ hx).resolve_left r;have K:=(y _ Y).resolve_left p;have F:=o _ hx;have G:=o _ Y;rcases h with⟨k2,h⟩|⟨M,h⟩
   .rw[h,e];have:=hr.dou _ _ hx Y k2 (by omega) (by omega);omega
   .rw[h,e];have:=hr.sum _ _ hx Y M (by omega) (by omega);omega
theorem PT{P:Nat->Int}{U:Int}(aa:0<=U)(y:∀f,f<32->P f=NB\/P f<=U):∀k,k<=1024->∀f,f<32->Oc P k f=NB\/Oc P k f<=2*U:=by
 intro k;induction k with
 |zero=>
  intro _ f w;rcases y f w with h|h
  .exact .inl h
  .exact .inr (by show P f<=_;omega)
 |succ k ih=>
  intro hk f w;rw[Oc];rcases Q2 P (Oc P k) (k/32) (k%32) f with h|⟨r,p,e,h⟩
  .rw[h];exact ih (by omega) f w
  .have J:=(y _ (show k/32<32 by omega)).resolve_left r;have K:=(y _ (show k%32<32 by omega)).resolve_left p;rcases h with⟨k2,h⟩|⟨M,h⟩
   .rw[h];exact .inr (by omega)
   .rw[h];exact .inr (by omega)
theorem Mf{P R R':Nat->Int}(hr:Ku R R'){U:Int}(hU:U<NB)(y:∀f,f<32->P f=NB\/P f<=U)(o:∀f,f<32->R f<=P f):Ku P (Oc P 1024):=by
 refine⟨λf _=>T6 P 1024 f,λf g w O k r p=>?_,λf g w O k r p=>?_,λf g w O k r p=>?_⟩
 .have J:=(y f w).resolve_left r;have K:=(y g O).resolve_left p;have F:=o f w;have G:=o g O;have:=hr.zer f g w O k (by omega) (by omega);omega
 .have:=T5 P 1024 (f*32+g) (by omega);rw[show(f*32+g)/32=f by omega,show(f*32+g)%32=g by omega]at this;exact(this r p).1 k
 .have:=T5 P 1024 (f*32+g) (by omega);rw[show(f*32+g)/32=f by omega,show(f*32+g)%32=g by omega]at this;exact(this r p).2 k
theorem Zu{N R1 R2 R3 R4:Nat->Int}(h0:Ku N R1)(h1:Ku R1 R2)(h2:Ku R2 R3)(h3:Ku R3 R4)(D:∀f,f<32->N f=NB\/N f<=4000):∃v,SK N v 4:=by
 have n0:(4000:Int)<NB:=by decide
 have E:(2*4000:Int)<NB:=by decide
 have H:(2*(2*4000):Int)<NB:=by decide
 have n3:(2*(2*(2*4000)):Int)<NB:=by decide
 have n4:(2*(2*(2*(2*4000))):Int)<NB:=by decide
 have r0:=Mf h0 n0 D (λ_ _=>bN _);have F:=PT (by decide) D 1024 (bB _);have J:=PS h0 n0 D (λ_ _=>bN _) 1024 (bB _);generalize Oc N 1024=P1 at r0 J F;have r1:=Mf h1 E F J;have G:=PT (by decide) F 1024 (bB _);have K:=PS h1 E F J 1024 (bB _);generalize Oc P1 1024=P2 at r1 K G;have r2:=Mf h2 H G K;have b3:=PT (by decide) G 1024 (bB _);have a3:=PS h2 H G K 1024 (bB _);generalize Oc P2 1024=P3 at r2 a3 b3;have r3:=Mf h3 n3 b3 a3;obtain⟨ta,ka⟩:=IL (k:=0) (v:=λ_=>0) (by decide) n4 (by decide) b3 r3 ⟨λi hi=>absurd hi (by omega),λi j hi=>absurd hi (by omega)⟩;obtain⟨tb,kb⟩:=IL (by decide) n3 (by decide) G r2 ka;obtain⟨tc,kc⟩:=IL (by decide) H (by decide) F r1 kb;obtain⟨td,ac⟩:=IL (by decide) E (by decide) D r0 kc;exact⟨_,ac⟩
theorem YL{l:List Int}{v:Nat->Int}(h:SK (λf=>l.getD f 0) v 4):Ej v (FW l 32):=by
 intro i j hi s;by_cases e:j=opp i
 .rw[e,Gs l i hi,FR];exact .inr (by omega)
 .rw[Hp l hi s e];by_cases A:i=j
  .subst A;rw[Gv];rcases h.one i (by omega)with q|q
   .exact .inl ((J0 l hi).1 q)
   .by_cases z:l.getD i 0=NB
    .exact .inl ((J0 l hi).1 z)
    .rw[(J0 l hi).2 z];have q':sd v i<=l.getD i 0:=q;exact .inr (by omega)
  .rw[NS l hi s A e];exact h.two i j (by omega) (by omega) A e
theorem Ow{l:List Int}(o:B_ l)(he:ovE l=true):EO (λf=>l.getD f 0) 4=none:=by
 cases e4:EO (λf=>l.getD f 0) 4 with
 |none=>rfl
 |some R4=>
  obtain⟨R3,b3,e3,_⟩:=Dq e4;obtain⟨R2,G,e2,_⟩:=Dq e3;obtain⟨R1,F,e1,_⟩:=Dq e2;have e0:EO (λf=>l.getD f 0) 0=some (λf=>l.getD f 0):=rfl;have D:=Hl o
  obtain⟨v,X⟩:=Zu (Hm D e0 e1) (Hm D e1 e2) (Hm D e2 e3) (Hm D e3 e4) (λf w=>by
   rcases Iz (o.2 f w)with q|q
   .exact .inl q
   .exact .inr q.2)
  have:=(YL X).sharp.some;rw[show By (Aj (FW l 32)) 8=ovE l from rfl,he]at this;cases this
def Z2(i j:Nat):List Nat:=
 let x:=i/2
 let y:=if j/2=x then(if x=0 then 1 else 0)else j/2
 let r:=[0,1,2,3].filter λz=>decide (z≠x)&&decide (z≠y)
 let jj:=if j/2=x then 2*y else j
 [i,opp i,jj,opp jj,2*r.getD 0 0,2*r.getD 0 0+1,2*r.getD 1 0,2*r.getD 1 0+1]
def Mu(f a:Nat):Nat:=(Z2 (fs f) (ss f)).getD a 0
def GZ(f b:Nat):Nat:=(List.range 8).findIdx λa=>Mu f a==b
theorem Kb:∀f:Nat,f<32->(∀a,a<8->Mu f a<8/\Mu f (opp a)=opp (Mu f a)/\GZ f (Mu f a)=a)/\(∀b,b<8->GZ f b<8/\Mu f (GZ f b)=b)/\Mu f 0=fs f/\(8<=f->Mu f 2=ss f):=by decide +kernel
def Uv(f:Nat)(C:Nat->Int):Nat->Int:=λa=>C (Mu f (a/8)*8+Mu f (a%8))
theorem Ch(f:Nat)(C:Nat->Int){i j:Nat}(o:j<8):Uv f C (i*8+j)=C (Mu f i*8+Mu f j):=by
 unfold Uv;rw[show(i*8+j)/8=i by omega,show(i*8+j)%8=j by omega]
theorem TC.trn{C:Nat->Int}(h:TC C){f:Nat}(d:f<32):TC (Uv f C):=by
 obtain⟨l,_,_,_⟩:=Kb f d;refine⟨λk hk i j hi o=>?_,λi hi=>?_,λi hi=>?_,λi j hi o h1 h2=>?_,λi j hi o=>?_,λa ha=>?_⟩
 .rw[Ch f C o,Ch f C (Ah hk),Ch f C o,(l k hk).2.1];exact h.tri (Mu f k) (l k hk).1 (Mu f i) (Mu f j) (l i hi).1 (l j o).1
 .rw[Ch f C (Ah hi),(l i hi).2.1];exact h.zero _ (l i hi).1
 .rw[Ch f C hi];exact h.even _ (l i hi).1
 .rw[Ch f C hi]at h1;rw[Ch f C o]at h2;rw[Ch f C o,Ch f C hi,Ch f C o];exact h.half _ _ (l i hi).1 (l j o).1 h1 h2
 .rw[Ch f C o,Ch f C hi];exact h.sym _ _ (l i hi).1 (l j o).1
 .have:=h.top (Mu f (a/8)*8+Mu f (a%8)) (by have:=(l (a/8) (by omega)).1;have:=(l (a%8) (by omega)).1;omega);exact this
theorem TC.rd{C:Nat->Int}(h:TC C):Ku (bd C) (bd C):=by
 refine⟨λf _=>bN _,λf g d p k G H=>(h.sum d p G H).1 k,λf g d p k G H=>?_,λf g d p k G H=>(h.sum d p G H).2.2 k⟩;have:=(h.sum d p G H).2.1 k;omega
theorem TC.bd_top{C:Nat->Int}(h:TC C){f:Nat}(d:f<32):bd C f=NB\/bd C f<=432000:=by
 have k:fs f*8+ss f<64:=by have:=D5 f d;have:=D7 f d;omega
 have t:=h.top _ k;unfold bd;split
 .rename_i q;have:=t.resolve_left q.2;have:=AW (C (fs f*8+ss f));exact .inr (by omega)
 .exact t
theorem VC:(2*432000:Int)<NB:=by decide
theorem TC.sat{C v:Nat->Int}(h:TC C)(k:SK (bd C) v 4):Ej v C:=by
 intro i j hi o;by_cases e:j=opp i
 .rw[e,h.zero i hi,FR];exact .inr (by omega)
 .by_cases O:i=j
  .subst O;by_cases q:C (i*8+i)=NB
   .exact .inl q
   .obtain⟨b1,b2⟩:=(h.lo hi).2 q;have:=(k.one i (by omega)).resolve_left b2;exact .inr (by omega)
  .have:=k.two i j (by omega) (by omega) O e;rw[IC h.sym hi o O e]at this;exact this
def K_(v:Nat->Int)(f:Nat):Int:=if f<8 then sd v f else sd v (fs f)+sd v (ss f)
theorem Q6{f:Nat}(d:f<32){b:Nat}(hb:b<8):GZ f (opp b)=opp (GZ f b):=by
 obtain⟨l,w,_,_⟩:=Kb f d;obtain⟨X,a2⟩:=w b hb;have:=(l (opp (GZ f b)) (Ah X)).2.2;rw[(l (GZ f b) X).2.1,a2]at this;exact this
def RA(T:List Nat)(f g:Nat):List Nat:=
 if kdT f g=2 then(if(T.getD f 0+T.getD g 0+1)/2<=T.getD (nmT f g) 0 then T else T.set (nmT f g) ((T.getD f 0+T.getD g 0+1)/2))
 else if kdT f g=3 then(if T.getD f 0+T.getD g 0<=T.getD (nmT f g) 0 then T else T.set (nmT f g) (T.getD f 0+T.getD g 0))
 else T
def aE:List (List Nat):=[[1,1,1,1,1,1,1,1,1,1,1,1,1,1,1,1,1,1,1,1,1,1,1,1,1,1,1,1,1,1,1,1],
 [7,7,3,3,9,9,9,9,4,8,4,9,2,2,3,3,2,2,3,3,6,6,7,7,6,6,7,7,1,1,1,1],
 [79,79,75,75,63,63,27,27,4,8,4,9,16,20,16,21,52,56,52,57,12,24,12,25,48,60,48,61,36,72,36,73],
 [91,104,95,100,63,63,27,27,4,8,4,9,28,33,41,46,64,69,77,82,32,37,37,42,68,73,73,78,36,72,36,73],
 [165,252,95,100,206,211,27,27,65,70,152,157,28,33,41,46,138,143,225,230,106,111,111,116,68,73,73,78,179,184,184,189],
 [533,988,95,100,206,211,758,763,433,438,888,893,322,327,777,782,138,143,225,230,106,111,111,116,658,663,663,668,547,552,552,557],
 [533,988,317,544,428,433,758,763,655,882,1110,1337,766,771,1221,1226,138,143,225,230,106,111,111,116,880,885,1107,1112,991,996,996,1001],
 [533,988,2309,4528,428,433,3416,3421,2647,4866,3102,5321,766,771,1221,1226,3754,3759,4209,4214,1876,1881,4095,4100,880,885,1107,1112,2983,2988,2988,2993],
 [533,988,2309,4528,6404,12385,9392,9397,2647,4866,3102,5321,6742,12723,7197,13178,9730,9735,10185,10190,7852,13833,10071,16052,10840,10845,13059,13064,2983,2988,2988,2993],
 [10412,10867,3830,6049,17804,23785,20792,20797,4363,14940,4818,16721,6937,12918,8718,14699,9925,9930,11706,11711,11755,17736,19950,25931,14743,14748,22938,22943,2983,2988,2988,2993],
 [176768,177223,170186,172405,142571,148552,62381,62386,4363,14940,4818,16721,28216,54507,28671,56288,114382,134697,114837,136478,21634,59325,23853,67520,107800,139515,110019,147710,80185,163368,86166,169349],
 [196526,218065,201344,213247,142571,148552,62381,62386,4363,14940,4818,16721,47974,75591,69513,97130,134140,155781,155679,177320,52792,80409,64695,92312,138958,160599,150861,172502,80185,163368,86166,169349],
 [341630,508273,201344,213247,411143,438760,62381,62386,128383,140286,295026,306929,47974,75591,69513,97130,279244,300885,445887,467528,197896,225513,209799,237416,138958,160599,150861,172502,348757,370398,376374,398015],
 [1088402,2001817,201344,213247,411143,438760,1534289,1555930,875155,887058,1788570,1800473,649642,677259,1563057,1590674,279244,300885,445887,467528,197896,225513,209799,237416,1321042,1342683,1332945,1354586,1095529,1117170,1123146,1144787],
 [1088402,2001817,636656,1083871,846455,874072,1534289,1555930,1310467,1757682,2223882,2671097,1520266,1547883,2433681,2461298,279244,300885,445887,467528,197896,225513,209799,237416,1756354,1777995,2203569,2225210,1966153,1987794,1993770,2015411],
 [1088402,2001817,4618220,9046999,846455,874072,6821789,6843430,5292031,9720810,6205446,10634225,1520266,1547883,2433681,2461298,7495600,7517241,8409015,8430656,3744148,3771765,8172927,8200544,1756354,1777995,2203569,2225210,5947717,5969358,5975334,5996975],
 [1088402,2001817,4618220,9046999,12791147,24763456,18766481,18788122,5292031,9720810,6205446,10634225,13464958,25437267,14378373,26350682,19440292,19461933,20353707,20375348,15688840,27661149,20117619,32089928,21664174,21685815,26092953,26114594,5947717,5969358,5975334,5996975],
 [20934059,21847474,7708439,12137218,35727023,47699332,41702357,41723998,8796841,29981058,9710256,33570101,13879549,25851858,17468592,29440901,19854883,19876524,23443926,23465567,23589805,35562114,39963276,51935585,29565139,29586780,45938610,45960251,5947717,5969358,5975334,5996975],
 [354639479,355552894,341413859,345842638,286006088,297978397,125128712,125150353,8796841,29981058,9710256,33570101,56661082,109278213,57574497,112867256,229489126,270155589,230402541,273744632,43435462,118988469,47864241,135361940,216263506,279865845,220692285,296239316,160855735,327730086,172828044,339702395],
 [394330793,437611150,404041049,427900894,286006088,297978397,125128712,125150353,8796841,29981058,9710256,33570101,96352396,151645155,139632753,194925512,269180440,312522531,312460797,355802888,106062652,161355411,129922497,185215256,278890696,322232787,302750541,346092632,160855735,327730086,172828044,339702395],
 [685608701,1020166966,404041049,427900894,825241454,880534213,125128712,125150353,257707807,281567652,592266072,616125917,96352396,151645155,139632753,194925512,560458348,603800439,895016613,938358704,397340560,452633319,421200405,476493164,278890696,322232787,302750541,346092632,700091101,743433192,755383860,798725951],
 [2184425753,4017801070,404041049,427900894,825241454,880534213,3079442366,3122784457,1756524859,1780384704,3589900176,3613760021,1303891540,1359184299,3137266857,3192559616,560458348,603800439,895016613,938358704,397340560,452633319,421200405,476493164,2651541472,2694883563,2675401317,2718743408,2198908153,2242250244,2254200912,2297543003],
 [2184425753,4017801070,1277874773,2175568342,1699075178,1754367937,3079442366,3122784457,2630358583,3528052152,4463733900,5361427469,3051558988,3106851747,4884934305,4940227064,560458348,603800439,895016613,938358704,397340560,452633319,421200405,476493164,3525375196,3568717287,4423068765,4466410856,3946575601,3989917692,4001868360,4045210451],
 [2184425753,4017801070,9269660825,18159140446,1699075178,1754367937,13692729590,13736071681,10622144635,19511624256,12455519952,21344999573,3051558988,3106851747,4884934305,4940227064,15045213400,15088555491,16878588717,16921930808,7515292888,7570585647,16404772509,16460065268,3525375196,3568717287,4423068765,4466410856,11938361653,11981703744,11993654412,12036996503],
 [2184425753,4017801070,9269660825,18159140446,25674433334,49705084249,37668087746,37711429837,10622144635,19511624256,12455519952,21344999573,27026917144,51057568059,28860292461,52890943376,39020571556,39063913647,40853946873,40897288964,31490651044,55521301959,40380130665,64410781580,43484305456,43527647547,52373785077,52417127168,11938361653,11981703744,11993654412,12036996503],
 [42017680670,43851055987,15471887648,24361367269,71709915074,95740565989,83703569486,83746911577,17656313401,60176821116,19489688718,67380481313,27858859087,51889510002,35062519284,59093170199,39852513499,39895855590,47056173696,47099515787,47348547805,71379198720,80213385582,104244036497,59342202217,59385544308,92207039994,92250382085,11938361653,11981703744,11993654412,12036996503],
 [711819604922,713652980239,685273811900,694163291521,574061358263,598092009178,251154050549,251197392640,17656313401,60176821116,19489688718,67380481313,113727595744,219339991065,115560971061,226543651262,460622212282,542247298779,462455587599,549450958976,87181802722,238829679783,96071282343,271694517560,434076419260,561736987497,442965898881,594601825274,322863965623,657808269840,346894616538,681838920755],
 [791486114756,878356284787,810975803474,858866596069,574061358263,598092009178,251154050549,251197392640,17656313401,60176821116,19489688718,67380481313,193394105578,304376785779,280264275609,391246955810,540288722116,627284093493,627158892147,714154263524,212883794296,323866474497,260774586891,371757267092,559778410834,646773782211,607669203429,694664574806,322863965623,657808269840,346894616538,681838920755],
 [1376127176144,2047638407563,810975803474,858866596069,1656391451753,1767374131954,251154050549,251197392640,517260580075,565151372670,1188771811494,1236662604089,193394105578,304376785779,280264275609,391246955810,1124929783504,1211925154881,1796441014923,1883436386300,797524855684,908507535885,845415648279,956398328480,559778410834,646773782211,607669203429,694664574806,1405194059113,1492189430490,1516176739314,1603172110691],
 [4384493345948,8064370747171,810975803474,858866596069,1656391451753,1767374131954,6180934360871,6267929732248,3525626749879,3573517542474,7205504151102,7253394943697,2617119213994,2728101894195,6296996615217,6407979295418,1124929783504,1211925154881,1796441014923,1883436386300,797524855684,908507535885,845415648279,956398328480,5322067764802,5409063136179,5369958557397,5456953928774,4413560228917,4500555600294,4524542909118,4611538280495],
 [4384493345948,8064370747171,2564898987638,4366712964397,3410314635917,3521297316118,6180934360871,6267929732248,5279549934043,7081363910802,8959427335266,10761241312025,6124965582322,6235948262523,9804842983545,9915825663746,1124929783504,1211925154881,1796441014923,1883436386300,797524855684,908507535885,845415648279,956398328480,7075990948966,7162986320343,8877804925725,8964800297102,7921406597245,8008401968622,8032389277446,8119384648823],
 [4384493345948,8064370747171,18605690233706,36448295456533,3410314635917,3521297316118,27483495159431,27570490530808,21320341180111,39162946402938,25000218581334,42842823804161,6124965582322,6235948262523,9804842983545,9915825663746,30198146105836,30285141477213,33878023507059,33965018878436,15084392917588,15195375597789,32926998140415,33037980820616,7075990948966,7162986320343,8877804925725,8964800297102,23962197843313,24049193214690,24073180523514,24160175894891],
 [4384493345948,8064370747171,18605690233706,36448295456533,51532688374121,99766044792526,75605868897635,75692864269012,21320341180111,39162946402938,25000218581334,42842823804161,54247339320526,102480695738931,57927216721749,106160573140154,78320519844040,78407515215417,82000397245263,82087392616640,63206766655792,111440123074197,81049371878619,129282728297024,87279947179306,87366942550683,105122552402133,105209547773510,23962197843313,24049193214690,24073180523514,24160175894891]]
def tb(c:Nat):List Nat:=aE.getD c []
def ZZ(T:List Nat)(s:Nat):Nat->List Nat
 |0=>T
 |n+1=>RA (ZZ T s n) ((s+n)/32%32) ((s+n)%32)
theorem WR:∀c:Nat,c<32->ZZ (tb c) (c*128) 128=tb (c+1):=by decide +kernel
def Ks(m:Nat):List Nat:=ZZ (tb (m/128)) (m/128*128) (m%128)
theorem Io{m:Nat}(u:m<4096):Ks (m+1)=RA (Ks m) (m/32%32) (m%32):=by
 have e:m/128*128+m%128=m:=by omega
 have h:ZZ (tb (m/128)) (m/128*128) (m%128+1)=RA (Ks m) (m/32%32) (m%32):=by
  show RA (ZZ _ _ _) ((m/128*128+m%128)/32%32) ((m/128*128+m%128)%32)=_;rw[e];rfl
 rw[<-h];by_cases c:m%128+1<128
 .unfold Ks;rw[show(m+1)/128=m/128 by omega,show(m+1)%128=m%128+1 by omega]
 .rw[show m%128+1=128 by omega,WR (m/128) (by omega)];unfold Ks;rw[show(m+1)/128=m/128+1 by omega,show(m+1)%128=0 by omega];rfl
theorem WX(T:List Nat)(f g:Nat):(RA T f g).length=T.length:=by
 unfold RA;split
 .split
  .rfl
  .exact b8
 .split
  .split
   .rfl
   .exact b8
  .rfl
theorem My:∀m,m<=4096->(Ks m).length=32:=by
 intro m;induction m with
 |zero=>intro _;rfl
 |succ m ih=>intro u;rw[Io (by omega),WX];exact ih (by omega)
theorem IR(T:List Nat)(n x c:Nat)(hn:n<T.length):(T.set n c).getD x 0=if x=n then c else T.getD x 0:=by
 by_cases e:x=n
 .subst e;simp[List.getD,hn]
 .rw[a_ e];simp[List.getD,List.getElem?_set_ne (λz=>e z.symm)]
theorem Pv{T:List Nat}(j:T.length=32){f g:Nat}(d:f<32)(t:g<32):(∀x,T.getD x 0<=(RA T f g).getD x 0)/\(kdT f g=2->T.getD f 0+T.getD g 0<=2*(RA T f g).getD (nmT f g) 0)/\(kdT f g=3->T.getD f 0+T.getD g 0<=(RA T f g).getD (nmT f g) 0):=by
 by_cases k2:kdT f g=2
 .have hn:=G_ d t (.inl k2);unfold RA;rw[bA k2];by_cases c:(T.getD f 0+T.getD g 0+1)/2<=T.getD (nmT f g) 0
  .rw[bA c];exact⟨λ_=>bB _,λ_=>by omega,λi=>absurd (k2.symm.trans i) (by decide)⟩
  .rw[a_ c];refine⟨λx=>?_,λ_=>?_,λi=>absurd (k2.symm.trans i) (by decide)⟩
   .rw[IR _ _ _ _ (by omega)];split
    .rename_i e;rw[e];omega
    .exact bB _
   .rw[IR _ _ _ _ (by omega),bA rfl];omega
 .by_cases i:kdT f g=3
  .have hn:=G_ d t (.inr i);unfold RA;rw[a_ k2,bA i];by_cases c:T.getD f 0+T.getD g 0<=T.getD (nmT f g) 0
   .rw[bA c];exact⟨λ_=>bB _,λz=>absurd z k2,λ_=>c⟩
   .rw[a_ c];refine⟨λx=>?_,λz=>absurd z k2,λ_=>?_⟩
    .rw[IR _ _ _ _ (by omega)];split
     .rename_i e;rw[e];omega
     .exact bB _
    .rw[IR _ _ _ _ (by omega),bA rfl];exact bB _
  .unfold RA;rw[a_ k2,a_ i];exact⟨λ_=>bB _,λz=>absurd z k2,λz=>absurd z i⟩
theorem Kg(m:Nat):∀k x,m+k<=4096->(Ks m).getD x 0<=(Ks (m+k)).getD x 0
 |0,_,_=>bB _
 |k+1,x,h=>by
  have a:=Kg m k x (by omega);have b:=(Pv (My (m+k) (by omega)) (show(m+k)/32%32<32 by omega) (show(m+k)%32<32 by omega)).1 x;rw[show m+(k+1)=(m+k)+1 by omega,Io (by omega)];omega
theorem RC:(tb 32).length=32/\(tb 32).all (λx=>decide (x<=281474976710656))=true:=by decide +kernel
theorem SC{m:Nat}(u:m<=4096){x:Nat}(hx:x<32):(Ks m).getD x 0<=281474976710656:=by
 have h:=List.all_eq_true.1 RC.2;have a:=Kg m (4096-m) x (by omega);have e:Ks (m+(4096-m))=tb 32:=by rw[show m+(4096-m)=4096 by omega];rfl
 rw[e]at a;have o:=RC.1
 have b:=h ((tb 32).getD x 0) (by
  rw[List.getD,bP (by omega)]
  exact List.getElem_mem _)
 have:=ce b;omega
def Yo(m:Nat)(R:Nat->Int):Prop:=∀f,f<32-> -(4000*((Ks m).getD f 0:Int))<=R f
theorem WJ{m:Nat}(u:m<4096){R:Nat->Int}(h:Yo m R){b:Bool}{R':Nat->Int}{F:Bool}{f g:Nat}(I:f=m/32%32)(J:g=m%32)(e:Lw R b f g=some (R',F)):Yo (m+1) R':=by
 have d:f<32:=by omega
 have t:g<32:=by omega
 have s:=Mp R b d t;rw[e]at s;have j:=Pv (My m (by omega)) d t;have C:Ks (m+1)=RA (Ks m) f g:=by rw[Io u,I,J]
 cases s with
 |same _=>
  intro x hx;have:=h x hx;have:=j.1 x;rw[C];omega
 |put n c q1 q2 hn en hc hk=>
  intro x hx;rw[C];unfold Bw;split
  .rename_i ex;have a:=h f d;have a':=h g t;rcases hk with⟨k,v⟩|⟨k,v⟩
   .have:=j.2.1 k;rw[ex,en,v];omega
   .have:=j.2.2 k;rw[ex,en,v];omega
  .have:=h x hx;have:=j.1 x;omega
theorem T8{r:Nat}(hr:r<4){R:Nat->Int}(h:Yo (r*1024) R):∀k,k<=1024->∀R' b,rF R k=some (R',b)->Yo (r*1024+k) R':=by
 intro k;induction k with
 |zero=>intro _ R' b e;rw[rF]at e;cases e;rw[bZ];exact h
 |succ k ih=>
  intro hk R' b e;rw[rF]at e;rw[<-bS];generalize hp:rF R k=p at e
  match p,hp,e with
  |some (R1,b1),hp,e=>
   exact WJ (by omega) (ih (by omega) R1 b1 hp) (by omega) (by omega) e
theorem Vr{R:Nat->Int}(h:∀f,f<32-> -4000<=R f):∀n,n<=4->∀R',EO R n=some R'->Yo (n*1024) R':=by
 intro n;induction n with
 |zero=>
  intro _ R' e;cases e
  intro f d;have:=h f d;have:(Ks (0*1024)).getD f 0=1:=(show∀f:Nat,f<32->(Ks (0*1024)).getD f 0=1 by decide +kernel) f d;rw[this];omega
 |succ n ih=>
  intro hn R' e;obtain⟨R1,b,e1,e2⟩:=Dq e;rw[show(n+1)*1024=n*1024+1024 by omega];exact T8 (by omega) (ih (by omega) R1 e1) 1024 (bB _) R' b e2
def Wl(R:Nat->Int):Prop:=∀k,k<=1024->∀R' b,rF R k=some (R',b)->∀f,f<32-> -2000000000000000000<=R' f/\R' f<=1000000
theorem QG{M:Nat->Int}{L:Int}(hL:0<=L)(h:Lo L M){f:Nat}(d:f<32): -L-1<=bd M f:=by
 have a:=D5 f d;have b:=D7 f d;have:=h (fs f*8+ss f) (by omega);unfold bd;split
 .have:=AW (M (fs f*8+ss f));omega
 .omega
theorem Vj{l:List Int}(o:B_ l){n:Nat}{R:Nat->Int}(h:EO (λf=>l.getD f 0) n=some R):Wl R:=by
 have hi:=Fp (Hl o) n R h;intro k hk R' b e f d;have K:R' f<=1000000:=by
  have:=(EW hi k hk R' b e).le f d;have:=hi f d;unfold NB at this;omega
 refine⟨?_,K⟩;cases w:ovE l with
 |true=>
  have hn:n<4:=by
   rcases bW n 4 with c|c
   .exact c
   .have:=IU (Ow o w) (n-4);rw[show 4+(n-4)=n by omega,h]at this;cases this
  have a:=T8 hn (Vr (λf d=>by
   show -4000<=l.getD f 0;rcases Iz (o.2 f d)with q|q
   .rw[q];decide
   .exact q.1) n (by omega) R h) k hk R' b e f d
  have c:=SC (m:=n*1024+k) (by omega) d;omega
 |false=>
  have j:=(Db o).tc w;obtain⟨R1,e1,a,A⟩:=IK o w n;have:R1=R:=bV (e1.symm.trans h);subst this;obtain⟨D,G,e2,E,_⟩:=KR j a A k hk;have H:(R',b)=(D,G):=bV (e.symm.trans e2);cases H
  have x:=E f d;have B:Lo (8000*6^8+1) (Aj (FW l 32)):=Kc (λa _=>(EA l 32 o.2 a).1);have y: -(8000*6^8+1)-1<=bd (Aj (FW l 32)) f:=QG (by decide) B d;have z:(8000*6^8+1:Int)=13436928001:=by decide
  rw[z]at y;have x':bd (Aj (FW l 32)) f<=R' f:=x;omega
end Go.Proofs.YtffajooegiempaaGreatDoor
