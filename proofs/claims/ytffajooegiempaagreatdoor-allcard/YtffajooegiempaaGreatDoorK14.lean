import Derived.Test.YtffajooegiempaaGreatDoorK13
set_option maxRecDepth 100000
set_option maxHeartbeats 6400000
namespace Go.Proofs.YtffajooegiempaaGreatDoor
open Go.RowKit Go.Proofs.Tryz
variable {m m':Rd}
def nz(l:List Int):Nat:=l.countP λx=>decide (x≠0)
theorem C2(a:Int)(l:List Int):nz (a::l)=nz l+if a=0 then 0 else 1:=by
 unfold nz;rw[List.countP_cons];by_cases h:a=0
 .rw[bA h,a_ (by simpa using h)]
 .rw[a_ h,bA (by simpa using h)]
theorem To:∀(l:List Int)(v:Nat)(x:Int),nz (l.set v x)<=nz l+1:=by
 intro l;induction l with
 |nil=>intro v x;simp
 |cons a l ih=>
  intro v x;cases v with
  |zero=>
   rw[List.set_cons_zero,C2,C2];split<;>split<;>omega
  |succ v=>
   rw[List.set_cons_succ,C2,C2];have:=ih v x;omega
def Gu(x:Int):Nat:=if x=61\/x=118\/x=86\/x=99\/x=67 then 0 else if x=100\/x=101 then 1 else 2
structure Cn(m:Rd):Prop where
 all:∀s,s∈m.st->nz s.sg<=2
 cur:nz (cur m).sg<=Gu m.state
theorem I4(x:Int):Gu x<=2:=by unfold Gu;split<;>(try split)<;>omega
theorem Cn.of(h:Cn m)(e:m'.st=m.st)(g:Gu m.state<=Gu m'.state):Cn m':=by
 refine⟨λs hs=>h.all s (e▸hs),?_⟩;have:Go.Proofs.YtffajooegiempaaGreatDoor.cur m'=Go.Proofs.YtffajooegiempaaGreatDoor.cur m:=by unfold Go.Proofs.YtffajooegiempaaGreatDoor.cur;rw[e]
 rw[this];exact cN h.cur g
theorem Cn.setC(h:Cn m){s:St}{n:Nat}(hs:nz s.sg<=n)(hn:n<=2)(ok:m.state≠115)(z:Ok m)(e:m'.st=(AE m s).st)(g:n<=Gu m'.state):Cn m':=by
 have hp:=z.some_ ok;refine⟨λt r=>?_,?_⟩
 .rw[e]at r;rcases Ft r with q|q
  .exact h.all t q
  .rw[q];omega
 .have:Go.Proofs.YtffajooegiempaaGreatDoor.cur m'=s:=by
   unfold Go.Proofs.YtffajooegiempaaGreatDoor.cur;rw[e];unfold AE;simp[List.getD,show m.st.length-1<m.st.length by omega]
  rw[this];omega
theorem Cn.begin_(h:Cn m){k v x:Int}(hx:Gu x=0)(e:BN m k v x=some m'):Cn m':=by
 unfold BN at e;split at e
 .cases e
 .cases e
  refine⟨λs hs=>?_,?_⟩
  .rcases cY.1 hs with hs|hs
   .exact h.all s hs
   .rw[List.mem_singleton.1 hs];show nz [0,0,0,0]<=2;decide
  .show nz (Go.Proofs.YtffajooegiempaaGreatDoor.cur _).sg<=Gu x;rw[hx];unfold Go.Proofs.YtffajooegiempaaGreatDoor.cur;simp[List.getD];decide
theorem Cn.shut(h:Cn m)(hs:m.state=115)(e:Ba m=some m'):Cn m':=by
 have j:∀(s:St),s.sg=(m.st.getD (top m).of_ AY).sg->∀t,t∈m.st.set (top m).of_ s->nz t.sg<=2:=by
  intro s i t r;rcases cL r with q|q
  .exact h.all t q
  .rw[q,i,bG];cases e:m.st[(top m).of_]? with
   |none=>decide
   |some u=>exact h.all u (bR e)
 have C:∀(s:St)(w:Rd),w.st=m.st.set (top m).of_ s->s.sg=(m.st.getD (top m).of_ AY).sg->nz (Go.Proofs.YtffajooegiempaaGreatDoor.cur w).sg<=2:=by
  intro s w e2 i;unfold Go.Proofs.YtffajooegiempaaGreatDoor.cur;rw[e2,bG];cases K:(m.st.set (top m).of_ s)[(m.st.set (top m).of_ s).length-1]? with
  |none=>decide
  |some u=>exact j s i u (bR K)
 simp only[Ba]at e;split at e
 .cases e
  exact⟨j _ rfl,C _ _ rfl rfl⟩
 .cases e
  refine⟨j _ rfl,?_⟩;show _<=Gu m.state;rw[hs];exact C _ _ rfl rfl
theorem Cn.digit(h:Cn m)(ok:Ok m)(f:m.state≠115){c x:Int}{pos:Bool}(e:AT m c pos x=some m')(g:Gu m.state<=Gu x):Cn m':=by
 obtain⟨d,u,_,_,rfl⟩:=Gl e;exact h.setC (s:={Go.Proofs.YtffajooegiempaaGreatDoor.cur m with num:=10*u+(c-48)}) (n:=Gu m.state) h.cur (I4 _) f ok rfl g
theorem Cn.signTo(h:Cn m)(ok:Ok m)(f:m.state≠115)(v:Nat)(y x:Int)(g:Gu m.state+1<=Gu x):Cn (Bp m v y x):=by
 have:=I4 x;have hc:=h.cur;have hn:=To (Go.Proofs.YtffajooegiempaaGreatDoor.cur m).sg v y;exact h.setC (s:={Go.Proofs.YtffajooegiempaaGreatDoor.cur m with sg:=(Go.Proofs.YtffajooegiempaaGreatDoor.cur m).sg.set v y}) (n:=Gu m.state+1) (by show nz ((Go.Proofs.YtffajooegiempaaGreatDoor.cur m).sg.set v y)<=_;omega) (by omega) f ok rfl g
theorem Cn.plain(h:Cn m)(g:Gu m.state<=2){c:Int}(e:Ac m c=some m'):Cn m':=by
 unfold Ac at e;split at e
 .split at e
  .cases e;exact h.of rfl g
  .cases e
 .split at e
  .cases e
  .cases e;exact h.of rfl g
theorem Cn.value(h:Cn m)(ok:Ok m){c:Int}(aa:m.state=118\/m.state=86\/m.state=120\/m.state=121\/m.state=110)(e:AO m c=some m'):Cn m':=by
 have f:m.state≠115:=by omega
 have b:=I4 m.state;have D:Cn (CW m):=h.setC (s:={Go.Proofs.YtffajooegiempaaGreatDoor.cur m with num:=m.sign*(Go.Proofs.YtffajooegiempaaGreatDoor.cur m).num}) (n:=Gu m.state) h.cur b f ok rfl b;unfold AO at e;split at e
 .rename_i o;have hz:Gu m.state=0:=by rw[o];rfl
  split at e
  .cases e;exact h.setC (s:={Go.Proofs.YtffajooegiempaaGreatDoor.cur m with star:=true}) (n:=Gu m.state) h.cur b f ok rfl b
  split at e
  .cases e;exact h.of rfl (by omega)
  split at e
  .cases e;exact h.signTo ok f _ 1 120 (by rw[hz];decide)
  .exact Cn.digit (m:={m with sign:=1}) (h.of rfl (bB _)) ⟨ok.states,ok.some_,ok.len,ok.oplen,ok.ofs,by show -1<=(1:Int)/\(1:Int)<=1;omega,ok.digs,ok.nums,ok.sgl,ok.inNum,ok.open_⟩ f e b
 split at e
 .rename_i o p;have hz:Gu m.state=0:=by rw[p];rfl
  split at e
  .cases e;exact h.signTo ok f _ m.sign 120 (by rw[hz];decide)
  .exact h.digit ok f e b
 split at e
 .split at e
  .cases e;exact h.of rfl b
  split at e
  .cases e;exact h.of rfl b
  split at e
  .cases e;exact D
  .cases e
 split at e
 .exact h.digit ok f e b
 .split at e
  .cases e;exact D
  .exact h.digit ok f e b
theorem Qi(m:Rd):Gu (AG m)=2:=by unfold AG;split<;>rfl
theorem Cn.cond(h:Cn m)(ok:Ok m)(f:m.state≠115){c:Int}(e:AF m c=some m'):Cn m':=by
 have b:=I4 m.state;unfold AF at e;by_cases o:m.state=99
 .rw[bA o]at e;have hz:Gu m.state=0:=by rw[o];rfl
  split at e
  .cases e;exact h.setC (s:={Go.Proofs.YtffajooegiempaaGreatDoor.cur m with star:=true}) (n:=Gu m.state) h.cur b f ok rfl (by show _<=Gu (AG m);rw[Qi];exact b)
  split at e
  .cases e;exact h.of rfl (by omega)
  split at e
  .cases e;exact h.signTo ok f _ 1 100 (by rw[hz];decide)
  .cases e
 rw[a_ o]at e;by_cases p:m.state=67
 .rw[bA p]at e;have hz:Gu m.state=0:=by rw[p];rfl
  split at e
  .cases e;exact h.signTo ok f _ m.sign 100 (by rw[hz];decide)
  .cases e
 rw[a_ p]at e;by_cases A:m.state=100
 .rw[bA A]at e;have hz:Gu m.state=1:=by rw[A];rfl
  split at e
  .cases e;exact h.of rfl (by rw[hz];show 1<=Gu 101;decide)
  split at e
  .cases e;exact h.of rfl (by rw[hz];show 1<=Gu 101;decide)
  split at e
  .cases e;exact h.of rfl (by rw[hz];show 1<=Gu 60;decide)
  .cases e
 rw[a_ A]at e;by_cases B:m.state=101
 .rw[bA B]at e;have hz:Gu m.state=1:=by rw[B];rfl
  split at e
  .split at e
   .cases e;exact h.signTo ok f _ m.sign 102 (by rw[hz];decide)
   .cases e
  .cases e
 rw[a_ B]at e;by_cases E:m.state=102
 .rw[bA E]at e;split at e
  .cases e;exact h.of rfl b
  .cases e
 rw[a_ E]at e;by_cases F:m.state=60
 .rw[bA F]at e;split at e
  .cases e;exact h.of rfl b
  .cases e
 rw[a_ F]at e;by_cases G:m.state=98
 .rw[bA G]at e;split at e
  .cases e;exact h.of rfl b
  .exact h.digit ok f e b
 rw[a_ G]at e;by_cases H:m.state=66
 .rw[bA H]at e;exact h.digit ok f e b
 rw[a_ H]at e;by_cases I:m.state=109
 .rw[bA I]at e;split at e
  .refine Cn.plain (m:={AE m {Go.Proofs.YtffajooegiempaaGreatDoor.cur m with num:=if m.neg then -(Go.Proofs.YtffajooegiempaaGreatDoor.cur m).num else(Go.Proofs.YtffajooegiempaaGreatDoor.cur m).num}with state:=AG m}) ?_ (I4 _) e;exact h.setC (s:={Go.Proofs.YtffajooegiempaaGreatDoor.cur m with num:=if m.neg then -(Go.Proofs.YtffajooegiempaaGreatDoor.cur m).num else(Go.Proofs.YtffajooegiempaaGreatDoor.cur m).num}) (n:=Gu m.state) h.cur b f ok rfl (by show _<=Gu (AG m);rw[Qi];exact b)
  .exact h.digit ok f e b
 rw[a_ I]at e;split at e
 .cases e;exact h.of rfl b
 .cases e
theorem Cn.byte(h:Cn m)(ok:Ok m){c:Int}(e:AM m c=some m'):Cn m':=by
 unfold AM at e;split at e
 .rename_i hs;unfold AP at e;split at e
  .exact h.begin_ rfl e
  split at e
  .split at e
   .exact h.begin_ rfl e
   .cases e
  split at e
  .exact h.begin_ rfl e
  split at e
  .exact h.shut hs e
  .cases e
 split at e
 .rename_i h1 h2;split at e
  .cases e;exact h.of rfl (by rw[h2];show Gu 61<=Gu 118;decide)
  .cases e
 split at e
 .rename_i L;exact h.value ok L e
 split at e
 .exact h.plain (I4 _) e
 .rename_i h1 _ _ _;exact h.cond ok h1 e
theorem Vg{l:List Int}:∀{m:Rd}{n k:Nat},Cn m->Ok m->BH m l n=(k,some m')->Cn m':=by
 induction l with
 |nil=>intro m n k h ok e;simp[BH]at e;rw[<-e.2];exact h
 |cons c l ih=>
  intro m n k h ok e;simp only[BH]at e;split at e
  .cases e
  .rename_i m1 e1;exact ih (h.byte ok e1) (ok.byte e1) e
variable {w:World}
def OO:List Int:=[-1,0,1]
def WP(l:List Int):Bool:=decide (2<nz l)||(if nz l=0 then decide (Ar l= -1)&&decide (CF l=0)&&decide (C4 l=1)
 else decide (0<=Ar l)&&decide (Ar l<32)&&decide (CF l=fs (Ar l).toNat)&&decide (C4 l=ss (Ar l).toNat))
theorem Us:(OO.all λa=>OO.all λb=>OO.all λc=>OO.all λd=>WP [a,b,c,d])=true:=by decide +kernel
theorem Ca{a:Int}(h: -1<=a/\a<=1):a∈OO:=by
 rcases(show a= -1\/a=0\/a=1 by omega)with rfl|rfl|rfl<;>decide
theorem Q_{l:List Int}(m:l.length=4)(h:∀i, -1<=AK l i/\AK l i<=1):WP l=true:=by
 obtain⟨a,b,c,d,rfl⟩:=C0 m;have t:=Us;simp only[List.all_eq_true]at t;exact t a (Ca (h 0)) b (Ca (h 1)) c (Ca (h 2)) d (Ca (h 3))
def GP(C:Nat->Int)(l:List Int):Int:=if nz l=0 then 0 else bd C (Ar l).toNat
theorem Gp{C:Nat->Int}(V:C (0*8+1)=0){l:List Int}(m:l.length=4)(h:∀i, -1<=AK l i/\AK l i<=1)(h2:nz l<=2):
  mo C (CF l) (C4 l)=GP C l/\(nz l=0->Ar l= -1)/\(nz l≠0->∃f:Nat,f<32/\Ar l=(f:Int)/\GP C l=bd C f):=by
 have t:=Q_ m h;unfold WP at t;rw[bT (by omega:¬2<nz l),Bool.false_or]at t;by_cases e:nz l=0
 .rw[bA e]at t;simp only[cA,cD]at t;refine⟨?_,λ_=>t.1.1,λq=>absurd e q⟩;unfold GP;rw[bA e,t.1.2,t.2];unfold mo;rw[a_ (λz=>absurd z.1 (by decide))];exact V
 .rw[a_ e]at t;simp only[cA,cD]at t;refine⟨?_,λq=>absurd q e,λ_=>⟨(Ar l).toNat,by omega,by omega,?_⟩⟩
  .unfold GP;rw[a_ e,t.1.2,t.2];rfl
  .unfold GP;rw[a_ e]
theorem MX(a b c d:Int):nz [a,b,c,d]=(if a=0 then 0 else 1)+(if b=0 then 0 else 1)+(if c=0 then 0 else 1)+(if d=0 then 0 else 1):=by
 rw[C2,C2,C2,C2];have:nz []=0:=rfl;omega
theorem C9{l:List Int}(m:l.length=4):nz (Dv l)=nz l:=by
 obtain⟨a,b,c,d,rfl⟩:=C0 m;show nz [-a, -b, -c, -d]=_;rw[MX,MX];have h:∀x:Int,(if -x=0 then 0 else 1:Nat)=if x=0 then 0 else 1:=λx=>by
  by_cases e:x=0
  .rw[bA e,bA (by omega)]
  .rw[a_ e,a_ (by omega)]
 rw[h,h,h,h]
theorem V3{l:List Int}(m:l.length=4)(h:nz l=0):∀i,i<4->AK l i=0:=by
 obtain⟨a,b,c,d,rfl⟩:=C0 m;rw[MX]at h;intro i hi;have z:∀x:Int,(if x=0 then 0 else 1:Nat)=0->x=0:=λx hx=>by
  by_cases e:x=0
  .exact e
  .rw[a_ e]at hx;cases hx
 rcases(show i=0\/i=1\/i=2\/i=3 by omega)with rfl|rfl|rfl|rfl
 .exact z a (by omega)
 .exact z b (by omega)
 .exact z c (by omega)
 .exact z d (by omega)
theorem Ya:∀j:Nat,j<4->([0,0,0,0]:List Int).set j 0=[0,0,0,0]:=by decide
theorem Pb(C:Nat->Int)(u v:Value)(l:List Int)(m:l.length=4)(Q:∀i, -1<=AK l i/\AK l i<=1)(h2:nz l<=2)(y:C (0*8+1)=0)(Z:AQ w u (Bl C))(hr:AQ w v l):
  Calls prog 97 #[u,v] w λe w'=>e=.returned (.int .i64 (GP C l))/\dc w w':=by
 have ac:∀w,(Instr.makeSlice 32 (.int .i64 4) (.int .i64 4)).run prog w=.ok (.slice (some ⟨w.heap.size,0,none⟩) 4 4) (w.alloc (.cells #[.int .i64 0,.int .i64 0,.int .i64 0,.int .i64 0] tNk)):=λ_=>by kernel_rfl
 obtain⟨_,hz,B⟩:=Gp y m Q h2;have hn:=Fd v l m hr (λi _=>by have:=Q i;omega);have G:(Bl C).length=32:=by simp[Bl]
 have S:Hid (l.length=4):=m;obtain⟨bu,cu,rfl, -,F⟩:=Z;obtain⟨q,r,rfl,Y,H⟩:=F (by omega);obtain⟨au,U,rfl, -,O⟩:=id hr;obtain⟨p,off,rfl,X,n⟩:=O (by omega);have N:Hid (∀i,i<4->w.cell? ⟨p,off+i,none⟩=some (.int .i64 (AK l i))):=λi hi=>n i (by omega);have E:Hid (∀i,i<32->w.cell? ⟨q,r+i,none⟩=some (.int .i64 (bd C i))):=λi hi=>by rw[H i (by omega)];exact congrArg (λz=>some (Value.int .i64 z)) (Gh C i hi)
 rw[G];rw[m]at hn|-;clear O F n H hr;by_cases e:nz l=0
 .have K:Hid (GP C l=0):=bA e;rw[hz e]at hn;have T:Hid (∀i,i<4->w.cell? ⟨p,off+i,none⟩=some (.int .i64 0)):=λi hi=>by rw[N.out i hi,V3 S.out e i hi]
  clear hz B y e E N;go_enter func97,ntmps97;go_wp2_with fail;refine hn.mono ?_;rintro e o ⟨rfl,k⟩;have D:Hid (dc w o):=k;have M:=k.size;have R:Hid (At (o.alloc (.cells #[.int .i64 0,.int .i64 0,.int .i64 0,.int .i64 0] tNk)) o.heap.size (ic [0,0,0,0]) tNk/\dc w (o.alloc (.cells #[.int .i64 0,.int .i64 0,.int .i64 0,.int .i64 0] tNk))):=⟨At.new _ _ _,k.alloc k.size _⟩
  clear k hn;go_wp2_with fail;go_loopw [7,8] (λzv iv wr=>∃(j:Nat),j<=4/\iv=.int .i64 j/\zv=.bool true/\Hid (At wr o.heap.size (ic [0,0,0,0]) tNk/\dc w wr)) (λ_ iv _=>4-(intOf iv).toNat);case atStart=>exact⟨0,by omega,rfl,rfl,R.out⟩
  case round=>
   obtain⟨j,hj,rfl,rfl,s⟩:=hrel;by_cases A:j<4
   .have ab:(j:Int)<4:=by omega
    have U:wr.cell? ⟨p,off+j,none⟩=some (.int .i64 0):=(s.out.2.cell (p:=⟨p,off+j,none⟩) X).trans (T.out j A);have cb:wr.cell? ⟨o.heap.size,j,none⟩=some (.int .i64 0):=by
     rw[s.out.1.cell,Aa _ _ (by exact A)];rcases(show j=0\/j=1\/j=2\/j=3 by omega)with rfl|rfl|rfl|rfl<;>rfl
    have cf:=s.out.1.free;have G:=s.out.1.lt;have ad:p≠o.heap.size:=by omega
    go_wp2_with fail;go_roundw;case rel=>
     refine⟨j+1,by omega,by go_num,rfl,?_,s.out.2.setCell M _⟩;have:=s.out.1.put j (.int .i64 0);rw[Be,Ya j A]at this;exact this
    case measure=>simp[intOf];omega
   .have L:j=4:=by omega
    subst L;go_wp2_with fail;go_ret;exact⟨by rw[K.out];rfl,s.out.2⟩
 .obtain⟨f,W,I,P⟩:=B e;rw[I]at hn;have K:Hid (GP C l=bd C f):=P;have aa:(f:Int)<32:=by omega
  have J:Hid (w.cell? ⟨q,r+f,none⟩=some (.int .i64 (bd C f))):=E.out f W;clear hz B P I y e;generalize bd C f=g at *;go_enter func97,ntmps97;go_wp2_with fail;refine hn.mono ?_;rintro e o ⟨rfl,k⟩;have cq:o.cell? ⟨q,r+f,none⟩=some (.int .i64 g):=(k.cell (p:=⟨q,r+f,none⟩) Y).trans J.out;have D:Hid (dc w o):=k;clear k hn;go_wp2_with fail;go_ret;exact⟨by rw[K.out];rfl,D.out⟩
theorem Ip(c:Int)(w:World)(h0:0<=c)(h1:c<=255):
  Calls prog 123 #[.int .u8 c] w λe w'=>e=.returned (.int .i64 (CJ c))/\w'=w:=by
 unfold CJ;by_cases ha:97<=c
 .by_cases hb:c<=100
  .go_enter func123,ntmps123;go_wp2;go_ret;exact⟨rfl,rfl⟩
  .go_enter func123,ntmps123;go_wp2;go_ret;exact⟨rfl,rfl⟩
 .go_enter func123,ntmps123;go_wp2;go_ret;exact⟨rfl,rfl⟩
theorem V0(r g p:Nat)(n cap:Nat)(w:World)(hn:0<n)(aa:n<=20)
  (hs:w.cell? ⟨r,1,none⟩=some (.slice (some ⟨g,0,none⟩) n cap))
  (hp:w.cell? ⟨g,n-1,none⟩=some (.pointer (some ⟨p,0,none⟩))):
  Calls prog 126 #[.pointer (some ⟨r,0,none⟩)] w λe w'=>e=.returned (.pointer (some ⟨p,0,none⟩))/\∃k,w'=w.drewN k:=by
 go_enter func126,ntmps126;go_wp2;go_quiet (fail);go_wp2;go_ret;exact⟨rfl,_,rfl⟩
def PR(p:Nat):Value:=.pointer (some ⟨p,0,none⟩)
def F5(q:Nat)(s:St):Array Value:=#[.int .u8 s.kind,.int .i64 s.var,.bool s.star,.slice (some ⟨q,0,none⟩) 4 4,.int .i64 s.num,.int .i64 s.mid,.int .i64 s.fin]
def Ii(m:Rd)(vs vo:Value):Array Value:=#[.int .u8 m.state,vs,vo,.int .i64 m.sign,.bool m.neg,.int .i64 m.dig]
def FJ(l:List Int):Array Value:=(l.map (Value.int .i64)).toArray
def IF(b:Bk):Array Value:=#[.int .i64 b.of_,.bool b.second]
abbrev tR:TypeId:=53
abbrev tS:TypeId:=56
abbrev tB:TypeId:=139
abbrev XB:TypeId:=57
abbrev XA:TypeId:=137
abbrev tI:TypeId:=3
structure AZ(B:Nat)(w:World)(r:Nat)(m:Rd)(vs vo:Value)(P Q O:Nat->Nat):Prop where
 rd:At w r (Ii m vs vo) tR
 rs:w.ownsRow B XB 1 vs m.st.length ((List.range m.st.length).map λi=>PR (P i))
 ro:w.ownsRow B XA 1 vo m.op.length ((List.range m.op.length).map λi=>PR (O i))
 st:∀i s,m.st[i]?=some s->At w (P i) (F5 (Q i) s) tS/\At w (Q i) (FJ s.sg) tI
 op:∀i b,m.op[i]?=some b->At w (O i) (IF b) tB
 injP:∀i j,i<m.st.length->j<m.st.length->P i=P j->i=j
 injQ:∀i j,i<m.st.length->j<m.st.length->Q i=Q j->i=j
 injO:∀i j,i<m.op.length->j<m.op.length->O i=O j->i=j
 geR:B<=r
 geP:∀i,i<m.st.length->B<=P i/\B<=Q i
 geO:∀i,i<m.op.length->B<=O i
variable {B:Nat}{w':World}{r:Nat}{vs vo:Value}{P Q O:Nat->Nat}
theorem Fx{e:TypeId}{v:Value}{n:Nat}{xs:List Value}(h:w.ownsRow B e 1 v n xs)(hn:0<n):∃g cap c,v=.slice (some ⟨g,0,none⟩) n cap/\B<=g/\At w g c e/\n<=cap:=by
 obtain⟨h1,h2|⟨g,cap,c,I,G,E,h3,h4,h5,h6⟩⟩:=h
 .omega
 .exact⟨g,cap,c,I,G,E,h3⟩
theorem Ed{e:TypeId}{v:Value}{n:Nat}{xs:List Value}(h:w.ownsRow B e 1 v n xs)(k:∀g,v.ownBlock=some g->w'.heap[g]?=w.heap[g]?):w'.ownsRow B e 1 v n xs:=by
 obtain⟨h1,h2⟩:=h;refine⟨h1,?_⟩;rcases h2 with h2|⟨g,cap,c,I,G,E,r⟩
 .exact .inl h2
 .subst I;exact .inr ⟨g,cap,c,rfl,G,by rw[k g rfl];exact E,r⟩
theorem Cq{e:TypeId}{v:Value}{n:Nat}{xs:List Value}(h:w.ownsRow B e 1 v n xs){b:Nat}{c:Array Value}{t:TypeId}(k:At w b c t)(hn:e≠t):v.ownBlock≠some b:=by
 obtain⟨h1,h2⟩:=h;rcases h2 with⟨rfl,_⟩|⟨g,cap,M,rfl,G,E,r⟩
 .simp[Value.ownBlock]
 .intro L;simp[Value.ownBlock]at L;exact(At.ne (show At w g M e from E) k hn) L
theorem BY{e:TypeId}{v:Value}{n:Nat}{xs:List Value}(h:w.ownsRow B e 1 v n xs){b:Nat}{c:Array Value}{t:TypeId}(k:At w b c t)(hn:e≠t)(o:Nat)(u:Value):(w.setCell ⟨b,o,none⟩ u).ownsRow B e 1 v n xs:=
 ownsRow_setCell_other h (Cq h k hn) u
theorem AZ.drewN(h:AZ B w r m vs vo P Q O)(k:Nat):AZ B (w.drewN k) r m vs vo P Q O:=⟨h.rd,h.rs,h.ro,h.st,h.op,h.injP,h.injQ,h.injO,h.geR,h.geP,h.geO⟩
theorem AZ.setRd(h:AZ B w r m vs vo P Q O)(o:Nat)(u:Value)(m':Rd)(hc:(Ii m vs vo).setIfInBounds o u=Ii m' vs vo)(hs:m'.st=m.st)(H:m'.op=m.op):
  AZ B (w.setCell ⟨r,o,none⟩ u) r m' vs vo P Q O where
 rd:=by rw[<-hc];exact h.rd.put o u
 rs:=by rw[hs];exact BY h.rs h.rd (by decide) o u
 ro:=by rw[H];exact BY h.ro h.rd (by decide) o u
 st:=by
  intro i s hi;rw[hs]at hi;obtain⟨a,b⟩:=h.st i s hi;exact⟨a.other o u (a.ne h.rd (by decide)),b.other o u (b.ne h.rd (by decide))⟩
 op:=by
  intro i s hi;rw[H]at hi;have a:=h.op i s hi;exact a.other o u (a.ne h.rd (by decide))
 injP:=by rw[hs];exact h.injP
 injQ:=by rw[hs];exact h.injQ
 injO:=by rw[H];exact h.injO
 geR:=h.geR
 geP:=by rw[hs];exact h.geP
 geO:=by rw[H];exact h.geO
theorem AZ.setSt(h:AZ B w r m vs vo P Q O)(k:Nat)(s J:St)(hk:m.st[k]?=some s)(o:Nat)(u:Value)(m':Rd)(hc:(F5 (Q k) s).setIfInBounds o u=F5 (Q k) J)(D:J.sg=s.sg)(F:m'={m with st:=m.st.set k J}):
  AZ B (w.setCell ⟨P k,o,none⟩ u) r m' vs vo P Q O:=by
 subst F;have f:k<m.st.length:=by
  rcases bW k m.st.length with d|d
  .exact d
  .simp[bO d]at hk
 obtain⟨z,C⟩:=h.st k s hk
 exact{
  rd:=h.rd.other o u (h.rd.ne z (by decide))
  rs:=by simp only[b8];exact BY h.rs z (by decide) o u
  ro:=BY h.ro z (by decide) o u
  st:=by
   intro i x hi;by_cases e:i=k
   .subst e;simp[f]at hi;subst hi;exact⟨by rw[<-hc];exact z.put o u,by rw[D];exact C.other o u (C.ne z (by decide))⟩
   .simp only[cH,a_ (Ne.symm e)]at hi;have A:i<m.st.length:=by
     rcases bW i m.st.length with d|d
     .exact d
     .simp[bO d]at hi
    obtain⟨a,b⟩:=h.st i x hi;exact⟨a.other o u (λq=>e (h.injP i k A f q)),b.other o u (b.ne z (by decide))⟩
  op:=by
   intro i x hi;have a:=h.op i x hi;exact a.other o u (a.ne z (by decide))
  injP:=by simp only[b8];exact h.injP
  injQ:=by simp only[b8];exact h.injQ
  injO:=h.injO
  geR:=h.geR
  geP:=by simp only[b8];exact h.geP
  geO:=h.geO}
theorem AZ.setSg(h:AZ B w r m vs vo P Q O)(k:Nat)(s:St)(hk:m.st[k]?=some s)(o:Nat)(x:Int)(m':Rd)(F:m'={m with st:=m.st.set k {s with sg:=s.sg.set o x}}):
  AZ B (w.setCell ⟨Q k,o,none⟩ (.int .i64 x)) r m' vs vo P Q O:=by
 subst F;have f:k<m.st.length:=by
  rcases bW k m.st.length with d|d
  .exact d
  .simp[bO d]at hk
 obtain⟨z,C⟩:=h.st k s hk;have D:(FJ s.sg).setIfInBounds o (.int .i64 x)=FJ (s.sg.set o x):=by simp[FJ,List.map_set]
 exact{
  rd:=h.rd.other o _ (h.rd.ne C (by decide))
  rs:=by simp only[b8];exact BY h.rs C (by decide) o _
  ro:=BY h.ro C (by decide) o _
  st:=by
   intro i y hi;by_cases e:i=k
   .subst e;simp[f]at hi;subst hi;exact⟨z.other o _ (z.ne C (by decide)),by show At _ _ (FJ (s.sg.set o x)) _;rw[<-D];exact C.put o _⟩
   .simp only[cH,a_ (Ne.symm e)]at hi;have A:i<m.st.length:=by
     rcases bW i m.st.length with d|d
     .exact d
     .simp[bO d]at hi
    obtain⟨a,b⟩:=h.st i y hi;exact⟨a.other o _ (a.ne C (by decide)),b.other o _ (λq=>e (h.injQ i k A f q))⟩
  op:=by
   intro i y hi;have a:=h.op i y hi;exact a.other o _ (a.ne C (by decide))
  injP:=by simp only[b8];exact h.injP
  injQ:=by simp only[b8];exact h.injQ
  injO:=h.injO
  geR:=h.geR
  geP:=by simp only[b8];exact h.geP
  geO:=h.geO}
theorem AZ.setBk(h:AZ B w r m vs vo P Q O)(k:Nat)(b K:Bk)(hk:m.op[k]?=some b)(o:Nat)(u:Value)(m':Rd)(hc:(IF b).setIfInBounds o u=IF K)(F:m'={m with op:=m.op.set k K}):
  AZ B (w.setCell ⟨O k,o,none⟩ u) r m' vs vo P Q O:=by
 subst F;have f:k<m.op.length:=by
  rcases bW k m.op.length with d|d
  .exact d
  .simp[bO d]at hk
 have z:=h.op k b hk
 exact{
  rd:=h.rd.other o u (h.rd.ne z (by decide))
  rs:=BY h.rs z (by decide) o u
  ro:=by simp only[b8];exact BY h.ro z (by decide) o u
  st:=by
   intro i x hi;obtain⟨a,b⟩:=h.st i x hi;exact⟨a.other o u (a.ne z (by decide)),b.other o u (b.ne z (by decide))⟩
  op:=by
   intro i x hi;by_cases e:i=k
   .subst e;simp[f]at hi;subst hi;rw[<-hc];exact z.put o u
   .simp only[cH,a_ (Ne.symm e)]at hi;have A:i<m.op.length:=by
     rcases bW i m.op.length with d|d
     .exact d
     .simp[bO d]at hi
    exact(h.op i x hi).other o u (λq=>e (h.injO i k A f q))
  injP:=h.injP
  injQ:=h.injQ
  injO:=by simp only[b8];exact h.injO
  geR:=h.geR
  geP:=h.geP
  geO:=by simp only[b8];exact h.geO}
def D2(B:Nat)(w:World)(r:Nat)(o:Option Rd):Ending->World->Prop:=λe w'=>
 e=.returned (.bool o.isSome)/\Below B w w'/\∀m',o=some m'->∃vs vo P Q O,AZ B w' r m' vs vo P Q O
theorem AZ.rdc(h:AZ B w r m vs vo P Q O):w.cell? ⟨r,0,none⟩=some (.int .u8 m.state)/\w.cell? ⟨r,1,none⟩=some vs/\w.cell? ⟨r,2,none⟩=some vo/\w.cell? ⟨r,3,none⟩=some (.int .i64 m.sign)/\w.cell? ⟨r,4,none⟩=some (.bool m.neg)/\w.cell? ⟨r,5,none⟩=some (.int .i64 m.dig)/\∀i,w.frozen? ⟨r,i,none⟩=false:=
 ⟨h.rd.cell 0,h.rd.cell 1,h.rd.cell 2,h.rd.cell 3,h.rd.cell 4,h.rd.cell 5,h.rd.free⟩
theorem AZ.curs(hn:0<m.st.length):m.st[m.st.length-1]?=some (cur m):=by
 unfold cur;rw[bG,bP (by omega)];rfl
theorem AZ.stc(h:AZ B w r m vs vo P Q O)(k:Nat)(s:St)(hk:m.st[k]?=some s):w.cell? ⟨P k,0,none⟩=some (.int .u8 s.kind)/\w.cell? ⟨P k,1,none⟩=some (.int .i64 s.var)/\w.cell? ⟨P k,2,none⟩=some (.bool s.star)/\w.cell? ⟨P k,3,none⟩=some (.slice (some ⟨Q k,0,none⟩) 4 4)/\w.cell? ⟨P k,4,none⟩=some (.int .i64 s.num)/\w.cell? ⟨P k,5,none⟩=some (.int .i64 s.mid)/\w.cell? ⟨P k,6,none⟩=some (.int .i64 s.fin)/\(∀i,w.frozen? ⟨P k,i,none⟩=false)/\(∀i,w.frozen? ⟨Q k,i,none⟩=false)/\P k≠r/\Q k≠r/\Q k≠P k:=by
 obtain⟨a,b⟩:=h.st k s hk;exact⟨a.cell 0,a.cell 1,a.cell 2,a.cell 3,a.cell 4,a.cell 5,a.cell 6,a.free,b.free,a.ne h.rd (by decide),b.ne h.rd (by decide),b.ne a (by decide)⟩
theorem AZ.row(h:AZ B w r m vs vo P Q O)(hn:0<m.st.length):∃g cap,vs=.slice (some ⟨g,0,none⟩) m.st.length cap/\(∀i,i<m.st.length->w.cell? ⟨g,i,none⟩=some (PR (P i)))/\g≠r/\m.st.length<=cap/\∀k s,m.st[k]?=some s->g≠P k/\g≠Q k:=by
 obtain⟨g,cap,c,l,hg,f,hc⟩:=Fx h.rs hn;refine⟨g,cap,l,?_,f.ne h.rd (by decide),hc,λk s hk=>?_⟩
 .intro i hi;have:=h.rs;rw[l]at this;rw[this.cellAt i (by omega)];simp[hi]
 .obtain⟨a,b⟩:=h.st k s hk;exact⟨f.ne a (by decide),f.ne b (by decide)⟩
theorem AZ.now(h:AZ B w r m vs vo P Q O)(hn:0<m.st.length)(j:m.st.length<=20):
  Calls prog 126 #[.pointer (some ⟨r,0,none⟩)] w λe w'=>e=.returned (.pointer (some ⟨P (m.st.length-1),0,none⟩))/\∃k,w'=w.drewN k:=by
 obtain⟨g,cap,rfl,d,_⟩:=h.row hn;exact V0 r g (P (m.st.length-1)) m.st.length cap w hn j h.rdc.2.1 (d _ (by omega))
theorem AZ.behind(h:AZ B w r m vs vo P Q O)(hn:0<m.st.length)(j:m.st.length<=20):
  Calls prog 128 #[.pointer (some ⟨r,0,none⟩)] w λe w'=>e=.returned (.int .u8 (AG m))/\∃k,w'=w.drewN k:=by
 have hc:=h.now hn j;obtain⟨c0, -⟩:=h.stc _ _ (AZ.curs hn);unfold AG;generalize P (m.st.length-1)=p at *;generalize(cur m).kind=kd at *;clear h;by_cases hk:kd=33
 .subst hk;go_enter func128,ntmps128;go_wp2_with (go_at_call 126;refine hc.mono ?_;rintro e w' ⟨rfl,k,rfl⟩);go_ret;exact⟨rfl,_,rfl⟩
 .have aa:(kd==33)=false:=by simpa using hk
  go_enter func128,ntmps128;go_wp2_with (go_at_call 126;refine hc.mono ?_;rintro e w' ⟨rfl,k,rfl⟩);go_ret;exact⟨by simp,_,rfl⟩
theorem AZ.geC(h:AZ B w r m vs vo P Q O)(hn:0<m.st.length):B<=P (m.st.length-1)/\B<=Q (m.st.length-1):=h.geP _ (by omega)
theorem EL{c:Int}{pos:Bool}{f:Int}(h:c<48\/57<c\/(if m.state=f then m.dig else 0)=2\/((if m.state=f then m.dig else 0)=1/\(if m.state=f then(cur m).num else 0)=0)\/(pos=true/\c=48)):AT m c pos f=none:=by
 simp only[AT];rw[bA h]
theorem LX{c:Int}{pos:Bool}{f d u:Int}(v:(if m.state=f then m.dig else 0)=d)(A:(if m.state=f then(cur m).num else 0)=u)(h:¬(c<48\/57<c\/d=2\/(d=1/\u=0)\/(pos=true/\c=48))):
  AT m c pos f=some {AE m {cur m with num:=10*u+(c-48)}with dig:=d+1,state:=f}:=by
 subst v;subst A;simp only[AT];rw[a_ h]
theorem Av{o:Option Rd}{w w':World}(h:o=none)(hb:Below B w w'):D2 B w r o (.returned (.bool false)) w':=by
 subst h;exact⟨rfl,hb,λ_ e=>by cases e⟩
theorem Aq{o:Option Rd}{m':Rd}{w w':World}(h:o=some m')(hb:Below B w w')(hr:AZ B w' r m' vs vo P Q O):D2 B w r o (.returned (.bool true)) w':=by
 subst h;exact⟨rfl,hb,λ_ e=>by cases e;exact⟨vs,vo,P,Q,O,hr⟩⟩
theorem Fc{o:Option Rd}{m' F:Rd}{w w':World}{b:Value}(N:b=.bool true)(h:o=some m')(hb:Below B w w')(hm:F=m')(hr:AZ B w' r F vs vo P Q O):D2 B w r o (.returned b) w':=by
 subst N;subst hm;exact Aq h hb hr
theorem JG(hn:0<m.st.length)(s:St):(AE m s).st[m.st.length-1]?=some s:=by
 simp[AE,cH];omega
theorem AZ.setC(h:AZ B w r m vs vo P Q O)(hn:0<m.st.length)(J:St)(o:Nat)(u:Value)(hc:(F5 (Q (m.st.length-1)) (cur m)).setIfInBounds o u=F5 (Q (m.st.length-1)) J)(S:J.sg=(cur m).sg):
  AZ B (w.setCell ⟨P (m.st.length-1),o,none⟩ u) r (AE m J) vs vo P Q O:=h.setSt _ _ J (AZ.curs hn) o u _ hc S rfl
theorem Hi(hn:0<m.st.length)(s:St):cur (AE m s)=s:=by
 have:=JG hn s;unfold cur;rw[bG,show(AE m s).st.length=m.st.length by simp[AE],this];rfl
theorem BL(s:St):(AE m s).st.length=m.st.length:=by simp[AE]
theorem Ij(h:AZ B w r m vs vo P Q O)(hn:0<m.st.length)(x f:Int)(k:Nat):
  AZ B ((((((w.drewN k).setCell ⟨r,5,none⟩ (.int .i64 0)).setCell ⟨P (m.st.length-1),4,none⟩ (.int .i64 0)).setCell ⟨P (m.st.length-1),4,none⟩ (.int .i64 x)).setCell ⟨r,5,none⟩ (.int .i64 1)).setCell ⟨r,0,none⟩ (.int .u8 f)) r
   {AE m {cur m with num:=x}with dig:=1,state:=f} vs vo P Q O:=by
 have e1:=(h.drewN k).setRd 5 (.int .i64 0) {m with dig:=0} rfl rfl rfl;have e2:=e1.setC hn {cur m with num:=0} 4 (.int .i64 0) rfl rfl;have K:=e2.setSt (m.st.length-1) {cur m with num:=0} {cur m with num:=x} (JG (m:={m with dig:=0}) hn _) 4 (.int .i64 x) _ rfl rfl rfl;have L:=K.setRd 5 (.int .i64 1) {AE m {cur m with num:=x}with dig:=1} rfl (by simp[AE]) rfl;exact L.setRd 0 (.int .u8 f) _ rfl rfl rfl
theorem Eg(h:AZ B w r m vs vo P Q O)(hn:0<m.st.length)(x d f:Int)(k:Nat):
  AZ B ((((w.drewN k).setCell ⟨P (m.st.length-1),4,none⟩ (.int .i64 x)).setCell ⟨r,5,none⟩ (.int .i64 d)).setCell ⟨r,0,none⟩ (.int .u8 f)) r
   {AE m {cur m with num:=x}with dig:=d,state:=f} vs vo P Q O:=by
 have K:=(h.drewN k).setC hn {cur m with num:=x} 4 (.int .i64 x) rfl rfl;have L:=K.setRd 5 (.int .i64 d) {AE m {cur m with num:=x}with dig:=d} rfl rfl rfl;exact L.setRd 0 (.int .u8 f) _ rfl rfl rfl
theorem AZ.digitNew(h:AZ B w r m vs vo P Q O)(hn:0<m.st.length)(R:m.st.length<=20)(c:Int)(pos:Bool)(f:Int)(I:0<=c)(h1:c<=255)(hx:m.state≠f):
  Calls prog 127 #[.pointer (some ⟨r,0,none⟩),.int .u8 c,.bool pos,.int .u8 f] w (D2 B w r (AT m c pos f)):=by
 have hc:=h.now hn R;have i:=AZ.curs hn;obtain⟨c0,c1,c2,c3,c4,c5,Z,f7,f8,V,T,U⟩:=h.stc _ _ i;obtain⟨X,r1,r2,r3,r4,G,rf⟩:=h.rdc;have geR:=h.geR;obtain⟨geP,M⟩:=h.geC hn;have ae:(m.state==f)=false:=by simpa using hx
 have af:(m.state != f)=true:=by simpa using hx
 have v:(if m.state=f then m.dig else 0)=0:=a_ hx;have A:(if m.state=f then(cur m).num else 0)=0:=a_ hx;have D:Hid (_=_):=v;have H:Hid (_=_):=A;have Y:Hid (_=_):=i;clear v A i;have W:r≠P (m.st.length-1):=λe=>V e.symm;have n:Hid (AZ _ _ _ _ _ _ _ _ _):=h;clear h;by_cases z:c<48
 .go_enter func127,ntmps127;go_wp2_with (go_at_call 126;refine hc.mono ?_;rintro e w' ⟨rfl,k,rfl⟩);go_ret;exact Av (EL (.inl z)) (bH (bH (bD (bC _ _) _) geR _) geP _)
 by_cases y:57<c
 .go_enter func127,ntmps127;go_wp2_with (go_at_call 126;refine hc.mono ?_;rintro e w' ⟨rfl,k,rfl⟩);go_ret;exact Av (EL (.inr (.inl y))) (bH (bH (bD (bC _ _) _) geR _) geP _)
 by_cases hz:pos=true/\c=48
 .obtain⟨rfl,rfl⟩:=hz;go_enter func127,ntmps127;go_wp2_with (go_at_call 126;refine hc.mono ?_;rintro e w' ⟨rfl,k,rfl⟩);go_ret;exact Av (EL (.inr (.inr (.inr (.inr ⟨rfl,rfl⟩))))) (bH (bH (bD (bC _ _) _) geR _) geP _)
 .have j:(pos&&(c==48))=false:=by cases pos<;>simp_all
  have l:Hid (_=_):=LX (pos:=pos) (c:=c) D.out H.out (by rintro(a|a|a|a|a)<;>first|exact hz a|omega);have HZ:Hid (¬(pos=true/\c=48)):=hz;clear hz;cases pos
  .go_enter func127,ntmps127;go_wp2_with (go_at_call 126;refine hc.mono ?_;rintro e w' ⟨rfl,k,rfl⟩);go_ret;refine Fc rfl l.out (bH (bH (bH (bH (bH (bD (bC _ _) _) geR _) geP _) geP _) geR _) geR _) ?_ (Ij n.out hn (c-48) f k);simp
  .have E:(c==48)=false:=by simpa using j
   go_enter func127,ntmps127;go_wp2_with (go_at_call 126;refine hc.mono ?_;rintro e w' ⟨rfl,k,rfl⟩);go_ret;refine Fc rfl l.out (bH (bH (bH (bH (bH (bD (bC _ _) _) geR _) geP _) geP _) geR _) geR _) ?_ (Ij n.out hn (c-48) f k);simp
theorem AZ.digitOld(h:AZ B w r m vs vo P Q O)(hn:0<m.st.length)(R:m.st.length<=20)(c:Int)(pos:Bool)(I:0<=c)(h1:c<=255)(aa:0<=m.dig)(ab:m.dig<=2)(ac: -99<=(cur m).num)(ad:(cur m).num<=99)(f:Int)(hx:m.state=f):
  Calls prog 127 #[.pointer (some ⟨r,0,none⟩),.int .u8 c,.bool pos,.int .u8 f] w (D2 B w r (AT m c pos f)):=by
 have hc:=h.now hn R;have i:=AZ.curs hn;obtain⟨c0,c1,c2,c3,c4,c5,Z,f7,f8,V,T,U⟩:=h.stc _ _ i;obtain⟨X,r1,r2,r3,r4,G,rf⟩:=h.rdc;have geR:=h.geR;obtain⟨geP,M⟩:=h.geC hn;have v:(if m.state=f then m.dig else 0)=m.dig:=bA hx;have A:(if m.state=f then(cur m).num else 0)=(cur m).num:=bA hx;have D:Hid (_=_):=v;have H:Hid (_=_):=A;have Y:Hid (_=_):=i;clear v A i;rw[hx]at X;have HX:Hid (_=_):=hx;clear hx;have W:r≠P (m.st.length-1):=λe=>V e.symm;have n:Hid (AZ _ _ _ _ _ _ _ _ _):=h;clear h;by_cases z:c<48
 .go_enter func127,ntmps127;go_wp2_with (go_at_call 126;refine hc.mono ?_;rintro e w' ⟨rfl,k,rfl⟩);go_ret;exact Av (EL (.inl z)) (bD (bC _ _) _)
 by_cases y:57<c
 .go_enter func127,ntmps127;go_wp2_with (go_at_call 126;refine hc.mono ?_;rintro e w' ⟨rfl,k,rfl⟩);go_ret;exact Av (EL (.inr (.inl y))) (bD (bC _ _) _)
 by_cases h2:m.dig=2
 .have C:Hid (AT m c pos f=none):=EL (.inr (.inr (.inl (D.out.trans h2))));rw[h2]at G;clear h2;go_enter func127,ntmps127;go_wp2_with (go_at_call 126;refine hc.mono ?_;rintro e w' ⟨rfl,k,rfl⟩);go_ret;exact Av C.out (bD (bC _ _) _)
 have q:(m.dig==2)=false:=by simpa using h2
 by_cases h3:m.dig=1/\(cur m).num=0
 .obtain⟨h3,h4⟩:=h3;have C:Hid (AT m c pos f=none):=EL (.inr (.inr (.inr (.inl ⟨D.out.trans h3,H.out.trans h4⟩))));rw[h3]at G;rw[h4]at c4;clear h3 h4 h2 q;go_enter func127,ntmps127;go_wp2_with (go_at_call 126;refine hc.mono ?_;rintro e w' ⟨rfl,k,rfl⟩);go_ret;exact Av C.out (bD (bC _ _) _)
 by_cases hz:pos=true/\c=48
 .have C:Hid (AT m c pos f=none):=EL (.inr (.inr (.inr (.inr hz))));obtain⟨rfl,rfl⟩:=hz;by_cases g:m.dig=1
  .have p:((cur m).num==0)=false:=by simpa using λe=>h3 ⟨g,e⟩
   rw[g]at G;clear h3 h2 q g;go_enter func127,ntmps127;go_wp2_with (go_at_call 126;refine hc.mono ?_;rintro e w' ⟨rfl,k,rfl⟩);go_ret;exact Av C.out (bD (bC _ _) _)
  .have p:(m.dig==1)=false:=by simpa using g
   clear h3 h2 g;go_enter func127,ntmps127;go_wp2_with (go_at_call 126;refine hc.mono ?_;rintro e w' ⟨rfl,k,rfl⟩);go_ret;exact Av C.out (bD (bC _ _) _)
 .have l:Hid (_=_):=LX (pos:=pos) (c:=c) D.out H.out (by rintro(a|a|a|a|a)<;>first|exact hz a|exact h3 a|exact h2 a|omega);have j:(pos&&(c==48))=false:=by cases pos<;>simp_all
  by_cases g:m.dig=1
  .have p:((cur m).num==0)=false:=by simpa using λe=>h3 ⟨g,e⟩
   rw[g]at G l;clear h3 h2 q g hz;cases pos
   .go_enter func127,ntmps127;go_wp2_with (go_at_call 126;refine hc.mono ?_;rintro e w' ⟨rfl,k,rfl⟩);go_ret;refine Fc rfl l.out (bH (bH (bH (bD (bC _ _) _) geP _) geR _) geR _) ?_ (Eg n.out hn _ _ f k);simp
   .have E:(c==48)=false:=by simpa using j
    go_enter func127,ntmps127;go_wp2_with (go_at_call 126;refine hc.mono ?_;rintro e w' ⟨rfl,k,rfl⟩);go_ret;refine Fc rfl l.out (bH (bH (bH (bD (bC _ _) _) geP _) geR _) geR _) ?_ (Eg n.out hn _ _ f k);simp
  .have p:(m.dig==1)=false:=by simpa using g
   clear h3 h2 g hz;cases pos
   .go_enter func127,ntmps127;go_wp2_with (go_at_call 126;refine hc.mono ?_;rintro e w' ⟨rfl,k,rfl⟩);go_ret;refine Fc rfl l.out (bH (bH (bH (bD (bC _ _) _) geP _) geR _) geR _) ?_ (Eg n.out hn _ _ f k);simp
   .have E:(c==48)=false:=by simpa using j
    go_enter func127,ntmps127;go_wp2_with (go_at_call 126;refine hc.mono ?_;rintro e w' ⟨rfl,k,rfl⟩);go_ret;refine Fc rfl l.out (bH (bH (bH (bD (bC _ _) _) geP _) geR _) geR _) ?_ (Eg n.out hn _ _ f k);simp
theorem AZ.digit(h:AZ B w r m vs vo P Q O)(ok:Ok m)(hn:0<m.st.length)(c:Int)(pos:Bool)(I:0<=c)(h1:c<=255)(f:Int):
  Calls prog 127 #[.pointer (some ⟨r,0,none⟩),.int .u8 c,.bool pos,.int .u8 f] w (D2 B w r (AT m c pos f)):=by
 by_cases hx:m.state=f
 .have:=ok.nums (cur m) (bR (AZ.curs hn));exact h.digitOld hn ok.len c pos I h1 ok.digs.1 ok.digs.2 this.1 this.2 f hx
 .exact h.digitNew hn ok.len c pos f I h1 hx
theorem As(c:Int)(w:World)(D:97<=c)(hb:c<=100):
  Calls prog 123 #[.int .u8 c] w λe w'=>e=.returned (.int .i64 (c-97))/\w'=w:=
 (Ip c w (by omega) (by omega)).mono λe w' ⟨h,k⟩=>⟨by rw[h];unfold CJ;rw[bA ⟨D,hb⟩],k⟩
theorem AN(c:Int)(w:World)(n:0<=c)(h1:c<=255)(l:¬(97<=c/\c<=100)):
  Calls prog 123 #[.int .u8 c] w λe w'=>e=.returned (.int .i64 (-1))/\w'=w:=
 (Ip c w n h1).mono λe w' ⟨h,k⟩=>⟨by rw[h];unfold CJ;rw[a_ l],k⟩
theorem AZ.sgc(h:AZ B w r m vs vo P Q O)(ok:Ok m)(hn:0<m.st.length)(v:Nat)(l:v<4):w.cell? ⟨Q (m.st.length-1),v,none⟩=some (.int .i64 ((cur m).sg.getD v 0)):=by
 obtain⟨_,b⟩:=h.st _ _ (AZ.curs hn);have hl:=ok.sgl (cur m) (bR (AZ.curs hn));rw[b.cell v];simp[FJ,bP (show v<(cur m).sg.length by omega)]
theorem KY(h:AZ B w r m vs vo P Q O)(hn:0<m.st.length)(v:Nat)(j:Int)(k:Nat):
  AZ B (((w.drewN k).setCell ⟨Q (m.st.length-1),v,none⟩ (.int .i64 m.sign)).setCell ⟨r,0,none⟩ (.int .u8 j)) r
   (Bp m v m.sign j) vs vo P Q O:=by
 have e2:=(h.drewN k).setSg (m.st.length-1) (cur m) (AZ.curs hn) v m.sign _ rfl;exact e2.setRd 0 (.int .u8 j) _ rfl rfl rfl
theorem Lv(h:AZ B w r m vs vo P Q O)(hn:0<m.st.length)(v:Nat)(j:Int)(k:Nat):
  AZ B ((((w.drewN k).setCell ⟨r,3,none⟩ (.int .i64 1)).setCell ⟨Q (m.st.length-1),v,none⟩ (.int .i64 1)).setCell ⟨r,0,none⟩ (.int .u8 j)) r
   (Bp m v 1 j) vs vo P Q O:=by
 have e1:=(h.drewN k).setRd 3 (.int .i64 1) {m with sign:=1} rfl rfl rfl;have e2:=e1.setSg (m.st.length-1) (cur m) (AZ.curs hn) v 1 _ rfl;exact e2.setRd 0 (.int .u8 j) _ rfl rfl rfl
theorem AZ.drew(h:AZ B w r m vs vo P Q O):AZ B w.drew r m vs vo P Q O:=⟨h.rd,h.rs,h.ro,h.st,h.op,h.injP,h.injQ,h.injO,h.geR,h.geP,h.geO⟩
theorem Ok.sign1(ok:Ok m):Ok {m with sign:=1}:=⟨ok.states,ok.some_,ok.len,ok.oplen,ok.ofs,⟨(by decide:(-1:Int)<=1),(by decide:(1:Int)<=1)⟩,ok.digs,ok.nums,ok.sgl,ok.inNum,ok.open_⟩
theorem Bg{o A:Option Rd}{w C w':World}(h:o=A)(n:Below B w C)(hb:Below B C w')(hr:∀m',A=some m'->∃vs vo P Q O,AZ B w' r m' vs vo P Q O):D2 B w r o (.returned (.bool A.isSome)) w':=by
 subst h;exact⟨rfl,n.trans hb,hr⟩
theorem AZ.valueV(h:AZ B w r m vs vo P Q O)(ok:Ok m)(hn:0<m.st.length)(c:Int)(n:0<=c)(h1:c<=255)(hx:m.state=118):
  Calls prog 93 #[.pointer (some ⟨r,0,none⟩),.int .u8 c] w (D2 B w r (AO m c)):=by
 have hc:=h.now hn ok.len;have d:=AZ.curs hn;obtain⟨c0,c1,c2,c3,c4,c5,c6,f7,f8,E,y,z⟩:=h.stc _ _ d;obtain⟨F,r1,r2,r3,r4,r5,rf⟩:=h.rdc;have geR:=h.geR;obtain⟨geP,t⟩:=h.geC hn;obtain⟨ag,ah⟩:=ok.sgn;obtain⟨ae,af⟩:=ok.nums (cur m) (bR d);have HC:Hid (_=_):=d;clear d;rw[hx]at F;have p:Hid (_=_):=hx;clear hx;have ac:r≠P (m.st.length-1):=λe=>E e.symm;have ad:r≠Q (m.st.length-1):=λe=>y e.symm;have ab:P (m.st.length-1)≠Q (m.st.length-1):=λe=>z e.symm;by_cases a:c=42
 .subst a;have g:Hid (AZ _ _ _ _ _ _ _ _ _):=h;have q:Hid (Ok m):=ok;clear h ok;go_enter func93,ntmps93;go_wp2_with (first|(go_at_call 126;refine hc.mono ?_;rintro e w' ⟨rfl,k,rfl⟩)|(go_at_call 123;refine(AN _ _ (by omega) (by omega) (by omega)).mono ?_;rintro e w' ⟨rfl,rfl⟩));go_ret;refine Aq (m':={AE m {cur m with star:=true}with state:=59}) (by unfold AO;rw[bA p.out,bA rfl]) (bH (bH (bD (bC _ _) _) geP _) geR _) (((g.out.drewN k).setC hn {cur m with star:=true} 2 (.bool true) rfl rfl).setRd 0 (.int .u8 59) _ rfl rfl rfl)
 have s:(c==42)=false:=by simpa using a
 by_cases f:c=45
 .subst f;clear a s;have g:Hid (AZ _ _ _ _ _ _ _ _ _):=h;have q:Hid (Ok m):=ok;clear h ok;go_enter func93,ntmps93;go_wp2_with (first|(go_at_call 126;refine hc.mono ?_;rintro e w' ⟨rfl,k,rfl⟩)|(go_at_call 123;refine(AN _ _ (by omega) (by omega) (by omega)).mono ?_;rintro e w' ⟨rfl,rfl⟩));go_ret;refine Aq (m':={m with sign:= -1,state:=86}) (by unfold AO;rw[bA p.out,a_ (by decide),bA rfl]) (bH (bH (bD (bC _ _) _) geR _) geR _) (((g.out.drewN k).setRd 3 (.int .i64 (-1)) {m with sign:= -1} rfl rfl rfl).setRd 0 (.int .u8 86) _ rfl rfl rfl)
 have aa:(c==45)=false:=by simpa using f
 by_cases l:97<=c/\c<=100
 .have i:Hid (AO m c=some (Bp m (c-97).toNat 1 120)):=by show AO m c=_;unfold AO;rw[bA p.out,a_ a,a_ f,bA l]
  obtain⟨u,x⟩:=l;have hq:=h.sgc ok hn (c-97).toNat (by omega);have i0:(0:Int)<=c-97:=by omega
  have i1:c-97<4:=by omega
  clear a f;have g:Hid (AZ _ _ _ _ _ _ _ _ _):=h;have q:Hid (Ok m):=ok;clear h ok;go_enter func93,ntmps93;go_wp2_with (first|(go_at_call 126;refine hc.mono ?_;rintro e w' ⟨rfl,k,rfl⟩)|(go_at_call 123;refine(As c _ u x).mono ?_;rintro e w' ⟨rfl,rfl⟩));go_region;go_wp2;go_ret;refine Aq i.out (Below.drew (bH (bH (bH (bD (bC _ _) _) geR _) t _) geR _)) (Lv g.out hn (c-97).toNat 120 k).drew
 .have i:Hid (AO m c=AT {m with sign:=1} c false 110):=by show AO m c=_;unfold AO;rw[bA p.out,a_ a,a_ f,a_ l]
  clear a f;have g:Hid (AZ _ _ _ _ _ _ _ _ _):=h;have q:Hid (Ok m):=ok;clear h ok;go_enter func93,ntmps93;go_wp2_with (first|(go_at_call 126;refine hc.mono ?_;rintro e w' ⟨rfl,k,rfl⟩)|(go_at_call 123;refine(AN _ _ (by omega) (by omega) (by omega)).mono ?_;rintro e w' ⟨rfl,rfl⟩));refine((((g.out.drewN k).setRd 3 (.int .i64 1) {m with sign:=1} rfl rfl rfl)).digit ?_ hn c false n h1 110).mono ?_
  .exact q.out.sign1
  rintro e w' ⟨rfl,hb,hr⟩;go_wp2;go_ret;exact Bg i.out ((bH (bD (bC _ _) _) geR _)) hb hr
theorem AZ.valueVV(h:AZ B w r m vs vo P Q O)(ok:Ok m)(hn:0<m.st.length)(c:Int)(H:0<=c)(h1:c<=255)(hx:m.state=86):
  Calls prog 93 #[.pointer (some ⟨r,0,none⟩),.int .u8 c] w (D2 B w r (AO m c)):=by
 have hc:=h.now hn ok.len;have a:=AZ.curs hn;obtain⟨c0,c1,c2,c3,c4,c5,J,K,L,C,o,p⟩:=h.stc _ _ a;obtain⟨G,r1,M,N,R,S,T⟩:=h.rdc;have geR:=h.geR;obtain⟨geP,t⟩:=h.geC hn;obtain⟨y,z⟩:=ok.sgn;obtain⟨v,x⟩:=ok.nums (cur m) (bR a);have I:Hid (_=_):=a;clear a;rw[hx]at G;have j:Hid (_=_):=hx;clear hx;have E:r≠P (m.st.length-1):=λe=>C e.symm;have F:r≠Q (m.st.length-1):=λe=>o e.symm;have D:P (m.st.length-1)≠Q (m.st.length-1):=λe=>p e.symm;by_cases u:97<=c/\c<=100
 .have b:Hid (AO m c=some (Bp m (c-97).toNat m.sign 120)):=by show AO m c=_;unfold AO;rw[j.out,a_ (by decide),bA rfl,bA u]
  obtain⟨l,n⟩:=u;have hq:=h.sgc ok hn (c-97).toNat (by omega);have i0:(0:Int)<=c-97:=by omega
  have i1:c-97<4:=by omega
  have g:Hid (AZ _ _ _ _ _ _ _ _ _):=h;have q:Hid (Ok m):=ok;clear h ok;go_enter func93,ntmps93;go_wp2_with (first|(go_at_call 126;refine hc.mono ?_;rintro e w' ⟨rfl,k,rfl⟩)|(go_at_call 123;refine(As c _ l n).mono ?_;rintro e w' ⟨rfl,rfl⟩));go_region;go_wp2;go_ret;exact Aq b.out (bH (bH (bD (bC _ _) _) t _) geR _) (KY g.out hn (c-97).toNat 120 (k+1))
 .have b:Hid (AO m c=AT m c true 110):=by show AO m c=_;unfold AO;rw[j.out,a_ (by decide),bA rfl,a_ u]
  have g:Hid (AZ _ _ _ _ _ _ _ _ _):=h;have q:Hid (Ok m):=ok;clear h ok;go_enter func93,ntmps93;go_wp2_with (first|(go_at_call 126;refine hc.mono ?_;rintro e w' ⟨rfl,k,rfl⟩)|(go_at_call 123;refine(AN _ _ (by omega) (by omega) (by omega)).mono ?_;rintro e w' ⟨rfl,rfl⟩));refine((g.out.drewN k).digit q.out hn c true H h1 110).mono ?_;rintro e w' ⟨rfl,hb,hr⟩;go_wp2;go_ret;exact Bg b.out ((bD (bC _ _) _)) hb hr
theorem AZ.valueX(h:AZ B w r m vs vo P Q O)(ok:Ok m)(hn:0<m.st.length)(c:Int)(H:0<=c)(h1:c<=255)(hx:m.state=120):
  Calls prog 93 #[.pointer (some ⟨r,0,none⟩),.int .u8 c] w (D2 B w r (AO m c)):=by
 have hc:=h.now hn ok.len;have a:=AZ.curs hn;obtain⟨c0,c1,c2,c3,c4,c5,J,K,L,C,o,p⟩:=h.stc _ _ a;obtain⟨G,r1,M,N,R,S,T⟩:=h.rdc;have geR:=h.geR;obtain⟨geP,t⟩:=h.geC hn;obtain⟨y,z⟩:=ok.sgn;obtain⟨v,x⟩:=ok.nums (cur m) (bR a);have I:Hid (_=_):=a;clear a;rw[hx]at G;have j:Hid (_=_):=hx;clear hx;have E:r≠P (m.st.length-1):=λe=>C e.symm;have F:r≠Q (m.st.length-1):=λe=>o e.symm;have D:P (m.st.length-1)≠Q (m.st.length-1):=λe=>p e.symm;have ab:=IX _ _ y z v x;by_cases d:c=43
 .subst d;have b:Hid (AO m 43=some {m with sign:=1,state:=121}):=by show AO m 43=_;unfold AO;rw[j.out,a_ (by decide),a_ (by decide),bA rfl,bA rfl]
  have g:Hid (AZ _ _ _ _ _ _ _ _ _):=h;have q:Hid (Ok m):=ok;clear h ok;go_enter func93,ntmps93;go_wp2_with (first|(go_at_call 126;refine hc.mono ?_;rintro e w' ⟨rfl,k,rfl⟩)|(go_at_call 123;refine(AN _ _ (by omega) (by omega) (by omega)).mono ?_;rintro e w' ⟨rfl,rfl⟩));go_ret;exact Aq b.out (bH (bH (bD (bC _ _) _) geR _) geR _) (((g.out.drewN k).setRd 3 (.int .i64 1) {m with sign:=1} rfl rfl rfl).setRd 0 (.int .u8 121) _ rfl rfl rfl)
 have s:(c==43)=false:=by simpa using d
 by_cases f:c=45
 .subst f;have b:Hid (AO m 45=some {m with sign:= -1,state:=121}):=by show AO m 45=_;unfold AO;rw[j.out,a_ (by decide),a_ (by decide),bA rfl,a_ (by decide),bA rfl]
  clear d s;have g:Hid (AZ _ _ _ _ _ _ _ _ _):=h;have q:Hid (Ok m):=ok;clear h ok;go_enter func93,ntmps93;go_wp2_with (first|(go_at_call 126;refine hc.mono ?_;rintro e w' ⟨rfl,k,rfl⟩)|(go_at_call 123;refine(AN _ _ (by omega) (by omega) (by omega)).mono ?_;rintro e w' ⟨rfl,rfl⟩));go_ret;exact Aq b.out (bH (bH (bH (bD (bC _ _) _) geR _) geR _) geR _) ((((g.out.drewN k).setRd 3 (.int .i64 1) {m with sign:=1} rfl rfl rfl).setRd 3 (.int .i64 (-1)) {m with sign:= -1} rfl rfl rfl).setRd 0 (.int .u8 121) _ rfl rfl rfl)
 have A:(c==45)=false:=by simpa using f
 by_cases i:c=59
 .subst i;have b:Hid (AO m 59=some (CW m)):=by show AO m 59=_;unfold AO;rw[j.out,a_ (by decide),a_ (by decide),bA rfl,a_ (by decide),a_ (by decide),bA rfl]
  clear d s f A;have g:Hid (AZ _ _ _ _ _ _ _ _ _):=h;have q:Hid (Ok m):=ok;clear h ok;go_enter func93,ntmps93;go_wp2_with (first|(go_at_call 126;refine hc.mono ?_;rintro e w' ⟨rfl,k,rfl⟩)|(go_at_call 123;refine(AN _ _ (by omega) (by omega) (by omega)).mono ?_;rintro e w' ⟨rfl,rfl⟩));go_region;go_wp2;go_ret;exact Aq b.out (bH (bH (bD (bC _ _) _) geP _) geR _) (((g.out.drewN (k+1)).setC hn {cur m with num:=m.sign*(cur m).num} 4 (.int .i64 (m.sign*(cur m).num)) rfl rfl).setRd 0 (.int .u8 115) (CW m) rfl rfl rfl)
 have aa:(c==59)=false:=by simpa using i
 have b:Hid (AO m c=none):=by show AO m c=_;unfold AO;rw[j.out,a_ (by decide),a_ (by decide),bA rfl,a_ d,a_ f,a_ i]
 clear d f i;have g:Hid (AZ _ _ _ _ _ _ _ _ _):=h;have q:Hid (Ok m):=ok;clear h ok;by_cases u:97<=c/\c<=100
 .obtain⟨l,n⟩:=u;go_enter func93,ntmps93;go_wp2_with (first|(go_at_call 126;refine hc.mono ?_;rintro e w' ⟨rfl,k,rfl⟩)|(go_at_call 123;refine(As c _ l n).mono ?_;rintro e w' ⟨rfl,rfl⟩));go_ret;exact Av b.out (bD (bC _ _) _)
 .go_enter func93,ntmps93;go_wp2_with (first|(go_at_call 126;refine hc.mono ?_;rintro e w' ⟨rfl,k,rfl⟩)|(go_at_call 123;refine(AN _ _ (by omega) (by omega) (by omega)).mono ?_;rintro e w' ⟨rfl,rfl⟩));go_ret;exact Av b.out (bD (bC _ _) _)
end Go.Proofs.YtffajooegiempaaGreatDoor
