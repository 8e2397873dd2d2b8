import Derived.Test.YtffajooegiempaaGreatDoorK2
import Derived.Deep.RegionWith
import Derived.Laws.Rows
import Derived.Laws.Tables
set_option maxRecDepth 100000
set_option maxHeartbeats 6400000
namespace Go.Proofs.YtffajooegiempaaGreatDoor
open Go.RowKit Go.Proofs.Tryz
abbrev tO:TypeId:=90
def oc(e:Bool)(M:Nat->Int):Array Value:=(Value.bool e::(List.range 64).map λk=>Value.int .i64 (M k)).toArray
theorem Am(e:Bool)(M:Nat->Int):(oc e M).size=65:=by simp[oc]
theorem Qs(e:Bool)(M:Nat->Int)(k:Nat)(h:k<64):(oc e M)[1+k]?=some (.int .i64 (M k)):=by
 rw[Nat.add_comm];simp[oc,h]
theorem Ib(e:Bool)(M:Nat->Int):(oc e M)[0]?=some (.bool e):=by simp[oc]
theorem Xy(e:Bool)(M:Nat->Int)(k:Nat)(h:k<64)(x:Int):(oc e M).setIfInBounds (1+k) (.int .i64 x)=oc e (Bw M k x):=by
 apply Array.ext
 .simp[oc]
 .intro i h1 h2;simp only[Am]at h2;rw[Array.getElem_setIfInBounds (by rw[Am];exact h2)];by_cases e1:1+k=i
  .subst e1;rw[bA rfl];have:=Qs e (Bw M k x) k h;rw[cQ (by rw[Am];exact h2),CV]at this;exact(bV this).symm
  .rw[a_ e1];cases i with
   |zero=>
    have a:=Ib e M;have b:=Ib e (Bw M k x);rw[cQ (by rw[Am];exact h2)]at a b;rw[bV a,bV b]
   |succ i=>
    have a:=Qs e M i (by omega);have b:=Qs e (Bw M k x) i (by omega);rw[show 1+i=i+1 by omega]at a b;rw[cQ (by rw[Am];exact h2)]at a b;rw[bV a,bV b,BO _ _ (by omega)]
theorem V6(e g:Bool)(M:Nat->Int):(oc e M).setIfInBounds 0 (.bool g)=oc g M:=by simp[oc]
def Sm(M:Nat->Int):Prop:=∀k,k<64-> -100000000000000000<=M k/\M k<=1000000
theorem ED(i:Nat)(hi:i<8)(w:World):Calls prog 153 #[.int .i64 (i:Int)] w λe w'=>e=.returned (.int .i64 ((opp i:Nat):Int))/\w'=w:=by
 rcases(show i=0\/i=1\/i=2\/i=3\/i=4\/i=5\/i=6\/i=7 by omega)with rfl|rfl|rfl|rfl|rfl|rfl|rfl|rfl;all_goals
  go_enter func153,ntmps153;go_wp2_with fail;go_ret;exact⟨rfl,rfl⟩
theorem GS(a b:Int)(m: -100000000000000000<=a/\a<=1000000)(hb: -100000000000000000<=b/\b<=1000000)(w:World):Calls prog 152 #[.int .i64 a,.int .i64 b] w λe w'=>e=.returned (.int .i64 (pl a b))/\w'=w:=by
 by_cases h1:a=1000000
 .subst h1;have c:Hid (pl 1000000 b=1000000):=bA (.inl rfl);go_enter func152,ntmps152;go_wp2_with fail;go_ret;exact⟨by rw[c.out];rfl,rfl⟩
 have q1:(a==1000000)=false:=by simpa using h1
 by_cases h2:b=1000000
 .subst h2;have c:Hid (pl a 1000000=1000000):=bA (.inr rfl);go_enter func152,ntmps152;go_wp2_with fail;go_ret;exact⟨by rw[c.out];rfl,rfl⟩
 have q2:(b==1000000)=false:=by simpa using h2
 have c:Hid (pl a b=a+b):=a_ (λe=>e.elim h1 h2);obtain⟨a0,a1⟩:=m;obtain⟨j,l⟩:=hb;clear h1 h2;go_enter func152,ntmps152;go_wp2_with fail;go_ret;exact⟨by rw[c.out];rfl,rfl⟩
theorem O7(n:Int):(n<n.tdiv 2*2->n/2=n.tdiv 2-1)/\(¬n<n.tdiv 2*2->n/2=n.tdiv 2):=by
 have:=ER n;rcases cR n 0 with e|e
 .rw[this.2 e];omega
 .rw[this.1 e];omega
theorem N1(n:Int)(hn: -100000000000000000<=n/\n<=1000000)(w:World):Calls prog 154 #[.int .i64 n] w λe w'=>e=.returned (.int .i64 (n/2))/\w'=w:=by
 have hb:=AW n;have d:=O7 n;obtain⟨n0,n1⟩:=hn;obtain⟨j,l⟩:=hb;by_cases h:n<n.tdiv 2*2
 .have c:Hid (n/2=n.tdiv 2-1):=d.1 h;clear d;go_enter func154,ntmps154;go_wp2_with fail;go_ret;exact⟨by rw[c.out];rfl,rfl⟩
 .have c:Hid (n/2=n.tdiv 2):=d.2 h;clear d;go_enter func154,ntmps154;go_wp2_with fail;go_ret;exact⟨by rw[c.out];rfl,rfl⟩
variable {w:World}{b:Nat}{e0:Bool}{M:Nat->Int}
def AL(w:World)(b:Nat)(e:Bool)(M:Nat->Int):Prop:=At w b (oc e M) tO
theorem AL.cell(h:AL w b e0 M)(k:Nat)(hk:k<64):w.cell? ⟨b,1+k,none⟩=some (.int .i64 (M k)):=by rw[At.cell h];exact Qs _ _ _ hk
theorem AL.put(h:AL w b e0 M)(k:Nat)(hk:k<64)(x:Int):AL (w.setCell ⟨b,1+k,none⟩ (.int .i64 x)) b e0 (Bw M k x):=by
 have:=At.put h (1+k) (.int .i64 x);rw[Xy _ _ _ hk]at this;exact this
theorem V5(h:AL w b e0 M)(s:Nat)(hs:s<8)(v:∀k,k<=64->Sm (E6 s M k)):
  Calls prog 135 #[.pointer (some ⟨b,0,none⟩),.int .i64 (s:Int)] w λe w'=>e=.returned (.tuple #[])/\AL w' b e0 (E6 s M 64)/\BC b w w':=by
 have z:Hid (AL w b e0 M):=h;have A:Hid (∀k,k<=64->Sm (E6 s M k)):=v;have aj:(s:Int)<8:=by omega
 have ah:¬(s:Int)<0:=by omega
 have ai:¬(8:Int)<=(s:Int):=by omega
 have ab:=Ah hs;clear h v;go_enter func135,ntmps135;go_wp2_with fail;go_loopw [4] (λi wr=>∃(p:Nat),p<=8/\i=.int .i64 p/\Hid (AL wr b e0 (E6 s M (p*8))/\BC b w wr)) (λi _=>8-(intOf i).toNat);case atStart=>exact⟨0,by omega,rfl,z.out,BC.refl _ _⟩
 case round=>
  obtain⟨p,hp,rfl,u⟩:=hrel;by_cases ad:p<8
  .have af:(p:Int)<8:=by omega
   obtain⟨y,rfl⟩:∃y,y=wr:=⟨_,rfl⟩
   go_wp2_with fail;go_loopw [5] (λj wr=>∃(q:Nat),q<=8/\j=.int .i64 q/\Hid (AL wr b e0 (E6 s M (p*8+q))/\BC b w wr)) (λj _=>8-(intOf j).toNat);case atStart=>exact⟨0,by omega,rfl,u.out⟩
   case round=>
    obtain⟨q,hq,rfl,a⟩:=hrel;by_cases aa:q<8
    .have ag:(q:Int)<8:=by omega
     have hk:p*8+q<64:=by omega
     have d:=A.out (p*8+q) (by omega);have c:Hid (E6 s M (p*8+(q+1))=if pl (E6 s M (p*8+q) (p*8+opp s)) (E6 s M (p*8+q) (s*8+q))<E6 s M (p*8+q) (p*8+q)then Bw (E6 s M (p*8+q)) (p*8+q) (pl (E6 s M (p*8+q) (p*8+opp s)) (E6 s M (p*8+q) (s*8+q)))else E6 s M (p*8+q)):=by show E6 s M (p*8+q+1)=_;rw[E6];unfold Sv;rw[show(p*8+q)/8=p by omega,show(p*8+q)%8=q by omega]
     generalize E6 s M (p*8+q)=N at *;have l:=d (p*8+opp s) (by omega);have m:=d (s*8+q) (by omega);have f:Hid (∀n,Calls prog 153 #[.int .i64 (s:Int)] (wr.drewN n) λe w'=>e=.returned (.int .i64 ((opp s:Nat):Int))/\w'=wr.drewN n):=λn=>ED s hs _;have ae:((opp s:Nat):Int)<8:=by omega
     generalize opp s=os at *;have c1:wr.cell? ⟨b,1+p*8+os,none⟩=some (.int .i64 (N (p*8+os))):=by rw[bS];exact a.out.1.cell (p*8+os) (by omega)
     have c2:wr.cell? ⟨b,1+s*8+q,none⟩=some (.int .i64 (N (s*8+q))):=by rw[bS];exact a.out.1.cell (s*8+q) (by omega)
     have c3:wr.cell? ⟨b,1+p*8+q,none⟩=some (.int .i64 (N (p*8+q))):=by rw[bS];exact a.out.1.cell (p*8+q) (by omega)
     have cf:wr.frozen? ⟨b,1+p*8+q,none⟩=false:=At.free a.out.1 _;have ac:b<wr.heap.size:=At.lt a.out.1;have g:Hid (∀n,Calls prog 152 #[.int .i64 (N (p*8+os)),.int .i64 (N (s*8+q))] (wr.drewN n) λe w'=>e=.returned (.int .i64 (pl (N (p*8+os)) (N (s*8+q))))/\w'=wr.drewN n):=λn=>GS _ _ l m _;clear d l m;generalize pl (N (p*8+os)) (N (s*8+q))=n at *;by_cases hn:n<N (p*8+q)
     .have o:Hid (_=_):=c.out.trans (bA hn);clear c;go_wp2_with fail
      go_quiet (first
       |(go_at_call 153;refine cX (f.out _))
       |(go_at_call 152;refine cX (g.out _)))
      go_wp2_with fail;go_roundw;case rel=>
       refine⟨q+1,by omega,by go_num,?_,(a.out.2.drewN _).setCell _ _⟩;rw[o.out,bS];exact AL.put (w:=wr.drewN nq) (At.drewN a.out.1 nq) (p*8+q) hk n
      case measure=>simp[intOf];omega
     .have o:Hid (_=_):=c.out.trans (a_ hn);clear c;go_wp2_with fail
      go_quiet (first
       |(go_at_call 153;refine cX (f.out _))
       |(go_at_call 152;refine cX (g.out _)))
      go_wp2_with fail;go_roundw;case rel=>
       refine⟨q+1,by omega,by go_num,?_,a.out.2.drewN _⟩;rw[o.out];exact At.drewN a.out.1 nq
      case measure=>simp[intOf];omega
    .have t:q=8:=by omega
     subst t;go_wp2_with fail;go_roundw;case rel=>exact⟨p+1,by omega,by go_num,by rw[show(p+1)*8=p*8+8 by omega];exact a.out.1,a.out.2⟩
     case measure=>simp[intOf];omega
  .have r:p=8:=by omega
   subst r;go_wp2_with fail
   go_end0
   exact⟨rfl,u.out⟩
theorem N3(h:AL w b e0 M)(m:∀k,k<=8->Sm (Ef M k)):
  Calls prog 136 #[.pointer (some ⟨b,0,none⟩)] w λe w'=>e=.returned (.tuple #[])/\AL w' b e0 (Ef M 8)/\BC b w w':=by
 have o:Hid (AL w b e0 M):=h;have r:Hid (∀k,k<=8->Sm (Ef M k)):=m;clear h m;go_enter func136,ntmps136;go_wp2_with fail;go_loopw [2] (λi wr=>∃(p:Nat),p<=8/\i=.int .i64 p/\Hid (AL wr b e0 (Ef M p)/\BC b w wr)) (λi _=>8-(intOf i).toNat);case atStart=>exact⟨0,by omega,rfl,o.out,BC.refl _ _⟩
 case round=>
  obtain⟨p,hp,rfl,c⟩:=hrel;by_cases ab:p<8
  .have ac:(p:Int)<8:=by omega
   have d:=r.out p (by omega);have a:Hid (Ef M (p+1)=if Ef M p (p*8+p)=NB then Ef M p else Bw (Ef M p) (p*8+p) (Ef M p (p*8+p)/2*2)):=by show Ef M (p+1)=_;rw[Ef];rfl
   generalize Ef M p=N at *;have j:=d (p*8+p) (by omega);have c1:wr.cell? ⟨b,1+p*8+p,none⟩=some (.int .i64 (N (p*8+p))):=by rw[bS];exact c.out.1.cell (p*8+p) (by omega)
   have cf:wr.frozen? ⟨b,1+p*8+p,none⟩=false:=At.free c.out.1 _;have aa:b<wr.heap.size:=At.lt c.out.1;have q:Hid (∀f,Calls prog 154 #[.int .i64 (N (p*8+p))] f λe w'=>e=.returned (.int .i64 (N (p*8+p)/2))/\w'=f):=λf=>N1 _ j f;have hk:p*8+p<64:=by omega
   clear d;generalize N (p*8+p)=n at *;by_cases hn:n=NB
   .have g:Hid (_=_):=a.out.trans (bA hn);have hb:(n != 1000000)=false:=by rw[hn];rfl
    clear a hn;go_wp2_with fail;go_roundw;case rel=>exact⟨p+1,by omega,by go_num,by rw[g.out];exact c.out.1,c.out.2⟩
    case measure=>simp[intOf];omega
   .have g:Hid (_=_):=a.out.trans (a_ hn);have hb:(n != 1000000)=true:=by rw[cI];exact hn
    have hw:IntKind.i64.wrap (n/2*2)=n/2*2:=by rw[cS];omega
    clear a hn;go_wp2_with fail;go_region_with (go_at_call 154;refine(q.out _).mono ?_;rintro e f ⟨rfl,rfl⟩);all_goals
     go_wp2_with fail;go_roundw;case rel=>
      refine⟨p+1,by omega,by go_num,?_,(c.out.2.setCell _ _).drewN 1⟩;rw[g.out,bS];exact At.drewN (AL.put c.out.1 (p*8+p) hk _) 1
     case measure=>simp[intOf];omega
  .have l:p=8:=by omega
   subst l;go_wp2_with fail
   go_end0
   exact⟨rfl,c.out⟩
theorem Nz(h:AL w b e0 M)(K:∀k,k<=64->Sm (Ea M k)):
  Calls prog 137 #[.pointer (some ⟨b,0,none⟩)] w λe w'=>e=.returned (.tuple #[])/\AL w' b e0 (Ea M 64)/\BC b w w':=by
 have F:Hid (AL w b e0 M):=h;have P:Hid (∀k,k<=64->Sm (Ea M k)):=K;clear h K;go_enter func137,ntmps137;go_wp2_with fail;go_loopw [2] (λi wr=>∃(p:Nat),p<=8/\i=.int .i64 p/\Hid (AL wr b e0 (Ea M (p*8))/\BC b w wr)) (λi _=>8-(intOf i).toNat);case atStart=>exact⟨0,by omega,rfl,F.out,BC.refl _ _⟩
 case round=>
  obtain⟨p,Q,rfl,o⟩:=hrel;by_cases x:p<8
  .have I:(p:Int)<8:=by omega
   obtain⟨L,rfl⟩:∃L,L=wr:=⟨_,rfl⟩
   go_wp2_with fail;go_loopw [3] (λj wr=>∃(q:Nat),q<=8/\j=.int .i64 q/\Hid (AL wr b e0 (Ea M (p*8+q))/\BC b w wr)) (λj _=>8-(intOf j).toNat);case atStart=>exact⟨0,by omega,rfl,o.out⟩
   case round=>
    obtain⟨q,hq,rfl,m⟩:=hrel;by_cases aa:q<8
    .have ad:(q:Int)<8:=by omega
     have hk:p*8+q<64:=by omega
     have z:=P.out (p*8+q) (by omega);have f:Hid (Ea M (p*8+(q+1))=if pl (Ea M (p*8+q) (p*8+p)) (Ea M (p*8+q) (q*8+q))≠NB/\(pl (Ea M (p*8+q) (p*8+p)) (Ea M (p*8+q) (q*8+q))).tdiv 2<Ea M (p*8+q) (p*8+q)then Bw (Ea M (p*8+q)) (p*8+q) ((pl (Ea M (p*8+q) (p*8+p)) (Ea M (p*8+q) (q*8+q))).tdiv 2)else Ea M (p*8+q)):=by show Ea M (p*8+q+1)=_;rw[Ea];unfold SZ;rw[show(p*8+q)/8=p by omega,show(p*8+q)%8=q by omega]
     generalize Ea M (p*8+q)=N at *;have C:=z (p*8+p) (by omega);have D:=z (q*8+q) (by omega);have c1:wr.cell? ⟨b,1+p*8+p,none⟩=some (.int .i64 (N (p*8+p))):=by rw[bS];exact m.out.1.cell (p*8+p) (by omega)
     have c2:wr.cell? ⟨b,1+q*8+q,none⟩=some (.int .i64 (N (q*8+q))):=by rw[bS];exact m.out.1.cell (q*8+q) (by omega)
     have c3:wr.cell? ⟨b,1+p*8+q,none⟩=some (.int .i64 (N (p*8+q))):=by rw[bS];exact m.out.1.cell (p*8+q) (by omega)
     have H:wr.frozen? ⟨b,1+p*8+q,none⟩=false:=At.free m.out.1 _;have s:b<wr.heap.size:=At.lt m.out.1;have v:Hid (∀n,Calls prog 152 #[.int .i64 (N (p*8+p)),.int .i64 (N (q*8+q))] (wr.drewN n) λe w'=>e=.returned (.int .i64 (pl (N (p*8+p)) (N (q*8+q))))/\w'=wr.drewN n):=λn=>GS _ _ C D _;have E: -200000000000000000<=pl (N (p*8+p)) (N (q*8+q))/\pl (N (p*8+p)) (N (q*8+q))<=2000000:=by
      unfold pl NB;split<;>omega
     obtain⟨l1,l2⟩:=E;clear z C D;generalize pl (N (p*8+p)) (N (q*8+q))=n at *;have R:=AW n;obtain⟨t1,t2⟩:=R;by_cases hz:n=NB
     .have r:Hid (_=_):=f.out.trans (a_ (λe=>e.1 hz));have hb:(n != 1000000)=false:=by rw[hz];rfl
      clear f hz;go_wp2_with fail;go_quiet (first|(go_at_call 152;refine cX (v.out _)));obtain⟨g,c⟩:∃g,g=wr.drewN nq:=⟨_,rfl⟩
      rw[<-c];have u:∀a,g.cell? a=wr.cell? a:=λa=>by rw[c];rfl
      rw[<-u]at c3;have B:g.frozen? ⟨b,1+p*8+q,none⟩=false:=by rw[c];exact H
      have l:Hid (AL g b e0 N/\BC b w g):=by rw[c];exact⟨At.drewN m.out.1 nq,m.out.2.drewN nq⟩
      have t:b<g.heap.size:=by rw[c];exact s
      clear u c;go_wp2_with fail;go_roundw;case rel=>exact⟨q+1,by omega,by go_num,by rw[r.out];exact l.out.1,l.out.2⟩
      case measure=>simp[intOf];omega
     have hb:(n != 1000000)=true:=by rw[cI];exact hz
     by_cases hn:n.tdiv 2<N (p*8+q)
     .have r:Hid (_=_):=f.out.trans (bA ⟨hz,hn⟩);clear f hz;go_wp2_with fail;go_quiet (first|(go_at_call 152;refine cX (v.out _)));obtain⟨g,c⟩:∃g,g=wr.drewN nq:=⟨_,rfl⟩
      rw[<-c];have u:∀a,g.cell? a=wr.cell? a:=λa=>by rw[c];rfl
      rw[<-u]at c3;have B:g.frozen? ⟨b,1+p*8+q,none⟩=false:=by rw[c];exact H
      have l:Hid (AL g b e0 N/\BC b w g):=by rw[c];exact⟨At.drewN m.out.1 nq,m.out.2.drewN nq⟩
      have t:b<g.heap.size:=by rw[c];exact s
      clear u c;go_wp2_with fail;go_roundw;case rel=>
       refine⟨q+1,by omega,by go_num,?_,l.out.2.setCell _ _⟩;rw[r.out,bS];exact AL.put l.out.1 (p*8+q) hk _
      case measure=>simp[intOf];omega
     .have r:Hid (_=_):=f.out.trans (a_ (λe=>hn e.2));clear f hz;go_wp2_with fail;go_quiet (first|(go_at_call 152;refine cX (v.out _)));obtain⟨g,c⟩:∃g,g=wr.drewN nq:=⟨_,rfl⟩
      rw[<-c];have u:∀a,g.cell? a=wr.cell? a:=λa=>by rw[c];rfl
      rw[<-u]at c3;have B:g.frozen? ⟨b,1+p*8+q,none⟩=false:=by rw[c];exact H
      have l:Hid (AL g b e0 N/\BC b w g):=by rw[c];exact⟨At.drewN m.out.1 nq,m.out.2.drewN nq⟩
      have t:b<g.heap.size:=by rw[c];exact s
      clear u c;go_wp2_with fail;go_roundw;case rel=>exact⟨q+1,by omega,by go_num,by rw[r.out];exact l.out.1,l.out.2⟩
      case measure=>simp[intOf];omega
    .have J:q=8:=by omega
     subst J;go_wp2_with fail;go_roundw;case rel=>exact⟨p+1,by omega,by go_num,by rw[show(p+1)*8=p*8+8 by omega];exact m.out.1,m.out.2⟩
     case measure=>simp[intOf];omega
  .have y:p=8:=by omega
   subst y;go_wp2_with fail
   go_end0
   exact⟨rfl,o.out⟩
theorem LC(h:AL w b e0 M):
  Calls prog 138 #[.pointer (some ⟨b,0,none⟩)] w λe w'=>e=.returned (.bool (By M 8))/\∃k,w'=w.drewN k:=by
 have F:Hid (AL w b e0 M):=h;have s:b<w.heap.size:=At.lt h;have G:Hid (∀n,n<=8->By M n=true->By M 8=true):=by
  intro n hn h;have:∀d,By M (n+d)=true:=by
   intro d;induction d with
   |zero=>exact h
   |succ d ih=>show(By M (n+d)||_)=true;rw[ih];rfl
  rw[show 8=n+(8-n) by omega];exact this _
 clear h;go_enter func138,ntmps138;go_wp2_with fail;go_loopw [3] (λi wr=>∃(p k:Nat),p<=8/\i=.int .i64 p/\Hid (By M p=false/\wr=w.drewN k)) (λi _=>8-(intOf i).toNat);case atStart=>exact⟨0,0,by omega,rfl,rfl,rfl⟩
 case round=>
  obtain⟨p,k,Q,rfl,o⟩:=hrel;by_cases x:p<8
  .have I:(p:Int)<8:=by omega
   have O:Hid (AL wr b e0 M):=by show AL _ _ _ _;rw[o.out.2];exact At.drewN F.out k
   have ac:=Ah x;have A:Hid (∀n,Calls prog 153 #[.int .i64 (p:Int)] (wr.drewN n) λe w'=>e=.returned (.int .i64 ((opp p:Nat):Int))/\w'=wr.drewN n):=λn=>ED p x _;have f:Hid (By M (p+1)=(By M p||decide (M (p*8+opp p)<0))):=rfl;have ab:((opp p:Nat):Int)<8:=by omega
   generalize opp p=os at *;have c1:wr.cell? ⟨b,1+p*8+os,none⟩=some (.int .i64 (M (p*8+os))):=by rw[bS];exact O.out.cell (p*8+os) (by omega)
   generalize M (p*8+os)=n at *;by_cases hn:n<0
   .have r:Hid (By M 8=true):=G.out (p+1) (by omega) (f.out.trans (by rw[o.out.1];simpa using hn));clear f;go_wp2_with fail;go_quiet (first|(go_at_call 153;refine cX (A.out _)));go_wp2_with fail;go_ret;exact⟨by rw[r.out];rfl,k+nq,by rw[o.out.2];exact World.drewN_drewN _ _ _⟩
   .have r:Hid (By M (p+1)=false):=f.out.trans (by rw[o.out.1];simpa using hn);clear f;go_wp2_with fail;go_quiet (first|(go_at_call 153;refine cX (A.out _)));go_wp2_with fail;go_roundw;case rel=>exact⟨p+1,k+nq,by omega,by go_num,r.out,by rw[o.out.2];exact World.drewN_drewN _ _ _⟩
    case measure=>simp[intOf];omega
  .have y:p=8:=by omega
   subst y;go_wp2_with fail;go_ret;exact⟨by rw[o.out.1];rfl,k,o.out.2⟩
def Z8:List Nat:=[0,1,2,3,4,5,6,7,0,0,1,1,0,0,1,1,0,0,1,1,2,2,3,3,2,2,3,3,4,4,5,5]
def Z_:List Nat:=[0,1,2,3,4,5,6,7,2,3,2,3,4,5,4,5,6,7,6,7,4,5,4,5,6,7,6,7,6,7,6,7]
def fs(f:Nat):Nat:=Z8.getD f 0
def ss(f:Nat):Nat:=Z_.getD f 0
theorem D5:∀f,f<32->fs f<8:=by decide
theorem D7:∀f,f<32->ss f<8:=by decide
def lm(M:Nat->Int)(i j:Nat)(n:Int):Nat->Int:=
 Bw (Bw M (i*8+j) (if i=j/\n≠NB then 2*n else n)) (j*8+i) (if i=j/\n≠NB then 2*n else n)
def sb(M:Nat->Int)(f:Nat)(n:Int):Nat->Int:=
 Bw (Bw M (fs f*8+ss f) (if fs f=ss f/\n≠NB then 2*n else n)) (ss f*8+fs f) (if fs f=ss f/\n≠NB then 2*n else n)
structure Cr(w:World):Prop where
 first:∀f,f<32->w.cell? ⟨0,f,none⟩=some (.int .i64 ((fs f:Nat):Int))
 second:∀f,f<32->w.cell? ⟨1,f,none⟩=some (.int .i64 ((ss f:Nat):Int))
 size:2<=w.heap.size
theorem Cr.keep{w w':World}{B:Nat}(h:Cr w)(hb:Below B w w')(hB:2<=B):Cr w' where
 first:=λf d=>(hb.cell (p:=⟨0,f,none⟩) (by show 0<B;omega)).trans (h.first f d)
 second:=λf d=>(hb.cell (p:=⟨1,f,none⟩) (by show 1<B;omega)).trans (h.second f d)
 size:=cN h.size hb.size
theorem MY(h:AL w b e0 M)(i j:Nat)(hi:i<8)(t:j<8)(n:Int)(hn: -1000000000000<=n/\n<=1000000000000):
  Calls prog 134 #[.pointer (some ⟨b,0,none⟩),.int .i64 (i:Int),.int .i64 (j:Int),.int .i64 n] w λe w'=>e=.returned (.tuple #[])/\AL w' b e0 (lm M i j n)/\BC b w w':=by
 have ac:b<w.heap.size:=At.lt h;have r:Hid (AL w b e0 M):=h;have c:Hid (lm M i j n=Bw (Bw M (i*8+j) (if i=j/\n≠NB then 2*n else n)) (j*8+i) (if i=j/\n≠NB then 2*n else n)):=rfl;have ag:(i:Int)<8:=by omega
 have ai:(j:Int)<8:=by omega
 have af:¬(8:Int)<=(i:Int):=by omega
 have ah:¬(8:Int)<=(j:Int):=by omega
 have y:i*8+j<64:=by omega
 have k2:j*8+i<64:=by omega
 have c1:w.cell? ⟨b,1+i*8+j,none⟩=some (.int .i64 (M (i*8+j))):=by rw[bS];exact h.cell _ y
 have c2:w.cell? ⟨b,1+j*8+i,none⟩=some (.int .i64 (M (j*8+i))):=by rw[bS];exact h.cell _ k2
 have cf:∀a,w.frozen? ⟨b,a,none⟩=false:=At.free h;obtain⟨n0,n1⟩:=hn;have g:Hid (∀x n,AL ((((w.drewN n).setCell ⟨b,1+i*8+j,none⟩ (.int .i64 x))).setCell ⟨b,1+j*8+i,none⟩ (.int .i64 x)) b e0 (Bw (Bw M (i*8+j) x) (j*8+i) x)):=by
  intro x n;rw[bS,bS];exact AL.put (AL.put (w:=w.drewN n) (At.drewN r.out n) _ y x) _ k2 x
 clear h;by_cases o:i=j/\n≠NB
 .obtain⟨rfl,k⟩:=o;have l:Hid (lm M i i n=Bw (Bw M (i*8+i) (2*n)) (i*8+i) (2*n)):=by show lm M i i n=_;rw[c.out,bA ⟨rfl,k⟩]
  have hb:(n != 1000000)=true:=by rw[cI];exact k
  clear c k;go_enter func134,ntmps134;go_wp2_with fail
  go_end0
  exact⟨rfl,by rw[l.out];exact g.out _ 0,(((BC.refl b w).drewN 0).setCell _ _).setCell _ _⟩
 .have l:Hid (lm M i j n=Bw (Bw M (i*8+j) n) (j*8+i) n):=by show lm M i j n=_;rw[c.out,a_ o]
  clear c;by_cases m:i=j
  .subst m;have hb:(n != 1000000)=false:=by
    have:n=1000000:=by
     rcases Classical.em (n=NB)with e|e
     .exact e
     .exact absurd ⟨rfl,e⟩ o
    rw[this];rfl
   clear o;go_enter func134,ntmps134;go_wp2_with fail
   go_end0
   exact⟨rfl,by rw[l.out];exact g.out _ 0,(((BC.refl b w).drewN 0).setCell _ _).setCell _ _⟩
  .have hb:((i:Int)==(j:Int))=false:=by rw[b9];omega
   have aa:1+j*8+i≠1+i*8+j:=by omega
   have ab:1+i*8+j≠1+j*8+i:=by omega
   clear o m;go_enter func134,ntmps134;go_wp2_with fail
   go_end0
   exact⟨rfl,by rw[l.out];exact g.out _ 0,(((BC.refl b w).drewN 0).setCell _ _).setCell _ _⟩
theorem PM(s:Cr w)(_hb2:2<=b)(h:AL w b e0 M)(f:Nat)(d:f<32)(n:Int)(hn: -4000<=n/\n<=1000000):
  Calls prog 108 #[.pointer (some ⟨b,0,none⟩),.int .i64 (f:Int),.int .i64 n] w λe w'=>e=.returned (.tuple #[])/\AL w' b e0 (sb M f n)/\BC b w w':=by
 have ae:(f:Int)<32:=by omega
 have ad:¬(32:Int)<=(f:Int):=by omega
 have g0:=s.first f d;have g1:=s.second f d;have hi:=D5 f d;have t:=D7 f d;have l:Hid (sb M f n=lm M (fs f) (ss f) n):=rfl;have z:Hid (∀q,AL q b e0 M->Calls prog 134 #[.pointer (some ⟨b,0,none⟩),.int .i64 ((fs f:Nat):Int),.int .i64 ((ss f:Nat):Int),.int .i64 n] q λe w'=>e=.returned (.tuple #[])/\Hid (AL w' b e0 (lm M (fs f) (ss f) n)/\BC b q w')):=λq h1=>(MY h1 _ _ hi t n ⟨by omega,by omega⟩).mono λe w' v=>⟨v.1,v.2⟩
 generalize fs f=i at *;generalize ss f=j at *;have r:Hid (AL w b e0 M):=h;clear h s hn hi t;go_enter func108,ntmps108;go_wp2_with fail;go_region_with (go_at_call 134;refine(z.out _ (by exact r.out)).mono ?_;rintro e q ⟨rfl,u⟩);all_goals
  go_wp2_with fail
  go_end0
  exact⟨rfl,by rw[l.out];exact u.out.1,((BC.refl b w).drewN 1).trans u.out.2⟩
def FW(l:List Int):Nat->Nat->Int
 |0=>λ_=>0
 |f+1=>sb (FW l f) f (l.getD f 0)
theorem UZ(M:Nat->Int)(f:Nat)(n:Int)(c:∀k, -8000<=M k/\M k<=1000000)(hn:G8 n=true):∀k, -8000<=sb M f n k/\sb M f n k<=1000000:=by
 intro k;have h:=c k;unfold G8 at hn;have hn:=ce hn;unfold NB at hn;unfold sb Bw;split
 .split<;>(simp only[NB]at *;omega)
 .split
  .split<;>(simp only[NB]at *;omega)
  .exact h
theorem EA(l:List Int)(n:Nat)(h:∀i,i<n->G8 (l.getD i 0)=true):∀k, -8000<=FW l n k/\FW l n k<=1000000:=by
 induction n with
 |zero=>intro k;show -8000<=(0:Int)/\(0:Int)<=1000000;omega
 |succ n ih=>exact UZ _ _ _ (ih (λi hi=>h i (by omega))) (h n (by omega))
theorem Ui{L:Int}{M B:Nat->Int}(hL:L<=100000000000000000)(d:Lo L B)(D:∀a,B a<=M a)(c:∀k,k<64->M k<=1000000):Sm B:=λk hk=>⟨by have:=d k hk;omega,by have:=D k;have:=c k hk;omega⟩
theorem Qh(l:List Int)(n:Nat)(h:∀i,i<n->G8 (l.getD i 0)=true):∀k,k<64-> -20000000000<=FW l n k/\FW l n k<=1000000:=λk _=>by have:=EA l n h k;omega
theorem Y3{M:Nat->Int}(c:∀k,k<64-> -20000000000<=M k/\M k<=1000000)(s:Nat)(hs:s<8):∀k,k<=64->Sm (E6 s (fw M s) k):=by
 intro k hk;have d:Lo 20000000000 M:=λa C=>(c a C).1;have h1:=QW (by decide) d s (by omega);have K:(0:Int)<=20000000000*6^s:=Int.mul_nonneg (by decide) (Int.le_of_lt (Int.pow_pos (by decide)));have h2:=(Sw K hs h1 k hk).all;refine Ui (L:=6*(20000000000*6^s)) ?_ h2 (λa=>cd (J3 s _ k a) (F8 M s a)) (λk hk=>(c k hk).2);rcases(show s=0\/s=1\/s=2\/s=3\/s=4\/s=5\/s=6\/s=7 by omega)with rfl|rfl|rfl|rfl|rfl|rfl|rfl|rfl<;>decide
theorem TL{M:Nat->Int}(c:∀k,k<64-> -20000000000<=M k/\M k<=1000000):Lo 33592320000000000 (fw M 8):=QW (by decide) (λa C=>(c a C).1) 8 (bB _)
theorem ZL{M:Nat->Int}(c:∀k,k<64-> -20000000000<=M k/\M k<=1000000)(n:Nat):Sm (Ef (fw M 8) n):=
 Ui (L:=33592320000000001) (by decide) (Mk (TL c) n) (λa=>cd (Hx _ n a) (F8 M 8 a)) (λk hk=>(c k hk).2)
theorem Sa{M:Nat->Int}(c:∀k,k<64-> -20000000000<=M k/\M k<=1000000)(k:Nat)(hk:k<=64):Sm (Ea (Ef (fw M 8) 8) k):=
 Ui (L:=33592320000000001) (by decide) (Oi (by decide) (Mk (TL c) 8) k hk) (λa=>cd (Is _ k a) (cd (Hx _ 8 a) (F8 M 8 a))) (λk hk=>(c k hk).2)
theorem Lj(h:AL w b e0 M)(c:∀k,k<64-> -20000000000<=M k/\M k<=1000000):
  Calls prog 109 #[.pointer (some ⟨b,0,none⟩)] w λe w'=>e=.returned (.tuple #[])/\AL w' b (By (Aj M) 8) (Aj M)/\BC b w w':=by
 have N:Hid (AL w b e0 M):=h;have A:Hid (∀k,k<64-> -20000000000<=M k/\M k<=1000000):=c;have z:Hid (∀s u,s<8->AL u b e0 (fw M s)->Calls prog 135 #[.pointer (some ⟨b,0,none⟩),.int .i64 (s:Int)] u λe w'=>e=.returned (.tuple #[])/\Hid (AL w' b e0 (fw M (s+1))/\BC b u w')):=by
  intro s u hs h1;refine(V5 h1 s hs (Y3 A.out s hs)).mono ?_;rintro e v ⟨rfl,h2,h3⟩;exact⟨rfl,by rw[fw];exact h2,h3⟩
 clear h c;go_enter func109,ntmps109;go_wp2_with fail;go_loopw [2] (λi wr=>∃(p:Nat),p<=8/\i=.int .i64 p/\Hid (AL wr b e0 (fw M p)/\BC b w wr)) (λi _=>8-(intOf i).toNat);case atStart=>exact⟨0,by omega,rfl,N.out,BC.refl _ _⟩
 case round=>
  obtain⟨p,K,rfl,t⟩:=hrel;by_cases E:p<8
  .have aa:(p:Int)<8:=by omega
   go_wp2_with fail;refine(z.out p wr E t.out.1).mono ?_;rintro e v ⟨rfl,r⟩;go_wp2_with fail;go_roundw;case rel=>exact⟨p+1,by omega,by go_num,r.out.1,t.out.2.trans r.out.2⟩
   case measure=>simp[intOf];omega
  .have F:p=8:=by omega
   subst F;have q:=N3 t.out.1 (λk _=>ZL A.out k);go_wp2_with fail;refine q.mono ?_;rintro e v ⟨rfl,h2,m⟩;have r:Hid (AL v b e0 _/\BC b w v):=⟨h2,t.out.2.trans m⟩
   have g:=Nz h2 (λk hk=>Sa A.out k hk);clear h2 m q;go_wp2_with fail;refine g.mono ?_;rintro e x ⟨rfl,h3,o⟩;have G:Hid (AL x b e0 (Aj M)/\BC b w x):=⟨h3,r.out.2.trans o⟩
   have j:=LC (show AL x b e0 (Aj M)from h3);have J:x.cell? ⟨b,0,none⟩=some (.bool e0):=by rw[At.cell h3];exact Ib _ _
   have I:=At.free h3;clear h3 o g;go_wp2_with fail;refine j.mono ?_;rintro e y ⟨rfl,k,hk⟩;have c4:y.cell? ⟨b,0,none⟩=some (.bool e0):=by rw[hk];exact J
   have f4:y.frozen? ⟨b,0,none⟩=false:=by rw[hk];exact I 0
   have H:Hid (AL y b e0 (Aj M)/\BC b w y):=by show _/\_;rw[hk];exact⟨At.drewN G.out.1 k,G.out.2.drewN k⟩
   clear hk j J I;go_wp2_with fail
   go_end0
   refine⟨rfl,?_,H.out.2.setCell _ _⟩;have:=At.put H.out.1 0 (.bool (By (Aj M) 8));rw[V6]at this;exact this
theorem Bn(w:World):(zeroValue 90).run prog w=.ok (.agg (oc false λ_=>0)) w:=by kernel_rfl
theorem Hr(e:Bool)(M:Nat->Int):∀v,v∈(oc e M).toList->v.oneCell'=true:=by
 intro v r;simp[oc]at r;rcases r with rfl|⟨k,_,rfl⟩<;>rfl
theorem Al(h:AL w b e0 M)(y:Bool)(s:Nat->Int):∃m,(storeCells ⟨b,0,none⟩ (oc y s).toList).run prog w=.ok () m/\AL m b y s/\BC b w m:=by
 have hr:=run_storeCells_at prog b 0 tO (oc y s).toList 0 (oc e0 M) w h (by simp[Am]) (Hr y s);refine⟨_,hr,?_,?_⟩
 .have:=setRow_heap w b (oc e0 M) ((oc e0 M).toList.take (0+0)++(oc y s).toList++(oc e0 M).toList.drop (0+0+(oc y s).toList.length)).toArray tO (0,0) h;have e1:((oc e0 M).toList.take (0+0)++(oc y s).toList++(oc e0 M).toList.drop (0+0+(oc y s).toList.length)).toArray=oc y s:=by
   rw[List.drop_of_length_le (by simp[Am])];simp
  rw[e1]at this|-;exact this
 .exact⟨rfl,rfl,rfl,by simp[World.setRow],λk _ hk=>setRow_other w b k _ (λe=>hk e)⟩
theorem Fa(h:AL w b e0 M):(loadVar tO ⟨b,0,none⟩).run prog w=.ok (.agg (oc e0 M)) w:=
 run_loadVar_row w b tO tO (oc e0 M) (0,0) _ h underlying90 rfl (by rw[Am];kernel_rfl)
theorem IY(h:AL w b e0 M):(Instr.loadAt tO (.pointer (some ⟨b,0,none⟩))).run prog w=.ok (.agg (oc e0 M)) w:=by
 simp only[Instr.loadAt,Instr.sureAddr,Sem.run_bind,Sem.run_pure,Result.andThen];exact Fa h
theorem AH{Z:Array Oper}{E:List Oper}{o:Oper}{a:Act}{Q:Exit->Act->World->Prop}(hg:o.guard=none)(p:Operand)(al:o.op=Op.load tO p)(H:a.eval p=.pointer (some ⟨b,0,none⟩))(d:AL w b e0 M)
  (hK:wpList prog Z Q E (a.put o.dst (.agg (oc e0 M))) w):wpList prog Z Q (o::E) a w:=by
 refine wpList_plain hg λK af=>?_;unfold Oper.wp;simp[execOp,al,H,IY d,Result.andThen];exact af _ _ hK
theorem KZ{O:Func}{t u:Tmp}(h:O.results=#[.cell t tO,.tmp u])(c:Array Value)(H:c.getD t undef=.pointer (some ⟨b,0,none⟩))(d:AL w b e0 M):
  (results O c).run prog w=.ok (.tuple #[.agg (oc e0 M),c.getD u undef]) w:=by
 have I:c[t]?.getD undef=.pointer (some ⟨b,0,none⟩):=by simpa using H
 simp[results,h,I,asAddr,Fa d]
theorem Ag{O:Func}{t:Tmp}(h:O.results=#[.cell t tO])(c:Array Value)(H:c.getD t undef=.pointer (some ⟨b,0,none⟩))(d:AL w b e0 M):
  (results O c).run prog w=.ok (.agg (oc e0 M)) w:=by
 have I:c[t]?.getD undef=.pointer (some ⟨b,0,none⟩):=by simpa using H
 simp[results,h,I,asAddr,Fa d]
def BT(l:List Int):Nat->Int:=Aj (FW l 32)
def ovE(l:List Int):Bool:=By (BT l) 8
theorem PL(v:Value)(l:List Int)(r:AQ w v l)(ak:FM l=false):
  Calls prog 73 #[v] w λe w'=>e=.returned (.tuple #[.agg (oc false λ_=>0),.int .i64 3])/\dc w w':=by
 have hz:=Bn;have g:=λm (hb:dc w m)=>KN (w:=m) v l (r.keep hb);rw[ak]at g;have D:=g _ ((bC _ w).alloc (bB _) (.cells (oc false λ_=>0) tO));obtain⟨m,au,d,ho⟩:=Al (w:=w.alloc (.cells (oc false λ_=>0) tO)) (b:=w.heap.size) (At.new _ _ _) false (λ_=>0);have HA:Hid (AL m w.heap.size false λ_=>0):=d;have HB:Hid (dc w m):=((bC _ _).alloc (bB _) _).trans (ho.below (bB _) (by simp));obtain⟨ao,cap,rfl, -, -⟩:=r;clear d ho g;go_enter func73,ntmps73;go_wp2_with fail;refine D.mono ?_;rintro e w2 ⟨rfl,J⟩;subst J;clear D;go_wp2_with fail;try simp only[Exit.inBlock,Exit.then]
 refine bJ (KZ rfl _ rfl HA.out) rfl ?_;exact⟨rfl,HB.out⟩
theorem Fb(hG:Cr w)(v:Value)(l:List Int)(hl:B_ l)(r:AQ w v l):
  Calls prog 73 #[v] w λe w'=>e=.returned (.tuple #[.agg (oc (ovE l) (BT l)),.int .i64 0])/\dc w w':=by
 have g:=KN (w:=w.alloc (.cells (oc false λ_=>0) tO)) v l (r.keep ((bC _ w).alloc (bB _) (.cells (oc false λ_=>0) tO)));rw[CG.2 hl]at g;obtain⟨ao,cap,rfl,U,h0⟩:=r;have aj:=hl.1;obtain⟨p,off,rfl,H,q⟩:=h0 (by omega);have hz:=Bn;obtain⟨m,an,A,z⟩:=Al (w:=(w.alloc (.cells (oc false λ_=>0) tO)).alloc (.cells (oc false λ_=>0) tO)) (b:=w.heap.size+1) (by have:=At.new (w.alloc (.cells (oc false λ_=>0) tO)) (oc false λ_=>0) tO;rw[show(w.alloc (.cells (oc false λ_=>0) tO)).heap.size=w.heap.size+1 by simp]at this;exact this) false (λ_=>0);have C:AL m w.heap.size false (λ_=>0):=z.at_ (At.allocH (At.new w _ _) _) (by omega);have S:dc w m:=(((bC _ _).alloc (bB _) _).alloc (by simp) _).trans (z.below (by omega) (by simp;omega));have am:w.heap.size+2<=m.heap.size:=by have:=z.size;simpa using this
 have aa:Hid (AL m (w.heap.size+1) false (λ_=>0)):=A;have ad:Hid (AL m w.heap.size false (λ_=>0)):=C;have ab:Hid (dc w m):=S;clear A C S z;have ae:Hid (∀wr f (N:Nat->Int),f<32->G8 (l.getD f 0)=true->dc w wr->AL wr (w.heap.size+1) false N->Calls prog 108 #[.pointer (some ⟨w.heap.size+1,0,none⟩),.int .i64 (f:Int),.int .i64 (l.getD f 0)] wr λe w'=>e=.returned (.tuple #[])/\Hid (AL w' (w.heap.size+1) false (sb N f (l.getD f 0))/\BC (w.heap.size+1) wr w')):=by
  intro wr f N hf hb T d;have ai:=hG.size;have ag: -4000<=l.getD f 0/\l.getD f 0<=1000000:=by
   unfold G8 at hb;have:=ce hb;unfold NB at this;omega
  refine(PM (hG.keep T ai) (by omega) d f hf (l.getD f 0) ag).mono ?_;rintro e w2 ⟨rfl,h1,h2⟩;exact⟨rfl,h1,h2⟩
 have HC:Hid (∀i,i<32->w.cell? ⟨p,off+i,none⟩=some (.int .i64 (l.getD i 0))):=λi hi=>q i (by omega);have HI:Hid (∀i,i<32->G8 (l.getD i 0)=true):=hl.2;rw[aj]at g|-;clear h0 q hG hl U;go_enter func73,ntmps73;go_wp2_with fail;refine g.mono ?_;rintro e w2 ⟨rfl,J⟩;subst J;clear g;go_wp2_with fail;go_loopw [14] (λi wr=>∃(f:Nat),f<=32/\i=.int .i64 f/\Hid (AL wr (w.heap.size+1) false (FW l f)/\AL wr w.heap.size false (λ_=>0)/\dc w wr/\w.heap.size+2<=wr.heap.size)) (λi _=>32-(intOf i).toNat);case atStart=>exact⟨0,by omega,rfl,aa.out,ad.out,ab.out,am⟩
 case round=>
  obtain⟨f,hf,rfl,n⟩:=hrel;by_cases ar:f<32
  .have aq:(f:Int)<32:=by omega
   have cx:wr.cell? ⟨p,off+f,none⟩=some (.int .i64 (l.getD f 0)):=(n.out.2.2.1.cell (by exact H)).trans (HC.out f (by omega));have X:=ae.out wr f (FW l f) (by omega) (HI.out f (by omega)) n.out.2.2.1 n.out.1;have ac:Hid (FW l (f+1)=sb (FW l f) f (l.getD f 0)):=rfl;generalize l.getD f 0=x at *;go_wp2_with fail;refine X.mono ?_;rintro e w3 ⟨rfl,L⟩;go_wp2_with fail;go_roundw;case rel=>exact⟨f+1,by omega,by go_num,by rw[ac.out];exact L.out.1,L.out.2.at_ n.out.2.1 (by omega),n.out.2.2.1.trans (L.out.2.below (by omega) (by have:=n.out.2.2.2;omega)),cN n.out.2.2.2 L.out.2.size⟩
   case measure=>simp[intOf];omega
  .have ah:f=32:=by omega
   subst ah;have Y:=Lj n.out.1 (Qh l 32 HI.out);go_wp2_with fail;refine Y.mono ?_;rintro e w3 ⟨rfl,h3,G⟩;have W:AL w3 w.heap.size false (λ_=>0):=G.at_ n.out.2.1 (by omega);have L:Hid (AL w3 (w.heap.size+1) (ovE l) (BT l)):=h3;obtain⟨w5,ap,B,V⟩:=Al W (ovE l) (BT l);have F:dc w w3:=n.out.2.2.1.trans (G.below (by omega) (by have:=n.out.2.2.2;omega));have H5:Hid (AL w5 w.heap.size (ovE l) (BT l)/\dc w w5):=⟨B,F.trans (V.below (bB _) F.size)⟩
   clear B V Y h3 G W F;go_wp2_with (refine AH rfl (.tmp 4) rfl rfl L.out ?_);try simp only[Exit.inBlock,Exit.then]
   refine bJ (KZ rfl _ rfl H5.out.1) rfl ?_;exact⟨rfl,H5.out.2⟩
abbrev Gc:TypeId:=3
def mo(M:Nat->Int)(i j:Nat):Int:=if i=j/\M (i*8+j)≠NB then(M (i*8+j)).tdiv 2 else M (i*8+j)
def bd(M:Nat->Int)(f:Nat):Int:=if fs f=ss f/\M (fs f*8+ss f)≠NB then(M (fs f*8+ss f)).tdiv 2 else M (fs f*8+ss f)
theorem PJ(i j:Nat)(hi:i<8)(F:j<8)(A: -200000000000000000<=M (i*8+j)/\M (i*8+j)<=1000000000000000):
  Calls prog 139 #[.agg (oc e0 M),.int .i64 (i:Int),.int .i64 (j:Int)] w λe w'=>e=.returned (.int .i64 (mo M i j))/\dc w w':=by
 have r:Hid (mo M i j=if i=j/\M (i*8+j)≠NB then(M (i*8+j)).tdiv 2 else M (i*8+j)):=rfl;have ae:(i:Int)<8:=by omega
 have ag:(j:Int)<8:=by omega
 have ad:¬(8:Int)<=(i:Int):=by omega
 have af:¬(8:Int)<=(j:Int):=by omega
 have c1:(w.alloc (.cells (oc e0 M) tO)).cell? ⟨w.heap.size,1+i*8+j,none⟩=some (.int .i64 (M (i*8+j))):=by
  rw[bS];exact AL.cell (w:=w.alloc (.cells (oc e0 M) tO)) (e0:=e0) (At.new _ _ _) (i*8+j) (by omega)
 obtain⟨m0,m1⟩:=A;generalize M (i*8+j)=n at *;generalize oc e0 M=cs at *;have J:=AW n;obtain⟨t1,t2⟩:=J;by_cases u:i=j/\n≠NB
 .obtain⟨rfl,s⟩:=u;have q:Hid (mo M i i=n.tdiv 2):=r.out.trans (bA ⟨rfl,s⟩);have hb:(n != 1000000)=true:=by rw[cI];exact s
  clear r s;go_enter func139,ntmps139;go_wp2_with fail;go_ret;exact⟨by rw[q.out];rfl,(bC _ _).alloc (bB _) _⟩
 .have q:Hid (mo M i j=n):=r.out.trans (a_ u);clear r;by_cases t:i=j
  .subst t;have hb:(n != 1000000)=false:=by
    have:n=1000000:=by
     rcases Classical.em (n=NB)with e|e
     .exact e
     .exact absurd ⟨rfl,e⟩ u
    rw[this];rfl
   clear u;go_enter func139,ntmps139;go_wp2_with fail;go_ret;exact⟨by rw[q.out];rfl,(bC _ _).alloc (bB _) _⟩
  .have hb:((i:Int)==(j:Int))=false:=by rw[b9];omega
   clear u t;go_enter func139,ntmps139;go_wp2_with fail;go_ret;exact⟨by rw[q.out];rfl,(bC _ _).alloc (bB _) _⟩
theorem AX{x:Array Oper}{o:Oper}{a:Act}{K:Act->World->Prop}{Q:Exit->Act->World->Prop}{E:Prop}(H:o.guard=none)(p:Operand)(G:o.op=Op.load tO p)(I:a.eval p=.pointer (some ⟨b,0,none⟩))(D:AL w b e0 M)
  (c:K (a.put o.dst (.agg (oc e0 M))) w):if Region.wanted o (yielded x a.tmps)=true then Oper.wp prog o a w K Q else E:=by
 have L:Region.wanted o (yielded x a.tmps)=true:=by simp[Region.wanted,H]
 rw[bA L];unfold Oper.wp;simp[execOp,G,I,IY D,Result.andThen];exact c
theorem V4(z:Cr w)(f:Nat)(B:f<32)(A:Sm M):
  Calls prog 110 #[.agg (oc e0 M),.int .i64 (f:Int)] w λe w'=>e=.returned (.int .i64 (bd M f))/\dc w w':=by
 have ab:(f:Int)<32:=by omega
 have aa:¬(32:Int)<=(f:Int):=by omega
 have ac:=z.size;have g0:(w.alloc (.cells (oc e0 M) tO)).drew.cell? ⟨0,f,none⟩=some (.int .i64 ((fs f:Nat):Int)):=(cJ _ _ _ (by show 0<_;omega)).trans (z.first f B);have g1:(w.alloc (.cells (oc e0 M) tO)).drew.cell? ⟨1,f,none⟩=some (.int .i64 ((ss f:Nat):Int)):=(cJ _ _ _ (by show 1<_;omega)).trans (z.second f B);have hi:=D5 f B;have F:=D7 f B;have l:Hid (AL (w.alloc (.cells (oc e0 M) tO)).drew w.heap.size e0 M):=At.new w _ _;have g:Hid (dc w (w.alloc (.cells (oc e0 M) tO)).drew):=((bC _ _).alloc (bB _) _).drew;have k:Hid (∀C,Calls prog 139 #[.agg (oc e0 M),.int .i64 ((fs f:Nat):Int),.int .i64 ((ss f:Nat):Int)] C λe w'=>e=.returned (.int .i64 (mo M (fs f) (ss f)))/\dc C w'):=λC=>PJ _ _ hi F (by have:=A (fs f*8+ss f) (by omega);omega);have q:Hid (bd M f=mo M (fs f) (ss f)):=rfl;generalize mo M (fs f) (ss f)=m at *;generalize fs f=i at *;generalize ss f=j at *;clear z A hi F;go_enter func110,ntmps110;go_wp2_with fail;refine wp_region_any (by kernel_rfl) ?_;change wpAny _ _ _ _ _ _ _ (World.drew _);refine bQ (i:=1) (v:=.int .i64 (f:Int)) rfl (by kernel_rfl) (by kernel_rfl) (by kernel_rfl) (λ_ _ _ h=>h) (b_ ⟨by rfl,by intro w;go_simp⟩) ?_;refine bQ (i:=2) (v:=.pointer (some ⟨0,f,none⟩)) rfl (by kernel_rfl) (by kernel_rfl) (by kernel_rfl) (λ_ _ _ h=>h) (b_ ⟨by rfl,by intro w;go_simp⟩) ?_;refine bQ (i:=4) (v:=.int .i64 (f:Int)) rfl (by kernel_rfl) (by kernel_rfl) (by kernel_rfl) (λ_ _ _ h=>h) (b_ ⟨by rfl,by intro w;go_simp⟩) ?_;refine bQ (i:=5) (v:=.pointer (some ⟨1,f,none⟩)) rfl (by kernel_rfl) (by kernel_rfl) (by kernel_rfl) (λ_ _ _ h=>h) (b_ ⟨by rfl,by intro w;go_simp⟩) ?_;refine bI (rs:=[0,3,6]) (by kernel_rfl) (by simp) ?_;refine bE rfl (λK c=>?_) (bE rfl (λK c=>?_) (bE rfl (λK c=>?_) bF))
 .refine AX rfl (.tmp 2) rfl rfl l.out ?_;refine c _ _ ?_;clear c K;refine bI (rs:=[3,6]) (by kernel_rfl) (by simp) ?_;refine bE rfl (λK c=>?_) (bE rfl (λK c=>?_) bF)
  .go_simp;refine c _ _ ?_;clear c K;refine bI (rs:=[6]) (by kernel_rfl) (by simp) ?_;refine bE rfl (λK c=>?_) bF;go_simp;refine c _ _ ?_;clear c K;refine bI (rs:=[7]) (by kernel_rfl) (by simp) ?_;refine bE rfl (λK c=>?_) bF;go_simp;go_wp2_with (go_at_call 139;refine(k.out _).mono ?_;rintro e y ⟨rfl,d⟩);refine bQ (i:=8) (v:=.int .i64 m) rfl (by kernel_rfl) (by kernel_rfl) (by kernel_rfl) (λ_ _ _ h=>h) (b_ ⟨by rfl,by intro w;go_simp⟩) ?_;refine cr (by kernel_rfl) ?_ _;go_wp2_with fail;go_ret;exact⟨by rw[q.out];rfl,g.out.trans (d.mono (by simp))⟩
  .go_simp;refine c _ _ ?_;clear c K;refine bI (rs:=[3]) (by kernel_rfl) (by simp) ?_;refine bE rfl (λK c=>?_) bF;go_simp;refine c _ _ ?_;clear c K;refine bI (rs:=[7]) (by kernel_rfl) (by simp) ?_;refine bE rfl (λK c=>?_) bF;go_simp;go_wp2_with (go_at_call 139;refine(k.out _).mono ?_;rintro e y ⟨rfl,d⟩);refine bQ (i:=8) (v:=.int .i64 m) rfl (by kernel_rfl) (by kernel_rfl) (by kernel_rfl) (λ_ _ _ h=>h) (b_ ⟨by rfl,by intro w;go_simp⟩) ?_;refine cr (by kernel_rfl) ?_ _;go_wp2_with fail;go_ret;exact⟨by rw[q.out];rfl,g.out.trans (d.mono (by simp))⟩
 .go_simp;refine c _ _ ?_;clear c K;refine bI (rs:=[0,6]) (by kernel_rfl) (by simp) ?_;refine bE rfl (λK c=>?_) (bE rfl (λK c=>?_) bF)
  .refine AX rfl (.tmp 2) rfl rfl l.out ?_;refine c _ _ ?_;clear c K;refine bI (rs:=[6]) (by kernel_rfl) (by simp) ?_;refine bE rfl (λK c=>?_) bF;go_simp;refine c _ _ ?_;clear c K;refine bI (rs:=[7]) (by kernel_rfl) (by simp) ?_;refine bE rfl (λK c=>?_) bF;go_simp;go_wp2_with (go_at_call 139;refine(k.out _).mono ?_;rintro e y ⟨rfl,d⟩);refine bQ (i:=8) (v:=.int .i64 m) rfl (by kernel_rfl) (by kernel_rfl) (by kernel_rfl) (λ_ _ _ h=>h) (b_ ⟨by rfl,by intro w;go_simp⟩) ?_;refine cr (by kernel_rfl) ?_ _;go_wp2_with fail;go_ret;exact⟨by rw[q.out];rfl,g.out.trans (d.mono (by simp))⟩
  .go_simp;refine c _ _ ?_;clear c K;refine bI (rs:=[0]) (by kernel_rfl) (by simp) ?_;refine bE rfl (λK c=>?_) bF;refine AX rfl (.tmp 2) rfl rfl l.out ?_;refine c _ _ ?_;clear c K;refine bI (rs:=[7]) (by kernel_rfl) (by simp) ?_;refine bE rfl (λK c=>?_) bF;go_simp;go_wp2_with (go_at_call 139;refine(k.out _).mono ?_;rintro e y ⟨rfl,d⟩);refine bQ (i:=8) (v:=.int .i64 m) rfl (by kernel_rfl) (by kernel_rfl) (by kernel_rfl) (λ_ _ _ h=>h) (b_ ⟨by rfl,by intro w;go_simp⟩) ?_;refine cr (by kernel_rfl) ?_ _;go_wp2_with fail;go_ret;exact⟨by rw[q.out];rfl,g.out.trans (d.mono (by simp))⟩
 .go_simp;refine c _ _ ?_;clear c K;refine bI (rs:=[0,3]) (by kernel_rfl) (by simp) ?_;refine bE rfl (λK c=>?_) (bE rfl (λK c=>?_) bF)
  .refine AX rfl (.tmp 2) rfl rfl l.out ?_;refine c _ _ ?_;clear c K;refine bI (rs:=[3]) (by kernel_rfl) (by simp) ?_;refine bE rfl (λK c=>?_) bF;go_simp;refine c _ _ ?_;clear c K;refine bI (rs:=[7]) (by kernel_rfl) (by simp) ?_;refine bE rfl (λK c=>?_) bF;go_simp;go_wp2_with (go_at_call 139;refine(k.out _).mono ?_;rintro e y ⟨rfl,d⟩);refine bQ (i:=8) (v:=.int .i64 m) rfl (by kernel_rfl) (by kernel_rfl) (by kernel_rfl) (λ_ _ _ h=>h) (b_ ⟨by rfl,by intro w;go_simp⟩) ?_;refine cr (by kernel_rfl) ?_ _;go_wp2_with fail;go_ret;exact⟨by rw[q.out];rfl,g.out.trans (d.mono (by simp))⟩
  .go_simp;refine c _ _ ?_;clear c K;refine bI (rs:=[0]) (by kernel_rfl) (by simp) ?_;refine bE rfl (λK c=>?_) bF;refine AX rfl (.tmp 2) rfl rfl l.out ?_;refine c _ _ ?_;clear c K;refine bI (rs:=[7]) (by kernel_rfl) (by simp) ?_;refine bE rfl (λK c=>?_) bF;go_simp;go_wp2_with (go_at_call 139;refine(k.out _).mono ?_;rintro e y ⟨rfl,d⟩);refine bQ (i:=8) (v:=.int .i64 m) rfl (by kernel_rfl) (by kernel_rfl) (by kernel_rfl) (λ_ _ _ h=>h) (b_ ⟨by rfl,by intro w;go_simp⟩) ?_;refine cr (by kernel_rfl) ?_ _;go_wp2_with fail;go_ret;exact⟨by rw[q.out];rfl,g.out.trans (d.mono (by simp))⟩
theorem Tryz.infoNo:(Tryz.prog.info? Gc).map (λi=>(i.zero,i.size,i.bytes))=some (some (.int .i64 0),1,8):=by kernel_rfl
def Bl(M:Nat->Int):List Int:=(List.range 32).map (bd M)
def BF(w:World)(e:Bool)(M:Nat->Int):Ending->World->Prop:=λx w'=>dc w w'/\
 ((e=true/\x=.returned (.slice none 0 0))\/(e=false/\∃g,x=.returned (.slice (some ⟨g,0,none⟩) 32 32)/\w.heap.size<=g/\At w' g (ic (Bl M)) Gc))
theorem MZ(A:Cr w)(H:Sm M):Calls prog 74 #[.agg (oc e0 M)] w (BF w e0 M):=by
 have ab:(w.alloc (.cells (oc e0 M) tO)).cell? ⟨w.heap.size,0,none⟩=some (.bool e0):=by
  rw[At.cell (At.new w (oc e0 M) tO)];exact Ib _ _
 have I:=A.size;have R:Hid (Cr w):=A;have S:Hid (Sm M):=H;have p:Hid (∀o,dc w (w.alloc o)):=λo=>(bC _ _).alloc (bB _) _;have C:Hid (AL (w.alloc (.cells (oc e0 M) tO)) w.heap.size e0 M):=At.new _ _ _;cases e0 with
 |true=>
  clear A H;go_enter func74,ntmps74;go_wp2_with fail;go_ret;exact⟨p.out _,.inl ⟨rfl,rfl⟩⟩
 |false=>
  obtain⟨W,K,af,O,ag⟩:=c_ Tryz.infoNo;have ac:∀w,(Instr.makeSlice 32 (.int .i64 0) (.int .i64 32)).run prog w=.ok (.slice (some ⟨w.heap.size,0,none⟩) 0 32) (w.alloc (.cells (ic (List.replicate 32 0)) Gc)):=λ_=>by kernel_rfl
  have d:=World.ownsRow_made (base:=w.heap.size+1) (e:=Gc) (size:=1) (w.alloc (.cells (oc false M) tO)) (ic (List.replicate 32 0)) 32 (by simp) (by decide) rfl;rw[show(w.alloc (.cells (oc false M) tO)).heap.size=w.heap.size+1 by simp]at d;have G:Hid (World.ownsRow _ _ _ _ _ _ _):=d;have F:Hid (∀(wr:World)(f:Nat),f<32->dc w wr->Calls prog 110 #[.agg (oc false M),.int .i64 (f:Int)] wr λe w'=>e=.returned (.int .i64 (bd M f))/\dc wr w'):=λwr f U hb=>V4 (R.out.keep hb I) f U S.out;have D:Hid (AL ((w.alloc (.cells (oc false M) tO)).alloc (.cells (ic (List.replicate 32 0)) Gc)) w.heap.size false M):=At.allocH C.out _;have E:Hid (dc w ((w.alloc (.cells (oc false M) tO)).alloc (.cells (ic (List.replicate 32 0)) Gc))):=(p.out _).alloc (by simp) _;clear A H d;generalize ic (List.replicate 32 0)=zs at *;go_enter func74,ntmps74;go_wp2_with fail;go_loopw [3,4] (λX i wr=>∃(q:Nat),q<=32/\i=.int .i64 q/\X=.slice (some ⟨w.heap.size+1,0,none⟩) q 32/\Hid (wr.ownsRow (w.heap.size+1) Gc 1 (.slice (some ⟨w.heap.size+1,0,none⟩) q 32) q ((List.range q).map λi=>.int .i64 (bd M i))/\AL wr w.heap.size false M/\dc w wr/\w.heap.size+2<=wr.heap.size)) (λ_ i _=>32-(intOf i).toNat);case atStart=>exact⟨0,by omega,rfl,rfl,G.out,D.out,E.out,by simp⟩
  case round=>
   obtain⟨q,hq,rfl,rfl,m⟩:=hrel;by_cases L:q<32
   .have ae:(q:Int)<32:=by omega
    have s:=F.out wr q L m.out.2.2.1;go_wp2_with (refine AH (e0:=false) (M:=M) rfl (.tmp 1) rfl rfl m.out.2.1 ?_);refine s.mono ?_;rintro e z ⟨rfl,h⟩;have n:Hid (z.ownsRow (w.heap.size+1) Gc 1 (.slice (some ⟨w.heap.size+1,0,none⟩) q 32) q ((List.range q).map λi=>.int .i64 (bd M i))/\AL z w.heap.size false M/\dc w z/\w.heap.size+2<=z.heap.size):=by
     have y:=m.out.2.2.2;refine⟨?_,At.keep m.out.2.1 h (by omega),m.out.2.2.1.trans (h.mono (by omega)),cN y h.size⟩;obtain⟨h1,h2⟩:=m.out.1;refine⟨h1,?_⟩;rcases h2 with h2|⟨g,cap,c,V,P,J,r⟩
     .exact .inl h2
     .cases V
      exact .inr ⟨_,_,c,rfl,P,by rw[h.block _ (by omega)];exact J,r⟩
    clear h s;obtain⟨x,hx⟩:∃x,x=bd M q:=⟨_,rfl⟩
    rw[<-hx];have T:Hid (x=bd M q):=hx;clear hx;go_wp2_with (at_builtin;refine cj _ rfl (.tmp 12) (.tmp 16) 32 rfl (w.heap.size+1) Gc W 1 underlying32 K O (w.heap.size+1) q 32 _ rfl (n.out.1.alloc _) ⟨z.heap.size,0,none⟩ 1 1 [.int .i64 x] rfl rfl (by intro t u B;match t,B with|0,B=>simp at B;subst B;exact bL _ _ _ _ rfl) (by intro u Q;simp at Q;subst Q;rfl) (by omega) ?_;intro w5 j a);go_roundw;case rel=>
     refine⟨q+1,by omega,by go_num,rfl,?_,?_,?_,?_⟩
     .rw[T.out]at j;rw[List.range_succ,List.map_append];exact j
     .have:=a.block w.heap.size (by have:=n.out.2.2.2;simp;omega) (by intro e;have:=bV e;omega);exact At.same (At.allocH n.out.2.1 _) this
     .exact((n.out.2.2.1.alloc n.out.2.2.1.size _).grown a (by have:=n.out.2.2.2;simp;omega) (λk hk=>by cases hk;omega))
     .have h1:=a.size;have h2:=n.out.2.2.2;simp at h1;omega
    case measure=>simp[intOf];omega
   .have v:q=32:=by omega
    subst v;go_wp2_with fail;go_ret;refine⟨m.out.2.2.1,.inr ⟨rfl,w.heap.size+1,rfl,by omega,?_⟩⟩;obtain⟨⟨_,h2⟩,_⟩:=m.out;rcases h2 with⟨e,_⟩|⟨g,cap,cur,e,P,J,ad,aa,y,N⟩
    .cases e
    .cases e
     have:cur=ic (Bl M):=by
      apply Array.toList_inj.1;rw[<-cG (l:=cur.toList) (i:=32*1) (by simp;omega),N];simp[ic,Bl]
     rw[<-this];exact J
end Go.Proofs.YtffajooegiempaaGreatDoor
