import Derived.Test.YtffajooegiempaaGreatDoorJ2
import Derived.Deep.RegionWith
import Derived.Laws.Rows
import Derived.Laws.Tables
set_option maxRecDepth 100000
set_option maxHeartbeats 6400000
namespace Go.Proofs.YtffajooegiempaaGreatDoor
theorem ER(x:Int):(0<=x->x.tdiv 2=x/2)/\(x<0->x.tdiv 2= -((-x)/2)):=by
 constructor
 ·intro h;exact Int.tdiv_eq_ediv_of_nonneg h
 ·intro h;have:x.tdiv 2= -((-x).tdiv 2):=by rw[Int.neg_tdiv,Int.neg_neg]
  rw[this,Int.tdiv_eq_ediv_of_nonneg (by omega)]
theorem AW(x:Int):x.tdiv 2*2<=x+1/\x-1<=x.tdiv 2*2:=by
 have h:=ER x;rcases Int.lt_or_le x 0 with e|e
 ·rw[h.2 e];omega
 ·rw[h.1 e];omega
theorem KX(M:Nat->Int):∀n a,Ef M n a=if a%9=0/\a/9<n/\M a≠NB then M a/2*2 else M a:=by
 intro n;induction n with
 |zero=>intro a;rw[Ef,if_neg (by omega)]
 |succ n ih=>
  intro a;rw[Ef];unfold Zl;have hn:Ef M n (n*8+n)=M (n*8+n):=by rw[ih,if_neg (by omega)]
  rw[hn];by_cases e:a=n*8+n
  ·subst e;split
   ·rename_i h;rw[hn,if_neg (λq=>q.2.2 h)]
   ·rename_i h;rw[CV,if_pos ⟨by omega,by omega,h⟩]
  ·have hne:¬(a%9=0/\a/9=n):=by omega
   have:(if M (n*8+n)=NB then Ef M n else Bw (Ef M n) (n*8+n) (M (n*8+n)/2*2)) a=Ef M n a:=by
    split
    ·rfl
    ·exact BO _ _ e
   rw[this,ih];by_cases q:a%9=0/\a/9<n/\M a≠NB
   ·rw[if_pos q,if_pos ⟨q.1,by omega,q.2.2⟩]
   ·rw[if_neg q,if_neg (λp=>q ⟨p.1,by omega,p.2.2⟩)]
theorem Mk{L:Int}{M:Nat->Int}(h:Lo L M)(n:Nat):Lo (L+1) (Ef M n):=by
 intro a ha;have:=h a ha;rw[KX];split<;>omega
theorem XL{L:Int}{M:Nat->Int}(hL:0<=L)(h:Lo L M){k:Nat}(hk:k<64):Lo L (SZ M k):=by
 intro a ha;have h1:=h (k/8*8+k/8) (by omega);have h2:=h (k%8*8+k%8) (by omega);have h3:=h a ha;have:=N5 h1 h2 (by omega);unfold SZ;split
 ·unfold Bw;split
  ·have:=AW (pl (M (k/8*8+k/8)) (M (k%8*8+k%8)));omega
  ·exact h3
 ·exact h3
theorem Oi{L:Int}{M:Nat->Int}(hL:0<=L)(h:Lo L M):∀k,k<=64->Lo L (Ea M k):=by
 intro k;induction k with
 |zero=>intro _;exact h
 |succ k ih=>intro hk;rw[Ea];exact XL hL (ih (by omega)) (by omega)
def sd(v:Nat->Int)(i:Nat):Int:=if i%2=0 then v (i/2)else -v (i/2)
theorem FR(v:Nat->Int)(i:Nat):sd v (opp i)= -sd v i:=by
 unfold sd opp;by_cases h:i%2=0
 ·rw[if_pos h,if_pos h,if_neg (by omega),show(i+1)/2=i/2 by omega]
 ·rw[if_neg h,if_neg h,if_pos (by omega),show(i-1)/2=i/2 by omega,Int.neg_neg]
def Ej(v:Nat->Int)(M:Nat->Int):Prop:=∀i j,i<8->j<8->M (i*8+j)=NB\/sd v i+sd v j<=M (i*8+j)
theorem GU{a b:Int}(h:pl a b≠NB):a≠NB/\b≠NB/\pl a b=a+b:=by
 unfold pl at h|-;by_cases q:a=NB\/b=NB
 ·rw[if_pos q]at h;exact absurd rfl h
 ·rw[if_neg q];exact⟨λe=>q (.inl e),λe=>q (.inr e),rfl⟩
theorem Ej.ch1{v M:Nat->Int}(h:Ej v M){s k:Nat}(hs:s<8)(_hk:k<64):Ej v (Sv s M k):=by
 intro i j hi hj;unfold Sv;split
 ·unfold Bw;split
  ·rename_i e;have e1:k/8=i:=by omega
   have e2:k%8=j:=by omega
   rw[e1,e2];by_cases q:pl (M (i*8+opp s)) (M (s*8+j))=NB
   ·exact .inl q
   ·obtain⟨q1,q2,q3⟩:=GU q
    right
    rw[q3];have a1:=(h i (opp s) hi (Ah hs)).resolve_left q1;have a2:=(h s j hs hj).resolve_left q2;rw[FR]at a1;omega
  ·exact h i j hi hj
 ·exact h i j hi hj
theorem Ej.chF{v M:Nat->Int}(h:Ej v M){s:Nat}(hs:s<8):∀k,k<=64->Ej v (E6 s M k):=by
 intro k;induction k with
 |zero=>intro _;exact h
 |succ k ih=>intro hk;rw[E6];exact(ih (by omega)).ch1 hs (by omega)
theorem Ej.fw{v M:Nat->Int}(h:Ej v M):∀s,s<=8->Ej v (fw M s):=by
 intro s;induction s with
 |zero=>intro _;exact h
 |succ s ih=>intro hs;rw[Go.Proofs.YtffajooegiempaaGreatDoor.fw];exact(ih (by omega)).chF (by omega) 64 (Nat.le_refl _)
theorem Ej.rdF{v M:Nat->Int}(h:Ej v M)(n:Nat):Ej v (Ef M n):=by
 intro i j hi hj;rw[KX];split
 ·rename_i q;have e:i=j:=by omega
  subst e;have:=(h i i hi hi).resolve_left q.2.2
  right
  omega
 ·exact h i j hi hj
theorem Ej.ah1{v M:Nat->Int}(h:Ej v M){k:Nat}(_hk:k<64):Ej v (SZ M k):=by
 intro i j hi hj;unfold SZ;split
 ·rename_i q;unfold Bw;split
  ·rename_i e;have e1:k/8=i:=by omega
   have e2:k%8=j:=by omega
   rw[e1,e2]at q|-;obtain⟨q1,q2,q3⟩:=GU q.1;have a1:=(h i i hi hi).resolve_left q1;have a2:=(h j j hj hj).resolve_left q2;have:=ER (pl (M (i*8+i)) (M (j*8+j)))
   right
   rcases Int.lt_or_le (pl (M (i*8+i)) (M (j*8+j))) 0 with e|e
   ·rw[this.2 e];omega
   ·rw[this.1 e];omega
  ·exact h i j hi hj
 ·exact h i j hi hj
theorem Ej.ahF{v M:Nat->Int}(h:Ej v M):∀k,k<=64->Ej v (Ea M k):=by
 intro k;induction k with
 |zero=>intro _;exact h
 |succ k ih=>intro hk;rw[Ea];exact(ih (by omega)).ah1 (by omega)
theorem Ej.sharp{v M:Nat->Int}(h:Ej v M):Ej v (Aj M):=((h.fw 8 (Nat.le_refl _)).rdF 8).ahF 64 (Nat.le_refl _)
theorem Gi{M:Nat->Int}:∀{n:Nat},By M n=true->∃i,i<n/\M (i*8+opp i)<0:=by
 intro n;induction n with
 |zero=>intro h;cases h
 |succ n ih=>
  intro h;rw[By,Bool.or_eq_true]at h;rcases h with h|h
  ·obtain⟨i,hi,h⟩:=ih h;exact⟨i,by omega,h⟩
  ·exact⟨n,by omega,of_decide_eq_true h⟩
theorem Ej.some{v M:Nat->Int}(h:Ej v M):By M 8=false:=by
 cases e:By M 8 with
 |false=>rfl
 |true=>
  obtain⟨i,hi,h1⟩:=Gi e;rcases h i (opp i) hi (Ah hi)with q|q
  ·rw[q]at h1;exact absurd h1 (by decide)
  ·rw[FR]at q;omega
theorem Kc{M:Nat->Int}(h:Lo 8000 M):Lo (8000*6^8+1) (Aj M):=Oi (by decide) (Mk (QW (by decide) h 8 (Nat.le_refl _)) 8) 64 (Nat.le_refl _)
end Go.Proofs.YtffajooegiempaaGreatDoor
namespace Go.Proofs.YtffajooegiempaaGreatDoor
open Go.RowKit
abbrev tO:TypeId:=90
def oc(e:Bool)(M:Nat->Int):Array Value:=(Value.bool e::(List.range 64).map λk=>Value.int .i64 (M k)).toArray
theorem Am(e:Bool)(M:Nat->Int):(oc e M).size=65:=by simp[oc]
theorem Qs(e:Bool)(M:Nat->Int)(k:Nat)(h:k<64):(oc e M)[1+k]?=some (.int .i64 (M k)):=by
 rw[Nat.add_comm];simp[oc,h]
theorem Ib(e:Bool)(M:Nat->Int):(oc e M)[0]?=some (.bool e):=by simp[oc]
theorem Xy(e:Bool)(M:Nat->Int)(k:Nat)(h:k<64)(x:Int):(oc e M).setIfInBounds (1+k) (.int .i64 x)=oc e (Bw M k x):=by
 apply Array.ext
 ·simp[oc]
 ·intro i h1 h2;simp only[Am]at h2;rw[Array.getElem_setIfInBounds (by rw[Am];exact h2)];by_cases e1:1+k=i
  ·subst e1;rw[if_pos rfl];have:=Qs e (Bw M k x) k h;rw[Array.getElem?_eq_getElem (by rw[Am];exact h2),CV]at this;exact(Option.some.inj this).symm
  ·rw[if_neg e1];cases i with
   |zero=>
    have a:=Ib e M;have b:=Ib e (Bw M k x);rw[Array.getElem?_eq_getElem (by rw[Am];exact h2)]at a b;rw[Option.some.inj a,Option.some.inj b]
   |succ i=>
    have a:=Qs e M i (by omega);have b:=Qs e (Bw M k x) i (by omega);rw[show 1+i=i+1 by omega]at a b;rw[Array.getElem?_eq_getElem (by rw[Am];exact h2)]at a b;rw[Option.some.inj a,Option.some.inj b,BO _ _ (by omega)]
theorem V6(e e':Bool)(M:Nat->Int):(oc e M).setIfInBounds 0 (.bool e')=oc e' M:=by simp[oc]
def Sm(M:Nat->Int):Prop:=∀k,k<64-> -100000000000000000<=M k/\M k<=1000000
theorem ED(i:Nat)(hi:i<8)(w:World):Calls Tryz.prog 153 #[.int .i64 (i:Int)] w λe w'=>e=.returned (.int .i64 ((opp i:Nat):Int))/\w'=w:=by
 rcases(show i=0\/i=1\/i=2\/i=3\/i=4\/i=5\/i=6\/i=7 by omega)with rfl|rfl|rfl|rfl|rfl|rfl|rfl|rfl;all_goals
  go_enter Tryz.func153,Tryz.ntmps153;go_wp2_with fail;go_ret;exact⟨rfl,rfl⟩
theorem GS(a b:Int)(ha: -100000000000000000<=a/\a<=1000000)(hb: -100000000000000000<=b/\b<=1000000)(w:World):Calls Tryz.prog 152 #[.int .i64 a,.int .i64 b] w λe w'=>e=.returned (.int .i64 (pl a b))/\w'=w:=by
 by_cases h1:a=1000000
 ·subst h1;have HE:Hid (pl 1000000 b=1000000):=if_pos (.inl rfl);go_enter Tryz.func152,Tryz.ntmps152;go_wp2_with fail;go_ret;exact⟨by rw[HE.out];rfl,rfl⟩
 have q1:(a==1000000)=false:=by simpa using h1
 by_cases h2:b=1000000
 ·subst h2;have HE:Hid (pl a 1000000=1000000):=if_pos (.inr rfl);go_enter Tryz.func152,Tryz.ntmps152;go_wp2_with fail;go_ret;exact⟨by rw[HE.out];rfl,rfl⟩
 have q2:(b==1000000)=false:=by simpa using h2
 have HE:Hid (pl a b=a+b):=if_neg (λe=>e.elim h1 h2);obtain⟨a0,a1⟩:=ha;obtain⟨b0,b1⟩:=hb;clear h1 h2;go_enter Tryz.func152,Tryz.ntmps152;go_wp2_with fail;go_ret;exact⟨by rw[HE.out];rfl,rfl⟩
theorem O7(n:Int):(n<n.tdiv 2*2->n/2=n.tdiv 2-1)/\(¬n<n.tdiv 2*2->n/2=n.tdiv 2):=by
 have:=ER n;rcases Int.lt_or_le n 0 with e|e
 ·rw[this.2 e];omega
 ·rw[this.1 e];omega
theorem N1(n:Int)(hn: -100000000000000000<=n/\n<=1000000)(w:World):Calls Tryz.prog 154 #[.int .i64 n] w λe w'=>e=.returned (.int .i64 (n/2))/\w'=w:=by
 have hb:=AW n;have hf:=O7 n;obtain⟨n0,n1⟩:=hn;obtain⟨b0,b1⟩:=hb;by_cases h:n<n.tdiv 2*2
 ·have HE:Hid (n/2=n.tdiv 2-1):=hf.1 h;clear hf;go_enter Tryz.func154,Tryz.ntmps154;go_wp2_with fail;go_ret;exact⟨by rw[HE.out];rfl,rfl⟩
 ·have HE:Hid (n/2=n.tdiv 2):=hf.2 h;clear hf;go_enter Tryz.func154,Tryz.ntmps154;go_wp2_with fail;go_ret;exact⟨by rw[HE.out];rfl,rfl⟩
variable {w:World}{b:Nat}{e0:Bool}{M:Nat->Int}
def AL(w:World)(b:Nat)(e:Bool)(M:Nat->Int):Prop:=At w b (oc e M) tO
theorem AL.cell(h:AL w b e0 M)(k:Nat)(hk:k<64):w.cell? ⟨b,1+k,none⟩=some (.int .i64 (M k)):=by rw[At.cell h];exact Qs _ _ _ hk
theorem AL.put(h:AL w b e0 M)(k:Nat)(hk:k<64)(x:Int):AL (w.setCell ⟨b,1+k,none⟩ (.int .i64 x)) b e0 (Bw M k x):=by
 have:=At.put h (1+k) (.int .i64 x);rw[Xy _ _ _ hk]at this;exact this
theorem V5(h:AL w b e0 M)(s:Nat)(hs:s<8)(hS:∀k,k<=64->Sm (E6 s M k)):
  Calls Tryz.prog 135 #[.pointer (some ⟨b,0,none⟩),.int .i64 (s:Int)] w λe w'=>e=.returned (.tuple #[])/\AL w' b e0 (E6 s M 64)/\BC b w w':=by
 have HA:Hid (AL w b e0 M):=h;have HS:Hid (∀k,k<=64->Sm (E6 s M k)):=hS;have hsi:(s:Int)<8:=by omega
 have hs0:¬(s:Int)<0:=by omega
 have hs8:¬(8:Int)<=(s:Int):=by omega
 have hosl:=Ah hs;clear h hS;go_enter Tryz.func135,Tryz.ntmps135;go_wp2_with fail;go_loopw [4] (λi wr=>∃(p:Nat),p<=8/\i=.int .i64 p/\Hid (AL wr b e0 (E6 s M (p*8))/\BC b w wr)) (λi _=>8-(intOf i).toNat);case atStart=>exact⟨0,by omega,rfl,HA.out,BC.refl _ _⟩
 case round=>
  obtain⟨p,hp,rfl,HR⟩:=hrel;by_cases hlt:p<8
  ·have hpi:(p:Int)<8:=by omega
   obtain⟨w4,rfl⟩:∃w4,w4=wr:=⟨_,rfl⟩
   go_wp2_with fail;go_loopw [5] (λj wr=>∃(q:Nat),q<=8/\j=.int .i64 q/\Hid (AL wr b e0 (E6 s M (p*8+q))/\BC b w wr)) (λj _=>8-(intOf j).toNat);case atStart=>exact⟨0,by omega,rfl,HR.out⟩
   case round=>
    obtain⟨q,hq,rfl,HQ⟩:=hrel;by_cases hlt2:q<8
    ·have hqi:(q:Int)<8:=by omega
     have hk:p*8+q<64:=by omega
     have hsm:=HS.out (p*8+q) (by omega);have HE0:Hid (E6 s M (p*8+(q+1))=if pl (E6 s M (p*8+q) (p*8+opp s)) (E6 s M (p*8+q) (s*8+q))<E6 s M (p*8+q) (p*8+q)then Bw (E6 s M (p*8+q)) (p*8+q) (pl (E6 s M (p*8+q) (p*8+opp s)) (E6 s M (p*8+q) (s*8+q)))else E6 s M (p*8+q)):=by show E6 s M (p*8+q+1)=_;rw[E6];unfold Sv;rw[show(p*8+q)/8=p by omega,show(p*8+q)%8=q by omega]
     generalize E6 s M (p*8+q)=N at *;have hm1:=hsm (p*8+opp s) (by omega);have hm2:=hsm (s*8+q) (by omega);have HOp:Hid (∀n,Calls Tryz.prog 153 #[.int .i64 (s:Int)] (wr.drewN n) λe w'=>e=.returned (.int .i64 ((opp s:Nat):Int))/\w'=wr.drewN n):=λn=>ED s hs _;have hoi:((opp s:Nat):Int)<8:=by omega
     generalize opp s=os at *;have c1:wr.cell? ⟨b,1+p*8+os,none⟩=some (.int .i64 (N (p*8+os))):=by rw[Nat.add_assoc];exact HQ.out.1.cell (p*8+os) (by omega)
     have c2:wr.cell? ⟨b,1+s*8+q,none⟩=some (.int .i64 (N (s*8+q))):=by rw[Nat.add_assoc];exact HQ.out.1.cell (s*8+q) (by omega)
     have c3:wr.cell? ⟨b,1+p*8+q,none⟩=some (.int .i64 (N (p*8+q))):=by rw[Nat.add_assoc];exact HQ.out.1.cell (p*8+q) (by omega)
     have cf:wr.frozen? ⟨b,1+p*8+q,none⟩=false:=At.free HQ.out.1 _;have hbl:b<wr.heap.size:=At.lt HQ.out.1;have HPl:Hid (∀n,Calls Tryz.prog 152 #[.int .i64 (N (p*8+os)),.int .i64 (N (s*8+q))] (wr.drewN n) λe w'=>e=.returned (.int .i64 (pl (N (p*8+os)) (N (s*8+q))))/\w'=wr.drewN n):=λn=>GS _ _ hm1 hm2 _;clear hsm hm1 hm2;generalize pl (N (p*8+os)) (N (s*8+q))=n at *;by_cases hn:n<N (p*8+q)
     ·have HE:Hid (_=_):=HE0.out.trans (if_pos hn);clear HE0;go_wp2_with fail
      go_quiet (first
       |(go_at_call 153;refine Calls.quiet_of_same (HOp.out _))
       |(go_at_call 152;refine Calls.quiet_of_same (HPl.out _)))
      go_wp2_with fail;go_roundw;case rel=>
       refine⟨q+1,by omega,by go_num,?_,(HQ.out.2.drewN _).setCell _ _⟩;rw[HE.out,Nat.add_assoc];exact AL.put (w:=wr.drewN nq) (At.drewN HQ.out.1 nq) (p*8+q) hk n
      case measure=>simp[intOf];omega
     ·have HE:Hid (_=_):=HE0.out.trans (if_neg hn);clear HE0;go_wp2_with fail
      go_quiet (first
       |(go_at_call 153;refine Calls.quiet_of_same (HOp.out _))
       |(go_at_call 152;refine Calls.quiet_of_same (HPl.out _)))
      go_wp2_with fail;go_roundw;case rel=>
       refine⟨q+1,by omega,by go_num,?_,HQ.out.2.drewN _⟩;rw[HE.out];exact At.drewN HQ.out.1 nq
      case measure=>simp[intOf];omega
    ·have hq8:q=8:=by omega
     subst hq8;go_wp2_with fail;go_roundw;case rel=>exact⟨p+1,by omega,by go_num,by rw[show(p+1)*8=p*8+8 by omega];exact HQ.out.1,HQ.out.2⟩
     case measure=>simp[intOf];omega
  ·have hp8:p=8:=by omega
   subst hp8;go_wp2_with fail
   go_end0
   exact⟨rfl,HR.out⟩
theorem N3(h:AL w b e0 M)(hS:∀k,k<=8->Sm (Ef M k)):
  Calls Tryz.prog 136 #[.pointer (some ⟨b,0,none⟩)] w λe w'=>e=.returned (.tuple #[])/\AL w' b e0 (Ef M 8)/\BC b w w':=by
 have HA:Hid (AL w b e0 M):=h;have HS:Hid (∀k,k<=8->Sm (Ef M k)):=hS;clear h hS;go_enter Tryz.func136,Tryz.ntmps136;go_wp2_with fail;go_loopw [2] (λi wr=>∃(p:Nat),p<=8/\i=.int .i64 p/\Hid (AL wr b e0 (Ef M p)/\BC b w wr)) (λi _=>8-(intOf i).toNat);case atStart=>exact⟨0,by omega,rfl,HA.out,BC.refl _ _⟩
 case round=>
  obtain⟨p,hp,rfl,HR⟩:=hrel;by_cases hlt:p<8
  ·have hpi:(p:Int)<8:=by omega
   have hsm:=HS.out p (by omega);have HE0:Hid (Ef M (p+1)=if Ef M p (p*8+p)=NB then Ef M p else Bw (Ef M p) (p*8+p) (Ef M p (p*8+p)/2*2)):=by show Ef M (p+1)=_;rw[Ef];rfl
   generalize Ef M p=N at *;have hm1:=hsm (p*8+p) (by omega);have c1:wr.cell? ⟨b,1+p*8+p,none⟩=some (.int .i64 (N (p*8+p))):=by rw[Nat.add_assoc];exact HR.out.1.cell (p*8+p) (by omega)
   have cf:wr.frozen? ⟨b,1+p*8+p,none⟩=false:=At.free HR.out.1 _;have hbl:b<wr.heap.size:=At.lt HR.out.1;have HH:Hid (∀w1,Calls Tryz.prog 154 #[.int .i64 (N (p*8+p))] w1 λe w'=>e=.returned (.int .i64 (N (p*8+p)/2))/\w'=w1):=λw1=>N1 _ hm1 w1;have hk:p*8+p<64:=by omega
   clear hsm;generalize N (p*8+p)=n at *;by_cases hn:n=NB
   ·have HE:Hid (_=_):=HE0.out.trans (if_pos hn);have hb:(n != 1000000)=false:=by rw[hn];rfl
    clear HE0 hn;go_wp2_with fail;go_roundw;case rel=>exact⟨p+1,by omega,by go_num,by rw[HE.out];exact HR.out.1,HR.out.2⟩
    case measure=>simp[intOf];omega
   ·have HE:Hid (_=_):=HE0.out.trans (if_neg hn);have hb:(n != 1000000)=true:=by rw[bne_iff_ne];exact hn
    have hw:IntKind.i64.wrap (n/2*2)=n/2*2:=by rw[IntKind.wrap_i64];omega
    clear HE0 hn;go_wp2_with fail;go_region_with (go_at_call 154;refine(HH.out _).mono ?_;rintro e w1 ⟨rfl,rfl⟩);all_goals
     go_wp2_with fail;go_roundw;case rel=>
      refine⟨p+1,by omega,by go_num,?_,(HR.out.2.setCell _ _).drewN 1⟩;rw[HE.out,Nat.add_assoc];exact At.drewN (AL.put HR.out.1 (p*8+p) hk _) 1
     case measure=>simp[intOf];omega
  ·have hp8:p=8:=by omega
   subst hp8;go_wp2_with fail
   go_end0
   exact⟨rfl,HR.out⟩
theorem Nz(h:AL w b e0 M)(hS:∀k,k<=64->Sm (Ea M k)):
  Calls Tryz.prog 137 #[.pointer (some ⟨b,0,none⟩)] w λe w'=>e=.returned (.tuple #[])/\AL w' b e0 (Ea M 64)/\BC b w w':=by
 have HA:Hid (AL w b e0 M):=h;have HS:Hid (∀k,k<=64->Sm (Ea M k)):=hS;clear h hS;go_enter Tryz.func137,Tryz.ntmps137;go_wp2_with fail;go_loopw [2] (λi wr=>∃(p:Nat),p<=8/\i=.int .i64 p/\Hid (AL wr b e0 (Ea M (p*8))/\BC b w wr)) (λi _=>8-(intOf i).toNat);case atStart=>exact⟨0,by omega,rfl,HA.out,BC.refl _ _⟩
 case round=>
  obtain⟨p,hp,rfl,HR⟩:=hrel;by_cases hlt:p<8
  ·have hpi:(p:Int)<8:=by omega
   obtain⟨w4,rfl⟩:∃w4,w4=wr:=⟨_,rfl⟩
   go_wp2_with fail;go_loopw [3] (λj wr=>∃(q:Nat),q<=8/\j=.int .i64 q/\Hid (AL wr b e0 (Ea M (p*8+q))/\BC b w wr)) (λj _=>8-(intOf j).toNat);case atStart=>exact⟨0,by omega,rfl,HR.out⟩
   case round=>
    obtain⟨q,hq,rfl,HQ⟩:=hrel;by_cases hlt2:q<8
    ·have hqi:(q:Int)<8:=by omega
     have hk:p*8+q<64:=by omega
     have hsm:=HS.out (p*8+q) (by omega);have HE0:Hid (Ea M (p*8+(q+1))=if pl (Ea M (p*8+q) (p*8+p)) (Ea M (p*8+q) (q*8+q))≠NB/\(pl (Ea M (p*8+q) (p*8+p)) (Ea M (p*8+q) (q*8+q))).tdiv 2<Ea M (p*8+q) (p*8+q)then Bw (Ea M (p*8+q)) (p*8+q) ((pl (Ea M (p*8+q) (p*8+p)) (Ea M (p*8+q) (q*8+q))).tdiv 2)else Ea M (p*8+q)):=by show Ea M (p*8+q+1)=_;rw[Ea];unfold SZ;rw[show(p*8+q)/8=p by omega,show(p*8+q)%8=q by omega]
     generalize Ea M (p*8+q)=N at *;have hm1:=hsm (p*8+p) (by omega);have hm2:=hsm (q*8+q) (by omega);have c1:wr.cell? ⟨b,1+p*8+p,none⟩=some (.int .i64 (N (p*8+p))):=by rw[Nat.add_assoc];exact HQ.out.1.cell (p*8+p) (by omega)
     have c2:wr.cell? ⟨b,1+q*8+q,none⟩=some (.int .i64 (N (q*8+q))):=by rw[Nat.add_assoc];exact HQ.out.1.cell (q*8+q) (by omega)
     have c3:wr.cell? ⟨b,1+p*8+q,none⟩=some (.int .i64 (N (p*8+q))):=by rw[Nat.add_assoc];exact HQ.out.1.cell (p*8+q) (by omega)
     have cf:wr.frozen? ⟨b,1+p*8+q,none⟩=false:=At.free HQ.out.1 _;have hbl:b<wr.heap.size:=At.lt HQ.out.1;have HPl:Hid (∀n,Calls Tryz.prog 152 #[.int .i64 (N (p*8+p)),.int .i64 (N (q*8+q))] (wr.drewN n) λe w'=>e=.returned (.int .i64 (pl (N (p*8+p)) (N (q*8+q))))/\w'=wr.drewN n):=λn=>GS _ _ hm1 hm2 _;have hpl1: -200000000000000000<=pl (N (p*8+p)) (N (q*8+q))/\pl (N (p*8+p)) (N (q*8+q))<=2000000:=by
      unfold pl NB;split<;>omega
     obtain⟨l1,l2⟩:=hpl1;clear hsm hm1 hm2;generalize pl (N (p*8+p)) (N (q*8+q))=n at *;have ht:=AW n;obtain⟨t1,t2⟩:=ht;by_cases hz:n=NB
     ·have HE:Hid (_=_):=HE0.out.trans (if_neg (λe=>e.1 hz));have hb:(n != 1000000)=false:=by rw[hz];rfl
      clear HE0 hz;go_wp2_with fail;go_quiet (first|(go_at_call 152;refine Calls.quiet_of_same (HPl.out _)));obtain⟨w5,hW5⟩:∃w5,w5=wr.drewN nq:=⟨_,rfl⟩
      rw[<-hW5];have k1:∀a,w5.cell? a=wr.cell? a:=λa=>by rw[hW5];rfl
      rw[<-k1]at c3;have cf5:w5.frozen? ⟨b,1+p*8+q,none⟩=false:=by rw[hW5];exact cf
      have HQ5:Hid (AL w5 b e0 N/\BC b w w5):=by rw[hW5];exact⟨At.drewN HQ.out.1 nq,HQ.out.2.drewN nq⟩
      have hbl5:b<w5.heap.size:=by rw[hW5];exact hbl
      clear k1 hW5;go_wp2_with fail;go_roundw;case rel=>exact⟨q+1,by omega,by go_num,by rw[HE.out];exact HQ5.out.1,HQ5.out.2⟩
      case measure=>simp[intOf];omega
     have hb:(n != 1000000)=true:=by rw[bne_iff_ne];exact hz
     by_cases hn:n.tdiv 2<N (p*8+q)
     ·have HE:Hid (_=_):=HE0.out.trans (if_pos ⟨hz,hn⟩);clear HE0 hz;go_wp2_with fail;go_quiet (first|(go_at_call 152;refine Calls.quiet_of_same (HPl.out _)));obtain⟨w5,hW5⟩:∃w5,w5=wr.drewN nq:=⟨_,rfl⟩
      rw[<-hW5];have k1:∀a,w5.cell? a=wr.cell? a:=λa=>by rw[hW5];rfl
      rw[<-k1]at c3;have cf5:w5.frozen? ⟨b,1+p*8+q,none⟩=false:=by rw[hW5];exact cf
      have HQ5:Hid (AL w5 b e0 N/\BC b w w5):=by rw[hW5];exact⟨At.drewN HQ.out.1 nq,HQ.out.2.drewN nq⟩
      have hbl5:b<w5.heap.size:=by rw[hW5];exact hbl
      clear k1 hW5;go_wp2_with fail;go_roundw;case rel=>
       refine⟨q+1,by omega,by go_num,?_,HQ5.out.2.setCell _ _⟩;rw[HE.out,Nat.add_assoc];exact AL.put HQ5.out.1 (p*8+q) hk _
      case measure=>simp[intOf];omega
     ·have HE:Hid (_=_):=HE0.out.trans (if_neg (λe=>hn e.2));clear HE0 hz;go_wp2_with fail;go_quiet (first|(go_at_call 152;refine Calls.quiet_of_same (HPl.out _)));obtain⟨w5,hW5⟩:∃w5,w5=wr.drewN nq:=⟨_,rfl⟩
      rw[<-hW5];have k1:∀a,w5.cell? a=wr.cell? a:=λa=>by rw[hW5];rfl
      rw[<-k1]at c3;have cf5:w5.frozen? ⟨b,1+p*8+q,none⟩=false:=by rw[hW5];exact cf
      have HQ5:Hid (AL w5 b e0 N/\BC b w w5):=by rw[hW5];exact⟨At.drewN HQ.out.1 nq,HQ.out.2.drewN nq⟩
      have hbl5:b<w5.heap.size:=by rw[hW5];exact hbl
      clear k1 hW5;go_wp2_with fail;go_roundw;case rel=>exact⟨q+1,by omega,by go_num,by rw[HE.out];exact HQ5.out.1,HQ5.out.2⟩
      case measure=>simp[intOf];omega
    ·have hq8:q=8:=by omega
     subst hq8;go_wp2_with fail;go_roundw;case rel=>exact⟨p+1,by omega,by go_num,by rw[show(p+1)*8=p*8+8 by omega];exact HQ.out.1,HQ.out.2⟩
     case measure=>simp[intOf];omega
  ·have hp8:p=8:=by omega
   subst hp8;go_wp2_with fail
   go_end0
   exact⟨rfl,HR.out⟩
theorem LC(h:AL w b e0 M):
  Calls Tryz.prog 138 #[.pointer (some ⟨b,0,none⟩)] w λe w'=>e=.returned (.bool (By M 8))/\∃k,w'=w.drewN k:=by
 have HA:Hid (AL w b e0 M):=h;have hbl:b<w.heap.size:=At.lt h;have HCn:Hid (∀n,n<=8->By M n=true->By M 8=true):=by
  intro n hn h;have:∀d,By M (n+d)=true:=by
   intro d;induction d with
   |zero=>exact h
   |succ d ih=>show(By M (n+d)||_)=true;rw[ih];rfl
  rw[show 8=n+(8-n) by omega];exact this _
 clear h;go_enter Tryz.func138,Tryz.ntmps138;go_wp2_with fail;go_loopw [3] (λi wr=>∃(p k:Nat),p<=8/\i=.int .i64 p/\Hid (By M p=false/\wr=w.drewN k)) (λi _=>8-(intOf i).toNat);case atStart=>exact⟨0,0,by omega,rfl,rfl,rfl⟩
 case round=>
  obtain⟨p,k,hp,rfl,HR⟩:=hrel;by_cases hlt:p<8
  ·have hpi:(p:Int)<8:=by omega
   have HO:Hid (AL wr b e0 M):=by show AL _ _ _ _;rw[HR.out.2];exact At.drewN HA.out k
   have hol:=Ah hlt;have HOp:Hid (∀n,Calls Tryz.prog 153 #[.int .i64 (p:Int)] (wr.drewN n) λe w'=>e=.returned (.int .i64 ((opp p:Nat):Int))/\w'=wr.drewN n):=λn=>ED p hlt _;have HE0:Hid (By M (p+1)=(By M p||decide (M (p*8+opp p)<0))):=rfl;have hoi:((opp p:Nat):Int)<8:=by omega
   generalize opp p=os at *;have c1:wr.cell? ⟨b,1+p*8+os,none⟩=some (.int .i64 (M (p*8+os))):=by rw[Nat.add_assoc];exact HO.out.cell (p*8+os) (by omega)
   generalize M (p*8+os)=n at *;by_cases hn:n<0
   ·have HE:Hid (By M 8=true):=HCn.out (p+1) (by omega) (HE0.out.trans (by rw[HR.out.1];simpa using hn));clear HE0;go_wp2_with fail;go_quiet (first|(go_at_call 153;refine Calls.quiet_of_same (HOp.out _)));go_wp2_with fail;go_ret;exact⟨by rw[HE.out];rfl,k+nq,by rw[HR.out.2];exact World.drewN_drewN _ _ _⟩
   ·have HE:Hid (By M (p+1)=false):=HE0.out.trans (by rw[HR.out.1];simpa using hn);clear HE0;go_wp2_with fail;go_quiet (first|(go_at_call 153;refine Calls.quiet_of_same (HOp.out _)));go_wp2_with fail;go_roundw;case rel=>exact⟨p+1,k+nq,by omega,by go_num,HE.out,by rw[HR.out.2];exact World.drewN_drewN _ _ _⟩
    case measure=>simp[intOf];omega
  ·have hp8:p=8:=by omega
   subst hp8;go_wp2_with fail;go_ret;exact⟨by rw[HR.out.1];rfl,k,HR.out.2⟩
def Z8:List Nat:=[0,1,2,3,4,5,6,7,0,0,1,1,0,0,1,1,0,0,1,1,2,2,3,3,2,2,3,3,4,4,5,5]
def Z_:List Nat:=[0,1,2,3,4,5,6,7,2,3,2,3,4,5,4,5,6,7,6,7,4,5,4,5,6,7,6,7,6,7,6,7]
def fs(f:Nat):Nat:=Z8.getD f 0
def ss(f:Nat):Nat:=Z_.getD f 0
theorem D5:∀f,f<32->fs f<8:=by decide
theorem D7:∀f,f<32->ss f<8:=by decide
def lm(M:Nat->Int)(i j:Nat)(n:Int):Nat->Int:=
 Bw (Bw M (i*8+j) (if i=j/\n≠NB then 2*n else n)) (j*8+i) (if i=j/\n≠NB then 2*n else n)
def sb(M:Nat->Int)(f:Nat)(n:Int):Nat->Int:=
 Bw (Bw M (fs f*8+ss f) (if fs f=ss f/\n≠NB then 2*n else n)) (ss f*8+fs f) (if fs f=ss f/\n≠NB then 2*n else n)
structure Cr(w:World):Prop where
 first:∀f,f<32->w.cell? ⟨0,f,none⟩=some (.int .i64 ((fs f:Nat):Int))
 second:∀f,f<32->w.cell? ⟨1,f,none⟩=some (.int .i64 ((ss f:Nat):Int))
 size:2<=w.heap.size
theorem Cr.keep{w w':World}{B:Nat}(h:Cr w)(hb:Below B w w')(hB:2<=B):Cr w' where
 first:=λf hf=>(hb.cell (p:=⟨0,f,none⟩) (by show 0<B;omega)).trans (h.first f hf)
 second:=λf hf=>(hb.cell (p:=⟨1,f,none⟩) (by show 1<B;omega)).trans (h.second f hf)
 size:=Nat.le_trans h.size hb.size
theorem MY(h:AL w b e0 M)(i j:Nat)(hi:i<8)(hj:j<8)(n:Int)(hn: -1000000000000<=n/\n<=1000000000000):
  Calls Tryz.prog 134 #[.pointer (some ⟨b,0,none⟩),.int .i64 (i:Int),.int .i64 (j:Int),.int .i64 n] w λe w'=>e=.returned (.tuple #[])/\AL w' b e0 (lm M i j n)/\BC b w w':=by
 have hbl:b<w.heap.size:=At.lt h;have HA:Hid (AL w b e0 M):=h;have HE0:Hid (lm M i j n=Bw (Bw M (i*8+j) (if i=j/\n≠NB then 2*n else n)) (j*8+i) (if i=j/\n≠NB then 2*n else n)):=rfl;have hii:(i:Int)<8:=by omega
 have hji:(j:Int)<8:=by omega
 have hi0:¬(8:Int)<=(i:Int):=by omega
 have hj0:¬(8:Int)<=(j:Int):=by omega
 have k1:i*8+j<64:=by omega
 have k2:j*8+i<64:=by omega
 have c1:w.cell? ⟨b,1+i*8+j,none⟩=some (.int .i64 (M (i*8+j))):=by rw[Nat.add_assoc];exact h.cell _ k1
 have c2:w.cell? ⟨b,1+j*8+i,none⟩=some (.int .i64 (M (j*8+i))):=by rw[Nat.add_assoc];exact h.cell _ k2
 have cf:∀a,w.frozen? ⟨b,a,none⟩=false:=At.free h;obtain⟨n0,n1⟩:=hn;have HC2:Hid (∀x n,AL ((((w.drewN n).setCell ⟨b,1+i*8+j,none⟩ (.int .i64 x))).setCell ⟨b,1+j*8+i,none⟩ (.int .i64 x)) b e0 (Bw (Bw M (i*8+j) x) (j*8+i) x)):=by
  intro x n;rw[Nat.add_assoc,Nat.add_assoc];exact AL.put (AL.put (w:=w.drewN n) (At.drewN HA.out n) _ k1 x) _ k2 x
 clear h;by_cases hq:i=j/\n≠NB
 ·obtain⟨rfl,hq2⟩:=hq;have HE:Hid (lm M i i n=Bw (Bw M (i*8+i) (2*n)) (i*8+i) (2*n)):=by show lm M i i n=_;rw[HE0.out,if_pos ⟨rfl,hq2⟩]
  have hb:(n != 1000000)=true:=by rw[bne_iff_ne];exact hq2
  clear HE0 hq2;go_enter Tryz.func134,Tryz.ntmps134;go_wp2_with fail
  go_end0
  exact⟨rfl,by rw[HE.out];exact HC2.out _ 0,(((BC.refl b w).drewN 0).setCell _ _).setCell _ _⟩
 ·have HE:Hid (lm M i j n=Bw (Bw M (i*8+j) n) (j*8+i) n):=by show lm M i j n=_;rw[HE0.out,if_neg hq]
  clear HE0;by_cases hij:i=j
  ·subst hij;have hb:(n != 1000000)=false:=by
    have:n=1000000:=by
     rcases Classical.em (n=NB)with e|e
     ·exact e
     ·exact absurd ⟨rfl,e⟩ hq
    rw[this];rfl
   clear hq;go_enter Tryz.func134,Tryz.ntmps134;go_wp2_with fail
   go_end0
   exact⟨rfl,by rw[HE.out];exact HC2.out _ 0,(((BC.refl b w).drewN 0).setCell _ _).setCell _ _⟩
  ·have hb:((i:Int)==(j:Int))=false:=by rw[beq_eq_false_iff_ne];omega
   have hne1:1+j*8+i≠1+i*8+j:=by omega
   have hne2:1+i*8+j≠1+j*8+i:=by omega
   clear hq hij;go_enter Tryz.func134,Tryz.ntmps134;go_wp2_with fail
   go_end0
   exact⟨rfl,by rw[HE.out];exact HC2.out _ 0,(((BC.refl b w).drewN 0).setCell _ _).setCell _ _⟩
theorem PM(hG:Cr w)(_hb2:2<=b)(h:AL w b e0 M)(f:Nat)(hf:f<32)(n:Int)(hn: -4000<=n/\n<=1000000):
  Calls Tryz.prog 108 #[.pointer (some ⟨b,0,none⟩),.int .i64 (f:Int),.int .i64 n] w λe w'=>e=.returned (.tuple #[])/\AL w' b e0 (sb M f n)/\BC b w w':=by
 have hfi:(f:Int)<32:=by omega
 have hf0:¬(32:Int)<=(f:Int):=by omega
 have g0:=hG.first f hf;have g1:=hG.second f hf;have hi:=D5 f hf;have hj:=D7 f hf;have HE:Hid (sb M f n=lm M (fs f) (ss f) n):=rfl;have HL:Hid (∀w1,AL w1 b e0 M->Calls Tryz.prog 134 #[.pointer (some ⟨b,0,none⟩),.int .i64 ((fs f:Nat):Int),.int .i64 ((ss f:Nat):Int),.int .i64 n] w1 λe w'=>e=.returned (.tuple #[])/\Hid (AL w' b e0 (lm M (fs f) (ss f) n)/\BC b w1 w')):=λw1 h1=>(MY h1 _ _ hi hj n ⟨by omega,by omega⟩).mono λe w' h'=>⟨h'.1,h'.2⟩
 generalize fs f=i at *;generalize ss f=j at *;have HA:Hid (AL w b e0 M):=h;clear h hG hn hi hj;go_enter Tryz.func108,Tryz.ntmps108;go_wp2_with fail;go_region_with (go_at_call 134;refine(HL.out _ (by exact HA.out)).mono ?_;rintro e w1 ⟨rfl,H1⟩);all_goals
  go_wp2_with fail
  go_end0
  exact⟨rfl,by rw[HE.out];exact H1.out.1,((BC.refl b w).drewN 1).trans H1.out.2⟩
def FW(l:List Int):Nat->Nat->Int
 |0=>λ_=>0
 |f+1=>sb (FW l f) f (l.getD f 0)
theorem UZ(M:Nat->Int)(f:Nat)(n:Int)(hM:∀k, -8000<=M k/\M k<=1000000)(hn:G8 n=true):∀k, -8000<=sb M f n k/\sb M f n k<=1000000:=by
 intro k;have h:=hM k;unfold G8 at hn;have hn:=of_decide_eq_true hn;unfold NB at hn;unfold sb Bw;split
 ·split<;>(simp only[NB]at *;omega)
 ·split
  ·split<;>(simp only[NB]at *;omega)
  ·exact h
theorem EA(l:List Int)(n:Nat)(h:∀i,i<n->G8 (l.getD i 0)=true):∀k, -8000<=FW l n k/\FW l n k<=1000000:=by
 induction n with
 |zero=>intro k;show -8000<=(0:Int)/\(0:Int)<=1000000;omega
 |succ n ih=>exact UZ _ _ _ (ih (λi hi=>h i (by omega))) (h n (by omega))
theorem Ui{L:Int}{M M':Nat->Int}(hL:L<=100000000000000000)(hlo:Lo L M')(hle:∀a,M' a<=M a)(hM:∀k,k<64->M k<=1000000):Sm M':=λk hk=>⟨by have:=hlo k hk;omega,by have:=hle k;have:=hM k hk;omega⟩
theorem Qh(l:List Int)(n:Nat)(h:∀i,i<n->G8 (l.getD i 0)=true):∀k,k<64-> -20000000000<=FW l n k/\FW l n k<=1000000:=λk _=>by have:=EA l n h k;omega
theorem Y3{M:Nat->Int}(hM:∀k,k<64-> -20000000000<=M k/\M k<=1000000)(s:Nat)(hs:s<8):∀k,k<=64->Sm (E6 s (fw M s) k):=by
 intro k hk;have hlo:Lo 20000000000 M:=λa ha=>(hM a ha).1;have h1:=QW (by decide) hlo s (by omega);have hp:(0:Int)<=20000000000*6^s:=Int.mul_nonneg (by decide) (Int.le_of_lt (Int.pow_pos (by decide)));have h2:=(Sw hp hs h1 k hk).all;refine Ui (L:=6*(20000000000*6^s)) ?_ h2 (λa=>Int.le_trans (J3 s _ k a) (F8 M s a)) (λk hk=>(hM k hk).2);rcases(show s=0\/s=1\/s=2\/s=3\/s=4\/s=5\/s=6\/s=7 by omega)with rfl|rfl|rfl|rfl|rfl|rfl|rfl|rfl<;>decide
theorem TL{M:Nat->Int}(hM:∀k,k<64-> -20000000000<=M k/\M k<=1000000):Lo 33592320000000000 (fw M 8):=QW (by decide) (λa ha=>(hM a ha).1) 8 (Nat.le_refl _)
theorem ZL{M:Nat->Int}(hM:∀k,k<64-> -20000000000<=M k/\M k<=1000000)(n:Nat):Sm (Ef (fw M 8) n):=
 Ui (L:=33592320000000001) (by decide) (Mk (TL hM) n) (λa=>Int.le_trans (Hx _ n a) (F8 M 8 a)) (λk hk=>(hM k hk).2)
theorem Sa{M:Nat->Int}(hM:∀k,k<64-> -20000000000<=M k/\M k<=1000000)(k:Nat)(hk:k<=64):Sm (Ea (Ef (fw M 8) 8) k):=
 Ui (L:=33592320000000001) (by decide) (Oi (by decide) (Mk (TL hM) 8) k hk) (λa=>Int.le_trans (Is _ k a) (Int.le_trans (Hx _ 8 a) (F8 M 8 a))) (λk hk=>(hM k hk).2)
theorem Lj(h:AL w b e0 M)(hM:∀k,k<64-> -20000000000<=M k/\M k<=1000000):
  Calls Tryz.prog 109 #[.pointer (some ⟨b,0,none⟩)] w λe w'=>e=.returned (.tuple #[])/\AL w' b (By (Aj M) 8) (Aj M)/\BC b w w':=by
 have HA:Hid (AL w b e0 M):=h;have HM:Hid (∀k,k<64-> -20000000000<=M k/\M k<=1000000):=hM;have HCh:Hid (∀s w1,s<8->AL w1 b e0 (fw M s)->Calls Tryz.prog 135 #[.pointer (some ⟨b,0,none⟩),.int .i64 (s:Int)] w1 λe w'=>e=.returned (.tuple #[])/\Hid (AL w' b e0 (fw M (s+1))/\BC b w1 w')):=by
  intro s w1 hs h1;refine(V5 h1 s hs (Y3 HM.out s hs)).mono ?_;rintro e w2 ⟨rfl,h2,h3⟩;exact⟨rfl,by rw[fw];exact h2,h3⟩
 clear h hM;go_enter Tryz.func109,Tryz.ntmps109;go_wp2_with fail;go_loopw [2] (λi wr=>∃(p:Nat),p<=8/\i=.int .i64 p/\Hid (AL wr b e0 (fw M p)/\BC b w wr)) (λi _=>8-(intOf i).toNat);case atStart=>exact⟨0,by omega,rfl,HA.out,BC.refl _ _⟩
 case round=>
  obtain⟨p,hp,rfl,HR⟩:=hrel;by_cases hlt:p<8
  ·have hpi:(p:Int)<8:=by omega
   go_wp2_with fail;refine(HCh.out p wr hlt HR.out.1).mono ?_;rintro e w2 ⟨rfl,H2⟩;go_wp2_with fail;go_roundw;case rel=>exact⟨p+1,by omega,by go_num,H2.out.1,HR.out.2.trans H2.out.2⟩
   case measure=>simp[intOf];omega
  ·have hp8:p=8:=by omega
   subst hp8;have hrd:=N3 HR.out.1 (λk _=>ZL HM.out k);go_wp2_with fail;refine hrd.mono ?_;rintro e w2 ⟨rfl,h2,ho2⟩;have H2:Hid (AL w2 b e0 _/\BC b w w2):=⟨h2,HR.out.2.trans ho2⟩
   have hah:=Nz h2 (λk hk=>Sa HM.out k hk);clear h2 ho2 hrd;go_wp2_with fail;refine hah.mono ?_;rintro e w3 ⟨rfl,h3,ho3⟩;have H3:Hid (AL w3 b e0 (Aj M)/\BC b w w3):=⟨h3,H2.out.2.trans ho3⟩
   have hco:=LC (show AL w3 b e0 (Aj M)from h3);have cz:w3.cell? ⟨b,0,none⟩=some (.bool e0):=by rw[At.cell h3];exact Ib _ _
   have cf:=At.free h3;clear h3 ho3 hah;go_wp2_with fail;refine hco.mono ?_;rintro e w4 ⟨rfl,k,hk⟩;have c4:w4.cell? ⟨b,0,none⟩=some (.bool e0):=by rw[hk];exact cz
   have f4:w4.frozen? ⟨b,0,none⟩=false:=by rw[hk];exact cf 0
   have H4:Hid (AL w4 b e0 (Aj M)/\BC b w w4):=by show _/\_;rw[hk];exact⟨At.drewN H3.out.1 k,H3.out.2.drewN k⟩
   clear hk hco cz cf;go_wp2_with fail
   go_end0
   refine⟨rfl,?_,H4.out.2.setCell _ _⟩;have:=At.put H4.out.1 0 (.bool (By (Aj M) 8));rw[V6]at this;exact this
theorem Bn(w:World):(zeroValue 90).run Tryz.prog w=.ok (.agg (oc false λ_=>0)) w:=by kernel_rfl
theorem Hr(e:Bool)(M:Nat->Int):∀v,v∈(oc e M).toList->v.oneCell'=true:=by
 intro v hv;simp[oc]at hv;rcases hv with rfl|⟨k,_,rfl⟩<;>rfl
theorem Al(h:AL w b e0 M)(e':Bool)(M':Nat->Int):∃w1,(storeCells ⟨b,0,none⟩ (oc e' M').toList).run Tryz.prog w=.ok () w1/\AL w1 b e' M'/\BC b w w1:=by
 have hr:=run_storeCells_at Tryz.prog b 0 tO (oc e' M').toList 0 (oc e0 M) w h (by simp[Am]) (Hr e' M');refine⟨_,hr,?_,?_⟩
 ·have:=setRow_heap w b (oc e0 M) ((oc e0 M).toList.take (0+0)++(oc e' M').toList++(oc e0 M).toList.drop (0+0+(oc e' M').toList.length)).toArray tO (0,0) h;have e1:((oc e0 M).toList.take (0+0)++(oc e' M').toList++(oc e0 M).toList.drop (0+0+(oc e' M').toList.length)).toArray=oc e' M':=by
   rw[List.drop_of_length_le (by simp[Am])];simp
  rw[e1]at this|-;exact this
 ·exact⟨rfl,rfl,rfl,by simp[World.setRow],λk _ hk=>setRow_other w b k _ (λe=>hk e)⟩
theorem Fa(h:AL w b e0 M):(loadVar tO ⟨b,0,none⟩).run Tryz.prog w=.ok (.agg (oc e0 M)) w:=
 run_loadVar_row w b tO tO (oc e0 M) (0,0) _ h Tryz.underlying90 rfl (by rw[Am];kernel_rfl)
theorem IY(h:AL w b e0 M):(Instr.loadAt tO (.pointer (some ⟨b,0,none⟩))).run Tryz.prog w=.ok (.agg (oc e0 M)) w:=by
 simp only[Instr.loadAt,Instr.sureAddr,Sem.run_bind,Sem.run_pure,Result.andThen];exact Fa h
theorem AH{ops:Array Oper}{rest:List Oper}{o:Oper}{a:Act}{Q:Exit->Act->World->Prop}(hg:o.guard=none)(p:Operand)(hop:o.op=Op.load tO p)(hp:a.eval p=.pointer (some ⟨b,0,none⟩))(hat:AL w b e0 M)
  (hK:wpList Tryz.prog ops Q rest (a.put o.dst (.agg (oc e0 M))) w):wpList Tryz.prog ops Q (o::rest) a w:=by
 refine wpList_plain hg λK hK'=>?_;unfold Oper.wp;simp[execOp,hop,hp,IY hat,Result.andThen];exact hK' _ _ hK
theorem KZ{fn:Func}{t u:Tmp}(h:fn.results=#[.cell t tO,.tmp u])(tmps:Array Value)(hp:tmps.getD t undef=.pointer (some ⟨b,0,none⟩))(hat:AL w b e0 M):
  (results fn tmps).run Tryz.prog w=.ok (.tuple #[.agg (oc e0 M),tmps.getD u undef]) w:=by
 have hp':tmps[t]?.getD undef=.pointer (some ⟨b,0,none⟩):=by simpa using hp
 simp[results,h,hp',asAddr,Fa hat]
theorem Ag{fn:Func}{t:Tmp}(h:fn.results=#[.cell t tO])(tmps:Array Value)(hp:tmps.getD t undef=.pointer (some ⟨b,0,none⟩))(hat:AL w b e0 M):
  (results fn tmps).run Tryz.prog w=.ok (.agg (oc e0 M)) w:=by
 have hp':tmps[t]?.getD undef=.pointer (some ⟨b,0,none⟩):=by simpa using hp
 simp[results,h,hp',asAddr,Fa hat]
def BT(l:List Int):Nat->Int:=Aj (FW l 32)
def ovE(l:List Int):Bool:=By (BT l) 8
theorem Fb(hG:Cr w)(v:Value)(l:List Int)(hl:B_ l)(hv:AQ w v l):
  Calls Tryz.prog 73 #[v] w λe w'=>e=.returned (.tuple #[.agg (oc (ovE l) (BT l)),.int .i64 0])/\Below w.heap.size w w':=by
 have hil:=KN (w:=w.alloc (.cells (oc false λ_=>0) tO)) v l (hv.keep ((Below.refl _ w).alloc (Nat.le_refl _) (.cells (oc false λ_=>0) tO)));rw[CG.2 hl]at hil;obtain⟨ao,cap,rfl,hcap,h0⟩:=hv;have hl1:=hl.1;obtain⟨p,off,rfl,hp,hcell⟩:=h0 (by omega);have hz:=Bn;obtain⟨w1,hst1,hat1,ho1⟩:=Al (w:=(w.alloc (.cells (oc false λ_=>0) tO)).alloc (.cells (oc false λ_=>0) tO)) (b:=w.heap.size+1) (by have:=At.new (w.alloc (.cells (oc false λ_=>0) tO)) (oc false λ_=>0) tO;rw[show(w.alloc (.cells (oc false λ_=>0) tO)).heap.size=w.heap.size+1 by simp]at this;exact this) false (λ_=>0);have hatr:AL w1 w.heap.size false (λ_=>0):=ho1.at_ (At.allocH (At.new w _ _) _) (by omega);have hb1:Below w.heap.size w w1:=(((Below.refl _ _).alloc (Nat.le_refl _) _).alloc (by simp) _).trans (ho1.below (by omega) (by simp;omega));have hs1:w.heap.size+2<=w1.heap.size:=by have:=ho1.size;simpa using this
 have HA1:Hid (AL w1 (w.heap.size+1) false (λ_=>0)):=hat1;have HR1:Hid (AL w1 w.heap.size false (λ_=>0)):=hatr;have HB1:Hid (Below w.heap.size w w1):=hb1;clear hat1 hatr hb1 ho1;have HSB:Hid (∀wr f (N:Nat->Int),f<32->G8 (l.getD f 0)=true->Below w.heap.size w wr->AL wr (w.heap.size+1) false N->Calls Tryz.prog 108 #[.pointer (some ⟨w.heap.size+1,0,none⟩),.int .i64 (f:Int),.int .i64 (l.getD f 0)] wr λe w'=>e=.returned (.tuple #[])/\Hid (AL w' (w.heap.size+1) false (sb N f (l.getD f 0))/\BC (w.heap.size+1) wr w')):=by
  intro wr f N hf hb hbel hat;have hgs:=hG.size;have hb': -4000<=l.getD f 0/\l.getD f 0<=1000000:=by
   unfold G8 at hb;have:=of_decide_eq_true hb;unfold NB at this;omega
  refine(PM (hG.keep hbel hgs) (by omega) hat f hf (l.getD f 0) hb').mono ?_;rintro e w2 ⟨rfl,h1,h2⟩;exact⟨rfl,h1,h2⟩
 have HC:Hid (∀i,i<32->w.cell? ⟨p,off+i,none⟩=some (.int .i64 (l.getD i 0))):=λi hi=>hcell i (by omega);have HI:Hid (∀i,i<32->G8 (l.getD i 0)=true):=hl.2;rw[hl1]at hil|-;clear h0 hcell hG hl hcap;go_enter Tryz.func73,Tryz.ntmps73;go_wp2_with fail;refine hil.mono ?_;rintro e w2 ⟨rfl,hw2⟩;subst hw2;clear hil;go_wp2_with fail;go_loopw [14] (λi wr=>∃(f:Nat),f<=32/\i=.int .i64 f/\Hid (AL wr (w.heap.size+1) false (FW l f)/\AL wr w.heap.size false (λ_=>0)/\Below w.heap.size w wr/\w.heap.size+2<=wr.heap.size)) (λi _=>32-(intOf i).toNat);case atStart=>exact⟨0,by omega,rfl,HA1.out,HR1.out,HB1.out,hs1⟩
 case round=>
  obtain⟨f,hf,rfl,HR⟩:=hrel;by_cases hlt:f<32
  ·have hfi:(f:Int)<32:=by omega
   have cx:wr.cell? ⟨p,off+f,none⟩=some (.int .i64 (l.getD f 0)):=(HR.out.2.2.1.cell (by exact hp)).trans (HC.out f (by omega));have hset:=HSB.out wr f (FW l f) (by omega) (HI.out f (by omega)) HR.out.2.2.1 HR.out.1;have HLy:Hid (FW l (f+1)=sb (FW l f) f (l.getD f 0)):=rfl;generalize l.getD f 0=x at *;go_wp2_with fail;refine hset.mono ?_;rintro e w3 ⟨rfl,H3⟩;go_wp2_with fail;go_roundw;case rel=>exact⟨f+1,by omega,by go_num,by rw[HLy.out];exact H3.out.1,H3.out.2.at_ HR.out.2.1 (by omega),HR.out.2.2.1.trans (H3.out.2.below (by omega) (by have:=HR.out.2.2.2;omega)),Nat.le_trans HR.out.2.2.2 H3.out.2.size⟩
   case measure=>simp[intOf];omega
  ·have hff:f=32:=by omega
   subst hff;have hsh:=Lj HR.out.1 (Qh l 32 HI.out);go_wp2_with fail;refine hsh.mono ?_;rintro e w3 ⟨rfl,h3,ho3⟩;have hr3:AL w3 w.heap.size false (λ_=>0):=ho3.at_ HR.out.2.1 (by omega);have H3:Hid (AL w3 (w.heap.size+1) (ovE l) (BT l)):=h3;obtain⟨w5,hst5,hat5,ho5⟩:=Al hr3 (ovE l) (BT l);have hb3:Below w.heap.size w w3:=HR.out.2.2.1.trans (ho3.below (by omega) (by have:=HR.out.2.2.2;omega));have H5:Hid (AL w5 w.heap.size (ovE l) (BT l)/\Below w.heap.size w w5):=⟨hat5,hb3.trans (ho5.below (Nat.le_refl _) hb3.size)⟩
   clear hat5 ho5 hsh h3 ho3 hr3 hb3;go_wp2_with (refine AH rfl (.tmp 4) rfl rfl H3.out ?_);try simp only[Exit.inBlock,Exit.then]
   refine bodyPost_ret (KZ rfl _ rfl H5.out.1) rfl ?_;exact⟨rfl,H5.out.2⟩
end Go.Proofs.YtffajooegiempaaGreatDoor
