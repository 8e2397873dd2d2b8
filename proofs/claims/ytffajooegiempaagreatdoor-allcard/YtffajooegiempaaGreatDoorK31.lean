import Derived.Test.YtffajooegiempaaGreatDoorK30
import Derived.Deep.RegionWith
set_option maxRecDepth 100000
set_option maxHeartbeats 6400000
namespace Go.Proofs.YtffajooegiempaaGreatDoor
open Go.RowKit Go.Proofs.Tryz
variable {F:List Ds}{L:List (Option (List Int))}{M N:Nat->Int}
def Ph(M:Nat->Int):Nat->Nat
 |0=>0
 |f+1=>Ph M f+(M (fs f*8+ss f)+1998).toNat
theorem Nm{f:Nat}(m:f<32):fs f*8+ss f<64:=by have:=D5 f m;have:=D7 f m;omega
theorem UR(h:Wn M):∀n,n<=32->Ph M n<=3996*n
 |0,_=>bY _
 |n+1,hn=>by
  have:=UR h n (by omega);have:=h.all (Nm (f:=n) (by omega));rw[Ph];omega
theorem OM(h:Le M N):∀n,n<=32->Ph M n<=Ph N n
 |0,_=>bB _
 |n+1,hn=>by
  have:=OM h n (by omega);have:=h _ (Nm (f:=n) (by omega));rw[Ph,Ph];omega
theorem US(h:Le M N)(v:Wn M){f:Nat}(m:f<32)(P:M (fs f*8+ss f)<N (fs f*8+ss f)):∀n,n<=32->f<n->Ph M n+1<=Ph N n
 |0,_,U=>absurd U (by omega)
 |n+1,hn,hfn=>by
  have lo:=v.all (Nm (f:=n) (by omega));have le:=h _ (Nm (f:=n) (by omega));rw[Ph,Ph];rcases bX (ch.1 hfn)with q|q
  .have:=US h v m P n (by omega) q;omega
  .subst q;have:=OM h f (by omega);omega
def Ny(p:Pl):Nat:=if p.e=true then 0 else 1+Ph p.M 32
def Jf(l:List Pl):Nat:=(l.map Ny).sum
theorem PG:∀(l:List Pl)(k:Nat),k<l.length->∀p,Jf (l.set k p)+Ny (l.getD k p0)=Jf l+Ny p
 |[],k,h,_=>absurd h (by simp)
 |a::l,0,_,p=>by simp[Jf,List.getD];omega
 |a::l,k+1,h,p=>by
  have:=PG l k (by simpa using h) p;simp[Jf,List.getD]at this|-;omega
theorem Xv{p:Pl}(h:GC p):Ny p<=127873:=by
 unfold Ny;rcases h with⟨h1,h2⟩|⟨h1,_⟩
 .rw[a_ (by rw[h1];decide)];have:=UR h2 32 (bB _);omega
 .rw[bA h1];omega
theorem Ti:∀(l:List Pl),(∀i,GC (l.getD i p0))->Jf l<=127873*l.length
 |[],_=>bY _
 |a::l,h=>by
  have h1:=Xv (h 0);have h2:=Ti l (λi=>h (i+1));have e:Jf (a::l)=Ny a+Jf l:=by simp[Jf]
  have h3:Ny a<=127873:=h1;rw[e,db];omega
theorem Sz{s:SS}(O:Bf s)(pt:Int){e:Bool}{M:Nat->Int}(v:e=false->Wn M):DR s pt e M=s\/(Jf s.1+1<=Jf (DR s pt e M).1/\(DR s pt e M).2=true):=by
 unfold DR;split
 .exact .inl rfl
 .rename_i hp;split
  .exact .inl rfl
  .rename_i q
   right
   refine⟨?_,rfl⟩;have hk:pt.toNat<s.1.length:=by omega
   have J:e=false:=by
    cases e with
    |false=>rfl
    |true=>exact absurd rfl q
   subst J;have R:=v rfl;have h1:=PG s.1 pt.toNat hk ⟨Hn (s.1.getD pt.toNat p0).e false,GF (s.1.getD pt.toNat p0).e false (s.1.getD pt.toNat p0).M M,true⟩;have ag:Ny (s.1.getD pt.toNat p0)+1<=Ny ⟨Hn (s.1.getD pt.toNat p0).e false,GF (s.1.getD pt.toNat p0).e false (s.1.getD pt.toNat p0).M M,true⟩:=by
    rcases O pt.toNat with⟨g,w⟩|⟨g,w⟩
    .rw[g]at q|-;have ac:¬Le M (s.1.getD pt.toNat p0).M:=λz=>q (Bi.2 (.inr ⟨rfl,rfl,z⟩));have Y:∃f,f<32/\(s.1.getD pt.toNat p0).M (fs f*8+ss f)<M (fs f*8+ss f):=by
      refine Classical.byContradiction λhn=>ac λa W=>?_;have e:a=a/8*8+a%8:=by omega
      have hi:a/8<8:=by omega
      have B:a%8<8:=by omega
      rw[e];generalize a/8=i at hi;generalize a%8=j at B;by_cases o:j=opp i
      .rw[o,R.tc.zero i hi,w.tc.zero i hi];exact bN _
      .obtain⟨f1,f2⟩:=DN i hi j B o;have:¬(s.1.getD pt.toNat p0).M (fs (nf i j)*8+ss (nf i j))<M (fs (nf i j)*8+ss (nf i j)):=λz=>hn ⟨_,f1,z⟩;rcases f2 with⟨z1,z2⟩|⟨z1,z2⟩
       .rw[z1,z2]at this;omega
       .rw[z1,z2,R.tc.sym j i B hi,w.tc.sym j i B hi]at this;omega
     obtain⟨f,m,P⟩:=Y;have D:Le (s.1.getD pt.toNat p0).M (jF (s.1.getD pt.toNat p0).M M 64):=λa W=>(C1 _ M W).2.1;have h2:=(C1 (s.1.getD pt.toNat p0).M M (Nm m)).2.2;have:=US D w m (by omega) 32 (bB _) m;have e1:Ny (s.1.getD pt.toNat p0)=1+Ph (s.1.getD pt.toNat p0).M 32:=by unfold Ny;rw[a_ (by rw[g];decide)]
     have e2:Ny ⟨Hn false false,GF false false (s.1.getD pt.toNat p0).M M,true⟩=1+Ph (jF (s.1.getD pt.toNat p0).M M 64) 32:=rfl;rw[e1,e2];omega
    .have e1:Ny (s.1.getD pt.toNat p0)=0:=by unfold Ny;rw[bA g]
     rw[e1,g];have e2:Ny ⟨Hn true false,GF true false (s.1.getD pt.toNat p0).M M,true⟩=1+Ph M 32:=rfl;rw[e2];omega
   show Jf s.1+1<=Jf (s.1.set pt.toNat _);omega
def NC(s t:SS):Prop:=Jf s.1<=Jf t.1/\(t.2=true->s.2=true\/Jf s.1+1<=Jf t.1)
theorem NC.refl(s:SS):NC s s:=⟨bB _,λh=>.inl h⟩
theorem NC.trans{s t u:SS}(h:NC s t)(k:NC t u):NC s u:=by
 refine⟨cN h.1 k.1,λhu=>?_⟩;have:=h.1;have:=k.1;rcases k.2 hu with q|q
 .rcases h.2 q with r|r
  .exact .inl r
  .exact .inr (by omega)
 .exact .inr (by omega)
theorem XY{s:SS}(O:Bf s)(pt:Int){e:Bool}{M:Nat->Int}(v:e=false->Wn M):NC s (DR s pt e M):=by
 rcases Sz O pt v with q|q
 .rw[q];exact NC.refl s
 .exact⟨by omega,λ_=>.inr q.1⟩
theorem U5{s:SS}(h:Bf s){k:Nat}(hx:DQ (F.getD k (AC 0 0))){e:Bool}{M:Nat->Int}(v:e=false->Wn M)(hs:DF e M (F.getD k (AC 0 0))=true):∀n,NC s (GH F k e M s n)
 |0=>NC.refl s
 |n+1=>by
  refine(U5 h hx v hs n).trans (XY (Km h hx v hs n) _ λJ=>?_);cases e with
  |true=>cases J
  |false=>exact Jp (v rfl) hx hs n J
theorem Xk{s:SS}(h:Bf s){k:Nat}(hx:k<F.length->DQ (F.getD k (AC 0 0))){e:Bool}{M:Nat->Int}(v:e=false->Wn M):NC s (Dp F k e M s):=by
 unfold Dp;split
 .rename_i q;split
  .rename_i hs;exact U5 h (hx q) v hs _
  .exact NC.refl s
 .exact NC.refl s
theorem X5{s:SS}(h:Bf s){k:Nat}(hk:k<s.1.length)(hx:k<F.length->DQ (F.getD k (AC 0 0))):NC s (Fz F k s):=by
 unfold Fz;split
 .have h1:=PG s.1 k hk ⟨(s.1.getD k p0).e,(s.1.getD k p0).M,false⟩;have e:Ny ⟨(s.1.getD k p0).e,(s.1.getD k p0).M,false⟩=Ny (s.1.getD k p0):=rfl;have h2:NC s (s.1.set k ⟨(s.1.getD k p0).e,(s.1.getD k p0).M,false⟩,s.2):=⟨by show Jf s.1<=Jf (s.1.set k _);omega,λz=>.inl z⟩
  refine h2.trans (Xk (KF h _ ?_ _) hx ?_)
  .rcases h k with q|q
   .exact .inl q
   .exact .inr q
  .intro J;rcases h k with q|q
   .exact q.2
   .rw[q.1]at J;cases J
 .exact NC.refl s
theorem UO{s:SS}(h:Bf s)(hx:∀k,k<F.length->DQ (F.getD k (AC 0 0))):∀n,n<=s.1.length->NC (s.1,false) (C3 F s n)
 |0,_=>NC.refl _
 |n+1,hn=>(UO h hx n (by omega)).trans (X5 (DW h hx n) (by rw[DD];omega) (hx n))
theorem W1(hx:∀k,k<F.length->DQ (F.getD k (AC 0 0))):∀r {s:SS},Bf s->(F9 F r s).2=false\/Jf s.1+r<=Jf (F9 F r s).1
 |0,s,_=>.inr (bB _)
 |r+1,s,h=>by
  rw[F9];split
  .have h1:=UO h hx s.1.length (bB _);have O:=DW h hx (n:=s.1.length);cases ht:(C3 F s s.1.length).2 with
   |false=>left;rw[Jb F r ht];exact ht
   |true=>
    have h2:=(h1.2 ht).resolve_left (λz=>Bool.noConfusion z);rcases W1 hx r O with q|q
    .exact .inl q
    .right
     have h3:Jf s.1+1<=Jf (C3 F s s.1.length).1:=h2;omega
  .rename_i q
   left
   simpa using q
theorem TD(hx:∀k,k<F.length->DQ (F.getD k (AC 0 0)))(hl:F.length<=20):(B3 F).2=false:=by
 rcases W1 hx 2685334 (ID F.length)with q|q
 .exact q
 .exfalso;have h1:=Ti (B3 F).1 (KA hx);rw[JY]at h1;have h2:Jf (GK F.length).1+2685334<=Jf (B3 F).1:=q;omega
structure VJ(F:List Ds)(L:List (Option (List Int)))(s:SS):Prop where
 len:s.1.length=F.length+1
 good:Bf s
 ab:M_ L s
 wy:SU F s
 no:s.2=false->∀i,i<F.length->(at_ s i).wt=false
 or_:DY false (at_ s 0).e (λ_=>0) (at_ s 0).M=true
theorem YK{s:SS}{k:Nat}(hk:k<s.1.length)(b:Bool)(i:Nat):DY (at_ s i).e (at_ (s.1.set k ⟨(at_ s k).e,(at_ s k).M,b⟩,s.2) i).e (at_ s i).M (at_ (s.1.set k ⟨(at_ s k).e,(at_ s k).M,b⟩,s.2) i).M=true:=by
 show DY (at_ s i).e ((s.1.set k _).getD i p0).e (at_ s i).M ((s.1.set k _).getD i p0).M=true;rw[DB hk];by_cases c:i=k
 .rw[bA c,c];exact G0 _ _
 .rw[a_ c];exact G0 _ _
theorem Xi(F:List Ds)(k:Nat)(e:Bool)(M:Nat->Int)(s:SS):Oa s (Dp F k e M s):=by
 unfold Dp;split
 .split
  .exact P6 F k e M s _
  .exact Oa.refl s
 .exact Oa.refl s
theorem X3{s:SS}{k:Nat}(hk:k<s.1.length)(i:Nat):DY (at_ s i).e (at_ (Fz F k s) i).e (at_ s i).M (at_ (Fz F k s) i).M=true:=by
 unfold Fz;split
 .exact Fg (YK hk false i) ((Xi F k _ _ _).in_ i)
 .exact G0 _ _
theorem UM{s:SS}(i:Nat):∀n,n<=s.1.length->DY (at_ s i).e (at_ (C3 F s n) i).e (at_ s i).M (at_ (C3 F s n) i).M=true
 |0,_=>G0 _ _
 |n+1,hn=>Fg (UM i n (by omega)) (X3 (by rw[DD];omega) i)
theorem S9(C:Bt F L)(x:∀k,k<F.length->DQ (F.getD k (AC 0 0))):∀r {s:SS},VJ F L s->VJ F L (F9 F r s)
 |0,_,h=>h
 |r+1,s,h=>by
  rw[F9];split
  .exact S9 C x r ⟨by rw[DD];exact h.len,DW h.good x _,Mo C x h.ab h.good _,UP C x h.len h.wy h.ab h.good _ (bB _),λz i hi=>UN _ (bB _) z i (by rw[h.len];omega),Fg h.or_ (UM 0 _ (bB _))⟩
  .exact h
theorem Vl(C:Bt F L):VJ F L (GK F.length):=by
 have y:∀i,at_ (List.replicate (F.length+1) p0,false) i=p0:=λi=>by
  show(List.replicate (F.length+1) p0).getD i p0=p0;rw[bG,List.getElem?_replicate];split<;>rfl
 have K:=Sy (s:=(List.replicate (F.length+1) p0,false)) (pt:=0) (by decide) (by simp) false (λ_=>0);have h2:(GK F.length).2=true:=by
  rcases Sz (s:=(List.replicate (F.length+1) p0,false)) (λi=>by rw[show(List.replicate (F.length+1) p0,false).1.getD i p0=p0 from y i];exact GC.p0) 0 (e:=false) (M:=λ_=>0) (λ_=>M7)with q|q
  .exfalso;rw[q,show(0:Int).toNat=0 from rfl,y 0]at K;cases K
  .exact q.2
 refine⟨MD _,ID _,XO C _,?_,λz=>?_,K⟩
 .refine SU.gr (s:=(List.replicate (F.length+1) p0,false)) (λk _ _=>?_) (Oo _ _ _ _);rw[y k];exact λah _=>Bi.2 (.inl rfl)
 .rw[h2]at z;cases z
theorem MW(h:Wn M):ovE (Bl M)=false/\Le M (BT (Bl M))/\Le (BT (Bl M)) M:=by
 have E:B_ (Bl M):=FO (by
  intro l e;cases e
  exact⟨BJ _,λf m=>by rw[CP _ m];exact Jw h m⟩)
 have up:Le M (BT (Bl M)):=h.tc.below_sharp (I2 h.tc E (λf m=>by rw[CP _ m];exact bN _)) (Jd E);refine⟨II (λi hi=>?_),up,λa W=>cd (Cs _ a) ?_⟩
 .have z:=up (i*8+opp i) (by have:=Ah hi;omega);rw[h.tc.zero i hi]at z;exact z
 .have e:a=a/8*8+a%8:=by omega
  have hi:a/8<8:=by omega
  have B:a%8<8:=by omega
  rw[e];generalize a/8=i at hi;generalize a%8=j at B;by_cases e1:j=opp i
  .rw[e1,Gs (Bl M) i hi,h.tc.zero i hi];exact bN _
  .rw[Hp (Bl M) hi B e1];by_cases e2:i=j
   .subst e2;rw[Gv];have b:=J0 (Bl M) hi;have hb:(Bl M).getD i 0=bd M i:=CP M (by omega);have d:=Gr h hi;have e3:bd M i=mo M i i:=by
     obtain⟨q1,S⟩:=Eo i hi;unfold bd mo;rw[q1,S]
    have al:=h.all (k:=i*8+i) (by omega);have aa:(Bl M).getD i 0≠NB:=by rw[hb,e3];unfold NB;omega
    rw[b.2 aa,hb,e3];omega
   .rw[NS (Bl M) hi B e2 e1,CP M (DN i hi j B e1).1,IC h.tc.sym hi B e2 e1];exact bN _
theorem S2(C:Bt F L)(x:∀k,k<F.length->DQ (F.getD k (AC 0 0)))(hl:F.length<=20):∀r,Ad F (AA (D3 F)) r->r=(0,0):=by
 intro r h;refine h.one ?_;have G:VJ F L (B3 F):=S9 C x _ (Vl C);have af:=TD x hl;have E:=IV x;unfold Ad;rw[QP x hl];show(if(CM F).length≠F.length+1 then((0:Int),(0:Int))=(4,0)else _);rw[a_ (by rw[FD];omega)];have H:∀k:Nat,k<F.length+1->BG (CM F) (k:Int)=JL (at_ (B3 F) k):=λk hk=>by
  unfold BG;rw[a_ (by omega),bK];have Z:k<(B3 F).1.length:=by rw[G.len];exact hk
  unfold CM;simp[List.getD,Z]
 have to:∀{e:Bool}{A:Nat->Int}{k:Nat},k<F.length+1->DY e (at_ (B3 F) k).e A (at_ (B3 F) k).M=true->DY e (cE (BG (CM F) (k:Int))) A (cM (BG (CM F) (k:Int)))=true:=λ{e A k} hk R=>by
  rw[H k hk];rcases Bi.1 R with q|⟨q1,S,q3⟩
  .exact Bi.2 (.inl q)
  .rcases G.good k with⟨g,w⟩|⟨g,_⟩
   .have hs:=MW w;have e1:JL (at_ (B3 F) k)=some (Bl (at_ (B3 F) k).M):=by unfold JL;rw[a_ (by rw[g];decide)]
    rw[e1];exact Bi.2 (.inr ⟨q1,hs.1,q3.trans hs.2.1⟩)
   .rw[g]at S;cases S
 have U:DY false (cE (BG (CM F) 0)) (λ_=>0) (cM (BG (CM F) 0))=true:=to (k:=0) (by omega) G.or_;rw[U,a_ (by decide)];refine .inl ⟨λk hk=>?_,rfl⟩;have hx:=x k hk;have X:=G.wy k hk (G.no af k hk);have I:=(L_ C x (G.good k) hk (G.ab k)).1;unfold EK;have Q:=H k (by omega);rcases G.good k with⟨g,w⟩|⟨g,_⟩
 .have hs:=MW w;have e1:JL (at_ (B3 F) k)=some (Bl (at_ (B3 F) k).M):=by unfold JL;rw[a_ (by rw[g];decide)]
  have T:cE (BG (CM F) (k:Int))=false:=by rw[Q,e1];exact hs.1
  have eM:cM (BG (CM F) (k:Int))=BT (Bl (at_ (B3 F) k).M):=by rw[Q,e1];rfl
  have hT:TQ (cM (BG (CM F) (k:Int))):=Su (Ek E _) T
  have V:Wn (cM (BG (CM F) (k:Int))):=⟨hT.tc,λi hi=>by
   rw[eM]
   exact cd (hs.2.2 (i*8+i) (by omega)) (w.box i hi)⟩
  have D:Le (cM (BG (CM F) (k:Int))) (at_ (B3 F) k).M:=by rw[eM];exact hs.2.2
  rw[g]at I;have ae:DF (cE (BG (CM F) (k:Int))) (cM (BG (CM F) (k:Int))) (F.getD k (AC 0 0))=true:=by rw[T];exact Jn D w.tc.hi hx I
  rw[ae,a_ (by decide),bA];have all:∀n,n<=(Ae (F.getD k (AC 0 0)).kind).toNat->ET (D0 F (CM F) k) n=true:=by
   intro n;induction n with
   |zero=>intro _;rfl
   |succ n ih=>
    intro hn;show(ET (D0 F (CM F) k) n&&D0 F (CM F) k n)=true;rw[ih (by omega),Bool.true_and];have hz:=Du (F:=F) k n (Fv F k hk n (by omega));obtain⟨q,hq⟩:∃q:Nat,(Ap F k n).1=(q:Int):=⟨_,(Int.toNat_of_nonneg hz.1).symm⟩
    have hc:=X n (by omega);rw[hq,bK,g]at hc;unfold D0;rw[hq,T];refine to (by omega) ?_;cases ad:CA false (cM (BG (CM F) (k:Int))) (F.getD k (AC 0 0)) n with
    |true=>exact Bi.2 (.inl rfl)
    |false=>
     obtain⟨a,b⟩:=Md V w.tq D hx n ad;rw[a]at hc;obtain⟨_,c2,c3⟩:=(Bi.1 hc).resolve_left (by decide);exact Bi.2 (.inr ⟨rfl,c2,b.trans c3⟩)
  exact all _ (bB _)
 .have e1:JL (at_ (B3 F) k)=none:=by unfold JL;rw[bA g]
  rw[Q,e1];have e2:DF (cE none) (cM none) (F.getD k (AC 0 0))=true:=rfl;rw[e2,a_ (by decide),bA];have all:∀n,ET (D0 F (CM F) k) n=true:=by
   intro n;induction n with
   |zero=>rfl
   |succ n ih=>
    show(ET (D0 F (CM F) k) n&&D0 F (CM F) k n)=true;rw[ih,Bool.true_and];unfold D0;rw[Q,e1];exact Bi.2 (.inl rfl)
  exact all _
variable {w:World}{s:ByteArray}
theorem Td(b:List Int)(k i:Nat)(L:List (Option (List Int))):Ob b (k+1) i L=match SJ b i with|none=>none|some y=>Ob b k y.1 (L++[y.2]):=rfl
theorem TU(b:List Int)(k i:Nat)(o:List Int):MT b (k+1) i o=if i+3<=b.length/\b.getD i 0<32 then MT b k (i+3) (o.set (b.getD i 0).toNat (256*b.getD (i+1) 0+b.getD (i+2) 0-4000))else none:=rfl
theorem Uo(a b:ByteArray):(a.toList==b.toList)=true↔a=b:=by
 rw[ByteArray.toList_eq,ByteArray.toList_eq];obtain⟨⟨x⟩⟩:=a;obtain⟨⟨y⟩⟩:=b;simp
theorem YP{a b:ByteArray}(h:a≠b):(a.toList==b.toList)=false:=by
 cases e:(a.toList==b.toList)with
 |false=>rfl
 |true=>exact absurd ((Uo a b).1 e) h
theorem XF{w:World}{base:Nat}:PV w base (.slice none 0 0) none:=rfl
theorem OG(hs:s.size<=9223372036854775807)(h0:0<s.size)(h1:1<=(AA s).getD 0 0)(aE:(AA s).getD 0 0<=21):Calls prog 26 #[.string s] w (VM w s):=by
 rw[JX s 0 h0]at h1 aE;obtain⟨n,hn⟩:∃n:Nat,((s[0]).toNat:Int)=(n:Int):=⟨_,rfl⟩
 obtain⟨b,hb⟩:∃b,b=AA s:=⟨_,rfl⟩
 have HE:Hid (Nx b=Ob b n 1 []):=by
  show _=_;rw[hb];unfold Nx;rw[AR,JX s 0 h0,hn,a_ (by omega),bK]
 have HD:Hid (GD s=match Nx b with|none=>none|some L=>if(DH L).2=0/\strOfNums (DH L).1=s then some L else none):=by rw[hb];rfl
 have H:Hid (∀k (h:k<s.size),b.getD k 0=((s[k]).toNat:Int)):=by rw[hb];exact JX s
 have K:Hid (b.length=s.size):=by rw[hb];exact AR s
 rw[hn]at h1 aE;have bv:wrap64 (n:Int)=(n:Int):=by unfold wrap64;omega
 have z0:¬(s.size:Int)<1:=by omega
 have z1:¬(n:Int)<1:=by omega
 have z2:¬(21:Int)<(n:Int):=by omega
 have a6:∀w,(Instr.makeSlice 32 (.int .i64 32) (.int .i64 32)).run prog w=.ok (.slice (some ⟨w.heap.size,0,none⟩) 32 32) (w.alloc (.cells (ic (List.replicate 32 0)) 3)):=λ_=>by kernel_rfl
 obtain⟨i0,aM,aR,aS,aT⟩:=c_ (P:=prog) (e:=32) (z:=.slice none 0 0) (size:=1) (bytes:=24) (by kernel_rfl);obtain⟨zl,aq⟩:∃zl,zl=List.replicate 32 (0:Int):=⟨_,rfl⟩
 have aU:Hid (zl.length=32):=by show _=_;rw[aq];simp
 rw[<-aq]at a6;clear hb aq;go_enter func26,ntmps26;go_wp2_with fail;go_loopw [4,5,6] (λsl at_ i wr=>∃(q a:Nat)(O:Option Addr)(cap:Nat)(X:List Value)(L:List (Option (List Int))),q<=n/\i=.int .i64 q/\at_=.int .i64 (a:Int)/\a<=1+800*q/\sl=.slice O q cap/\Hid (L.length=q/\L9 wr w.heap.size (.slice O q cap) X L/\dc w wr/\Ob b (n-q) a L=Ob b n 1 [])) (λ_ _ i _=>n-(intOf i).toNat);case atStart=>exact⟨0,1,none,0,[],[],by omega,rfl,rfl,by omega,rfl,rfl,⟨World.ownsRow_nil _ _ _ _,λi hi=>absurd hi (by simp),λi k hi=>absurd hi (by simp)⟩,bC _ _,rfl⟩
 case round=>
  obtain⟨q,a,O,cap,X,L,hq,rfl,rfl,ha,rfl,C⟩:=hrel;by_cases bt:q<n
  .have bu:(q:Int)<(n:Int):=by omega
   have ad:Hid (Ob b n 1 []=match SJ b a with|none=>none|some y=>Ob b (n-(q+1)) y.1 (L++[y.2])):=by
    show _=_;rw[<-C.out.2.2.2,show n-q=(n-(q+1))+1 by omega,Td]
   have aB:Hid (SJ b a=none->GD s=none):=by
    intro h;rw[HD.out,HE.out,ad.out,h]
   by_cases hz:a<s.size/\b.getD a 0=0
   .obtain⟨B,ap⟩:=hz;have ae:(a:Int)<(s.size:Int):=by omega
    have ag:((s[a]'B).toNat:Int)=0:=by rw[<-H.out a B];exact ap
    have bi:(s[a]'B).toNat=0:=by omega
    have D:Hid (Ob b (n-(q+1)) (a+1) (L++[none])=Ob b n 1 []):=by
     show _=_;rw[ad.out];unfold SJ;rw[bA ⟨by rw[K.out];exact B,ap⟩]
    clear ag ap;have HN:Hid (wr.heap.size+0=wr.heap.size/\L.length=q):=⟨rfl,C.out.1⟩
    go_wp2_with (at_builtin;refine E0 rfl (.tmp 43) (.tmp 44) 54 rfl w.heap.size 32 i0 _ 1 24 underlying54 aM aR aS aT rfl (by decide) (.slice O q cap) q X rfl (by have h:=C.out.2.1;have h2:=h.row;rw[HN.out.2]at h2;exact h2.alloc _) ⟨wr.heap.size,0,none⟩ 1 1 [(Value.slice none 0 0)] rfl rfl (by intro t u ht;match t,ht with|0,ht=>simp at ht;subst ht;exact bL _ _ _ _ rfl) (by intro u hu;simp at hu;subst hu;rfl) (by unfold maxLen;omega) (by omega) (by have:=(C.out.2.2.1).size;simp;omega) ?_;intro v5 w5 p d V);have T:Hid (L9 w5 w.heap.size v5 (X++[(Value.slice none 0 0)]) (L++[none])):=by
     refine L9.snoc (w:=wr.alloc (.cells #[(Value.slice none 0 0)] 32)) (v:=.slice O q cap) ?_ ?_ ?_ ?_ d V
     .exact(C.out.2.1).keep ((bC _ _).alloc (bB _) _) (bB _)
     .exact XF
     .intro k hk;first|(cases hk;done)|exact ar.out k hk
     .rw[HN.out.2];exact p
    have R:Hid (dc w w5):=((C.out.2.2.1).alloc (C.out.2.2.1).size _).grown d (by have:=(C.out.2.2.1).size;simp;omega) (λk hk=>((C.out.2.1).row.lt k (by exact hk)).1);obtain⟨G,r,W⟩:∃G r,v5=.slice G (q+1) r:=by
     rcases p.2 with⟨e,e2⟩|⟨g,cap,cur,e,_⟩
     .omega
     .exact⟨_,_,e⟩
    subst W;have H5:Hid (L9 w5 w.heap.size (.slice G (q+1) r) (X++[(Value.slice none 0 0)]) (L++[none])/\dc w w5):=⟨T.out,R.out⟩
    clear p d V T R;go_roundw;case rel=>exact⟨q+1,a+1,G,r,X++[Value.slice none 0 0],L++[none],by omega,by go_num,by go_num,by omega,rfl,by simp[C.out.1],H5.out.1,H5.out.2,D.out⟩
    case measure=>simp[intOf];omega
   .have az:Hid (SJ b a=if b.length<a+2 then none else match MT b (b.getD (a+1) 0).toNat (a+2) De with|none=>none|some y=>some (y.1,some y.2)):=by
     show _=_;unfold SJ;rw[a_ (by rw[K.out];exact hz)];rfl
    by_cases am:s.size<a+2
    .have D:Hid (GD s=none):=aB.out (by rw[az.out,bA (by rw[K.out];exact am)]);have a9:(s.size:Int)<(a:Int)+2:=by omega
     by_cases B:a<s.size
     .have ae:(a:Int)<(s.size:Int):=by omega
      have ag:¬((s[a]'B).toNat=0):=λe=>hz ⟨B,by rw[H.out a B,e];rfl⟩;clear hz;go_wp2_with fail
      go_ret2
      exact⟨C.out.2.2.1,.inl ⟨D.out,rfl⟩⟩
     .have ae:¬(a:Int)<(s.size:Int):=by omega
      clear hz;go_wp2_with fail
      go_ret2
      exact⟨C.out.2.2.1,.inl ⟨D.out,rfl⟩⟩
    .have B:a<s.size:=by omega
     have aJ:a+1<s.size:=by omega
     have ae:(a:Int)<(s.size:Int):=by omega
     have aI:(a:Int)+1<(s.size:Int):=by omega
     have a9:¬(s.size:Int)<(a:Int)+2:=by omega
     have ag:¬((s[a]'B).toNat=0):=λe=>hz ⟨B,by rw[H.out a B,e];rfl⟩;obtain⟨a1,aF⟩:∃a1,a1=a+1:=⟨_,rfl⟩
     have bq:(a:Int)+1=(a1:Int):=by omega
     have U:a1<s.size:=by omega
     have bh:(a1:Int)<(s.size:Int):=by omega
     obtain⟨m,hm⟩:∃m:Nat,(((s[a1]'U).toNat:Nat):Int)=(m:Int):=⟨_,rfl⟩
     have a2:m<=255:=by have:=(s[a1]'U).toNat_lt;omega
     have ay:Hid (SJ b a=match MT b m (a+2) De with|none=>none|some y=>some (y.1,some y.2)):=by
      show _=_;rw[az.out,a_ (by rw[K.out];exact am),<-aF,H.out a1 U,hm,bK]
     have aA:Hid (L9 wr w.heap.size (.slice O q cap) X L):=C.out.2.1;have ab:Hid (dc w wr):=C.out.2.2.1;have aa:=C.out.2.2.1.size;clear hz am aF aI aJ;go_wp2_with fail;obtain⟨wm,Y⟩:∃wm,wm=wr.alloc (.cells (ic zl) 3):=⟨_,rfl⟩
     have HM:Hid (At wm wr.heap.size (ic zl) 3/\dc wr wm):=by show _/\_;rw[Y];exact⟨At.new _ _ _,(bC _ _).alloc (bB _) _⟩
     rw[<-Y];clear Y;obtain⟨F,rfl⟩:∃F,F=wr:=⟨_,rfl⟩
     go_loopw [8] (λi Q=>∃(f:Nat)(l:List Int),f<=32/\i=.int .i64 f/\Hid (l.length=32/\At Q F.heap.size (ic l) 3/\(∀j,j<f->l.getD j 0=1000000)/\dc F Q)) (λi _=>32-(intOf i).toNat);case atStart=>exact⟨0,zl,by omega,rfl,aU.out,HM.out.1,λj hj=>absurd hj (by omega),HM.out.2⟩
     case round=>
      obtain⟨f,l,hf,rfl,I⟩:=hrel;have aQ:=I.out.2.1.lt;by_cases ah:f<32
      .have br:(f:Int)<32:=by omega
       obtain⟨x0,bc⟩:∃x,wr.cell? ⟨F.heap.size,f,none⟩=some x:=⟨_,by rw[I.out.2.1.cell];exact Aa l f (by rw[I.out.1];exact ah)⟩
       have aZ:=I.out.2.1.free f;go_wp2_with fail;go_roundw;case rel=>
        refine⟨f+1,l.set f 1000000,by omega,by go_num,by simp[I.out.1],?_,?_,I.out.2.2.2.setCell (bB _) _⟩
        .rw[<-Be];exact I.out.2.1.put f _
        .intro j hj;by_cases e:j=f
         .subst e;simp[List.getD,I.out.1,ah]
         .have:=I.out.2.2.1 j (by omega);simpa[List.getD,cH,Ne.symm e]using this
       case measure=>simp[intOf];omega
      .have aL:f=32:=by omega
       subst aL;obtain⟨wf,an⟩:∃wf,wf=wr:=⟨_,rfl⟩
       have HO:Hid (l=De):=by
        show _=_;apply List.ext_getElem
        .rw[I.out.1];rfl
        .intro j h1 h2;have:=I.out.2.2.1 j (by rw[I.out.1]at h1;exact h1);simp[List.getD,h1]at this;rw[this];exact(List.getElem_replicate _).symm
       have aD:Hid (At wf F.heap.size (ic De) 3/\dc F wf):=by show _/\_;rw[an,<-HO.out];exact⟨I.out.2.1,I.out.2.2.2⟩
       rw[<-an];clear an I HO ah;go_wp2_with fail;clear hm;go_loopw [5,10] (λat_ i w3=>∃(k A:Nat)(l:List Int),k<=m/\i=.int .i64 k/\at_=.int .i64 (A:Int)/\A<=a+2+3*k/\Hid (l.length=32/\At w3 F.heap.size (ic l) 3/\dc F w3/\MT b (m-k) A l=MT b m (a+2) De)) (λ_ i _=>m-(intOf i).toNat);case atStart=>exact⟨0,a+2,De,by omega,rfl,by go_num,by omega,by rfl,aD.out.1,aD.out.2,rfl⟩
       case round=>
        obtain⟨k,A,l,hk,rfl,rfl,bn,J⟩:=hrel;have aQ:=J.out.2.1.lt;by_cases a0:k<m
        .have bs:(k:Int)<(m:Int):=by omega
         have ax:Hid (MT b m (a+2) De=if A+3<=b.length/\b.getD A 0<32 then MT b (m-(k+1)) (A+3) (l.set (b.getD A 0).toNat (256*b.getD (A+1) 0+b.getD (A+2) 0-4000))else none):=by
          show _=_;rw[<-J.out.2.2.2,show m-k=(m-(k+1))+1 by omega,TU]
         have au:Hid (MT b m (a+2) De=none->GD s=none):=λh=>aB.out (by rw[ay.out,h]);by_cases aP:A+3<=s.size
         .have ai:A<s.size:=by omega
          obtain⟨a4,aG⟩:∃a4,a4=A+1:=⟨_,rfl⟩
          obtain⟨a5,aH⟩:∃a5,a5=A+2:=⟨_,rfl⟩
          have bo:(A:Int)+1=(a4:Int):=by omega
          have bp:(A:Int)+2=(a5:Int):=by omega
          have aj:a4<s.size:=by omega
          have ak:a5<s.size:=by omega
          have bj:(A:Int)<(s.size:Int):=by omega
          have bk:(a4:Int)<(s.size:Int):=by omega
          have bl:(a5:Int)<(s.size:Int):=by omega
          have aN:¬(s.size:Int)<(A:Int)+3:=by omega
          have t0:=(s[A]'ai).toNat_lt;have t1:=(s[a4]'aj).toNat_lt;have t2:=(s[a5]'ak).toNat_lt;obtain⟨N,bd⟩:∃y:Nat,(((s[A]'ai).toNat:Nat):Int)=(y:Int):=⟨_,rfl⟩
          obtain⟨y1,be⟩:∃y:Nat,(((s[a4]'aj).toNat:Nat):Int)=(y:Int):=⟨_,rfl⟩
          obtain⟨y2,bf⟩:∃y:Nat,(((s[a5]'ak).toNat:Nat):Int)=(y:Int):=⟨_,rfl⟩
          have u0:N<=255:=by omega
          have u1:y1<=255:=by omega
          have u2:y2<=255:=by omega
          have aw:Hid (MT b m (a+2) De=if N<32 then MT b (m-(k+1)) (A+3) (l.set N (256*y1+y2-4000))else none):=by
           show _=_;rw[ax.out,K.out,<-aG,<-aH,H.out A ai,H.out a4 aj,H.out a5 ak,bd,be,bf,bK];by_cases q:N<32
           .rw[bA q,bA ⟨aP,by omega⟩]
           .rw[a_ q,a_ (by omega)]
          clear t0 t1 t2 aG aH;by_cases hy:N<32
          .have bg:(N:Int)<32:=by omega
           have D:Hid (MT b (m-(k+1)) (A+3) (l.set N (256*y1+y2-4000))=MT b m (a+2) De):=by show _=_;rw[aw.out,bA hy]
           obtain⟨x0,bc⟩:∃x,wr.cell? ⟨F.heap.size,N,none⟩=some x:=⟨_,by rw[J.out.2.1.cell];exact Aa l N (by rw[J.out.1];exact hy)⟩
           have aZ:=J.out.2.1.free N;go_wp2_with fail;go_region;all_goals
            go_wp2_with fail;refine⟨?_,?measure⟩
            (repeat apply Exists.intro)
            refine⟨?rel,rfl⟩;case rel=>
             refine⟨k+1,A+3,l.set N (256*y1+y2-4000),by omega,by go_num,by go_num,by omega,by simp[J.out.1],?_,?_,D.out⟩
             .rw[<-Be];exact At.drewN (J.out.2.1.put N _) 1
             .exact bD (J.out.2.2.1.setCell (bB _) _) 1
            case measure=>simp[intOf];omega
          .have bg:(32:Int)<=(N:Int):=by omega
           have D:Hid (GD s=none):=au.out (by rw[aw.out,a_ hy]);go_wp2_with fail
           go_ret2
           exact⟨ab.out.trans (J.out.2.2.1.mono aa),.inl ⟨D.out,rfl⟩⟩
         .have aN:(s.size:Int)<(A:Int)+3:=by omega
          have D:Hid (GD s=none):=au.out (by rw[ax.out,K.out,a_ (λh=>aP h.1)]);go_wp2_with fail
          go_ret2
          exact⟨ab.out.trans (J.out.2.2.1.mono aa),.inl ⟨D.out,rfl⟩⟩
        .have aO:k=m:=by omega
         subst aO;have D:Hid (Ob b (n-(q+1)) A (L++[some l])=Ob b n 1 []):=by
          show _=_;have h0:=J.out.2.2.2;rw[show k-k=0 by omega]at h0;have h1:MT b k (a+2) De=some (A,l):=h0.symm;rw[ad.out,ay.out,h1]
         obtain⟨Q,rfl⟩:∃Q,Q=wr:=⟨_,rfl⟩
         have ac:Hid (L9 Q w.heap.size (.slice O q cap) X L):=aA.out.keep J.out.2.2.1 (bB _);have Z:Hid (dc w Q):=ab.out.trans (J.out.2.2.1.mono aa);have aC:Hid (PV Q w.heap.size (.slice (some ⟨F.heap.size,0,none⟩) 32 32) (some l)):=⟨F.heap.size,aa,rfl,J.out.2.1,J.out.1⟩
         have ar:Hid (∀k,(Value.slice (some ⟨F.heap.size,0,none⟩) 32 32).ownBlock=some k->(Value.slice O q cap).ownBlock≠some k):=by
          intro k hk e;have h1:=(aA.out.row.lt k e).2;have h2:F.heap.size=k:=bV hk;omega
         clear aQ a0;have HN:Hid (Q.heap.size+0=Q.heap.size/\L.length=q):=⟨rfl,C.out.1⟩
         go_wp2_with (at_builtin;refine E0 rfl (.tmp 104) (.tmp 106) 54 rfl w.heap.size 32 i0 _ 1 24 underlying54 aM aR aS aT rfl (by decide) (.slice O q cap) q X rfl (by have h:=ac.out;have h2:=h.row;rw[HN.out.2]at h2;exact h2.alloc _) ⟨Q.heap.size,0,none⟩ 1 1 [(Value.slice (some ⟨F.heap.size,0,none⟩) 32 32)] rfl rfl (by intro t u ht;match t,ht with|0,ht=>simp at ht;subst ht;exact bL _ _ _ _ rfl) (by intro u hu;simp at hu;subst hu;rfl) (by unfold maxLen;omega) (by omega) (by have:=(Z.out).size;simp;omega) ?_;intro v5 w5 p d V);have T:Hid (L9 w5 w.heap.size v5 (X++[(Value.slice (some ⟨F.heap.size,0,none⟩) 32 32)]) (L++[(some l)])):=by
          refine L9.snoc (w:=Q.alloc (.cells #[(Value.slice (some ⟨F.heap.size,0,none⟩) 32 32)] 32)) (v:=.slice O q cap) ?_ ?_ ?_ ?_ d V
          .exact(ac.out).keep ((bC _ _).alloc (bB _) _) (bB _)
          .exact(aC.out.same (λk hk=>heap_alloc_old _ _ (aC.out.lt k hk).2))
          .intro k hk;first|(cases hk;done)|exact ar.out k hk
          .rw[HN.out.2];exact p
         have R:Hid (dc w w5):=((Z.out).alloc (Z.out).size _).grown d (by have:=(Z.out).size;simp;omega) (λk hk=>((ac.out).row.lt k (by exact hk)).1);obtain⟨G,r,W⟩:∃G r,v5=.slice G (q+1) r:=by
          rcases p.2 with⟨e,e2⟩|⟨g,cap,cur,e,_⟩
          .omega
          .exact⟨_,_,e⟩
         subst W;have H5:Hid (L9 w5 w.heap.size (.slice G (q+1) r) (X++[(Value.slice (some ⟨F.heap.size,0,none⟩) 32 32)]) (L++[(some l)])/\dc w w5):=⟨T.out,R.out⟩
         clear p d V T R;go_roundw;case rel=>exact⟨q+1,A,G,r,X++[Value.slice (some ⟨F.heap.size,0,none⟩) 32 32],L++[some l],by omega,by go_num,rfl,by omega,rfl,by simp[C.out.1],H5.out.1,H5.out.2,D.out⟩
         case measure=>simp[intOf];omega
  .have a8:q=n:=by omega
   subst a8;have D:Hid (GD s=if(DH L).2=0/\strOfNums (DH L).1=s then some L else none):=by
    show _=_;have h0:=C.out.2.2.2;rw[show q-q=0 by omega]at h0;have h1:Ob b q 1 []=some L:=h0.symm;rw[HD.out,HE.out,h1]
   obtain⟨al,aX⟩:=C.out.2.1.reads (by rw[C.out.1];omega);have aV:Hid (∀i l,L.getD i none=some l->l.length<=1073741824):=by
    intro i l hl;rcases bW i L.length with c|c
    .have:=C.out.2.1.each i c;rw[hl]at this;obtain⟨_,_,_,_,h5⟩:=this;omega
    .rw[bG,bO c]at hl;cases hl
   have M:=T_ (w:=wr) (.slice O q cap) L (by rw[C.out.1];unfold maxLen;omega) aV.out al;obtain⟨wz,bb⟩:∃wz,wz=wr:=⟨_,rfl⟩
   have av:Hid (dc w wr):=C.out.2.2.1;have aW:Hid (CX wr (.slice O q cap) L):=al;obtain⟨a7,n7,c7,ba⟩:=aX;injection ba with e1 e2 e3
   subst e1;clear al e2 e3 bb;unfold VI at M;obtain⟨E,hE⟩:∃E,E=DH L:=⟨_,rfl⟩
   rw[<-hE]at M D;clear hE;obtain⟨xs,er⟩:=E;simp only at M D;obtain⟨S,hS⟩:∃S,S=strOfNums xs:=⟨_,rfl⟩
   rw[<-hS]at M D;clear hS;go_wp2_with fail;refine M.mono ?_;rintro e w3 ⟨rfl,af⟩;have H3:Hid (dc w w3/\CX w3 (.slice (some a7) q cap) L):=⟨av.out.trans (af.mono av.out.size),aW.out.keep af⟩
   clear af M;by_cases h4:er=0
   .subst h4;by_cases h5:S=s
    .have aY:(S.toList==s.toList)=true:=(Uo S s).2 h5;have HY:Hid (GD s=some L):=by show _=_;rw[D.out,bA ⟨rfl,h5⟩]
     clear h5 D;go_wp2_with fail
     go_ret2
     exact⟨H3.out.1,.inr ⟨L,_,HY.out,rfl,H3.out.2,_,_,_,rfl⟩⟩
    .have aY:(S.toList==s.toList)=false:=YP h5;have HY:Hid (GD s=none):=by show _=_;rw[D.out,a_ (λz=>h5 z.2)]
     clear h5 D;go_wp2_with fail
     go_ret2
     exact⟨H3.out.1,.inl ⟨HY.out,rfl⟩⟩
   .have bm:(er != 0)=true:=by rw[cI];exact h4
    have HY:Hid (GD s=none):=by show _=_;rw[D.out,a_ (λz=>h4 z.1)]
    clear h4 D;go_wp2_with fail
    go_ret2
    exact⟨H3.out.1,.inl ⟨HY.out,rfl⟩⟩
theorem OF(hs:s.size<=9223372036854775807):Calls prog 26 #[.string s] w (VM w s):=by
 by_cases aK:s.size<1\/(AA s).getD 0 0<1\/21<(AA s).getD 0 0
 .exact Mi hs aK
 .exact OG hs (by omega) (by omega) (by omega)
variable {C:Nat->Int}
theorem Xq{R:Nat->Int}(hR:∀f,f<32->R f<=NB):∀n R',EO R n=some R'->∀f,f<32->R' f<=R f:=by
 intro n;induction n with
 |zero=>intro R' h f _;cases h;exact bN _
 |succ n ih=>
  intro R' h f d;obtain⟨R1,b,e,e2⟩:=Dq h;exact cd ((EW (Fp hR n R1 e) 1024 (bB _) _ b e2).le f d) (ih R1 e f d)
theorem F2(h:TC C)(hs:Sm C)(u:Value)(hu:AQ w u (Bl C)):Calls prog 59 #[u] w (BF w false C):=by
 obtain⟨J,L⟩:∃J:Nat->Int,J=λf=>(Bl C).getD f 0:=⟨_,rfl⟩
 have Z:∀f,f<32->J f=bd C f:=λf d=>by rw[L];exact CP C d
 have F:Ab C J:=λf d=>by rw[Z f d];exact bN _
 have K:∀f,f<32->J f<=NB:=λf d=>by rw[Z f d];exact h.bd_hi d
 have j:=KU u (Bl C) (BJ C) hu;rw[<-L]at j;refine(j (λn R e=>?_)).mono ?_
 .obtain⟨R1,e1,V,i1⟩:=I0 h K F n;have:R1=R:=bV (e1.symm.trans e);subst this;intro k hk R' b e2 f d;obtain⟨U,X,Q,W,i2⟩:=KR h V i1 k hk;have Y:(R',b)=(U,X):=bV (e2.symm.trans Q);cases Y
  have x:=W f d;have y:=i2 f d;have z:=Jv hs d;unfold NB at y;omega
 .rintro e w' ⟨hb,⟨rfl,n,hn⟩|⟨g,n,R,R',rfl,hg,E,h1,h2⟩⟩
  .obtain⟨R1,e1,_⟩:=I0 h K F n;rw[hn]at e1;cases e1
  .refine⟨hb,.inr ⟨rfl,g,rfl,hg,?_⟩⟩;obtain⟨R1,e1,V,i1⟩:=I0 h K F n;have:R1=R:=bV (e1.symm.trans h1);subst this;obtain⟨U,X,Q,W,i2⟩:=KR h V i1 1024 (bB _);have Y:(R',false)=(U,X):=bV (h2.symm.trans Q);cases Y
   have e5:∀f,f<32->R' f=bd C f:=λf d=>by
    have x:=W f d;have y:=(EW (Fp K n R1 h1) 1024 (bB _) _ _ Q).le f d;have z:=Xq K n R1 h1 f d;have:=Z f d;omega
   rw[<-It e5];exact E
def LV(w:World)(e:Bool)(M:Nat->Int)(u:Value):Prop:=(e=true/\u=.slice none 0 0)\/(e=false/\∃g,u=.slice (some ⟨g,0,none⟩) 32 32/\At w g (ic (Bl M)) Gc)
theorem LV.keep{w w':World}{e:Bool}{M:Nat->Int}{u:Value}(h:LV w e M u)(hb:dc w w'):LV w' e M u:=by
 rcases h with h|⟨h1,g,h2,h3⟩
 .exact .inl h
 .exact .inr ⟨h1,g,h2,h3.keep hb h3.lt⟩
theorem Pd{e0:Bool}{M:Nat->Int}(u v:Value)(r:Option (List Int))(I:e0=false->TC M/\Sm M)(hr:F_ r)(hu:LV w e0 M u)(t:Kt w v r):
  Calls prog 65 #[u,v] w λe w'=>e=.returned (.bool (DY e0 (cE r) M (cM r)))/\dc w w':=by
 have ac:∀(w:World)(a:Option Addr)(n c:Nat),(binOp .eql 32 (.slice a n c) (.slice none 0 0)).run prog w=.ok (.bool a.isNone) w:=λw a n c=>cz w 32 tN a n c 0 0 underlying32;rw[KG (λh=>(I h).1) hr];rcases hu with⟨rfl,rfl⟩|⟨rfl,g0,rfl,G⟩
 .have q:Hid (TX true M r=true):=by cases r<;>rfl
  obtain⟨va,vn,vc,rfl⟩:∃a n c,v=.slice a n c:=by
   cases r with
   |none=>exact⟨_,_,_,t⟩
   |some l=>obtain⟨_,a,n,c,h⟩:=t;exact⟨_,_,_,h⟩
  clear I hr t;go_enter func65,ntmps65;go_wp2_with fail;go_ret;exact⟨EX q.out,bC _ _⟩
 .have j:=F2 (w:=w) (I rfl).1 (I rfl).2 (.slice (some ⟨g0,0,none⟩) 32 32) (AQ.at_ G (BJ M) (bB _) (λi hi=>Aa _ _ (by rw[BJ];exact hi)));cases r with
  |none=>
   obtain rfl:v=.slice none 0 0:=t;have q:Hid (TX false M none=false):=rfl;clear I hr G;go_enter func65,ntmps65;go_wp2_with fail;refine j.mono ?_;rintro e o ⟨m,⟨he, -⟩|⟨-,g,rfl,hg,E⟩⟩
   .cases he
   .have D:Hid (dc w o):=m;clear m j E;go_wp2_with fail;go_ret;exact⟨EX q.out,D.out⟩
  |some p=>
   have hp:=(FO hr).1;obtain⟨t,a,n,c,rfl⟩:=t;have HL:Hid (∀o g,dc w o->At o g (ic (Bl M)) Gc->Calls prog 99 #[.slice (some ⟨g,0,none⟩) 32 32,.slice (some a) n c] o λe w'=>e=.returned (.bool (leF (bd M) (λf=>p.getD f 0) 32))/\dc o w'):=by
    intro o g hb E;have h:=Mj (w:=o) (.slice (some ⟨g,0,none⟩) 32 32) (.slice (some a) n c) (Bl M) p (BJ M) hp (AQ.at_ E (BJ M) (bB _) (λi hi=>Aa _ _ (by rw[BJ];exact hi))) (t.keep hb);rw[Gt (A:=λf=>(Bl M).getD f 0) (A':=bd M) 32 (λf d=>Gh M f d)]at h;exact h
   have q:Hid (TX false M (some p)=leF (bd M) (λf=>p.getD f 0) 32):=Bool.false_or _;generalize leF (bd M) (λf=>p.getD f 0) 32=b at *;clear I hr G t hp;go_enter func65,ntmps65;go_wp2_with fail;refine j.mono ?_;rintro e o ⟨m,⟨he, -⟩|⟨-,g,rfl,hg,E⟩⟩
   .cases he
   .have ab:=HL.out o g m E;have D:Hid (dc w o):=m;clear m j E;go_wp2_with fail;refine ab.mono ?_;rintro e w2 ⟨rfl,aa⟩;go_wp2_with fail;go_ret;exact⟨EX q.out,D.out.trans (aa.mono D.out.size)⟩
theorem UD(v:Value)(r:Option (List Int))(hr:F_ r)(t:Kt w v r):
  Calls prog 63 #[v] w λe w'=>e=.returned (.bool (DY false (cE r) (λ_=>0) (cM r)))/\dc w w':=by
 have ac:∀(w:World)(a:Option Addr)(n c:Nat),(binOp .eql 32 (.slice a n c) (.slice none 0 0)).run prog w=.ok (.bool a.isNone) w:=λw a n c=>cz w 32 tN a n c 0 0 underlying32;rw[Kd hr];cases r with
 |none=>
  obtain rfl:v=.slice none 0 0:=t;have q:Hid (Uk none=false):=rfl;clear hr;go_enter func63,ntmps63;go_wp2_with fail;go_ret;exact⟨EX q.out,bC _ _⟩
 |some l=>
  have hl:=(FO hr).1;obtain⟨⟨ao,ca,e, -,h0⟩,a,n,c,rfl⟩:=t;obtain⟨p,off,rfl,hp,s⟩:=h0 (by omega);cases e
  rw[hl];have HC:Hid (∀i,i<32->w.cell? ⟨p,off+i,none⟩=some (.int .i64 (l.getD i 0))):=λi hi=>s i (by omega);have q:Hid (Uk (some l)=leF (λ_=>0) (λf=>l.getD f 0) 32):=rfl;obtain⟨A,F⟩:∃A:Nat->Int,A=λ_=>0:=⟨_,rfl⟩
  obtain⟨B,hB⟩:∃B:Nat->Int,B=λf=>l.getD f 0:=⟨_,rfl⟩
  have S:Hid (∀i,i<32->w.cell? ⟨p,off+i,none⟩=some (.int .i64 (B i))):=by rw[hB];exact HC.out
  have HA:Hid (∀i,A i=0):=by rw[F];exact λ_=>rfl
  rw[<-F,<-hB]at q;clear HC F hB s h0 hl hr;go_enter func63,ntmps63;go_wp2_with fail;go_loopw [3] (λi wr=>∃(f k:Nat),f<=32/\i=.int .i64 f/\Hid (wr=w.drewN k/\leF A B f=true)) (λi _=>32-(intOf i).toNat);case atStart=>exact⟨0,0,by omega,rfl,rfl,rfl⟩
  case round=>
   obtain⟨f,k,d,rfl,H⟩:=hrel;by_cases O:f<32
   .have ad:(f:Int)<32:=by omega
    have ca:wr.cell? ⟨p,off+f,none⟩=some (.int .i64 (B f)):=by rw[H.out.1];exact S.out f O
    have HN:Hid (B f<0->leF A B 32=false):=λh=>by
     cases e:leF A B 32 with
     |false=>rfl
     |true=>have:=DI.1 e f O;rw[HA.out]at this;omega
    have HY:Hid (¬B f<0->leF A B (f+1)=true):=λh=>by
     show(leF A B f&&decide (A f<=B f))=true;rw[H.out.2,HA.out,cC (by omega)];rfl
    generalize B f=y at *;by_cases P:y<0
    .have T:Hid (leF A B 32=false):=HN.out P;go_wp2_with fail;go_ret;exact⟨EX (q.out.trans T.out),by rw[H.out.1];exact bD (bC _ _) _⟩
    .have T:Hid (leF A B (f+1)=true):=HY.out P;go_wp2_with fail;go_roundw;case rel=>exact⟨f+1,k,by omega,by go_num,H.out.1,T.out⟩
     case measure=>simp[intOf];omega
   .have N:f=32:=by omega
    subst N;go_wp2_with fail;go_ret;exact⟨EX (q.out.trans H.out.2),by rw[H.out.1];exact bD (bC _ _) _⟩
end Go.Proofs.YtffajooegiempaaGreatDoor
