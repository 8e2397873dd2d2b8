import Derived.Test.YtffajooegiempaaGreatDoorJ29
set_option maxRecDepth 100000
set_option maxHeartbeats 6400000
namespace Go.Proofs.YtffajooegiempaaGreatDoor
variable {M N:Nat->Int}{F:List Ds}{L:List (Option (List Int))}
theorem Bi{e1 e2:Bool}:DY e1 e2 M N=true↔e1=true\/(e1=false/\e2=false/\Le M N):=by
 unfold DY;cases e1 with
 |true=>exact⟨λ_=>.inl rfl,λ_=>rfl⟩
 |false=>
  cases e2 with
  |true=>exact⟨(λh=>by cases h),(λh=>by rcases h with h|⟨_,h,_⟩<;>cases h)⟩
  |false=>
   show leF M N 64=true↔_;rw[DI]
   exact⟨λh=>.inr ⟨rfl,rfl,h⟩,λh=>by
    rcases h with h|⟨_,_,h⟩
    ·cases h
    ·exact h⟩
theorem Le.trans{A B C:Nat->Int}(h:Le A B)(k:Le B C):Le A C:=λa ha=>Int.le_trans (h a ha) (k a ha)
theorem Fg{e1 e2 e3:Bool}{A B C:Nat->Int}(h:DY e1 e2 A B=true)(k:DY e2 e3 B C=true):DY e1 e3 A C=true:=by
 rcases Bi.1 h with h|⟨h1,h2,h3⟩
 ·exact Bi.2 (.inl h)
 ·rcases Bi.1 k with k|⟨_,k2,k3⟩
  ·rw[h2]at k;cases k
  ·exact Bi.2 (.inr ⟨h1,k2,h3.trans k3⟩)
theorem G0(e:Bool)(A:Nat->Int):DY e e A A=true:=by
 cases e with
 |true=>rfl
 |false=>exact Bi.2 (.inr ⟨rfl,rfl,λ_ _=>Int.le_refl _⟩)
theorem Qo(h:Le M N)(hN:∀a,a<64->N a<=NB){i j:Nat}(hi:i<8)(hj:j<8):mo M i j<=mo N i j:=by
 have h1:=h (i*8+j) (by omega);have h2:=hN (i*8+j) (by omega);unfold mo;generalize M (i*8+j)=x at *;generalize N (i*8+j)=y at *;have tx:=ER x;have ty:=ER y;have hx:=Int.lt_or_le x 0;have hy:=Int.lt_or_le y 0;unfold NB at *;by_cases e:i=j
 ·by_cases qy:y=1000000
  ·rw[if_neg (show¬(i=j/\y≠1000000)from λz=>z.2 qy)];split
   ·rcases hx with c|c
    ·rw[tx.2 c];omega
    ·rw[tx.1 c];omega
   ·omega
  ·rw[if_pos (show i=j/\y≠1000000 from⟨e,qy⟩),if_pos (show i=j/\x≠1000000 from⟨e,by omega⟩)];rcases hx with c|c
   ·rw[tx.2 c];rcases hy with d|d
    ·rw[ty.2 d];omega
    ·rw[ty.1 d];omega
   ·rw[tx.1 c,ty.1 (by omega)];omega
 ·rw[if_neg (λz=>e z.1),if_neg (λz=>e z.1)];exact h1
theorem MS(h:Le M N)(hN:∀a,a<64->N a<=NB)(l:List Int):FC M l<=FC N l:=Qo h hN (Cx l 4 (Nat.le_refl _)).1 (Cx l 4 (Nat.le_refl _)).2
theorem Jn(h:Le M N)(hN:∀a,a<64->N a<=NB){x:Ds}(hx:DQ x)(hs:DF false N x=true):DF false M x=true:=by
 have n:=hx.g.num;have g1:=MS h hN x.sg;have g2:=MS h hN (Dv x.sg);unfold DF at *;rw[if_neg (by decide)]at *;by_cases k0:x.kind=0
 ·rw[if_pos k0]at *;cases ha:x.any with
  |true=>rfl
  |false=>
   rw[ha,Bool.false_or]at hs;rw[Bool.false_or];unfold ftB at *;obtain⟨a,b,c,d⟩:=of_decide_eq_true hs;unfold NB at *;exact decide_eq_true ⟨by omega,by omega,by omega,by omega⟩
 ·rw[if_neg k0]at *;by_cases k1:x.kind=1
  ·rw[if_pos k1,Bool.and_eq_true]at *;exact⟨hs.1,decide_eq_true (by have:=of_decide_eq_true hs.2;omega)⟩
  ·rw[if_neg k1]
theorem QF(hM:Wn M)(hN:TQ N)(h:Le M N){l:List Int}(hl:l.length=4)(hv:∀i, -1<=AK l i/\AK l i<=1)(h1:1<=nz l)(h2:nz l<=2){n:Int}(hn:n<=1000)(he:GJ false M l n=false):GJ false N l n=false/\Le (E5 false M l n) (E5 false N l n):=by
 have hC:=NL hM.tq hl hv h1 h2 hn he;obtain⟨f,hf,hnf,hgr,hs1,hs2⟩:=Ep hM.tc hl hv h1 h2;obtain⟨f',hf',hnf',hgr',hs1',hs2'⟩:=Ep hN.tc hl hv h1 h2;have hff:f'=f:=by omega
 subst hff;have gm:=MS h hN.tc.hi l;have hnb:n≠NB:=by unfold NB;omega
 have eM:lm M (CF l) (C4 l) n=sb M f' n:=by rw[hs1,hs2];rfl
 have eN:lm N (CF l) (C4 l) n=sb N f' n:=by rw[hs1,hs2];rfl
 obtain⟨n1,n2,n3,n4,n5,n6⟩:=FE f' hf;have a1:=D5 f' hf;have a2:=D7 f' hf;by_cases qN:Ko false N l n=true
 ·have qM:Ko false M l n=true:=by
   unfold Ko at *;have:=of_decide_eq_true qN;exact decide_eq_true (this.imp id (λz=>by omega))
  unfold GJ E5;rw[if_pos qN,if_pos qN,if_pos qM];exact⟨rfl,h⟩
 ·have up:Le (E5 false M l n) (sb N f' n):=by
   intro a ha;have e:a=a/8*8+a%8:=by omega
   have hi:a/8<8:=by omega
   have hj:a%8<8:=by omega
   by_cases qM:Ko false M l n=true
   ·have c0:bd M f'<=n:=by
     unfold Ko at qM;have:=of_decide_eq_true qM;rcases this with z|z
     ·cases z
     ·rw[hgr]at z;exact z
    have eA:E5 false M l n=M:=by unfold E5;rw[if_pos qM]
    rw[eA,e];generalize a/8=i at hi;generalize a%8=j at hj;rw[EZ N hf hnb hi hj];have hMN:=h (i*8+j) (by omega);split
    ·rename_i z;have val:M (fs f'*8+ss f')<=if f'<8 then 2*n else n:=by
      by_cases f8:f'<8
      ·obtain⟨q1,q2⟩:=Eo f' f8;have hb:bd M f'=mo M f' f':=by unfold bd mo;rw[q1,q2]
       have hd:=Gr hM f8;rw[if_pos f8,q1,q2];rw[hb]at c0;omega
      ·rw[if_neg f8];have hb:bd M f'=M (fs f'*8+ss f'):=by
        unfold bd;rw[if_neg (λz=>G7 f' hf (by omega) z.1)]
       omega
     rcases z with⟨z1,z2⟩|⟨z1,z2⟩
     ·rw[z1,z2];exact val
     ·rw[z1,z2,hM.tc.sym _ _ a2 a1];exact val
    ·exact hMN
   ·have eA:E5 false M l n=Aj (sb M f' n):=by unfold E5;rw[if_neg qM,eM]
    rw[eA];refine Int.le_trans (Cs _ a) ?_;rw[e];generalize a/8=i at hi;generalize a%8=j at hj;rw[EZ M hf hnb hi hj,EZ N hf hnb hi hj];split
    ·exact Int.le_refl _
    ·exact h _ (by omega)
  have up2:=hC.below_sharp up (W_ hN.tc hf hn);have eB:E5 false N l n=Aj (sb N f' n):=by unfold E5;rw[if_neg qN,eN]
  rw[eB];refine⟨?_,up2⟩;unfold GJ;rw[if_neg qN,eN]
  exact II (λi hi=>by
   have z:=up2 (i*8+opp i) (by have:=Ah hi;omega);rw[hC.zero i hi]at z
   exact z)
theorem Mc{a b c:Int}(h:a<=b)(hb:b<=NB)(hc: -2000<=c/\c<=2000)(ha:a<=1998):pl a c<=pl b c:=by
 unfold pl NB at *;split<;>split<;>omega
theorem Md(hM:Wn M)(hN:TQ N)(h:Le M N){x:Ds}(hx:DQ x)(way:Int)(he:CA false M x way=false):CA false N x way=false/\Le (CE false M x way) (CE false N x way):=by
 have n:=hx.g.num;have ht:=hx.tg;have hhi:=hN.tc.hi;have pE:∀A,CA false A x way=(if x.kind=0 then false else if x.any=true then false else if way=0 then GJ false A x.sg x.num else GJ false A (Dv x.sg) (-x.num-1)):=λA=>rfl;have pM:∀A,CE false A x way=(if x.kind=0 then JF A x else if x.any=true then A else if way=0 then E5 false A x.sg x.num else E5 false A (Dv x.sg) (-x.num-1)):=λA=>rfl;rw[pE]at he;rw[pE,pM,pM];by_cases k0:x.kind=0
 ·simp only[if_pos k0];refine⟨trivial,?_⟩;unfold JF;have bt:∀{lo hi:Int}, -999<=lo/\lo<=999-> -999<=hi/\hi<=999->Le (FI M x.target.toNat lo hi) (FI N x.target.toNat lo hi):=λ{lo hi} h1 h2 a ha=>by
   have e:a=a/8*8+a%8:=by omega
   have hi':a/8<8:=by omega
   have hj:a%8<8:=by omega
   rw[e];generalize a/8=i at hi';generalize a%8=j at hj;rw[Dx M (by omega) h1 h2 hi' hj,Dx N (by omega) h1 h2 hi' hj];have hMN:=h (i*8+j) (by omega);have mm:∀{j:Nat},j<8->mo M j j<=mo N j j/\mo N j j<=NB/\mo M j j<=1998:=λ{j} hj=>by
    have b:=hM.box j hj;have d:=Gr hM hj;have hn:=hhi (j*8+j) (by omega);refine⟨Qo h hhi hj hj,?_,by omega⟩;by_cases q:N (j*8+j)=NB
    ·rw[(Lg hN.tc hj).1 q];exact Int.le_refl _
    ·have:=((Lg hN.tc hj).2 q).1;unfold NB at *;omega
   have uu:∀{i:Nat},C6 x.target.toNat i->uF M x.target.toNat lo hi i=uF N x.target.toNat lo hi i/\ -2000<=uF N x.target.toNat lo hi i/\uF N x.target.toNat lo hi i<=2000:=λ{i} q=>by
    unfold uF;rcases q with q|q
    ·rw[if_pos q,if_pos q];exact⟨rfl,by omega,by omega⟩
    ·rw[if_neg (by omega),if_pos q,if_neg (by omega),if_pos q];exact⟨rfl,by omega,by omega⟩
   have plc':∀a b:Int,pl a b=pl b a:=λa b=>by
    unfold pl;by_cases q:a=NB\/b=NB
    ·rw[if_pos q,if_pos q.symm]
    ·rw[if_neg q,if_neg (λz=>q z.symm),Int.add_comm]
   unfold Po;by_cases ti:C6 x.target.toNat i
   ·rw[if_pos ti,if_pos ti];by_cases tj:C6 x.target.toNat j
    ·rw[if_pos tj,if_pos tj];split
     ·exact Int.le_refl _
     ·exact hMN
    ·rw[if_neg tj,if_neg tj,(uu ti).1,plc',plc' (uF N _ _ _ _)];exact Mc (mm hj).1 (mm hj).2.1 (uu ti).2 (mm hj).2.2
   ·rw[if_neg ti,if_neg ti];by_cases tj:C6 x.target.toNat j
    ·rw[if_pos tj,if_pos tj,(uu tj).1,plc',plc' (uF N _ _ _ _)];exact Mc (mm hi').1 (mm hi').2.1 (uu tj).2 (mm hi').2.2
    ·rw[if_neg tj,if_neg tj];exact hMN
  by_cases a:x.any=true
  ·rw[if_pos a,if_pos a];exact bt ⟨by omega,by omega⟩ ⟨by omega,by omega⟩
  ·rw[if_neg a,if_neg a];by_cases q:CF x.sg=opp (C4 x.sg)
   ·rw[if_pos q,if_pos q];exact bt ⟨by omega,by omega⟩ ⟨by omega,by omega⟩
   ·rw[if_neg q,if_neg q];intro a ha;have e:a=a/8*8+a%8:=by omega
    have hi':a/8<8:=by omega
    have hj:a%8<8:=by omega
    rw[e];generalize a/8=i at hi';generalize a%8=j at hj;have hf:=(Cx x.sg 4 (Nat.le_refl _)).1;rw[Hd M _ _ _ hi' hj,Hd N _ _ _ hi' hj];have o1:Ak x.target.toNat (CF x.sg) i<8:=Cv hf hi';have o2:Ak x.target.toNat (CF x.sg) j<8:=Cv hf hj;have r1:=Cm (t:=x.target.toNat) (n:=x.num) ⟨by omega,by omega⟩ i;have r2:=Cm (t:=x.target.toNat) (n:=x.num) ⟨by omega,by omega⟩ j;exact Mc (h _ (by omega)) (hhi _ (by omega)) ⟨by omega,by omega⟩ (hM.all (by omega)).2.2
 ·simp only[if_neg k0]at he|-;by_cases ha:x.any=true
  ·simp only[if_pos ha];exact⟨trivial,h⟩
  ·simp only[if_neg ha]at he|-;have hz1:1<=nz x.sg:=(hx.fc k0).resolve_left ha;by_cases w0:way=0
   ·simp only[if_pos w0]at he|-;exact QF hM hN h hx.len hx.g.sg hz1 hx.nz2 (by omega) he
   ·simp only[if_neg w0]at he|-;exact QF hM hN h (Cp _) (DJ hx.g.sg) (by rw[C9 hx.len];exact hz1) (by rw[C9 hx.len];exact hx.nz2) (by omega) he
end Go.Proofs.YtffajooegiempaaGreatDoor
namespace Go.Proofs.YtffajooegiempaaGreatDoor
variable {F:List Ds}{L:List (Option (List Int))}
abbrev at_(s:SS)(i:Nat):Pl:=s.1.getD i p0
def M_(L:List (Option (List Int)))(s:SS):Prop:=∀i,DY (at_ s i).e (cE (L.getD i none)) (at_ s i).M (cM (L.getD i none))=true
theorem SY{s:SS}(h:M_ L s)(k:Nat){p:Pl}(hp:DY p.e (cE (L.getD k none)) p.M (cM (L.getD k none))=true)(b:Bool):M_ L (s.1.set k p,b):=by
 intro i;show DY ((s.1.set k p).getD i p0).e _ ((s.1.set k p).getD i p0).M _=true;rcases Nat.lt_or_ge k s.1.length with q|q
 ·rw[DB q];by_cases e:i=k
  ·rw[if_pos e,e];exact hp
  ·rw[if_neg e];exact h i
 ·rw[List.set_eq_of_length_le q];exact h i
theorem Sx{s:SS}(h:M_ L s)(pt:Int){e:Bool}{M:Nat->Int}(hM:DY e (cE (BG L pt)) M (cM (BG L pt))=true):M_ L (DR s pt e M):=by
 unfold DR;split
 ·exact h
 ·rename_i hp;split
  ·exact h
  ·rename_i q;have hpt:BG L pt=L.getD pt.toNat none:=by unfold BG;rw[if_neg (by omega)]
   rw[hpt]at hM;have he:e=false:=by
    cases e with
    |false=>rfl
    |true=>exact absurd rfl q
   subst he;refine SY h _ ?_ true;obtain⟨_,m2,m3⟩:=(Bi.1 hM).resolve_left (by decide);have hk:=h pt.toNat;show DY (Hn (at_ s pt.toNat).e false) _ (GF (at_ s pt.toNat).e false (at_ s pt.toNat).M M) _=true;cases hh:(at_ s pt.toNat).e with
   |true=>exact hM
   |false=>
    rw[hh]at hk;obtain⟨_,k2,k3⟩:=(Bi.1 hk).resolve_left (by decide);refine Bi.2 (.inr ⟨rfl,k2,λa ha=>?_⟩);show jF (at_ s pt.toNat).M M 64 a<=_;rcases(C1 (at_ s pt.toNat).M M ha).1 with z|z<;>rw[z]
    ·exact k3 a ha
    ·exact m3 a ha
theorem L_(hC:Bt F L)(hD:∀k,k<F.length->DQ (F.getD k (AC 0 0))){p:Pl}(hp:GC p){k:Nat}(hk:k<F.length)(h:DY p.e (cE (L.getD k none)) p.M (cM (L.getD k none))=true):
  DF p.e p.M (F.getD k (AC 0 0))=true/\∀way:Nat,(way:Int)<Ae (F.getD k (AC 0 0)).kind->DY (CA p.e p.M (F.getD k (AC 0 0)) way) (cE (BG L (Ap F k way).1)) (CE p.e p.M (F.getD k (AC 0 0)) way) (cM (BG L (Ap F k way).1))=true:=by
 have hx:=hD k hk;have hs:=hC.says hk;have hat:BG L (k:Int)=L.getD k none:=by unfold BG;rw[if_neg (by omega),Int.toNat_natCast]
 rcases hp with⟨h1,h2⟩|⟨h1,h2⟩
 ·rw[h1]at h|-;obtain⟨_,k2,k3⟩:=(Bi.1 h).resolve_left (by decide);have hT:TQ (cM (L.getD k none)):=Su (Da hC.ok k) k2;rw[hat,k2]at hs;refine⟨Jn k3 hT.tc.hi hx hs.1,λway hw=>?_⟩;cases hpe:CA false p.M (F.getD k (AC 0 0)) way with
  |true=>exact Bi.2 (.inl rfl)
  |false=>
   obtain⟨a,b⟩:=Md h2 hT k3 hx way hpe;have hy:=hs.2 way hw;unfold D0 at hy;rw[hat,k2,a]at hy;obtain⟨_,c,d⟩:=(Bi.1 hy).resolve_left (by decide);exact Bi.2 (.inr ⟨rfl,c,b.trans d⟩)
 ·rw[h1];exact⟨rfl,λway _=>Bi.2 (.inl rfl)⟩
theorem U2(hC:Bt F L)(hD:∀k,k<F.length->DQ (F.getD k (AC 0 0))){s:SS}(h:M_ L s){p:Pl}(hp:GC p){k:Nat}(hk:k<F.length)(hw:DY p.e (cE (L.getD k none)) p.M (cM (L.getD k none))=true):∀n:Nat,(n:Int)<=Ae (F.getD k (AC 0 0)).kind->M_ L (GH F k p.e p.M s n)
 |0,_=>h
 |n+1,hn=>Sx (U2 hC hD h hp hk hw n (by omega)) _ ((L_ hC hD hp hk hw).2 n (by omega))
theorem Xh(hC:Bt F L)(hD:∀k,k<F.length->DQ (F.getD k (AC 0 0))){s:SS}(h:M_ L s){p:Pl}(hp:GC p){k:Nat}(hw:DY p.e (cE (L.getD k none)) p.M (cM (L.getD k none))=true):M_ L (Dp F k p.e p.M s):=by
 unfold Dp;split
 ·rename_i q;split
  ·have:=D1 (F.getD k (AC 0 0)).kind;exact U2 hC hD h hp q hw _ (by omega)
  ·exact h
 ·exact h
theorem X2(hC:Bt F L)(hD:∀k,k<F.length->DQ (F.getD k (AC 0 0))){s:SS}(h:M_ L s)(hg:Bf s)(k:Nat):M_ L (Fz F k s):=by
 unfold Fz;split
 ·exact Xh hC hD (SY h k (p:=⟨(at_ s k).e,(at_ s k).M,false⟩) (h k) _) (hg k) (h k)
 ·exact h
theorem Mo(hC:Bt F L)(hD:∀k,k<F.length->DQ (F.getD k (AC 0 0))){s:SS}(h:M_ L s)(hg:Bf s):∀n,M_ L (C3 F s n)
 |0=>h
 |n+1=>X2 hC hD (Mo hC hD h hg n) (DW hg hD n) n
theorem XO(hC:Bt F L)(n:Nat):M_ L (GK n):=by
 refine Sx (λi=>?_) 0 hC.st;have:at_ (List.replicate (n+1) p0,false) i=p0:=by
  show(List.replicate (n+1) p0).getD i p0=p0;rw[List.getD_eq_getElem?_getD,List.getElem?_replicate];split<;>rfl
 rw[this];exact Bi.2 (.inl rfl)
def Oa(s s':SS):Prop:=s'.1.length=s.1.length/\∀i,at_ s' i=at_ s i\/((at_ s' i).wt=true/\DY (at_ s i).e (at_ s' i).e (at_ s i).M (at_ s' i).M=true)
theorem Oa.in_{s s':SS}(h:Oa s s')(i:Nat):DY (at_ s i).e (at_ s' i).e (at_ s i).M (at_ s' i).M=true:=by
 rcases h.2 i with q|q
 ·rw[q];exact G0 _ _
 ·exact q.2
theorem Oa.refl(s:SS):Oa s s:=⟨rfl,λ_=>.inl rfl⟩
theorem Oa.trans{s t u:SS}(h:Oa s t)(k:Oa t u):Oa s u:=by
 refine⟨k.1.trans h.1,λi=>?_⟩;rcases k.2 i with q|q
 ·rcases h.2 i with r|r
  ·exact .inl (q.trans r)
  ·exact .inr (by rw[q];exact r)
 ·exact .inr ⟨q.1,Fg (h.in_ i) q.2⟩
theorem Oo(s:SS)(pt:Int)(e:Bool)(M:Nat->Int):Oa s (DR s pt e M):=by
 refine⟨J4 s pt e M,λi=>?_⟩;unfold DR;split
 ·exact .inl rfl
 ·rename_i hp;split
  ·exact .inl rfl
  ·rename_i q;have hk:pt.toNat<s.1.length:=by omega
   show(s.1.set pt.toNat _).getD i p0=_\/((s.1.set pt.toNat _).getD i p0).wt=true/\DY _ ((s.1.set pt.toNat _).getD i p0).e _ ((s.1.set pt.toNat _).getD i p0).M=true;rw[DB hk];by_cases c:i=pt.toNat
   ·rw[if_pos c,c];refine .inr ⟨rfl,?_⟩;have he:e=false:=by
     cases e with
     |false=>rfl
     |true=>exact absurd rfl q
    subst he;show DY (at_ s pt.toNat).e (Hn (at_ s pt.toNat).e false) (at_ s pt.toNat).M (GF (at_ s pt.toNat).e false (at_ s pt.toNat).M M)=true;cases hh:(at_ s pt.toNat).e with
    |true=>exact Bi.2 (.inl rfl)
    |false=>exact Bi.2 (.inr ⟨rfl,rfl,λa ha=>(C1 (at_ s pt.toNat).M M ha).2.1⟩)
   ·rw[if_neg c];exact .inl rfl
theorem Sy{s:SS}{pt:Int}(h0:0<=pt)(h1:pt<s.1.length)(e:Bool)(M:Nat->Int):DY e (at_ (DR s pt e M) pt.toNat).e M (at_ (DR s pt e M) pt.toNat).M=true:=by
 unfold DR;rw[if_neg (by omega)];split
 ·rename_i q;exact q
 ·rename_i q;have hk:pt.toNat<s.1.length:=by omega
  show DY e ((s.1.set pt.toNat _).getD pt.toNat p0).e M ((s.1.set pt.toNat _).getD pt.toNat p0).M=true;rw[DB hk,if_pos rfl];have he:e=false:=by
   cases e with
   |false=>rfl
   |true=>exact absurd rfl q
  subst he;show DY false (Hn (at_ s pt.toNat).e false) M (GF (at_ s pt.toNat).e false (at_ s pt.toNat).M M)=true;cases hh:(at_ s pt.toNat).e with
  |true=>exact G0 _ _
  |false=>exact Bi.2 (.inr ⟨rfl,rfl,λa ha=>(C1 (at_ s pt.toNat).M M ha).2.2⟩)
theorem P6(F:List Ds)(k:Nat)(e:Bool)(M:Nat->Int)(s:SS):∀n,Oa s (GH F k e M s n)
 |0=>Oa.refl s
 |n+1=>(P6 F k e M s n).trans (Oo _ _ _ _)
def Yc(F:List Ds)(s:SS)(k:Nat)(p:Pl)(n:Nat):Prop:=∀way:Nat,way<n->DY (CA p.e p.M (F.getD k (AC 0 0)) way) (at_ s (Ap F k way).1.toNat).e (CE p.e p.M (F.getD k (AC 0 0)) way) (at_ s (Ap F k way).1.toNat).M=true
theorem Yc.gr{s s':SS}{k n:Nat}{p:Pl}(h:Yc F s k p n)(hg:Oa s s'):Yc F s' k p n:=λway hw=>Fg (h way hw) (hg.in_ _)
theorem U3{s:SS}(hl:s.1.length=F.length+1){k:Nat}(hk:k<F.length)(p:Pl):∀n:Nat,(n:Int)<=Ae (F.getD k (AC 0 0)).kind->Yc F (GH F k p.e p.M s n) k p n
 |0,_=>λway hw=>absurd hw (by omega)
 |n+1,hn=>by
  intro way hw;have ih:=U3 hl hk p n (by omega);rcases Nat.lt_or_eq_of_le (Nat.lt_succ_iff.1 hw)with q|q
  ·exact Fg (ih way q) ((Oo _ _ _ _).in_ _)
  ·subst q;have hi:=Du (F:=F) k way (Fv F k hk way (by omega));exact Sy hi.1 (by rw[Kk,hl];omega) _ _
def SU(F:List Ds)(s:SS):Prop:=∀k,k<F.length->(at_ s k).wt=false->Yc F s k (at_ s k) (Ae (F.getD k (AC 0 0)).kind).toNat
theorem SU.gr{s s':SS}(h:SU F s)(hg:Oa s s'):SU F s':=by
 intro k hk hw;rcases hg.2 k with q|q
 ·rw[q]at hw|-;exact(h k hk hw).gr hg
 ·rw[q.1]at hw;cases hw
theorem X6(hC:Bt F L)(hD:∀k,k<F.length->DQ (F.getD k (AC 0 0))){s:SS}(hl:s.1.length=F.length+1)(h:SU F s)(ha:M_ L s)(hg:Bf s){k:Nat}(hkl:k<s.1.length):SU F (Fz F k s):=by
 unfold Fz;split
 ·rename_i hwt;have e1:∀i,at_ (s.1.set k ⟨(at_ s k).e,(at_ s k).M,false⟩,s.2) i=if i=k then⟨(at_ s k).e,(at_ s k).M,false⟩else at_ s i:=λi=>DB hkl i _
  have em:∀i,(at_ (s.1.set k ⟨(at_ s k).e,(at_ s k).M,false⟩,s.2) i).e=(at_ s i).e/\(at_ (s.1.set k ⟨(at_ s k).e,(at_ s k).M,false⟩,s.2) i).M=(at_ s i).M:=λi=>by
   rw[e1];by_cases c:i=k
   ·rw[if_pos c,c];exact⟨rfl,rfl⟩
   ·rw[if_neg c];exact⟨rfl,rfl⟩
  have others:∀j,j≠k->j<F.length->(at_ (s.1.set k ⟨(at_ s k).e,(at_ s k).M,false⟩,s.2) j).wt=false->Yc F (s.1.set k ⟨(at_ s k).e,(at_ s k).M,false⟩,s.2) j (at_ (s.1.set k ⟨(at_ s k).e,(at_ s k).M,false⟩,s.2) j) (Ae (F.getD j (AC 0 0)).kind).toNat:=by
   intro j hj hjl hw;rw[e1,if_neg hj]at hw|-;intro way hway;have:=h j hjl hw way hway;rw[(em _).1,(em _).2];exact this
  by_cases hk:k<F.length
  ·have hs:=(L_ hC hD (hg k) hk (ha k)).1;have wr:=D1 (F.getD k (AC 0 0)).kind;have ef:Dp F k (at_ s k).e (at_ s k).M (s.1.set k ⟨(at_ s k).e,(at_ s k).M,false⟩,s.2)=GH F k (at_ s k).e (at_ s k).M (s.1.set k ⟨(at_ s k).e,(at_ s k).M,false⟩,s.2) (Ae (F.getD k (AC 0 0)).kind).toNat:=by
    unfold Dp;rw[if_pos hk,if_pos hs]
   show SU F (Dp F k (at_ s k).e (at_ s k).M (s.1.set k ⟨(at_ s k).e,(at_ s k).M,false⟩,s.2));rw[ef];have gr:=P6 F k (at_ s k).e (at_ s k).M (s.1.set k ⟨(at_ s k).e,(at_ s k).M,false⟩,s.2) (Ae (F.getD k (AC 0 0)).kind).toNat;intro j hjl hw;rcases gr.2 j with q|q
   ·by_cases c:j=k
    ·subst c;rw[q,e1,if_pos rfl];exact U3 (s:=(s.1.set j ⟨(at_ s j).e,(at_ s j).M,false⟩,s.2)) (by simpa using hl) hk ⟨(at_ s j).e,(at_ s j).M,false⟩ _ (by omega)
    ·rw[q]at hw|-;exact(others j c hjl hw).gr gr
   ·rw[q.1]at hw;cases hw
  ·have ef:Dp F k (at_ s k).e (at_ s k).M (s.1.set k ⟨(at_ s k).e,(at_ s k).M,false⟩,s.2)=(s.1.set k ⟨(at_ s k).e,(at_ s k).M,false⟩,s.2):=by
    unfold Dp;rw[if_neg hk]
   show SU F (Dp F k (at_ s k).e (at_ s k).M (s.1.set k ⟨(at_ s k).e,(at_ s k).M,false⟩,s.2));rw[ef];intro j hjl hw;exact others j (by omega) hjl hw
 ·exact h
theorem UP(hC:Bt F L)(hD:∀k,k<F.length->DQ (F.getD k (AC 0 0))){s:SS}(hl:s.1.length=F.length+1)(h:SU F s)(ha:M_ L s)(hg:Bf s):∀n,n<=s.1.length->SU F (C3 F s n)
 |0,_=>h
 |n+1,hn=>X6 hC hD (by rw[DD];exact hl) (UP hC hD hl h ha hg n (by omega)) (Mo hC hD ha hg n) (DW hg hD n) (by rw[DD];omega)
theorem XX{s:SS}{pt:Int}{e:Bool}{M:Nat->Int}(h:(DR s pt e M).2=false):DR s pt e M=s:=by
 unfold DR at *;split at h
 ·rename_i q;rw[if_pos q]
 ·rename_i q;rw[if_neg q];split at h
  ·rename_i r;rw[if_pos r]
  ·cases h
theorem U4{k:Nat}{e:Bool}{M:Nat->Int}{s:SS}:∀n,(GH F k e M s n).2=false->GH F k e M s n=s
 |0,_=>rfl
 |n+1,h=>by
  have h1:=XX h;have h2:(GH F k e M s n).2=false:=by rw[<-h1];exact h
  exact h1.trans (U4 n h2)
theorem Xj{k:Nat}{e:Bool}{M:Nat->Int}{s:SS}(h:(Dp F k e M s).2=false):Dp F k e M s=s:=by
 unfold Dp at *;split
 ·rename_i q;rw[if_pos q]at h;split
  ·rename_i r;rw[if_pos r]at h;exact U4 _ h
  ·rfl
 ·rfl
theorem X4{k:Nat}{s:SS}(hk:k<s.1.length)(h:(Fz F k s).2=false):s.2=false/\(at_ (Fz F k s) k).wt=false/\∀i,i≠k->at_ (Fz F k s) i=at_ s i:=by
 unfold Fz at *;split
 ·rename_i q;rw[if_pos q]at h;have e:=Xj h;rw[e]at h|-;refine⟨h,?_,λi hi=>?_⟩
  ·show((s.1.set k _).getD k p0).wt=false;rw[DB hk,if_pos rfl]
  ·show(s.1.set k _).getD i p0=_;rw[DB hk,if_neg hi]
 ·rename_i q;rw[if_neg q]at h;exact⟨h,by simpa using q,λ_ _=>rfl⟩
theorem UN{s:SS}:∀n,n<=s.1.length->(C3 F s n).2=false->∀i,i<n->(at_ (C3 F s n) i).wt=false
 |0,_,_=>λi hi=>absurd hi (by omega)
 |n+1,hn,h=>by
  intro i hi;have h1:=X4 (F:=F) (k:=n) (s:=C3 F s n) (by rw[DD];omega) h;rcases Nat.lt_or_eq_of_le (Nat.lt_succ_iff.1 hi)with q|q
  ·have:=UN n (by omega) h1.1 i q;rw[show C3 F s (n+1)=Fz F n (C3 F s n)from rfl,h1.2.2 i (by omega)];exact this
  ·rw[q];exact h1.2.1
end Go.Proofs.YtffajooegiempaaGreatDoor
namespace Go.Proofs.YtffajooegiempaaGreatDoor
variable {F:List Ds}{L:List (Option (List Int))}{M N:Nat->Int}
def Ph(M:Nat->Int):Nat->Nat
 |0=>0
 |f+1=>Ph M f+(M (fs f*8+ss f)+1998).toNat
theorem Nm{f:Nat}(hf:f<32):fs f*8+ss f<64:=by have:=D5 f hf;have:=D7 f hf;omega
theorem UR(h:Wn M):∀n,n<=32->Ph M n<=3996*n
 |0,_=>Nat.zero_le _
 |n+1,hn=>by
  have:=UR h n (by omega);have:=h.all (Nm (f:=n) (by omega));rw[Ph];omega
theorem OM(h:Le M N):∀n,n<=32->Ph M n<=Ph N n
 |0,_=>Nat.le_refl _
 |n+1,hn=>by
  have:=OM h n (by omega);have:=h _ (Nm (f:=n) (by omega));rw[Ph,Ph];omega
theorem US(h:Le M N)(hM:Wn M){f:Nat}(hf:f<32)(hlt:M (fs f*8+ss f)<N (fs f*8+ss f)):∀n,n<=32->f<n->Ph M n+1<=Ph N n
 |0,_,h0=>absurd h0 (by omega)
 |n+1,hn,hfn=>by
  have lo:=hM.all (Nm (f:=n) (by omega));have le:=h _ (Nm (f:=n) (by omega));rw[Ph,Ph];rcases Nat.lt_or_eq_of_le (Nat.lt_succ_iff.1 hfn)with q|q
  ·have:=US h hM hf hlt n (by omega) q;omega
  ·subst q;have:=OM h f (by omega);omega
def Ny(p:Pl):Nat:=if p.e=true then 0 else 1+Ph p.M 32
def Jf(l:List Pl):Nat:=(l.map Ny).sum
theorem PG:∀(l:List Pl)(k:Nat),k<l.length->∀p,Jf (l.set k p)+Ny (l.getD k p0)=Jf l+Ny p
 |[],k,h,_=>absurd h (by simp)
 |a::l,0,_,p=>by simp[Jf,List.getD];omega
 |a::l,k+1,h,p=>by
  have:=PG l k (by simpa using h) p;simp[Jf,List.getD]at this|-;omega
theorem Xv{p:Pl}(h:GC p):Ny p<=127873:=by
 unfold Ny;rcases h with⟨h1,h2⟩|⟨h1,_⟩
 ·rw[if_neg (by rw[h1];decide)];have:=UR h2 32 (Nat.le_refl _);omega
 ·rw[if_pos h1];omega
theorem Ti:∀(l:List Pl),(∀i,GC (l.getD i p0))->Jf l<=127873*l.length
 |[],_=>Nat.zero_le _
 |a::l,h=>by
  have h1:=Xv (h 0);have h2:=Ti l (λi=>h (i+1));have e:Jf (a::l)=Ny a+Jf l:=by simp[Jf]
  have h3:Ny a<=127873:=h1;rw[e,List.length_cons];omega
theorem Sz{s:SS}(hg:Bf s)(pt:Int){e:Bool}{M:Nat->Int}(hM:e=false->Wn M):DR s pt e M=s\/(Jf s.1+1<=Jf (DR s pt e M).1/\(DR s pt e M).2=true):=by
 unfold DR;split
 ·exact .inl rfl
 ·rename_i hp;split
  ·exact .inl rfl
  ·rename_i q
   right
   refine⟨?_,rfl⟩;have hk:pt.toNat<s.1.length:=by omega
   have he:e=false:=by
    cases e with
    |false=>rfl
    |true=>exact absurd rfl q
   subst he;have hw:=hM rfl;have h1:=PG s.1 pt.toNat hk ⟨Hn (s.1.getD pt.toNat p0).e false,GF (s.1.getD pt.toNat p0).e false (s.1.getD pt.toNat p0).M M,true⟩;have key:Ny (s.1.getD pt.toNat p0)+1<=Ny ⟨Hn (s.1.getD pt.toNat p0).e false,GF (s.1.getD pt.toNat p0).e false (s.1.getD pt.toNat p0).M M,true⟩:=by
    rcases hg pt.toNat with⟨g1,g2⟩|⟨g1,g2⟩
    ·rw[g1]at q|-;have hno:¬Le M (s.1.getD pt.toNat p0).M:=λz=>q (Bi.2 (.inr ⟨rfl,rfl,z⟩));have hex:∃f,f<32/\(s.1.getD pt.toNat p0).M (fs f*8+ss f)<M (fs f*8+ss f):=by
      refine Classical.byContradiction λhn=>hno λa ha=>?_;have e:a=a/8*8+a%8:=by omega
      have hi:a/8<8:=by omega
      have hj:a%8<8:=by omega
      rw[e];generalize a/8=i at hi;generalize a%8=j at hj;by_cases o:j=opp i
      ·rw[o,hw.tc.zero i hi,g2.tc.zero i hi];exact Int.le_refl _
      ·obtain⟨f1,f2⟩:=DN i hi j hj o;have:¬(s.1.getD pt.toNat p0).M (fs (nf i j)*8+ss (nf i j))<M (fs (nf i j)*8+ss (nf i j)):=λz=>hn ⟨_,f1,z⟩;rcases f2 with⟨z1,z2⟩|⟨z1,z2⟩
       ·rw[z1,z2]at this;omega
       ·rw[z1,z2,hw.tc.sym j i hj hi,g2.tc.sym j i hj hi]at this;omega
     obtain⟨f,hf,hlt⟩:=hex;have hle:Le (s.1.getD pt.toNat p0).M (jF (s.1.getD pt.toNat p0).M M 64):=λa ha=>(C1 _ M ha).2.1;have h2:=(C1 (s.1.getD pt.toNat p0).M M (Nm hf)).2.2;have:=US hle g2 hf (by omega) 32 (Nat.le_refl _) hf;have e1:Ny (s.1.getD pt.toNat p0)=1+Ph (s.1.getD pt.toNat p0).M 32:=by unfold Ny;rw[if_neg (by rw[g1];decide)]
     have e2:Ny ⟨Hn false false,GF false false (s.1.getD pt.toNat p0).M M,true⟩=1+Ph (jF (s.1.getD pt.toNat p0).M M 64) 32:=rfl;rw[e1,e2];omega
    ·have e1:Ny (s.1.getD pt.toNat p0)=0:=by unfold Ny;rw[if_pos g1]
     rw[e1,g1];have e2:Ny ⟨Hn true false,GF true false (s.1.getD pt.toNat p0).M M,true⟩=1+Ph M 32:=rfl;rw[e2];omega
   show Jf s.1+1<=Jf (s.1.set pt.toNat _);omega
def NC(s t:SS):Prop:=Jf s.1<=Jf t.1/\(t.2=true->s.2=true\/Jf s.1+1<=Jf t.1)
theorem NC.refl(s:SS):NC s s:=⟨Nat.le_refl _,λh=>.inl h⟩
theorem NC.trans{s t u:SS}(h:NC s t)(k:NC t u):NC s u:=by
 refine⟨Nat.le_trans h.1 k.1,λhu=>?_⟩;have:=h.1;have:=k.1;rcases k.2 hu with q|q
 ·rcases h.2 q with r|r
  ·exact .inl r
  ·exact .inr (by omega)
 ·exact .inr (by omega)
theorem XY{s:SS}(hg:Bf s)(pt:Int){e:Bool}{M:Nat->Int}(hM:e=false->Wn M):NC s (DR s pt e M):=by
 rcases Sz hg pt hM with q|q
 ·rw[q];exact NC.refl s
 ·exact⟨by omega,λ_=>.inr q.1⟩
theorem U5{s:SS}(h:Bf s){k:Nat}(hx:DQ (F.getD k (AC 0 0))){e:Bool}{M:Nat->Int}(hM:e=false->Wn M)(hs:DF e M (F.getD k (AC 0 0))=true):∀n,NC s (GH F k e M s n)
 |0=>NC.refl s
 |n+1=>by
  refine(U5 h hx hM hs n).trans (XY (Km h hx hM hs n) _ λhe=>?_);cases e with
  |true=>cases he
  |false=>exact Jp (hM rfl) hx hs n he
theorem Xk{s:SS}(h:Bf s){k:Nat}(hx:k<F.length->DQ (F.getD k (AC 0 0))){e:Bool}{M:Nat->Int}(hM:e=false->Wn M):NC s (Dp F k e M s):=by
 unfold Dp;split
 ·rename_i q;split
  ·rename_i hs;exact U5 h (hx q) hM hs _
  ·exact NC.refl s
 ·exact NC.refl s
theorem X5{s:SS}(h:Bf s){k:Nat}(hk:k<s.1.length)(hx:k<F.length->DQ (F.getD k (AC 0 0))):NC s (Fz F k s):=by
 unfold Fz;split
 ·have h1:=PG s.1 k hk ⟨(s.1.getD k p0).e,(s.1.getD k p0).M,false⟩;have e:Ny ⟨(s.1.getD k p0).e,(s.1.getD k p0).M,false⟩=Ny (s.1.getD k p0):=rfl;have h2:NC s (s.1.set k ⟨(s.1.getD k p0).e,(s.1.getD k p0).M,false⟩,s.2):=⟨by show Jf s.1<=Jf (s.1.set k _);omega,λz=>.inl z⟩
  refine h2.trans (Xk (KF h _ ?_ _) hx ?_)
  ·rcases h k with q|q
   ·exact .inl q
   ·exact .inr q
  ·intro he;rcases h k with q|q
   ·exact q.2
   ·rw[q.1]at he;cases he
 ·exact NC.refl s
theorem UO{s:SS}(h:Bf s)(hx:∀k,k<F.length->DQ (F.getD k (AC 0 0))):∀n,n<=s.1.length->NC (s.1,false) (C3 F s n)
 |0,_=>NC.refl _
 |n+1,hn=>(UO h hx n (by omega)).trans (X5 (DW h hx n) (by rw[DD];omega) (hx n))
theorem W1(hx:∀k,k<F.length->DQ (F.getD k (AC 0 0))):∀r {s:SS},Bf s->(F9 F r s).2=false\/Jf s.1+r<=Jf (F9 F r s).1
 |0,s,_=>.inr (Nat.le_refl _)
 |r+1,s,h=>by
  rw[F9];split
  ·have h1:=UO h hx s.1.length (Nat.le_refl _);have hg:=DW h hx (n:=s.1.length);cases ht:(C3 F s s.1.length).2 with
   |false=>left;rw[Jb F r ht];exact ht
   |true=>
    have h2:=(h1.2 ht).resolve_left (λz=>Bool.noConfusion z);rcases W1 hx r hg with q|q
    ·exact .inl q
    ·right
     have h3:Jf s.1+1<=Jf (C3 F s s.1.length).1:=h2;omega
  ·rename_i q
   left
   simpa using q
theorem TD(hx:∀k,k<F.length->DQ (F.getD k (AC 0 0)))(hl:F.length<=20):(B3 F).2=false:=by
 rcases W1 hx 2685334 (ID F.length)with q|q
 ·exact q
 ·exfalso;have h1:=Ti (B3 F).1 (KA hx);rw[JY]at h1;have h2:Jf (GK F.length).1+2685334<=Jf (B3 F).1:=q;omega
structure VJ(F:List Ds)(L:List (Option (List Int)))(s:SS):Prop where
 len:s.1.length=F.length+1
 good:Bf s
 ab:M_ L s
 wy:SU F s
 no:s.2=false->∀i,i<F.length->(at_ s i).wt=false
 or_:DY false (at_ s 0).e (λ_=>0) (at_ s 0).M=true
theorem YK{s:SS}{k:Nat}(hk:k<s.1.length)(b:Bool)(i:Nat):DY (at_ s i).e (at_ (s.1.set k ⟨(at_ s k).e,(at_ s k).M,b⟩,s.2) i).e (at_ s i).M (at_ (s.1.set k ⟨(at_ s k).e,(at_ s k).M,b⟩,s.2) i).M=true:=by
 show DY (at_ s i).e ((s.1.set k _).getD i p0).e (at_ s i).M ((s.1.set k _).getD i p0).M=true;rw[DB hk];by_cases c:i=k
 ·rw[if_pos c,c];exact G0 _ _
 ·rw[if_neg c];exact G0 _ _
theorem Xi(F:List Ds)(k:Nat)(e:Bool)(M:Nat->Int)(s:SS):Oa s (Dp F k e M s):=by
 unfold Dp;split
 ·split
  ·exact P6 F k e M s _
  ·exact Oa.refl s
 ·exact Oa.refl s
theorem X3{s:SS}{k:Nat}(hk:k<s.1.length)(i:Nat):DY (at_ s i).e (at_ (Fz F k s) i).e (at_ s i).M (at_ (Fz F k s) i).M=true:=by
 unfold Fz;split
 ·exact Fg (YK hk false i) ((Xi F k _ _ _).in_ i)
 ·exact G0 _ _
theorem UM{s:SS}(i:Nat):∀n,n<=s.1.length->DY (at_ s i).e (at_ (C3 F s n) i).e (at_ s i).M (at_ (C3 F s n) i).M=true
 |0,_=>G0 _ _
 |n+1,hn=>Fg (UM i n (by omega)) (X3 (by rw[DD];omega) i)
theorem S9(hC:Bt F L)(hD:∀k,k<F.length->DQ (F.getD k (AC 0 0))):∀r {s:SS},VJ F L s->VJ F L (F9 F r s)
 |0,_,h=>h
 |r+1,s,h=>by
  rw[F9];split
  ·exact S9 hC hD r ⟨by rw[DD];exact h.len,DW h.good hD _,Mo hC hD h.ab h.good _,UP hC hD h.len h.wy h.ab h.good _ (Nat.le_refl _),λz i hi=>UN _ (Nat.le_refl _) z i (by rw[h.len];omega),Fg h.or_ (UM 0 _ (Nat.le_refl _))⟩
  ·exact h
theorem Vl(hC:Bt F L):VJ F L (GK F.length):=by
 have hrep:∀i,at_ (List.replicate (F.length+1) p0,false) i=p0:=λi=>by
  show(List.replicate (F.length+1) p0).getD i p0=p0;rw[List.getD_eq_getElem?_getD,List.getElem?_replicate];split<;>rfl
 have hor:=Sy (s:=(List.replicate (F.length+1) p0,false)) (pt:=0) (by decide) (by simp) false (λ_=>0);have h2:(GK F.length).2=true:=by
  rcases Sz (s:=(List.replicate (F.length+1) p0,false)) (λi=>by rw[show(List.replicate (F.length+1) p0,false).1.getD i p0=p0 from hrep i];exact GC.p0) 0 (e:=false) (M:=λ_=>0) (λ_=>M7)with q|q
  ·exfalso;rw[q,show(0:Int).toNat=0 from rfl,hrep 0]at hor;cases hor
  ·exact q.2
 refine⟨MD _,ID _,XO hC _,?_,λz=>?_,hor⟩
 ·refine SU.gr (s:=(List.replicate (F.length+1) p0,false)) (λk _ _=>?_) (Oo _ _ _ _);rw[hrep k];exact λway _=>Bi.2 (.inl rfl)
 ·rw[h2]at z;cases z
theorem MW(h:Wn M):ovE (Bl M)=false/\Le M (BT (Bl M))/\Le (BT (Bl M)) M:=by
 have hok:B_ (Bl M):=FO (by
  intro l e;cases e
  exact⟨BJ _,λf hf=>by rw[CP _ hf];exact Jw h hf⟩)
 have up:Le M (BT (Bl M)):=h.tc.below_sharp (I2 h.tc hok (λf hf=>by rw[CP _ hf];exact Int.le_refl _)) (Jd hok);refine⟨II (λi hi=>?_),up,λa ha=>Int.le_trans (Cs _ a) ?_⟩
 ·have z:=up (i*8+opp i) (by have:=Ah hi;omega);rw[h.tc.zero i hi]at z;exact z
 ·have e:a=a/8*8+a%8:=by omega
  have hi:a/8<8:=by omega
  have hj:a%8<8:=by omega
  rw[e];generalize a/8=i at hi;generalize a%8=j at hj;by_cases e1:j=opp i
  ·rw[e1,Gs (Bl M) i hi,h.tc.zero i hi];exact Int.le_refl _
  ·rw[Hp (Bl M) hi hj e1];by_cases e2:i=j
   ·subst e2;rw[Gv];have b:=J0 (Bl M) hi;have hb:(Bl M).getD i 0=bd M i:=CP M (by omega);have d:=Gr h hi;have e3:bd M i=mo M i i:=by
     obtain⟨q1,q2⟩:=Eo i hi;unfold bd mo;rw[q1,q2]
    have al:=h.all (k:=i*8+i) (by omega);have hne:(Bl M).getD i 0≠NB:=by rw[hb,e3];unfold NB;omega
    rw[b.2 hne,hb,e3];omega
   ·rw[NS (Bl M) hi hj e2 e1,CP M (DN i hi j hj e1).1,IC h.tc.sym hi hj e2 e1];exact Int.le_refl _
theorem S2(hC:Bt F L)(hD:∀k,k<F.length->DQ (F.getD k (AC 0 0)))(hl:F.length<=20):∀r,Ad F (AA (D3 F)) r->r=(0,0):=by
 intro r h;refine h.one ?_;have hE:VJ F L (B3 F):=S9 hC hD _ (Vl hC);have hst:=TD hD hl;have hok:=IV hD;unfold Ad;rw[QP hD hl];show(if(CM F).length≠F.length+1 then((0:Int),(0:Int))=(4,0)else _);rw[if_neg (by rw[FD];omega)];have hget:∀k:Nat,k<F.length+1->BG (CM F) (k:Int)=JL (at_ (B3 F) k):=λk hk=>by
  unfold BG;rw[if_neg (by omega),Int.toNat_natCast];have hk':k<(B3 F).1.length:=by rw[hE.len];exact hk
  unfold CM;simp[List.getD,hk']
 have to:∀{e:Bool}{A:Nat->Int}{k:Nat},k<F.length+1->DY e (at_ (B3 F) k).e A (at_ (B3 F) k).M=true->DY e (cE (BG (CM F) (k:Int))) A (cM (BG (CM F) (k:Int)))=true:=λ{e A k} hk hw=>by
  rw[hget k hk];rcases Bi.1 hw with q|⟨q1,q2,q3⟩
  ·exact Bi.2 (.inl q)
  ·rcases hE.good k with⟨g1,g2⟩|⟨g1,_⟩
   ·have hs:=MW g2;have e1:JL (at_ (B3 F) k)=some (Bl (at_ (B3 F) k).M):=by unfold JL;rw[if_neg (by rw[g1];decide)]
    rw[e1];exact Bi.2 (.inr ⟨q1,hs.1,q3.trans hs.2.1⟩)
   ·rw[g1]at q2;cases q2
 have h0:DY false (cE (BG (CM F) 0)) (λ_=>0) (cM (BG (CM F) 0))=true:=to (k:=0) (by omega) hE.or_;rw[h0,if_neg (by decide)];refine .inl ⟨λk hk=>?_,rfl⟩;have hx:=hD k hk;have hcl:=hE.wy k hk (hE.no hst k hk);have hsay:=(L_ hC hD (hE.good k) hk (hE.ab k)).1;unfold EK;have gk:=hget k (by omega);rcases hE.good k with⟨g1,g2⟩|⟨g1,_⟩
 ·have hs:=MW g2;have e1:JL (at_ (B3 F) k)=some (Bl (at_ (B3 F) k).M):=by unfold JL;rw[if_neg (by rw[g1];decide)]
  have eE:cE (BG (CM F) (k:Int))=false:=by rw[gk,e1];exact hs.1
  have eM:cM (BG (CM F) (k:Int))=BT (Bl (at_ (B3 F) k).M):=by rw[gk,e1];rfl
  have hT:TQ (cM (BG (CM F) (k:Int))):=Su (Ek hok _) eE
  have hWn:Wn (cM (BG (CM F) (k:Int))):=⟨hT.tc,λi hi=>by
   rw[eM]
   exact Int.le_trans (hs.2.2 (i*8+i) (by omega)) (g2.box i hi)⟩
  have hle:Le (cM (BG (CM F) (k:Int))) (at_ (B3 F) k).M:=by rw[eM];exact hs.2.2
  rw[g1]at hsay;have hsf:DF (cE (BG (CM F) (k:Int))) (cM (BG (CM F) (k:Int))) (F.getD k (AC 0 0))=true:=by rw[eE];exact Jn hle g2.tc.hi hx hsay
  rw[hsf,if_neg (by decide),if_pos];have all:∀n,n<=(Ae (F.getD k (AC 0 0)).kind).toNat->ET (D0 F (CM F) k) n=true:=by
   intro n;induction n with
   |zero=>intro _;rfl
   |succ n ih=>
    intro hn;show(ET (D0 F (CM F) k) n&&D0 F (CM F) k n)=true;rw[ih (by omega),Bool.true_and];have hz:=Du (F:=F) k n (Fv F k hk n (by omega));obtain⟨q,hq⟩:∃q:Nat,(Ap F k n).1=(q:Int):=⟨_,(Int.toNat_of_nonneg hz.1).symm⟩
    have hc:=hcl n (by omega);rw[hq,Int.toNat_natCast,g1]at hc;unfold D0;rw[hq,eE];refine to (by omega) ?_;cases hpe:CA false (cM (BG (CM F) (k:Int))) (F.getD k (AC 0 0)) n with
    |true=>exact Bi.2 (.inl rfl)
    |false=>
     obtain⟨a,b⟩:=Md hWn g2.tq hle hx n hpe;rw[a]at hc;obtain⟨_,c2,c3⟩:=(Bi.1 hc).resolve_left (by decide);exact Bi.2 (.inr ⟨rfl,c2,b.trans c3⟩)
  exact all _ (Nat.le_refl _)
 ·have e1:JL (at_ (B3 F) k)=none:=by unfold JL;rw[if_pos g1]
  rw[gk,e1];have e2:DF (cE none) (cM none) (F.getD k (AC 0 0))=true:=rfl;rw[e2,if_neg (by decide),if_pos];have all:∀n,ET (D0 F (CM F) k) n=true:=by
   intro n;induction n with
   |zero=>rfl
   |succ n ih=>
    show(ET (D0 F (CM F) k) n&&D0 F (CM F) k n)=true;rw[ih,Bool.true_and];unfold D0;rw[gk,e1];exact Bi.2 (.inl rfl)
  exact all _
end Go.Proofs.YtffajooegiempaaGreatDoor
