import Derived.Test.YtffajooegiempaaGreatDoorK3
import Derived.Great.BuildSlice
import Derived.Deep.MidRow
set_option maxRecDepth 100000
set_option maxHeartbeats 6400000
namespace Go.Proofs.YtffajooegiempaaGreatDoor
open Go.RowKit Go.Proofs.Tryz
variable {w:World}{b:Nat}{e1 e2:Bool}{M N:Nat->Int}
def leF(M N:Nat->Int):Nat->Bool
 |0=>true
 |k+1=>leF M N k&&decide (M k<=N k)
def DY(e1 e2:Bool)(M N:Nat->Int):Bool:=if(e1||e2)=true then e1 else leF M N 64
theorem Re{k:Nat}(h:k<64)(hn:¬M k<=N k):leF M N 64=false:=by
 have:∀d,leF M N (k+1+d)=false:=by
  intro d;induction d with
  |zero=>show(leF M N k&&decide (M k<=N k))=false;rw[bT hn];simp
  |succ d ih=>show(leF M N (k+1+d)&&_)=false;rw[ih];rfl
 rw[show 64=k+1+(63-k) by omega];exact this _
theorem Ia:Calls prog 77 #[.agg (oc e1 M),.agg (oc e2 N)] w λe w'=>e=.returned (.bool (DY e1 e2 M N))/\dc w w':=by
 obtain⟨f,c⟩:∃f,f=(w.alloc (.cells (oc e1 M) tO)).alloc (.cells (oc e2 N) tO):=⟨_,rfl⟩
 have t:AL f w.heap.size e1 M:=by rw[c];exact At.allocH (At.new _ _ _) _
 have u:AL f (w.heap.size+1) e2 N:=by
  have:=At.new (w.alloc (.cells (oc e1 M) tO)) (oc e2 N) tO;rw[show(w.alloc (.cells (oc e1 M) tO)).heap.size=w.heap.size+1 by simp]at this;rw[c];exact this
 have A:dc w f:=by rw[c];exact((bC _ _).alloc (bB _) _).alloc (by simp) _
 have af:f.heap.size=w.heap.size+2:=by rw[c];simp
 have I:f.cell? ⟨w.heap.size,0,none⟩=some (.bool e1):=by rw[At.cell t];exact Ib _ _
 have K:f.cell? ⟨w.heap.size+1,0,none⟩=some (.bool e2):=by rw[At.cell u];exact Ib _ _
 have x:Hid (f=_):=c;have T:Hid (AL f w.heap.size e1 M):=t;have U:Hid (AL f (w.heap.size+1) e2 N):=u;have o:Hid (dc w f):=A;clear t u A;cases e1 with
 |true=>
  have B:Hid (DY true e2 M N=true):=rfl;rw[c]at I K;clear c;go_enter func77,ntmps77;go_wp2_with fail;go_ret;exact⟨by rw[B.out];rfl,by have:=o.out;rw[x.out]at this;exact this⟩
 |false=>
 cases e2 with
 |true=>
  have B:Hid (DY false true M N=false):=rfl;rw[c]at I K;clear c;go_enter func77,ntmps77;go_wp2_with fail;go_ret;exact⟨by rw[B.out];rfl,by have:=o.out;rw[x.out]at this;exact this⟩
 |false=>
  have B:Hid (DY false false M N=leF M N 64):=rfl;rw[c]at I K;clear c;go_enter func77,ntmps77;go_wp2_with fail;go_loopw [5] (λi wr=>∃(p d:Nat),p<=8/\i=.int .i64 p/\Hid (leF M N (p*8)=true/\wr=f.drewN d)) (λi _=>8-(intOf i).toNat);case atStart=>exact⟨0,0,by omega,rfl,rfl,x.out.symm⟩
  case round=>
   obtain⟨p,d,hp,rfl,D⟩:=hrel;by_cases ac:p<8
   .have ad:(p:Int)<8:=by omega
    obtain⟨S,rfl⟩:∃S,S=wr:=⟨_,rfl⟩
    go_wp2_with fail;go_loopw [6] (λj wr=>∃(q d:Nat),q<=8/\j=.int .i64 q/\Hid (leF M N (p*8+q)=true/\wr=f.drewN d)) (λj _=>8-(intOf j).toNat);case atStart=>exact⟨0,d,by omega,rfl,D.out⟩
    case round=>
     obtain⟨q,d,hq,rfl,l⟩:=hrel;by_cases R:q<8
     .have ae:(q:Int)<8:=by omega
      have c1:wr.cell? ⟨w.heap.size,1+p*8+q,none⟩=some (.int .i64 (M (p*8+q))):=by rw[bS,l.out.2];exact AL.cell (w:=f.drewN d) (At.drewN T.out d) (p*8+q) (by omega)
      have c2:wr.cell? ⟨w.heap.size+1,1+p*8+q,none⟩=some (.int .i64 (N (p*8+q))):=by rw[bS,l.out.2];exact AL.cell (w:=f.drewN d) (At.drewN U.out d) (p*8+q) (by omega)
      have W:Hid (leF M N (p*8+(q+1))=(leF M N (p*8+q)&&decide (M (p*8+q)<=N (p*8+q)))):=rfl;have aa:Hid (¬M (p*8+q)<=N (p*8+q)->leF M N 64=false):=λh=>Re (by omega) h;generalize M (p*8+q)=m at *;generalize N (p*8+q)=n at *;by_cases hn:n<m
      .have HF:Hid (leF M N 64=false):=aa.out (by omega);go_wp2_with fail;go_quiet (fail);go_wp2_with fail;go_ret;refine⟨by rw[B.out,HF.out];rfl,?_⟩;rw[l.out.2];exact bD (bD o.out _) _
      .have ab:m<=n:=by omega
       go_wp2_with fail;go_quiet (fail);go_wp2_with fail;go_roundw;case rel=>exact⟨q+1,d+nq,by omega,by go_num,by rw[W.out,l.out.1];simpa using ab,by rw[l.out.2];exact World.drewN_drewN _ _ _⟩
       case measure=>simp[intOf];omega
     .have H:q=8:=by omega
      subst H;go_wp2_with fail;go_roundw;case rel=>exact⟨p+1,d,by omega,by go_num,by rw[show(p+1)*8=p*8+8 by omega];exact l.out.1,l.out.2⟩
      case measure=>simp[intOf];omega
   .have G:p=8:=by omega
    subst G;go_wp2_with fail;go_ret;refine⟨by rw[B.out,D.out.1];rfl,?_⟩;rw[D.out.2];exact bD o.out _
def jF(M N:Nat->Int):Nat->Nat->Int
 |0=>M
 |k+1=>if jF M N k k<N k then Bw (jF M N k) k (N k)else jF M N k
def Hn(e1 e2:Bool):Bool:=if e1=true then e2 else e1
def GF(e1 e2:Bool)(M N:Nat->Int):Nat->Int:=if e1=true then N else if e2=true then M else jF M N 64
theorem Tp:Calls prog 78 #[.agg (oc e1 M),.agg (oc e2 N)] w λe w'=>e=.returned (.agg (oc (Hn e1 e2) (GF e1 e2 M N)))/\dc w w':=by
 have hz:=Bn;obtain⟨f,c⟩:∃f,f=((w.alloc (.cells (oc e1 M) tO)).alloc (.cells (oc e2 N) tO)).alloc (.cells (oc false λ_=>0) tO):=⟨_,rfl⟩
 have t:AL f w.heap.size e1 M:=by rw[c];exact At.allocH (At.allocH (At.new _ _ _) _) _
 have u:AL f (w.heap.size+1) e2 N:=by
  have:=At.new (w.alloc (.cells (oc e1 M) tO)) (oc e2 N) tO;rw[show(w.alloc (.cells (oc e1 M) tO)).heap.size=w.heap.size+1 by simp]at this;rw[c];exact At.allocH this _
 have P:AL f (w.heap.size+2) false (λ_=>0):=by
  have:=At.new ((w.alloc (.cells (oc e1 M) tO)).alloc (.cells (oc e2 N) tO)) (oc false λ_=>0) tO;rw[show((w.alloc (.cells (oc e1 M) tO)).alloc (.cells (oc e2 N) tO)).heap.size=w.heap.size+2 by simp]at this;rw[c];exact this
 have A:dc w f:=by rw[c];exact(((bC _ _).alloc (bB _) _).alloc (by simp) _).alloc (by simp;omega) _
 have af:f.heap.size=w.heap.size+3:=by rw[c];simp
 have I:f.cell? ⟨w.heap.size,0,none⟩=some (.bool e1):=by rw[At.cell t];exact Ib _ _
 have K:f.cell? ⟨w.heap.size+1,0,none⟩=some (.bool e2):=by rw[At.cell u];exact Ib _ _
 have x:Hid (f=_):=c;have T:Hid (AL f w.heap.size e1 M):=t;have U:Hid (AL f (w.heap.size+1) e2 N):=u;have V:Hid (AL f (w.heap.size+2) false λ_=>0):=P;have o:Hid (dc w f):=A;clear t u P A;cases e1 with
 |true=>
  obtain⟨s,v,g,r⟩:=Al (V.out) (e2) (N);have E:Hid (AL s (w.heap.size+2) (e2) (N)/\dc w s):=⟨g,(o.out).trans (r.below (by omega) (by omega))⟩
  clear g r;have F:=U.out;rw[c]at I K v F;have Y:Hid (AL _ _ _ _):=F;clear c F;go_enter func78,ntmps78;go_wp2_with (refine AH rfl (.tmp 3) rfl rfl Y.out ?_);try simp only[Exit.inBlock,Exit.then]
  refine bJ (Ag rfl _ rfl E.out.1) rfl ?_;exact⟨rfl,E.out.2⟩
 |false=>
 cases e2 with
 |true=>
  obtain⟨s,v,g,r⟩:=Al (V.out) (false) (M);have E:Hid (AL s (w.heap.size+2) (false) (M)/\dc w s):=⟨g,(o.out).trans (r.below (by omega) (by omega))⟩
  clear g r;have z:=T.out;rw[c]at I K v z;have X:Hid (AL _ _ _ _):=z;clear c z;go_enter func78,ntmps78;go_wp2_with (refine AH rfl (.tmp 2) rfl rfl X.out ?_);try simp only[Exit.inBlock,Exit.then]
  refine bJ (Ag rfl _ rfl E.out.1) rfl ?_;exact⟨rfl,E.out.2⟩
 |false=>
  rw[c]at I K;clear c;go_enter func78,ntmps78;go_wp2_with fail;go_loopw [5] (λi wr=>∃(p:Nat),p<=8/\i=.int .i64 p/\Hid (AL wr w.heap.size false (jF M N (p*8))/\BC w.heap.size f wr)) (λi _=>8-(intOf i).toNat);case atStart=>exact⟨0,by omega,rfl,by have:=T.out;rw[x.out]at this;exact this,by rw[<-x.out];exact BC.refl _ _⟩
  case round=>
   obtain⟨p,hp,rfl,D⟩:=hrel;by_cases ac:p<8
   .have ad:(p:Int)<8:=by omega
    obtain⟨S,rfl⟩:∃S,S=wr:=⟨_,rfl⟩
    go_wp2_with fail;go_loopw [6] (λj wr=>∃(q:Nat),q<=8/\j=.int .i64 q/\Hid (AL wr w.heap.size false (jF M N (p*8+q))/\BC w.heap.size f wr)) (λj _=>8-(intOf j).toNat);case atStart=>exact⟨0,by omega,rfl,D.out⟩
    case round=>
     obtain⟨q,hq,rfl,l⟩:=hrel;by_cases R:q<8
     .have ae:(q:Int)<8:=by omega
      have hk:p*8+q<64:=by omega
      have C:Hid (jF M N (p*8+(q+1))=if jF M N (p*8+q) (p*8+q)<N (p*8+q)then Bw (jF M N (p*8+q)) (p*8+q) (N (p*8+q))else jF M N (p*8+q)):=rfl;generalize jF M N (p*8+q)=J at *;have c1:wr.cell? ⟨w.heap.size,1+p*8+q,none⟩=some (.int .i64 (J (p*8+q))):=by rw[bS];exact l.out.1.cell (p*8+q) hk
      have O:AL wr (w.heap.size+1) false N:=l.out.2.at_ U.out (by omega);have c2:wr.cell? ⟨w.heap.size+1,1+p*8+q,none⟩=some (.int .i64 (N (p*8+q))):=by rw[bS];exact O.cell (p*8+q) hk
      have cf:wr.frozen? ⟨w.heap.size,1+p*8+q,none⟩=false:=At.free l.out.1 _;have z:w.heap.size<wr.heap.size:=At.lt l.out.1;clear O;generalize hJ:J (p*8+q)=m at *;generalize hNn:N (p*8+q)=n at *;have ag:Hid (N (p*8+q)=n):=hNn;clear hJ hNn;by_cases hn:m<n
      .have B:Hid (_=_):=C.out.trans (bA hn);clear C;go_wp2_with fail;go_quiet (fail);obtain⟨s,y⟩:∃s,s=wr.drewN nq:=⟨_,rfl⟩
       rw[<-y];have k1:∀a,s.cell? a=wr.cell? a:=λa=>by rw[y];rfl
       rw[<-k1]at c1 c2;have ah:s.frozen? ⟨w.heap.size,1+p*8+q,none⟩=false:=by rw[y];exact cf
       have L:Hid (AL s w.heap.size false J/\BC w.heap.size f s):=by rw[y];exact⟨At.drewN l.out.1 nq,l.out.2.drewN nq⟩
       have ai:w.heap.size<s.heap.size:=by rw[y];exact z
       clear k1 y cf z;go_wp2_with fail;go_region;all_goals
        go_wp2_with fail;go_roundw;case rel=>
         refine⟨q+1,by omega,by go_num,?_,(L.out.2.setCell _ _).drewN 1⟩;rw[B.out,bS];exact At.drewN (AL.put L.out.1 (p*8+q) hk _) 1
        case measure=>simp[intOf];omega
      .have B:Hid (_=_):=C.out.trans (a_ hn);clear C;go_wp2_with fail;go_quiet (fail);go_wp2_with fail;go_roundw;case rel=>exact⟨q+1,by omega,by go_num,by rw[B.out];exact At.drewN l.out.1 nq,l.out.2.drewN nq⟩
       case measure=>simp[intOf];omega
     .have H:q=8:=by omega
      subst H;go_wp2_with fail;go_roundw;case rel=>exact⟨p+1,by omega,by go_num,by rw[show(p+1)*8=p*8+8 by omega];exact l.out.1,l.out.2⟩
      case measure=>simp[intOf];omega
   .have G:p=8:=by omega
    subst G;have h3:AL wr (w.heap.size+2) false (λ_=>0):=D.out.2.at_ V.out (by omega);have aj:=D.out.2.size;have Q:dc w wr:=o.out.trans (D.out.2.below (bB _) (by omega));obtain⟨s,v,g,r⟩:=Al (h3) (false) (jF M N 64);have E:Hid (AL s (w.heap.size+2) (false) (jF M N 64)/\dc w s):=⟨g,(Q).trans (r.below (by omega) (by omega))⟩
    clear g r;have Z:Hid (AL wr w.heap.size false (jF M N 64)):=D.out.1;clear h3 Q;go_wp2_with (refine AH rfl (.tmp 2) rfl rfl Z.out ?_);try simp only[Exit.inBlock,Exit.then]
    refine bJ (Ag rfl _ rfl E.out.1) rfl ?_;exact⟨rfl,E.out.2⟩
variable {e0:Bool}
theorem Xx(hG:Cr w)(v:Value)(l:List Int)(Y:AQ w v l):
  Calls prog 73 #[v] w λe w'=>dc w w'/\((B_ l/\e=.returned (.tuple #[.agg (oc (ovE l) (BT l)),.int .i64 0]))\/(¬B_ l/\e=.returned (.tuple #[.agg (oc false λ_=>0),.int .i64 3]))):=by
 cases X:FM l with
 |true=>exact(Fb hG v l (CG.1 X) Y).mono λe w' h'=>⟨h'.2,.inl ⟨CG.1 X,h'.1⟩⟩
 |false=>exact(PL v l Y X).mono λe w' h'=>⟨h'.2,.inr ⟨(λq=>by rw[CG.2 q]at X;cases X),h'.1⟩⟩
theorem Bb(f:World)(e:Bool)(M:Nat->Int):∃z,(storeCells ⟨f.heap.size,0,none⟩ (oc e M).toList).run prog (f.alloc (.cells (oc false λ_=>0) tO))=.ok () z/\AL z f.heap.size e M/\dc f z/\f.heap.size<z.heap.size:=by
 have h0:AL (f.alloc (.cells (oc false λ_=>0) tO)) f.heap.size false (λ_=>0):=At.new _ _ _;obtain⟨z,h1,h2,h3⟩:=Al h0 e M;exact⟨z,h1,h2,((bC _ _).alloc (bB _) _).trans (h3.below (bB _) (by simp)),At.lt h2⟩
theorem Rm(h:AL w b e0 M)(P:Bool)(O:Nat->Int):∃f,(Instr.storeAt tO (.pointer (some ⟨b,0,none⟩)) (.agg (oc P O))).run prog w=.ok () f/\AL f b P O/\BC b w f:=by
 refine⟨w.setRow b (oc P O),?_,setRow_heap w b (oc e0 M) (oc P O) tO (0,0) h,⟨rfl,rfl,rfl,by simp[World.setRow],λk _ hk=>setRow_other w b k _ (λe=>hk e)⟩⟩;simp only[Instr.storeAt,Instr.sureAddr,Sem.run_bind,Sem.run_pure,Result.andThen];exact run_storeVar_row w b tO tO (oc e0 M) (oc P O) h (by rw[Am];kernel_rfl) (by rw[Am,Am]) (Array.all_eq_true_iff_forall_mem.2 λv Y=>Hr P O v (by simpa using Y))
theorem DL{af:Array Oper}{o:Oper}{a:Act}{K:Act->World->Prop}{Q:Exit->Act->World->Prop}{E:Prop}(X:o.guard=none)(p x:Operand)(ai:o.op=Op.store tO p x)(hp:a.eval p=.pointer (some ⟨b,0,none⟩))(P:Bool)(O:Nat->Int)(hx:a.eval x=.agg (oc P O))(V:AL w b e0 M)
  (d:∀w',AL w' b P O->BC b w w'->K (a.put o.dst undef) w'):if Region.wanted o (yielded af a.tmps)=true then Oper.wp prog o a w K Q else E:=by
 have hw:Region.wanted o (yielded af a.tmps)=true:=by simp[Region.wanted,X]
 rw[bA hw];obtain⟨f,h1,h2,h3⟩:=Rm V P O;unfold Oper.wp;simp[execOp,ai,hp,hx,h1,Result.andThen,Oper.upon];exact d f h2 h3
theorem FG{fn:Func}{t u x:Tmp}{b2:Nat}(h:fn.results=#[.cell t tO,.cell u tO,.tmp x])(m:Array Value)(hp:m.getD t undef=.pointer (some ⟨b,0,none⟩))(ak:m.getD u undef=.pointer (some ⟨b2,0,none⟩))(V:AL w b e1 M)(A:AL w b2 e2 N):
  (results fn m).run prog w=.ok (.tuple #[.agg (oc e1 M),.agg (oc e2 N),m.getD x undef]) w:=by
 have aj:m[t]?.getD undef=.pointer (some ⟨b,0,none⟩):=by simpa using hp
 have ad:m[u]?.getD undef=.pointer (some ⟨b2,0,none⟩):=by simpa using ak
 simp[results,h,aj,ad,asAddr,Fa V,Fa A]
def SH(w:World)(u:Value)(e:Bool)(M:Nat->Int)(c:Int):Prop:=∀f,dc w f->Calls prog 73 #[u] f λx w'=>x=.returned (.tuple #[.agg (oc e M),.int .i64 c])/\dc f w'
theorem Hz(u v:Value)(ae:SH w u e1 M 0)(c:Int)(I:SH w v e2 N c)(hu:∃a n k,u=.slice a n k)(Y:∃a n k,v=.slice a n k):
  Calls prog 76 #[u,v] w λe w'=>e=.returned (.tuple #[.agg (oc e1 M),.agg (oc e2 N),.int .i64 c])/\dc w w':=by
 have hz:=Bn;obtain⟨R,D⟩:∃R,R=(w.alloc (.cells (oc false λ_=>0) tO)).alloc (.cells (oc false λ_=>0) tO):=⟨_,rfl⟩
 have W:dc w R:=by rw[D];exact((bC _ _).alloc (bB _) _).alloc (by simp) _
 have ar:R.heap.size=w.heap.size+2:=by rw[D];simp
 have ab:AL R w.heap.size false (λ_=>0):=by rw[D];exact At.allocH (At.new _ _ _) _
 have ac:AL R (w.heap.size+1) false (λ_=>0):=by
  have:=At.new (w.alloc (.cells (oc false λ_=>0) tO)) (oc false λ_=>0) tO;rw[show(w.alloc (.cells (oc false λ_=>0) tO)).heap.size=w.heap.size+1 by simp]at this;rw[D];exact this
 have H:=ae R W;have ag:Hid (dc w R):=W;have aa:Hid (AL R w.heap.size false (λ_=>0)/\AL R (w.heap.size+1) false (λ_=>0)):=⟨ab,ac⟩
 rw[D]at H;clear ab ac W;have ah:Hid (SH w v e2 N c):=I;obtain⟨au,nu,cu,rfl⟩:=hu;obtain⟨av,nv,cv,rfl⟩:=Y;clear ae I;go_enter func76,ntmps76;go_wp2_with fail;refine H.mono ?_;rintro e f ⟨rfl,B⟩;rw[<-D]at B;have U:dc w f:=ag.out.trans (B.mono (by omega));obtain⟨z,an,A,S,al⟩:=Bb f (e1) (M);have ap:w.heap.size+2<=f.heap.size:=by have:=B.size;omega
 have H1:Hid (AL f w.heap.size false (λ_=>0)/\AL f (w.heap.size+1) false (λ_=>0)):=⟨At.keep aa.out.1 B (by omega),At.keep aa.out.2 B (by omega)⟩
 have H2:Hid (AL z f.heap.size (e1) (M)/\AL z w.heap.size false (λ_=>0)/\AL z (w.heap.size+1) false (λ_=>0)/\dc w z):=⟨A,At.keep H1.out.1 S (by omega),At.keep H1.out.2 S (by omega),U.trans (S.mono (by omega))⟩
 clear B A S H U;have I:=ah.out z H2.out.2.2.2;go_wp2_with fail;refine I.mono ?_;rintro e Z ⟨rfl,C⟩;obtain⟨J,ao,T,G,aw⟩:=Bb Z e2 N;have aq:=C.size;have H4:Hid (AL J Z.heap.size e2 N/\AL J f.heap.size e1 M/\AL J w.heap.size false (λ_=>0)/\AL J (w.heap.size+1) false (λ_=>0)/\dc w J):=
  ⟨T,At.keep (At.keep H2.out.1 C al) G (by omega),At.keep (At.keep H2.out.2.1 C (by omega)) G (by omega),At.keep (At.keep H2.out.2.2.1 C (by omega)) G (by omega),(H2.out.2.2.2.trans (C.mono (by omega))).trans (G.mono (by omega))⟩
 clear C T G I;go_wp2_with fail;refine wp_region_any (by kernel_rfl) ?_;change wpAny _ _ _ _ _ _ _ (World.drew _);have am:f.heap.size≠w.heap.size:=by omega
 have h5:Hid (AL J.drew Z.heap.size e2 N/\AL J.drew f.heap.size e1 M/\AL J.drew w.heap.size false (λ_=>0)/\AL J.drew (w.heap.size+1) false (λ_=>0)/\dc w J.drew):=⟨H4.out.1,H4.out.2.1,H4.out.2.2.1,H4.out.2.2.2.1,H4.out.2.2.2.2.drew⟩
 generalize J.drew=w5 at *;refine bQ (i:=2) (v:=.int .i64 c) rfl (by kernel_rfl) (by kernel_rfl) (by kernel_rfl) (λ_ _ _ h=>h) (b_ ⟨by rfl,by intro w;go_simp⟩) ?_;refine bI (rs:=[0,1]) (by kernel_rfl) (by simp) ?_;refine bE (o:=⟨some 25,.load tO (.tmp 7),_,_,_,none⟩) rfl (λK d=>?_) (bE (o:=⟨some 26,.load tO (.tmp 9),_,_,_,none⟩) rfl (λK d=>?_) bF)
 .refine AX rfl (.tmp 7) rfl rfl h5.out.2.1 ?_;refine d _ _ ?_;clear d K;refine bI (rs:=[1,3]) (by kernel_rfl) (by simp) ?_;refine bE (o:=⟨some 26,.load tO (.tmp 9),_,_,_,none⟩) rfl (λK d=>?_) (bE (o:=⟨none,.store tO (.tmp 4) (.tmp 25),_,_,_,none⟩) rfl (λK d=>?_) bF)
  .refine AX rfl (.tmp 9) rfl rfl h5.out.1 ?_;refine d _ _ ?_;clear d K;refine bI (rs:=[3]) (by kernel_rfl) (by simp) ?_;refine bE (o:=⟨none,.store tO (.tmp 4) (.tmp 25),_,_,_,none⟩) rfl (λK d=>?_) bF;refine DL rfl (.tmp 4) (.tmp 25) rfl rfl e1 M rfl h5.out.2.2.1 (λw6 r g=>?_);refine d _ _ ?_;clear d K;have y:Hid (AL w6 Z.heap.size e2 N/\AL w6 w.heap.size e1 M/\AL w6 (w.heap.size+1) false (λ_=>0)/\dc w w6):=⟨g.at_ h5.out.1 (by omega),r,g.at_ h5.out.2.2.2.1 (by omega),h5.out.2.2.2.2.trans (g.below (bB _) h5.out.2.2.2.2.size)⟩
   clear r g;refine bI (rs:=[4]) (by kernel_rfl) (by simp) ?_;refine bE (o:=⟨none,.store tO (.tmp 5) (.tmp 26),_,_,_,none⟩) rfl (λK d=>?_) bF;refine DL rfl (.tmp 5) (.tmp 26) rfl rfl e2 N rfl y.out.2.2.1 (λL s j=>?_);refine d _ _ ?_;clear d K;have F:Hid (AL L w.heap.size e1 M/\AL L (w.heap.size+1) e2 N/\dc w L):=⟨j.at_ y.out.2.1 (by omega),s,y.out.2.2.2.trans (j.below (by omega) y.out.2.2.2.size)⟩
   clear s j;refine bQ (i:=5) (v:=.int .i64 c) rfl (by kernel_rfl) (by kernel_rfl) (by kernel_rfl) (λ_ _ _ h=>h) (b_ ⟨by rfl,by intro w;go_simp⟩) ?_;refine cr (by kernel_rfl) ?_ _;go_wp2_with fail;try simp only[Exit.inBlock,Exit.then]
   refine bJ (FG rfl _ rfl rfl F.out.1 F.out.2.1) rfl ?_;exact⟨rfl,F.out.2.2⟩
  .refine DL rfl (.tmp 4) (.tmp 25) rfl rfl e1 M rfl h5.out.2.2.1 (λw6 r g=>?_);refine d _ _ ?_;clear d K;have y:Hid (AL w6 Z.heap.size e2 N/\AL w6 w.heap.size e1 M/\AL w6 (w.heap.size+1) false (λ_=>0)/\dc w w6):=⟨g.at_ h5.out.1 (by omega),r,g.at_ h5.out.2.2.2.1 (by omega),h5.out.2.2.2.2.trans (g.below (bB _) h5.out.2.2.2.2.size)⟩
   clear r g;refine bI (rs:=[1]) (by kernel_rfl) (by simp) ?_;refine bE (o:=⟨some 26,.load tO (.tmp 9),_,_,_,none⟩) rfl (λK d=>?_) bF;refine AX rfl (.tmp 9) rfl rfl y.out.1 ?_;refine d _ _ ?_;clear d K;refine bI (rs:=[4]) (by kernel_rfl) (by simp) ?_;refine bE (o:=⟨none,.store tO (.tmp 5) (.tmp 26),_,_,_,none⟩) rfl (λK d=>?_) bF;refine DL rfl (.tmp 5) (.tmp 26) rfl rfl e2 N rfl y.out.2.2.1 (λL s j=>?_);refine d _ _ ?_;clear d K;have F:Hid (AL L w.heap.size e1 M/\AL L (w.heap.size+1) e2 N/\dc w L):=⟨j.at_ y.out.2.1 (by omega),s,y.out.2.2.2.trans (j.below (by omega) y.out.2.2.2.size)⟩
   clear s j;refine bQ (i:=5) (v:=.int .i64 c) rfl (by kernel_rfl) (by kernel_rfl) (by kernel_rfl) (λ_ _ _ h=>h) (b_ ⟨by rfl,by intro w;go_simp⟩) ?_;refine cr (by kernel_rfl) ?_ _;go_wp2_with fail;try simp only[Exit.inBlock,Exit.then]
   refine bJ (FG rfl _ rfl rfl F.out.1 F.out.2.1) rfl ?_;exact⟨rfl,F.out.2.2⟩
 .refine AX rfl (.tmp 9) rfl rfl h5.out.1 ?_;refine d _ _ ?_;clear d K;refine bI (rs:=[0]) (by kernel_rfl) (by simp) ?_;refine bE (o:=⟨some 25,.load tO (.tmp 7),_,_,_,none⟩) rfl (λK d=>?_) bF;refine AX rfl (.tmp 7) rfl rfl h5.out.2.1 ?_;refine d _ _ ?_;clear d K;refine bI (rs:=[3]) (by kernel_rfl) (by simp) ?_;refine bE (o:=⟨none,.store tO (.tmp 4) (.tmp 25),_,_,_,none⟩) rfl (λK d=>?_) bF;refine DL rfl (.tmp 4) (.tmp 25) rfl rfl e1 M rfl h5.out.2.2.1 (λw6 r g=>?_);refine d _ _ ?_;clear d K;have y:Hid (AL w6 Z.heap.size e2 N/\AL w6 w.heap.size e1 M/\AL w6 (w.heap.size+1) false (λ_=>0)/\dc w w6):=⟨g.at_ h5.out.1 (by omega),r,g.at_ h5.out.2.2.2.1 (by omega),h5.out.2.2.2.2.trans (g.below (bB _) h5.out.2.2.2.2.size)⟩
  clear r g;refine bI (rs:=[4]) (by kernel_rfl) (by simp) ?_;refine bE (o:=⟨none,.store tO (.tmp 5) (.tmp 26),_,_,_,none⟩) rfl (λK d=>?_) bF;refine DL rfl (.tmp 5) (.tmp 26) rfl rfl e2 N rfl y.out.2.2.1 (λL s j=>?_);refine d _ _ ?_;clear d K;have F:Hid (AL L w.heap.size e1 M/\AL L (w.heap.size+1) e2 N/\dc w L):=⟨j.at_ y.out.2.1 (by omega),s,y.out.2.2.2.trans (j.below (by omega) y.out.2.2.2.size)⟩
  clear s j;refine bQ (i:=5) (v:=.int .i64 c) rfl (by kernel_rfl) (by kernel_rfl) (by kernel_rfl) (λ_ _ _ h=>h) (b_ ⟨by rfl,by intro w;go_simp⟩) ?_;refine cr (by kernel_rfl) ?_ _;go_wp2_with fail;try simp only[Exit.inBlock,Exit.then]
  refine bJ (FG rfl _ rfl rfl F.out.1 F.out.2.1) rfl ?_;exact⟨rfl,F.out.2.2⟩
theorem BF.from_{w d:World}{x:Ending}{w':World}(h:BF d e0 M x w')(hb:dc w d):BF w e0 M x w':=by
 have hs:=hb.size;obtain⟨h1,h2⟩:=h;refine⟨hb.trans (h1.mono hs),?_⟩;rcases h2 with h2|⟨he,g,hx,hg,U⟩
 .exact .inl h2
 .exact .inr ⟨he,g,hx,by omega,U⟩
def Jr(w:World)(e:Bool)(M:Nat->Int):Ending->World->Prop:=λx w'=>∃y,BF w e M (.returned y) w'/\x=.returned (.tuple #[y,.int .i64 0])
theorem BF.val{x:Ending}{w':World}(h:BF w e0 M x w'):∃y,x=.returned y/\∃a n c,y=.slice a n c:=by
 obtain⟨_,⟨_,h⟩|⟨_,g,h,_⟩⟩:=h
 .exact⟨_,h,_,_,_,rfl⟩
 .exact⟨_,h,_,_,_,rfl⟩
theorem Wc(H:Cr w)(u:Value)(hr:SH w u e1 M 0)(L:Sm M)(K:∃a n k,u=.slice a n k):
  Calls prog 35 #[u] w (Jr w e1 M):=by
 have hz:=Bn;have I:=H.size;have r:=hr w (bC _ _);have S:Hid (∀d,dc w d->Calls prog 74 #[.agg (oc e1 M)] d (BF w e1 M)):=λd hb=>(MZ (H.keep hb I) L).mono λx w' h=>h.from_ hb;obtain⟨au,nu,cu,rfl⟩:=K;clear H hr L;go_enter func35,ntmps35;go_wp2_with fail;refine r.mono ?_;rintro e d ⟨rfl,i⟩;obtain⟨p,aa,F,o,D⟩:=Bb d e1 M;have H2:Hid (AL p d.heap.size e1 M/\dc w p):=⟨F,i.trans (o.mono i.size)⟩
 have W:=S.out p H2.out.2;clear i F o;go_wp2_with (refine AH rfl (.tmp 4) rfl rfl H2.out.1 ?_);refine W.mono ?_;intro x Y hx;obtain⟨y,rfl,a,n,c,rfl⟩:=hx.val;have T:Hid (BF w e1 M (.returned (.slice a n c)) Y):=hx;clear hx;go_wp2_with fail
 go_ret2
 exact⟨_,T.out,rfl⟩
theorem Uy(u v:Value)(r:SH w u e1 M 0)(A:SH w v e2 N 0)(K:∃a n k,u=.slice a n k)(Q:∃a n k,v=.slice a n k):
  Calls prog 37 #[u,v] w λe w'=>e=.returned (.tuple #[.bool (DY e1 e2 M N),.int .i64 0])/\dc w w':=by
 have hz:=Bn;have hb:=Hz u v r 0 A K Q;obtain⟨au,nu,cu,rfl⟩:=K;obtain⟨av,nv,cv,rfl⟩:=Q;clear r A;go_enter func37,ntmps37;go_wp2_with fail;refine hb.mono ?_;rintro e d ⟨rfl,i⟩;obtain⟨p,f⟩:∃p,p=(d.alloc (.cells (oc false λ_=>0) tO)).alloc (.cells (oc false λ_=>0) tO):=⟨_,rfl⟩
 have s:AL p d.heap.size false (λ_=>0):=by rw[f];exact At.allocH (At.new _ _ _) _
 have t:AL p (d.heap.size+1) false (λ_=>0):=by
  have:=At.new (d.alloc (.cells (oc false λ_=>0) tO)) (oc false λ_=>0) tO;rw[show(d.alloc (.cells (oc false λ_=>0) tO)).heap.size=d.heap.size+1 by simp]at this;rw[f];exact this
 have o:dc d p:=by rw[f];exact((bC _ _).alloc (bB _) _).alloc (by simp) _
 obtain⟨Y,B,l,j⟩:=Al s e1 M;obtain⟨E,P,m,q⟩:=Al (j.at_ t (by omega)) e2 N;have D:p.heap.size=d.heap.size+2:=by rw[f];simp
 have C:Hid (AL E d.heap.size e1 M/\AL E (d.heap.size+1) e2 N/\dc w E):=by
  have R:=i.size;have q3:=j.size;exact⟨q.at_ l (by omega),m,((i.trans (o.mono R)).trans (j.below R (by omega))).trans (q.below (by omega) (by omega))⟩
 rw[f]at B;clear s t o l j m q f i hb D;have X:=Ia (w:=E) (e1:=e1) (e2:=e2) (M:=M) (N:=N);go_wp2_with (first|refine AH rfl (.tmp 6) rfl rfl C.out.1 ?_|refine AH rfl (.tmp 7) rfl rfl C.out.2.1 ?_);refine X.mono ?_;rintro e Z ⟨rfl,z⟩;go_wp2_with fail
 go_ret2
 exact⟨rfl,C.out.2.2.trans (z.mono C.out.2.2.size)⟩
theorem YW(H:Cr w)(u v:Value)(r:SH w u e1 M 0)(A:SH w v e2 N 0)(L:Sm (GF e1 e2 M N))(K:∃a n k,u=.slice a n k)(Q:∃a n k,v=.slice a n k):
  Calls prog 39 #[u,v] w (Jr w (Hn e1 e2) (GF e1 e2 M N)):=by
 have hz:=Bn;have I:=H.size;have hb:=Hz u v r 0 A K Q;have S:Hid (∀d,dc w d->Calls prog 74 #[.agg (oc (Hn e1 e2) (GF e1 e2 M N))] d (BF w (Hn e1 e2) (GF e1 e2 M N))):=λd hb=>(MZ (H.keep hb I) L).mono λx w' h=>h.from_ hb;obtain⟨au,nu,cu,rfl⟩:=K;obtain⟨av,nv,cv,rfl⟩:=Q;clear r A H L;go_enter func39,ntmps39;go_wp2_with fail;refine hb.mono ?_;rintro e d ⟨rfl,i⟩;obtain⟨p,f⟩:∃p,p=(d.alloc (.cells (oc false λ_=>0) tO)).alloc (.cells (oc false λ_=>0) tO):=⟨_,rfl⟩
 have s:AL p d.heap.size false (λ_=>0):=by rw[f];exact At.allocH (At.new _ _ _) _
 have t:AL p (d.heap.size+1) false (λ_=>0):=by
  have:=At.new (d.alloc (.cells (oc false λ_=>0) tO)) (oc false λ_=>0) tO;rw[show(d.alloc (.cells (oc false λ_=>0) tO)).heap.size=d.heap.size+1 by simp]at this;rw[f];exact this
 have o:dc d p:=by rw[f];exact((bC _ _).alloc (bB _) _).alloc (by simp) _
 obtain⟨Y,B,l,j⟩:=Al s e1 M;obtain⟨E,P,m,q⟩:=Al (j.at_ t (by omega)) e2 N;have D:p.heap.size=d.heap.size+2:=by rw[f];simp
 have C:Hid (AL E d.heap.size e1 M/\AL E (d.heap.size+1) e2 N/\dc w E):=by
  have R:=i.size;have q3:=j.size;exact⟨q.at_ l (by omega),m,((i.trans (o.mono R)).trans (j.below R (by omega))).trans (q.below (by omega) (by omega))⟩
 rw[f]at B;clear s t o l j m q f i hb D;have V:=Tp (w:=E) (e1:=e1) (e2:=e2) (M:=M) (N:=N);generalize Hn e1 e2=e3 at *;generalize GF e1 e2 M N=J at *;go_wp2_with (first|refine AH rfl (.tmp 6) rfl rfl C.out.1 ?_|refine AH rfl (.tmp 7) rfl rfl C.out.2.1 ?_);refine V.mono ?_;rintro e Z ⟨rfl,z⟩;obtain⟨w6,ab,G,O,ac⟩:=Bb Z e3 J;have H6:Hid (AL w6 Z.heap.size e3 J/\dc w w6):=by
  have q4:=C.out.2.2.size;have q5:=z.size;exact⟨G,(C.out.2.2.trans (z.mono q4)).trans (O.mono (by omega))⟩
 have W:=S.out w6 H6.out.2;clear z G O;go_wp2_with (refine AH rfl (.tmp 9) rfl rfl H6.out.1 ?_);refine W.mono ?_;intro x w7 hx;obtain⟨y,rfl,a,n,c,rfl⟩:=hx.val;have T:Hid (BF w e3 J (.returned (.slice a n c)) w7):=hx;clear hx;go_wp2_with fail
 go_ret2
 exact⟨_,T.out,rfl⟩
theorem TK(l:List Value):∀(n:Nat)(C:Array Value),n+l.length<=C.size->(l.zipIdx n).foldl (λcs (x:Value×Nat)=>cs.setIfInBounds (0*65+x.2) x.1) C=(C.toList.take n++l++C.toList.drop (n+l.length)).toArray:=by
 induction l with
 |nil=>intro n C _;simp
 |cons a l ih=>
  intro n C h;rw[db]at h;rw[List.zipIdx_cons,List.foldl_cons,ih (n+1) _ (by simp;omega)]
  congr 1
  have hn:n<C.toList.length:=by simp;omega
  simp only[Nat.zero_mul,cU,Array.toList_setIfInBounds];rw[List.take_add_one,List.getElem?_set_self (by simpa using hn),List.take_set_of_le (bB _),List.drop_set_of_lt (by omega)];simp only[Option.toList,List.append_assoc,List.cons_append,db];rw[show n+1+l.length=n+(l.length+1) by omega];simp
theorem TA(A C:Array Value)(hs:A.size=65)(d:C.size=65):Instr.fill (λi=>some (i*65,65)) C [(0,.agg A)]=some A:=by
 have j:A.zipIdx.foldl (λcs (x:Value×Nat)=>cs.setIfInBounds (0*65+x.2) x.1) C=A:=by
  rw[<-Array.foldl_toList,Array.toList_zipIdx];have:=TK A.toList 0 C (by simp[hs,d]);rw[this];rw[List.drop_of_length_le (by simp[hs,d])];simp
 have hb:(decide (A.size≠65)||decide (0*65+A.size>C.size))=false:=by simp[hs,d]
 have h1:Instr.fill (λi=>some (i*65,65)) C [(0,.agg A)]=if(decide (A.size≠65)||decide (0*65+A.size>C.size))=true then none else some (A.zipIdx.foldl (λcs (x:Value×Nat)=>cs.setIfInBounds (0*65+x.2) x.1) C):=rfl
 rw[h1,hb,j];rfl
theorem TB(e:Bool)(M:Nat->Int)(C:Array Value)(d:C.size=65):Instr.fill (λi=>some (i*65,65)) C [(0,.agg (oc e M))]=some (oc e M):=TA _ C (Am e M) d
theorem Kj{f:Array Oper}{b:List Oper}{o:Oper}{a:Act}{Q:Exit->Act->World->Prop}(k:o.guard=none)(x:Operand)(m:o.op=.buildSlice 132 1 #[(0,x)])(e:Bool)(M:Nat->Int)(hx:a.eval x=.agg (oc e M))
  (h:wpList prog f Q b (a.put o.dst (.slice (some ⟨w.heap.size,0,none⟩) 1 1)) (w.alloc (.cells (oc e M) tO))):wpList prog f Q (o::b) a w:=by
 obtain⟨p,hi,g,c,aa⟩:=c_ (P:=prog) (e:=tO) (z:=.agg (oc false λ_=>0)) (size:=65) (bytes:=520) (by kernel_rfl);refine wpList_buildSlice k 132 tO 1 _ m (oc e M) p _ underlying132 hi g (by rw[c];decide) (by rw[c];decide) ?_ h;rw[c];have:=TB e M ((Array.range (1*65)).map ((Value.agg (oc false λ_=>0)).cells[·%(Value.agg (oc false λ_=>0)).cells.size]!)) (by simp);simpa[hx]using this
variable {s:ByteArray}
def cE:Option (List Int)->Bool
 |none=>true
 |some l=>ovE l
def cM:Option (List Int)->Nat->Int
 |none=>λ_=>0
 |some l=>BT l
def Tr(r:Option (List Int)):List Value:=(oc (cE r) (cM r)).toList
theorem Jj(r:Option (List Int)):(Tr r).length=65:=by simp[Tr,Am]
def FA(L:List (Option (List Int))):List Value:=L.flatMap Tr
theorem O4(L:List (Option (List Int)))(r:Option (List Int)):FA (L++[r])=FA L++Tr r:=by simp[FA]
theorem RV(L:List (Option (List Int)))(i k:Nat)(hi:i<L.length)(hk:k<65):(FA L)[i*65+k]?=(Tr (L.getD i none))[k]?:=by
 induction L generalizing i with
 |nil=>cases hi
 |cons r L ih=>
  have e:FA (r::L)=Tr r++FA L:=rfl;rw[e];cases i with
  |zero=>rw[bU (by rw[Jj];omega)];simp[List.getD]
  |succ i=>
   rw[List.getElem?_append_right (by rw[Jj];omega),Jj];rw[show(i+1)*65+k-65=i*65+k by omega,ih i (by simpa using hi)];simp[List.getD]
theorem FO{l:List Int}(h:F_ (some l)):B_ l:=CG.1 (Ma.1 h)
def JQ(w:World)(g:Nat)(L:List (Option (List Int))):Prop:=g<w.heap.size/\∀i k,i<L.length->k<65->w.cell? ⟨g,i*65+k,none⟩=(oc (cE (L.getD i none)) (cM (L.getD i none)))[k]?
theorem JQ.keep{w w':World}{g:Nat}{L:List (Option (List Int))}(h:JQ w g L)(hb:dc w w'):JQ w' g L:=
 ⟨bM h.1 hb.size,λi k hi hk=>(hb.cell h.1).trans (h.2 i k hi hk)⟩
theorem V_{base g cap:Nat}{L:List (Option (List Int))}(h:w.ownsRow base 90 65 (.slice (some ⟨g,0,none⟩) L.length cap) L.length (FA L)):JQ w g L:=by
 refine⟨(h.lt g rfl).2,λi k hi hk=>?_⟩;have e:=RV L i k hi hk;have e2:(Tr (L.getD i none))[k]?=(oc (cE (L.getD i none)) (cM (L.getD i none)))[k]?:=by simp[Tr]
 rw[e2]at e;have hs:k<(oc (cE (L.getD i none)) (cM (L.getD i none))).size:=by rw[Am];exact hk
 rw[cQ hs]at e|-;have:=h.cells (g:=g) rfl (i*65+k) _ e;rw[Dn]at this;exact this
def Wi(w:World)(s:ByteArray):Ending->World->Prop:=λe w'=>dc w w'/\
 ((DS (AA s)=none/\e=.returned (.tuple #[.slice none 0 0,.int .i64 4]))\/
  ∃L g,DS (AA s)=some L/\e=.returned (.tuple #[.slice (some ⟨g,0,none⟩) L.length 21,.int .i64 0])/\w.heap.size<=g/\JQ w' g L)
theorem Rg{base g:Nat}{X:List Value}{L:List (Option (List Int))}(hr:w.ownsRow base 32 1 (.slice (some ⟨g,0,none⟩) L.length 21) L.length X)(h:NA w base g X L):∀i,i<L.length->w.cell? ⟨g,i,none⟩=some (X.getD i (.bool false))/\PV w base (X.getD i (.bool false)) (L.getD i none):=by
 intro i hi;have aj:X[i]?=some (X.getD i (.bool false)):=by simp[List.getD,show i<X.length by rw[h.len];exact hi]
 have hc:=hr.cells (g:=g) rfl i _ aj;rw[Dn]at hc;exact⟨hc,h.each i hi⟩
theorem KM:∃C,Tryz.prog.info? tO=some C/\C.size=65:=by
 obtain⟨C,hi,aa,q,ab⟩:=c_ (P:=prog) (e:=tO) (z:=.agg (oc false λ_=>0)) (size:=65) (bytes:=520) (by kernel_rfl);exact⟨C,hi,q⟩
theorem Ri:∃zs:Array Value,zs.size=21*65/\∀w,(Instr.makeSlice 132 (.int .i64 0) (.int .i64 21)).run prog w=.ok (.slice (some ⟨w.heap.size,0,none⟩) 0 21) (w.alloc (.cells zs tO)):=by
 obtain⟨C,hi,aa,q,ab⟩:=c_ (P:=prog) (e:=tO) (z:=.agg (oc false λ_=>0)) (size:=65) (bytes:=520) (by kernel_rfl);refine⟨madeCells (Value.agg (oc false λ_=>0)).cells (21*65),by rw[size_madeCells],λw=>?_⟩;have:=run_make (P:=prog) w 132 tO C _ underlying132 hi aa .i64 .i64 0 21 (by omega) (by omega) (by rw[ab];omega) (by omega);rw[this,q];rfl
theorem MH(hG:Cr w)(hs:s.size<=9223372036854775807):Calls prog 89 #[.string s] w (Wi w s):=by
 have hd:=NX (w:=w) hs;have aC:∀(w:World)(a:Option Addr)(n c:Nat),(binOp .neq 32 (.slice a n c) (.slice none 0 0)).run prog w=.ok (.bool (!a.isNone)) w:=λw a n c=>by
  simp only[binOp];simp[Op.equal,Op.maxDepth,Lib.run_equalIn_slice_nil w 9999 32 3 a n c 0 0 underlying32]
 obtain⟨m,y⟩:∃m:Nat->Int,m=λ_=>0:=⟨_,rfl⟩
 have hz:∀w,(zeroValue tO).run prog w=.ok (.agg (oc false m)) w:=by rw[y];exact Bn
 have ay:(oc false m).toList.set 0 (.bool true)=(oc true m).toList:=by simp[oc]
 have az:(oc false m).setIfInBounds 0 (.bool true)=oc true m:=by apply Array.toList_inj.1;simp[oc]
 have aA:(oc false m).size=65:=Am _ _;have aB:¬oc false m=#[]:=λh=>by have:=congrArg Array.size h;rw[Am]at this;simp at this
 have ad:Hid (∀b:World,∃w2,(storeCells ⟨b.heap.size,0,none⟩ (oc true m).toList).run prog (b.alloc (.cells (oc false m) tO))=.ok () w2/\AL w2 b.heap.size true m/\dc b w2/\b.heap.size<w2.heap.size):=by rw[y];exact λb=>Bb b true _
 have af:Hid ((oc true m).toList=Tr none):=by rw[y];rfl
 clear y;go_enter func89,ntmps89;go_wp2_with fail;refine hd.mono ?_;rintro e b ⟨A,⟨hn,rfl⟩|⟨L,g,X,hL,rfl,hg,x,V⟩⟩
 .have M:Hid (dc w b):=A;have HN:Hid (DS (AA s)=none):=hn;clear A hn hd;go_wp2_with fail
  go_ret2
  exact⟨M.out,.inl ⟨HN.out,rfl⟩⟩
 .have H:=GM (Om s) hL;have M:Hid (dc w b):=A;have HD:Hid (DS (AA s)=some L/\∀r,r∈L->F_ r):=⟨hL,H.2.2.2⟩
  have au:=H.2.2.1;have HC:Hid (∀i,i<L.length->b.cell? ⟨g,i,none⟩=some (X.getD i (.bool false))/\PV b w.heap.size (X.getD i (.bool false)) (L.getD i none)):=Rg x V;have ak:g<b.heap.size:=(x.lt g rfl).2;obtain⟨C,hi,q⟩:=KM;obtain⟨zs,ac,ax⟩:=Ri;have ai:Hid ((b.alloc (.cells zs tO)).ownsRow b.heap.size tO 65 (.slice (some ⟨b.heap.size,0,none⟩) 0 21) 0 []):=World.ownsRow_made b zs 21 (bB _) (by decide) ac;have Q:Hid (Cr b):=hG.keep M.out hG.size;clear A H hd x V hL hG ac;go_wp2_with fail;go_loopw [5,6,21] (λev cv iv wr=>∃i,i<=L.length/\iv=.int .i64 (i:Nat)/\ev=.int .i64 0/\cv=.slice (some ⟨b.heap.size,0,none⟩) i 21/\Hid (wr.ownsRow b.heap.size tO 65 (.slice (some ⟨b.heap.size,0,none⟩) i 21) i (FA (L.take i))/\dc b wr)) (λ_ _ iv _=>L.length-(intOf iv).toNat);case atStart=>exact⟨0,by omega,rfl,rfl,rfl,ai.out,(bC _ _).alloc (bB _) _⟩
  case round=>
   obtain⟨i,ap,rfl,rfl,rfl,v⟩:=hrel;have J:=v.out.2.size;by_cases I:i<L.length
   .have aw:(i:Int)<(L.length:Int):=by omega
    have av:g<wr.heap.size:=by omega
    have c0:wr.cell? ⟨g,i,none⟩=some (X.getD i (.bool false)):=(v.out.2.cell ak).trans (HC.out i I).1;have R:Hid (PV b w.heap.size (X.getD i (.bool false)) (L.getD i none)):=(HC.out i I).2;have S:Hid (FA (L.take (i+1))=FA (L.take i)++Tr (L.getD i none)):=by
     show _=_;rw[<-O4]
     congr 1
     rw[List.take_add_one];simp[List.getD,I]
    have ag:Hid (F_ (L.getD i none)):=Da HD.out.2 i;generalize X.getD i (.bool false)=xv at *;generalize L.getD i none=ro at *;obtain⟨N,aq,D,U,an⟩:=ad.out wr;have K:Hid (AL N wr.heap.size true m/\dc wr N):=⟨D,U⟩
    clear D U;cases ro with
    |none=>
     have ao:xv=.slice none 0 0:=R.out;subst ao;have d:Hid (N.ownsRow b.heap.size tO 65 (.slice (some ⟨b.heap.size,0,none⟩) i 21) i (FA (L.take i))/\dc b N):=⟨Bm v.out.1 (λk hk=>(K.out).2.block k (v.out.1.lt k hk).2),v.out.2.trans ((K.out).2.mono J)⟩
     go_wp2_with (first|refine AH rfl (.tmp 9) rfl rfl (K.out).1 ?_|refine Kj rfl (.tmp 37) rfl (true) (m) rfl ?_|(at_builtin;refine cj _ rfl (.tmp 36) (.tmp 38) 132 rfl b.heap.size tO C 65 underlying132 hi q b.heap.size i 21 _ rfl (d.out.1.alloc _) ⟨N.heap.size,0,none⟩ 1 1 (oc (true) (m)).toList rfl (by simp[Am]) (by intro t u ht;rw[Dn];exact(bL _ _ _ _ rfl).trans (by rw[<-cP];exact ht)) (by intro u hu;exact Hr _ _ u hu) (by omega) ?_;intro w5 o f));go_roundw;case rel=>exact⟨i+1,by omega,by go_num,rfl,rfl,by rw[S.out,<-af.out];exact o,(d.out.2.alloc d.out.2.size _).grown f (by simp;have:=d.out.2.size;omega) (λk hk=>by cases hk;exact bB _)⟩
     case measure=>simp[intOf];omega
    |some l=>
     obtain⟨p,hp,rfl,G,am⟩:=R.out;have Y:B_ l:=FO ag.out;have Z:=λw4 (hb:dc b w4)=>Fb (w:=w4) (Q.out.keep hb Q.out.size) (.slice (some ⟨p,0,none⟩) 32 32) l Y (AQ.at_ (G.keep hb G.lt) am (bB _) (λj hj=>Aa _ _ (by omega)));have F:=Z N (v.out.2.trans (K.out.2.mono J));have ae:Hid ((oc (ovE l) (BT l)).toList=Tr (some l)):=rfl;generalize ovE l=el at *;generalize BT l=ml at *;clear Y G Z;go_wp2_with fail;refine F.mono ?_;rintro e w4 ⟨rfl,B⟩;have T:AL w4 wr.heap.size true m:=At.keep K.out.1 B an;obtain⟨w6,ar,E,W⟩:=Al T el ml;have H6:Hid (AL w6 wr.heap.size el ml/\dc wr w6):=⟨E,(K.out.2.trans (B.mono (by omega))).trans (W.below (bB _) (by have:=B.size;omega))⟩
     clear B T E W F;have d:Hid (w6.ownsRow b.heap.size tO 65 (.slice (some ⟨b.heap.size,0,none⟩) i 21) i (FA (L.take i))/\dc b w6):=⟨Bm v.out.1 (λk hk=>(H6.out).2.block k (v.out.1.lt k hk).2),v.out.2.trans ((H6.out).2.mono J)⟩
     go_wp2_with (first|refine AH rfl (.tmp 9) rfl rfl (H6.out).1 ?_|refine Kj rfl (.tmp 37) rfl (el) (ml) rfl ?_|(at_builtin;refine cj _ rfl (.tmp 36) (.tmp 38) 132 rfl b.heap.size tO C 65 underlying132 hi q b.heap.size i 21 _ rfl (d.out.1.alloc _) ⟨w6.heap.size,0,none⟩ 1 1 (oc (el) (ml)).toList rfl (by simp[Am]) (by intro t u ht;rw[Dn];exact(bL _ _ _ _ rfl).trans (by rw[<-cP];exact ht)) (by intro u hu;exact Hr _ _ u hu) (by omega) ?_;intro w5 o f));go_roundw;case rel=>exact⟨i+1,by omega,by go_num,rfl,rfl,by rw[S.out,<-ae.out];exact o,(d.out.2.alloc d.out.2.size _).grown f (by simp;have:=d.out.2.size;omega) (λk hk=>by cases hk;exact bB _)⟩
     case measure=>simp[intOf];omega
   .have al:i=L.length:=by omega
    subst al;have ah:Hid (JQ wr b.heap.size L):=by
     have:=v.out.1;rw[cG (bB _)]at this;exact V_ this
    have O:Hid (dc w wr/\w.heap.size<=b.heap.size):=⟨M.out.trans (v.out.2.mono M.out.size),M.out.size⟩
    go_wp2_with fail
    go_ret2
    exact⟨O.out.1,.inr ⟨L,_,HD.out.1,rfl,O.out.2,ah.out⟩⟩
def BG(L:List (Option (List Int)))(pt:Int):Option (List Int):=if pt<0 then none else L.getD pt.toNat none
theorem LP{g:Nat}{L:List (Option (List Int))}(h:JQ w g L)(pt:Int):
  Calls prog 90 #[.slice (some ⟨g,0,none⟩) L.length 21,.int .i64 pt] w λe w'=>e=.returned (.agg (oc (cE (BG L pt)) (cM (BG L pt))))/\dc w w':=by
 obtain⟨b,d⟩:∃b:Nat->Int,b=λ_=>0:=⟨_,rfl⟩
 have hz:∀w,(zeroValue tO).run prog w=.ok (.agg (oc false b)) w:=by rw[d];exact Bn
 have aa:(oc false b).toList.set 0 (.bool true)=(oc true b).toList:=by simp[oc]
 have ab:(oc false b).setIfInBounds 0 (.bool true)=oc true b:=by apply Array.toList_inj.1;simp[oc]
 have ac:(oc false b).size=65:=Am _ _;have ad:¬oc false b=#[]:=λh=>by have:=congrArg Array.size h;rw[Am]at this;simp at this
 have m:Hid (∀e M,∃t,(storeCells ⟨w.heap.size,0,none⟩ (oc e M).toList).run prog (w.alloc (.cells (oc false b) tO))=.ok () t/\AL t w.heap.size e M/\dc w t/\w.heap.size<t.heap.size):=by rw[d];exact λe M=>Bb w e M
 have x:Hid (BG L pt=none->oc (cE (BG L pt)) (cM (BG L pt))=oc true b):=λq=>by rw[q,d];rfl
 clear d;by_cases p0:pt<0
 .have n:Hid (oc (cE (BG L pt)) (cM (BG L pt))=oc true b):=x.out (by unfold BG;rw[bA p0]);obtain⟨l,i,a,c,o⟩:=m.out true b;have f:Hid (AL l w.heap.size true b/\dc w l):=⟨a,c⟩
  clear a c;go_enter func90,ntmps90;go_wp2_with fail;try simp only[Exit.inBlock,Exit.then]
  refine bJ (Ag rfl _ rfl f.out.1) rfl ?_;exact⟨by rw[n.out],f.out.2⟩
 .obtain⟨k,rfl⟩:∃k:Nat,pt=(k:Int):=⟨pt.toNat,by omega⟩
  by_cases hk:k<L.length
  .have z:(k:Int)<(L.length:Int):=by omega
   have n:Hid (BG L (k:Int)=L.getD k none):=by show BG _ _=_;unfold BG;rw[a_ p0];rfl
   have B:Hid (w.rangeAt g (k*65) (oc (cE (L.getD k none)) (cM (L.getD k none))).toList):=by
    intro j v p;have D:j<65:=by
     rcases bW j 65 with q|q
     .exact q
     .rw[bO (by simp[Am];omega)]at p;cases p
    rw[h.2 k j hk D,<-cP];exact p
   have C:=h.1;have u:Hid (oc (cE (BG L (k:Int))) (cM (BG L (k:Int)))=oc (cE (L.getD k none)) (cM (L.getD k none))):=by show _=_;rw[n.out]
   clear n;generalize L.getD k none=r at *;have E:(Tryz.prog.info? tO).map (·.size)=some (oc (cE r) (cM r)).toList.length:=by
    obtain⟨i0,hi,A⟩:=KM;simp[hi,A,Am]
   generalize cE r=e0 at *;generalize cM r=m0 at *;obtain⟨l,i,a,c,o⟩:=m.out e0 m0;have f:Hid (AL l w.heap.size e0 m0/\dc w l):=⟨a,c⟩
   have y:Hid ((w.alloc (.cells (oc false b) tO)).rangeAt g (k*65) (oc e0 m0).toList):=λj v p=>(World.cell?_alloc_old w _ ⟨g,k*65+j,none⟩ (Nat.ne_of_lt C)).trans (B.out j v p);clear a c h x;go_enter func90,ntmps90;go_wp2_with (refine wpList_load_mid rfl tO (.tmp 16) rfl g (k*65) rfl (oc e0 m0).toList _ y.out underlying90 rfl E ?_);try simp only[Exit.inBlock,Exit.then]
   refine bJ (Ag rfl _ rfl f.out.1) rfl ?_;exact⟨by rw[u.out],f.out.2⟩
  .have z:¬(k:Int)<(L.length:Int):=by omega
   have n:Hid (oc (cE (BG L (k:Int))) (cM (BG L (k:Int)))=oc true b):=x.out (by unfold BG;rw[a_ p0];simp[List.getD,hk]);obtain⟨l,i,a,c,o⟩:=m.out true b;have f:Hid (AL l w.heap.size true b/\dc w l):=⟨a,c⟩
   clear a c;go_enter func90,ntmps90;go_wp2_with fail;try simp only[Exit.inBlock,Exit.then]
   refine bJ (Ag rfl _ rfl f.out.1) rfl ?_;exact⟨by rw[n.out],f.out.2⟩
end Go.Proofs.YtffajooegiempaaGreatDoor
