import Derived.Test.YtffajooegiempaaGreatDoorK12
import Derived.Deep.RegionWith
set_option maxRecDepth 100000
set_option maxHeartbeats 6400000
namespace Go.Proofs.YtffajooegiempaaGreatDoor
open Go.RowKit Go.Proofs.Tryz
variable {w:World}
def rl(R:Nat->Int):List Int:=(List.range 32).map R
theorem UL(R:Nat->Int):(rl R).length=32:=by simp[rl]
theorem YG(R:Nat->Int){i:Nat}(h:i<32):(rl R).getD i 0=R i:=by simp[rl,List.getD,h]
theorem EE(R:Nat->Int){n:Nat}(c:Int):(rl R).set n c=rl (Bw R n c):=by
 refine List.ext_getElem (by simp[rl]) λi h1 h2=>?_;rw[List.getElem_set];simp only[rl,List.getElem_map,List.getElem_range];unfold Bw;by_cases e:n=i
 .rw[bA e,bA e.symm]
 .rw[a_ e,a_ (λz=>e z.symm)]
theorem DK{p:Nat}{R:Nat->Int}{t:TypeId}(h:At w p (ic (rl R)) t){i:Nat}(hi:i<32):w.cell? ⟨p,i,none⟩=some (.int .i64 (R i)):=by
 rw[h.cell,Aa _ _ (by rw[UL];exact hi),YG R hi]
theorem Q3{R:Nat->Int}{n:Nat}(h:rF R n=none):∀k,rF R (n+k)=none
 |0=>h
 |k+1=>by
  show(match rF R (n+k)with|none=>none|some (R',b)=>Lw R' b ((n+k)/32) ((n+k)%32))=none;rw[Q3 h k]
theorem WC{R R':Nat->Int}{b:Bool}{f g:Nat}(V:g<32)(h:rF R (f*32+g)=some (R',b)):rF R (f*32+g+1)=Lw R' b f g:=by
 rw[rF,h];show Lw R' b ((f*32+g)/32) ((f*32+g)%32)=_;rw[show(f*32+g)/32=f by omega,show(f*32+g)%32=g by omega]
theorem Vn{f g:Nat}(M:f<32)(V:g<32)(c:Int):(CS (Ci f g) c).1= -2\/(CS (Ci f g) c).1= -1\/∃m:Nat,m<32/\(CS (Ci f g) c).1=(m:Int):=by
 by_cases k1:kdT f g=1
 .by_cases e:c<0
  .rw[(Vm k1).1 e];exact .inl rfl
  .rw[(Vm k1).2 e];exact .inr (.inl rfl)
 .by_cases k2:kdT f g=2
  .rw[Y1 M V k2];exact .inr (.inr ⟨_,G_ M V (.inl k2),rfl⟩)
  .by_cases k3:kdT f g=3
   .rw[Y2 M V k3];exact .inr (.inr ⟨_,G_ M V (.inr k3),rfl⟩)
   .rw[Y0 k1 k2 k3];exact .inr (.inl rfl)
def Me(a b:List Int):Nat->List Int
 |0=>a
 |j+1=>(Me a b j).set j (AK a j+AK b j)
theorem MP:∀f:Nat,f<32->(C5 f).length=4:=by decide
theorem QT:∀f:Nat,f<32->∀i,i<4-> -1<=AK (C5 f) i/\AK (C5 f) i<=1:=by decide
theorem X7{f g:Nat}(M:f<32):Me (C5 f) (C5 g) 4=Ci f g:=by
 obtain⟨a,b,c,d,e⟩:=C0 (MP f M);unfold Ci;rw[e];rfl
theorem WB{a b:List Int}(h:a.length=4){j:Nat}(hj:j<4):(Me a b j).length=4/\(Me a b j).getD j 0=AK a j:=by
 obtain⟨x,y,z,t,rfl⟩:=C0 h;rcases(show j=0\/j=1\/j=2\/j=3 by omega)with rfl|rfl|rfl|rfl<;>exact⟨rfl,rfl⟩
theorem Pa(f:Nat)(M:f<32):Calls prog 96 #[.int .i64 (f:Int)] w λe w'=>e=.returned (.slice (some ⟨w.heap.size,0,none⟩) 4 4)/\Hid (At w' w.heap.size (ic (C5 f)) tNk/\dc w w'):=by
 by_cases h8:f<8
 .exact Rb f h8
 .exact Ra f M (by omega)
theorem Wb:∀f:Nat,f<32->∀g,g<32->∀i,i<4-> -2<=AK (Ci f g) i/\AK (Ci f g) i<=2:=by decide +kernel
def IA(p:Nat)(w:World)(R:Nat->Int)(e:Ending)(w':World):Prop:=
 BC p w w'/\match Kq R with
  |none=>e=.returned (.tuple #[.bool false,.bool false])
  |some (R',b)=>e=.returned (.tuple #[.bool true,.bool b])/\At w' p (ic (rl R')) tNk
theorem IA.no{p:Nat}{w w':World}{R:Nat->Int}{e:Ending}{k:Nat}(hk:k<=1024)(h:rF R k=none)(ho:BC p w w')(he:e=.returned (.tuple #[.bool false,.bool false])):IA p w R e w':=by
 have:Kq R=none:=by
  have:=Q3 h (1024-k);rw[show k+(1024-k)=1024 by omega]at this;exact this
 unfold IA;rw[this];exact⟨ho,he⟩
theorem IA.yes{p:Nat}{w w':World}{R R':Nat->Int}{b:Bool}{e:Ending}(h:rF R 1024=some (R',b))(ho:BC p w w')(he:e=.returned (.tuple #[.bool true,.bool b]))(ha:At w' p (ic (rl R')) tNk):IA p w R e w':=by
 unfold IA;rw[show Kq R=some (R',b)from h];exact⟨ho,he,ha⟩
theorem WF(p:Nat)(R:Nat->Int)(h:At w p (ic (rl R)) tNk)(hN:Wl R):
  Calls prog 95 #[.slice (some ⟨p,0,none⟩) 32 32] w (IA p w R):=by
 have ak:Hid (At w p (ic (rl R)) tNk):=h;have HN:Hid (Wl R):=hN;clear h hN;go_enter func95,ntmps95;go_wp2_with fail;go_loopw [4,5] (λmv fv wr=>∃(f:Nat)(b:Bool)(R':Nat->Int),f<=32/\fv=.int .i64 f/\mv=.bool b/\Hid (rF R (f*32)=some (R',b)/\At wr p (ic (rl R')) tNk/\BC p w wr)) (λ_ fv _=>32-(intOf fv).toNat);case atStart=>exact⟨0,false,R,by omega,rfl,rfl,rfl,ak.out,BC.refl _ _⟩
 case round=>
  obtain⟨f,b0,R0,M,rfl,rfl,HR⟩:=hrel;by_cases s:f<32
  .have av:(f:Int)<32:=by omega
   obtain⟨w4,rfl⟩:∃w4,w4=wr:=⟨_,rfl⟩
   go_wp2_with fail;go_loopw [4,6] (λmv gv wr=>∃(g:Nat)(b:Bool)(R':Nat->Int),g<=32/\gv=.int .i64 g/\mv=.bool b/\Hid (rF R (f*32+g)=some (R',b)/\At wr p (ic (rl R')) tNk/\BC p w wr)) (λ_ gv _=>32-(intOf gv).toNat);case atStart=>exact⟨0,b0,R0,by omega,rfl,rfl,HR.out⟩
   case round=>
    obtain⟨g,b,R',V,rfl,rfl,D⟩:=hrel;clear HR;by_cases r:g<32
    .have aw:(g:Int)<32:=by omega
     obtain⟨O,rfl⟩:∃O,O=wr:=⟨_,rfl⟩
     have cx:=DK D.out.2.1 s;have cy:=DK D.out.2.1 r;have ap:=HN.out (f*32+g) (by omega) R' b D.out.1 f s;have aq:=HN.out (f*32+g) (by omega) R' b D.out.1 g r;have T:Hid (rF R (f*32+g+1)=Lw R' b f g):=WC r D.out.1;have v:Hid (Lw R' b f g=if R' f=NB\/R' g=NB then some (R',b)else if(CS (Ci f g) (R' f+R' g)).1= -2 then none else if 0<=(CS (Ci f g) (R' f+R' g)).1/\(CS (Ci f g) (R' f+R' g)).2<R' (CS (Ci f g) (R' f+R' g)).1.toNat then some (Bw R' (CS (Ci f g) (R' f+R' g)).1.toNat (CS (Ci f g) (R' f+R' g)).2,true)else some (R',b)):=rfl;have H:Hid (∀(w1:World)(B:Nat),At w1 B (ic (Ci f g)) tNk->Calls prog 129 #[.slice (some ⟨B,0,none⟩) 4 4,.int .i64 (R' f+R' g)] w1 λe w'=>e=.returned (.tuple #[.int .i64 (CS (Ci f g) (R' f+R' g)).1,.int .i64 (CS (Ci f g) (R' f+R' g)).2])/\dc w1 w'):=λw1 B h1=>UA _ _ rfl (AQ.at_ h1 rfl (bB _) (λi hi=>Aa _ _ hi)) (Wb f s g r) _ ⟨by omega,by omega⟩;have L:Hid (_\/_):=Vn s r (R' f+R' g);obtain⟨x,hx⟩:∃x,x=R' f:=⟨_,rfl⟩
     obtain⟨y,hy⟩:∃y,y=R' g:=⟨_,rfl⟩
     have P:Hid (x=R' f/\y=R' g):=⟨hx,hy⟩
     rw[<-hx]at cx ap v H L;rw[<-hy]at cy aq v H L;clear hx hy;by_cases ex:x=NB
     .have b1:(x==1000000)=true:=by rw[ex];rfl
      have G:Hid (Lw R' b f g=some (R',b)):=v.out.trans (bA (.inl ex));clear v ex;go_wp2_with fail;go_roundw;case rel=>exact⟨g+1,b,R',by omega,by go_num,rfl,by rw[<-bS];exact T.out.trans G.out,D.out.2.1,D.out.2.2⟩
      case measure=>simp[intOf];omega
     .have b1:(x==1000000)=false:=by rw[b9];exact ex
      by_cases U:y=NB
      .have b2:(y==1000000)=true:=by rw[U];rfl
       have G:Hid (Lw R' b f g=some (R',b)):=v.out.trans (bA (.inr U));clear v ex U;go_wp2_with fail;go_roundw;case rel=>exact⟨g+1,b,R',by omega,by go_num,rfl,by rw[<-bS];exact T.out.trans G.out,D.out.2.1,D.out.2.2⟩
       case measure=>simp[intOf];omega
      .have b2:(y==1000000)=false:=by rw[b9];exact U
       have G:Hid (Lw R' b f g=_):=v.out.trans (a_ (λz=>z.elim ex U));have ae:=Pa (w:=O) f s;clear v ex U;go_wp2_with fail;refine ae.mono ?_;rintro e w6 ⟨rfl,X⟩;have ag:=Pa (w:=w6) g r;go_wp2_with fail;refine ag.mono ?_;rintro e W ⟨rfl,S⟩;have ah:p<O.heap.size:=D.out.2.1.lt;have ao:w.heap.size<=O.heap.size:=D.out.2.2.size;have ai:O.heap.size<w6.heap.size:=X.out.1.lt;have aj:w6.heap.size<W.heap.size:=S.out.1.lt;have Y:Hid (At W O.heap.size (ic (Me (C5 f) (C5 g) 0)) tNk/\At W w6.heap.size (ic (C5 g)) tNk/\At W p (ic (rl R')) tNk/\BC p w W/\w6.heap.size<W.heap.size):=⟨X.out.1.keep S.out.2 ai,S.out.1,(D.out.2.1.keep X.out.2 ah).keep S.out.2 (by omega),(D.out.2.2.trans (BC.of X.out.2 p)).trans (BC.of S.out.2 p),aj⟩
       have K:Hid (Me (C5 f) (C5 g) 4=Ci f g/\(C5 f).length=4/\(C5 g).length=4):=⟨X7 s,MP f s,MP g r⟩
       have aa:Hid (∀i,i<4->(-1<=AK (C5 f) i/\AK (C5 f) i<=1)/\(-1<=AK (C5 g) i/\AK (C5 g) i<=1)):=λi hi=>⟨QT f s i hi,QT g r i hi⟩
       generalize C5 f=vf at *;generalize C5 g=vg at *;generalize O.heap.size=B1 at *;generalize w6.heap.size=B2 at *;clear ae ag X S;go_wp2_with fail;go_loopw [9] (λi wx=>∃(j:Nat),j<=4/\i=.int .i64 j/\Hid (At wx B1 (ic (Me vf vg j)) tNk/\At wx B2 (ic vg) tNk/\At wx p (ic (rl R')) tNk/\BC p w wx/\B2<wx.heap.size)) (λi _=>4-(intOf i).toNat);case atStart=>exact⟨0,by omega,rfl,Y.out⟩
       case round=>
        obtain⟨j,hj,rfl,A⟩:=hrel;by_cases Q:j<4
        .have ax:(j:Int)<4:=by omega
         obtain⟨C,rfl⟩:∃C,C=wr:=⟨_,rfl⟩
         have ca:C.cell? ⟨B1,j,none⟩=some (.int .i64 (AK vf j)):=by
          have q:=WB (b:=vg) K.out.2.1 Q;rw[A.out.1.cell,Aa _ _ (by omega),q.2]
         have cb:C.cell? ⟨B2,j,none⟩=some (.int .i64 (AK vg j)):=by
          rw[A.out.2.1.cell,Aa _ _ (by rw[K.out.2.2];exact Q)];rfl
         have cf:=A.out.1.free;have ay:=A.out.1.lt;have az:=A.out.2.1.lt;have hr:=aa.out j Q;have HP:Hid (Me vf vg (j+1)=(Me vf vg j).set j (AK vf j+AK vg j)):=rfl;have ab:B1≠p:=by omega
         have ac:B1≠B2:=by omega
         generalize AK vf j=a at *;generalize AK vg j=c at *;go_wp2_with fail;go_region;all_goals
          go_wp2_with fail;go_roundw;case rel=>
           refine⟨j+1,by omega,by go_num,?_,?_,?_,?_,?_⟩
           .rw[HP.out,<-Be];exact At.drewN (A.out.1.put j _) 1
           .exact At.drewN (A.out.2.1.other _ _ (λz=>ac z.symm)) 1
           .exact At.drewN (A.out.2.2.1.other _ _ (λz=>ab z.symm)) 1
           .exact(A.out.2.2.2.1.own (.inr (by omega)) _ _).drewN 1
           .have:=A.out.2.2.2.2;simpa[World.setCell]using this
          case measure=>simp[intOf];omega
        .have an:j=4:=by omega
         subst an;obtain⟨C,rfl⟩:∃C,C=wr:=⟨_,rfl⟩
         have al:=DK A.out.2.2.1 s;have am:=DK A.out.2.2.1 r;rw[<-P.out.1]at al;rw[<-P.out.2]at am;have Z:Hid (At C B1 (ic (Ci f g)) tNk):=by
          show At C B1 (ic (Ci f g)) tNk;rw[<-K.out.1];exact A.out.1
         have N:p<C.heap.size:=A.out.2.2.1.lt;have u:Hid (BC p w C/\At C p (ic (rl R')) tNk):=⟨A.out.2.2.2.1,A.out.2.2.1⟩
         generalize CS (Ci f g) (x+y)=fv at *;obtain⟨n,c⟩:=fv;simp only at G H L;have J:=H.out C.drew B1 Z.out;have ar:IntKind.i64.wrap (x+y)=x+y:=by rw[cS];omega
         clear H Z A K aa Y D P ai aj ah ao cx cy;rcases L.out with e|e|⟨m,hm,e⟩
         .subst e;have E:Hid (Lw R' b f g=none):=G.out.trans (bA rfl);clear G;go_wp2_with fail;go_region_with (go_at_call 129;refine J.mono ?_;rintro e I ⟨rfl,l⟩);all_goals
           have o:Hid (At I p (ic (rl R')) tNk):=At.keep (w:=C.drewN 1) u.out.2 l N;have F:Hid (BC p w I):=(u.out.1.drewN 1).trans (BC.of l p);clear l;go_wp2_with fail
           go_ret2
           exact IA.no (k:=f*32+g+1) (by omega) (T.out.trans E.out) F.out rfl
         .subst e;have E:Hid (Lw R' b f g=some (R',b)):=G.out.trans ((a_ (by decide)).trans (a_ (λz=>absurd z.1 (by decide))));clear G;go_wp2_with fail;go_region_with (go_at_call 129;refine J.mono ?_;rintro e I ⟨rfl,l⟩);all_goals
           have o:Hid (At I p (ic (rl R')) tNk):=At.keep (w:=C.drewN 1) u.out.2 l N;have F:Hid (BC p w I):=(u.out.1.drewN 1).trans (BC.of l p);clear l;go_wp2_with fail;go_roundw;case rel=>exact⟨g+1,b,R',by omega,by go_num,rfl,by rw[<-bS];exact T.out.trans E.out,o.out,F.out⟩
           case measure=>simp[intOf];omega
         .subst e;have aB:((m:Int)== -2)=false:=by rw[b9];omega
          have aC:(m:Int)<32:=by omega
          by_cases hc:c<R' m
          .have E:Hid (Lw R' b f g=some (Bw R' m c,true)):=G.out.trans ((a_ (by omega)).trans ((bA ⟨by omega,by rw[bK];exact hc⟩).trans (by rw[bK])));clear G;go_wp2_with fail;go_region_with (go_at_call 129;refine J.mono ?_;rintro e I ⟨rfl,l⟩);all_goals
            have o:Hid (At I p (ic (rl R')) tNk):=At.keep (w:=C.drewN 1) u.out.2 l N;have F:Hid (BC p w I):=(u.out.1.drewN 1).trans (BC.of l p);clear l;have cm:=DK o.out hm;have au:=o.out.free;have aA:=o.out.lt;go_wp2_with fail;go_roundw;case rel=>
             refine⟨g+1,true,Bw R' m c,by omega,by go_num,rfl,by rw[<-bS];exact T.out.trans E.out,?_,F.out.setCell _ _⟩;rw[<-EE,<-Be];exact o.out.put m _
            case measure=>simp[intOf];omega
          .have E:Hid (Lw R' b f g=some (R',b)):=G.out.trans ((a_ (by omega)).trans (a_ (λz=>by rw[bK]at z;exact hc z.2)));clear G;go_wp2_with fail;go_region_with (go_at_call 129;refine J.mono ?_;rintro e I ⟨rfl,l⟩);all_goals
            have o:Hid (At I p (ic (rl R')) tNk):=At.keep (w:=C.drewN 1) u.out.2 l N;have F:Hid (BC p w I):=(u.out.1.drewN 1).trans (BC.of l p);clear l;have cm:=DK o.out hm;go_wp2_with fail;go_roundw;case rel=>exact⟨g+1,b,R',by omega,by go_num,rfl,by rw[<-bS];exact T.out.trans E.out,o.out,F.out⟩
            case measure=>simp[intOf];omega
    .have af:g=32:=by omega
     subst af;go_wp2_with fail;go_roundw;case rel=>exact⟨f+1,b,R',by omega,by go_num,rfl,by rw[show(f+1)*32=f*32+32 by omega];exact D.out.1,D.out.2⟩
     case measure=>simp[intOf];omega
  .have ad:f=32:=by omega
   subst ad;go_wp2_with fail
   go_ret2
   exact IA.yes HR.out.1 HR.out.2.2 rfl HR.out.2.1
abbrev tN:TypeId:=3
theorem Xr(w:World)(g n cap:Nat)(c:Array Value)(v:Int)(h:At w g c tN)(hs:c.size=cap)(_hn:n<=cap)(q:cap<=1073741824)(t:0<=v)(u:v<=4398046511104):
  Calls prog 47 #[.slice (some ⟨g,0,none⟩) n cap,.int .i64 v] w λe w'=>e=.returned (.tuple #[])/\Below g w w'/\∃d,At w' g d tN/\d.size=cap/\∀i,i<cap->d[i]?=some (.int .i64 (v+i)):=by
 have r:Hid (At w g c tN):=h;have B:Hid (c.size=cap):=hs;have hg:=h.lt;clear h hs;go_enter func47,ntmps47;go_wp2_with fail;go_loopw [5] (λi wr=>∃(j:Nat)(d:Array Value),j<=cap/\i=.int .i64 j/\At wr g d tN/\d.size=cap/\(∀i,i<j->d[i]?=some (.int .i64 (v+i)))/\Below g w wr) (λi _=>cap-(intOf i).toNat);case atStart=>exact⟨0,c,bY _,rfl,r.out,B.out,λi hi=>absurd hi (by omega),bC _ _⟩
 case round=>
  obtain⟨j,d,C,rfl,b,f,a,k⟩:=hrel;have p:Hid (At wr g d tN):=b;have m:Hid (d.size=cap):=f;have A:Hid (∀i,i<j->d[i]?=some (.int .i64 (v+i))):=a;have z:Hid (Below g w wr):=k;by_cases l:j<cap
  .have o:(j:Int)<(cap:Int):=by omega
   obtain⟨x,c1⟩:∃x,wr.cell? ⟨g,j,none⟩=some x:=⟨d[j]'(by omega),by rw[b.cell];simp[f,l]⟩
   have f1:wr.frozen? ⟨g,j,none⟩=false:=b.free j;clear b f a k;go_wp2_with fail;go_roundw;case rel=>
    refine⟨j+1,_,by omega,by go_num,p.out.put j (.int .i64 (v+j)),by simp[m.out],λi hi=>?_,z.out.setCell (bB _) _⟩;have:=m.out;by_cases e:i=j
    .subst e;simp[this,l]
    .simp[Ne.symm e];exact A.out i (by omega)
   case measure=>simp[intOf];omega
  .have o:¬(j:Int)<(cap:Int):=by omega
   have s:j=cap:=by omega
   clear b f a k;go_wp2_with fail
   go_end0
   exact⟨rfl,z.out,d,p.out,m.out,by rw[<-s];exact A.out⟩
theorem Nt(w:World)(g n cap:Nat)(v:Int)(_hg:g<w.heap.size)(_hn:n<=cap)(q:cap<=1073741824)(t:0<=v)(u:v<=4398046511104)(h:∀i:Nat,i<cap->w.cell? ⟨g,i,none⟩=some (.int .i64 (v+i))):
  Calls prog 48 #[.slice (some ⟨g,0,none⟩) n cap,.int .i64 v] w λe w'=>e=.returned (.bool true)/\w'=w:=by
 have r:Hid (∀i:Nat,i<cap->w.cell? ⟨g,i,none⟩=some (.int .i64 (v+i))):=h;clear h;go_enter func48,ntmps48;go_wp2_with fail
 go_loop [6] (λi=>∃(j:Nat),j<=cap/\i=.int .i64 j) (λi=>cap-(intOf i).toNat)
 case atStart=>exact⟨0,bY _,rfl⟩
 case round=>
  obtain⟨j,C,rfl⟩:=hrel;by_cases l:j<cap
  .have o:(j:Int)<(cap:Int):=by omega
   have c1:=r.out j l;go_wp2_with fail
   go_round
   case rel=>exact⟨j+1,by omega,by go_num⟩
   case measure=>simp[intOf];omega
  .have o:¬(j:Int)<(cap:Int):=by omega
   go_wp2_with fail;go_ret;exact⟨rfl,rfl⟩
theorem Xs(w:World)(g n cap:Nat)(c:Array Value)(h:At w g c tN)(hs:c.size=cap)(hn:n<=cap)(q:cap<=1073741824):
  Calls prog 72 #[.slice (some ⟨g,0,none⟩) n cap] w λe w'=>e=.returned (.bool true)/\Below g w w':=by
 have h1:=Xr w g n cap c 1099511627776 h hs hn q (by omega) (by omega);clear h hs;go_enter func72,ntmps72;go_wp2_with fail;refine h1.mono ?_;rintro e y ⟨rfl,hb,d,b,f,a⟩;have h2:=Nt y g n cap 1099511627776 b.lt hn q (by omega) (by omega) (λi hi=>by rw[b.cell];exact a i hi);clear b f a h1;go_wp2_with fail;refine h2.mono ?_;rintro e w2 ⟨rfl,rfl⟩;go_wp2_with fail;go_ret;exact⟨rfl,hb⟩
theorem O_(w:World):Calls prog 72 #[.slice none 0 0] w λe w'=>e=.returned (.bool true)/\w'=w:=by
 have h1:∀w,Calls prog 47 #[.slice none 0 0,.int .i64 1099511627776] w λe w'=>e=.returned (.tuple #[])/\w'=w:=by
  intro w;go_enter func47,ntmps47;go_wp2_with fail
  go_loop [5] (λi=>i=.int .i64 0) (λ_=>0)
  case atStart=>rfl
  case round=>
   subst hrel;go_wp2_with fail
   go_end0
   exact⟨rfl,rfl⟩
 have h2:∀w,Calls prog 48 #[.slice none 0 0,.int .i64 1099511627776] w λe w'=>e=.returned (.bool true)/\w'=w:=by
  intro w;go_enter func48,ntmps48;go_wp2_with fail
  go_loop [6] (λi=>i=.int .i64 0) (λ_=>0)
  case atStart=>rfl
  case round=>
   subst hrel;go_wp2_with fail;go_ret;exact⟨rfl,rfl⟩
 go_enter func72,ntmps72;go_wp2_with fail;refine(h1 _).mono ?_;rintro e y ⟨rfl,rfl⟩;go_wp2_with fail;refine(h2 _).mono ?_;rintro e y ⟨rfl,rfl⟩;go_wp2_with fail;go_ret;exact⟨rfl,rfl⟩
theorem Nu(w:World)(g cap:Nat)(b:Value)(l:List Int)(c:Array Value)(h:At w g c tN)(hs:c.size=cap)(hn:l.length<=cap)(G:cap<=1073741824)
  (hc:∀i,i<l.length->c[i]?=some (.int .i64 (l.getD i 0))) (hb:AQ w b l) (hb0:∀n k,b≠ .slice none n k):
  Calls prog 33 #[.slice (some ⟨g,0,none⟩) l.length cap,b] w λe w'=>e=.returned (.bool true)/\Below g w w':=by
 have h1:=KI w _ b l (by omega) (AQ.at_ h rfl hn hc) hb;have h2:=λk=>Xs (w.drewN k) g l.length cap c (h.drewN k) hs hn G;obtain⟨V,cb,rfl, -, -⟩:=hb;obtain⟨ba,rfl⟩:∃a,V=some a:=by
  cases V with
  |none=>exact absurd rfl (hb0 _ _)
  |some a=>exact⟨a,rfl⟩
 have U:Hid (∀k,Calls prog 72 #[.slice (some ⟨g,0,none⟩) l.length cap] (w.drewN k) λe w'=>e=.returned (.bool true)/\Below g (w.drewN k) w'):=h2;have O:∀(w:World)(a:Option Addr)(n c:Nat),(binOp .eql 32 (.slice a n c) (.slice none 0 0)).run prog w=.ok (.bool a.isNone) w:=λw a n c=>cz w 32 tN a n c 0 0 underlying32;clear h hs hc hb0 h2;go_enter func33,ntmps33;go_wp2_with fail;refine h1.mono ?_;rintro e f ⟨rfl,k,hk⟩;have h3:=U.out k;rw[<-hk]at h3;have HB:Hid (Below g w f):=by rw[hk];exact bD (bC _ _) k
 clear hk h1 U;go_wp2_with fail;refine h3.mono ?_;rintro e w2 ⟨rfl,L⟩;go_wp2_with fail;go_ret;exact⟨rfl,HB.out.trans L⟩
theorem Dr(w:World):Calls prog 33 #[.slice none 0 0,.slice none 0 0] w λe w'=>e=.returned (.bool true)/\∃k,w'=w.drewN k:=by
 have h1:=KI w (.slice none 0 0) (.slice none 0 0) [] (by simp) ⟨none,0,rfl,bB _,λh=>absurd rfl h⟩ ⟨none,0,rfl,bB _,λh=>absurd rfl h⟩;have O:∀(w:World)(a:Option Addr)(n c:Nat),(binOp .eql 32 (.slice a n c) (.slice none 0 0)).run prog w=.ok (.bool a.isNone) w:=λw a n c=>cz w 32 tN a n c 0 0 underlying32;have h2:=O_;go_enter func33,ntmps33;go_wp2_with fail;refine h1.mono ?_;rintro e f ⟨rfl,k,hk⟩;have J:Hid (∃k,f=w.drewN k):=⟨k,hk⟩
 clear hk h1;go_wp2_with fail;refine(h2 _).mono ?_;rintro e w2 ⟨rfl,rfl⟩;go_wp2_with fail;go_ret;exact⟨rfl,J.out⟩
def AJ(l:List Int):Array Value:=ic (l++[77,77])
theorem OQ(l:List Int):((splice (List.replicate (l.length+2) (Value.int .i64 0)) 0 (l.map (Value.int .i64))).toArray.setIfInBounds l.length (.int .i64 77)).setIfInBounds (l.length+1) (.int .i64 77)=AJ l:=by
 unfold AJ ic splice;have e:(List.replicate (l.length+2) (Value.int .i64 0)).drop (0+(l.map (Value.int .i64)).length)=[.int .i64 0,.int .i64 0]:=by
  rw[List.length_map,cU,List.drop_replicate,Nat.add_sub_cancel_left];rfl
 rw[e];simp
theorem I1(w:World)(v:Value)(l:List Int)(G:l.length<=1073741824)(h:AQ w v l):
  Calls prog 30 #[v] w λe w'=>e=.returned (.slice (some ⟨w.heap.size,0,none⟩) l.length (l.length+2))/\dc w w'/\At w' w.heap.size (AJ l) tN/\w.heap.size<w'.heap.size:=by
 have F:∀w,(Instr.makeSlice 32 (.int .i64 ((l.length:Int)+2)) (.int .i64 ((l.length:Int)+2))).run prog w=.ok (.slice (some ⟨w.heap.size,0,none⟩) (l.length+2) (l.length+2)) (w.alloc (.cells (List.replicate (l.length+2) (Value.int .i64 0)).toArray tN)):=by
  intro w;obtain⟨i0,hi,R,S,T⟩:=c_ (P:=prog) (e:=tN) (z:=.int .i64 0) (size:=1) (bytes:=8) (by kernel_rfl);have:=run_make (P:=prog) w 32 tN i0 (.int .i64 0) underlying32 hi R .i64 .i64 ((l.length:Int)+2) ((l.length:Int)+2) (by omega) (bN _) (by rw[T];omega) (by omega);rw[this];have e1:((l.length:Int)+2).toNat=l.length+2:=by omega
  rw[e1,S]
  congr 2
  congr 1
  apply Array.ext
  .simp[size_madeCells]
  .intro i h1 h2;simp[madeCells,Value.cells,Nat.mod_one]
 obtain⟨K,cap,rfl,aa,X⟩:=h;have y:Hid (∀w,(Instr.makeSlice 32 (.int .i64 ((l.length:Int)+2)) (.int .i64 ((l.length:Int)+2))).run prog w=.ok (.slice (some ⟨w.heap.size,0,none⟩) (l.length+2) (l.length+2)) (w.alloc (.cells (List.replicate (l.length+2) (Value.int .i64 0)).toArray tN))):=F;have H0:Hid (l.length≠0->∃b off,K=some ⟨b,off,none⟩/\b<w.heap.size/\∀i,i<l.length->w.cell? ⟨b,off+i,none⟩=some (.int .i64 (l.getD i 0))):=X;have B:=(show Hid (_=_)from OQ l)
 have q:Hid (At (w.alloc (.cells (List.replicate (l.length+2) (Value.int .i64 0)).toArray tN)) w.heap.size (List.replicate (l.length+2) (Value.int .i64 0)).toArray tN):=by
  show(w.heap.push _)[w.heap.size]?=_;simp
 have r:Hid (dc w (w.alloc (.cells (List.replicate (l.length+2) (Value.int .i64 0)).toArray tN))):=(bC _ _).alloc (bB _) _;obtain⟨d,s⟩:∃d,d=l.map (Value.int .i64):=⟨_,rfl⟩
 obtain⟨cur,o⟩:∃cur,cur=List.replicate (l.length+2) (Value.int .i64 0):=⟨_,rfl⟩
 rw[<-o]at q r y;rw[<-s,<-o]at B;have ab:=y.out;have p:Hid (d.length=l.length):=by show d.length=_;rw[s];simp
 have t:Hid (cur.length=l.length+2):=by show cur.length=_;rw[o];simp
 have A:Hid (d=l.map (Value.int .i64)):=s;clear F X s o y;generalize hn:l.length=n at *;obtain⟨f,ae,m,C⟩:∃f,(Builtin.copy_ #[32,32] tN #[.slice (some ⟨w.heap.size,0,none⟩) (n+2) (n+2),.slice K n cap]).run prog (w.alloc (.cells cur.toArray tN))=.ok (.int .i64 n) f/\At f w.heap.size (splice cur 0 d).toArray tN/\dc w f:=by
  by_cases hz:n=0
  .have e0:d=[]:=List.eq_nil_of_length_eq_zero (by rw[p.out];exact hz);refine⟨_,by rw[hz];exact run_copy_none (P:=prog) _ 32 32 tN tN _ _ _ _ _ _ underlying32 (by kernel_rfl) (by simp),?_,r.out⟩;have:=q.out;simpa[splice,e0]using this
  .obtain⟨b,off,rfl,N,hc⟩:=H0.out hz
   have:=run_copy_row (P:=prog) (w.alloc (.cells cur.toArray tN)) 32 32 tN tN w.heap.size 0 (n+2) (n+2) ⟨b,off,none⟩ n cap cur.toArray tN d underlying32 (by kernel_rfl) q.out (by rw[p.out];simp) (by
    intro j v D;rw[A.out]at D;have M:j<n:=by
     rcases bW j n with W|W
     .exact W
     .rw[bO (by simp;omega)]at D;cases D
    have e1:(⟨b,off,none⟩:Addr).add j=⟨b,off+j,none⟩:=by unfold Addr.add;split<;>simp_all
    rw[e1,r.out.cell (by exact N)];have:=hc j M;simp[List.getElem?_map,bP (show j<l.length by omega)]at D;rw[<-D];simpa[List.getD,show j<l.length by omega]using this) (by
    have h1:=p.out;have h2:=t.out;simp only[List.size_toArray];omega) (by
    intro u Y;rw[A.out]at Y;obtain⟨x,_,rfl⟩:=List.mem_map.1 Y
    rfl)
   have e2:goInt d.length=.int .i64 n:=by rw[p.out];rfl
   rw[e2]at this;refine⟨_,this,?_,below_setRow r.out (bB _) _⟩;have h2:=setRow_heap (w.alloc (.cells cur.toArray tN)) w.heap.size cur.toArray (cur.toArray.toList.take 0++d++cur.toArray.toList.drop (0+d.length)).toArray tN (0,0) q.out;rw[show splice cur 0 d=cur.toArray.toList.take 0++d++cur.toArray.toList.drop (0+d.length) by simp[splice]];exact h2
 have Q:(splice cur 0 d).toArray.size=n+2:=by
  have:=length_splice cur 0 d (by rw[p.out,t.out];omega);simp only[List.size_toArray];rw[this];exact t.out
 have E:=m.lt;obtain⟨x1,c1⟩:∃x,f.cell? ⟨w.heap.size,n,none⟩=some x:=⟨(splice cur 0 d).toArray[n]'(by omega),by rw[m.cell];exact cQ _⟩
 obtain⟨x2,c2⟩:∃x,f.cell? ⟨w.heap.size,n+1,none⟩=some x:=⟨(splice cur 0 d).toArray[n+1]'(by omega),by rw[m.cell];exact cQ _⟩
 have f1:=m.free n;have f2:=m.free (n+1);have H:Hid (At f w.heap.size (splice cur 0 d).toArray tN):=m;have I:Hid (dc w f):=C;clear m Q C;go_enter func30,ntmps30;go_wp2_with fail;go_ret;refine⟨rfl,(I.out.setCell (bB _) _).setCell (bB _) _,?_,by simpa using E⟩;rw[<-B.out];exact(H.out.put n _).put (n+1) _
theorem Dt(w:World)(g:Nat)(v:Value)(l:List Int)(G:l.length<=1073741824)(h:At w g (AJ l) tN)(Z:AQ w v l):
  Calls prog 34 #[.slice (some ⟨g,0,none⟩) l.length (l.length+2),v] w λe w'=>e=.returned (.bool true)/\∃k,w'=w.drewN k:=by
 have hc:∀i,i<l.length->(AJ l)[i]?=some (.int .i64 (l.getD i 0)):=by
  intro i hi;unfold AJ;rw[Aa _ _ (by simp;omega)];simp[List.getD,bU hi]
 have h1:=KI w (.slice (some ⟨g,0,none⟩) l.length (l.length+2)) v l G (AQ.at_ h rfl (by omega) hc) Z;have c1:w.cell? ⟨g,l.length,none⟩=some (.int .i64 77):=by rw[h.cell];unfold AJ;rw[Aa _ _ (by simp)];simp[List.getD]
 have c2:w.cell? ⟨g,l.length+1,none⟩=some (.int .i64 77):=by rw[h.cell];unfold AJ;rw[Aa _ _ (by simp)];simp[List.getD]
 obtain⟨K,cap,rfl, -, -⟩:=Z;have hg:=h.lt;clear h hc;generalize l.length=n at *;go_enter func34,ntmps34;go_wp2_with fail;refine h1.mono ?_;rintro e f ⟨rfl,k,hk⟩;have ac:f.cell? ⟨g,n,none⟩=some (.int .i64 77):=by rw[hk];exact c1
 have ad:f.cell? ⟨g,n+1,none⟩=some (.int .i64 77):=by rw[hk];exact c2
 have J:Hid (∃k,f=w.drewN k):=⟨k,hk⟩
 clear hk h1 c1 c2;go_wp2_with fail;go_ret;exact⟨rfl,J.out⟩
def NE(R:Nat->Int):Nat->Int
 |0=>0
 |k+1=>NE R k+R k
def ci(w:World)(p i:Nat):Int:=match w.cell? ⟨p,i,none⟩with
 |some (.int _ x)=>x
 |_=>0
theorem Lx{R S:Nat->Int}:∀n,(∀f,f<n->R f=S f)->NE R n=NE S n
 |0,_=>rfl
 |n+1,h=>by rw[NE,NE,Lx n (λf m=>h f (by omega)),h n (by omega)]
theorem Uf{R S:Nat->Int}:∀n,(∀f,f<n->R f<=S f)->NE R n<=NE S n
 |0,_=>bN _
 |n+1,h=>by
  have a:=Uf n (λf m=>h f (by omega));have b:=h n (by omega);rw[NE,NE];omega
theorem Uh{R S:Nat->Int}:∀n,(∀f,f<n->R f<=S f)->(∃f,f<n/\R f<S f)->NE R n<NE S n
 |0,_,⟨f,m,_⟩=>absurd m (by omega)
 |n+1,h,⟨f,m,q⟩=>by
  have b:=h n (by omega);rw[NE,NE];by_cases e:f=n
  .subst e;have a:=Uf f (λg hg=>h g (by omega));omega
  .have a:=Uh n (λf m=>h f (by omega)) ⟨f,by omega,q⟩;omega
theorem Ug{R:Nat->Int}{L:Int}:∀n:Nat,(∀f,f<n-> -L<=R f)-> -(L*n)<=NE R n
 |0,_=>by show -(L*0)<=(0:Int);omega
 |n+1,h=>by
  have a:=Ug n (λf m=>h f (by omega));have b:=h n (by omega);rw[NE,show((n+1:Nat):Int)=(n:Int)+1 from rfl,Int.mul_add,Int.mul_one];omega
theorem Wu{p:Nat}{R:Nat->Int}(h:At w p (ic (rl R)) tNk):NE (ci w p) 32=NE R 32:=
 Lx 32 λf m=>by unfold ci;rw[DK h m]
def Vx(p:Nat)(w:World):Nat:=(NE (ci w p) 32+100000000000000000000).toNat
theorem Vy{p:Nat}{w w':World}{R R':Nat->Int}{b:Bool}(h:At w p (ic (rl R)) tNk)(Z:At w' p (ic (rl R')) tNk)(hN:Wl R)(ab:Wl R')(hr:Kq R=some (R',b))(hb:b=true):Vx p w'<Vx p w:=by
 have hi:∀f,f<32->R f<=NB:=λf m=>(hN 0 (by omega) R false rfl f m).2;have I:=EW hi 1024 (bB _) R' b hr;have s:=Uh 32 I.le (I.more hb);have l:=Ug (L:=2000000000000000000) 32 (λf m=>(ab 0 (by omega) R' false rfl f m).1);unfold Vx;rw[Wu h,Wu Z];omega
def Yk(w:World)(r:Nat->Int)(e:Ending)(w':World):Prop:=
 dc w w'/\((e=.returned (.slice none 0 0)/\∃n,EO r n=none)\/
  ∃g n R R',e=.returned (.slice (some ⟨g,0,none⟩) 32 32)/\w.heap.size<=g/\At w' g (ic (rl R')) tNk/\EO r n=some R/\Kq R=some (R',false))
theorem WI{l:List Int}(h:l.length=32):rl (λf=>l.getD f 0)=l:=by
 refine List.ext_getElem (by rw[UL,h]) λi h1 h2=>?_;simp[rl,List.getD,h2]
theorem KU(u:Value)(l:List Int)(G:l.length=32)(B:AQ w u l)(z:∀n R,EO (λf=>l.getD f 0) n=some R->Wl R):
  Calls prog 59 #[u] w (Yk w λf=>l.getD f 0):=by
 have ad:∀w,(Instr.makeSlice 32 (.int .i64 32) (.int .i64 32)).run prog w=.ok (.slice (some ⟨w.heap.size,0,none⟩) 32 32) (w.alloc (.cells (List.replicate 32 (Value.int .i64 0)).toArray tNk)):=λ_=>by kernel_rfl
 obtain⟨ao,cap,rfl,Y,h0⟩:=B;obtain⟨b,off,rfl,ac,hc⟩:=h0 (by omega);obtain⟨cur,t⟩:∃cur,cur=List.replicate 32 (Value.int .i64 0):=⟨_,rfl⟩
 have O:Hid (dc w (w.alloc (.cells cur.toArray tNk))):=(bC _ _).alloc (bB _) _;have K:Hid (At (w.alloc (.cells cur.toArray tNk)) w.heap.size cur.toArray tNk):=At.new _ _ _;have T:cur.length=32:=by rw[t];simp
 rw[<-t]at ad;obtain⟨E,af,W,X⟩:∃E,(Builtin.copy_ #[32,32] tNk #[.slice (some ⟨w.heap.size,0,none⟩) 32 32,.slice (some ⟨b,off,none⟩) 32 cap]).run prog (w.alloc (.cells cur.toArray tNk))=.ok (.int .i64 32) E/\At E w.heap.size (ic l) tNk/\dc w E:=by
  have U:(l.map (Value.int .i64)).length=32:=by rw[List.length_map];exact G
  have:=run_copy_row (P:=prog) (w.alloc (.cells cur.toArray tNk)) 32 32 tNk tNk w.heap.size 0 32 32 ⟨b,off,none⟩ 32 cap cur.toArray tNk (l.map (Value.int .i64)) underlying32 (by kernel_rfl) K.out (by rw[U];simp) (by
   intro j v hj;have ag:j<32:=by
    rcases bW j 32 with Z|Z
    .exact Z
    .rw[bO (by omega)]at hj;cases hj
   have e1:(⟨b,off,none⟩:Addr).add j=⟨b,off+j,none⟩:=by unfold Addr.add;split<;>simp_all
   rw[e1,O.out.cell (by exact ac)];have:=hc j (by omega);simp[List.getElem?_map,bP (show j<l.length by omega)]at hj;rw[<-hj];simpa[List.getD,show j<l.length by omega]using this) (by simp only[List.size_toArray];omega) (by
   intro u B;obtain⟨x,_,rfl⟩:=List.mem_map.1 B
   rfl)
  have e2:goInt (l.map (Value.int .i64)).length=.int .i64 32:=by rw[U];rfl
  rw[e2]at this;refine⟨_,this,?_,below_setRow O.out (bB _) _⟩;have h2:=setRow_heap (w.alloc (.cells cur.toArray tNk)) w.heap.size cur.toArray (cur.toArray.toList.take 0++l.map (Value.int .i64)++cur.toArray.toList.drop (0+(l.map (Value.int .i64)).length)).toArray tNk (0,0) K.out;have e3:(cur.toArray.toList.take 0++l.map (Value.int .i64)++cur.toArray.toList.drop (0+(l.map (Value.int .i64)).length)).toArray=ic l:=by
   rw[U];unfold ic;rw[List.drop_of_length_le (by simp;omega)];simp
  rw[e3]at h2;unfold At;rw[<-h2,e3]
 obtain⟨r,Q⟩:∃r:Nat->Int,r=λf=>l.getD f 0:=⟨_,rfl⟩
 have aa:Hid (At E w.heap.size (ic (rl r)) tNk/\dc w E):=⟨by rw[Q,WI G];exact W,X⟩
 rw[<-Q]at z|-;have HN:Hid (∀n R,EO r n=some R->Wl R):=z;rw[G];clear z W X Q h0 hc Y K O T t;go_enter func59,ntmps59;go_wp2_with fail;go_loopw [] (λwr=>∃(n:Nat)(R:Nat->Int),Hid (EO r n=some R/\At wr w.heap.size (ic (rl R)) tNk/\dc w wr)) (λwr=>Vx w.heap.size wr);case atStart=>exact⟨0,r,rfl,aa.out⟩
 case round=>
  obtain⟨n,R,F⟩:=hrel;obtain⟨w4,rfl⟩:∃w4,w4=wr:=⟨_,rfl⟩
  have ae:=WF w.heap.size R F.out.2.1 (HN.out n R F.out.1);go_wp2_with fail;refine ae.mono ?_;rintro e w5 ⟨ho,H⟩;have o:Hid (EO r (n+1)=(Kq R).map λ(x:(Nat->Int)×Bool)=>x.1):=by
   show(match EO r n with|none=>none|some R'=>(Kq R').map λ(x:(Nat->Int)×Bool)=>x.1)=_;rw[F.out.1]
  have N:Hid (dc w w5):=F.out.2.2.trans (ho.below (bB _) (Nat.le_of_lt F.out.2.1.lt));cases A:Kq R with
  |none=>
   rw[A]at H o;obtain rfl:e=_:=H;have C:Hid (EO r (n+1)=none):=o.out;clear o A ho;go_wp2_with fail;go_ret;exact⟨N.out,.inl ⟨rfl,n+1,C.out⟩⟩
  |some x=>
   obtain⟨R',b'⟩:=x;rw[A]at H o;obtain⟨rfl,ha⟩:=H;have C:Hid (EO r (n+1)=some R'):=o.out;have J:Hid (At w5 w.heap.size (ic (rl R')) tNk):=ha;have V:Hid (Kq R=some (R',b')):=A;clear o A ho ha;cases b' with
   |false=>
    go_wp2_with fail;go_ret;exact⟨N.out,.inr ⟨w.heap.size,n,R,R',rfl,bB _,J.out,F.out.1,V.out⟩⟩
   |true=>
    go_wp2_with fail;go_roundw;case rel=>exact⟨n+1,R',C.out,J.out,N.out⟩
    case measure=>exact Vy F.out.2.1 J.out (HN.out n R F.out.1) (HN.out (n+1) R' C.out) V.out rfl
theorem It{R:Nat->Int}{M:Nat->Int}(h:∀f,f<32->R f=bd M f):rl R=Bl M:=by
 unfold rl Bl;refine cW λf m=>h f (by simpa using m)
theorem DC(u:Value)(l:List Int)(G:B_ l)(B:AQ w u l):Calls prog 59 #[u] w (BF w (ovE l) (BT l)):=by
 refine(KU u l G.1 B (λn R h=>Vj G h)).mono ?_;rintro e w' ⟨hb,⟨rfl,n,hn⟩|⟨g,n,R,R',rfl,hg,ha,h1,h2⟩⟩
 .refine⟨hb,.inl ⟨?_,rfl⟩⟩;cases he:ovE l with
  |true=>rfl
  |false=>
   obtain⟨R',e,_⟩:=IK G he n;rw[hn]at e;cases e
 .obtain⟨h3,h4⟩:=S4 G h1 h2;refine⟨hb,.inr ⟨h3,g,rfl,hg,?_⟩⟩;rw[<-It h4];exact ha
def L5(w:World)(l:List Int):Ending->World->Prop:=λx w'=>(B_ l/\Jr w (ovE l) (BT l) x w')\/(¬B_ l/\dc w w'/\x=.returned (.tuple #[.slice none 0 0,.int .i64 3]))
theorem WE(u:Value)(l:List Int)(H:l.length<=1073741824)(B:AQ w u l):Calls prog 36 #[u] w (L5 w l):=by
 have D:=GV u l H B;by_cases d:B_ l
 .have T:=DC u l d B;rw[CG.2 d]at D;have HK:Hid (B_ l):=d;obtain⟨ao,cap,rfl, -, -⟩:=B;clear d H;go_enter func36,ntmps36;go_wp2_with fail;refine D.mono ?_;rintro e E ⟨rfl,rfl⟩;go_wp2_with fail;refine T.mono ?_;intro x w3 hx;obtain⟨y,rfl,a,n,c,rfl⟩:=hx.val;have HX:Hid (BF E (ovE l) (BT l) (.returned (.slice a n c)) w3):=hx;clear hx;go_wp2_with fail
  go_ret2
  exact .inl ⟨HK.out,_,HX.out,rfl⟩
 .have hg:FM l=false:=by
   cases e:FM l with
   |false=>rfl
   |true=>exact absurd (CG.1 e) d
  rw[hg]at D;have HK:Hid (¬B_ l):=d;obtain⟨ao,cap,rfl, -, -⟩:=B;clear d H;go_enter func36,ntmps36;go_wp2_with fail;refine D.mono ?_;rintro e E ⟨rfl,rfl⟩;go_wp2_with fail
  go_ret2
  exact .inr ⟨HK.out,bC _ _,rfl⟩
variable {m m':Rd}
def Gd(s:St):Prop:=0<=s.var/\s.var<=3/\∀x,x∈s.sg-> -1<=x/\x<=1
def Bc(m:Rd):Prop:=∀s,s∈m.st->Gd s
theorem Y4:Gd AY:=⟨by decide,by decide,λx hx=>by simp[AY]at hx;omega⟩
theorem Bc.get(h:Bc m)(k:Nat):Gd (m.st.getD k AY):=by
 rw[bG];cases e:m.st[k]? with
 |none=>exact Y4
 |some s=>exact h s (bR e)
theorem Bc.cur(h:Bc m):Gd (cur m):=h.get _
theorem Bc.setC(h:Bc m){s:St}(hs:Gd s):Bc (AE m s):=λt a=>(Ft a).elim (h t) (λe=>e▸hs)
theorem Bc.of{m1:Rd}(h:Bc m1)(e:m'.st=m1.st):Bc m':=λs hs=>h s (e▸hs)
theorem Bc.begin_(h:Bc m){k v x:Int}(B:0<=v)(h3:v<=3)(e:BN m k v x=some m'):Bc m':=by
 unfold BN at e;split at e
 .cases e
 .cases e
  intro s hs;rcases cY.1 hs with hs|hs
  .exact h s hs
  .rw[List.mem_singleton.1 hs];exact⟨B,h3,λx hx=>by simp at hx;omega⟩
theorem Bc.shut(h:Bc m)(e:Ba m=some m'):Bc m':=by
 have b:=h.get (top m).of_;simp only[Ba]at e;split at e
 .cases e;exact λt a=>(cL a).elim (h t) (λe=>e▸b)
 .cases e;exact λt a=>(cL a).elim (h t) (λe=>e▸b)
theorem Bc.digit(h:Bc m){c x:Int}{pos:Bool}(e:AT m c pos x=some m'):Bc m':=by
 obtain⟨d,u,_,_,rfl⟩:=Gl e;exact(h.setC (s:={Go.Proofs.YtffajooegiempaaGreatDoor.cur m with num:=10*u+(c-48)}) h.cur).of rfl
theorem Bc.signTo(h:Bc m)(v:Nat)(y x:Int)(C: -1<=y/\y<=1):Bc (Bp m v y x):=by
 have hc:=h.cur;refine(h.setC (s:={Go.Proofs.YtffajooegiempaaGreatDoor.cur m with sg:=(Go.Proofs.YtffajooegiempaaGreatDoor.cur m).sg.set v y}) ⟨hc.1,hc.2.1,λz hz=>?_⟩).of rfl;rcases cL hz with hz|hz
 .exact hc.2.2 z hz
 .rw[hz];exact C
theorem Bc.plain(h:Bc m){c:Int}(e:Ac m c=some m'):Bc m':=by
 unfold Ac at e;split at e
 .split at e
  .cases e;exact h.of rfl
  .cases e
 .split at e
  .cases e
  .cases e;exact h.of rfl
theorem Bc.value(h:Bc m)(ok:Ok m){c:Int}(e:AO m c=some m'):Bc m':=by
 have hs:=ok.sgn;have f:Bc (CW m):=(h.setC (s:={Go.Proofs.YtffajooegiempaaGreatDoor.cur m with num:=m.sign*(Go.Proofs.YtffajooegiempaaGreatDoor.cur m).num}) h.cur).of rfl;unfold AO at e;split at e
 .split at e
  .cases e;exact(h.setC (s:={Go.Proofs.YtffajooegiempaaGreatDoor.cur m with star:=true}) h.cur).of rfl
  split at e
  .cases e;exact h.of rfl
  split at e
  .cases e;exact h.signTo _ 1 120 (by omega)
  .exact Bc.digit (m:={m with sign:=1}) (h.of rfl) e
 split at e
 .split at e
  .cases e;exact h.signTo _ m.sign 120 hs
  .exact h.digit e
 split at e
 .split at e
  .cases e;exact h.of rfl
  split at e
  .cases e;exact h.of rfl
  split at e
  .cases e;exact f
  .cases e
 split at e
 .exact h.digit e
 .split at e
  .cases e;exact f
  .exact h.digit e
theorem Bc.cond(h:Bc m)(ok:Ok m){c:Int}(e:AF m c=some m'):Bc m':=by
 have hs:=ok.sgn;unfold AF at e;by_cases g:m.state=99
 .rw[bA g]at e;split at e
  .cases e;exact(h.setC (s:={Go.Proofs.YtffajooegiempaaGreatDoor.cur m with star:=true}) h.cur).of rfl
  split at e
  .cases e;exact h.of rfl
  split at e
  .cases e;exact h.signTo _ 1 100 (by omega)
  .cases e
 rw[a_ g]at e;by_cases i:m.state=67
 .rw[bA i]at e;split at e
  .cases e;exact h.signTo _ m.sign 100 hs
  .cases e
 rw[a_ i]at e;by_cases j:m.state=100
 .rw[bA j]at e;split at e
  .cases e;exact h.of rfl
  split at e
  .cases e;exact h.of rfl
  split at e
  .cases e;exact h.of rfl
  .cases e
 rw[a_ j]at e;by_cases o:m.state=101
 .rw[bA o]at e;split at e
  .split at e
   .cases e;exact h.signTo _ m.sign 102 hs
   .cases e
  .cases e
 rw[a_ o]at e;by_cases p:m.state=102
 .rw[bA p]at e;split at e
  .cases e;exact h.of rfl
  .cases e
 rw[a_ p]at e;by_cases q:m.state=60
 .rw[bA q]at e;split at e
  .cases e;exact h.of rfl
  .cases e
 rw[a_ q]at e;by_cases r:m.state=98
 .rw[bA r]at e;split at e
  .cases e;exact h.of rfl
  .exact h.digit e
 rw[a_ r]at e;by_cases w:m.state=66
 .rw[bA w]at e;exact h.digit e
 rw[a_ w]at e;by_cases A:m.state=109
 .rw[bA A]at e;split at e
  .exact Bc.plain (m:={AE m {Go.Proofs.YtffajooegiempaaGreatDoor.cur m with num:=if m.neg then -(Go.Proofs.YtffajooegiempaaGreatDoor.cur m).num else(Go.Proofs.YtffajooegiempaaGreatDoor.cur m).num}with state:=AG m}) ((h.setC (s:={Go.Proofs.YtffajooegiempaaGreatDoor.cur m with num:=if m.neg then -(Go.Proofs.YtffajooegiempaaGreatDoor.cur m).num else(Go.Proofs.YtffajooegiempaaGreatDoor.cur m).num}) h.cur).of rfl) e
  .exact h.digit e
 rw[a_ A]at e;split at e
 .cases e;exact h.of rfl
 .cases e
theorem Bc.byte(h:Bc m)(ok:Ok m){c:Int}(e:AM m c=some m'):Bc m':=by
 unfold AM at e;split at e
 .unfold AP at e;split at e
  .exact h.begin_ (by omega) (by omega) e
  split at e
  .split at e
   .exact h.begin_ (by omega) (by omega) e
   .cases e
  split at e
  .exact h.begin_ (by omega) (by omega) e
  split at e
  .exact h.shut e
  .cases e
 split at e
 .split at e
  .cases e;exact h.of rfl
  .cases e
 split at e
 .exact h.value ok e
 split at e
 .exact h.plain e
 .exact h.cond ok e
theorem MR{l:List Int}:∀{m:Rd}{n k:Nat},Bc m->Ok m->BH m l n=(k,some m')->Bc m'/\Ok m':=by
 induction l with
 |nil=>intro m n k h ok e;simp[BH]at e;rw[<-e.2];exact⟨h,ok⟩
 |cons c l ih=>
  intro m n k h ok e;simp only[BH]at e;split at e
  .cases e
  .rename_i m1 e1;exact ih (h.byte ok e1) (ok.byte e1) e
end Go.Proofs.YtffajooegiempaaGreatDoor
