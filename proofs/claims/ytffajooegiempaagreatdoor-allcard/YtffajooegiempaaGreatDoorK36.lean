import Derived.Test.YtffajooegiempaaGreatDoorK35
import Derived.Test.YtffajooegiempaaGreatDoorTie
import Derived.Test.YtffajooegiempaaGreatDoorCards
import Derived.ProofKit
import Derived.LaidMore
import Derived.OpenShut
import Derived.Stop.Joined
import Derived.ChangeSlices
import Derived.Carry
set_option maxRecDepth 100000
set_option maxHeartbeats 6400000
namespace Go.Proofs.YtffajooegiempaaGreatDoor
open Go.RowKit Go.Proofs.Tryz
variable {w:World}
abbrev Ju(w:World):Ending->World->Prop:=λe w'=>e=.returned (.bool true)/\dc w w'
theorem Sc(g:Cr w)(s c:ByteArray)(x:Value)(I:List Int)(f p l:Int)(n y:Value)(o q:List Int)(r:s.size<=maxLen)(hc:c.size<=maxLen)(L:I.length<=maxLen)(u:AQ w x I)(t:o.length<=maxLen)(j:AQ w n o)(M:q.length<=maxLen)(v:AQ w y q):
  Calls prog 4 #[.string s,.string c,x,.int .i64 f,.int .i64 p,.int .i64 l,n,y] w (Ju w):=by
 have O:Hid (∀d,dc w d->Calls prog 9 #[.string s] d (Ju d)):=λd _=>Pq s d r (I9 s);have P:Hid (∀d,dc w d->Calls prog 10 #[.string s,.int .i64 p,.int .i64 l] d (Ju d)):=λd _=>PI s p l d r;have Q:Hid (∀d,dc w d->Calls prog 11 #[.string s,x,.int .i64 f] d (Ju d)):=λd hb=>Rx s x I f d r L (u.keep hb);have R:Hid (∀d,dc w d->Calls prog 12 #[n] d (Ju d)):=λd hb=>Nb (g.keep hb g.size) n o t (j.keep hb);have S:Hid (∀d,dc w d->Calls prog 13 #[n,y] d (Ju d)):=λd hb=>M6 (g.keep hb g.size) n y o q t M (j.keep hb) (v.keep hb);have T:Hid (∀d,dc w d->Calls prog 14 #[.string s,.int .i64 p,.int .i64 l,n] d (Ju d)):=λd hb=>PQ (g.keep hb g.size) s p l n o r t (j.keep hb);have U:Hid (∀d,dc w d->Calls prog 15 #[.string s,.int .i64 p,n] d (Ju d)):=λd hb=>Pk (g.keep hb g.size) s p n o r t (j.keep hb);have V:Hid (∀d,dc w d->Calls prog 16 #[.string c] d (Ju d)):=λd hb=>Pf (by unfold maxLen at hc;omega);have W:Hid (∀d,dc w d->Calls prog 17 #[.string s,.string c] d (Ju d)):=λd hb=>NY (g.keep hb g.size) s c r hc;have N:Hid (∀d,dc w d->Calls prog 3 #[.string s] d (Ju d)):=λd hb=>O2 (g.keep hb g.size) s r;obtain⟨ai,ci,rfl, -, -⟩:=u;obtain⟨ao,co,rfl, -, -⟩:=j;obtain⟨aq,cq,rfl, -, -⟩:=v;clear g r hc L t M;have m:Hid (∀{a b:World},dc w a->dc a b->dc w b):=λh k=>h.trans (k.mono h.size);go_enter func4,ntmps4;go_wp2_with fail;go_loopw [17] (λiv wr=>∃(i:Nat),i<=2/\iv=.int .i64 (i:Int)/\Hid (dc w wr)) (λiv _=>2-(intOf iv).toNat);case atStart=>exact⟨0,by omega,rfl,bC _ _⟩
 case round=>
  obtain⟨i,hi,rfl,z⟩:=hrel;by_cases ab:i<2
  .have aa:(i:Int)<2:=by omega
   go_wp2_with fail;refine(O.out _ z.out).mono ?_;rintro e d ⟨rfl,hb⟩;have B:Hid (dc w d):=m.out z.out hb;clear hb;go_wp2_with fail;refine(P.out _ B.out).mono ?_;rintro e Z ⟨rfl,hb⟩;have C:Hid (dc w Z):=m.out B.out hb;clear hb;go_wp2_with fail;refine(Q.out _ C.out).mono ?_;rintro e w3 ⟨rfl,hb⟩;have D:Hid (dc w w3):=m.out C.out hb;clear hb;go_wp2_with fail;refine(R.out _ D.out).mono ?_;rintro e w4 ⟨rfl,hb⟩;have E:Hid (dc w w4):=m.out D.out hb;clear hb;go_wp2_with fail;refine(S.out _ E.out).mono ?_;rintro e w5 ⟨rfl,hb⟩;have F:Hid (dc w w5):=m.out E.out hb;clear hb;go_wp2_with fail;refine(T.out _ F.out).mono ?_;rintro e w6 ⟨rfl,hb⟩;have G:Hid (dc w w6):=m.out F.out hb;clear hb;go_wp2_with fail;refine(U.out _ G.out).mono ?_;rintro e w7 ⟨rfl,hb⟩;have H:Hid (dc w w7):=m.out G.out hb;clear hb;go_wp2_with fail;refine(V.out _ H.out).mono ?_;rintro e w8 ⟨rfl,hb⟩;have J:Hid (dc w w8):=m.out H.out hb;clear hb;go_wp2_with fail;refine(W.out _ J.out).mono ?_;rintro e w9 ⟨rfl,hb⟩;have K:Hid (dc w w9):=m.out J.out hb;clear hb;go_wp2_with fail;refine(N.out _ K.out).mono ?_;rintro e Y ⟨rfl,hb⟩;have X:Hid (dc w Y):=m.out K.out hb;clear hb;go_wp2_with fail;go_roundw;case rel=>exact⟨i+1,by omega,by go_num,X.out⟩
   case measure=>simp[intOf];omega
  .have A:i=2:=by omega
   subst A;go_wp2_with fail;go_ret;exact⟨rfl,z.out⟩
end Go.Proofs.YtffajooegiempaaGreatDoor
namespace Go.Proofs.YtffajooegiempaaGreatDoor
open Go.ChangeShapes Go.WideShapes Go.ChangeAt Go.WideMaps Go.WideElems Go.RowKit Go.Proofs.Tryz
theorem Tryz.ownD:ownKnob Tryz.prog.godebug=none:=by kernel_rfl
theorem Xn:Tryz.prog.globalNamed "witness/octagon.firstSide" =some 0:=by kernel_rfl
theorem Vp:Tryz.prog.globalNamed "witness/octagon.secondSide" =some 1:=by kernel_rfl
theorem YQ:(Tryz.prog.globals[0]?).map (·.type)=some 169:=by kernel_rfl
theorem WM:(Tryz.prog.globals[1]?).map (·.type)=some 169:=by kernel_rfl
def Nv:List (String×DataW Unit):=[("witness/octagon.firstSide",Rows.laid_witness_octagon_firstSide),("witness/octagon.secondSide",Rows.laid_witness_octagon_secondSide)]
theorem S5(os:Os)(args:Array Value):laidMetH prog Nv ((World.doorLaid prog 4000 os).forCall (λ_ _=>0) ⟨#[],args,[]⟩).memory:=
 laidMetH_of_parts3 (fuel:=8) (laidMet_of_run' 8 (by kernel_rfl) (by kernel_rfl)) (by kernel_rfl) (by kernel_rfl)
theorem L0{H:Type}{enc:TypeId×Value->H}{w:World}{base:Nat}{A:Nat->Bool}{d:Bool}{fuel:Nat}{m:Array Value}{L:List Nat}{y:List MemPlace}
  (hL:L.length=32) (h:DataW.trod enc prog w base A d fuel 169 m.toList=some (.agg (L.map λn=>.lit (.int .i64 ((n:Nat):Int))),y)):∀i,i<32->m[i]?=some (.int .i64 ((L.getD i 0:Nat):Int)):=by
 obtain⟨xs,m1,rfl,j,aa,ad,q⟩:=DataW.trod_array underlying169 h;have c3:Tryz.prog.cellsOf 3=1:=by kernel_rfl
 simp only[Prod.mk.injEq,DataW.agg.injEq]at j;intro i hi;have x:=q i hi;rw[c3,Nat.mul_one,bP (by omega)]at x;obtain⟨k,e1,e2,_⟩:=DataW.trod_int underlying3 x;have c:(L.map λn=>(DataW.lit (.int .i64 ((n:Nat):Int)):DataW H))[i]?=(xs.map (·.1))[i]?:=by rw[j.1]
 rw[List.getElem?_map,List.getElem?_map,bP (by omega),bP (show i<xs.length by omega)]at c;simp only[Option.map_some,Option.some.injEq]at c;rw[e2]at c;simp only[DataW.lit.injEq,Lit.int.injEq,true_and]at c;have z:m.toList[i]?=some (.int .i64 k):=by
  have:=congrArg (λl:List Value=>l[0]?) e1;simpa[List.getElem?_take,List.getElem?_drop]using this
 rw[<-cP,z,<-c];simp[List.getD,show i<L.length by omega]
theorem V7{W:World}(h:laidMetH prog Nv W):Cr W:=by
 rw[MakeChecks.laidMetH_plain _ _ _ (by kernel_rfl)]at h;obtain⟨y,⟨g0,t0,ab,f0,p0,q0,e,s,u,o,⟨g1,t1,ac,f1,p1,q1,g,t,v,p,_,_⟩,_⟩,_,_⟩:=h;obtain rfl:=bV (Xn.symm.trans e);obtain rfl:=bV (Vp.symm.trans g);obtain rfl:=bV (YQ.symm.trans s);obtain rfl:=bV (WM.symm.trans t);have a:=L0 (L:=Z8) rfl o;have b:=L0 (L:=Z_) rfl p;have c1:∀f,f<32->W.cell? ⟨0,f,none⟩=some (.int .i64 ((fs f:Nat):Int)):=λf r=>(World.var?_cell e u f).trans (a f r);have c2:∀f,f<32->W.cell? ⟨1,f,none⟩=some (.int .i64 ((ss f:Nat):Int)):=λf r=>(World.var?_cell g v f).trans (b f r);have:=World.block_lt_of_cell? W _ (c2 0 (by omega));exact⟨c1,c2,by have h':1<W.heap.size:=this;omega⟩
theorem Tryz.laidOutD:laidOutB prog=true:=by kernel_rfl
theorem Tryz.cellsD:Tryz.prog.cellsOf 3=1:=by kernel_rfl
theorem Hs{H:Type}{enc:TypeId×Value->H}{W:World}{j:Option Addr}{len cap:Nat}{d:DataW H}{p:List MemPlace}
  (h:DataW.Trod enc prog W 0 (λ_=>true) true 32 (.slice j len cap) d p) (hlt:∀x∈p,x.block<W.heap.size):∃L:List Int,L.length<=maxLen/\AQ W (.slice j len cap) L:=by
 obtain⟨fuel,n⟩:=h;rcases open_ints underlying32 underlying3 Tryz.cellsD n with⟨c,hx⟩|⟨a,ab,aa,m,c,_,l,o,hz,hx,b,ac⟩
 .simp[Value.cells]at c;obtain⟨rfl,rfl,rfl⟩:=c;exact⟨[],bY _,none,0,rfl,bB _,λh=>absurd rfl h⟩
 .simp[Value.cells]at c;obtain⟨rfl,rfl,rfl⟩:=c;simp only[Prod.mk.injEq]at hx;obtain⟨rfl,rfl⟩:=hx;simp only[if_true]at hz;have e:(m.take len).length=len:=by simp;omega
  refine⟨m.take len,by rw[e];exact cN l o,some a,cap,by rw[e],by rw[e];exact l,λhn=>?_⟩;rw[e]at hn;obtain⟨k,off,g⟩:=a;have f:g=none:=by simpa[Addr.add]using World.cell?_spot (b 0 (by omega))
  subst f;refine⟨k,off,rfl,hlt (.cell k off) (MemPlace.mem_row.2 ⟨0,by omega,by simp⟩),λi hi=>?_⟩;rw[e]at hi;rw[<-add_plain,b i (by omega)]
  congr 2
  simp[List.getD,hi]
end Go.Proofs.YtffajooegiempaaGreatDoor
