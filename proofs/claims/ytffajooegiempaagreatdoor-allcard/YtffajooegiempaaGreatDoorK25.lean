import Derived.Test.YtffajooegiempaaGreatDoorK24
import Derived.Deep.RegionHeld3
import Derived.Deep.MidRow
set_option maxRecDepth 100000
set_option maxHeartbeats 6400000
namespace Go.Proofs.YtffajooegiempaaGreatDoor
open Go.RowKit Go.Proofs.Tryz
variable {w w':World}{g cap:Nat}{F:List Ds}
def Pw(x:Int×Int):Ending:=.returned (.tuple #[.int .i64 x.1,.int .i64 x.2])
theorem Ot(N:Option Addr)(n:Nat)(hn:n<=20)(pt b:Int)(Q:pt<0\/(n:Int)<=pt)(w:World):
  Calls prog 68 #[.agg #[.slice N n cap],.int .i64 pt,.int .i64 b] w λe w'=>e=Pw (0,2)/\dc w w':=by
 have t:Hid (∀j,dc w (w.alloc j)):=λj=>(bC _ _).alloc (bB _) _;have i:Hid (∀c,Calls prog 79 #[.agg #[.slice N n cap],.int .i64 pt,.int .i64 b] c λe w'=>e=.returned (.tuple #[B0 EI,.int .i64 2])/\dc c w'):=λc=>J8 N n hn pt b Q;unfold B0 EI AC at i;clear Q;go_enter func68,ntmps68;go_wp2_with fail;refine(i.out _).mono ?_;rintro e c ⟨rfl,a⟩;have r:Hid (dc w c):=(t.out _).trans (a.mono (by simp));have s:=r.out.size;clear a;go_wp2_with fail
 go_ret2
 exact⟨rfl,r.out.alloc s _⟩
theorem Gj(h:Cc w g F)(O:F.length<=20)(G:∀(k:Nat)(x:Ds),F[k]?=some x-> -1<=x.parent/\x.parent<(k:Int))(k:Nat)(hk:k<F.length)(b:Int):
  Calls prog 68 #[.agg #[.slice (some ⟨g,0,none⟩) F.length cap],.int .i64 (k:Int),.int .i64 b] w λe w'=>e=Pw (Ap F k b)/\dc w w':=by
 have hg:=h.1;have aa:(k:Int)<(F.length:Int):=by omega
 have K:Hid (Cc w g F):=h;have E:Hid (∀(k:Nat)(x:Ds),F[k]?=some x-> -1<=x.parent/\x.parent<(k:Int)):=G;have t:Hid (∀j,dc w (w.alloc j)):=λj=>(bC _ _).alloc (bB _) _;have M:Hid (Ap F k b=if b<0\/Ae (F.getD k (AC 0 0)).kind<=b then(0,2)else if An (F.getD k (AC 0 0)).kind<=b then(BX F 21 k,0)else if Bu F k b ((k:Int)+1)≠ -1 then(Bu F k b ((k:Int)+1),0)else if(F.getD k (AC 0 0)).kind=3 then((k:Int),0)else(BX F 21 k,0)):=by
  show Ap F k b=_;unfold Ap;rw[a_ (by omega),bK]
 have i:Hid (∀c,dc w c->Calls prog 79 #[.agg #[.slice (some ⟨g,0,none⟩) F.length cap],.int .i64 (k:Int),.int .i64 b] c λe w'=>
   e=.returned (.tuple #[B0 (if b<0\/Ae (F.getD k (AC 0 0)).kind<=b then EI else F.getD k (AC 0 0)),.int .i64 (if b<0\/Ae (F.getD k (AC 0 0)).kind<=b then 2 else 0)])/\dc c w'):=λc hb=>LU (K.out.keep hb) k hk b
 clear h G;generalize F.getD k (AC 0 0)=x at *;by_cases f:b<0\/Ae x.kind<=b
 .have y:Hid (_=_):=M.out.trans (bA f);rw[bA f,bA f]at i;unfold B0 EI AC at i;clear M f;go_enter func68,ntmps68;go_wp2_with fail;refine(i.out _ (t.out _)).mono ?_;rintro e c ⟨rfl,a⟩;have J:c.cell? ⟨w.heap.size,0,none⟩=some (.slice (some ⟨g,0,none⟩) F.length cap):=by
   rw[a.cell (p:=⟨w.heap.size,0,none⟩) (by simp)];exact bL _ _ _ _ rfl
  have r:Hid (dc w c):=(t.out _).trans (a.mono (by simp));have s:w.heap.size+1<=c.heap.size:=by have:=a.size;simp at this;omega
  have q:w.heap.size<c.heap.size:=by omega
  have u:Hid (∀j l:Obj,dc w ((c.alloc j).alloc l)):=λj l=>(r.out.alloc (by omega) _).alloc (by simp;omega) _;clear a;go_wp2_with fail
  go_ret2
  exact⟨by rw[y.out];rfl,r.out.alloc (by omega) _⟩
 have z:Hid (_=_):=M.out.trans (a_ f);rw[a_ f,a_ f]at i;unfold B0 at i;clear M f;by_cases hb:An x.kind<=b
 .have y:Hid (_=_):=z.out.trans (bA hb);clear z;go_enter func68,ntmps68;go_wp2_with fail;refine(i.out _ (t.out _)).mono ?_;rintro e c ⟨rfl,a⟩;have J:c.cell? ⟨w.heap.size,0,none⟩=some (.slice (some ⟨g,0,none⟩) F.length cap):=by
   rw[a.cell (p:=⟨w.heap.size,0,none⟩) (by simp)];exact bL _ _ _ _ rfl
  have r:Hid (dc w c):=(t.out _).trans (a.mono (by simp));have s:w.heap.size+1<=c.heap.size:=by have:=a.size;simp at this;omega
  have q:w.heap.size<c.heap.size:=by omega
  have u:Hid (∀j l:Obj,dc w ((c.alloc j).alloc l)):=λj l=>(r.out.alloc (by omega) _).alloc (by simp;omega) _;clear a;go_wp2_with fail;refine(CQ _ _ _ _ _ _ _ _ _ _ _).mono ?_;rintro e D ⟨rfl,l,rfl⟩;go_wp2_with fail;refine(JH (K.out.keep (u.out _ _)) O E.out (k:Int) (by omega) (by omega)).mono ?_;rintro e S ⟨rfl,I⟩;go_wp2_with fail
  go_ret2
  exact⟨by rw[y.out];rfl,(u.out _ _).trans (I.mono (by simp;omega))⟩
 have A:Hid (_=_):=z.out.trans (a_ hb);clear z;have H:Hid (∀(D:World)(P:Cc D g F),Calls prog 103 #[.agg #[.slice (some ⟨g,0,none⟩) F.length cap],.int .i64 (k:Int),.int .i64 b,.int .i64 ((k:Int)+1)] D λe w'=>e=.returned (.int .i64 (Bu F k b ((k:Int)+1)))/\dc D w'):=λD P=>LT (cap:=cap) P O k b ((k:Int)+1);generalize Bu F k b ((k:Int)+1)=fi at *;by_cases C:fi= -1
 .subst C;have B:Hid (_=_):=A.out.trans (a_ (by decide));clear A;by_cases h3:x.kind=3
  .have y:Hid (_=_):=B.out.trans (bA h3);clear B;have R:Hid (x.kind=3):=h3;clear h3;go_enter func68,ntmps68;go_wp2_with fail;refine(i.out _ (t.out _)).mono ?_;rintro e c ⟨rfl,a⟩;have J:c.cell? ⟨w.heap.size,0,none⟩=some (.slice (some ⟨g,0,none⟩) F.length cap):=by
    rw[a.cell (p:=⟨w.heap.size,0,none⟩) (by simp)];exact bL _ _ _ _ rfl
   have r:Hid (dc w c):=(t.out _).trans (a.mono (by simp));have s:w.heap.size+1<=c.heap.size:=by have:=a.size;simp at this;omega
   have q:w.heap.size<c.heap.size:=by omega
   have u:Hid (∀j l:Obj,dc w ((c.alloc j).alloc l)):=λj l=>(r.out.alloc (by omega) _).alloc (by simp;omega) _;clear a;go_wp2_with fail;refine(CQ _ _ _ _ _ _ _ _ _ _ _).mono ?_;rintro e D ⟨rfl,l,rfl⟩;go_wp2_with fail;refine(H.out _ (K.out.keep (u.out _ _))).mono ?_;rintro e v ⟨rfl,d⟩;have m:=d.size;simp at m;have L:v.cell? ⟨c.heap.size,0,none⟩=some (.int .i64 x.kind):=by
    rw[d.cell (p:=⟨c.heap.size,0,none⟩) (by simp;omega),cJ _ _ _ (by simp)];exact bL _ _ _ _ rfl
   have p0:v.cell? ⟨w.heap.size,0,none⟩=some (.slice (some ⟨g,0,none⟩) F.length cap):=by
    rw[d.cell (p:=⟨w.heap.size,0,none⟩) (by simp;omega),cJ _ _ _ (by simp;omega),cJ _ _ _ (by omega)];exact J
   have o:Hid (dc w v):=(u.out _ _).trans (d.mono (by simp;omega));clear d;have ab:v.cell? ⟨c.heap.size,0,none⟩=some (.int .i64 3):=by rw[L,R.out]
   clear L;go_wp2_with fail
   go_ret2
   exact⟨by rw[y.out];rfl,o.out⟩
  .have y:Hid (_=_):=B.out.trans (a_ h3);have b3:(x.kind==3)=false:=by simpa using h3
   clear B h3;go_enter func68,ntmps68;go_wp2_with fail;refine(i.out _ (t.out _)).mono ?_;rintro e c ⟨rfl,a⟩;have J:c.cell? ⟨w.heap.size,0,none⟩=some (.slice (some ⟨g,0,none⟩) F.length cap):=by
    rw[a.cell (p:=⟨w.heap.size,0,none⟩) (by simp)];exact bL _ _ _ _ rfl
   have r:Hid (dc w c):=(t.out _).trans (a.mono (by simp));have s:w.heap.size+1<=c.heap.size:=by have:=a.size;simp at this;omega
   have q:w.heap.size<c.heap.size:=by omega
   have u:Hid (∀j l:Obj,dc w ((c.alloc j).alloc l)):=λj l=>(r.out.alloc (by omega) _).alloc (by simp;omega) _;clear a;go_wp2_with fail;refine(CQ _ _ _ _ _ _ _ _ _ _ _).mono ?_;rintro e D ⟨rfl,l,rfl⟩;go_wp2_with fail;refine(H.out _ (K.out.keep (u.out _ _))).mono ?_;rintro e v ⟨rfl,d⟩;have m:=d.size;simp at m;have L:v.cell? ⟨c.heap.size,0,none⟩=some (.int .i64 x.kind):=by
    rw[d.cell (p:=⟨c.heap.size,0,none⟩) (by simp;omega),cJ _ _ _ (by simp)];exact bL _ _ _ _ rfl
   have p0:v.cell? ⟨w.heap.size,0,none⟩=some (.slice (some ⟨g,0,none⟩) F.length cap):=by
    rw[d.cell (p:=⟨w.heap.size,0,none⟩) (by simp;omega),cJ _ _ _ (by simp;omega),cJ _ _ _ (by omega)];exact J
   have o:Hid (dc w v):=(u.out _ _).trans (d.mono (by simp;omega));clear d;go_wp2_with fail;refine(JH (K.out.keep o.out) O E.out (k:Int) (by omega) (by omega)).mono ?_;rintro e S ⟨rfl,I⟩;go_wp2_with fail
   go_ret2
   exact⟨by rw[y.out];rfl,o.out.trans (I.mono o.out.size)⟩
 .have y:Hid (_=_):=A.out.trans (bA C);have bf:(fi != -1)=true:=by rw[cI];exact C
  clear A C;go_enter func68,ntmps68;go_wp2_with fail;refine(i.out _ (t.out _)).mono ?_;rintro e c ⟨rfl,a⟩;have J:c.cell? ⟨w.heap.size,0,none⟩=some (.slice (some ⟨g,0,none⟩) F.length cap):=by
   rw[a.cell (p:=⟨w.heap.size,0,none⟩) (by simp)];exact bL _ _ _ _ rfl
  have r:Hid (dc w c):=(t.out _).trans (a.mono (by simp));have s:w.heap.size+1<=c.heap.size:=by have:=a.size;simp at this;omega
  have q:w.heap.size<c.heap.size:=by omega
  have u:Hid (∀j l:Obj,dc w ((c.alloc j).alloc l)):=λj l=>(r.out.alloc (by omega) _).alloc (by simp;omega) _;clear a;go_wp2_with fail;refine(CQ _ _ _ _ _ _ _ _ _ _ _).mono ?_;rintro e D ⟨rfl,l,rfl⟩;go_wp2_with fail;refine(H.out _ (K.out.keep (u.out _ _))).mono ?_;rintro e v ⟨rfl,d⟩;have m:=d.size;simp at m;have L:v.cell? ⟨c.heap.size,0,none⟩=some (.int .i64 x.kind):=by
   rw[d.cell (p:=⟨c.heap.size,0,none⟩) (by simp;omega),cJ _ _ _ (by simp)];exact bL _ _ _ _ rfl
  have p0:v.cell? ⟨w.heap.size,0,none⟩=some (.slice (some ⟨g,0,none⟩) F.length cap):=by
   rw[d.cell (p:=⟨w.heap.size,0,none⟩) (by simp;omega),cJ _ _ _ (by simp;omega),cJ _ _ _ (by omega)];exact J
  have o:Hid (dc w v):=(u.out _ _).trans (d.mono (by simp;omega));clear d;clear L;go_wp2_with fail
  go_ret2
  exact⟨by rw[y.out];rfl,o.out⟩
variable {s:ByteArray}
def ET(f:Nat->Bool):Nat->Bool
 |0=>true
 |n+1=>ET f n&&f n
theorem MA{f:Nat->Bool}{n i:Nat}(hi:i<n)(h:f i=false):ET f n=false:=by
 induction n with
 |zero=>cases hi
 |succ n ih=>
  show(ET f n&&f n)=false;rcases bW i n with q|q
  .rw[ih q];rfl
  .rw[show n=i by omega,h,Bool.and_false]
def D0(F:List Ds)(L:List (Option (List Int)))(k b:Nat):Bool:=
 DY (CA (cE (BG L k)) (cM (BG L k)) (F.getD k (AC 0 0)) b) (cE (BG L (Ap F k b).1)) (CE (cE (BG L k)) (cM (BG L k)) (F.getD k (AC 0 0)) b) (cM (BG L (Ap F k b).1))
def EK(F:List Ds)(L:List (Option (List Int)))(k:Nat):Int:=
 if DF (cE (BG L k)) (cM (BG L k)) (F.getD k (AC 0 0))=false then 6 else if ET (D0 F L k) (Ae (F.getD k (AC 0 0)).kind).toNat then 0 else 7
theorem Fv(F:List Ds)(k:Nat)(hk:k<F.length)(b:Nat)(h:(b:Int)<Ae (F.getD k (AC 0 0)).kind):(Ap F k b).2=0:=by
 unfold Ap;rw[a_ (by omega),a_ (by rw[bK];omega)];split
 .rfl
 .split
  .rfl
  .split<;>rfl
theorem D1(x:Int):1<=Ae x/\Ae x<=2:=by
 unfold Ae;split<;>omega
abbrev JP:TypeId:=43
def CB(w wr:World)(B7 B9:Nat)(e1:Bool)(c:Nat->Int)(x:Ds)(pv:Value):Prop:=AL wr B9 e1 c/\At wr B7 (AD x) BB/\At wr w.heap.size #[pv] JP/\dc w wr
theorem CB.keep{wr w':World}{B7 B9:Nat}{e1:Bool}{c:Nat->Int}{x:Ds}{pv:Value}(h:CB w wr B7 B9 e1 c x pv)(hb:dc wr w'):CB w w' B7 B9 e1 c x pv:=
 ⟨At.keep h.1 hb (At.lt h.1),h.2.1.keep hb h.2.1.lt,h.2.2.1.keep hb h.2.2.1.lt,h.2.2.2.trans (hb.mono h.2.2.2.size)⟩
theorem MG{T cap g k:Nat}{F:List Ds}{L:List (Option (List Int))}(hP:Cc w T F)(hl:F.length<=20)(K:∀(k:Nat)(x:Ds),F[k]?=some x-> -1<=x.parent/\x.parent<(k:Int))(hk:k<F.length)(hO:JQ w g L)
  (hx:OY (F.getD k (AC 0 0))) (ht:0<=(F.getD k (AC 0 0)).target/\(F.getD k (AC 0 0)).target<4) (hM:∀j,j<64-> -20000000000<=cM (BG L k) j/\cM (BG L k) j<=1000000) (hS:cE (BG L k)=false->Sh (cM (BG L k))):
  Calls prog 91 #[.agg #[.slice (some ⟨T,0,none⟩) F.length cap],.slice (some ⟨g,0,none⟩) L.length 21,.int .i64 (k:Int)] w λe w'=>e=.returned (.int .i64 (EK F L k))/\dc w w':=by
 have V:Hid (∀a,dc w a->Calls prog 81 #[.agg #[.slice (some ⟨T,0,none⟩) F.length cap],.int .i64 (k:Int)] a λe w'=>e=.returned (.tuple #[B0 (F.getD k (AC 0 0)),.int .i64 0])/\dc a w'):=λa hb=>Fm (hP.keep hb) k hk;have Y:Hid (∀a (b:Nat),(b:Int)<Ae (F.getD k (AC 0 0)).kind->dc w a->Calls prog 68 #[.agg #[.slice (some ⟨T,0,none⟩) F.length cap],.int .i64 (k:Int),.int .i64 (b:Int)] a λe w'=>e=.returned (.tuple #[.int .i64 (Ap F k b).1,.int .i64 0])/\dc a w'):=λa b hw hb=>by
  have:=Gj (cap:=cap) (hP.keep hb) hl K k hk (b:Int);unfold Pw at this;rw[Fv F k hk b hw]at this;exact this
 have X:Hid (∀a pt,dc w a->Calls prog 90 #[.slice (some ⟨g,0,none⟩) L.length 21,.int .i64 pt] a λe w'=>e=.returned (.agg (oc (cE (BG L pt)) (cM (BG L pt))))/\dc a w'):=λa pt hb=>LP (hO.keep hb) pt;have Q:Hid (∀a,Calls prog 82 #[B0 (F.getD k (AC 0 0)),.agg (oc (cE (BG L k)) (cM (BG L k)))] a λe w'=>e=.returned (.bool (DF (cE (BG L k)) (cM (BG L k)) (F.getD k (AC 0 0))))/\dc a w'):=λa=>O1 _ hx (λj hj=>by have:=hM j hj;omega);have Z:Hid (∀a (b:Nat),Calls prog 80 #[B0 (F.getD k (AC 0 0)),.int .i64 (b:Int),.agg (oc (cE (BG L k)) (cM (BG L k)))] a λe w'=>e=.returned (.agg (oc (CA (cE (BG L k)) (cM (BG L k)) (F.getD k (AC 0 0)) b) (CE (cE (BG L k)) (cM (BG L k)) (F.getD k (AC 0 0)) b)))/\dc a w'):=λa b=>O0 _ hx ht (b:Int) hM hS;have W:Hid (EK F L k=if DF (cE (BG L k)) (cM (BG L k)) (F.getD k (AC 0 0))=false then 6 else if ET (D0 F L k) (Ae (F.getD k (AC 0 0)).kind).toNat then 0 else 7):=rfl;have ap:Hid (∀b:Nat,D0 F L k b=DY (CA (cE (BG L k)) (cM (BG L k)) (F.getD k (AC 0 0)) b) (cE (BG L (Ap F k b).1)) (CE (cE (BG L k)) (cM (BG L k)) (F.getD k (AC 0 0)) b) (cM (BG L (Ap F k b).1))):=λb=>rfl;clear hP hl K hO hx ht hM hS hk;generalize D0 F L k=wp at *;generalize F.getD k (AC 0 0)=x at *;have z:=λa hb=>X.out a (k:Int) hb;have z:Hid (∀a,dc w a->Calls prog 90 #[.slice (some ⟨g,0,none⟩) L.length 21,.int .i64 (k:Int)] a λe w'=>e=.returned (.agg (oc (cE (BG L k)) (cM (BG L k))))/\dc a w'):=z;generalize cE (BG L k)=e1 at *;generalize cM (BG L k)=c at *;have aw:=D1 x.kind;obtain⟨n,hn⟩:∃n:Nat,Ae x.kind=(n:Int):=⟨(Ae x.kind).toNat,by omega⟩
 have HW:Hid (∀a,Calls prog 111 #[B0 x] a λe w'=>e=.returned (.int .i64 (n:Int))/\dc a w'):=λa=>by
  rw[<-hn];exact(MM _ _ _ _ _ _ _ _ _ _ a).mono λe w' ⟨h1,o,h2⟩=>⟨h1,by rw[h2];exact(bC _ _).alloc (bB _) _⟩
 rw[hn]at W Y;rw[bK]at W;unfold B0 at V Q Z HW;have aC:n<=2:=by omega
 clear aw hn;have hz:=Bn;obtain⟨pv,aj⟩:∃pv,pv=Value.slice (some ⟨T,0,none⟩) F.length cap:=⟨_,rfl⟩
 go_enter func91,ntmps91;go_wp2_with fail;refine(V.out _ ((bC _ _).alloc (bB _) _)).mono ?_;rintro e a ⟨rfl,R⟩;have O:Hid (At a w.heap.size #[pv] JP/\dc w a):=by rw[aj];exact⟨At.keep (At.new w _ _) R (by simp),((bC _ _).alloc (bB _) _).trans (R.mono (by simp))⟩
 have E:Hid (∀ob,Calls prog 90 #[.slice (some ⟨g,0,none⟩) L.length 21,.int .i64 (k:Int)] (a.alloc ob) λe w'=>e=.returned (.agg (oc e1 c))/\Below (a.alloc ob).heap.size (a.alloc ob) w'):=λob=>z.out _ (O.out.2.alloc O.out.2.size _);clear R z;go_wp2_with fail;refine(E.out _).mono ?_;rintro e p ⟨rfl,y⟩;obtain⟨t,az,H,A,aE⟩:=Bb p e1 c;have aD:a.heap.size+1<=p.heap.size:=by have:=y.size;simpa using this
 have m:Hid (CB w t a.heap.size p.heap.size e1 c x pv):=by
  have ab:At p a.heap.size (AD x) BB:=At.keep (At.new a (AD x) BB) y (by simp);have aa:At p w.heap.size #[pv] JP:=At.keep (At.allocH O.out.1 _) y (by have:=O.out.1.lt;simp;omega);have ac:dc w p:=(O.out.2.alloc O.out.2.size _).trans (y.mono (by have:=O.out.2.size;simp;omega));exact⟨H,ab.keep A ab.lt,aa.keep A aa.lt,ac.trans (A.mono ac.size)⟩
 clear y H A E;have y0:t.cell? ⟨a.heap.size,0,none⟩=some (.int .i64 x.kind):=(m.out.2.1).cell 0;have y1:t.cell? ⟨a.heap.size,1,none⟩=some (.int .i64 x.target):=(m.out.2.1).cell 1;have y2:t.cell? ⟨a.heap.size,2,none⟩=some (.bool x.any):=(m.out.2.1).cell 2;have y3:t.cell? ⟨a.heap.size,3,none⟩=some (.int .i64 (AB x.sg 0)):=(m.out.2.1).cell 3;have y4:t.cell? ⟨a.heap.size,4,none⟩=some (.int .i64 (AB x.sg 1)):=(m.out.2.1).cell 4;have y5:t.cell? ⟨a.heap.size,5,none⟩=some (.int .i64 (AB x.sg 2)):=(m.out.2.1).cell 5;have y6:t.cell? ⟨a.heap.size,6,none⟩=some (.int .i64 (AB x.sg 3)):=(m.out.2.1).cell 6;have y7:t.cell? ⟨a.heap.size,7,none⟩=some (.int .i64 x.num):=(m.out.2.1).cell 7;have y8:t.cell? ⟨a.heap.size,8,none⟩=some (.int .i64 x.parent):=(m.out.2.1).cell 8;have y9:t.cell? ⟨a.heap.size,9,none⟩=some (.int .i64 x.block):=(m.out.2.1).cell 9;go_wp2_with (refine AH rfl (.tmp 9) rfl rfl m.out.1 ?_);refine(Q.out t).mono ?_;rintro e w4 ⟨rfl,ad⟩;have H4:Hid (CB w w4 a.heap.size p.heap.size e1 c x pv):=m.out.keep ad;clear ad Q y0 y1 y2 y3 y4 y5 y6 y7 y8 y9 m;cases B:DF e1 c x with
 |false=>
  have HE:Hid (EK F L k=6):=by show _=_;rw[W.out,bA B]
  clear B;go_wp2_with fail;go_ret;exact⟨by rw[HE.out];rfl,H4.out.2.2.2⟩
 |true=>
  have HE:Hid (EK F L k=if ET wp n=true then 0 else 7):=by show _=_;rw[W.out,a_ (by rw[B];decide)]
  clear B W;go_wp2_with fail;go_loopw [10] (λiv wr=>∃i:Nat,i<=n/\iv=.int .i64 (i:Int)/\Hid (ET wp i=true/\CB w wr a.heap.size p.heap.size e1 c x pv)) (λiv _=>n-(intOf iv).toNat);case atStart=>exact⟨0,by omega,rfl,rfl,H4.out⟩
  case round=>
   obtain⟨i,hi,rfl,l⟩:=hrel;have y0:wr.cell? ⟨a.heap.size,0,none⟩=some (.int .i64 x.kind):=(l.out.2.2.1).cell 0;have y1:wr.cell? ⟨a.heap.size,1,none⟩=some (.int .i64 x.target):=(l.out.2.2.1).cell 1;have y2:wr.cell? ⟨a.heap.size,2,none⟩=some (.bool x.any):=(l.out.2.2.1).cell 2;have y3:wr.cell? ⟨a.heap.size,3,none⟩=some (.int .i64 (AB x.sg 0)):=(l.out.2.2.1).cell 3;have y4:wr.cell? ⟨a.heap.size,4,none⟩=some (.int .i64 (AB x.sg 1)):=(l.out.2.2.1).cell 4;have y5:wr.cell? ⟨a.heap.size,5,none⟩=some (.int .i64 (AB x.sg 2)):=(l.out.2.2.1).cell 5;have y6:wr.cell? ⟨a.heap.size,6,none⟩=some (.int .i64 (AB x.sg 3)):=(l.out.2.2.1).cell 6;have y7:wr.cell? ⟨a.heap.size,7,none⟩=some (.int .i64 x.num):=(l.out.2.2.1).cell 7;have y8:wr.cell? ⟨a.heap.size,8,none⟩=some (.int .i64 x.parent):=(l.out.2.2.1).cell 8;have y9:wr.cell? ⟨a.heap.size,9,none⟩=some (.int .i64 x.block):=(l.out.2.2.1).cell 9;have aB:=l.out.2.2.1.lt;go_wp2_with fail;refine(HW.out wr).mono ?_;rintro e w5 ⟨rfl,ae⟩;have H5:Hid (CB w w5 a.heap.size p.heap.size e1 c x pv):=l.out.2.keep ae;clear ae y0 y1 y2 y3 y4 y5 y6 y7 y8 y9;by_cases au:i<n
   .have ar:(i:Int)<(n:Int):=by omega
    have c3:w5.cell? ⟨w.heap.size,0,none⟩=some (.slice (some ⟨T,0,none⟩) F.length cap):=by rw[<-aj];exact H5.out.2.2.1.cell 0
    have ai:=Y.out w5 i ar H5.out.2.2.2;have G:Hid (wp i=DY (CA e1 c x i) (cE (BG L (Ap F k i).1)) (CE e1 c x i) (cM (BG L (Ap F k i).1))):=ap.out i;generalize(Ap F k i).1=q at *;have ak:Hid (∀a,dc w a->Calls prog 90 #[.slice (some ⟨g,0,none⟩) L.length 21,.int .i64 q] a λe w'=>e=.returned (.agg (oc (cE (BG L q)) (cM (BG L q))))/\dc a w'):=λa hb=>X.out a q hb;have ao:Hid _:=λa=>Z.out a i;generalize cE (BG L q)=e3 at *;generalize cM (BG L q)=M3 at *;generalize CA e1 c x i=e4 at *;generalize CE e1 c x i=M4 at *;go_wp2_with fail;refine ai.mono ?_;rintro e w6 ⟨rfl,af⟩;have H6:Hid (CB w w6 a.heap.size p.heap.size e1 c x pv):=H5.out.keep af;clear af ai c3;go_wp2_with fail;refine(ak.out w6 H6.out.2.2.2).mono ?_;rintro e w7 ⟨rfl,ag⟩;obtain⟨r,aA,I,ah,aF⟩:=Bb w7 e3 M3;have d:Hid (AL r w7.heap.size e3 M3/\CB w r a.heap.size p.heap.size e1 c x pv):=⟨I,(H6.out.keep ag).keep ah⟩
    clear ag I ah;have y0:r.cell? ⟨a.heap.size,0,none⟩=some (.int .i64 x.kind):=(d.out.2.2.1).cell 0;have y1:r.cell? ⟨a.heap.size,1,none⟩=some (.int .i64 x.target):=(d.out.2.2.1).cell 1;have y2:r.cell? ⟨a.heap.size,2,none⟩=some (.bool x.any):=(d.out.2.2.1).cell 2;have y3:r.cell? ⟨a.heap.size,3,none⟩=some (.int .i64 (AB x.sg 0)):=(d.out.2.2.1).cell 3;have y4:r.cell? ⟨a.heap.size,4,none⟩=some (.int .i64 (AB x.sg 1)):=(d.out.2.2.1).cell 4;have y5:r.cell? ⟨a.heap.size,5,none⟩=some (.int .i64 (AB x.sg 2)):=(d.out.2.2.1).cell 5;have y6:r.cell? ⟨a.heap.size,6,none⟩=some (.int .i64 (AB x.sg 3)):=(d.out.2.2.1).cell 6;have y7:r.cell? ⟨a.heap.size,7,none⟩=some (.int .i64 x.num):=(d.out.2.2.1).cell 7;have y8:r.cell? ⟨a.heap.size,8,none⟩=some (.int .i64 x.parent):=(d.out.2.2.1).cell 8;have y9:r.cell? ⟨a.heap.size,9,none⟩=some (.int .i64 x.block):=(d.out.2.2.1).cell 9;go_wp2_with (refine AH rfl (.tmp 9) rfl rfl d.out.2.1 ?_);refine(ao.out r).mono ?_;rintro e w9 ⟨rfl,S⟩;obtain⟨D,av,u,v,ay⟩:=Bb w9 e4 M4;have P:Hid (AL D w9.heap.size e4 M4/\AL D w7.heap.size e3 M3/\CB w D a.heap.size p.heap.size e1 c x pv):=by
     have h9:AL w9 w7.heap.size e3 M3:=At.keep d.out.1 S (At.lt d.out.1);exact⟨u,At.keep h9 v (At.lt h9),(d.out.2.keep S).keep v⟩
    clear S u v y0 y1 y2 y3 y4 y5 y6 y7 y8 y9;go_wp2_with (first|refine AH rfl (.tmp 14) rfl rfl P.out.1 ?_|refine AH rfl (.tmp 13) rfl rfl P.out.2.1 ?_);refine(Ia (w:=D) (e1:=e4) (e2:=e3) (M:=M4) (N:=M3)).mono ?_;rintro e ax ⟨rfl,J⟩;have U:Hid (CB w ax a.heap.size p.heap.size e1 c x pv):=P.out.2.2.keep J;clear J;cases C:DY e4 e3 M4 M3 with
    |false=>
     have am:Hid (EK F L k=7):=by show _=_;rw[HE.out,a_ (by rw[MA au (G.out.trans C)];decide)]
     clear C;go_wp2_with fail;go_ret;exact⟨by rw[am.out];rfl,U.out.2.2.2⟩
    |true=>
     have an:Hid (ET wp (i+1)=true):=by show(ET wp i&&wp i)=true;rw[l.out.1,G.out,C];rfl
     clear C;go_wp2_with fail;go_roundw;case rel=>exact⟨i+1,by omega,by go_num,an.out,U.out⟩
     case measure=>simp[intOf];omega
   .have aq:i=n:=by omega
    subst aq;have al:Hid (EK F L k=0):=by show _=_;rw[HE.out,bA l.out.1]
    go_wp2_with fail;go_ret;exact⟨by rw[al.out];rfl,H5.out.2.2.2⟩
end Go.Proofs.YtffajooegiempaaGreatDoor
namespace Go.Proofs.YtffajooegiempaaGreatDoor
open Go.RowKit Go.Proofs.Tryz
structure Pl where
 e:Bool
 M:Nat->Int
 wt:Bool
def p0:Pl:=⟨true,λ_=>0,false⟩
abbrev SS:=List Pl×Bool
def DR(s:SS)(pt:Int)(e:Bool)(M:Nat->Int):SS:=
 if pt<0\/(s.1.length:Int)<=pt then s
 else if DY e (s.1.getD pt.toNat p0).e M (s.1.getD pt.toNat p0).M=true then s
 else(s.1.set pt.toNat ⟨Hn (s.1.getD pt.toNat p0).e e,GF (s.1.getD pt.toNat p0).e e (s.1.getD pt.toNat p0).M M,true⟩,true)
def GH(F:List Ds)(k:Nat)(e:Bool)(M:Nat->Int)(s:SS):Nat->SS
 |0=>s
 |n+1=>DR (GH F k e M s n) (Ap F k n).1 (CA e M (F.getD k (AC 0 0)) n) (CE e M (F.getD k (AC 0 0)) n)
def Dp(F:List Ds)(k:Nat)(e:Bool)(M:Nat->Int)(s:SS):SS:=
 if k<F.length then(if DF e M (F.getD k (AC 0 0))=true then GH F k e M s (Ae (F.getD k (AC 0 0)).kind).toNat else s)else s
def Fz(F:List Ds)(k:Nat)(s:SS):SS:=
 if(s.1.getD k p0).wt=true then Dp F k (s.1.getD k p0).e (s.1.getD k p0).M (s.1.set k ⟨(s.1.getD k p0).e,(s.1.getD k p0).M,false⟩,s.2)else s
def C3(F:List Ds)(s:SS):Nat->SS
 |0=>(s.1,false)
 |n+1=>Fz F n (C3 F s n)
def F9(F:List Ds):Nat->SS->SS
 |0,s=>s
 |r+1,s=>if s.2=true then F9 F r (C3 F s s.1.length)else s
theorem J4(s:SS)(pt:Int)(e:Bool)(M:Nat->Int):(DR s pt e M).1.length=s.1.length:=by
 unfold DR;split
 .rfl
 .split
  .rfl
  .simp
theorem Kk(F:List Ds)(k:Nat)(e:Bool)(M:Nat->Int)(s:SS):∀n,(GH F k e M s n).1.length=s.1.length
 |0=>rfl
 |n+1=>by rw[GH,J4,Kk F k e M s n]
theorem TF(F:List Ds)(k:Nat)(e:Bool)(M:Nat->Int)(s:SS):(Dp F k e M s).1.length=s.1.length:=by
 unfold Dp;split
 .split
  .exact Kk F k e M s _
  .rfl
 .rfl
theorem Tz(F:List Ds)(k:Nat)(s:SS):(Fz F k s).1.length=s.1.length:=by
 unfold Fz;split
 .rw[TF];simp
 .rfl
theorem DD(F:List Ds)(s:SS):∀n,(C3 F s n).1.length=s.1.length
 |0=>rfl
 |n+1=>by rw[C3,Tz,DD F s n]
def Fy(p:Pl):List Value:=(oc p.e p.M).toList++[.bool p.wt]
theorem FF(p:Pl):(Fy p).length=66:=by simp[Fy,Am]
theorem I6(p:Pl){k:Nat}(hk:k<65):(Fy p)[k]?=(oc p.e p.M)[k]?:=by
 unfold Fy;rw[bU (by simp[Am];omega)];simp
theorem Ht(p:Pl):(Fy p)[65]?=some (.bool p.wt):=by
 unfold Fy;rw[List.getElem?_append_right (by simp[Am])];simp[Am]
abbrev LG:TypeId:=86
abbrev OR:TypeId:=128
structure D4(s g:Nat)(w w':World):Prop where
 os:w'.os=w.os
 tape:w'.tape=w.tape
 output:w'.output=w.output
 size:w.heap.size<=w'.heap.size
 block:∀k,k<w.heap.size->k≠s->k≠g->w'.heap[k]?=w.heap[k]?
variable {s g:Nat}{w w' a b c:World}
theorem D4.refl(s g:Nat)(w:World):D4 s g w w:=⟨rfl,rfl,rfl,bB _,λ_ _ _ _=>rfl⟩
theorem D4.trans(h:D4 s g a b)(k:D4 s g b c):D4 s g a c:=
 ⟨k.os.trans h.os,k.tape.trans h.tape,k.output.trans h.output,cN h.size k.size,λi hi h1 h2=>(k.block i (bM hi h.size) h1 h2).trans (h.block i hi h1 h2)⟩
theorem D4.of{B:Nat}(h:Below B w w')(hB:w.heap.size<=B)(s g:Nat):D4 s g w w':=⟨h.os,h.tape,h.output,h.size,λk hk _ _=>h.block k (by omega)⟩
theorem D4.setCell(h:D4 s g a b){q:Nat}(A:q=s\/q=g)(o:Nat)(u:Value):D4 s g a (b.setCell ⟨q,o,none⟩ u):=
 ⟨h.os,h.tape,h.output,by have:=h.size;simpa[World.setCell]using this,λk hk h1 h2=>(Below.heap_setCell _ _ _ _ (by show k≠q;omega)).trans (h.block k hk h1 h2)⟩
theorem D4.setCells:∀(vs:List Value)(o:Nat)(b:World),D4 s g a b->D4 s g a (b.setCells g o vs)
 |[],_,_,h=>h
 |_::r,o,_,h=>D4.setCells r (o+1) _ (h.setCell (.inr rfl) o _)
theorem D4.below(h:D4 s g a b){B:Nat}(h1:B<=s)(h2:B<=g)(h3:B<=a.heap.size):Below B a b:=⟨h.os,h.tape,h.output,h.size,λk hk=>h.block k (by omega) (by omega) (by omega)⟩
theorem D4.at_{q:Nat}{c:Array Value}{t:TypeId}(h:D4 s g w w')(E:At w q c t)(h1:q≠s)(h2:q≠g):At w' q c t:=E.same (h.block q E.lt h1 h2)
theorem D4.cell(h:D4 s g w w'){q:Nat}(A:q<w.heap.size)(h1:q≠s)(h2:q≠g)(i:Nat):w'.cell? ⟨q,i,none⟩=w.cell? ⟨q,i,none⟩:=World.cell?_of_block (a:=⟨q,i,none⟩) (h.block q A h1 h2)
theorem At.setCells{t:TypeId}:∀(vs:List Value)(o:Nat)(C:Array Value)(w:World),At w g C t->∃x,At (w.setCells g o vs) g x t/\x.size=C.size
 |[],_,C,_,h=>⟨C,h,rfl⟩
 |v::r,o,C,w,h=>by
  obtain⟨x,h1,h2⟩:=At.setCells r (o+1) _ _ (h.put o v);exact⟨x,h1,by rw[h2];simp⟩
structure Dg(w:World)(s g:Nat)(pv:Value)(P:SS):Prop where
 sa:At w s #[pv,.slice (some ⟨g,0,none⟩) P.1.length 21,.bool P.2] LG
 ga:∃C,At w g C OR/\P.1.length*66<=C.size
 pl:∀i k,i<P.1.length->k<66->w.cell? ⟨g,i*66+k,none⟩=(Fy (P.1.getD i p0))[k]?
theorem Dg.ne{pv:Value}{P:SS}(h:Dg w s g pv P):s≠g:=by
 obtain⟨C,h1,_⟩:=h.ga;exact At.ne h.sa h1 (by decide)
theorem Dg.glt{pv:Value}{P:SS}(h:Dg w s g pv P):g<w.heap.size:=by
 obtain⟨C,h1,_⟩:=h.ga;exact h1.lt
theorem Dg.keep{pv:Value}{P:SS}(h:Dg w s g pv P)(hb:dc w w'):Dg w' s g pv P:=by
 obtain⟨C,h1,h2⟩:=h.ga;exact⟨h.sa.keep hb h.sa.lt,⟨C,h1.keep hb h1.lt,h2⟩,λi k hi hk=>(hb.cell (by exact h1.lt)).trans (h.pl i k hi hk)⟩
theorem Dg.there{pv:Value}{P:SS}(h:Dg w s g pv P){i:Nat}(hi:i<P.1.length):w.there g (i*66) 65:=by
 obtain⟨C,h1,h2⟩:=h.ga;intro j f;refine⟨?_,h1.free _⟩;rw[h1.cell,cQ (show i*66+j<C.size by omega)];rfl
theorem Dg.oct{pv:Value}{P:SS}(h:Dg w s g pv P){i:Nat}(hi:i<P.1.length):w.rangeAt g (i*66) (oc (P.1.getD i p0).e (P.1.getD i p0).M).toList:=by
 intro j v m;have f:j<65:=by
  rcases bW j 65 with q|q
  .exact q
  .rw[bO (by simp[Am];omega)]at m;cases m
 rw[h.pl i j hi (by omega),I6 _ f,<-cP];exact m
theorem Dg.row{pv:Value}{P:SS}(h:Dg w s g pv P){i:Nat}(hi:i<P.1.length):w.rangeAt g (i*66) (Fy (P.1.getD i p0)):=by
 intro j v m;have f:j<66:=by
  rcases bW j 66 with q|q
  .exact q
  .rw[bO (by rw[FF];omega)]at m;cases m
 rw[h.pl i j hi f];exact m
theorem DB{P:List Pl}{k:Nat}(hk:k<P.length)(i:Nat)(p:Pl):(P.set k p).getD i p0=if i=k then p else P.getD i p0:=by
 rw[bG,cH];by_cases e:k=i
 .subst e;simp[hk]
 .rw[a_ e,a_ (Ne.symm e),bG]
theorem Dg.setO{pv:Value}{P:SS}(h:Dg w s g pv P){k:Nat}(hk:k<P.1.length)(e:Bool)(M:Nat->Int):Dg (w.setCells g (k*66) (oc e M).toList) s g pv (P.1.set k ⟨e,M,(P.1.getD k p0).wt⟩,P.2):=by
 obtain⟨C,h1,h2⟩:=h.ga;have D:=h.there hk;have G:(oc e M).toList.length=65:=by simp[Am]
 refine⟨?_,?_,?_⟩
 .have:=(D4.setCells (s:=g) (g:=g) (oc e M).toList (k*66) w (D4.refl g g w)).at_ h.sa h.ne h.ne;simpa using this
 .obtain⟨x,h3,h4⟩:=At.setCells (oc e M).toList (k*66) C w h1;exact⟨x,h3,by simp;omega⟩
 .intro i j hi f;have l:i<P.1.length:=by simpa using hi
  show _=(Fy ((P.1.set k ⟨e,M,(P.1.getD k p0).wt⟩).getD i p0))[j]?;rw[DB hk];by_cases c:i=k
  .subst c;rw[bA rfl];by_cases y:j<65
   .rw[World.cell?_setCells_in g _ (i*66) w (λq A=>(D q (by omega)).1) j (by omega),I6 _ y,<-cP];exact(bP (by rw[G];exact y)).symm
   .have:j=65:=by omega
    subst this;rw[World.cell?_setCells_out g _ (i*66) w _ (λ_ _=>.inr (by show _<=i*66+65;omega)),h.pl i 65 l (by omega),Ht,Ht]
  .rw[a_ c,World.cell?_setCells_out g _ (k*66) w _ (λ_ _=>by show i*66+j<k*66\/_<=i*66+j;omega)];exact h.pl i j l f
theorem Dg.setW{pv:Value}{P:SS}(h:Dg w s g pv P){k:Nat}(hk:k<P.1.length)(v:Bool):Dg (w.setCell ⟨g,k*66+65,none⟩ (.bool v)) s g pv (P.1.set k ⟨(P.1.getD k p0).e,(P.1.getD k p0).M,v⟩,P.2):=by
 obtain⟨C,h1,h2⟩:=h.ga;refine⟨?_,?_,?_⟩
 .have:=h.sa.other (a:=g) (k*66+65) (.bool v) h.ne;simpa using this
 .exact⟨_,h1.put _ _,by simpa using h2⟩
 .intro i j hi f;have l:i<P.1.length:=by simpa using hi
  show _=(Fy ((P.1.set k ⟨(P.1.getD k p0).e,(P.1.getD k p0).M,v⟩).getD i p0))[j]?;rw[DB hk];have d:=h.pl i j l f;by_cases c:i=k/\j=65
  .obtain⟨rfl,rfl⟩:=c;rw[bA rfl,Ht];rw[Ht]at d;exact World.cell?_setCell_same _ _ _ d
  .rw[World.cell?_setCell_other _ _ _ _ (λz=>by
    have:=congrArg Addr.off z
    exact c (by have:k*66+65=i*66+j:=this;omega)),d]
   by_cases c2:i=k
   .subst c2;rw[bA rfl,I6 _ (show j<65 by omega),I6 _ (show j<65 by omega)]
   .rw[a_ c2]
theorem Dg.setG{pv:Value}{P:SS}(h:Dg w s g pv P)(v:Bool):Dg (w.setCell ⟨s,2,none⟩ (.bool v)) s g pv (P.1,v):=by
 obtain⟨C,h1,h2⟩:=h.ga;refine⟨?_,?_,?_⟩
 .have:=h.sa.put 2 (.bool v);simpa using this
 .exact⟨C,h1.other _ _ (Ne.symm h.ne),h2⟩
 .intro i j hi f;rw[World.cell?_setCell_other _ _ _ _ (λz=>h.ne (congrArg Addr.block z))];exact h.pl i j hi f
variable {pv:Value}{P:SS}
theorem AL.range{b:Nat}{e:Bool}{M:Nat->Int}(h:AL w b e M):w.rangeAt b 0 (oc e M).toList:=by
 intro j v O;rw[cU,At.cell h,<-cP];exact O
theorem Q4(h:Dg w s g pv P)(pt:Int)(e:Bool)(M:Nat->Int):
  Calls prog 53 #[.pointer (some ⟨s,0,none⟩),.int .i64 pt,.agg (oc e M)] w λx w'=>x=.returned (.tuple #[])/\Dg w' s g pv (DR P pt e M)/\D4 s g w w':=by
 obtain⟨T,L⟩:∃T:Nat->Int,T=λ_=>0:=⟨_,rfl⟩
 have hz:∀w,(zeroValue tO).run prog w=.ok (.agg (oc false T)) w:=by rw[L];exact Bn
 have au:(oc false T).size=65:=Am _ _;have av:¬oc false T=#[]:=λh=>by have:=congrArg Array.size h;rw[Am]at this;simp at this
 have ae:Hid (∀(w:World) e M,∃l,(storeCells ⟨w.heap.size,0,none⟩ (oc e M).toList).run prog (w.alloc (.cells (oc false T) tO))=.ok () l/\AL l w.heap.size e M/\dc w l/\w.heap.size<l.heap.size):=by rw[L];exact λw e M=>Bb w e M
 clear L;have q:dc w (w.alloc (.cells (oc e M) tO)):=(bC _ _).alloc (bB _) _;have y:Hid (Dg (w.alloc (.cells (oc e M) tO)) s g pv P/\AL (w.alloc (.cells (oc e M) tO)) w.heap.size e M/\dc w (w.alloc (.cells (oc e M) tO))):=⟨h.keep q,At.new _ _ _,q⟩
 have c1:(w.alloc (.cells (oc e M) tO)).cell? ⟨s,1,none⟩=some (.slice (some ⟨g,0,none⟩) P.1.length 21):=y.out.1.sa.cell 1;have HC:Hid (DR P pt e M=if pt<0\/(P.1.length:Int)<=pt then P else if DY e (P.1.getD pt.toNat p0).e M (P.1.getD pt.toNat p0).M=true then P else(P.1.set pt.toNat ⟨Hn (P.1.getD pt.toNat p0).e e,GF (P.1.getD pt.toNat p0).e e (P.1.getD pt.toNat p0).M M,true⟩,true)):=rfl;have aw:=h.sa.lt;have ap:=h.glt;have Z:=h.ne;by_cases ao:pt<0
 .have H:Hid (DR P pt e M=P):=HC.out.trans (bA (.inl ao));clear h q;go_enter func53,ntmps53;go_wp2_with fail;try simp only[Exit.inBlock,Exit.then]
  refine bJ (cK rfl _ _ _) rfl ?_;exact⟨rfl,by rw[H.out];exact y.out.1,D4.of y.out.2.2 (bB _) _ _⟩
 .by_cases p1:(P.1.length:Int)<=pt
  .have H:Hid (DR P pt e M=P):=HC.out.trans (bA (.inr p1));clear h q;go_enter func53,ntmps53;go_wp2_with fail;try simp only[Exit.inBlock,Exit.then]
   refine bJ (cK rfl _ _ _) rfl ?_;exact⟨rfl,by rw[H.out];exact y.out.1,D4.of y.out.2.2 (bB _) _ _⟩
  .obtain⟨k,rfl⟩:∃k:Nat,pt=(k:Int):=⟨pt.toNat,by omega⟩
   have hk:k<P.1.length:=by omega
   have aq:(0:Int)<=(k:Int):=Int.natCast_nonneg _;have ar:(k:Int)<(P.1.length:Int):=by omega
   have H:Hid (DR P (k:Int) e M=if DY e (P.1.getD k p0).e M (P.1.getD k p0).M=true then P else(P.1.set k ⟨Hn (P.1.getD k p0).e e,GF (P.1.getD k p0).e e (P.1.getD k p0).M M,true⟩,true)):=by
    show _=_;rw[HC.out,a_ (by omega),bK]
   have HO:Hid ((w.alloc (.cells (oc e M) tO)).rangeAt g (k*66) (oc (P.1.getD k p0).e (P.1.getD k p0).M).toList):=y.out.1.oct hk;have hl:∀e M,(Tryz.prog.info? 90).map (·.size)=some (oc e M).toList.length:=λe M=>by
    obtain⟨i0,hi,an⟩:=KM;have al:Tryz.prog.info? 90=some i0:=hi;simp[al,an,Am]
   have ag:Hid (∀c U R,Dg c s g pv P->Dg (((c.setCells g (k*66) (oc U R).toList).setCell ⟨g,k*66+65,none⟩ (.bool true)).setCell ⟨s,2,none⟩ (.bool true)) s g pv (P.1.set k ⟨U,R,true⟩,true)):=λc U R h1=>by
    have h2:=((h1.setO hk U R).setW (k:=k) (by simpa using hk) true).setG true;have h3:(P.1.set k ⟨U,R,(P.1.getD k p0).wt⟩).getD k p0=⟨U,R,(P.1.getD k p0).wt⟩:=by rw[DB hk,bA rfl]
    simp only[h3,List.set_set]at h2;exact h2
   have aj:Hid (∀c,Dg c s g pv P->c.there g (k*66) 65/\c.cell? ⟨s,1,none⟩=some (.slice (some ⟨g,0,none⟩) P.1.length 21)/\(∃C,At c g C OR/\P.1.length*66<=C.size)):=λc h1=>⟨h1.there hk,h1.sa.cell 1,h1.ga⟩
   clear HC h;generalize(P.1.getD k p0).e=e1 at *;generalize(P.1.getD k p0).M=M1 at *;obtain⟨w3,aa,p,f,am⟩:=ae.out (w.alloc (.cells (oc e M) tO)) e1 M1;have ad:(w.alloc (.cells (oc e M) tO)).heap.size=w.heap.size+1:=by simp
   have X:=f;rw[ad]at aa p am;replace f:=f.mono (Nat.le_of_eq ad.symm);have z:Hid (Dg w3 s g pv P/\AL w3 w.heap.size e M/\AL w3 (w.heap.size+1) e1 M1/\dc w w3):=⟨y.out.1.keep X,At.keep y.out.2.1 f (by omega),p,y.out.2.2.trans (f.mono (by omega))⟩
   clear p f q X;go_enter func53,ntmps53;go_wp2_with (first|refine wpList_load_mid rfl tO (.tmp 24) rfl g (k*66) rfl (oc e1 M1).toList _ HO.out underlying90 rfl (hl _ _) ?_|refine AH rfl (.tmp 5) rfl rfl z.out.2.1 ?_|refine AH rfl (.tmp 6) rfl rfl z.out.2.2.1 ?_);refine(Ia (w:=w3) (e1:=e) (e2:=e1) (M:=M) (N:=M1)).mono ?_;rintro x u ⟨rfl,r⟩;have G:Hid (Dg u s g pv P/\AL u w.heap.size e M/\AL u (w.heap.size+1) e1 M1/\dc w u):=⟨z.out.1.keep r,At.keep z.out.2.1 r (At.lt z.out.2.1),At.keep z.out.2.2.1 r (At.lt z.out.2.2.1),z.out.2.2.2.trans (r.mono z.out.2.2.2.size)⟩
   clear r;cases D:DY e e1 M M1 with
   |true=>
    have HF:Hid (DR P (k:Int) e M=P):=H.out.trans (bA D);clear D;go_wp2_with fail;try simp only[Exit.inBlock,Exit.then]
    refine bJ (cK rfl _ _ _) rfl ?_;exact⟨rfl,by rw[HF.out];exact G.out.1,D4.of G.out.2.2.2 (bB _) _ _⟩
   |false=>
    have HF:Hid (DR P (k:Int) e M=(P.1.set k ⟨Hn e1 e,GF e1 e M1 M,true⟩,true)):=H.out.trans (a_ (by rw[D];decide));clear D H;have HJ:Hid (∀c,Calls prog 78 #[.agg (oc e1 M1),.agg (oc e M)] c λx w'=>x=.returned (.agg (oc (Hn e1 e) (GF e1 e M1 M)))/\dc c w'):=λc=>Tp;obtain⟨S,W⟩:∃S:World->Prop,S=λw'=>w'.cell? ⟨s,1,none⟩=some (.slice (some ⟨g,0,none⟩) P.1.length 21)/\AL w' w.heap.size e M/\AL w' (w.heap.size+1) e1 M1:=⟨_,rfl⟩
    have d:Hid (S u.drew/\Dg u.drew s g pv P/\dc w u.drew/\w.heap.size+1<u.drew.heap.size):=by
     have k4:Dg u.drew s g pv P:=G.out.1.keep (bC _ _).drew;refine⟨?_,k4,G.out.2.2.2.drew,At.lt G.out.2.2.1⟩;rw[W];exact⟨k4.sa.cell 1,G.out.2.1,G.out.2.2.1⟩
    have ah:Hid (∀c l,S c->w.heap.size+1<c.heap.size->dc c l->S l):=by
     rw[W];exact λc l ⟨q1,q2,q3⟩ hz hb=>⟨(hb.cell (by show s<_;omega)).trans q1,At.keep q2 hb (At.lt q2),At.keep q3 hb (At.lt q3)⟩
    have ai:Hid (∀c o Q,S c->S (c.setCells g o Q)):=by
     rw[W];intro c o Q ⟨q1,q2,q3⟩;have on:=D4.setCells (s:=g) (g:=g) Q o c (D4.refl g g c);have l2:=At.lt q2;exact⟨(on.cell (by show s<_;omega) Z Z 1).trans q1,on.at_ q2 (by omega) (by omega),on.at_ q3 (by omega) (by omega)⟩
    have I:Hid (∀c,S c->c.cell? ⟨s,1,none⟩=some (.slice (some ⟨g,0,none⟩) P.1.length 21)/\c.rangeAt w.heap.size 0 (oc e M).toList/\c.rangeAt (w.heap.size+1) 0 (oc e1 M1).toList):=by
     rw[W];exact λc ⟨q1,q2,q3⟩=>⟨q1,AL.range q2,AL.range q3⟩
    have af:Hid (∀c l Q,dc w c->dc c l->D4 s g w (((l.setCells g (k*66) Q).setCell ⟨g,k*66+65,none⟩ (.bool true)).setCell ⟨s,2,none⟩ (.bool true))):=λc l Q h1 h2=>
     ((D4.setCells Q (k*66) l (D4.of (h1.trans (h2.mono h1.size)) (bB _) s g)).setCell (.inr rfl) _ _).setCell (.inl rfl) _ _
    have hu:=underlying90;clear W;go_wp2_with fail;refine wp_region_held (S:=S) (by kernel_rfl) ?_;change wpAnyH _ _ _ _ _ _ _ _ (World.drew _);generalize u.drew=w5 at *;refine wpAnyH_take (i:=0) (v:=.pointer (some ⟨s,0,none⟩)) rfl (by kernel_rfl) (by kernel_rfl) (by kernel_rfl) (λ_ _ _ h=>h) (b_ ⟨by rfl,by intro c _;go_simp⟩) (d.out.1) ?_;simp only[Act.put];refine wpAnyH_take (i:=1) (v:=.pointer (some ⟨s,0,none⟩)) rfl (by kernel_rfl) (by kernel_rfl) (by kernel_rfl) (λ_ _ _ h=>h) (b_ ⟨by rfl,by intro c _;go_simp⟩) (d.out.1) ?_;simp only[Act.put];refine wpAnyH_take (i:=2) (v:=.pointer (some ⟨s,1,none⟩)) rfl (by kernel_rfl) (by kernel_rfl) (by kernel_rfl) (λ_ _ _ h=>h) (b_ ⟨by rfl,by intro c _;go_simp⟩) (d.out.1) ?_;simp only[Act.put];refine wpAnyH_take (i:=3) (v:=.slice (some ⟨g,0,none⟩) P.1.length 21) rfl (by kernel_rfl) (by kernel_rfl) (by kernel_rfl) (λ_ _ _ h=>h) (b_ ⟨by rfl,by intro c t;have cc:=(I.out c t).1;go_simp⟩) d.out.1 ?_;simp only[Act.put];refine wpAnyH_take (i:=4) (v:=.int .i64 (k:Int)) rfl (by kernel_rfl) (by kernel_rfl) (by kernel_rfl) (λ_ _ _ h=>h) (b_ ⟨by rfl,by intro c _;go_simp⟩) (d.out.1) ?_;simp only[Act.put];refine wpAnyH_take (i:=5) (v:=.agg (oc e1 M1)) rfl (by kernel_rfl) (by kernel_rfl) (by kernel_rfl) (λ_ _ _ h=>h) (yieldsIf_load_mid (by rfl) 90 (.tmp 6) rfl (w.heap.size+1) 0 rfl (oc e1 M1).toList _ (λc t=>(I.out c t).2.2) hu rfl (hl e1 M1)) d.out.1 ?_;simp only[Act.put];refine wpAnyH_take (i:=6) (v:=.agg (oc e M)) rfl (by kernel_rfl) (by kernel_rfl) (by kernel_rfl) (λ_ _ _ h=>h) (yieldsIf_load_mid (by rfl) 90 (.tmp 5) rfl w.heap.size 0 rfl (oc e M).toList _ (λc t=>(I.out c t).2.1) hu rfl (hl e M)) d.out.1 ?_;simp only[Act.put];refine wpAnyH_ready (rs:=[7]) (by kernel_rfl) (by simp) ?_;refine AllReadyH.cons (o:=⟨some 36,.call _,_,_,_,none⟩) rfl (λK V=>?_) AllReadyH.nil;go_simp;refine(HJ.out w5).mono ?_;rintro x w6 ⟨rfl,A⟩;have E:Hid (S w6/\Dg w6 s g pv P/\dc w5 w6):=⟨ah.out w5 w6 d.out.1 d.out.2.2.2 A,d.out.2.1.keep A,A⟩
    clear A;refine V.out _ _ E.out.1 (λ_=>?_);clear V K;refine wpAnyH_take (i:=8) (v:=.pointer (some ⟨g,k*66,none⟩)) rfl (by kernel_rfl) (by kernel_rfl) (by kernel_rfl) (λ_ _ _ h=>h) (b_ ⟨by rfl,by intro c _;go_simp⟩) (E.out.1) ?_;simp only[Act.put];refine wpAnyH_take (i:=9) (v:=.pointer (some ⟨g,k*66,none⟩)) rfl (by kernel_rfl) (by kernel_rfl) (by kernel_rfl) (λ_ _ _ h=>h) (b_ ⟨by rfl,by intro c _;go_simp⟩) (E.out.1) ?_;simp only[Act.put];refine wpAnyH_ready (rs:=[10]) (by kernel_rfl) (by simp) ?_;refine AllReadyH.cons (o:=⟨none,.store 90 (.tmp 38) (.tmp 36),_,_,_,none⟩) rfl (λK V=>?_) AllReadyH.nil;rw[bA (by rfl)];have ab:=(aj.out w6 E.out.2.1).1;have ak:(oc (Hn e1 e) (GF e1 e M1 M)).size=65:=Am _ _;refine wp_store_mid 90 (.tmp 38) (.tmp 36) rfl g (k*66) (oc (Hn e1 e) (GF e1 e M1 M)) rfl rfl (by rw[ak];exact ab) (by rw[hl (Hn e1 e) (GF e1 e M1 M)];simp) (Array.all_eq_true_iff_forall_mem.2 λv O=>Hr _ _ v (by simpa using O)) ?_;refine V.out _ _ (ai.out w6 _ _ E.out.1) (λ_=>?_);clear V K;refine wpAnyH_done (by kernel_rfl) ?_ _;have m:Hid (Dg (((w6.setCells g (k*66) (oc (Hn e1 e) (GF e1 e M1 M)).toList).setCell ⟨g,k*66+65,none⟩ (.bool true)).setCell ⟨s,2,none⟩ (.bool true)) s g pv (P.1.set k ⟨Hn e1 e,GF e1 e M1 M,true⟩,true)/\D4 s g w (((w6.setCells g (k*66) (oc (Hn e1 e) (GF e1 e M1 M)).toList).setCell ⟨g,k*66+65,none⟩ (.bool true)).setCell ⟨s,2,none⟩ (.bool true))):=⟨ag.out w6 _ _ E.out.2.1,af.out w5 w6 _ d.out.2.2.1 E.out.2.2⟩
    have F:=E.out.2.1.setO hk (Hn e1 e) (GF e1 e M1 M);have Y:(P.1.set k ⟨Hn e1 e,GF e1 e M1 M,(P.1.getD k p0).wt⟩).length=P.1.length:=by simp
    obtain⟨w7,ac⟩:∃w7,w7=w6.setCells g (k*66) (oc (Hn e1 e) (GF e1 e M1 M)).toList:=⟨_,rfl⟩
    rw[<-ac]at m F|-;clear ac;have c7:w7.cell? ⟨s,1,none⟩=some (.slice (some ⟨g,0,none⟩) P.1.length 21):=by
     have:=F.sa.cell 1;rw[this];show some (Value.slice (some ⟨g,0,none⟩) (P.1.set k _).length 21)=_;rw[Y]
    have c9:w7.cell? ⟨s,2,none⟩=some (.bool P.2):=F.sa.cell 2;have f9:=F.sa.free;obtain⟨wt,c8⟩:∃wt,w7.cell? ⟨g,k*66+65,none⟩=some (.bool wt):=⟨_,(F.pl k 65 (by rw[Y];exact hk) (by omega)).trans (Ht _)⟩
    obtain⟨C7,J, -⟩:=F.ga;have f8:=J.free;have l7:=J.lt;have l8:=F.sa.lt;clear F J ab;go_wp2_with fail
    go_end0
    exact⟨rfl,by rw[HF.out];exact m.out.1,m.out.2⟩
end Go.Proofs.YtffajooegiempaaGreatDoor
