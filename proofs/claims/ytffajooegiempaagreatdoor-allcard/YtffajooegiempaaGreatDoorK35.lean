import Derived.Test.YtffajooegiempaaGreatDoorK34
import Derived.Deep.RegionWith
set_option maxRecDepth 100000
set_option maxHeartbeats 6400000
namespace Go.Proofs.YtffajooegiempaaGreatDoor
open Go.RowKit Go.Proofs.Tryz
theorem AQ.inp{w:World}{v:Value}{l:List Int}(h:AQ w v l):Ir w w.heap.size v l:=h
theorem Rx(s:ByteArray)(v:Value)(L:List Int)(d:Int)(w:World)(hm:s.size<=maxLen)(hL:L.length<=maxLen)(U:AQ w v L):
  Calls prog 11 #[.string s,v,.int .i64 d] w λe w'=>e=.returned (.bool true)/\dc w w':=by
 unfold maxLen at hL;by_cases Y:1073741824<L.length
 .obtain⟨X,cap,rfl, -, -⟩:=U;have ad:(1073741824:Int)<(L.length:Int):=by omega
  go_enter func11,ntmps11;go_wp2_with fail;go_ret;exact⟨rfl,bC _ _⟩
 have H:L.length<=1073741824:=by omega
 have ad:¬(1073741824:Int)<(L.length:Int):=by omega
 have o:=I1 w v L H U;have HV:Hid (AQ w v L):=U;have M:Hid (∀f,dc w f->At f w.heap.size (AJ L) tN->Calls prog 31 #[.string s,.slice (some ⟨w.heap.size,0,none⟩) L.length (L.length+2),.int .i64 d] f (QA f (AA s) L d)):=by
  intro f t x;refine Xe s _ L d f hm ?_ (by omega);have:=x.lt;refine⟨_,_,rfl,by omega,λ_=>⟨w.heap.size,0,rfl,this,λi hi=>?_⟩⟩;rw[cU,x.cell];unfold AJ;rw[Aa _ _ (by simp;omega)];simp[List.getD,bU hi]
 have K:Hid (∀f,dc w f->Calls prog 32 #[.string s,v,.int .i64 d] f (NH f (AA s) L d)):=by
  intro f t;exact WH s v L d hm (HV.out.keep t).inp H
 obtain⟨X,cap,rfl, -, -⟩:=id U;clear U hm hL Y;cases hp:AV (AA s)with
 |none=>
  have Q:Hid (AV (AA s)=none):=hp;clear hp;go_enter func11,ntmps11;go_wp2_with fail;refine o.mono ?_;rintro e f ⟨rfl,t,r,T⟩;have z:Hid (dc w f):=t;have y:Hid (At f w.heap.size (AJ L) tN):=r;clear t r o;go_wp2_with fail;refine(M.out f z.out y.out).mono ?_;rintro e D ⟨j,⟨-,rfl⟩|⟨m,F,p, -⟩⟩
  .have A:Hid (dc w D):=z.out.trans (j.mono (by omega));have O:Hid (At D w.heap.size (AJ L) tN):=y.out.keep j T;have ag:f.heap.size<=D.heap.size:=j.size;clear j;go_wp2_with fail;refine(K.out D A.out).mono ?_;rintro e E ⟨u,⟨-,rfl⟩|⟨m,p, -⟩⟩
   .have G:Hid (dc w E):=A.out.trans (u.mono (by omega));have P:Hid (At E w.heap.size (AJ L) tN):=O.out.keep u (by omega);clear u;go_wp2_with fail;refine(Dr E).mono ?_;rintro e w4 ⟨rfl,k,rfl⟩;have V:=Dt (E.drewN k) w.heap.size (.slice X L.length cap) L H (P.out.drewN k) (HV.out.keep (bD G.out k));go_wp2_with fail;refine V.mono ?_;rintro e w5 ⟨rfl,k',rfl⟩;go_wp2_with fail;go_ret;exact⟨rfl,bD G.out (k+k')⟩
   .rw[Q.out]at p;cases p
  .rw[Q.out]at p;cases p
 |some m=>
  have Q:Hid (AV (AA s)=some m):=hp;clear hp;go_enter func11,ntmps11;go_wp2_with fail;refine o.mono ?_;rintro e f ⟨rfl,t,r,T⟩;have z:Hid (dc w f):=t;have y:Hid (At f w.heap.size (AJ L) tN):=r;clear t r o;go_wp2_with fail;refine(M.out f z.out y.out).mono ?_;rintro e D ⟨j,⟨p, -⟩|⟨m',F,p,hW,hF,g,c,rfl,hg,x,aa,Z⟩⟩
  .rw[Q.out]at p;cases p
  .rw[Q.out]at p;cases p
   have A:Hid (dc w D):=z.out.trans (j.mono (by omega));have O:Hid (At D w.heap.size (AJ L) tN):=y.out.keep j T;have ag:f.heap.size<=D.heap.size:=j.size;have I:=RU hW hF.len L d;have ac:=hW.1.len;have HG:Hid (At D g c tN/\c.size=4/\c.toList=_):=⟨x,aa,Z⟩
   have ae:=x.lt;clear j x aa Z hW hF;go_wp2_with fail;refine(K.out D A.out).mono ?_;rintro e E ⟨u,⟨p, -⟩|⟨m',p,q,rfl,hq,N,J⟩⟩
   .rw[Q.out]at p;cases p
   .rw[Q.out]at p;cases p
    have h1:(EM F L d).st=if(G4 m.st L d).pt=m.st.length then 1 else(G4 m.st L d).st:=by rw[I.st,ac]
    have h2:=I.pt;have h3:=I.v;have G:Hid (dc w E):=A.out.trans (u.mono (by omega));have P:Hid (At E w.heap.size (AJ L) tN):=O.out.keep u (by omega)
    have C:=Nu E g 4 (.slice (some ⟨q,0,none⟩) 4 4) (G4 m.st L d).v c (HG.out.1.keep u ae) HG.out.2.1 (by omega) (by omega) (by
     intro i hi;have:=HG.out.2.2;rw[<-cP,this,h3];unfold AB;rw[J]at hi
     rcases(show i=0\/i=1\/i=2\/i=3 by omega)with rfl|rfl|rfl|rfl<;>rfl) (AQ.at_ N J (bB _) (λi hi=>by rw[Aa _ _ (by omega)])) (by intro n k e;cases e)
    rw[J]at C;rw[h1,h2];have ab:Hid (Calls prog 33 #[.slice (some ⟨g,0,none⟩) 4 4,.slice (some ⟨q,0,none⟩) 4 4] E λe w'=>e=.returned (.bool true)/\Below g E w'):=C;clear u N J I h1 h2 h3 C HG;generalize(if(G4 m.st L d).pt=m.st.length then(1:Int)else(G4 m.st L d).st)=a at *;generalize(G4 m.st L d).pt=b at *;go_wp2_with fail;refine ab.out.mono ?_;rintro e w4 ⟨rfl,R⟩;have W:Hid (dc w w4):=G.out.trans (R.mono (by omega));have V:=Dt w4 w.heap.size (.slice X L.length cap) L H (P.out.keep R (by omega)) (HV.out.keep W.out);clear R;go_wp2_with fail;refine V.mono ?_;rintro e w5 ⟨rfl,k',rfl⟩;go_wp2_with fail;go_ret;exact⟨rfl,bD W.out k'⟩
variable {w w':World}{s:ByteArray}
theorem Xd(s:ByteArray)(w:World)(j:s.size<=maxLen):
  Calls prog 27 #[.string s] w λe w'=>e=FK (DX s)/\dc w w':=by
 have hr:=Hj s w j;by_cases h:160<s.size
 .have b:Hid (DX s=(0,1,0)):=bA h
  have a:=hr.mono (R':=λe w'=>e=.returned (.tuple #[.agg #[.slice none 0 0],.int .i64 1,.int .i64 0])/\dc w w') (by
   rintro e w' ⟨hb,h1|h1|h1⟩
   .exact⟨h1.2,hb⟩
   .exact absurd h1.1 (by omega)
   .exact absurd h1.1 (by omega))
  clear hr j;go_enter func27,ntmps27;go_wp2_with fail;refine a.mono ?_;rintro e m ⟨rfl,hb⟩;go_wp2
  go_ret3
  exact⟨by rw[b.out];rfl,hb.alloc hb.size _⟩
 .by_cases d:BP s=true
  .have b:Hid (DX s=(((AI s).2.length:Int)+1,0,0)):=by show DX s=_;unfold DX;rw[a_ h,bA d]
   have f:(AI s).2.length<=20:=(A_ s 22 (-1) 0 0 ((0,false),[]) ⟨bY _,bY _⟩).ok.len
   have a:=hr.mono (R':=λe w'=>∃k cap,e=.returned (.tuple #[.agg #[.slice k (AI s).2.length cap],.int .i64 0,.int .i64 0])/\dc w w') (by
    rintro e w' ⟨hb,h1|h1|h1⟩
    .exact absurd h1.1 h
    .exact absurd h1.2.1 (by rw[d];decide)
    .obtain⟨_,_,v,l,i⟩:=h1;obtain⟨_,h2⟩:=i;rcases h2 with⟨rfl,e0⟩|⟨g,cap,c,rfl,_⟩
     .exact⟨none,0,by rw[e0];exact l,hb⟩
     .exact⟨_,cap,l,hb⟩)
   clear hr j h d;generalize(AI s).2.length=n at *;go_enter func27,ntmps27;go_wp2_with fail;refine a.mono ?_;rintro e m ⟨k,cap,rfl,hb⟩;go_wp2_with fail;refine(J7 k n cap _ f).mono ?_;rintro e w3 ⟨rfl,o,rfl⟩;go_wp2
   go_ret3
   exact⟨by rw[b.out];rfl,(hb.alloc hb.size _).alloc (by have:=hb.size;simp;omega) _⟩
  .have b:Hid (DX s=(0,1,((AI s).1.1:Int))):=by show DX s=_;unfold DX;rw[a_ h,a_ d]
   have a:=hr.mono (R':=λe w'=>e=.returned (.tuple #[.agg #[.slice none 0 0],.int .i64 1,.int .i64 (AI s).1.1])/\dc w w') (by
    rintro e w' ⟨hb,h1|h1|h1⟩
    .exact absurd h1.1 h
    .exact⟨h1.2.2,hb⟩
    .exact absurd h1.2.1 d)
   clear hr j;generalize(AI s).1.1=n at *;go_enter func27,ntmps27;go_wp2_with fail;refine a.mono ?_;rintro e m ⟨rfl,hb⟩;go_wp2
   go_ret3
   exact⟨by rw[b.out];rfl,hb.alloc hb.size _⟩
theorem Pq(s:ByteArray)(w:World)(h:s.size<=maxLen)(f:DX s=Bv (AA s)):
  Calls prog 9 #[.string s] w λe w'=>e=.returned (.bool true)/\dc w w':=by
 have h1:=Xd s w h;have h2:=λw=>Ey s w h;rw[<-f]at h2;obtain⟨⟨a,b,c⟩,hx⟩:∃x,x=DX s:=⟨_,rfl⟩
 rw[<-hx]at h1 h2;simp only[FK]at h1 h2;clear hx f h;go_enter func9,ntmps9;go_wp2_with fail;refine h1.mono ?_;rintro e w1 ⟨rfl,d⟩;go_wp2_with fail;refine(h2 _).mono ?_;rintro e w2 ⟨rfl,g⟩;go_wp2;go_ret;exact⟨rfl,d.trans (g.mono d.size)⟩
variable {e1 e2:Bool}{M N:Nat->Int}
theorem LH(u v:Value)(c:Int)(hc:c≠0)(P:SH w u e1 M c)(r:∃a n k,u=.slice a n k)(s:∃a n k,v=.slice a n k):
  Calls prog 76 #[u,v] w λe w'=>e=.returned (.tuple #[.agg (oc false λ_=>0),.agg (oc false λ_=>0),.int .i64 c])/\dc w w':=by
 have hz:=Bn;obtain⟨E,A⟩:∃E,E=(w.alloc (.cells (oc false λ_=>0) tO)).alloc (.cells (oc false λ_=>0) tO):=⟨_,rfl⟩
 have K:dc w E:=by rw[A];exact((bC _ _).alloc (bB _) _).alloc (by simp) _
 have ad:E.heap.size=w.heap.size+2:=by rw[A];simp
 have x:AL E w.heap.size false (λ_=>0):=by rw[A];exact At.allocH (At.new _ _ _) _
 have y:AL E (w.heap.size+1) false (λ_=>0):=by
  have:=At.new (w.alloc (.cells (oc false λ_=>0) tO)) (oc false λ_=>0) tO;rw[show(w.alloc (.cells (oc false λ_=>0) tO)).heap.size=w.heap.size+1 by simp]at this;rw[A];exact this
 have C:=P E K;have S:Hid (dc w E):=K;have O:Hid (AL E w.heap.size false (λ_=>0)/\AL E (w.heap.size+1) false (λ_=>0)):=⟨x,y⟩
 rw[A]at C;clear x y K;have ac:(c != 0)=true:=by rw[cI];exact hc
 obtain⟨V,nu,X,rfl⟩:=r;obtain⟨W,nv,Y,rfl⟩:=s;clear P hc;go_enter func76,ntmps76;go_wp2_with fail;refine C.mono ?_;rintro e d ⟨rfl,f⟩;rw[<-A]at f;have H:dc w d:=S.out.trans (f.mono (by omega));obtain⟨t,aa,G,q,F⟩:=Bb d (e1) (M);have ab:w.heap.size+2<=d.heap.size:=by have:=f.size;omega
 have U:Hid (AL d w.heap.size false (λ_=>0)/\AL d (w.heap.size+1) false (λ_=>0)):=⟨At.keep O.out.1 f (by omega),At.keep O.out.2 f (by omega)⟩
 have R:Hid (AL t d.heap.size (e1) (M)/\AL t w.heap.size false (λ_=>0)/\AL t (w.heap.size+1) false (λ_=>0)/\dc w t):=⟨G,At.keep U.out.1 q (by omega),At.keep U.out.2 q (by omega),H.trans (q.mono (by omega))⟩
 clear f G q C H;obtain⟨w3,z,j,g⟩:=Al R.out.2.1 false (λ_=>0);obtain⟨D,I,l,m⟩:=Al (g.at_ R.out.2.2.1 (by omega)) false (λ_=>0);have J:Hid (AL D w.heap.size false (λ_=>0)/\AL D (w.heap.size+1) false (λ_=>0)/\dc w D):=by
  have q2:=R.out.2.2.2.size;have q3:=g.size;exact⟨m.at_ j (by omega),l,(R.out.2.2.2.trans (g.below (bB _) q2)).trans (m.below (by omega) (by omega))⟩
 clear j g l m;go_wp2_with fail;try simp only[Exit.inBlock,Exit.then]
 refine bJ (FG rfl _ rfl rfl J.out.1 J.out.2.1) rfl ?_;exact⟨rfl,J.out.2.2⟩
theorem Gf(B:Cr w)(u v:Value)(o p:List Int)(r:AQ w u o)(s:AQ w v p)(h:¬(B_ o/\B_ p)):
  ∃e1 e2 M N,Calls prog 76 #[u,v] w λe w'=>e=.returned (.tuple #[.agg (oc e1 M),.agg (oc e2 N),.int .i64 3])/\dc w w':=by
 by_cases T:B_ o
 .have k2:¬B_ p:=λk2=>h ⟨T,k2⟩;exact⟨_,_,_,_,Hz u v (Lq B T r) 3 (OJ B k2 s) r.isSlice s.isSlice⟩
 .exact⟨_,_,_,_,LH u v 3 (by decide) (OJ B T r) r.isSlice s.isSlice⟩
theorem OV(u v:Value)(hb:Calls prog 76 #[u,v] w λe w'=>e=.returned (.tuple #[.agg (oc e1 M),.agg (oc e2 N),.int .i64 3])/\dc w w')(r:∃a n k,u=.slice a n k)(s:∃a n k,v=.slice a n k):
  Calls prog 37 #[u,v] w λe w'=>dc w w'/\e=.returned (.tuple #[.bool false,.int .i64 3]):=by
 have hz:=Bn;obtain⟨V,nu,X,rfl⟩:=r;obtain⟨W,nv,Y,rfl⟩:=s;go_enter func37,ntmps37;go_wp2_with fail;refine hb.mono ?_;rintro e d ⟨rfl,f⟩;obtain⟨t,i⟩:∃t,t=(d.alloc (.cells (oc false λ_=>0) tO)).alloc (.cells (oc false λ_=>0) tO):=⟨_,rfl⟩
 have x:AL t d.heap.size false (λ_=>0):=by rw[i];exact At.allocH (At.new _ _ _) _
 have y:AL t (d.heap.size+1) false (λ_=>0):=by
  have:=At.new (d.alloc (.cells (oc false λ_=>0) tO)) (oc false λ_=>0) tO;rw[show(d.alloc (.cells (oc false λ_=>0) tO)).heap.size=d.heap.size+1 by simp]at this;rw[i];exact this
 have q:dc d t:=by rw[i];exact((bC _ _).alloc (bB _) _).alloc (by simp) _
 obtain⟨w3,z,j,g⟩:=Al x e1 M;obtain⟨D,I,l,m⟩:=Al (g.at_ y (by omega)) e2 N;have F:t.heap.size=d.heap.size+2:=by rw[i];simp
 have J:Hid (AL D d.heap.size e1 M/\AL D (d.heap.size+1) e2 N/\dc w D):=by
  have Q:=f.size;have q3:=g.size;exact⟨m.at_ j (by omega),l,((f.trans (q.mono Q)).trans (g.below Q (by omega))).trans (m.below (by omega) (by omega))⟩
 rw[i]at z;clear x y q j g l m i f hb F;go_wp2_with fail
 go_ret2
 exact⟨J.out.2.2,rfl⟩
theorem SD(u v:Value)(hb:Calls prog 76 #[u,v] w λe w'=>e=.returned (.tuple #[.agg (oc e1 M),.agg (oc e2 N),.int .i64 3])/\dc w w')(r:∃a n k,u=.slice a n k)(s:∃a n k,v=.slice a n k):
  Calls prog 39 #[u,v] w λe w'=>dc w w'/\e=.returned (.tuple #[.slice none 0 0,.int .i64 3]):=by
 have hz:=Bn;obtain⟨V,nu,X,rfl⟩:=r;obtain⟨W,nv,Y,rfl⟩:=s;go_enter func39,ntmps39;go_wp2_with fail;refine hb.mono ?_;rintro e d ⟨rfl,f⟩;obtain⟨t,i⟩:∃t,t=(d.alloc (.cells (oc false λ_=>0) tO)).alloc (.cells (oc false λ_=>0) tO):=⟨_,rfl⟩
 have x:AL t d.heap.size false (λ_=>0):=by rw[i];exact At.allocH (At.new _ _ _) _
 have y:AL t (d.heap.size+1) false (λ_=>0):=by
  have:=At.new (d.alloc (.cells (oc false λ_=>0) tO)) (oc false λ_=>0) tO;rw[show(d.alloc (.cells (oc false λ_=>0) tO)).heap.size=d.heap.size+1 by simp]at this;rw[i];exact this
 have q:dc d t:=by rw[i];exact((bC _ _).alloc (bB _) _).alloc (by simp) _
 obtain⟨w3,z,j,g⟩:=Al x e1 M;obtain⟨D,I,l,m⟩:=Al (g.at_ y (by omega)) e2 N;have F:t.heap.size=d.heap.size+2:=by rw[i];simp
 have J:Hid (AL D d.heap.size e1 M/\AL D (d.heap.size+1) e2 N/\dc w D):=by
  have Q:=f.size;have q3:=g.size;exact⟨m.at_ j (by omega),l,((f.trans (q.mono Q)).trans (g.below Q (by omega))).trans (m.below (by omega) (by omega))⟩
 rw[i]at z;clear x y q j g l m i f hb F;go_wp2_with fail
 go_ret2
 exact⟨J.out.2.2,rfl⟩
theorem M2(B:Cr w)(u v:Value)(o p:List Int)(r:AQ w u o)(s:AQ w v p):Calls prog 37 #[u,v] w (DZ w o p):=by
 by_cases h:B_ o/\B_ p
 .refine(Uy u v (Lq B h.1 r) (Lq B h.2 s) r.isSlice s.isSlice).mono ?_;rintro e w' ⟨rfl,hb⟩;exact⟨hb,.inl ⟨h.1,h.2,by rw[Wd h.1 h.2]⟩⟩
 .obtain⟨_,_,_,_,hb⟩:=Gf B u v o p r s h;exact(OV u v hb r.isSlice s.isSlice).mono λe w' L=>⟨L.1,.inr ⟨h,L.2⟩⟩
theorem aD{o p:List Int}(Z:B_ o)(hp:B_ p):Sm (GF (ovE o) (ovE p) (BT o) (BT p)):=by
 unfold GF;split
 .exact X0 hp
 split
 .exact X0 Z
 .intro k hk;have a:=X0 Z k hk;have b:=X0 hp k hk;rw[KH];split
  .exact b
  .exact a
theorem P4(B:Cr w)(u v:Value)(o p:List Int)(r:AQ w u o)(s:AQ w v p):Calls prog 39 #[u,v] w (F6 w o p):=by
 by_cases h:B_ o/\B_ p
 .exact(YW B u v (Lq B h.1 r) (Lq B h.2 s) (aD h.1 h.2) r.isSlice s.isSlice).mono λe w' L=>.inl ⟨h.1,h.2,L⟩
 .obtain⟨_,_,_,_,hb⟩:=Gf B u v o p r s h;exact(SD u v hb r.isSlice s.isSlice).mono λe w' L=>.inr ⟨h,L⟩
theorem DZ.ok{o p:List Int}{x:Ending}{w':World}(k:B_ o/\B_ p)(h:DZ w o p x w'):x=.returned (.tuple #[.bool (Wx o p),.int .i64 0])/\dc w w':=by
 obtain⟨hb,⟨_,_,h⟩|⟨h,_⟩⟩:=h
 .exact⟨h,hb⟩
 .exact absurd k h
theorem DZ.no{o p:List Int}{x:Ending}{w':World}(k:¬(B_ o/\B_ p))(h:DZ w o p x w'):x=.returned (.tuple #[.bool false,.int .i64 3])/\dc w w':=by
 obtain⟨hb,⟨h1,h2,_⟩|⟨_,h⟩⟩:=h
 .exact absurd ⟨h1,h2⟩ k
 .exact⟨h,hb⟩
theorem F6.ok{o p:List Int}{x:Ending}{w':World}(k:B_ o/\B_ p)(h:F6 w o p x w'):∃a n c,x=.returned (.tuple #[.slice a n c,.int .i64 0])/\BF w (Hn (ovE o) (ovE p)) (GF (ovE o) (ovE p) (BT o) (BT p)) (.returned (.slice a n c)) w':=by
 rcases h with⟨_,_,y,B,rfl⟩|⟨h,_⟩
 .obtain⟨y',e',a,n,c,rfl⟩:=B.val;cases e'
  exact⟨a,n,c,rfl,B⟩
 .exact absurd k h
theorem F6.no{o p:List Int}{x:Ending}{w':World}(k:¬(B_ o/\B_ p))(h:F6 w o p x w'):x=.returned (.tuple #[.slice none 0 0,.int .i64 3])/\dc w w':=by
 rcases h with⟨h1,h2,_⟩|⟨_,hb,h⟩
 .exact absurd ⟨h1,h2⟩ k
 .exact⟨h,hb⟩
theorem M6(hG:Cr w)(u v:Value)(o p:List Int)(ho:o.length<=maxLen)(hp:p.length<=maxLen)(hu:AQ w u o)(hv:AQ w v p):
  Calls prog 13 #[u,v] w λe w'=>e=.returned (.bool true)/\dc w w':=by
 unfold maxLen at ho hp;by_cases ak:1073741824<o.length
 .obtain⟨ao,ca,rfl, -, -⟩:=hu;obtain⟨bo,cb,rfl, -, -⟩:=hv;have am:(1073741824:Int)<(o.length:Int):=by omega
  clear hG;go_enter func13,ntmps13;go_wp2_with fail;go_ret;exact⟨rfl,bC _ _⟩
 have am:¬(1073741824:Int)<(o.length:Int):=by omega
 by_cases ac:1073741824<p.length
 .obtain⟨ao,ca,rfl, -, -⟩:=hu;obtain⟨bo,cb,rfl, -, -⟩:=hv;have aj:(1073741824:Int)<(p.length:Int):=by omega
  clear hG;go_enter func13,ntmps13;go_wp2_with fail;go_ret;exact⟨rfl,bC _ _⟩
 have aj:¬(1073741824:Int)<(p.length:Int):=by omega
 have M:o.length<=1073741824:=by omega
 have N:p.length<=1073741824:=by omega
 have s:=I1 w u o M hu;have af:Hid (∀b,dc w b->Calls prog 30 #[v] b λe w'=>e=.returned (.slice (some ⟨b.heap.size,0,none⟩) p.length (p.length+2))/\dc b w'/\At w' b.heap.size (AJ p) tN/\b.heap.size<w'.heap.size):=λb hb=>I1 b v p N (hv.keep hb);have HV:Hid (AQ w u o/\AQ w v p):=⟨hu,hv⟩
 have ai:Hid (∀b d,(At b w.heap.size (AJ o) tN/\At b d (AJ p) tN/\dc w b)->Calls prog 37 #[.slice (some ⟨w.heap.size,0,none⟩) o.length (o.length+2),.slice (some ⟨d,0,none⟩) p.length (p.length+2)] b (DZ b o p)):=λb d h=>M2 (hG.keep h.2.2 hG.size) _ _ o p (AQ.lent h.1) (AQ.lent h.2.1);have ae:Hid (∀b d,(At b w.heap.size (AJ o) tN/\At b d (AJ p) tN/\dc w b)->Calls prog 39 #[.slice (some ⟨w.heap.size,0,none⟩) o.length (o.length+2),.slice (some ⟨d,0,none⟩) p.length (p.length+2)] b (F6 b o p)):=λb d h=>P4 (hG.keep h.2.2 hG.size) _ _ o p (AQ.lent h.1) (AQ.lent h.2.1);have ah:Hid (∀b,dc w b->Calls prog 38 #[u,v] b (DZ b o p)):=λb hb=>UG u v o p M N (hu.keep hb) (hv.keep hb);have ag:Hid (∀b,dc w b->Calls prog 40 #[u,v] b (F6 b o p)):=λb hb=>YC u v o p M N (hu.keep hb) (hv.keep hb);obtain⟨ao,ca,rfl, -, -⟩:=id hu;obtain⟨bo,cb,rfl, -, -⟩:=id hv;clear hu hv ho hp ak ac hG;by_cases hk:B_ o/\B_ p
 .have V:Hid (B_ o/\B_ p):=hk;clear hk;go_enter func13,ntmps13;go_wp2_with fail;refine s.mono ?_;rintro e b ⟨rfl,D,t,ad⟩;have A:=af.out b D;have F:Hid (At b w.heap.size (AJ o) tN/\dc w b):=⟨t,D⟩
  clear D t s;go_wp2_with fail;refine A.mono ?_;rintro e Z ⟨rfl,r,z,an⟩;have j:Hid (At Z w.heap.size (AJ o) tN/\At Z b.heap.size (AJ p) tN/\dc w Z):=⟨F.out.1.keep r ad,z,F.out.2.trans (r.mono (by omega))⟩
  have ap:=r.size;clear r z A;generalize hB2:b.heap.size=d at *;clear hB2;have S:=ai.out Z d j.out;go_wp2_with fail;refine S.mono ?_;rintro e w3 H;obtain⟨rfl,g⟩:=DZ.ok V.out H;have l:Hid (At w3 w.heap.size (AJ o) tN/\At w3 d (AJ p) tN/\dc w w3):=⟨j.out.1.keep g (by omega),j.out.2.1.keep g (by omega),j.out.2.2.trans (g.mono (by omega))⟩
  have aq:=g.size;clear g H S;have P:=ah.out w3 l.out.2.2;go_wp2_with fail;refine P.mono ?_;rintro e T I;obtain⟨rfl,i⟩:=DZ.ok V.out I;have m:Hid (At T w.heap.size (AJ o) tN/\At T d (AJ p) tN/\dc w T):=⟨l.out.1.keep i (by omega),l.out.2.1.keep i (by omega),l.out.2.2.trans (i.mono (by omega))⟩
  have ar:=i.size;clear i I P;have L:=ae.out T d m.out;go_wp2_with fail;refine L.mono ?_;rintro e U J;obtain⟨a5,n5,c5,rfl,B⟩:=F6.ok V.out J;have q:Hid (At U w.heap.size (AJ o) tN/\At U d (AJ p) tN/\dc w U):=⟨m.out.1.keep B.1 (by omega),m.out.2.1.keep B.1 (by omega),m.out.2.2.trans (B.1.mono (by omega))⟩
  have au:=B.1.size;have HY:Hid (BF T _ _ (.returned (.slice a5 n5 c5)) U):=B;have O:=ag.out U q.out.2.2;clear B J L;go_wp2_with fail;refine O.mono ?_;rintro e w6 K;obtain⟨a6,n6,c6,rfl,B⟩:=F6.ok V.out K;have C:Hid (At w6 w.heap.size (AJ o) tN/\At w6 d (AJ p) tN/\dc w w6):=⟨q.out.1.keep B.1 (by omega),q.out.2.1.keep B.1 (by omega),q.out.2.2.trans (B.1.mono (by omega))⟩
  have aw:=B.1.size;have aa:=Fs HY.out B;clear B K O;go_wp2_with fail;refine aa.mono ?_;rintro e E ⟨rfl,X⟩;have f:Hid (At E w.heap.size (AJ o) tN/\At E d (AJ p) tN/\dc w E):=⟨C.out.1.keep X (by omega),C.out.2.1.keep X (by omega),C.out.2.2.trans (X.mono (by omega))⟩
  clear X aa;have Q:=Dt E w.heap.size (.slice ao o.length ca) o M f.out.1 (HV.out.1.keep f.out.2.2);go_wp2_with fail;refine Q.mono ?_;rintro e w8 ⟨rfl,Y,rfl⟩;have R:=Dt (E.drewN Y) d (.slice bo p.length cb) p N (f.out.2.1.drewN Y) (HV.out.2.keep (bD f.out.2.2 Y));clear Q;go_wp2_with fail;refine R.mono ?_;rintro e w9 ⟨rfl,k9,rfl⟩;go_wp2_with fail;go_ret;exact⟨rfl,bD f.out.2.2 (Y+k9)⟩
 .have V:Hid (¬(B_ o/\B_ p)):=hk;clear hk;go_enter func13,ntmps13;go_wp2_with fail;refine s.mono ?_;rintro e b ⟨rfl,D,t,ad⟩;have A:=af.out b D;have F:Hid (At b w.heap.size (AJ o) tN/\dc w b):=⟨t,D⟩
  clear D t s;go_wp2_with fail;refine A.mono ?_;rintro e Z ⟨rfl,r,z,an⟩;have j:Hid (At Z w.heap.size (AJ o) tN/\At Z b.heap.size (AJ p) tN/\dc w Z):=⟨F.out.1.keep r ad,z,F.out.2.trans (r.mono (by omega))⟩
  have ap:=r.size;clear r z A;generalize hB2:b.heap.size=d at *;clear hB2;have S:=ai.out Z d j.out;go_wp2_with fail;refine S.mono ?_;rintro e w3 H;obtain⟨rfl,g⟩:=DZ.no V.out H;have l:Hid (At w3 w.heap.size (AJ o) tN/\At w3 d (AJ p) tN/\dc w w3):=⟨j.out.1.keep g (by omega),j.out.2.1.keep g (by omega),j.out.2.2.trans (g.mono (by omega))⟩
  have aq:=g.size;clear g H S;have P:=ah.out w3 l.out.2.2;go_wp2_with fail;refine P.mono ?_;rintro e T I;obtain⟨rfl,i⟩:=DZ.no V.out I;have m:Hid (At T w.heap.size (AJ o) tN/\At T d (AJ p) tN/\dc w T):=⟨l.out.1.keep i (by omega),l.out.2.1.keep i (by omega),l.out.2.2.trans (i.mono (by omega))⟩
  have ar:=i.size;clear i I P;have L:=ae.out T d m.out;go_wp2_with fail;refine L.mono ?_;rintro e U J;obtain⟨rfl,G⟩:=F6.no V.out J;have q:Hid (At U w.heap.size (AJ o) tN/\At U d (AJ p) tN/\dc w U):=⟨m.out.1.keep G (by omega),m.out.2.1.keep G (by omega),m.out.2.2.trans (G.mono (by omega))⟩
  have au:=G.size;have O:=ag.out U q.out.2.2;clear G J L;go_wp2_with fail;refine O.mono ?_;rintro e w6 K;obtain⟨rfl,W⟩:=F6.no V.out K;have C:Hid (At w6 w.heap.size (AJ o) tN/\At w6 d (AJ p) tN/\dc w w6):=⟨q.out.1.keep W (by omega),q.out.2.1.keep W (by omega),q.out.2.2.trans (W.mono (by omega))⟩
  clear W K O;go_wp2_with fail;refine(Dr w6).mono ?_;rintro e av ⟨rfl,k7,al⟩;obtain⟨E,ab⟩:∃E,E=av:=⟨_,rfl⟩
  have f:Hid (At E w.heap.size (AJ o) tN/\At E d (AJ p) tN/\dc w E):=by
   show _/\_/\_;rw[ab,al];exact⟨C.out.1.drewN k7,C.out.2.1.drewN k7,bD C.out.2.2 k7⟩
  subst ab;clear al;have Q:=Dt E w.heap.size (.slice ao o.length ca) o M f.out.1 (HV.out.1.keep f.out.2.2);go_wp2_with fail;refine Q.mono ?_;rintro e w8 ⟨rfl,Y,rfl⟩;have R:=Dt (E.drewN Y) d (.slice bo p.length cb) p N (f.out.2.1.drewN Y) (HV.out.2.keep (bD f.out.2.2 Y));clear Q;go_wp2_with fail;refine R.mono ?_;rintro e w9 ⟨rfl,k9,rfl⟩;go_wp2_with fail;go_ret;exact⟨rfl,bD f.out.2.2 (Y+k9)⟩
theorem Pk(t:Cr w)(s:ByteArray)(p:Int)(v:Value)(L:List Int)(u:s.size<=maxLen)(K:L.length<=maxLen)(r:AQ w v L):
  Calls prog 15 #[.string s,.int .i64 p,v] w λe w'=>e=.returned (.bool true)/\dc w w':=by
 have C:L.length<=9223372036854775807:=by unfold maxLen at K;omega
 clear K;by_cases q:1073741824<L.length
 .obtain⟨J,cap,rfl, -, -⟩:=r;have E:(1073741824:Int)<(L.length:Int):=by omega
  clear t u;go_enter func15,ntmps15;go_wp2_with fail;go_ret;exact⟨rfl,bC _ _⟩
 have i:L.length<=1073741824:=by omega
 have E:¬(1073741824:Int)<(L.length:Int):=by omega
 have d:=I1 w v L i r;have I:Hid (AQ w v L):=r;have o:Hid (∀a,dc w a->At a w.heap.size (AJ L) tN->Calls prog 43 #[.string s,.int .i64 p,.slice (some ⟨w.heap.size,0,none⟩) L.length (L.length+2)] a λe w'=>e=bi (EY (AA s) p L)/\dc a w'):=λa b D=>by
  rw[<-Rz];exact YY (t.keep b t.size) s p _ L u (AQ.lent D)
 have g:Hid (∀a,dc w a->Calls prog 44 #[.string s,.int .i64 p,v] a λe w'=>e=bi (EY (AA s) p L)/\dc a w'):=λa b=>UJ s p v L u i (I.out.keep b);obtain⟨J,cap,rfl, -, -⟩:=id r;clear r C q t u;generalize EY (AA s) p L=x at *;obtain⟨y,c⟩:=x;unfold bi at o g;go_enter func15,ntmps15;go_wp2_with fail;refine d.mono ?_;rintro e a ⟨rfl,b,h,F⟩;have l:Hid (dc w a):=b;have k:Hid (At a w.heap.size (AJ L) tN):=h;clear b h d;go_wp2_with fail;refine(o.out a l.out k.out).mono ?_;rintro e z ⟨rfl,f⟩;have m:Hid (dc w z):=l.out.trans (f.mono (by omega));have A:Hid (At z w.heap.size (AJ L) tN):=k.out.keep f F;have aa:a.heap.size<=z.heap.size:=f.size;clear f;go_wp2_with fail;refine(g.out z m.out).mono ?_;rintro e H ⟨rfl,j⟩;have n:Hid (dc w H):=m.out.trans (j.mono (by omega));have B:Hid (At H w.heap.size (AJ L) tN):=A.out.keep j (by omega);have G:=Dt H w.heap.size (.slice J L.length cap) L i B.out (I.out.keep n.out);clear j;go_wp2_with fail;refine G.mono ?_;rintro e w5 ⟨rfl,k',rfl⟩;go_wp2_with fail;go_ret;exact⟨rfl,bD n.out k'⟩
theorem Ux(hs:s.size<=9223372036854775807):Calls prog 45 #[.string s] w (Yl w s):=by
 have h1:=NX (w:=w) hs;go_enter func45,ntmps45;go_wp2_with fail;refine h1.mono ?_;rintro e I ⟨hb,⟨h2,rfl⟩|⟨L,g,X,h2,rfl,h3⟩⟩
 .have H:Hid (dc w I/\DS (AA s)=none):=⟨hb,h2⟩
  clear hb h2 h1;go_wp2_with fail
  go_ret2
  exact⟨H.out.1,.inl ⟨H.out.2,rfl⟩⟩
 .have H:Hid (dc w I/\DS (AA s)=some L/\w.heap.size<=g/\I.ownsRow w.heap.size 32 1 (.slice (some ⟨g,0,none⟩) L.length 21) L.length X/\NA I w.heap.size g X L):=⟨hb,h2,h3⟩
  clear hb h2 h3 h1;go_wp2_with fail
  go_ret2
  exact⟨H.out.1,.inr ⟨L,g,X,H.out.2.1,rfl,H.out.2.2⟩⟩
def SW(a b:World):Prop:=BC 0 a b/\b.heap=a.heap
theorem SW.refl(a:World):SW a a:=⟨BC.refl _ _,rfl⟩
theorem SW.trans{a b c:World}(h:SW a b)(k:SW b c):SW a c:=⟨h.1.trans k.1,k.2.trans h.2⟩
theorem SW.drewN{a b:World}(h:SW a b)(n:Nat):SW a (b.drewN n):=⟨h.1.drewN n,h.2⟩
theorem SW.cell{a b:World}(h:SW a b)(p i:Nat):b.cell? ⟨p,i,none⟩=a.cell? ⟨p,i,none⟩:=World.cell?_of_block (a:=⟨p,i,none⟩) (by rw[h.2])
theorem SW.reads{a b:World}(h:SW a b){v:Value}{l:List Int}(hr:AQ a v l):AQ b v l:=by
 obtain⟨ao,cap,hv,hc,h0⟩:=hr;refine⟨ao,cap,hv,hc,λhn=>?_⟩;obtain⟨p,off,ha,d,r⟩:=h0 hn;exact⟨p,off,ha,by rw[h.2];exact d,λi hi=>(h.cell p (off+i)).trans (r i hi)⟩
theorem SW.below{a b:World}(h:SW a b)(B:Nat):Below B a b:=⟨h.1.os,h.1.tape,h.1.output,by rw[h.2];exact bB _,λk hk=>by rw[h.2]⟩
theorem Ls(w:World):AQ w (.slice none 0 0) []:=⟨none,0,rfl,bB _,λh=>absurd rfl h⟩
theorem Vt(w:World)(g n cap:Nat)(c:Array Value)(v:Int)(h:At w g c tN)(hs:c.size=cap)(_hn:n<=cap)(hm:cap<=1073741824)(aP:0<=v)(aQ:v<=4398046511104):
  Calls prog 47 #[.slice (some ⟨g,0,none⟩) n cap,.int .i64 v] w λe w'=>e=.returned (.tuple #[])/\BC g w w'/\∃D,At w' g D tN/\D.size=cap/\∀i,i<cap->D[i]?=some (.int .i64 (v+i)):=by
 have HA:Hid (At w g c tN):=h;have HS:Hid (c.size=cap):=hs;have hg:=h.lt;clear h hs;go_enter func47,ntmps47;go_wp2_with fail;go_loopw [5] (λi wr=>∃(j:Nat)(D:Array Value),j<=cap/\i=.int .i64 j/\At wr g D tN/\D.size=cap/\(∀i,i<j->D[i]?=some (.int .i64 (v+i)))/\BC g w wr) (λi _=>cap-(intOf i).toNat);case atStart=>exact⟨0,c,bY _,rfl,HA.out,HS.out,λi hi=>absurd hi (by omega),BC.refl _ _⟩
 case round=>
  obtain⟨j,D,u,rfl,y,Z,M,N⟩:=hrel;have ak:Hid (At wr g D tN):=y;have af:Hid (D.size=cap):=Z;have HL:Hid (∀i,i<j->D[i]?=some (.int .i64 (v+i))):=M;have HB:Hid (BC g w wr):=N;by_cases d:j<cap
  .have au:(j:Int)<(cap:Int):=by omega
   obtain⟨x,c1⟩:∃x,wr.cell? ⟨g,j,none⟩=some x:=⟨D[j]'(by omega),by rw[y.cell];simp[Z,d]⟩
   have f1:wr.frozen? ⟨g,j,none⟩=false:=y.free j;clear y Z M N;go_wp2_with fail;go_roundw;case rel=>
    refine⟨j+1,_,by omega,by go_num,ak.out.put j (.int .i64 (v+j)),by simp[af.out],λi hi=>?_,HB.out.setCell _ _⟩;have:=af.out;by_cases e:i=j
    .subst e;simp[this,d]
    .simp[Ne.symm e];exact HL.out i (by omega)
   case measure=>simp[intOf];omega
  .have au:¬(j:Int)<(cap:Int):=by omega
   have aC:j=cap:=by omega
   clear y Z M N;go_wp2_with fail
   go_end0
   exact⟨rfl,HB.out,D,ak.out,af.out,by rw[<-aC];exact HL.out⟩
theorem O9(w:World)(v:Int):Calls prog 47 #[.slice none 0 0,.int .i64 v] w λe w'=>e=.returned (.tuple #[])/\w'=w:=by
 go_enter func47,ntmps47;go_wp2_with fail
 go_loop [5] (λi=>i=.int .i64 0) (λ_=>0)
 case atStart=>rfl
 case round=>
  subst hrel;go_wp2_with fail
  go_end0
  exact⟨rfl,rfl⟩
theorem MU(w:World)(v:Int):Calls prog 48 #[.slice none 0 0,.int .i64 v] w λe w'=>e=.returned (.bool true)/\w'=w:=by
 go_enter func48,ntmps48;go_wp2_with fail
 go_loop [6] (λi=>i=.int .i64 0) (λ_=>0)
 case atStart=>rfl
 case round=>
  subst hrel;go_wp2_with fail;go_ret;exact⟨rfl,rfl⟩
def MK(w:World)(x:Value)(j:Nat)(done:Prop):Prop:=
 x=.slice none 0 0\/∃a c,x=.slice (some ⟨a,0,none⟩) 32 32/\At w a c tN/\c.size=32/\(done->∀t:Nat,t<32->c[t]?=some (.int .i64 (((j:Int)+1)*1073741824+t)))
structure SO(w:World)(g n i:Nat)(F:Nat->Value):Prop where
 row:∀j,j<n->w.cell? ⟨g,j,none⟩=some (F j)
 lt:g<w.heap.size
 each:∀j,j<n->MK w (F j) j (j<i)
 away:∀j,j<n->(F j).ownBlock≠some g
 apart:∀j k a,j<n->k<n->j≠k->(F j).ownBlock=some a->(F k).ownBlock≠some a
theorem MK.mono{w:World}{x:Value}{j:Nat}{P Q:Prop}(h:MK w x j P)(hq:Q->P):MK w x j Q:=by
 rcases h with h|⟨a,c,h1,h2,h3,h4⟩
 .exact .inl h
 .exact .inr ⟨a,c,h1,h2,h3,λq=>h4 (hq q)⟩
theorem SO.step{w w':World}{g n i a:Nat}{F:Nat->Value}(h:SO w g n i F)(ho:BC a w w')(hi:i<n)(ha:(F i).ownBlock=some a)(hn:MK w' (F i) i True):SO w' g n (i+1) F:=by
 refine⟨λj u=>?_,bM h.lt ho.size,λj u=>?_,h.away,h.apart⟩
 .rw[ho.cell h.lt (λe=>h.away i hi (by rw[ha,e]))];exact h.row j u
 .by_cases e:j=i
  .subst e;exact hn.mono (λ_=>trivial)
  .rcases h.each j u with q|⟨b,c,h1,h2,h3,h4⟩
   .exact .inl q
   .have hb:b≠a:=λz=>h.apart j i b u hi e (by rw[h1];rfl) (by rw[ha,z]);exact .inr ⟨b,c,h1,ho.at_ h2 hb,h3,λq=>h4 (by omega)⟩
theorem SO.skip{w:World}{g n i:Nat}{F:Nat->Value}(h:SO w g n i F)(hn:F i=.slice none 0 0):SO w g n (i+1) F:=by
 refine⟨h.row,h.lt,λj u=>?_,h.away,h.apart⟩;by_cases e:j=i
 .subst e;exact .inl hn
 .exact(h.each j u).mono (λq=>by omega)
theorem Pf(hs:s.size<=9223372036854775807):Calls prog 16 #[.string s] w λe w'=>e=.returned (.bool true)/\dc w w':=by
 have h1:=Ux (w:=w) hs;have h2:=λI=>OF (w:=I) hs;have HQ:Hid (GD s=DS (AA s)):=MN s;have aO:∀(w:World)(a:Option Addr)(n c:Nat),(binOp .eql 54 (.slice a n c) (.slice none 0 0)).run prog w=.ok (.bool a.isNone) w:=λw a n c=>cz w 54 32 a n c 0 0 underlying54;have aN:∀(w:World)(a:Option Addr)(n c:Nat),(binOp .eql 32 (.slice a n c) (.slice none 0 0)).run prog w=.ok (.bool a.isNone) w:=λw a n c=>cz w 32 3 a n c 0 0 underlying32;go_enter func16,ntmps16;go_wp2_with fail;refine h1.mono ?_;rintro e I ⟨Y,⟨e1,rfl⟩|⟨L,g,X,e1,rfl,hg,R,ah⟩⟩
 .have K:=h2 I;have f:Hid (dc w I/\DS (AA s)=none):=⟨Y,e1⟩
  clear h1 h2 Y e1;go_wp2_with fail;refine K.mono ?_;rintro e w2 ⟨o,⟨e2,rfl⟩|⟨L,v,e2,rfl,h3⟩⟩
  .have ad:Hid (dc w w2):=f.out.1.trans (o.mono f.out.1.size);clear K o e2;go_wp2_with fail
   go_loop [7] (λi=>i=.int .i64 0) (λ_=>0)
   case atStart=>rfl
   case round=>
    subst hrel;go_wp2_with fail
    go_loop [9] (λi=>i=.int .i64 0) (λ_=>0)
    case atStart=>rfl
    case round=>
     subst hrel;go_wp2_with fail
     go_loop [10] (λi=>i=.int .i64 0) (λ_=>0)
     case atStart=>rfl
     case round=>
      subst hrel;go_wp2_with fail;go_ret;exact⟨rfl,ad.out⟩
  .exfalso;rw[HQ.out,f.out.2]at e2;cases e2
 .have hk:=GM (Om s) e1;have aE:1<=L.length:=hk.2.1;have aF:L.length<=21:=hk.2.2.1;have K:=h2 I;have f:Hid (dc w I/\DS (AA s)=some L):=⟨Y,e1⟩
  have ag:g<I.heap.size:=(R.lt g rfl).2;have HX:Hid (∀j,j<L.length->I.cell? ⟨g,j,none⟩=some (X.getD j (.bool false))):=by
   intro j u;have hc:=R.cells (g:=g) rfl j (X.getD j (.bool false)) (by simp[List.getD,show j<X.length by rw[ah.len];exact u]);rwa[Dn]at hc
  have C:Hid (NA I w.heap.size g X L):=ah;have aK:Hid (∀j l,L.getD j none=some l->l.length=32):=by
   intro j l hl;rcases bW j L.length with c|c
   .have:=C.out.each j c;rw[hl]at this;obtain⟨_,_,_,_,h5⟩:=this;exact h5
   .rw[bG,bO c]at hl;cases hl
  clear h1 h2 Y e1 R ah hk;go_wp2_with fail;refine K.mono ?_;rintro e w2 ⟨o,⟨e2,rfl⟩|⟨L2,v,e2,rfl,h3,a0,n0,c0,rfl⟩⟩
  .exfalso;rw[HQ.out,f.out.2]at e2;cases e2
  .have az:L2=L:=by rw[HQ.out,f.out.2]at e2;exact(bV e2).symm
   subst az;obtain⟨ao,cap,hv,aq,h0⟩:=h3;injection hv with v1 v2 v3
   subst v1 v2 v3;obtain⟨b2,G,ha,aJ,r⟩:=h0 (by omega);injection ha with ha
   subst ha;obtain⟨n,hn⟩:∃n,n=L2.length:=⟨_,rfl⟩
   have ad:Hid (dc w w2):=f.out.1.trans (o.mono f.out.1.size);have al:Hid (∀j,j<n->∃x,w2.cell? ⟨b2,G+j,none⟩=some x/\Kt w2 x (L2.getD j none)):=by rw[hn];exact r
   have HM:Hid (SO w2 g n 0 (λj=>X.getD j (.bool false))):=by
    rw[hn];refine⟨λj u=>?_,bM ag o.size,λj u=>?_,C.out.away,C.out.apart⟩
    .rw[o.cell (p:=⟨g,j,none⟩) ag];exact HX.out j u
    .have E:=C.out.each j u;cases e:L2.getD j none with
     |none=>rw[e]at E;exact .inl E
     |some l=>
      rw[e]at E;obtain⟨a,_,h5,h6,h7⟩:=E;exact .inr ⟨a,ic l,h5,h6.keep o h6.lt,by rw[Qc];exact h7,λq=>by omega⟩
   have ae:Hid (∀j k,j<n->(X.getD j (.bool false)).ownBlock=some k->w.heap.size<=k):=λj k u hk=>((C.out.each j (by omega)).lt k hk).1;have HP:Hid (∀j,j<n->PV w2 w.heap.size (X.getD j (.bool false)) (L2.getD j none)):=by
    intro j u;have E:=C.out.each j (by omega);exact E.same (λk hk=>o.block k (E.lt k hk).2)
   rw[<-hn]at aE aF|-;clear K o e2 r h0 aq C HX f ag HQ hn;generalize hF:(λj=>X.getD j (.bool false))=F at *;have HF:Hid (∀j,X.getD j (.bool false)=F j):=λj=>by rw[<-hF]
   have aM:(n:Int)<=21:=by omega
   replace ae:Hid (∀j k,j<n->(F j).ownBlock=some k->w.heap.size<=k):=λj k u hk=>ae.out j k u (by rw[HF.out];exact hk);clear hF;go_wp2_with fail;go_loopw [7] (λi wr=>∃(j:Nat),j<=n/\i=.int .i64 j/\Hid (SW w2 wr)) (λi _=>n-(intOf i).toNat);case atStart=>exact⟨0,by omega,rfl,SW.refl _⟩
   case round=>
    obtain⟨j,u,rfl,J⟩:=hrel;by_cases d:j<n
    .have au:(j:Int)<(n:Int):=by omega
     obtain⟨x2,aj,O⟩:=al.out j d;have c1:wr.cell? ⟨g,j,none⟩=some (F j):=(J.out.cell _ _).trans (HM.out.row j d);have c2:wr.cell? ⟨b2,G+j,none⟩=some x2:=(J.out.cell _ _).trans aj;have E:=HP.out j d;rw[HF.out j]at E;cases hL:L2.getD j none with
     |none=>
      rw[hL]at E O;have e1:F j=.slice none 0 0:=E;have e2:x2=.slice none 0 0:=O;subst e2;rw[e1]at c1;have HS:Hid (∀S,SW wr S->Calls prog 46 #[.slice none 0 0,.slice none 0 0] S λe w'=>e=.returned (.bool true)/\Hid (SW wr w')):=by
       intro S h3;refine(KI S _ _ [] (by simp) (Ls S) (Ls S)).mono ?_;rintro e w4 ⟨rfl,k,rfl⟩;exact⟨rfl,h3.drewN k⟩
      clear aj O E e1 hL;go_wp2_with fail;go_region_with (go_at_call 46;refine(HS.out _ (by first|exact SW.refl _|exact(SW.refl _).drewN 1|exact(SW.refl _).drewN 2)).mono ?_;rintro e w4 ⟨rfl,U⟩);all_goals
       have ax:=(U.out.cell g j).trans c1;have ay:=(U.out.cell b2 (G+j)).trans c2;have aG:w4.heap.size=wr.heap.size:=by rw[U.out.2]
       go_wp2_with fail;go_quiet (fail);go_wp2_with fail;go_roundw;case rel=>exact⟨j+1,by omega,by go_num,(J.out.trans U.out).drewN _⟩
       case measure=>simp[intOf];omega
     |some l=>
      rw[hL]at E O;obtain⟨a,_,e1,y,aa⟩:=E;obtain⟨ac,a3,n3,c3,rfl⟩:=O;have ab:AQ w2 (.slice (some ⟨a,0,none⟩) 32 32) l:=AQ.at_ y aa (bB _) (λi hi=>Aa _ _ (by omega));rw[e1]at c1;have HS:Hid (∀S,SW wr S->Calls prog 46 #[.slice (some ⟨a,0,none⟩) 32 32,.slice (some a3) n3 c3] S λe w'=>e=.returned (.bool true)/\Hid (SW wr w')):=by
       intro S h3;refine(KI S _ _ l (by omega) ((J.out.trans h3).reads ab) ((J.out.trans h3).reads ac)).mono ?_;rintro e w4 ⟨rfl,k,rfl⟩;exact⟨rfl,h3.drewN k⟩
      clear aj ab ac e1 hL y aa;go_wp2_with fail;go_region_with (go_at_call 46;refine(HS.out _ (by first|exact SW.refl _|exact(SW.refl _).drewN 1|exact(SW.refl _).drewN 2)).mono ?_;rintro e w4 ⟨rfl,U⟩);all_goals
       have ax:=(U.out.cell g j).trans c1;have ay:=(U.out.cell b2 (G+j)).trans c2;have aG:w4.heap.size=wr.heap.size:=by rw[U.out.2]
       go_wp2_with fail;go_quiet (fail);go_wp2_with fail;go_roundw;case rel=>exact⟨j+1,by omega,by go_num,(J.out.trans U.out).drewN _⟩
       case measure=>simp[intOf];omega
    .have aD:j=n:=by omega
     subst aD;have V:Hid (SO wr g j 0 F/\dc w wr):=by
      refine⟨⟨λk hk=>(J.out.cell _ _).trans (HM.out.row k hk),by rw[J.out.2];exact HM.out.lt,λk hk=>?_,HM.out.away,HM.out.apart⟩,ad.out.trans (J.out.below _)⟩;rcases HM.out.each k hk with q|⟨a,c,h1,h2,h3,h4⟩
      .exact .inl q
      .exact .inr ⟨a,c,h1,h2.same (by rw[J.out.2]),h3,λq=>by omega⟩
     obtain⟨w5,av⟩:∃w5,w5=wr:=⟨_,rfl⟩
     rw[<-av]at V|-;have aR:g<w5.heap.size:=V.out.1.lt;clear av J HM HP al HF;clear d;go_wp2_with fail;go_loopw [9] (λi wr=>∃(k:Nat),k<=j/\i=.int .i64 k/\Hid (SO wr g j k F/\dc w wr)) (λi _=>j-(intOf i).toNat);case atStart=>exact⟨0,by omega,rfl,V.out⟩
     case round=>
      obtain⟨i,hi,rfl,T⟩:=hrel;have aA:g<wr.heap.size:=T.out.1.lt;by_cases d:i<j
      .have ar:(i:Int)<(j:Int):=by omega
       have c1:=T.out.1.row i d;have aH:wrap64 ((i:Int)+1)=(i:Int)+1:=by unfold wrap64;omega
       have aI:wrap64 (((i:Int)+1)*1073741824)=((i:Int)+1)*1073741824:=by unfold wrap64;omega
       rcases T.out.1.each i d with q|⟨a,c,q1,q2,q3,q4⟩
       .have A:=O9 wr (((i:Int)+1)*1073741824);have HN:Hid (F i=.slice none 0 0):=q;rw[q]at c1;clear q;go_wp2_with fail;refine A.mono ?_;rintro e w6 ⟨rfl,rfl⟩;go_wp2_with fail;go_roundw;case rel=>exact⟨i+1,by omega,by go_num,T.out.1.skip HN.out,T.out.2⟩
        case measure=>simp[intOf];omega
       .have A:=Vt wr a 32 32 c (((i:Int)+1)*1073741824) q2 q3 (bB _) (by omega) (by omega) (by omega);have HN:Hid (F i=.slice (some ⟨a,0,none⟩) 32 32):=q1;have aw:Hid (w.heap.size<=a):=ae.out i a d (by rw[q1];rfl);rw[q1]at c1;clear q1 q2 q3 q4;go_wp2_with fail;refine A.mono ?_;rintro e w6 ⟨rfl,ho,D,am,an,ap⟩;have H6:Hid (SO w6 g j (i+1) F/\dc w w6):=⟨T.out.1.step ho d (by rw[HN.out];rfl) (.inr ⟨a,D,HN.out,am,an,λ_=>ap⟩),T.out.2.trans (ho.below aw.out T.out.2.size)⟩
        clear A ho am an ap;go_wp2_with fail;go_roundw;case rel=>exact⟨i+1,by omega,by go_num,H6.out⟩
        case measure=>simp[intOf];omega
      .have aB:i=j:=by omega
       subst aB;obtain⟨w6,ai⟩:∃w6,w6=wr:=⟨_,rfl⟩
       have W:Hid (SO w6 g i i F/\dc w w6):=by rw[ai];exact T.out
       have aL:g<w6.heap.size:=W.out.1.lt;rw[<-ai];clear ai T d aA V;go_wp2_with fail
       go_loop [10,11] (λk _=>∃(m:Nat),m<=i/\k=.int .i64 m) (λk _=>i-(intOf k).toNat)
       case atStart=>exact⟨0,by omega,rfl⟩
       case round=>
        obtain⟨m,hm,rfl⟩:=hrel;by_cases d:m<i
        .have ar:(m:Int)<(i:Int):=by omega
         have c1:=W.out.1.row m d;have aH:wrap64 ((m:Int)+1)=(m:Int)+1:=by unfold wrap64;omega
         have aI:wrap64 (((m:Int)+1)*1073741824)=((m:Int)+1)*1073741824:=by unfold wrap64;omega
         rcases W.out.1.each m d with q|⟨a,c,q1,q2,q3,q4⟩
         .have A:=MU w6 (((m:Int)+1)*1073741824);rw[q]at c1;clear q;go_wp2_with fail;refine A.mono ?_;rintro e w7 ⟨rfl,rfl⟩;go_wp2_with fail
          go_round
          case rel=>exact⟨m+1,by omega,by go_num⟩
          case measure=>simp[intOf];omega
         .have A:=Nt w6 a 32 32 (((m:Int)+1)*1073741824) q2.lt (bB _) (by omega) (by omega) (by omega) (λt ht=>by rw[q2.cell];exact q4 d t ht);rw[q1]at c1;clear q1 q2 q3 q4;go_wp2_with fail;refine A.mono ?_;rintro e w7 ⟨rfl,rfl⟩;go_wp2_with fail
          go_round
          case rel=>exact⟨m+1,by omega,by go_num⟩
          case measure=>simp[intOf];omega
        .have ar:¬(m:Int)<(i:Int):=by omega
         go_wp2_with fail;go_ret;exact⟨rfl,W.out.2⟩
theorem UI(s:ByteArray)(p b:Int)(v:Value)(o:List Int)(I:s.size<=maxLen)(aq:o.length<=1073741824)(x:AQ w v o):
  Calls prog 42 #[.string s,.int .i64 p,.int .i64 b,v] w (Fj w (CU s p b o) (CA (ovE o) (BT o) (NF s p) b) (CE (ovE o) (BT o) (NF s p) b)):=by
 have HV:Hid (AQ w v o):=x;have al:Hid (∀g,dc w g->Calls prog 75 #[v] g λe w'=>e=.returned (.bool (FM o))/\w'=g):=λg hb=>GV v o aq (x.keep hb);cases t:AV (AA s)with
 |none=>
  have M:Hid (CU s p b o=1):=by show CU _ _ _ _=_;unfold CU;rw[t]
  have hk:=Ev s p b w I t;obtain⟨ao,ca,rfl, -, -⟩:=x;clear t I;go_enter func42,ntmps42;go_wp2_with fail;refine hk.mono ?_;rintro e g ⟨rfl,d⟩;go_wp2_with fail
  go_ret2
  exact .inl ⟨by rw[M.out];decide,d,by rw[M.out];rfl⟩
 |some m=>
  have M:Hid (CU s p b o=if b<0\/CK m p<=b then 2 else if FM o=true then 0 else 3):=by show CU _ _ _ _=_;unfold CU;rw[t]
  have hk:=Ew s p b w I t;have hl:=(Au t).1;have hb:=AR s;have HC:Hid (∀k:Nat,k<m.st.length->Yn (m.st.getD k AY)/\OX ((AI s).2.getD k (AC 0 0)) (m.st.getD k AY)):=by
   intro k hk;refine⟨Gb t hk,?_⟩;rcases BU s (by omega)with⟨_,hn⟩|⟨m',_,hp',hW⟩
   .rw[t]at hn;cases hn
   .rw[t]at hp';cases hp'
    exact(EV t hW (by rw[hW.1.len];exact hk)).2
  have HX:Hid (NF s p=(AI s).2.getD p.toNat (AC 0 0)):=rfl;obtain⟨ao,ca,rfl, -, -⟩:=id x;clear t I x hl hb;go_enter func42,ntmps42;go_wp2_with fail;refine hk.mono ?_;rintro e g ⟨d,⟨rfl,h⟩|⟨h,au,r,B,vs,vo,P,Q,O,rfl,u⟩⟩
  .have i:Hid (CU s p b o=2):=M.out.trans (bA h);clear M h hk;go_wp2_with fail
   go_ret2
   exact .inl ⟨by rw[i.out];decide,d,by rw[i.out];rfl⟩
  .have ai:¬(p<0\/(m.st.length:Int)<=p):=λz=>h (by unfold CK;rw[bA z];omega);obtain⟨k,rfl⟩:∃k:Nat,p=k:=⟨p.toNat,by omega⟩
   have ac:k<m.st.length:=by omega
   have i:Hid (CU s k b o=if FM o=true then 0 else 3):=M.out.trans (a_ h);have H:=al.out g d;have j:Hid (dc w g):=d;have W:Hid (NF s (k:Int)=(AI s).2.getD k (AC 0 0)):=by show _=_;rw[HX.out,bK]
   by_cases f:B_ o
   .have ad:=Jm u k ac (HC.out k ac).1 (HC.out k ac).2 b (.slice ao o.length ca) (ovE o) ⟨_,_,_,rfl⟩ (DC _ o f (HV.out.keep d)) (λhe=>Ll f he);rw[<-W.out]at ad;rw[CG.2 f]at H;have E:Hid (CU s k b o=0):=i.out.trans (bA (CG.2 f));clear M i h hk ai u d f HC HX W;generalize CA (ovE o) (BT o) (NF s (k:Int)) b=e5 at *;generalize CE (ovE o) (BT o) (NF s (k:Int)) b=M5 at *;go_wp2_with fail;refine H.mono ?_;rintro e A ⟨rfl,ae⟩;subst ae;go_wp2_with fail;refine ad.mono ?_;intro y K C;obtain⟨yy,rfl,a,nn,c,rfl⟩:=C.val;have HY:Hid (BF w e5 M5 (.returned (.slice a nn c)) K):=C.from_ j.out;clear C ad;go_wp2_with fail
    go_ret2
    exact .inr ⟨E.out,_,HY.out,rfl⟩
   .rw[GO f]at H;have E:Hid (CU s k b o=3):=i.out.trans (a_ (by rw[GO f];decide));clear M i h hk ai u d f HC HX W;go_wp2_with fail;refine H.mono ?_;rintro e A ⟨rfl,ae⟩;subst ae;go_wp2_with fail
    go_ret2
    exact .inl ⟨by rw[E.out];decide,j.out,by rw[E.out];rfl⟩
theorem PQ(hG:Cr w)(s:ByteArray)(p b:Int)(v:Value)(L:List Int)(I:s.size<=maxLen)(hL:L.length<=maxLen)(x:AQ w v L):
  Calls prog 14 #[.string s,.int .i64 p,.int .i64 b,v] w λe w'=>e=.returned (.bool true)/\dc w w':=by
 have am:L.length<=9223372036854775807:=by unfold maxLen at hL;omega
 clear hL;by_cases ah:1073741824<L.length
 .obtain⟨ao,cap,rfl, -, -⟩:=x;have ap:(1073741824:Int)<(L.length:Int):=by omega
  clear hG I;go_enter func14,ntmps14;go_wp2_with fail;go_ret;exact⟨rfl,bC _ _⟩
 have F:L.length<=1073741824:=by omega
 have ap:¬(1073741824:Int)<(L.length:Int):=by omega
 have q:=I1 w v L F x;have HV:Hid (AQ w v L):=x;obtain⟨c0,aa⟩:∃c0,c0=CU s p b L:=⟨_,rfl⟩
 obtain⟨e0,ab⟩:∃e0,e0=CA (ovE L) (BT L) (NF s p) b:=⟨_,rfl⟩
 obtain⟨M0,X⟩:∃M0,M0=CE (ovE L) (BT L) (NF s p) b:=⟨_,rfl⟩
 have ak:Hid (∀g,dc w g->At g w.heap.size (AJ L) tN->Calls prog 41 #[.string s,.int .i64 p,.int .i64 b,.slice (some ⟨w.heap.size,0,none⟩) L.length (L.length+2)] g (Fj g c0 e0 M0)):=λg d an=>by
  rw[aa,ab,X];exact YX (hG.keep d hG.size) s p b _ L I (AQ.lent an)
 have N:Hid (∀g,dc w g->Calls prog 42 #[.string s,.int .i64 p,.int .i64 b,v] g (Fj g c0 e0 M0)):=λg d=>by
  rw[aa,ab,X];exact UI s p b v L I F (HV.out.keep d)
 obtain⟨ao,cap,rfl, -, -⟩:=id x;clear x am ah hG I aa ab X;go_enter func14,ntmps14;go_wp2_with fail;refine q.mono ?_;rintro e g ⟨rfl,d,R,aj⟩;have j:Hid (dc w g):=d;have T:Hid (At g w.heap.size (AJ L) tN):=R;clear d R q;go_wp2_with fail;refine(ak.out g j.out T.out).mono ?_;rintro e A (⟨J,G,rfl⟩|⟨f,y,C,rfl⟩)
 .have HK:Hid (c0≠0):=J;have l:Hid (dc w A):=j.out.trans (G.mono (by omega));have U:Hid (At A w.heap.size (AJ L) tN):=T.out.keep G aj;have ar:g.heap.size<=A.heap.size:=G.size;clear G J;go_wp2_with fail;refine(N.out A l.out).mono ?_;rintro e K (⟨-,Y,rfl⟩|⟨f, -⟩)
  .have D:Hid (dc w K):=l.out.trans (Y.mono (by omega));have V:Hid (At K w.heap.size (AJ L) tN):=U.out.keep Y (by omega);clear Y;go_wp2_with fail;refine(Dr K).mono ?_;rintro e w4 ⟨rfl,k,rfl⟩;have af:=Dt (K.drewN k) w.heap.size (.slice ao L.length cap) L F (V.out.drewN k) (HV.out.keep (bD D.out k));go_wp2_with fail;refine af.mono ?_;rintro e w5 ⟨rfl,k',rfl⟩;go_wp2_with fail;go_ret;exact⟨rfl,bD D.out (k+k')⟩
  .exact absurd f HK.out
 .have HK:Hid (c0=0):=f;have l:Hid (dc w A):=j.out.trans (C.1.mono (by omega));have U:Hid (At A w.heap.size (AJ L) tN):=T.out.keep C.1 aj;have ar:g.heap.size<=A.heap.size:=C.1.size;obtain⟨y',e',a,n,c,rfl⟩:=C.val;cases e'
  have HY:Hid (BF g e0 M0 (.returned (.slice a n c)) A):=C;clear C f;go_wp2_with fail;refine(N.out A l.out).mono ?_;rintro e K (⟨J, -, -⟩|⟨-,z,hz,rfl⟩)
  .exact absurd HK.out J
  .have D:Hid (dc w K):=l.out.trans (hz.1.mono (by omega));have V:Hid (At K w.heap.size (AJ L) tN):=U.out.keep hz.1 (by omega);have S:=Fs HY.out hz;obtain⟨z',e',a',n',c',rfl⟩:=hz.val;cases e'
   clear hz;go_wp2_with fail;refine S.mono ?_;rintro e w4 ⟨rfl,Z⟩;have ag:Hid (dc w w4):=D.out.trans (Z.mono (by omega));have af:=Dt w4 w.heap.size (.slice ao L.length cap) L F (V.out.keep Z (by omega)) (HV.out.keep ag.out);clear Z S;go_wp2_with fail;refine af.mono ?_;rintro e w5 ⟨rfl,k',rfl⟩;go_wp2_with fail;go_ret;exact⟨rfl,bD ag.out k'⟩
end Go.Proofs.YtffajooegiempaaGreatDoor
