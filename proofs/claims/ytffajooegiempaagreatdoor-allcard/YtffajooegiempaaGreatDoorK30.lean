import Derived.Test.YtffajooegiempaaGreatDoorK29
set_option maxRecDepth 100000
set_option maxHeartbeats 6400000
namespace Go.Proofs.YtffajooegiempaaGreatDoor
open Go.RowKit Go.Proofs.Tryz
variable {B:Nat}{w w':World}{r:Nat}{m:Rd}{vs vo:Value}{P Q O:Nat->Nat}
theorem AZ.next(h:AZ B w r m vs vo P Q O)(F:m.st.length<=20)(p:Nat)(E:p<m.st.length)(c:Int):
  Calls prog 23 #[.pointer (some ⟨r,0,none⟩),.int .i64 (p:Int),.int .i64 c] w λe w'=>e=.returned (.int .i64 (BZ m.st p c))/\∃k,w'=w.drewN k:=by
 have f:=h.follows F 21 p E (by omega);obtain⟨g,cap,y,s,_⟩:=h.row (by omega);obtain⟨G,r1,H,I,J,K,L⟩:=h.rdc;rw[y]at r1;have hc:w.cell? ⟨g,p,none⟩=some (.pointer (some ⟨P p,0,none⟩)):=s p E;obtain⟨c0,c1,c2,c3,c4,c5,c6, -⟩:=h.stc p _ (AZ.gets E);have ac:(p:Int)<(m.st.length:Int):=by omega
 have n:Hid (BZ m.st p c=if(m.st.getD p AY).kind=61\/(m.st.getD p AY).kind=33\/((m.st.getD p AY).kind=64/\c=1)then Bx m.st 21 p
  else if(m.st.getD p AY).kind=64/\(m.st.getD p AY).fin=p+1 then(p:Int)
  else if(m.st.getD p AY).kind=64 then(p:Int)+1
  else if c=0/\p+1<(m.st.getD p AY).mid then(p:Int)+1
  else if c=1/\(m.st.getD p AY).mid<(m.st.getD p AY).fin then((m.st.getD p AY).mid:Int)
  else Bx m.st 21 p):=rfl
 clear h s y G H I J K L c1 c2 c3 c4;generalize m.st.getD p AY=u at *;generalize Bx m.st 21 p=fo at *;generalize P p=q at *;by_cases d:u.kind=61
 .have l:Hid (_=_):=n.out.trans (bA (.inl d));rw[d]at c0;clear n d;go_enter func23,ntmps23;go_wp2_with fail;refine f.mono ?_;rintro e j ⟨rfl,rfl⟩;go_wp2_with fail;go_ret;exact⟨by rw[l.out];rfl,0,rfl⟩
 have o:(u.kind==61)=false:=by simpa using d
 by_cases i:u.kind=33
 .have l:Hid (_=_):=n.out.trans (bA (.inr (.inl i)));rw[i]at c0;clear n d o i;go_enter func23,ntmps23;go_wp2_with fail;refine f.mono ?_;rintro e j ⟨rfl,rfl⟩;go_wp2_with fail;go_ret;exact⟨by rw[l.out];rfl,0,rfl⟩
 have t:(u.kind==33)=false:=by simpa using i
 by_cases b:u.kind=64
 .by_cases j:c=1
  .have l:Hid (_=_):=n.out.trans (bA (.inr (.inr ⟨b,j⟩)));rw[b]at c0;subst j;clear n d o i t b;go_enter func23,ntmps23;go_wp2_with fail;refine f.mono ?_;rintro e j ⟨rfl,rfl⟩;go_wp2_with fail;go_ret;exact⟨by rw[l.out];rfl,0,rfl⟩
  .have bw:(c==1)=false:=by simpa using j
   have a:Hid (_=_):=n.out.trans (a_ (λe=>e.elim d (λe=>e.elim i (λe=>j e.2))));by_cases A:u.fin=p+1
   .have l:Hid (_=_):=a.out.trans (bA ⟨b,A⟩);have D:(((u.fin:Nat):Int)==(p:Int)+1)=true:=by rw[beq_iff_eq];omega
    rw[b]at c0;clear n a d o i t b j A;go_enter func23,ntmps23;go_wp2_with fail;refine f.mono ?_;rintro e j ⟨rfl,rfl⟩;go_wp2_with fail;go_ret;exact⟨by rw[l.out];rfl,0,rfl⟩
   .have l:Hid (_=_):=(a.out.trans (a_ (λe=>A e.2))).trans (bA b);have D:(((u.fin:Nat):Int)==(p:Int)+1)=false:=by rw[b9];omega
    rw[b]at c0;clear n a d o i t b j A;go_enter func23,ntmps23;go_wp2_with fail;refine f.mono ?_;rintro e j ⟨rfl,rfl⟩;go_wp2_with fail;go_ret;exact⟨by rw[l.out];rfl,0,rfl⟩
 have aa:(u.kind==64)=false:=by simpa using b
 have a:Hid (_=_):=((n.out.trans (a_ (λe=>e.elim d (λe=>e.elim i (λe=>b e.1))))).trans (a_ (λe=>b e.1))).trans (a_ b);clear n d i b;by_cases z:c=0
 .subst z;by_cases x:p+1<u.mid
  .have l:Hid (_=_):=a.out.trans (bA ⟨rfl,x⟩);have v:(p:Int)+1<(u.mid:Int):=by omega
   clear a;go_enter func23,ntmps23;go_wp2_with fail;refine f.mono ?_;rintro e j ⟨rfl,rfl⟩;go_wp2_with fail;go_ret;exact⟨by rw[l.out];rfl,0,rfl⟩
  .have l:Hid (_=_):=(a.out.trans (a_ (λe=>x e.2))).trans (a_ (λe=>absurd e.1 (by decide)));have v:¬(p:Int)+1<(u.mid:Int):=by omega
   clear a;go_enter func23,ntmps23;go_wp2_with fail;refine f.mono ?_;rintro e j ⟨rfl,rfl⟩;go_wp2_with fail;go_quiet (fail);go_wp2_with fail;go_ret;exact⟨by rw[l.out];rfl,_,rfl⟩
 .have C:(c==0)=false:=by simpa using z
  by_cases j:c=1
  .subst j;clear z C;by_cases x:u.mid<u.fin
   .have l:Hid (_=_):=(a.out.trans (a_ (λe=>absurd e.1 (by decide)))).trans (bA ⟨rfl,x⟩);have v:(u.mid:Int)<(u.fin:Int):=by omega
    clear a;go_enter func23,ntmps23;go_wp2_with fail;refine f.mono ?_;rintro e j ⟨rfl,rfl⟩;go_wp2_with fail;go_quiet (fail);go_wp2_with fail;go_ret;exact⟨by rw[l.out];rfl,_,rfl⟩
   .have l:Hid (_=_):=(a.out.trans (a_ (λe=>absurd e.1 (by decide)))).trans (a_ (λe=>x e.2));have v:¬(u.mid:Int)<(u.fin:Int):=by omega
    clear a;go_enter func23,ntmps23;go_wp2_with fail;refine f.mono ?_;rintro e j ⟨rfl,rfl⟩;go_wp2_with fail;go_quiet (fail);go_wp2_with fail;go_ret;exact⟨by rw[l.out];rfl,_,rfl⟩
  .have ab:(c==1)=false:=by simpa using j
   have l:Hid (_=_):=(a.out.trans (a_ (λe=>z e.1))).trans (a_ (λe=>j e.1));clear a z j;go_enter func23,ntmps23;go_wp2_with fail;refine f.mono ?_;rintro e j ⟨rfl,rfl⟩;go_wp2_with fail;go_quiet (fail);go_wp2_with fail;go_ret;exact⟨by rw[l.out];rfl,_,rfl⟩
def Co(l:List Int)(p a:Int):Int×Int:=
 match AV l with
 |none=>(0,1)
 |some m=>if a<0\/CK m p<=a then(0,2)else(BZ m.st p.toNat a,0)
theorem UH(s:ByteArray)(p a:Int)(w:World)(o:s.size<=maxLen):
  Calls prog 29 #[.string s,.int .i64 p,.int .i64 a] w λe w'=>e=two (Co (AA s) p a)/\dc w w':=by
 cases i:AV (AA s)with
 |none=>
  have g:Hid (Co (AA s) p a=(0,1)):=by show Co _ _ _=_;unfold Co;rw[i]
  have hk:=Ev s p a w o i;clear i o;go_enter func29,ntmps29;go_wp2_with fail;refine hk.mono ?_;rintro e y ⟨rfl,hb⟩;go_wp2_with fail
  go_ret2
  exact⟨by rw[g.out];rfl,hb⟩
 |some m=>
  have g:Hid (Co (AA s) p a=if a<0\/CK m p<=a then(0,2)else(BZ m.st p.toNat a,0)):=by show Co _ _ _=_;unfold Co;rw[i]
  have hk:=Ew s p a w o i;clear i o;by_cases b:a<0\/CK m p<=a
  .have c:Hid (_=_):=g.out.trans (bA b)
   have f:=hk.mono (R':=λe w'=>e=.returned (.tuple #[.pointer none,.int .i64 2])/\dc w w') (by
    rintro e w' ⟨hb,h|h⟩
    .exact⟨h.1,hb⟩
    .exact absurd b h.1)
   clear hk b g;go_enter func29,ntmps29;go_wp2_with fail;refine f.mono ?_;rintro e y ⟨rfl,hb⟩;go_wp2_with fail
   go_ret2
   exact⟨by rw[c.out];rfl,hb⟩
  .have c:Hid (_=_):=g.out.trans (a_ b);have q:0<=p/\p<m.st.length:=by
    have u:¬CK m p<=a:=λe=>b (.inr e);have aa:¬a<0:=λe=>b (.inl e);unfold CK at u;split at u
    .omega
    .omega
   obtain⟨k,rfl⟩:∃k:Nat,p=k:=⟨p.toNat,by omega⟩
   have f:=hk.mono (R':=λe w'=>dc w w'/\m.st.length<=20/\∃r B x v P Q O,e=.returned (.tuple #[.pointer (some ⟨r,0,none⟩),.int .i64 0])/\AZ B w' r m x v P Q O) (by
    rintro e w' ⟨hb,h|h⟩
    .exact absurd h.2 b
    .exact⟨hb,h.2⟩)
   have t:k<m.st.length:=by omega
   rw[bK]at c;clear hk b g q;go_enter func29,ntmps29;go_wp2_with fail;refine f.mono ?_;rintro e y ⟨hb,n,r,B,x,v,P,Q,O,rfl,d⟩;have z:Hid (AZ _ _ _ _ _ _ _ _ _):=d;clear d;go_wp2_with fail;refine(z.out.next n k t a).mono ?_;rintro e w2 ⟨rfl,j,rfl⟩;go_wp2_with fail
   go_ret2
   exact⟨by rw[c.out];rfl,bD hb _⟩
theorem Vh(s:ByteArray)(p a:Int)(w:World)(D:s.size<=maxLen):
  Calls prog 28 #[.string s,.int .i64 p,.int .i64 a] w λe w'=>e=two (Co (AA s) p a)/\dc w w':=by
 have hr:=Hj s w D;have H:=AR s;have o:AV (AA s)=none->(∀e w',D8 w s e w'->∃c:Int,e=.returned (.tuple #[.agg #[.slice none 0 0],.int .i64 1,.int .i64 c])/\dc w w')->
   Calls prog 28 #[.string s,.int .i64 p,.int .i64 a] w λe w'=>e=two (Co (AA s) p a)/\dc w w':=by
  intro r I;have u:Hid (Co (AA s) p a=(0,1)):=by show Co _ _ _=_;unfold Co;rw[r]
  have i:=hr.mono I;clear hr r I D H;go_enter func28,ntmps28;go_wp2_with fail;refine i.mono ?_;rintro e E ⟨c,rfl,hb⟩;go_wp2_with fail
  go_ret2
  exact⟨by rw[u.out];rfl,hb.alloc hb.size _⟩
 by_cases d:160<s.size
 .refine o (by unfold AV;rw[bA (by omega)]) ?_;rintro e w' ⟨hb,h|h|h⟩
  .exact⟨0,h.2,hb⟩
  .exact absurd h.1 (by omega)
  .exact absurd h.1 (by omega)
 rcases BU s (by omega)with⟨hg,r⟩|⟨m,hg,r,hW⟩
 .refine o r ?_;rintro e w' ⟨hb,h|h|h⟩
  .exact absurd h.1 d
  .exact⟨_,h.2.2,hb⟩
  .exact absurd h.2.1 (by rw[hg];decide)
 clear o;have f:(AI s).2.length<=20:=(A_ s 22 (-1) 0 0 ((0,false),[]) ⟨bY _,bY _⟩).ok.len;have y:(AI s).2.length=m.st.length:=hW.1.len
 have i:=hr.mono (R':=λe w'=>∃v,e=.returned (.tuple #[.agg #[v],.int .i64 0,.int .i64 0])/\dc w w'/\w'.ownsRow w.heap.size BB 10 v (AI s).2.length (GE (AI s).2)) (by
  rintro e w' ⟨hb,h|h|h⟩
  .exact absurd h.1 d
  .exact absurd h.2.1 (by rw[hg];decide)
  .obtain⟨_,_,v,K,b⟩:=h
   exact⟨v,K,hb,b⟩)
 have u:Hid (Co (AA s) p a=if a<0\/CK m p<=a then(0,2)else(BZ m.st p.toNat a,0)):=by show Co _ _ _=_;unfold Co;rw[r]
 have G:Hid (Bj (AI s).2 m.st):=hW;have x:Hid ((AI s).2.length=m.st.length):=y;clear hr D H d hg r hW y;generalize(AI s).2=F at *;by_cases l:p<0\/(F.length:Int)<=p
 .have j:CK m p=0:=by have:=x.out;unfold CK;rw[bA (by omega)]
  have n:Hid (Co (AA s) p a=(0,2)):=u.out.trans (by rw[j,bA (by omega)]);clear u j;go_enter func28,ntmps28;go_wp2_with fail;refine i.mono ?_;rintro e E ⟨v,rfl,hb,b⟩;obtain⟨C,cap,rfl⟩:∃C cap,v=.slice C F.length cap:=by
   obtain⟨_,h2⟩:=b;rcases h2 with⟨rfl,e⟩|⟨g,cap,c,rfl,_⟩
   .exact⟨none,0,by rw[e]⟩
   .exact⟨_,cap,rfl⟩
  clear b;go_wp2_with fail;refine(Ot C F.length f p a l _).mono ?_;rintro e t ⟨rfl,q⟩;simp only[Pw];go_wp2_with fail
  go_ret2
  exact⟨by rw[n.out];rfl,(hb.alloc hb.size _).trans (q.mono (by have:=hb.size;simp;omega))⟩
 .obtain⟨k,rfl⟩:∃k:Nat,p=k:=⟨p.toNat,by omega⟩
  have hk:k<F.length:=by omega
  have z:=FX G.out f k hk a;have n:Hid (Co (AA s) k a=Ap F k a):=by
   show Co _ _ _=_;rw[u.out,z];have j:CK m k=DE (m.st.getD k AY):=by have:=x.out;unfold CK;rw[a_ (by omega),bK]
   rw[j,bK]
  have A:Hid (∀(t:World)(g cap:Nat),Cc t g F->Calls prog 68 #[.agg #[.slice (some ⟨g,0,none⟩) F.length cap],.int .i64 (k:Int),.int .i64 a] t λe w'=>e=Pw (Ap F k a)/\dc t w'):=λt g cap J=>Gj J f G.out.par k hk a;clear u z l;generalize Ap F k a=nx at *;obtain⟨n1,n2⟩:=nx;go_enter func28,ntmps28;go_wp2_with fail;refine i.mono ?_;rintro e E ⟨v,rfl,hb,b⟩;obtain⟨g,cap,rfl⟩:∃g cap,v=.slice (some ⟨g,0,none⟩) F.length cap:=by
   obtain⟨_,h2⟩:=b;rcases h2 with⟨_,e⟩|⟨g,cap,c,rfl,_⟩
   .omega
   .exact⟨g,cap,rfl⟩
  have B:Hid (Cc E g F):=Ee b rfl (b.lt g rfl).2;clear b;go_wp2_with fail;refine(A.out _ g cap (B.out.keep ((bC _ _).alloc (bB _) _))).mono ?_;rintro e t ⟨rfl,q⟩;simp only[Pw];go_wp2_with fail
  go_ret2
  exact⟨by rw[n.out];rfl,(hb.alloc hb.size _).trans (q.mono (by have:=hb.size;simp;omega))⟩
theorem Bs{W:Func}{t u v x:Tmp}(h:W.results=#[.tmp t,.tmp u,.tmp v,.tmp x])(f:Array Value)(P:Program)(w:World):
  (results W f).run P w=.ok (.tuple #[f.getD t undef,f.getD u undef,f.getD v undef,f.getD x undef]) w:=by
 simp[results,h]
theorem Qz{l:List Int}{m:Rd}(p:AV l=some m):Bc m/\Ok m:=by
 obtain⟨_,⟨n,hr⟩,_⟩:=Au p;exact MR (m:=CY) (λs hs=>absurd hs (by simp[CY])) Ok.init hr
theorem Uc(l:List Int)(i:Nat)(h:∀x,x∈l-> -1<=x/\x<=1): -1<=AB l i/\AB l i<=1:=by
 unfold AB;rw[bG];cases e:l[i]? with
 |none=>simp
 |some x=>exact h x (bR e)
theorem TJ{l:List Int}{m:Rd}{F:List Ds}(p:AV l=some m)(B:Bj F m.st):OZ F:=by
 obtain⟨z,ok⟩:=Qz p;have S:=B.1.len;refine⟨by have:=ok.len;omega,B.par,λk x hx=>?_⟩;have hk:k<F.length:=by
  rcases bW k F.length with J|J
  .exact J
  .simp[bO J]at hx
 obtain⟨u,Y⟩:∃u,m.st[k]?=some u:=⟨m.st[k]'(by omega),bP _⟩
 obtain⟨_,c1,_,c3,c4⟩:=B.1.cor k x u hx Y;have y:=bR Y;obtain⟨g1,g2,g3⟩:=z u y;have hn:=ok.nums u y;exact⟨by rw[<-c3];exact ok.sgl u y,λi=>by rw[<-c3];exact Uc _ _ g3,by rw[<-c4];exact hn,by rw[<-c1];exact⟨g1,g2⟩⟩
def QA(w:World)(l:List Int)(L:List Int)(a:Int):Ending->World->Prop:=λe w'=>dc w w'/\
 ((AV l=none/\e=.returned (.tuple #[.int .i64 0,.int .i64 0,.slice none 0 0,.int .i64 1]))\/
  ∃m F,AV l=some m/\Bj F m.st/\OZ F/\∃g c,e=.returned (.tuple #[.int .i64 (EM F L a).st,.int .i64 (EM F L a).pt,.slice (some ⟨g,0,none⟩) 4 4,.int .i64 0])/\w.heap.size<=g/\At w' g c tN/\c.size=4/\
   c.toList=[.int .i64 (AB (EM F L a).v 0),.int .i64 (AB (EM F L a).v 1),.int .i64 (AB (EM F L a).v 2),.int .i64 (AB (EM F L a).v 3)])
def Jt(w:World)(F:List Ds)(l:List Int)(L:List Int)(a:Int):Ending->World->Prop:=λe w'=>dc w w'/\
 ((AV l=none/\e=.returned (.tuple #[.int .i64 0,.int .i64 0,.slice none 0 0,.int .i64 1]))\/
  ∃m,AV l=some m/\Bj F m.st/\OZ F/\∃g c,e=.returned (.tuple #[.int .i64 (EM F L a).st,.int .i64 (EM F L a).pt,.slice (some ⟨g,0,none⟩) 4 4,.int .i64 0])/\w.heap.size<=g/\At w' g c tN/\c.size=4/\
   c.toList=[.int .i64 (AB (EM F L a).v 0),.int .i64 (AB (EM F L a).v 1),.int .i64 (AB (EM F L a).v 2),.int .i64 (AB (EM F L a).v 3)])
theorem Vi(s:ByteArray)(iv:Value)(L:List Int)(a:Int)(w:World)(y:s.size<=maxLen)(hi:Ir w w.heap.size iv L)(M:L.length<=9223372036854775807):
  Calls prog 31 #[.string s,iv,.int .i64 a] w (Jt w (AI s).2 (AA s) L a):=by
 have hr:=Hj s w y;have S:=AR s;have HI:Hid (Ir w w.heap.size iv L):=hi;have A:AV (AA s)=none->(∀e w',D8 w s e w'->∃c:Int,e=.returned (.tuple #[.agg #[.slice none 0 0],.int .i64 1,.int .i64 c])/\dc w w')->
   Calls prog 31 #[.string s,iv,.int .i64 a] w (Jt w (AI s).2 (AA s) L a):=by
  intro p X;have Z:Hid (AV (AA s)=none):=p;have C:=hr.mono X;clear hr p X y S hi;go_enter func31,ntmps31;go_wp2_with fail;refine C.mono ?_;rintro e j ⟨c,rfl,hb⟩;go_wp2_with fail;try simp only[Exit.inBlock,Exit.then]
  refine bJ (Bs rfl _ _ _) rfl ?_;exact⟨hb.alloc hb.size _,.inl ⟨Z.out,rfl⟩⟩
 by_cases q:160<s.size
 .refine A (by unfold AV;rw[bA (by omega)]) ?_;rintro e w' ⟨hb,h|h|h⟩
  .exact⟨0,h.2,hb⟩
  .exact absurd h.1 (by omega)
  .exact absurd h.1 (by omega)
 rcases BU s (by omega)with⟨z,p⟩|⟨m,z,p,B⟩
 .refine A p ?_;rintro e w' ⟨hb,h|h|h⟩
  .exact absurd h.1 q
  .exact⟨_,h.2.2,hb⟩
  .exact absurd h.2.1 (by rw[z];decide)
 clear A
 have C:=hr.mono (R':=λe w'=>∃v,e=.returned (.tuple #[.agg #[v],.int .i64 0,.int .i64 0])/\dc w w'/\w'.ownsRow w.heap.size BB 10 v (AI s).2.length (GE (AI s).2)) (by
  rintro e w' ⟨hb,h|h|h⟩
  .exact absurd h.1 q
  .exact absurd h.2.1 (by rw[z];decide)
  .obtain⟨_,_,v,he,d⟩:=h
   exact⟨v,he,hb,d⟩)
 have HP:Hid (AV (AA s)=some m):=p;have HW:Hid (Bj (AI s).2 m.st):=B;have D:Hid (OZ (AI s).2):=TJ p B;clear hr y S q z p B;generalize(AI s).2=F at *;have G:Hid (∀j o v,dc w j->j.ownsRow w.heap.size BB 10 v F.length (GE F)->Calls prog 70 #[.agg #[v],iv,.int .i64 a] (j.alloc o) λe w'=>∃g,e=.returned (.tuple #[.int .i64 (EM F L a).st,.int .i64 (EM F L a).pt,.slice (some ⟨g,0,none⟩) 4 4])/\Hid (Jt w F (AA s) L a (.returned (.tuple #[.int .i64 (EM F L a).st,.int .i64 (EM F L a).pt,.slice (some ⟨g,0,none⟩) 4 4,.int .i64 0])) w')):=by
  intro j o v hb d;have R:dc j (j.alloc o):=(bC _ _).alloc (bB _) _;have N:U_ (j.alloc o) (j.alloc o).heap.size v F:=by
   obtain⟨h1,h2⟩:=id d;rcases h2 with⟨rfl,e⟩|⟨g,cap,c,rfl,_⟩
   .exact⟨none,0,by rw[e],λhn=>absurd e hn⟩
   .have U:=(d.lt g rfl).2;exact⟨_,cap,rfl,λ_=>⟨g,rfl,by simp;omega,(Ee d rfl U).keep R⟩⟩
  have K:Ir (j.alloc o) (j.alloc o).heap.size iv L:=by
   obtain⟨I,cap,hv,hc,h0⟩:=HI.out.keep (hb.alloc hb.size o);have:=hb.size;exact⟨I,cap,hv,hc,λhn=>by obtain⟨b,off,q1,q2,q3⟩:=h0 hn;exact⟨b,off,q1,by simp;omega,q3⟩⟩
  refine(Za N K D.out M a).mono ?_;rintro e w2 ⟨g,c,rfl,z,O,V,T,Q⟩;have hs:=hb.size;simp at z;exact⟨g,rfl,(hb.alloc hb.size o).trans (Q.mono (by simp;omega)),.inr ⟨m,HP.out,HW.out,D.out,g,c,rfl,by omega,O,V,T⟩⟩
 clear hi;go_enter func31,ntmps31;go_wp2_with fail;refine C.mono ?_;rintro e j ⟨v,rfl,hb,d⟩;have E:Hid (World.ownsRow _ _ _ _ _ _ _):=d;obtain⟨I,cap,rfl⟩:∃I cap,v=.slice I F.length cap:=by
  obtain⟨_,h2⟩:=d;rcases h2 with⟨rfl,e⟩|⟨g,cap,c,rfl,_⟩
  .exact⟨none,0,by rw[e]⟩
  .exact⟨_,cap,rfl⟩
 clear d;go_wp2_with fail;refine(G.out _ _ _ hb E.out).mono ?_;rintro e w2 ⟨g,rfl,H⟩;go_wp2_with fail;try simp only[Exit.inBlock,Exit.then]
 refine bJ (Bs rfl _ _ _) rfl ?_;exact H.out
theorem Xe(s:ByteArray)(iv:Value)(L:List Int)(a:Int)(w:World)(y:s.size<=maxLen)(hi:Ir w w.heap.size iv L)(M:L.length<=9223372036854775807):
  Calls prog 31 #[.string s,iv,.int .i64 a] w (QA w (AA s) L a):=
 (Vi s iv L a w y hi M).mono λ_ _ ⟨hb,h⟩=>⟨hb,h.imp id λ⟨m,r⟩=>⟨m,_,r⟩⟩
theorem Xc(F:List Ds)(hx:∀k,k<F.length->DQ (F.getD k (AC 0 0)))(u:F.length<=20):D3 F≠⟨#[]⟩:=by
 intro h;have h1:=Iv hx u;rw[h]at h1;have h2:AA ⟨#[]⟩=[]:=rfl;rw[h2]at h1;unfold IM at h1;cases h1
theorem Zd{s:ByteArray}(hs:AV (AA s)≠none):D3 (AI s).2≠⟨#[]⟩:=by
 cases f:AV (AA s)with
 |none=>exact absurd f hs
 |some mm=>
  have g:=(Au f).1;have l:=AR s;have c:(AI s).2.length<=20:=(A_ s 22 (-1) 0 0 ((0,false),[]) ⟨bY _,bY _⟩).ok.len;rcases BU s (by omega)with⟨_,hn⟩|⟨m',_,hp',i⟩
  .rw[f]at hn;cases hn
  .exact Xc _ (λk hk=>JI hp' i hk) c
theorem Xb{s:ByteArray}(hs:AV (AA s)≠none):(D3 (AI s).2).size<=maxLen:=by
 cases f:AV (AA s)with
 |none=>exact absurd f hs
 |some mm=>
  have g:=(Au f).1;have l:=AR s;have c:(AI s).2.length<=20:=(A_ s 22 (-1) 0 0 ((0,false),[]) ⟨bY _,bY _⟩).ok.len;rcases BU s (by omega)with⟨_,hn⟩|⟨m',_,hp',i⟩
  .rw[f]at hn;cases hn
  .have:=LS (λk hk=>JI hp' i hk) c;unfold maxLen;omega
variable {M N:Nat->Int}{F:List Ds}{L:List (Option (List Int))}
theorem Bi{e1 e2:Bool}:DY e1 e2 M N=true↔e1=true\/(e1=false/\e2=false/\Le M N):=by
 unfold DY;cases e1 with
 |true=>exact⟨λ_=>.inl rfl,λ_=>rfl⟩
 |false=>
  cases e2 with
  |true=>exact⟨(λh=>by cases h),(λh=>by rcases h with h|⟨_,h,_⟩<;>cases h)⟩
  |false=>
   show leF M N 64=true↔_;rw[DI]
   exact⟨λh=>.inr ⟨rfl,rfl,h⟩,λh=>by
    rcases h with h|⟨_,_,h⟩
    .cases h
    .exact h⟩
theorem Le.trans{A B C:Nat->Int}(h:Le A B)(k:Le B C):Le A C:=λa v=>cd (h a v) (k a v)
theorem Fg{e1 e2 e3:Bool}{A B C:Nat->Int}(h:DY e1 e2 A B=true)(k:DY e2 e3 B C=true):DY e1 e3 A C=true:=by
 rcases Bi.1 h with h|⟨h1,h2,h3⟩
 .exact Bi.2 (.inl h)
 .rcases Bi.1 k with k|⟨_,k2,k3⟩
  .rw[h2]at k;cases k
  .exact Bi.2 (.inr ⟨h1,k2,h3.trans k3⟩)
theorem G0(e:Bool)(A:Nat->Int):DY e e A A=true:=by
 cases e with
 |true=>rfl
 |false=>exact Bi.2 (.inr ⟨rfl,rfl,λ_ _=>bN _⟩)
theorem Qo(h:Le M N)(s:∀a,a<64->N a<=NB){i j:Nat}(hi:i<8)(m:j<8):mo M i j<=mo N i j:=by
 have h1:=h (i*8+j) (by omega);have h2:=s (i*8+j) (by omega);unfold mo;generalize M (i*8+j)=x at *;generalize N (i*8+j)=y at *;have tx:=ER x;have ty:=ER y;have hx:=cR x 0;have hy:=cR y 0;unfold NB at *;by_cases e:i=j
 .by_cases qy:y=1000000
  .rw[a_ (show¬(i=j/\y≠1000000)from λz=>z.2 qy)];split
   .rcases hx with c|c
    .rw[tx.2 c];omega
    .rw[tx.1 c];omega
   .omega
  .rw[bA (show i=j/\y≠1000000 from⟨e,qy⟩),bA (show i=j/\x≠1000000 from⟨e,by omega⟩)];rcases hx with c|c
   .rw[tx.2 c];rcases hy with d|d
    .rw[ty.2 d];omega
    .rw[ty.1 d];omega
   .rw[tx.1 c,ty.1 (by omega)];omega
 .rw[a_ (λz=>e z.1),a_ (λz=>e z.1)];exact h1
theorem MS(h:Le M N)(s:∀a,a<64->N a<=NB)(l:List Int):FC M l<=FC N l:=Qo h s (Cx l 4 (bB _)).1 (Cx l 4 (bB _)).2
theorem Jn(h:Le M N)(s:∀a,a<64->N a<=NB){x:Ds}(hx:DQ x)(hs:DF false N x=true):DF false M x=true:=by
 have n:=hx.g.num;have g1:=MS h s x.sg;have g2:=MS h s (Dv x.sg);unfold DF at *;rw[a_ (by decide)]at *;by_cases K:x.kind=0
 .rw[bA K]at *;cases v:x.any with
  |true=>rfl
  |false=>
   rw[v,Bool.false_or]at hs;rw[Bool.false_or];unfold ftB at *;obtain⟨a,b,c,d⟩:=ce hs;unfold NB at *;exact cC ⟨by omega,by omega,by omega,by omega⟩
 .rw[a_ K]at *;by_cases k1:x.kind=1
  .rw[bA k1,cA]at *;exact⟨hs.1,cC (by have:=ce hs.2;omega)⟩
  .rw[a_ k1]
theorem QF(E:Wn M)(s:TQ N)(h:Le M N){l:List Int}(hl:l.length=4)(hv:∀i, -1<=AK l i/\AK l i<=1)(h1:1<=nz l)(h2:nz l<=2){n:Int}(hn:n<=1000)(H:GJ false M l n=false):GJ false N l n=false/\Le (E5 false M l n) (E5 false N l n):=by
 have hC:=NL E.tq hl hv h1 h2 hn H;obtain⟨f,w,ah,ab,R,S⟩:=Ep E.tc hl hv h1 h2;obtain⟨p,ag,ad,ac,ae,af⟩:=Ep s.tc hl hv h1 h2;have aa:p=f:=by omega
 subst aa;have gm:=MS h s.tc.hi l;have J:n≠NB:=by unfold NB;omega
 have eM:lm M (CF l) (C4 l) n=sb M p n:=by rw[R,S];rfl
 have eN:lm N (CF l) (C4 l) n=sb N p n:=by rw[R,S];rfl
 obtain⟨n1,n2,n3,n4,n5,n6⟩:=FE p w;have a1:=D5 p w;have a2:=D7 p w;by_cases U:Ko false N l n=true
 .have P:Ko false M l n=true:=by
   unfold Ko at *;have:=ce U;exact cC (this.imp id (λz=>by omega))
  unfold GJ E5;rw[bA U,bA U,bA P];exact⟨rfl,h⟩
 .have up:Le (E5 false M l n) (sb N p n):=by
   intro a v;have e:a=a/8*8+a%8:=by omega
   have hi:a/8<8:=by omega
   have m:a%8<8:=by omega
   by_cases P:Ko false M l n=true
   .have c0:bd M p<=n:=by
     unfold Ko at P;have:=ce P;rcases this with z|z
     .cases z
     .rw[ab]at z;exact z
    have Z:E5 false M l n=M:=by unfold E5;rw[bA P]
    rw[Z,e];generalize a/8=i at hi;generalize a%8=j at m;rw[EZ N w J hi m];have G:=h (i*8+j) (by omega);split
    .rename_i z;have W:M (fs p*8+ss p)<=if p<8 then 2*n else n:=by
      by_cases X:p<8
      .obtain⟨q1,q2⟩:=Eo p X;have hb:bd M p=mo M p p:=by unfold bd mo;rw[q1,q2]
       have hd:=Gr E X;rw[bA X,q1,q2];rw[hb]at c0;omega
      .rw[a_ X];have hb:bd M p=M (fs p*8+ss p):=by
        unfold bd;rw[a_ (λz=>G7 p w (by omega) z.1)]
       omega
     rcases z with⟨z1,z2⟩|⟨z1,z2⟩
     .rw[z1,z2];exact W
     .rw[z1,z2,E.tc.sym _ _ a2 a1];exact W
    .exact G
   .have Z:E5 false M l n=Aj (sb M p n):=by unfold E5;rw[a_ P,eM]
    rw[Z];refine cd (Cs _ a) ?_;rw[e];generalize a/8=i at hi;generalize a%8=j at m;rw[EZ M w J hi m,EZ N w J hi m];split
    .exact bN _
    .exact h _ (by omega)
  have V:=hC.below_sharp up (W_ s.tc w hn);have eB:E5 false N l n=Aj (sb N p n):=by unfold E5;rw[a_ U,eN]
  rw[eB];refine⟨?_,V⟩;unfold GJ;rw[a_ U,eN]
  exact II (λi hi=>by
   have z:=V (i*8+opp i) (by have:=Ah hi;omega);rw[hC.zero i hi]at z
   exact z)
theorem Mc{a b c:Int}(h:a<=b)(hb:b<=NB)(hc: -2000<=c/\c<=2000)(v:a<=1998):pl a c<=pl b c:=by
 unfold pl NB at *;split<;>split<;>omega
theorem Md(E:Wn M)(s:TQ N)(h:Le M N){x:Ds}(hx:DQ x)(r:Int)(H:CA false M x r=false):CA false N x r=false/\Le (CE false M x r) (CE false N x r):=by
 have n:=hx.g.num;have ht:=hx.tg;have I:=s.tc.hi;have pE:∀A,CA false A x r=(if x.kind=0 then false else if x.any=true then false else if r=0 then GJ false A x.sg x.num else GJ false A (Dv x.sg) (-x.num-1)):=λA=>rfl;have pM:∀A,CE false A x r=(if x.kind=0 then JF A x else if x.any=true then A else if r=0 then E5 false A x.sg x.num else E5 false A (Dv x.sg) (-x.num-1)):=λA=>rfl;rw[pE]at H;rw[pE,pM,pM];by_cases K:x.kind=0
 .simp only[bA K];refine⟨trivial,?_⟩;unfold JF;have bt:∀{lo hi:Int}, -999<=lo/\lo<=999-> -999<=hi/\hi<=999->Le (FI M x.target.toNat lo hi) (FI N x.target.toNat lo hi):=λ{lo hi} h1 h2 a v=>by
   have e:a=a/8*8+a%8:=by omega
   have o:a/8<8:=by omega
   have m:a%8<8:=by omega
   rw[e];generalize a/8=i at o;generalize a%8=j at m;rw[Dx M (by omega) h1 h2 o m,Dx N (by omega) h1 h2 o m];have G:=h (i*8+j) (by omega);have O:∀{j:Nat},j<8->mo M j j<=mo N j j/\mo N j j<=NB/\mo M j j<=1998:=λ{j} m=>by
    have b:=E.box j m;have d:=Gr E m;have hn:=I (j*8+j) (by omega);refine⟨Qo h I m m,?_,by omega⟩;by_cases q:N (j*8+j)=NB
    .rw[(Lg s.tc m).1 q];exact bN _
    .have:=((Lg s.tc m).2 q).1;unfold NB at *;omega
   have Y:∀{i:Nat},C6 x.target.toNat i->uF M x.target.toNat lo hi i=uF N x.target.toNat lo hi i/\ -2000<=uF N x.target.toNat lo hi i/\uF N x.target.toNat lo hi i<=2000:=λ{i} q=>by
    unfold uF;rcases q with q|q
    .rw[bA q,bA q];exact⟨rfl,by omega,by omega⟩
    .rw[a_ (by omega),bA q,a_ (by omega),bA q];exact⟨rfl,by omega,by omega⟩
   have u:∀a b:Int,pl a b=pl b a:=λa b=>by
    unfold pl;by_cases q:a=NB\/b=NB
    .rw[bA q,bA q.symm]
    .rw[a_ q,a_ (λz=>q z.symm),Int.add_comm]
   unfold Po;by_cases Q:C6 x.target.toNat i
   .rw[bA Q,bA Q];by_cases D:C6 x.target.toNat j
    .rw[bA D,bA D];split
     .exact bN _
     .exact G
    .rw[a_ D,a_ D,(Y Q).1,u,u (uF N _ _ _ _)];exact Mc (O m).1 (O m).2.1 (Y Q).2 (O m).2.2
   .rw[a_ Q,a_ Q];by_cases D:C6 x.target.toNat j
    .rw[bA D,bA D,(Y D).1,u,u (uF N _ _ _ _)];exact Mc (O o).1 (O o).2.1 (Y D).2 (O o).2.2
    .rw[a_ D,a_ D];exact G
  by_cases a:x.any=true
  .rw[bA a,bA a];exact bt ⟨by omega,by omega⟩ ⟨by omega,by omega⟩
  .rw[a_ a,a_ a];by_cases q:CF x.sg=opp (C4 x.sg)
   .rw[bA q,bA q];exact bt ⟨by omega,by omega⟩ ⟨by omega,by omega⟩
   .rw[a_ q,a_ q];intro a v;have e:a=a/8*8+a%8:=by omega
    have o:a/8<8:=by omega
    have m:a%8<8:=by omega
    rw[e];generalize a/8=i at o;generalize a%8=j at m;have w:=(Cx x.sg 4 (bB _)).1;rw[Hd M _ _ _ o m,Hd N _ _ _ o m];have o1:Ak x.target.toNat (CF x.sg) i<8:=Cv w o;have o2:Ak x.target.toNat (CF x.sg) j<8:=Cv w m;have r1:=Cm (t:=x.target.toNat) (n:=x.num) ⟨by omega,by omega⟩ i;have r2:=Cm (t:=x.target.toNat) (n:=x.num) ⟨by omega,by omega⟩ j;exact Mc (h _ (by omega)) (I _ (by omega)) ⟨by omega,by omega⟩ (E.all (by omega)).2.2
 .simp only[a_ K]at H|-;by_cases v:x.any=true
  .simp only[bA v];exact⟨trivial,h⟩
  .simp only[a_ v]at H|-;have T:1<=nz x.sg:=(hx.fc K).resolve_left v;by_cases w0:r=0
   .simp only[bA w0]at H|-;exact QF E s h hx.len hx.g.sg T hx.nz2 (by omega) H
   .simp only[a_ w0]at H|-;exact QF E s h (Cp _) (DJ hx.g.sg) (by rw[C9 hx.len];exact T) (by rw[C9 hx.len];exact hx.nz2) (by omega) H
abbrev at_(s:SS)(i:Nat):Pl:=s.1.getD i p0
def M_(L:List (Option (List Int)))(s:SS):Prop:=∀i,DY (at_ s i).e (cE (L.getD i none)) (at_ s i).M (cM (L.getD i none))=true
theorem SY{s:SS}(h:M_ L s)(k:Nat){p:Pl}(A:DY p.e (cE (L.getD k none)) p.M (cM (L.getD k none))=true)(b:Bool):M_ L (s.1.set k p,b):=by
 intro i;show DY ((s.1.set k p).getD i p0).e _ ((s.1.set k p).getD i p0).M _=true;rcases bW k s.1.length with q|q
 .rw[DB q];by_cases e:i=k
  .rw[bA e,e];exact A
  .rw[a_ e];exact h i
 .rw[List.set_eq_of_length_le q];exact h i
theorem Sx{s:SS}(h:M_ L s)(pt:Int){e:Bool}{M:Nat->Int}(I:DY e (cE (BG L pt)) M (cM (BG L pt))=true):M_ L (DR s pt e M):=by
 unfold DR;split
 .exact h
 .rename_i A;split
  .exact h
  .rename_i q;have O:BG L pt=L.getD pt.toNat none:=by unfold BG;rw[a_ (by omega)]
   rw[O]at I;have D:e=false:=by
    cases e with
    |false=>rfl
    |true=>exact absurd rfl q
   subst D;refine SY h _ ?_ true;obtain⟨_,m2,U⟩:=(Bi.1 I).resolve_left (by decide);have hk:=h pt.toNat;show DY (Hn (at_ s pt.toNat).e false) _ (GF (at_ s pt.toNat).e false (at_ s pt.toNat).M M) _=true;cases J:(at_ s pt.toNat).e with
   |true=>exact I
   |false=>
    rw[J]at hk;obtain⟨_,k2,G⟩:=(Bi.1 hk).resolve_left (by decide);refine Bi.2 (.inr ⟨rfl,k2,λa x=>?_⟩);show jF (at_ s pt.toNat).M M 64 a<=_;rcases(C1 (at_ s pt.toNat).M M x).1 with z|z<;>rw[z]
    .exact G a x
    .exact U a x
theorem L_(l:Bt F L)(m:∀k,k<F.length->DQ (F.getD k (AC 0 0))){p:Pl}(A:GC p){k:Nat}(hk:k<F.length)(h:DY p.e (cE (L.getD k none)) p.M (cM (L.getD k none))=true):
  DF p.e p.M (F.getD k (AC 0 0))=true/\∀f:Nat,(f:Int)<Ae (F.getD k (AC 0 0)).kind->DY (CA p.e p.M (F.getD k (AC 0 0)) f) (cE (BG L (Ap F k f).1)) (CE p.e p.M (F.getD k (AC 0 0)) f) (cM (BG L (Ap F k f).1))=true:=by
 have hx:=m k hk;have hs:=l.says hk;have C:BG L (k:Int)=L.getD k none:=by unfold BG;rw[a_ (by omega),bK]
 rcases A with⟨h1,h2⟩|⟨h1,h2⟩
 .rw[h1]at h|-;obtain⟨_,k2,G⟩:=(Bi.1 h).resolve_left (by decide);have S:TQ (cM (L.getD k none)):=Su (Da l.ok k) k2;rw[C,k2]at hs;refine⟨Jn G S.tc.hi hx hs.1,λf g=>?_⟩;cases N:CA false p.M (F.getD k (AC 0 0)) f with
  |true=>exact Bi.2 (.inl rfl)
  |false=>
   obtain⟨a,b⟩:=Md h2 S G hx f N;have P:=hs.2 f g;unfold D0 at P;rw[C,k2,a]at P;obtain⟨_,c,d⟩:=(Bi.1 P).resolve_left (by decide);exact Bi.2 (.inr ⟨rfl,c,b.trans d⟩)
 .rw[h1];exact⟨rfl,λf _=>Bi.2 (.inl rfl)⟩
theorem U2(l:Bt F L)(m:∀k,k<F.length->DQ (F.getD k (AC 0 0))){s:SS}(h:M_ L s){p:Pl}(A:GC p){k:Nat}(hk:k<F.length)(g:DY p.e (cE (L.getD k none)) p.M (cM (L.getD k none))=true):∀n:Nat,(n:Int)<=Ae (F.getD k (AC 0 0)).kind->M_ L (GH F k p.e p.M s n)
 |0,_=>h
 |n+1,hn=>Sx (U2 l m h A hk g n (by omega)) _ ((L_ l m A hk g).2 n (by omega))
theorem Xh(l:Bt F L)(m:∀k,k<F.length->DQ (F.getD k (AC 0 0))){s:SS}(h:M_ L s){p:Pl}(A:GC p){k:Nat}(g:DY p.e (cE (L.getD k none)) p.M (cM (L.getD k none))=true):M_ L (Dp F k p.e p.M s):=by
 unfold Dp;split
 .rename_i q;split
  .have:=D1 (F.getD k (AC 0 0)).kind;exact U2 l m h A q g _ (by omega)
  .exact h
 .exact h
theorem X2(l:Bt F L)(m:∀k,k<F.length->DQ (F.getD k (AC 0 0))){s:SS}(h:M_ L s)(o:Bf s)(k:Nat):M_ L (Fz F k s):=by
 unfold Fz;split
 .exact Xh l m (SY h k (p:=⟨(at_ s k).e,(at_ s k).M,false⟩) (h k) _) (o k) (h k)
 .exact h
theorem Mo(l:Bt F L)(m:∀k,k<F.length->DQ (F.getD k (AC 0 0))){s:SS}(h:M_ L s)(o:Bf s):∀n,M_ L (C3 F s n)
 |0=>h
 |n+1=>X2 l m (Mo l m h o n) (DW o m n) n
theorem XO(l:Bt F L)(n:Nat):M_ L (GK n):=by
 refine Sx (λi=>?_) 0 l.st;have:at_ (List.replicate (n+1) p0,false) i=p0:=by
  show(List.replicate (n+1) p0).getD i p0=p0;rw[bG,List.getElem?_replicate];split<;>rfl
 rw[this];exact Bi.2 (.inl rfl)
def Oa(s v:SS):Prop:=v.1.length=s.1.length/\∀i,at_ v i=at_ s i\/((at_ v i).wt=true/\DY (at_ s i).e (at_ v i).e (at_ s i).M (at_ v i).M=true)
theorem Oa.in_{s v:SS}(h:Oa s v)(i:Nat):DY (at_ s i).e (at_ v i).e (at_ s i).M (at_ v i).M=true:=by
 rcases h.2 i with q|q
 .rw[q];exact G0 _ _
 .exact q.2
theorem Oa.refl(s:SS):Oa s s:=⟨rfl,λ_=>.inl rfl⟩
theorem Oa.trans{s t u:SS}(h:Oa s t)(k:Oa t u):Oa s u:=by
 refine⟨k.1.trans h.1,λi=>?_⟩;rcases k.2 i with q|q
 .rcases h.2 i with r|r
  .exact .inl (q.trans r)
  .exact .inr (by rw[q];exact r)
 .exact .inr ⟨q.1,Fg (h.in_ i) q.2⟩
theorem Oo(s:SS)(pt:Int)(e:Bool)(M:Nat->Int):Oa s (DR s pt e M):=by
 refine⟨J4 s pt e M,λi=>?_⟩;unfold DR;split
 .exact .inl rfl
 .rename_i A;split
  .exact .inl rfl
  .rename_i q;have hk:pt.toNat<s.1.length:=by omega
   show(s.1.set pt.toNat _).getD i p0=_\/((s.1.set pt.toNat _).getD i p0).wt=true/\DY _ ((s.1.set pt.toNat _).getD i p0).e _ ((s.1.set pt.toNat _).getD i p0).M=true;rw[DB hk];by_cases c:i=pt.toNat
   .rw[bA c,c];refine .inr ⟨rfl,?_⟩;have D:e=false:=by
     cases e with
     |false=>rfl
     |true=>exact absurd rfl q
    subst D;show DY (at_ s pt.toNat).e (Hn (at_ s pt.toNat).e false) (at_ s pt.toNat).M (GF (at_ s pt.toNat).e false (at_ s pt.toNat).M M)=true;cases J:(at_ s pt.toNat).e with
    |true=>exact Bi.2 (.inl rfl)
    |false=>exact Bi.2 (.inr ⟨rfl,rfl,λa x=>(C1 (at_ s pt.toNat).M M x).2.1⟩)
   .rw[a_ c];exact .inl rfl
theorem Sy{s:SS}{pt:Int}(h0:0<=pt)(h1:pt<s.1.length)(e:Bool)(M:Nat->Int):DY e (at_ (DR s pt e M) pt.toNat).e M (at_ (DR s pt e M) pt.toNat).M=true:=by
 unfold DR;rw[a_ (by omega)];split
 .rename_i q;exact q
 .rename_i q;have hk:pt.toNat<s.1.length:=by omega
  show DY e ((s.1.set pt.toNat _).getD pt.toNat p0).e M ((s.1.set pt.toNat _).getD pt.toNat p0).M=true;rw[DB hk,bA rfl];have D:e=false:=by
   cases e with
   |false=>rfl
   |true=>exact absurd rfl q
  subst D;show DY false (Hn (at_ s pt.toNat).e false) M (GF (at_ s pt.toNat).e false (at_ s pt.toNat).M M)=true;cases J:(at_ s pt.toNat).e with
  |true=>exact G0 _ _
  |false=>exact Bi.2 (.inr ⟨rfl,rfl,λa x=>(C1 (at_ s pt.toNat).M M x).2.2⟩)
theorem P6(F:List Ds)(k:Nat)(e:Bool)(M:Nat->Int)(s:SS):∀n,Oa s (GH F k e M s n)
 |0=>Oa.refl s
 |n+1=>(P6 F k e M s n).trans (Oo _ _ _ _)
def Yc(F:List Ds)(s:SS)(k:Nat)(p:Pl)(n:Nat):Prop:=∀f:Nat,f<n->DY (CA p.e p.M (F.getD k (AC 0 0)) f) (at_ s (Ap F k f).1.toNat).e (CE p.e p.M (F.getD k (AC 0 0)) f) (at_ s (Ap F k f).1.toNat).M=true
theorem Yc.gr{s v:SS}{k n:Nat}{p:Pl}(h:Yc F s k p n)(o:Oa s v):Yc F v k p n:=λf g=>Fg (h f g) (o.in_ _)
theorem U3{s:SS}(B:s.1.length=F.length+1){k:Nat}(hk:k<F.length)(p:Pl):∀n:Nat,(n:Int)<=Ae (F.getD k (AC 0 0)).kind->Yc F (GH F k p.e p.M s n) k p n
 |0,_=>λf g=>absurd g (by omega)
 |n+1,hn=>by
  intro f g;have ih:=U3 B hk p n (by omega);rcases bX (ch.1 g)with q|q
  .exact Fg (ih f q) ((Oo _ _ _ _).in_ _)
  .subst q;have hi:=Du (F:=F) k f (Fv F k hk f (by omega));exact Sy hi.1 (by rw[Kk,B];omega) _ _
def SU(F:List Ds)(s:SS):Prop:=∀k,k<F.length->(at_ s k).wt=false->Yc F s k (at_ s k) (Ae (F.getD k (AC 0 0)).kind).toNat
theorem SU.gr{s v:SS}(h:SU F s)(o:Oa s v):SU F v:=by
 intro k hk g;rcases o.2 k with q|q
 .rw[q]at g|-;exact(h k hk g).gr o
 .rw[q.1]at g;cases g
theorem X6(l:Bt F L)(m:∀k,k<F.length->DQ (F.getD k (AC 0 0))){s:SS}(B:s.1.length=F.length+1)(h:SU F s)(x:M_ L s)(o:Bf s){k:Nat}(K:k<s.1.length):SU F (Fz F k s):=by
 unfold Fz;split
 .rename_i aa;have e1:∀i,at_ (s.1.set k ⟨(at_ s k).e,(at_ s k).M,false⟩,s.2) i=if i=k then⟨(at_ s k).e,(at_ s k).M,false⟩else at_ s i:=λi=>DB K i _
  have Q:∀i,(at_ (s.1.set k ⟨(at_ s k).e,(at_ s k).M,false⟩,s.2) i).e=(at_ s i).e/\(at_ (s.1.set k ⟨(at_ s k).e,(at_ s k).M,false⟩,s.2) i).M=(at_ s i).M:=λi=>by
   rw[e1];by_cases c:i=k
   .rw[bA c,c];exact⟨rfl,rfl⟩
   .rw[a_ c];exact⟨rfl,rfl⟩
  have w:∀j,j≠k->j<F.length->(at_ (s.1.set k ⟨(at_ s k).e,(at_ s k).M,false⟩,s.2) j).wt=false->Yc F (s.1.set k ⟨(at_ s k).e,(at_ s k).M,false⟩,s.2) j (at_ (s.1.set k ⟨(at_ s k).e,(at_ s k).M,false⟩,s.2) j) (Ae (F.getD j (AC 0 0)).kind).toNat:=by
   intro j T y g;rw[e1,a_ T]at g|-;intro f E;have:=h j y g f E;rw[(Q _).1,(Q _).2];exact this
  by_cases hk:k<F.length
  .have hs:=(L_ l m (o k) hk (x k)).1;have wr:=D1 (F.getD k (AC 0 0)).kind;have H:Dp F k (at_ s k).e (at_ s k).M (s.1.set k ⟨(at_ s k).e,(at_ s k).M,false⟩,s.2)=GH F k (at_ s k).e (at_ s k).M (s.1.set k ⟨(at_ s k).e,(at_ s k).M,false⟩,s.2) (Ae (F.getD k (AC 0 0)).kind).toNat:=by
    unfold Dp;rw[bA hk,bA hs]
   show SU F (Dp F k (at_ s k).e (at_ s k).M (s.1.set k ⟨(at_ s k).e,(at_ s k).M,false⟩,s.2));rw[H];have R:=P6 F k (at_ s k).e (at_ s k).M (s.1.set k ⟨(at_ s k).e,(at_ s k).M,false⟩,s.2) (Ae (F.getD k (AC 0 0)).kind).toNat;intro j y g;rcases R.2 j with q|q
   .by_cases c:j=k
    .subst c;rw[q,e1,bA rfl];exact U3 (s:=(s.1.set j ⟨(at_ s j).e,(at_ s j).M,false⟩,s.2)) (by simpa using B) hk ⟨(at_ s j).e,(at_ s j).M,false⟩ _ (by omega)
    .rw[q]at g|-;exact(w j c y g).gr R
   .rw[q.1]at g;cases g
  .have H:Dp F k (at_ s k).e (at_ s k).M (s.1.set k ⟨(at_ s k).e,(at_ s k).M,false⟩,s.2)=(s.1.set k ⟨(at_ s k).e,(at_ s k).M,false⟩,s.2):=by
    unfold Dp;rw[a_ hk]
   show SU F (Dp F k (at_ s k).e (at_ s k).M (s.1.set k ⟨(at_ s k).e,(at_ s k).M,false⟩,s.2));rw[H];intro j y g;exact w j (by omega) y g
 .exact h
theorem UP(l:Bt F L)(m:∀k,k<F.length->DQ (F.getD k (AC 0 0))){s:SS}(B:s.1.length=F.length+1)(h:SU F s)(x:M_ L s)(o:Bf s):∀n,n<=s.1.length->SU F (C3 F s n)
 |0,_=>h
 |n+1,hn=>X6 l m (by rw[DD];exact B) (UP l m B h x o n (by omega)) (Mo l m x o n) (DW o m n) (by rw[DD];omega)
theorem XX{s:SS}{pt:Int}{e:Bool}{M:Nat->Int}(h:(DR s pt e M).2=false):DR s pt e M=s:=by
 unfold DR at *;split at h
 .rename_i q;rw[bA q]
 .rename_i q;rw[a_ q];split at h
  .rename_i r;rw[bA r]
  .cases h
theorem U4{k:Nat}{e:Bool}{M:Nat->Int}{s:SS}:∀n,(GH F k e M s n).2=false->GH F k e M s n=s
 |0,_=>rfl
 |n+1,h=>by
  have h1:=XX h;have h2:(GH F k e M s n).2=false:=by rw[<-h1];exact h
  exact h1.trans (U4 n h2)
theorem Xj{k:Nat}{e:Bool}{M:Nat->Int}{s:SS}(h:(Dp F k e M s).2=false):Dp F k e M s=s:=by
 unfold Dp at *;split
 .rename_i q;rw[bA q]at h;split
  .rename_i r;rw[bA r]at h;exact U4 _ h
  .rfl
 .rfl
theorem X4{k:Nat}{s:SS}(hk:k<s.1.length)(h:(Fz F k s).2=false):s.2=false/\(at_ (Fz F k s) k).wt=false/\∀i,i≠k->at_ (Fz F k s) i=at_ s i:=by
 unfold Fz at *;split
 .rename_i q;rw[bA q]at h;have e:=Xj h;rw[e]at h|-;refine⟨h,?_,λi hi=>?_⟩
  .show((s.1.set k _).getD k p0).wt=false;rw[DB hk,bA rfl]
  .show(s.1.set k _).getD i p0=_;rw[DB hk,a_ hi]
 .rename_i q;rw[a_ q]at h;exact⟨h,by simpa using q,λ_ _=>rfl⟩
theorem UN{s:SS}:∀n,n<=s.1.length->(C3 F s n).2=false->∀i,i<n->(at_ (C3 F s n) i).wt=false
 |0,_,_=>λi hi=>absurd hi (by omega)
 |n+1,hn,h=>by
  intro i hi;have h1:=X4 (F:=F) (k:=n) (s:=C3 F s n) (by rw[DD];omega) h;rcases bX (ch.1 hi)with q|q
  .have:=UN n (by omega) h1.1 i q;rw[show C3 F s (n+1)=Fz F n (C3 F s n)from rfl,h1.2.2 i (by omega)];exact this
  .rw[q];exact h1.2.1
end Go.Proofs.YtffajooegiempaaGreatDoor
