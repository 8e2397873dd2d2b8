import Derived.Test.YtffajooegiempaaGreatDoorK32
set_option maxRecDepth 100000
set_option maxHeartbeats 6400000
namespace Go.Proofs.YtffajooegiempaaGreatDoor
open Go.RowKit Go.Proofs.Tryz
variable {w:World}
theorem Lt(s c:ByteArray)(R:s.size<=maxLen)(hc:c.size<=maxLen):Calls prog 8 #[.string s,.string c] w (L4 w s c):=by
 have hs:=Ey s w R;cases j:AV (AA s)with
 |none=>
  have h1:=EQ j;have HE:Hid (∀x,Bv (AA s)=x->BI s c (x.2.1,x.2.2)):=λx hx=>by
   unfold BI;rw[j,<-hx]
  generalize Bv (AA s)=x at *;obtain⟨a,b,d⟩:=x;have h2:b=1:=h1;subst h2;simp only[FK]at hs;clear R j h1 hc;go_enter func8,ntmps8;go_wp2_with fail;refine hs.mono ?_;rintro e f ⟨rfl,hb⟩;go_wp2_with fail
  go_ret2
  exact⟨_,_,rfl,HE.out _ rfl,hb⟩
 |some m=>
  have T:(AA s).length<=160:=(Au j).1;have hl:=AR s;rw[(Au j).2.2.2]at hs;simp only[FK]at hs;have A:Bj (AI s).2 m.st:=by
   rcases BU s (by omega)with⟨_,hn⟩|⟨m',_,hp',A⟩
   .rw[j]at hn;cases hn
   .rw[j]at hp';cases hp';exact A
  have F:(AI s).2.length<=20:=(A_ s 22 (-1) 0 0 ((0,false),[]) ⟨bY _,bY _⟩).ok.len;have z:(AI s).2.length=m.st.length:=A.1.len;have H:Hid (∀r,Ad (AI s).2 (AA c) r->BI s c r):=λr h=>by unfold BI;rw[j];exact h
  have Z:Hid (∀f,Calls prog 26 #[.string c] f (VM f c)):=λf=>OF (by unfold maxLen at hc;omega);have W:Hid (∀f,Calls prog 20 #[.string s] f λe w'=>∃n:Nat,e=.returned (.tuple #[.pointer (some ⟨f.heap.size,0,none⟩),.int .i64 n,.bool true])/\dc f w'/\m.st.length<=20/\∃J I P Q O,AZ f.heap.size w' f.heap.size m J I P Q O):=λf=>Gx j f;have HK:Hid (∀{B r:Nat}{f:World}{J I:Value}{P Q O:Nat->Nat}(v:Value)(L:List (Option (List Int))),AZ B f r m J I P Q O->CX f v L->L.length=(AI s).2.length+1->DS (AA c)=some L->Calls prog 25 #[.pointer (some ⟨r,0,none⟩),v] f λe w'=>∃a b,e=.returned (.tuple #[.int .i64 a,.int .i64 b])/\BI s c (a,b)/\dc f w'):=λv L g hv hn i=>by
   refine(Rt g j A F v hv hn (GM (Om c) i).2.2.2).mono ?_;rintro e w' ⟨a,b,rfl,h1,h2⟩;refine⟨a,b,rfl,H.out _ ?_,h2⟩;unfold Ad;rw[i];show(if L.length≠(AI s).2.length+1 then _ else _);rw[a_ (by omega)];exact h1
  have Y:Hid (∀L,DS (AA c)=some L->L.length≠(AI s).2.length+1->BI s c (4,0)):=λL i hn=>H.out _ (by unfold Ad;rw[i];show(if L.length≠(AI s).2.length+1 then((4:Int),(0:Int))=(4,0)else _);rw[bA hn]);have M:Hid (DS (AA c)=none->BI s c (4,0)):=λi=>H.out _ (by unfold Ad;rw[i]);rw[<-z]at hs W;clear R j hc hl T A H z;generalize(AI s).2.length=n at *;go_enter func8,ntmps8;go_wp2_with fail;refine hs.mono ?_;rintro e f ⟨rfl,C⟩;have G:Hid (dc w f):=C;clear C hs;go_wp2_with fail;refine(Z.out f).mono ?_;rintro e K ⟨l,⟨i,rfl⟩|⟨L,v,i,rfl,q,a,t,X,rfl⟩⟩
  .have k:Hid (dc w K/\BI s c (4,0)):=⟨G.out.trans (l.mono G.out.size),M.out (by rw[<-MN];exact i)⟩
   clear l i;go_wp2_with fail
   go_ret2
   exact⟨_,_,rfl,k.out.2,k.out.1⟩
  .have u:Hid (t=L.length):=by obtain⟨_,_,e,_,_⟩:=q;cases e;exact(rfl:L.length=L.length)
   have k:Hid (dc w K/\DS (AA c)=some L/\CX K (.slice (some a) t X) L):=⟨G.out.trans (l.mono G.out.size),by rw[<-MN];exact i,q⟩
   clear l i q;by_cases o:t=n+1
   .have S:(t:Int)=(n:Int)+1:=by omega
    have N:Hid (t=n+1):=o;clear o;go_wp2_with fail;refine(W.out K).mono ?_;rintro e w3 ⟨n3,rfl,p,_,J,I,P,Q,O,g⟩;have U:Hid (dc w w3):=k.out.1.trans (p.mono k.out.1.size);have E:=HK.out (.slice (some a) t X) L g (k.out.2.2.keep p) (by rw[<-u.out];exact N.out) k.out.2.1;clear p g;go_wp2_with fail;refine E.mono ?_;rintro e w4 ⟨x,y,rfl,h4,D⟩;have V:Hid (dc w w4/\BI s c (x,y)):=⟨U.out.trans (D.mono U.out.size),h4⟩
    clear D h4 E;go_wp2_with fail
    go_ret2
    exact⟨_,_,rfl,V.out.2,V.out.1⟩
   .have S:¬(t:Int)=(n:Int)+1:=by omega
    have HF:Hid (BI s c (4,0)):=Y.out L k.out.2.1 (by rw[<-u.out];exact o);clear o;go_wp2_with fail
    go_ret2
    exact⟨_,_,rfl,HF.out,k.out.1⟩
def Qg(A B:Nat->Int)(k:Nat):Nat->Int:=λf=>if f<k then Tj A B f else 0
theorem Y7(A B:Nat->Int):rl (Qg A B 0)=List.replicate 32 0:=by
 unfold rl;rw[cW (g:=λ_=>(0:Int)) (λf _=>by unfold Qg;rw[a_ (by omega)])];rfl
theorem Y8(A B:Nat->Int)(k:Nat):Qg A B (k+1)=Bw (Qg A B k) k (Tj A B k):=by
 funext f
 show(if f<k+1 then Tj A B f else 0)=if f=k then Tj A B k else if f<k then Tj A B f else 0
 by_cases e:f=k
 .subst e;rw[bA (by omega),bA rfl]
 .rw[a_ e];by_cases c:f<k
  .rw[bA c,bA (by omega)]
  .rw[a_ c,a_ (by omega)]
theorem Y9(e:Bool)(M N:Nat->Int):GF true e M N=N:=bA rfl
theorem Y_(M N:Nat->Int):GF false true M N=M:=(a_ (by decide)).trans (bA rfl)
theorem ZA(M N:Nat->Int):GF false false M N=jF M N 64:=(a_ (by decide)).trans (a_ (by decide))
theorem Wa(R:Nat->Int)(k:Nat)(x y:Int):Bw (Bw R k x) k y=Bw R k y:=by
 funext f
 unfold Bw;by_cases e:f=k
 .rw[bA e,bA e]
 .rw[a_ e,a_ e,a_ e]
theorem Qd:(List.replicate 32 (Value.int .i64 0)).toArray=ic (List.replicate 32 0):=by
 unfold ic;rw[List.map_replicate]
theorem JN(ga gb:Nat)(A B:Nat->Int)(D:At w ga (ic (rl A)) tNk)(hb:At w gb (ic (rl B)) tNk):
  Calls prog 24 #[.slice (some ⟨ga,0,none⟩) 32 32,.slice (some ⟨gb,0,none⟩) 32 32] w λe w'=>e=.returned (.slice (some ⟨w.heap.size,0,none⟩) 32 32)/\At w' w.heap.size (ic (rl (Tj A B))) tNk/\dc w w':=by
 have S:∀(w:World)(a:Option Addr)(n c:Nat),(binOp .eql 32 (.slice a n c) (.slice none 0 0)).run prog w=.ok (.bool a.isNone) w:=λw a n c=>cz w 32 tN a n c 0 0 underlying32;have ah:∀w,(Instr.makeSlice 32 (.int .i64 32) (.int .i64 32)).run prog w=.ok (.slice (some ⟨w.heap.size,0,none⟩) 32 32) (w.alloc (.cells (List.replicate 32 (Value.int .i64 0)).toArray tNk)):=λ_=>by kernel_rfl
 obtain⟨cur,j⟩:∃cur,cur=(List.replicate 32 (Value.int .i64 0)).toArray:=⟨_,rfl⟩
 rw[<-j]at ah;have aa:Hid (dc w (w.alloc (.cells cur tNk))):=(bC _ _).alloc (bB _) _;have Z:Hid (At (w.alloc (.cells cur tNk)) w.heap.size (ic (rl (Qg A B 0))) tNk):=by
  show At _ _ _ _;rw[Y7,<-Qd,<-j];exact At.new _ _ _
 have C:Hid (At w ga (ic (rl A)) tNk/\At w gb (ic (rl B)) tNk):=⟨D,hb⟩
 have L:Hid (rl (Qg A B 32)=rl (Tj A B)):=by
  refine cW λf Y=>?_;have:f<32:=by simpa using Y
  unfold Qg;rw[bA this]
 clear D hb j;go_enter func24,ntmps24;go_wp2_with fail;go_loopw [6] (λi wr=>∃(f:Nat),f<=32/\i=.int .i64 f/\Hid (At wr w.heap.size (ic (rl (Qg A B f))) tNk/\dc w wr)) (λi _=>32-(intOf i).toNat);case atStart=>exact⟨0,by omega,rfl,Z.out,aa.out⟩
 case round=>
  obtain⟨f,Y,rfl,d⟩:=hrel;by_cases I:f<32
  .have al:(f:Int)<32:=by omega
   obtain⟨w4,rfl⟩:∃w4,w4=wr:=⟨_,rfl⟩
   have la:=C.out.1.lt;have lb:=C.out.2.lt;have ca:=DK (C.out.1.keep d.out.2 la) I;have cb:=DK (C.out.2.keep d.out.2 lb) I;have co:=DK d.out.1 I;have cf:=d.out.1.free;have hl:=d.out.1.lt;have na:ga≠w.heap.size:=by omega
   have nb:gb≠w.heap.size:=by omega
   have X:Hid (Qg A B (f+1)=Bw (Qg A B f) f (if A f<B f then B f else A f)):=Y8 A B f;generalize A f=x at *;generalize B f=y at *;by_cases W:x<y
   .have HE:Hid (Qg A B (f+1)=Bw (Bw (Qg A B f) f x) f y):=by show _=_;rw[X.out,bA W,Wa]
    clear X;go_wp2_with fail;go_quiet (fail);go_wp2_with fail;go_roundw;case rel=>
     refine⟨f+1,by omega,by go_num,?_,?_⟩
     .rw[HE.out,<-EE,<-Be,<-EE,<-Be];exact At.put (At.drewN (d.out.1.put f _) _) f _
     .exact(bD (d.out.2.setCell (bB _) _) _).setCell (bB _) _
    case measure=>simp[intOf];omega
   .have HE:Hid (Qg A B (f+1)=Bw (Qg A B f) f x):=by show _=_;rw[X.out,a_ W]
    clear X;go_wp2_with fail;go_quiet (fail);go_wp2_with fail;go_roundw;case rel=>
     refine⟨f+1,by omega,by go_num,?_,?_⟩
     .rw[HE.out,<-EE,<-Be];exact At.drewN (d.out.1.put f _) _
     .exact bD (d.out.2.setCell (bB _) _) _
    case measure=>simp[intOf];omega
  .have Q:f=32:=by omega
   subst Q;go_wp2_with fail;go_ret;exact⟨rfl,by rw[<-L.out];exact d.out.1,d.out.2⟩
theorem F1(a:Option Addr)(n c:Nat):Calls prog 24 #[.slice none 0 0,.slice a n c] w λe w'=>e=.returned (.slice a n c)/\w'=w:=by
 have S:∀(w:World)(a:Option Addr)(n c:Nat),(binOp .eql 32 (.slice a n c) (.slice none 0 0)).run prog w=.ok (.bool a.isNone) w:=λw a n c=>cz w 32 tN a n c 0 0 underlying32;go_enter func24,ntmps24;go_wp2_with fail;go_ret;exact⟨rfl,rfl⟩
theorem KT(a:Addr)(n c:Nat):Calls prog 24 #[.slice (some a) n c,.slice none 0 0] w λe w'=>e=.returned (.slice (some a) n c)/\w'=w:=by
 have S:∀(w:World)(a:Option Addr)(n c:Nat),(binOp .eql 32 (.slice a n c) (.slice none 0 0)).run prog w=.ok (.bool a.isNone) w:=λw a n c=>cz w 32 tN a n c 0 0 underlying32;go_enter func24,ntmps24;go_wp2_with fail;go_ret;exact⟨rfl,rfl⟩
theorem Qu{l:List Int}(h:B_ l):∀a,a<64->BT l a<=NB:=λa D=>cd (Cs _ a) (Jd h a D)
theorem YB{t G:World}{o p:List Int}(ho:B_ o)(hp:B_ p){y z:Value}(h1:BF w (ovE o) (BT o) (.returned y) t)(h2:BF t (ovE p) (BT p) (.returned z) G):
  Calls prog 24 #[y,z] G (BF w (Hn (ovE o) (ovE p)) (GF (ovE o) (ovE p) (BT o) (BT p))):=by
 obtain⟨O,h1⟩:=h1;obtain⟨H,h2⟩:=h2;have ai:=O.size;have b:dc w G:=O.trans (H.mono ai);rcases h1 with⟨e1,h1⟩|⟨e1,g,h1,hg,D⟩
 .cases h1
  rcases h2 with⟨e2,h2⟩|⟨e2,q,h2,hq,J⟩
  .cases h2
   refine(F1 none 0 0).mono ?_;rintro x K ⟨rfl,rfl⟩;exact⟨b,.inl ⟨by rw[e1,e2];rfl,rfl⟩⟩
  .cases h2
   refine(F1 (some ⟨q,0,none⟩) 32 32).mono ?_;rintro x K ⟨rfl,rfl⟩;refine⟨b,.inr ⟨by rw[e1,e2];rfl,q,rfl,by omega,?_⟩⟩;rw[e1,e2,Y9];exact J
 .cases h1
  rcases h2 with⟨e2,h2⟩|⟨e2,q,h2,hq,J⟩
  .cases h2
   refine(KT ⟨g,0,none⟩ 32 32).mono ?_;rintro x K ⟨rfl,rfl⟩;refine⟨b,.inr ⟨by rw[e1];rfl,g,rfl,hg,?_⟩⟩;rw[e1,e2,Y_];exact D.keep H D.lt
  .cases h2
   refine(JN g q (bd (BT o)) (bd (BT p)) (D.keep H D.lt) J).mono ?_;rintro x K ⟨rfl,ad,ae⟩;have T:=b.size;refine⟨b.trans (ae.mono T),.inr ⟨by rw[e1];rfl,_,rfl,T,?_⟩⟩;rw[e1,e2,ZA];have:rl (Tj (bd (BT o)) (bd (BT p)))=Bl (jF (BT o) (BT p) 64):=It λf Y=>(W2 (Qu ho) (Qu hp) Y).symm;rw[<-this];exact ad
def F6(w:World)(o p:List Int):Ending->World->Prop:=λx w'=>(B_ o/\B_ p/\Jr w (Hn (ovE o) (ovE p)) (GF (ovE o) (ovE p) (BT o) (BT p)) x w')\/(¬(B_ o/\B_ p)/\dc w w'/\x=.returned (.tuple #[.slice none 0 0,.int .i64 3]))
theorem YC(u v:Value)(o p:List Int)(ho:o.length<=1073741824)(hp:p.length<=1073741824)(U:AQ w u o)(V:AQ w v p):
  Calls prog 40 #[u,v] w (F6 w o p):=by
 have m:=GV u o ho U;have s:=GV v p hp V;by_cases F:B_ o
 .rw[CG.2 F]at m;by_cases k2:B_ p
  .rw[CG.2 k2]at s;have ag:=DC u o F U;have ab:Hid (∀t,dc w t->Calls prog 59 #[v] t (BF t (ovE p) (BT p))):=λt hb=>DC v p k2 (V.keep hb);have E:Hid (B_ o/\B_ p):=⟨F,k2⟩
   obtain⟨ao,ca,rfl, -, -⟩:=U;obtain⟨bo,cb,rfl, -, -⟩:=V;clear F k2;go_enter func40,ntmps40;go_wp2_with fail;refine m.mono ?_;rintro e t ⟨rfl,aj⟩;subst aj;go_wp2_with fail;refine s.mono ?_;rintro e G ⟨rfl,ak⟩;subst ak;go_wp2_with fail;refine ag.mono ?_;intro x K hx;obtain⟨y,rfl,a,n,c,rfl⟩:=hx.val;have HX:Hid (BF G (ovE o) (BT o) (.returned (.slice a n c)) K):=hx;have P:=ab.out K hx.1;clear hx;go_wp2_with fail;refine P.mono ?_;intro x w4 hz;obtain⟨z,rfl,a',n',c',rfl⟩:=hz.val;have af:=YB E.out.1 E.out.2 HX.out hz;clear hz P;go_wp2_with fail;refine af.mono ?_;intro x w5 hr;obtain⟨r,rfl,a2,n2,c2,rfl⟩:=hr.val;have ac:Hid (BF G _ _ (.returned (.slice a2 n2 c2)) w5):=hr;clear hr;go_wp2_with fail
   go_ret2
   exact .inl ⟨E.out.1,E.out.2,_,ac.out,rfl⟩
  .rw[GO k2]at s;have E:Hid (¬(B_ o/\B_ p)):=λh=>k2 h.2;obtain⟨ao,ca,rfl, -, -⟩:=U;obtain⟨bo,cb,rfl, -, -⟩:=V;clear F k2;go_enter func40,ntmps40;go_wp2_with fail;refine m.mono ?_;rintro e t ⟨rfl,rfl⟩;go_wp2_with fail;refine s.mono ?_;rintro e G ⟨rfl,rfl⟩;go_wp2_with fail
   go_ret2
   exact .inr ⟨E.out,bC _ _,rfl⟩
 .rw[GO F]at m;have E:Hid (¬(B_ o/\B_ p)):=λh=>F h.1;obtain⟨ao,ca,rfl, -, -⟩:=U;obtain⟨bo,cb,rfl, -, -⟩:=V;clear F;go_enter func40,ntmps40;go_wp2_with fail;refine m.mono ?_;rintro e t ⟨rfl,rfl⟩;go_wp2_with fail;refine s.mono ?_;rintro e G ⟨rfl,rfl⟩;go_wp2_with fail
  go_ret2
  exact .inr ⟨E.out,bC _ _,rfl⟩
abbrev LF:TypeId:=32
theorem YR:Gc≠LF:=by decide
def L8(w:World)(b:Nat)(K:Kl):Prop:=∃d:Array Value,At w b d LF/\∀i,i<K.length->∃u,d[i]?=some u/\KV w (K.getD i none) u
theorem L8.lt{b:Nat}{K:Kl}(h:L8 w b K):b<w.heap.size:=by obtain⟨d,h1,_⟩:=h;exact h1.lt
theorem L8.keep{w w':World}{b:Nat}{K:Kl}(h:L8 w b K)(hb:dc w w'):L8 w' b K:=by
 obtain⟨d,h1,h2⟩:=h;refine⟨d,h1.keep hb h1.lt,λi hi=>?_⟩;obtain⟨u,e,k⟩:=h2 i hi;exact⟨u,e,k.keep hb⟩
theorem L8.cell{b:Nat}{K:Kl}(h:L8 w b K){i:Nat}(hi:i<K.length):∃u,w.cell? ⟨b,i,none⟩=some u/\KV w (K.getD i none) u:=by
 obtain⟨d,h1,h2⟩:=h;obtain⟨u,e,k⟩:=h2 i hi;exact⟨u,by rw[h1.cell];exact e,k⟩
theorem KV.other{b q:Nat}{v:Value}{d:Array Value}(hb:At w b d LF){o:Option (Nat->Int)}{u:Value}(h:KV w o u):KV (w.setCell ⟨b,q,none⟩ v) o u:=by
 cases o with
 |none=>exact h
 |some M=>obtain⟨g,e,j⟩:=h;exact⟨g,e,j.other q v (j.ne hb YR)⟩
theorem L8.put{b q:Nat}{K:Kl}(h:L8 w b K)(r:q<K.length){o:Option (Nat->Int)}{v:Value}(l:KV w o v):L8 (w.setCell ⟨b,q,none⟩ v) b (K.set q o):=by
 obtain⟨d,h1,h2⟩:=h;refine⟨_,h1.put q v,λi hi=>?_⟩;rw[b8]at hi;rw[Jc,Array.getElem?_setIfInBounds];obtain⟨u,e,k⟩:=h2 i hi;by_cases c:q=i
 .subst c;have:q<d.size:=by
   rcases bW q d.size with z|z
   .exact z
   .rw[Array.getElem?_eq_none z]at e;cases e
  rw[bA rfl,bA this,bA ⟨rfl,r⟩];exact⟨v,rfl,l.other h1⟩
 .rw[a_ c,a_ (λz=>c z.1)];exact⟨u,e,k.other h1⟩
theorem T9{o:Option (Nat->Int)}{u v:Value}{e:Bool}{M:Nat->Int}(D:∀A,o=some A->∀a,a<64->A a<=NB)(y:e=false->∀a,a<64->M a<=NB)(t:KV w o u)(l:LV w e M v):
  Calls prog 24 #[u,v] w λx w'=>∃a n c,x=.returned (.slice a n c)/\KV w' (Yi o e M) (.slice a n c)/\dc w w':=by
 cases o with
 |none=>
  obtain rfl:u=.slice none 0 0:=t;rcases l with⟨rfl,rfl⟩|⟨rfl,g,rfl,j⟩
  .refine(F1 none 0 0).mono ?_;rintro x s ⟨rfl,rfl⟩;exact⟨_,_,_,rfl,rfl,bC _ _⟩
  .refine(F1 (some ⟨g,0,none⟩) 32 32).mono ?_;rintro x s ⟨rfl,rfl⟩;exact⟨_,_,_,rfl,⟨g,rfl,j⟩,bC _ _⟩
 |some A=>
  obtain⟨g,rfl,j⟩:=t;rcases l with⟨rfl,rfl⟩|⟨rfl,q,rfl,r⟩
  .refine(KT ⟨g,0,none⟩ 32 32).mono ?_;rintro x s ⟨rfl,rfl⟩;exact⟨_,_,_,rfl,⟨g,rfl,j⟩,bC _ _⟩
  .refine(JN g q (bd A) (bd M) j r).mono ?_;rintro x s ⟨rfl,m,p⟩;refine⟨_,_,_,rfl,⟨_,rfl,?_⟩,p⟩;have:rl (Tj (bd A) (bd M))=Bl (jF A M 64):=It λf B=>(W2 (D A rfl) (y rfl) B).symm;rw[<-this];exact m
theorem ZB{n b g:Nat}(hb:At w b (((List.replicate (n+1) (Value.slice none 0 0)).toArray).setIfInBounds 0 (.slice (some ⟨g,0,none⟩) 32 32)) LF)(C:At w g ((List.replicate 32 (Value.int .i64 0)).toArray) Gc):L8 w b (some (λ_=>0)::List.replicate n none):=by
 have hz:Bl (λ_=>0)=List.replicate 32 0:=by unfold Bl;rw[show bd (λ_=>0)=λ_=>0 from funext MC];rfl
 refine⟨_,hb,λi hi=>?_⟩;rw[db,List.length_replicate]at hi;rw[Array.getElem?_setIfInBounds];cases i with
 |zero=>
  rw[bA rfl,bA (by simp)];exact⟨_,rfl,g,rfl,by rw[hz,<-Qd];exact C⟩
 |succ i=>
  rw[a_ (by omega)];refine⟨.slice none 0 0,by simp[hi],?_⟩;rw[List.getD_cons_succ,bG,List.getElem?_replicate];split<;>rfl
def SR(w:World)(F:List Ds):Ending->World->Prop:=λe w'=>∃a b,e=.returned (.tuple #[.bool a,.bool b])/\(a=true->∃L,Bt F L)/\dc w w'
theorem Mm(s:ByteArray)(hm:s.size<=maxLen){m:Rd}(T:AV (AA s)=some m):Calls prog 7 #[.string s] w (SR w (AI s).2):=by
 have hs:=Ey s w hm;have a0:∀(w:World)(a:Option Addr)(n c:Nat),(binOp .neq 32 (.slice a n c) (.slice none 0 0)).run prog w=.ok (.bool (!a.isNone)) w:=λw a n c=>by
  simp only[binOp];simp[Op.equal,Op.maxDepth,Lib.run_equalIn_slice_nil w 9999 32 tN a n c 0 0 underlying32]
 have aK:∀w,(Instr.makeSlice 32 (.int .i64 32) (.int .i64 32)).run prog w=.ok (.slice (some ⟨w.heap.size,0,none⟩) 32 32) (w.alloc (.cells (List.replicate 32 (Value.int .i64 0)).toArray Gc)):=λ_=>by kernel_rfl
 have aO:(AA s).length<=160:=(Au T).1;have hl:=AR s;rw[(Au T).2.2.2]at hs;simp only[FK]at hs;have S:Bj (AI s).2 m.st:=by
  rcases BU s (by omega)with⟨_,hn⟩|⟨m',_,hp',S⟩
  .rw[T]at hn;cases hn
  .rw[T]at hp';cases hp';exact S
 have Z:(AI s).2.length<=20:=(A_ s 22 (-1) 0 0 ((0,false),[]) ⟨bY _,bY _⟩).ok.len;have V:(AI s).2.length=m.st.length:=S.1.len;have HR:Hid (∀l,Calls prog 20 #[.string s] l λe w'=>∃n:Nat,e=.returned (.tuple #[.pointer (some ⟨l.heap.size,0,none⟩),.int .i64 n,.bool true])/\dc l w'/\m.st.length<=20/\∃G E P Q O,AZ l.heap.size w' l.heap.size m G E P Q O):=λl=>Gx T l;generalize(AI s).2=F at *;have hD:∀k,k<F.length->DQ (F.getD k (AC 0 0)):=λk hk=>JI T S hk;have aq:∀w,(Instr.makeSlice 54 (.int .i64 ((F.length:Int)+1)) (.int .i64 ((F.length:Int)+1))).run prog w=.ok (.slice (some ⟨w.heap.size,0,none⟩) (F.length+1) (F.length+1)) (w.alloc (.cells (List.replicate (F.length+1) (Value.slice none 0 0)).toArray LF)):=by
  intro w;obtain⟨i0,hi,aT,aU,aw⟩:=c_ (P:=prog) (e:=LF) (z:=.slice none 0 0) (size:=1) (bytes:=24) (by kernel_rfl);have:=run_make (P:=prog) w 54 LF i0 (.slice none 0 0) underlying54 hi aT .i64 .i64 ((F.length:Int)+1) ((F.length:Int)+1) (by omega) (bN _) (by rw[aw];omega) (by omega);rw[this];have e1:((F.length:Int)+1).toNat=F.length+1:=by omega
  rw[e1,aU]
  congr 2
  congr 1
  apply Array.ext
  .simp[size_madeCells]
  .intro i h1 h2;simp[madeCells,Value.cells,Nat.mod_one]
 have ai:Hid (∀{B r:Nat}{l:World}{G E:Value}{P Q O:Nat->Nat},AZ B l r m G E P Q O->(∃sa sc,l.cell? ⟨r,1,none⟩=some (.slice sa F.length sc))/\∀k,k<F.length->Zp l r k (m.st.getD k AY) F.length):=λh=>by
  refine⟨?_,λk hk=>by rw[V];exact h.stw (by omega)⟩;obtain⟨sa,sc,aP⟩:=h.slen';obtain⟨_,r1,_⟩:=h.rdc;rw[aP,<-V]at r1;exact⟨sa,sc,r1⟩
 have aE:Hid (∀{B r:Nat}{l:World}{G E:Value}{P Q O:Nat->Nat},AZ B l r m G E P Q O->∀k:Nat,k<F.length->Calls prog 21 #[.pointer (some ⟨r,0,none⟩),.int .i64 (k:Int)] l λe w'=>e=.returned (.int .i64 (Ae (F.getD k (AC 0 0)).kind))/\w'=l):=λh k hk=>by
  have:=h.ways (k:Int);rw[a_ (by omega),bK,<-EG S hk]at this;exact this
 have ax:Hid (∀{B r:Nat}{l:World}{G E:Value}{P Q O:Nat->Nat},AZ B l r m G E P Q O->∀k:Nat,k<F.length->∀(o:Nat->Int) a nn c (p:Nat),Wv 8000 o->KV l (some o) (.slice a nn c)->Calls prog 22 #[.pointer (some ⟨r,0,none⟩),.int .i64 (k:Int),.int .i64 (p:Int),.slice a nn c] l λe w'=>∃a' n' c',e=.returned (.slice a' n' c')/\dc l w'/\LV w' (CA false o (F.getD k (AC 0 0)) p) (CE false o (F.getD k (AC 0 0)) p) (.slice a' n' c')):=λh k hk o a nn c p hv aM=>by
  obtain⟨g,e,ha⟩:=aM;cases e
  refine(Jm h k (by omega) (Gb T (by omega)) (EV T S hk).2 p _ false ⟨_,_,_,rfl⟩ (F2 hv.tc (hv.sm (by decide)) _ ha.reads) (λ_=>hv.tq (by decide))).mono ?_;rintro e w' ⟨ak,⟨h1,rfl⟩|⟨h1,g,rfl,hg,ha⟩⟩
  .exact⟨_,_,_,rfl,ak,.inl ⟨h1,rfl⟩⟩
  .exact⟨_,_,_,rfl,ak,.inr ⟨h1,g,rfl,ha⟩⟩
 have aC:Hid (∀{B r:Nat}{l:World}{G E:Value}{P Q O:Nat->Nat},AZ B l r m G E P Q O->∀(k p:Nat),k<F.length->(p:Int)<Ae (F.getD k (AC 0 0)).kind->∃C:Nat,C<F.length+1/\Calls prog 23 #[.pointer (some ⟨r,0,none⟩),.int .i64 (k:Int),.int .i64 (p:Int)] l λe w'=>e=.returned (.int .i64 (C:Int))/\dc l w'):=λ{B r l G E P Q O} h k p hk hw=>by
  have hz:=Du (F:=F) k p (Fv F k hk p hw);have e:=FX S Z k hk p;rw[a_ (by rw[<-EG S hk];omega)]at e;have c:Calls prog 23 #[.pointer (some ⟨r,0,none⟩),.int .i64 (k:Int),.int .i64 (p:Int)] l λe w'=>e=.returned (.int .i64 (Ap F k p).1)/\dc l w':=by
   rw[e];exact(h.next (by omega) k (by omega) p).mono λe w' ⟨h1,j,h2⟩=>⟨h1,by rw[h2];exact bD (bC _ _) j⟩
  refine⟨(Ap F k p).1.toNat,by omega,?_⟩;rw[Int.toNat_of_nonneg hz.1];exact c
 have az:Hid (∀{B r b:Nat}{l:World}{G E:Value}{P Q O:Nat->Nat}{K:Kl}{t:Nat},AZ B l r m G E P Q O->Od F t K->t<=40->L8 l b K->Calls prog 25 #[.pointer (some ⟨r,0,none⟩),.slice (some ⟨b,0,none⟩) (F.length+1) (F.length+1)] l λe w'=>∃a b,e=.returned (.tuple #[.int .i64 a,.int .i64 b])/\(a=0->∃L,Bt F L)/\dc l w'):=λ{B r b l G E P Q O K t} h hB ht hk=>by
  refine(OE h T S Z hk.lt (λi hi=>hk.cell (by rw[hB.len];exact hi)) (λi A hA=>(hB.wv hD ht i A hA).mono (by omega))).mono ?_;rintro e w' ⟨a,b,rfl,h1,h2⟩;exact⟨a,b,rfl,λz=>⟨_,hB.cert hD ht (h1 z)⟩,h2⟩
 have aD:Hid (∀k,1<=Ae (F.getD k (AC 0 0)).kind/\Ae (F.getD k (AC 0 0)).kind<=2):=λk=>D1 _;have aa:Hid (∀k,k<F.length->DQ (F.getD k (AC 0 0))):=hD;rw[<-V]at hs;clear hm T hl aO S hD V;obtain⟨M,ad⟩:∃M,M=(List.replicate 32 (Value.int .i64 0)).toArray:=⟨_,rfl⟩
 obtain⟨H,R⟩:∃H,H=(List.replicate (F.length+1) (Value.slice none 0 0)).toArray:=⟨_,rfl⟩
 rw[<-ad]at aK;rw[<-R]at aq;have ay:Hid (∀(w:World) b g,At w b (H.setIfInBounds 0 (.slice (some ⟨g,0,none⟩) 32 32)) LF->At w g M Gc->L8 w b (some (λ_=>0)::List.replicate F.length none)):=by rw[ad,R];exact λw b g h1 h2=>ZB h1 h2
 have aN:H[0]?=some (.slice none 0 0):=by rw[R];simp
 have aw:H.size=F.length+1:=by rw[R];simp
 clear ad R;go_enter func7,ntmps7;go_wp2_with fail;refine hs.mono ?_;rintro e l ⟨rfl,al⟩;have H1:Hid (dc w l):=al;clear al hs;go_wp2_with fail;refine(HR.out l).mono ?_;rintro e f ⟨n3,rfl,am,_,G,E,P,Q,O,v⟩;have Y:Hid (dc w f/\∀D,dc f D->AZ l.heap.size D l.heap.size m G E P Q O):=⟨H1.out.trans (am.mono H1.out.size),λD h=>v.keep h⟩
 obtain⟨⟨sa,sc,cl⟩, -⟩:=ai.out v;have a3:l.heap.size<f.heap.size:=v.rd.lt;generalize l.heap.size=r at *;clear am v H1 HR;generalize hnn:F.length=n at *;have H3:Hid (dc f ((f.alloc (.cells H LF)).alloc (.cells M Gc))/\At ((f.alloc (.cells H LF)).alloc (.cells M Gc)) f.heap.size H LF/\At ((f.alloc (.cells H LF)).alloc (.cells M Gc)) (f.alloc (.cells H LF)).heap.size M Gc):=by
  have a:=(bC f.heap.size f).alloc (bB _) (.cells H LF);exact⟨a.alloc (by simp) _,(At.new _ _ _).allocH _,At.new _ _ _⟩
 have c0:((f.alloc (.cells H LF)).alloc (.cells M Gc)).cell? ⟨f.heap.size,0,none⟩=some (.slice none 0 0):=by rw[H3.out.2.1.cell];exact aN
 have f0:=H3.out.2.1.free 0;have aY:(0:Int)<((n+1:Nat):Int):=by omega
 have aZ:(0:Int)<=(n:Int)+1:=by omega
 have aA:Hid (∀D,D=(f.alloc (.cells (H.setIfInBounds 0 (.slice (some ⟨f.heap.size+1,0,none⟩) 32 32)) LF)).alloc (.cells M Gc)->dc f D/\Od F 0 (some (λ_=>0)::List.replicate n none)/\L8 D f.heap.size (some (λ_=>0)::List.replicate n none)):=λD e=>by
  rw[e];obtain⟨l3,ap⟩:∃l3,l3=H.setIfInBounds 0 (.slice (some ⟨f.heap.size+1,0,none⟩) 32 32):=⟨_,rfl⟩
  have hz:(f.alloc (.cells l3 LF)).heap.size=f.heap.size+1:=by simp
  have a:=(bC f.heap.size f).alloc (bB _) (.cells l3 LF);have b1:At ((f.alloc (.cells l3 LF)).alloc (.cells M Gc)) f.heap.size l3 LF:=(At.new _ _ _).allocH _;have b2:At ((f.alloc (.cells l3 LF)).alloc (.cells M Gc)) (f.heap.size+1) M Gc:=by rw[<-hz];exact At.new _ _ _
  rw[<-ap];refine⟨a.alloc (by simp) _,by rw[<-hnn];exact .beg,?_⟩;rw[ap]at b1 b2|-;exact ay.out _ _ _ b1 b2
 go_wp2_with fail;go_loopw [11] (λpv wr=>∃(i t:Nat)(K:Kl),i<=n/\pv=.int .i64 (i:Int)/\Hid (dc f wr/\Od F t K/\t<=2*i/\L8 wr f.heap.size K)) (λpv _=>n-(intOf pv).toNat);case atStart=>
  have:=aA.out _ rfl;exact⟨0,0,_,by omega,rfl,this.1,this.2.1,by omega,this.2.2⟩
 case round=>
  obtain⟨i,t,K,hi,rfl,N⟩:=hrel;have v:=Y.out.2 wr N.out.1;obtain⟨⟨a7,a8,aG⟩,ae⟩:=ai.out v;by_cases aX:i<n
  .have aW:(i:Int)<(n:Int):=by omega
   obtain⟨g,cap,pp,q,x1,x2,x3, -, -, -, -,aL,aH,au⟩:=(ae i (by omega)).ex;have X:=aE.out v i (by omega);clear ae v aG;by_cases ag:(m.st.getD i AY).kind=64
   .rw[ag]at x3;clear X;go_wp2_with fail
    go_ret2
    exact⟨false,false,rfl,λz=>absurd z (by decide),Y.out.1.trans (N.out.1.mono Y.out.1.size)⟩
   .have aF:((m.st.getD i AY).kind==64)=false:=by simpa using ag
    have aQ:=aD.out i;obtain⟨kn,ac⟩:∃kn:Nat,Ae (F.getD i (AC 0 0)).kind=(kn:Int):=⟨(Ae (F.getD i (AC 0 0)).kind).toNat,by omega⟩
    have aB:Hid (∀D,dc f D->∀y:Nat,y<kn->∃C:Nat,C<n+1/\Calls prog 23 #[.pointer (some ⟨r,0,none⟩),.int .i64 (i:Int),.int .i64 (y:Int)] D λe w'=>e=.returned (.int .i64 (C:Int))/\dc D w'):=λD hb y hy=>by
     have:=aC.out (Y.out.2 D hb) i y (by omega) (by rw[ac];omega);exact this
    rw[ac]at X aQ;clear ac;generalize(m.st.getD i AY).kind=kd at *;go_wp2_with fail;refine X.mono ?_;rintro e D ⟨rfl,rfl⟩;clear X x1 x2 x3 ag aF aL aH au;go_wp2_with fail;go_loopw [13] (λyv wq=>∃(y t':Nat)(I:Kl),y<=kn/\yv=.int .i64 (y:Int)/\Hid (dc f wq/\Od F t' I/\t'<=2*i+y/\L8 wq f.heap.size I)) (λyv _=>kn-(intOf yv).toNat);case atStart=>exact⟨0,t,K,by omega,rfl,N.out.1,N.out.2.1,by have:=N.out.2.2.1;omega,N.out.2.2.2⟩
    case round=>
     obtain⟨y,t',I,hy,rfl,x⟩:=hrel;by_cases aS:y<kn
     .have a4:(y:Int)<(kn:Int):=by omega
      have aV:(i:Int)<((n+1:Nat):Int):=by omega
      obtain⟨u,cu,ku⟩:=x.out.2.2.2.cell (i:=i) (by rw[x.out.2.1.len];omega);cases hr:I.getD i none with
      |none=>
       rw[hr]at ku;obtain rfl:u=.slice none 0 0:=ku;clear hr;go_wp2_with fail;go_roundw;case rel=>exact⟨i+1,t',I,by omega,by go_num,x.out.1,x.out.2.1,by have:=x.out.2.2.1;omega,x.out.2.2.2⟩
       case measure=>simp[intOf];omega
      |some o=>
       rw[hr]at ku;obtain⟨gu,rfl,aI⟩:=id ku;have af:=(x.out.2.1.wv (F:=F) (λk hk=>aa.out k (by omega)) (by have:=x.out.2.2.1;omega) i o hr).mono (d:=8000) (by have:=x.out.2.2.1;omega);have aj:=ax.out (Y.out.2 _ x.out.1) i (by omega) o _ _ _ y af ku;have ah:Hid (I.getD i none=some o/\Wv 8000 o):=⟨hr,af⟩
       clear ku aI hr af;go_wp2_with fail;refine aj.mono ?_;rintro e w4 ⟨ua,un,uc,rfl,J,av⟩;have U:Hid (dc f w4/\L8 w4 f.heap.size I/\LV w4 (CA false o (F.getD i (AC 0 0)) y) (CE false o (F.getD i (AC 0 0)) y) (.slice ua un uc)):=⟨x.out.1.trans (J.mono x.out.1.size),x.out.2.2.2.keep J,av⟩
       clear J av aj cu;obtain⟨C,a2,ar⟩:=aB.out w4 U.out.1 y aS;go_wp2_with fail;refine ar.mono ?_;rintro e w5 ⟨rfl,W⟩;have H5:Hid (dc f w5/\L8 w5 f.heap.size I/\LV w5 (CA false o (F.getD i (AC 0 0)) y) (CE false o (F.getD i (AC 0 0)) y) (.slice ua un uc)):=⟨U.out.1.trans (W.mono U.out.1.size),U.out.2.1.keep W,U.out.2.2.keep W⟩
       clear W ar U;have a1:(C:Int)<((n+1:Nat):Int):=by omega
       obtain⟨v5,c5,k5⟩:=H5.out.2.1.cell (i:=C) (by rw[x.out.2.1.len];omega);have an:=T9 (λA hA=>(x.out.2.1.wv (F:=F) (λk hk=>aa.out k (by omega)) (by have:=x.out.2.2.1;omega) C A hA).tc.hi) (λhe=>(M8 ah.out.2 (by decide) (by decide) (aa.out i (by omega)) y he).tc.hi) k5 H5.out.2.2;obtain⟨a5,n5,d5,rfl⟩:=k5.isSlice;clear k5;go_wp2_with fail;refine an.mono ?_;rintro e w6 ⟨a6,n6,d6,rfl,k6,ab⟩;have H6:Hid (dc f w6/\L8 w6 f.heap.size I/\KV w6 (Yi (I.getD C none) (CA false o (F.getD i (AC 0 0)) y) (CE false o (F.getD i (AC 0 0)) y)) (.slice a6 n6 d6)):=⟨H5.out.1.trans (ab.mono H5.out.1.size),H5.out.2.1.keep ab,k6⟩
       clear ab k6 an c5 H5;obtain⟨v6,c6, -⟩:=H6.out.2.1.cell (i:=C) (by rw[x.out.2.1.len];omega);have f6:w6.frozen? ⟨f.heap.size,C,none⟩=false:=by obtain⟨cs,h1, -⟩:=H6.out.2.1;exact h1.free C
       go_wp2_with fail;go_roundw;case rel=>
        refine⟨y+1,t'+1,I.set C (Yi (I.getD C none) (CA false o (F.getD i (AC 0 0)) y) (CE false o (F.getD i (AC 0 0)) y)),by omega,by go_num,H6.out.1.setCell (bB _) _,.stp C y x.out.2.1 (by omega) ah.out.1,by have:=x.out.2.2.1;omega,H6.out.2.1.put (by rw[x.out.2.1.len];omega) H6.out.2.2⟩
       case measure=>simp[intOf];omega
     .have aR:y=kn:=by omega
      subst aR;go_wp2_with fail;go_roundw;case rel=>exact⟨i+1,t',I,by omega,by go_num,x.out.1,x.out.2.1,by have:=x.out.2.2.1;omega,x.out.2.2.2⟩
      case measure=>simp[intOf];omega
  .have aJ:i=n:=by omega
   subst aJ;have ao:=az.out v N.out.2.1 (by have:=N.out.2.2.1;omega) N.out.2.2.2;clear ae v;go_wp2_with fail;refine ao.mono ?_;rintro e w4 ⟨a,b,rfl,h4,J⟩;have U:Hid (dc w w4/\(a=0->∃L,Bt F L)):=⟨(Y.out.1.trans (N.out.1.mono Y.out.1.size)).trans (J.mono (cN Y.out.1.size N.out.1.size)),h4⟩
   clear J h4 ao;go_wp2_with fail
   go_ret2
   exact⟨_,_,rfl,λz=>U.out.2 (by simpa using z),U.out.1⟩
theorem O2(Q:Cr w)(s:ByteArray)(z:s.size<=maxLen):
  Calls prog 3 #[.string s] w λe w'=>e=.returned (.bool true)/\dc w w':=by
 have h1:=L3 Q s z;have G:Hid (∀c,Calls prog 6 #[.string s] c λe w'=>e=FK (Bv (AA s))/\dc c w'):=λc=>Ey s c z;cases n:AV (AA s)with
 |none=>
  have h2:=EQ n;generalize Bv (AA s)=x at *;obtain⟨a,b,d⟩:=x;have h3:b=1:=h2;subst h3;clear z h2
  have l:Calls prog 5 #[.string s] w λe w'=>e=.returned (.tuple #[.string ⟨#[]⟩,.int .i64 1])/\dc w w':=h1.mono (by
   rintro e w' ⟨hb,⟨-,rfl⟩|⟨h, -⟩⟩
   .exact⟨rfl,hb⟩
   .exact absurd n h)
  clear n h1;go_enter func3,ntmps3;go_wp2_with fail;refine l.mono ?_;rintro e c ⟨rfl,j⟩;have f:Hid (dc w c):=j;have h2:=G.out c;simp only[FK]at h2;clear j l;go_wp2_with fail;refine h2.mono ?_;rintro e v ⟨rfl,g⟩;have i:Hid (dc w v):=f.out.trans (g.mono f.out.size);clear g h2;go_wp2_with fail;go_ret;exact⟨rfl,i.out⟩
 |some m=>
  have u:AV (AA s)≠none:=by rw[n];exact λh=>by cases h
  have B:=(Au n).1;have N:=AR s;have t:(AI s).2.length<=20:=(A_ s 22 (-1) 0 0 ((0,false),[]) ⟨bY _,bY _⟩).ok.len;have H:Bj (AI s).2 m.st:=by
   rcases BU s (by omega)with⟨_,hn⟩|⟨m',_,hp',H⟩
   .rw[n]at hn;cases hn
   .rw[n]at hp';cases hp';exact H
  have M:Hid (∀L r,Bt (AI s).2 L->Ad (AI s).2 (AA (D3 (AI s).2)) r->r=(0,0)):=λL r h hr=>S2 h (λk hk=>JI n H hk) t r hr;have A:Hid (∀c,Calls prog 7 #[.string s] c (SR c (AI s).2)):=λc=>Mm s z n
  have K:Hid (∀c,Calls prog 8 #[.string s,.string (D3 (AI s).2)] c λe w'=>∃a b,e=.returned (.tuple #[.int .i64 a,.int .i64 b])/\Ad (AI s).2 (AA (D3 (AI s).2)) (a,b)/\dc c w'):=λc=>(Lt s _ z (Xb u)).mono (by
   rintro e w' ⟨a,b,rfl,h,hb⟩;refine⟨a,b,rfl,?_,hb⟩;unfold BI at h;rw[n]at h
   exact h)
  rw[(Au n).2.2.2]at G
  have l:Calls prog 5 #[.string s] w λe w'=>dc w w'/\∃a b,Ad (AI s).2 (AA (D3 (AI s).2)) (a,b)/\((a=0/\e=.returned (.tuple #[.string (D3 (AI s).2),.int .i64 0]))\/(a≠0/\e=.returned (.tuple #[.string ⟨#[]⟩,.int .i64 8]))):=h1.mono (by
   rintro e w' ⟨hb,⟨h, -⟩|⟨-,h⟩⟩
   .exact absurd h u
   .exact⟨hb,h⟩)
  clear h1 n u B N t H z;generalize D3 (AI s).2=ct at *;generalize(AI s).2=F at *;go_enter func3,ntmps3;go_wp2_with fail;refine l.mono ?_;rintro e c ⟨j,a,b,q,⟨rfl,rfl⟩|⟨P,rfl⟩⟩
  .have f:Hid (dc w c/\Ad F (AA ct) (0,b)):=⟨j,q⟩
   have h2:=G.out c;simp only[FK]at h2;clear j q l;go_wp2_with fail;refine h2.mono ?_;rintro e v ⟨rfl,g⟩;have i:Hid (dc w v):=f.out.1.trans (g.mono f.out.1.size);clear g h2;go_wp2_with fail;refine(A.out v).mono ?_;rintro e I ⟨x,y,rfl, -,p⟩;have o:Hid (dc w I):=i.out.trans (p.mono i.out.size);clear p;go_wp2_with fail;refine(K.out I).mono ?_;rintro e S ⟨a4,b4,rfl,E,C⟩;have D:=f.out.2.one E;cases D
   have J:Hid (dc w S):=o.out.trans (C.mono o.out.size);clear C E;go_wp2_with fail;go_ret;exact⟨rfl,J.out⟩
  .have f:Hid (dc w c/\∀L,¬Bt F L):=⟨j,λL h=>P (congrArg Prod.fst (M.out L _ h q))⟩
   have h2:=G.out c;simp only[FK]at h2;clear j q l P;go_wp2_with fail;refine h2.mono ?_;rintro e v ⟨rfl,g⟩;have i:Hid (dc w v):=f.out.1.trans (g.mono f.out.1.size);clear g h2;go_wp2_with fail;refine(A.out v).mono ?_;rintro e I ⟨x,y,rfl,hx,p⟩;have o:Hid (dc w I):=i.out.trans (p.mono i.out.size);have O:x=false:=by
    cases x with
    |false=>rfl
    |true=>obtain⟨L,R⟩:=hx rfl;exact absurd R (f.out.2 L)
   subst O;clear p hx;cases y with
   |false=>
    go_wp2_with fail;go_ret;exact⟨rfl,o.out⟩
   |true=>
    go_wp2_with fail;go_ret;exact⟨rfl,o.out⟩
theorem NY(n:Cr w)(s c:ByteArray)(m:s.size<=maxLen)(hc:c.size<=maxLen):
  Calls prog 17 #[.string s,.string c] w λe w'=>e=.returned (.bool true)/\dc w w':=by
 have h1:=RD n s c m hc;have o:Hid (∀f,Calls prog 8 #[.string s,.string c] f (L4 f s c)):=λf=>Lt s c m hc;clear m hc n;go_enter func17,ntmps17;go_wp2_with fail;refine h1.mono ?_;rintro e f ⟨a,b,rfl,j,g⟩;have d:Hid (dc w f/\BI s c (a,b)):=⟨g,j⟩
 clear g j h1;go_wp2_with fail;refine(o.out f).mono ?_;rintro e p ⟨a',b',rfl,k,h⟩;have i:=d.out.2.one k;cases i
 have l:Hid (dc w p):=d.out.1.trans (h.mono d.out.1.size);clear h k d;go_wp2_with fail;go_ret;exact⟨rfl,l.out⟩
theorem PI(s:ByteArray)(p c:Int)(w:World)(g:s.size<=maxLen):
  Calls prog 10 #[.string s,.int .i64 p,.int .i64 c] w λe w'=>e=.returned (.bool true)/\dc w w':=by
 have h1:=Vh s p c w g;have h2:=λw=>UH s p c w g;obtain⟨⟨a,b⟩,hx⟩:∃x,x=Co (AA s) p c:=⟨_,rfl⟩
 rw[<-hx]at h1 h2;simp only[two]at h1 h2;clear hx g;go_enter func10,ntmps10;go_wp2_with fail;refine h1.mono ?_;rintro e w1 ⟨rfl,d⟩;go_wp2_with fail;refine(h2 _).mono ?_;rintro e w2 ⟨rfl,f⟩;go_wp2;go_ret;exact⟨rfl,d.trans (f.mono d.size)⟩
variable {B B2:Nat}{w':World}{r:Nat}{m:Rd}{vs vo:Value}{P Q O:Nat->Nat}
def SG(B2:Nat)(w:World)(r:Nat)(m:Rd):Prop:=∃B F vs vo P Q O,AZ B F r m vs vo P Q O/\F.heap.size<=B2/\dc F w
theorem SG.keep(h:SG B2 w r m)(hb:Below B2 w w'):SG B2 w' r m:=by
 obtain⟨B,F,vs,vo,P,Q,O,h1,h2,h3⟩:=h;exact⟨B,F,vs,vo,P,Q,O,h1,h2,h3.trans (hb.mono h2)⟩
theorem SG.rep(h:SG B2 w r m):∃B vs vo P Q O,AZ B w r m vs vo P Q O/\r<B2:=by
 obtain⟨B,F,vs,vo,P,Q,O,h1,h2,h3⟩:=h;exact⟨B,vs,vo,P,Q,O,h1.keep h3,bM h1.rd.lt h2⟩
structure Wk where
 st:Int
 pt:Int
 v:List Int
 inp:List Int
abbrev tW:TypeId:=108
def Pz(q:Nat)(iv:Value)(k:Wk):Array Value:=#[.int .i64 k.st,.int .i64 k.pt,.slice (some ⟨q,0,none⟩) 4 4,iv]
structure Ax(B2:Nat)(w:World)(r b q:Nat)(m:Rd)(iv:Value)(k:Wk):Prop where
 rd:SG B2 w r m
 at_:At w b (Pz q iv k) tW
 vt:At w q (ic k.v) tN
 inp:Ir w B2 iv k.inp
 len:k.v.length=4
 v:∀i, -999<=AB k.v i/\AB k.v i<=999
 gb:B2<=b
 gq:B2<=q
theorem Ax.cells{b q:Nat}{iv:Value}{k:Wk}(h:Ax B2 w r b q m iv k):w.cell? ⟨b,0,none⟩=some (.int .i64 k.st)/\w.cell? ⟨b,1,none⟩=some (.int .i64 k.pt)/\w.cell? ⟨b,2,none⟩=some (.slice (some ⟨q,0,none⟩) 4 4)/\w.cell? ⟨b,3,none⟩=some iv/\∀i,w.frozen? ⟨b,i,none⟩=false:=
 ⟨h.at_.cell 0,h.at_.cell 1,h.at_.cell 2,h.at_.cell 3,h.at_.free⟩
theorem W9(a l:List Int)(p q:Nat)(hx:∀i, -1<=AB a i/\AB a i<=1)(d:∀i, -999<=AB l i/\AB l i<=999)(w:World)(K:At w p (ic a) tN)(V:At w q (ic l) tN)(W:a.length=4)(X:l.length=4):
  Calls prog 106 #[.slice (some ⟨p,0,none⟩) 4 4,.slice (some ⟨q,0,none⟩) 4 4] w λe w'=>e=.returned (.int .i64 (Af a l 4))/\∃n,w'=w.drewN n:=by
 have H:Hid (∀i,i<4->w.cell? ⟨p,i,none⟩=some (.int .i64 (AB a i))):=λi hi=>by rw[K.cell,Aa _ _ (by omega)];rfl
 have I:Hid (∀i,i<4->w.cell? ⟨q,i,none⟩=some (.int .i64 (AB l i))):=λi hi=>by rw[V.cell,Aa _ _ (by omega)];rfl
 clear K V W X;go_enter func106,ntmps106;go_wp2_with fail;go_loopw [5,6] (λG i wr=>∃(j k:Nat),j<=4/\i=.int .i64 j/\G=.int .i64 (Af a l j)/\wr=w.drewN k) (λ_ i _=>4-(intOf i).toNat);case atStart=>exact⟨0,0,by omega,rfl,rfl,rfl⟩
 case round=>
  obtain⟨j,k,hj,rfl,rfl,E⟩:=hrel;have t:Hid (∃k,wr=w.drewN k):=⟨k,E⟩
  have y:∀a,wr.cell? a=w.cell? a:=λa=>by rw[E];rfl
  have a0:=(y _).trans (H.out 0 (by omega));have a1:=(y _).trans (H.out 1 (by omega));have U:=(y _).trans (H.out 2 (by omega));have a3:=(y _).trans (H.out 3 (by omega));have b0:=(y _).trans (I.out 0 (by omega));have b1:=(y _).trans (I.out 1 (by omega));have b2:=(y _).trans (I.out 2 (by omega));have b3:=(y _).trans (I.out 3 (by omega));clear E y;rcases(show j=0\/j=1\/j=2\/j=3\/j=4 by omega)with rfl|rfl|rfl|rfl|rfl
  .have M:=Fu (AB a 0) (AB l 0) (hx 0).1 (hx 0).2 (d 0).1 (d 0).2;have hs:=Ct hx d 0;have D:wrap64 (AB a 0*AB l 0)=AB a 0*AB l 0:=by unfold wrap64;omega
   have z:Hid (Af a l (0+1)=Af a l 0+AB a 0*AB l 0):=rfl;have C: -4000<=Af a l 0:=by omega
   have A:Af a l 0<=4000:=by omega
   clear hs;generalize Af a l 0=G at *;go_wp2_with fail;go_quiet (fail);go_wp2_with fail;go_roundw;case rel=>obtain⟨k',e⟩:=t.out;exact⟨0+1,_,by omega,rfl,by rw[z.out],by rw[e];exact Cu _ _ _⟩
   case measure=>simp[intOf]
  .have M:=Fu (AB a 1) (AB l 1) (hx 1).1 (hx 1).2 (d 1).1 (d 1).2;have hs:=Ct hx d 1;have D:wrap64 (AB a 1*AB l 1)=AB a 1*AB l 1:=by unfold wrap64;omega
   have z:Hid (Af a l (1+1)=Af a l 1+AB a 1*AB l 1):=rfl;have C: -4000<=Af a l 1:=by omega
   have A:Af a l 1<=4000:=by omega
   clear hs;generalize Af a l 1=G at *;go_wp2_with fail;go_quiet (fail);go_wp2_with fail;go_roundw;case rel=>obtain⟨k',e⟩:=t.out;exact⟨1+1,_,by omega,rfl,by rw[z.out],by rw[e];exact Cu _ _ _⟩
   case measure=>simp[intOf]
  .have M:=Fu (AB a 2) (AB l 2) (hx 2).1 (hx 2).2 (d 2).1 (d 2).2;have hs:=Ct hx d 2;have D:wrap64 (AB a 2*AB l 2)=AB a 2*AB l 2:=by unfold wrap64;omega
   have z:Hid (Af a l (2+1)=Af a l 2+AB a 2*AB l 2):=rfl;have C: -4000<=Af a l 2:=by omega
   have A:Af a l 2<=4000:=by omega
   clear hs;generalize Af a l 2=G at *;go_wp2_with fail;go_quiet (fail);go_wp2_with fail;go_roundw;case rel=>obtain⟨k',e⟩:=t.out;exact⟨2+1,_,by omega,rfl,by rw[z.out],by rw[e];exact Cu _ _ _⟩
   case measure=>simp[intOf]
  .have M:=Fu (AB a 3) (AB l 3) (hx 3).1 (hx 3).2 (d 3).1 (d 3).2;have hs:=Ct hx d 3;have D:wrap64 (AB a 3*AB l 3)=AB a 3*AB l 3:=by unfold wrap64;omega
   have z:Hid (Af a l (3+1)=Af a l 3+AB a 3*AB l 3):=rfl;have C: -4000<=Af a l 3:=by omega
   have A:Af a l 3<=4000:=by omega
   clear hs;generalize Af a l 3=G at *;go_wp2_with fail;go_quiet (fail);go_wp2_with fail;go_roundw;case rel=>obtain⟨k',e⟩:=t.out;exact⟨3+1,_,by omega,rfl,by rw[z.out],by rw[e];exact Cu _ _ _⟩
   case measure=>simp[intOf]
  .go_wp2_with fail;go_ret;exact⟨rfl,t.out⟩
theorem Ax.below{b q:Nat}{iv:Value}{k:Wk}(h:Ax B2 w r b q m iv k)(o:Nat)(u:Value):Below B2 w (w.setCell ⟨b,o,none⟩ u):=(bC B2 w).setCell h.gb _
theorem Ax.set{b q:Nat}{iv s:Value}{k k':Wk}(h:Ax B2 w r b q m iv k)(o:Nat)(u:Value)(hc:(Pz q iv k).setIfInBounds o u=Pz q s k')(d:k'.v=k.v)(hi:Ir w B2 s k'.inp):Ax B2 (w.setCell ⟨b,o,none⟩ u) r b q m s k' where
 rd:=h.rd.keep (h.below o u)
 at_:=by rw[<-hc];exact h.at_.put o u
 vt:=by rw[d];exact h.vt.other o u (h.vt.ne h.at_ (by decide))
 inp:=hi.keep (h.below o u)
 len:=by rw[d];exact h.len
 v:=by rw[d];exact h.v
 gb:=h.gb
 gq:=h.gq
theorem Ax.drewN{b q:Nat}{iv:Value}{k:Wk}(h:Ax B2 w r b q m iv k)(n:Nat):Ax B2 (w.drewN n) r b q m iv k:=
 ⟨h.rd.keep (bD (bC _ _) n),h.at_,h.vt,h.inp.keep (bD (bC _ _) n),h.len,h.v,h.gb,h.gq⟩
def LJ(B2:Nat)(w:World)(r b q:Nat)(m:Rd)(k:Wk)(w':World):Prop:=∃s,Ax B2 w' r b q m s k/\Below B2 w w'
theorem Ir.tail{B:Nat}{R:Option Addr}{cap:Nat}{x:Int}{L:List Int}(h:Ir w B (.slice R (L.length+1) cap) (x::L)):∃b off,R=some ⟨b,off,none⟩/\b<B/\L.length+1<=cap/\w.cell? ⟨b,off,none⟩=some (.int .i64 x)/\
  ∀f c,(L.length≠0->f=some ⟨b,off+1,none⟩)->L.length<=c->Ir w B (.slice f L.length c) L:=by
 obtain⟨f,c,d,hc,J⟩:=h;cases d
 obtain⟨b,off,K,hb,g⟩:=J (by simp);refine⟨b,off,K,hb,by simpa using hc,by simpa[List.getD]using g 0 (by simp),λU c2 h2 S=>⟨U,c2,rfl,S,λhn=>⟨b,off+1,h2 hn,hb,λi hi=>?_⟩⟩⟩;have:=g (i+1) (by simp;omega);rw[show off+1+i=off+(i+1) by omega,this];simp[List.getD]
theorem UF{b q:Nat}{iv:Value}{k:Wk}(h:Ax B2 w r b q m iv k)(z:k.inp.length<=1073741824):
  Calls prog 107 #[.pointer (some ⟨b,0,none⟩)] w λe w'=>e=.returned (.int .i64 (k.inp.headD 0))/\LJ B2 w r b q m ⟨k.st,k.pt,k.v,k.inp.tail⟩ w':=by
 obtain⟨c0,c1,c2,c3,cf⟩:=h.cells;have ac:=h.at_.lt;have t:Hid (Ax B2 w r b q m iv k):=h;obtain⟨R,cap,rfl,aa,J⟩:=h.inp;obtain⟨st,pt,v,inp⟩:=k;cases inp with
 |nil=>
  simp at c3;clear h J;go_enter func107,ntmps107;go_wp2_with fail;go_ret;exact⟨rfl,_,t.out,bC _ _⟩
 |cons x L=>
  simp only[db]at *;obtain⟨p,off,rfl,M,hc,hx,T⟩:=Ir.tail h.inp;have N:Hid (∀f c,(L.length≠0->f=some ⟨p,off+1,none⟩)->L.length<=c->Ir w B2 (.slice f L.length c) L):=T;have ab:(((L.length:Nat):Int)+1==0)=false:=by rw[b9];omega
  clear h J T;go_enter func107,ntmps107;go_wp2_with fail;all_goals
   go_ret;refine⟨rfl,_,t.out.set (k':=⟨st,pt,v,L⟩) 3 _ rfl rfl (N.out _ _ ?_ ?_),t.out.below 3 _⟩
   .intro hn;first|rfl|(exfalso;omega)
   .omega
structure XG(w:World)(B2 r p len:Nat)(u:St)(g cap X Y:Nat):Prop where
 r1:w.cell? ⟨r,1,none⟩=some (.slice (some ⟨g,0,none⟩) len cap)
 gp:w.cell? ⟨g,p,none⟩=some (.pointer (some ⟨X,0,none⟩))
 c0:w.cell? ⟨X,0,none⟩=some (.int .u8 u.kind)
 c1:w.cell? ⟨X,1,none⟩=some (.int .i64 u.var)
 c2:w.cell? ⟨X,2,none⟩=some (.bool u.star)
 c3:w.cell? ⟨X,3,none⟩=some (.slice (some ⟨Y,0,none⟩) 4 4)
 c4:w.cell? ⟨X,4,none⟩=some (.int .i64 u.num)
 sg:At w Y (ic u.sg) tN
 lr:r<B2
 lg:g<B2
 lX:X<B2
 lY:Y<B2
theorem XG.keep{p len:Nat}{u:St}{g cap X Y:Nat}(h:XG w B2 r p len u g cap X Y)(hb:Below B2 w w'):XG w' B2 r p len u g cap X Y where
 r1:=(hb.cell (by exact h.lr)).trans h.r1
 gp:=(hb.cell (by exact h.lg)).trans h.gp
 c0:=(hb.cell (by exact h.lX)).trans h.c0
 c1:=(hb.cell (by exact h.lX)).trans h.c1
 c2:=(hb.cell (by exact h.lX)).trans h.c2
 c3:=(hb.cell (by exact h.lX)).trans h.c3
 c4:=(hb.cell (by exact h.lX)).trans h.c4
 sg:=h.sg.keep hb h.lY
 lr:=h.lr
 lg:=h.lg
 lX:=h.lX
 lY:=h.lY
theorem SG.stmt(h:SG B2 w r m)(p:Nat)(d:p<m.st.length):∃g cap X Y,XG w B2 r p m.st.length (m.st.getD p AY) g cap X Y:=by
 obtain⟨B,z,E,D,P,Q,O,h1,h2,h3⟩:=h;obtain⟨g,cap,n,f,_⟩:=h1.row (by omega);obtain⟨r0,r1, -⟩:=h1.rdc;rw[n]at r1;obtain⟨c0,c1,c2,c3,c4, -⟩:=h1.stc p _ (AZ.gets d);obtain⟨a,b⟩:=h1.st p _ (AZ.gets d);have hs:=h1.rs;rw[n]at hs;have C:=(hs.lt g rfl).2;have hr:=h1.rd.lt;have A:=a.lt;have hb:=b.lt;exact⟨g,cap,P p,Q p,(⟨r1,f p d,c0,c1,c2,c3,c4,b,hr,C,A,hb⟩:XG z z.heap.size r p m.st.length (m.st.getD p AY) g cap (P p) (Q p)).keep h3|>λs=>⟨s.r1,s.gp,s.c0,s.c1,s.c2,s.c3,s.c4,s.sg,by omega,by omega,by omega,by omega⟩⟩
def Ke(S:List St)(p:Nat)(u:St)(k:Wk):Wk:=
 if u.kind=61 then
  if u.star=true then⟨k.st,BZ S p 0,k.v.set u.var.toNat (CN (k.inp.headD 0)),k.inp.tail⟩
  else if 999<Af u.sg k.v 4+u.num\/Af u.sg k.v 4+u.num< -999 then⟨2,k.pt,k.v,k.inp⟩
  else⟨k.st,BZ S p 0,k.v.set u.var.toNat (Af u.sg k.v 4+u.num),k.inp⟩
 else if u.star=true then
  if k.inp.headD 0≠0 then⟨k.st,BZ S p 0,k.v,k.inp.tail⟩
  else if u.kind=33 then⟨3,k.pt,k.v,k.inp.tail⟩else⟨k.st,BZ S p 1,k.v,k.inp.tail⟩
 else
  if Af u.sg k.v 4<=u.num then⟨k.st,BZ S p 0,k.v,k.inp⟩
  else if u.kind=33 then⟨3,k.pt,k.v,k.inp⟩else⟨k.st,BZ S p 1,k.v,k.inp⟩
def CZ(S:List St)(k:Wk):Wk:=Ke S k.pt.toNat (S.getD k.pt.toNat AY) k
theorem Ax.setV{b q:Nat}{iv:Value}{k:Wk}(h:Ax B2 w r b q m iv k)(t:Nat)(ht:t<4)(y:Int)(h0: -999<=y)(h1:y<=999):Ax B2 (w.setCell ⟨q,t,none⟩ (.int .i64 y)) r b q m iv ⟨k.st,k.pt,k.v.set t y,k.inp⟩:=
 have hb:Below B2 w (w.setCell ⟨q,t,none⟩ (.int .i64 y)):=(bC B2 w).setCell h.gq _;have o:=h.len
 {rd:=h.rd.keep hb
  at_:=h.at_.other t _ (h.at_.ne h.vt (by decide))
  vt:=by rw[<-Be];exact h.vt.put t _
  inp:=h.inp.keep hb
  len:=by simpa using o
  v:=λi=>by
   show -999<=AB (k.v.set t y) i/\AB (k.v.set t y) i<=999;rw[GY _ _ _ _ (by omega)];split
   .omega
   .exact h.v i
  gb:=h.gb
  gq:=h.gq}
theorem Gy(l:List Int)(i:Nat)(h:∀x,x∈l-> -1<=x/\x<=1): -1<=AB l i/\AB l i<=1:=by
 unfold AB;rw[bG];cases e:l[i]? with
 |none=>simp
 |some x=>exact h x (bR e)
structure Zo(S:List St):Prop where
 len:S.length<=20
 sgl:∀s,s∈S->s.sg.length=4
 num:∀s,s∈S-> -99<=s.num/\s.num<=99
 gd:∀s,s∈S->Gd s
theorem Qq{b q:Nat}{iv:Value}{k:Wk}(h:Ax B2 w r b q m iv k)(o:m.st.length<=20)(p:Nat)(d:p<m.st.length)(c:Int):
  Calls prog 23 #[.pointer (some ⟨r,0,none⟩),.int .i64 (p:Int),.int .i64 c] w λe w'=>e=.returned (.int .i64 (BZ m.st p c))/\∃j,w'=w.drewN j:=by
 obtain⟨B,E,D,P,Q,O,h1,_⟩:=h.rd.rep;exact h1.next o p d c
end Go.Proofs.YtffajooegiempaaGreatDoor
