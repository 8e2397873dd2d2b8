import Derived.Test.YtffajooegiempaaGreatDoorK0
import Derived.Laws.AppendOwn
import Derived.Laws.BytesArg
import Derived.Laws.Concat
set_option maxRecDepth 100000
set_option maxHeartbeats 6400000
namespace Go.Proofs.YtffajooegiempaaGreatDoor
open Go.RowKit Go.Proofs.Tryz
variable {w:World}
abbrev Mx:TypeId:=5
def MF(xs:List Int):List Value:=xs.map (Value.int .u8)
theorem Vd(xs ys:List Int):MF (xs++ys)=MF xs++MF ys:=by simp[MF]
def EJ(w:World)(base:Nat)(v:Value)(xs:List Int):Prop:=w.ownsRow base Mx 1 v xs.length (MF xs)/\∃g cap,v=.slice (some ⟨g,0,none⟩) xs.length cap
theorem Bm{w w':World}{base e size n:Nat}{v:Value}{xs:List Value}(h:w.ownsRow base e size v n xs)(hb:∀k,v.ownBlock=some k->w'.heap[k]?=w.heap[k]?):w'.ownsRow base e size v n xs:=by
 obtain⟨h1,h2⟩:=h;refine⟨h1,?_⟩;rcases h2 with h2|⟨g,cap,c,T,hg,hh,r⟩
 .exact .inl h2
 .exact .inr ⟨g,cap,c,T,hg,by rw[hb g (by rw[T];rfl)];exact hh,r⟩
theorem EJ.keep{w w':World}{base B:Nat}{v:Value}{xs:List Int}(h:EJ w base v xs)(hb:Below B w w')(hB:w.heap.size<=B):EJ w' base v xs:=
 ⟨Bm h.1 (λk hk=>hb.block k (by have:=(h.1.lt k hk).2;omega)),h.2⟩
theorem EJ.cells{base:Nat}{g cap:Nat}{xs:List Int}(h:EJ w base (.slice (some ⟨g,0,none⟩) xs.length cap) xs):∀i,i<xs.length->w.cell? ⟨g,i,none⟩=some (.int .u8 (xs.getD i 0)):=by
 intro i hi;have:=h.1.cells (g:=g) rfl i (.int .u8 (xs.getD i 0)) (by simp[MF,List.getD,hi]);have e1:(⟨g,0,none⟩:Addr).add i=⟨g,i,none⟩:=by unfold Addr.add;split<;>simp_all
 rwa[e1]at this
theorem EJ.new(w:World)(xs:List Int)(base:Nat)(hb:base<=w.heap.size)(hx:xs.length<=maxLen):EJ (w.alloc (.cells (MF xs).toArray Mx)) base (.slice (some ⟨w.heap.size,0,none⟩) xs.length xs.length) xs:=
 ⟨⟨by simp[MF],.inr ⟨w.heap.size,xs.length,(MF xs).toArray,rfl,hb,heap_alloc_new w _,bB _,hx,by simp[MF],cG (by simp[MF])⟩⟩,_,_,rfl⟩
theorem Dc{base:Nat}{v:Value}{xs ys:List Int}{G:Array Oper}{b:List Oper}{o:Oper}{a:Act}{Q:Exit->Act->World->Prop}(L:o.guard=none)(s x:Operand)
  (ho:o.op=.call {callee:=.builtin .append,args:=#[s,x],argTypes:=#[130,130]})
  (hs:a.eval s=v) (hown:EJ w base v xs) (g c:Nat) (hx:a.eval x=.slice (some ⟨g,0,none⟩) ys.length c) (hnews:∀i,i<ys.length->w.cell? ⟨g,i,none⟩=some (.int .u8 (ys.getD i 0)))
  (h63:xs.length+ys.length<=1000000) (hbase:base<=w.heap.size)
  (h:∀H w',EJ w' base H (xs++ys)->w.grownBy w' v.ownBlock->wpList prog G Q b (a.put o.dst H) w'):wpList prog G Q (o::b) a w:=by
 obtain⟨i0,hi,O,R,S⟩:=c_ (P:=prog) (e:=Mx) (z:=.int .u8 0) (size:=1) (bytes:=1) (by kernel_rfl);obtain⟨F,q,cap,rfl⟩:=hown
 refine wpList_append_own _ L s x 130 ho base Mx i0 _ 1 1 underlying130 hi O R S rfl (by decide) _ _ _ hs F ⟨g,0,none⟩ ys.length c (MF ys) hx (by simp[MF]) (by
  intro j u M;have E:j<ys.length:=by
   rcases bW j ys.length with q|q
   .exact q
   .rw[bO (by simp[MF];omega)]at M;cases M
  have e1:(⟨g,0,none⟩:Addr).add j=⟨g,j,none⟩:=by unfold Addr.add;split<;>simp_all
  rw[e1,hnews j E];simpa[MF,List.getD,E]using M) (by
  intro u hu;obtain⟨y,_,rfl⟩:=List.mem_map.1 hu
  rfl) (by unfold maxLen;omega) (by omega) hbase ?_
 intro H w' h2 h3 h4;refine h H w' ⟨by rw[cn,Vd];exact h2,?_⟩ h3;rcases h2.2 with⟨e,_⟩|⟨Z,m,cur,e,_⟩
 .obtain⟨e1,_⟩:=h4.1 e;cases e1
 .exact⟨Z,m,by rw[cn];exact e⟩
theorem NW(p off Y:Nat)(l:List Int)(_hp:p<w.heap.size)(hc:∀i,i<32->w.cell? ⟨p,off+i,none⟩=some (.int .i64 (l.getD i 0))):
  Calls prog 122 #[.slice (some ⟨p,off,none⟩) 32 Y] w λe w'=>e=.returned (.int .i64 ((ct l 32:Nat):Int))/\w'=w:=by
 have U:Hid (∀i,i<32->w.cell? ⟨p,off+i,none⟩=some (.int .i64 (l.getD i 0))):=hc;obtain⟨C,A⟩:∃C,C=ct l:=⟨_,rfl⟩
 have W:Hid (∀f,C (f+1)=C f+(if l.getD f 0=1000000 then 0 else 1)):=by rw[A];exact E9 l
 have V:Hid (∀f,C f<=f):=by rw[A];exact J6 l
 have X:Hid (C 0=0):=by rw[A];rfl
 rw[<-A];clear hc A;go_enter func122,ntmps122;go_wp2_with fail;go_loopw [3,8] (λt i wr=>∃(f:Nat),f<=32/\i=.int .i64 f/\wr=w/\t=.int .i64 ((C f:Nat):Int)) (λ_ i _=>32-(intOf i).toNat);case atStart=>exact⟨0,by omega,rfl,rfl,by rw[X.out];rfl⟩
 case round=>
  obtain⟨f,hf,rfl,rfl,rfl⟩:=hrel;have aa:=V.out f;by_cases N:f<32
  .have ab:(f:Int)<32:=by omega
   have cx:=U.out f N;have d:=(show Hid (_=_)from W.out f)
   generalize l.getD f 0=x at *;generalize C f=cf at *;by_cases e1:x=1000000
   .have J:(x != 1000000)=false:=by rw[e1];rfl
    have I:Hid (C (f+1)=cf):=by show _=_;rw[d.out,bA e1];rfl
    go_wp2_with fail;go_roundw;case rel=>exact⟨f+1,by omega,by go_num,by simp,by rw[I.out]⟩
    case measure=>simp[intOf];omega
   .have J:(x != 1000000)=true:=by rw[cI];exact e1
    have I:Hid (C (f+1)=cf+1):=by show _=_;rw[d.out,a_ e1]
    go_wp2_with fail;go_roundw;case rel=>exact⟨f+1,by omega,by go_num,by simp,by rw[I.out];go_num⟩
    case measure=>simp[intOf];omega
  .have D:f=32:=by omega
   subst D;go_wp2_with fail;go_ret;exact⟨rfl,rfl⟩
theorem Wr(x:Int)(K:0<=x):x.tdiv 256=x/256:=Int.tdiv_eq_ediv_of_nonneg K
theorem Ws(x:Int)(K:0<=x):x.tmod 256=x%256:=Int.tmod_eq_emod_of_nonneg K
def Zn(w:World)(xs:List Int):Ending->World->Prop:=λe w'=>∃v,EJ w' w.heap.size v xs/\e=.returned v/\dc w w'
theorem MI(p off D:Nat)(l:List Int)(B:p<w.heap.size)(hc:∀i,i<32->w.cell? ⟨p,off+i,none⟩=some (.int .i64 (l.getD i 0)))(hb:∀f,f<32->On (l.getD f 0)):
  Calls prog 88 #[.slice (some ⟨p,off,none⟩) 32 D] w (Zn w (((ct l 32:Nat):Int)::tl l 32)):=by
 have I:Hid (∀i,i<32->w.cell? ⟨p,off+i,none⟩=some (.int .i64 (l.getD i 0))):=hc;have H:Hid (∀f,f<32->On (l.getD f 0)):=hb;have o:=NW p off D l B hc;have ab:=J6 l 32;obtain⟨T,m⟩:∃T,T=tl l:=⟨_,rfl⟩
 have K:Hid (∀f,T (f+1)=T f++(if l.getD f 0=1000000 then[]else b3 (f,l.getD f 0))):=by rw[m];exact Im l
 have z:Hid (∀f,f<=32->(T f).length<=96):=by
  rw[m];intro f M;rw[JC];have:=J6 l f;omega
 have L:Hid (T 0=[]):=by rw[m];rfl
 rw[<-m];generalize ct l 32=cc at *;have J:Hid (EJ (w.alloc (.cells #[.int .u8 ((cc:Nat):Int)] Mx)) w.heap.size (.slice (some ⟨w.heap.size,0,none⟩) 1 1) [((cc:Nat):Int)]):=EJ.new w [((cc:Nat):Int)] w.heap.size (bB _) (by simp[maxLen]);have t:Hid (dc w (w.alloc (.cells #[.int .u8 ((cc:Nat):Int)] Mx))):=(bC _ _).alloc (bB _) _;clear hc hb m;go_enter func88,ntmps88;go_wp2_with fail;refine o.mono ?_;rintro e h ⟨rfl,rfl⟩;clear o;go_wp2_with fail;go_loopw [3,13] (λN i wr=>∃(f g cap n:Nat),f<=32/\i=.int .i64 f/\N=.slice (some ⟨g,0,none⟩) n cap/\n<=97/\Hid (EJ wr h.heap.size (.slice (some ⟨g,0,none⟩) n cap) (((cc:Nat):Int)::T f)/\dc h wr)) (λ_ i _=>32-(intOf i).toNat);case atStart=>exact⟨0,_,_,_,by omega,rfl,rfl,by omega,by show _/\_;rw[L.out];exact⟨J.out,t.out⟩⟩
 case round=>
  obtain⟨f,g,cap,n,M,rfl,rfl,hn,c⟩:=hrel;by_cases r:f<32
  .have ac:(f:Int)<32:=by omega
   have cx:wr.cell? ⟨p,off+f,none⟩=some (.int .i64 (l.getD f 0)):=(c.out.2.cell (p:=⟨p,off+f,none⟩) B).trans (I.out f r);have ae:p<wr.heap.size:=bM B c.out.2.size;have j:=(show Hid (_=_)from K.out f)
   have u:=(show Hid (On _)from H.out f r)
   have y:=(show Hid (_<=_)from z.out (f+1) (by omega))
   generalize l.getD f 0=x at *;by_cases e1:x=1000000
   .have A:(x==1000000)=true:=by rw[e1];rfl
    have s:Hid (T (f+1)=T f):=by show _=_;rw[j.out,bA e1,List.append_nil]
    go_wp2_with fail;go_roundw;case rel=>exact⟨f+1,g,cap,n,by omega,by go_num,rfl,hn,by show _/\_;rw[s.out];exact c.out⟩
    case measure=>simp[intOf];omega
   .have A:(x==1000000)=false:=by simpa using e1
    obtain⟨x1,x2⟩: -4000<=x/\x<=4000:=u.out.resolve_left e1;have s:Hid (T (f+1)=T f++[(f:Int),(x+4000)/256,(x+4000)%256]):=by show _=_;rw[j.out,a_ e1];rfl
    have r1:=Wr (x+4000) (by omega);have r2:=Ws (x+4000) (by omega);have y1:0<=(x+4000)/256:=by omega
    have y2:(x+4000)/256<=255:=by omega
    have y3:0<=(x+4000)%256:=by omega
    have y4:(x+4000)%256<=255:=by omega
    generalize(x+4000)/256=ya at *;generalize(x+4000)%256=yb at *;have d:Hid ((((cc:Nat):Int)::T f).length=n):=by
     obtain⟨_,g',aa,e⟩:=c.out.1;injection e with _ e2 _;exact e2.symm
    have ad:n+3<=97:=by
     have h1:=y.out;rw[s.out]at h1;have h2:=d.out;simp at h1 h2;omega
    go_wp2_with (at_builtin;refine Dc (xs:=((cc:Nat):Int)::T f) (ys:=[(f:Int),ya,yb]) rfl (.tmp 22) (.tmp 31) rfl rfl (c.out.1.keep ((bC _ _).alloc (bB _) _) (bB _)) wr.heap.size 3 rfl (by intro i hi;match i,hi with|0,_=>exact bL _ _ _ _ rfl|1,_=>exact bL _ _ _ _ rfl|2,_=>exact bL _ _ _ _ rfl) (by rw[d.out];simp;omega) (by have:=c.out.2.size;simp;omega) ?_;intro v5 F a b);obtain⟨C,E,c5,rfl⟩:=id a;have G:Hid (EJ F h.heap.size (.slice (some ⟨E,0,none⟩) (n+3) c5) (((cc:Nat):Int)::T (f+1))/\dc h F):=by
     have e:(((cc:Nat):Int)::T f++[(f:Int),ya,yb]).length=n+3:=by rw[cn,d.out];rfl
     rw[e]at a;refine⟨by rw[s.out];exact a,?_⟩;exact((c.out.2.alloc c.out.2.size _).grown b (by have:=c.out.2.size;simp;omega) (λk hk=>(c.out.1.1.lt k hk).1))
    have e:(((cc:Nat):Int)::T f++[(f:Int),ya,yb]).length=n+3:=by rw[cn,d.out];rfl
    rw[e];clear C a b;go_roundw;case rel=>exact⟨f+1,E,c5,n+3,by omega,by go_num,rfl,by omega,G.out⟩
    case measure=>simp[intOf];omega
  .have q:f=32:=by omega
   subst q;go_wp2_with fail;go_ret;exact⟨_,c.out.1,rfl,c.out.2⟩
def Kt(w:World)(v:Value):Option (List Int)->Prop
 |none=>v=.slice none 0 0
 |some l=>AQ w v l/\∃a n c,v=.slice (some a) n c
def CX(w:World)(v:Value)(L:List (Option (List Int))):Prop:=
 ∃S cap,v=.slice S L.length cap/\L.length<=cap/\(L.length≠0->∃b off,S=some ⟨b,off,none⟩/\b<w.heap.size/\∀i,i<L.length->∃x,w.cell? ⟨b,off+i,none⟩=some x/\Kt w x (L.getD i none))
theorem Kt.keep{w w':World}{v:Value}{r:Option (List Int)}(h:Kt w v r)(hb:dc w w'):Kt w' v r:=by
 cases r with
 |none=>exact h
 |some l=>exact⟨h.1.keep hb,h.2⟩
theorem CX.keep{w w':World}{v:Value}{L:List (Option (List Int))}(h:CX w v L)(hb:dc w w'):CX w' v L:=by
 obtain⟨S,cap,hv,hc,T⟩:=h;refine⟨S,cap,hv,hc,λhn=>?_⟩;obtain⟨b,off,ha,F,j⟩:=T hn;refine⟨b,off,ha,bM F hb.size,λi hi=>?_⟩;obtain⟨x,h1,h2⟩:=j i hi;exact⟨x,(hb.cell (by exact F)).trans h1,h2.keep hb⟩
def TP:Option (List Int)->Bool
 |none=>true
 |some l=>FM l
def Lf(L:List (Option (List Int))):Nat->Bool
 |0=>true
 |n+1=>Lf L n&&TP (L.getD n none)
def DH(L:List (Option (List Int))):List Int×Int:=
 if L.length<1\/21<L.length then([],4)else if Lf L L.length then(IM L,0)else([],3)
def VI(w:World)(L:List (Option (List Int))):Ending->World->Prop:=λe w'=>e=.returned (.tuple #[.string (strOfNums (DH L).1),.int .i64 (DH L).2])/\dc w w'
theorem MQ{L:List (Option (List Int))}:∀{n:Nat},Lf L n=true↔∀i,i<n->TP (L.getD i none)=true:=by
 intro n;induction n with
 |zero=>exact⟨λ_ i hi=>absurd hi (by omega),λ_=>rfl⟩
 |succ n ih=>
  show(Lf L n&&TP (L.getD n none))=true↔_;rw[cA,ih];constructor
  .rintro⟨h1,h2⟩ f hf;rcases bX (ch.1 hf)with q|q
   .exact h1 f q
   .rw[q];exact h2
  .intro h;exact⟨λf hf=>h f (by omega),h n (by omega)⟩
theorem TN{L:List (Option (List Int))}{n i:Nat}(hi:i<n)(h:TP (L.getD i none)=false):Lf L n=false:=by
 cases e:Lf L n with
 |false=>rfl
 |true=>rw[MQ.1 e i hi]at h;cases h
theorem J_(r:Option (List Int)):(Dk r).length<=98:=by
 cases r with
 |none=>show 1<=98;omega
 |some l=>
  have e:(Dk (some l)).length=(tl l 32).length+2:=rfl;have:=J6 l 32;rw[e,JC];omega
theorem IN(L:List (Option (List Int))):∀n,(Br L n).length<=98*n
 |0=>bB _
 |n+1=>by
  have h1:=IN L n;have h2:=J_ (L.getD n none);show(Br L n++Dk (L.getD n none)).length<=_;rw[cn];omega
theorem AQ.good{v:Value}{l:List Int}(h:AQ w v l)(J:FM l=true):∃p off cu,v=.slice (some ⟨p,off,none⟩) 32 cu/\p<w.heap.size/\(∀i,i<32->w.cell? ⟨p,off+i,none⟩=some (.int .i64 (l.getD i 0)))/\∀f,f<32->On (l.getD f 0):=by
 have V:=CG.1 J;obtain⟨S,cap,rfl,hc,T⟩:=h;obtain⟨p,off,rfl,hp,j⟩:=T (by rw[V.1];decide);rw[V.1]at j|-;exact⟨p,off,cap,rfl,hp,j,λf hf=>by have:=ce (V.2 f hf);exact this⟩
theorem XT{w H Q K:World}{g m cap g3 c3 X c5:Nat}{xs ys d:List Int}{o:Obj}{G:Prop}(h1:EJ H w.heap.size (.slice (some ⟨g,0,none⟩) m cap) xs)(h2:dc w H)
  (h3:EJ Q H.heap.size (.slice (some ⟨g3,0,none⟩) d.length c3) d) (h4:dc H Q) (h5:EJ K w.heap.size (.slice (some ⟨X,0,none⟩) (m+1) c5) ys) (h6:(Q.alloc o).grownBy K (Value.slice (some ⟨g,0,none⟩) m cap).ownBlock)
  (hG:Hid (EJ K w.heap.size (.slice (some ⟨X,0,none⟩) (m+1) c5) ys/\dc w K/\EJ K H.heap.size (.slice (some ⟨g3,0,none⟩) d.length c3) d)->G):G:=by
 refine hG ?_;have s1:=h2.size;have s2:=h4.size;refine⟨h5,((h2.trans (h4.mono s1)).alloc (by omega) _).grown h6 (by simp;omega) (λk hk=>(h1.1.lt k hk).1),?_⟩;refine⟨Bm h3.1 (λk hk=>?_),h3.2⟩;have ap:=h3.1.lt k hk;rw[h6.block k (by simp;omega) (λe=>by have:=h1.1.lt k e.symm;omega)];exact heap_alloc_old _ _ ap.2
theorem Sr(v:Value)(L:List (Option (List Int)))(_hm:L.length<=maxLen)(hv:CX w v L):Calls prog 56 #[v] w (VI w L):=by
 obtain⟨S,cap,rfl,D,T⟩:=hv;by_cases A:L.length<1\/21<L.length
 .have Y:Hid (DH L=([],4)):=by show DH L=_;unfold DH;rw[bA A]
  clear T;rcases A with hb|hb
  .have hz:L.length=0:=by omega
   rw[hz];clear hz hb D;go_enter func56,ntmps56;go_wp2_with fail
   go_ret2
   exact⟨by rw[Y.out];rfl,bC _ _⟩
  .have al:((L.length:Int)==0)=false:=by simp;intro e;rw[e]at hb;simp at hb
   have am:(21:Int)<(L.length:Int):=by omega
   clear hb;go_enter func56,ntmps56;go_wp2_with fail
   go_ret2
   exact⟨by rw[Y.out];rfl,bC _ _⟩
 obtain⟨n,hn⟩:∃n,n=L.length:=⟨_,rfl⟩
 have n1:1<=n:=by omega
 have n2:n<=21:=by omega
 have Y:Hid (DH L=if Lf L n then((n:Int)::Br L n,0)else([],3)):=by show DH L=_;unfold DH;rw[a_ A,hn];rfl
 obtain⟨p,off,rfl,hp,j⟩:=T (by omega);rw[<-hn]at j D|-;have HC:Hid (∀i,i<n->∃x,w.cell? ⟨p,off+i,none⟩=some x/\Kt w x (L.getD i none)):=j;have al:((n:Int)==0)=false:=by simp;omega
 have am:¬(21:Int)<(n:Int):=by omega
 have HN:Hid (EJ (w.alloc (.cells #[.int .u8 (n:Int)] Mx)) w.heap.size (.slice (some ⟨w.heap.size,0,none⟩) 1 1) [(n:Int)]):=EJ.new w [(n:Int)] w.heap.size (bB _) (by simp[maxLen]);have ai:Hid (dc w (w.alloc (.cells #[.int .u8 (n:Int)] Mx))):=(bC _ _).alloc (bB _) _;have aC:∀(w:World)(a:Option Addr)(n c:Nat),(binOp .eql 32 (.slice a n c) (.slice none 0 0)).run prog w=.ok (.bool a.isNone) w:=λw a n c=>cz w 32 3 a n c 0 0 underlying32;have ad:Hid (∀(w:World)(b len cap:Nat)(xs:List Int),xs.length=len->(∀i,i<len->w.cell? ⟨b,0+i,none⟩=some (.int .u8 (xs.getD i 0)))->(convert 130 9 (.slice (some ⟨b,0,none⟩) len cap)).run prog w=.ok (.string (strOfNums xs)) w):=λw b len cap xs h1 h2=>run_convert_bytes_arg (P:=prog) w 130 Mx underlying130 (by kernel_rfl) b 0 len cap xs h1 h2 9 (by kernel_rfl);clear j D T A _hm hn;go_enter func56,ntmps56;go_wp2_with fail;go_loopw [4,22] (λsl i wr=>∃(f g cap m:Nat),f<=n/\i=.int .i64 f/\sl=.slice (some ⟨g,0,none⟩) m cap/\m<=1+98*f/\Hid (EJ wr w.heap.size (.slice (some ⟨g,0,none⟩) m cap) ((n:Int)::Br L f)/\dc w wr/\Lf L f=true)) (λ_ i _=>n-(intOf i).toNat);case atStart=>exact⟨0,_,_,_,by omega,rfl,rfl,by omega,HN.out,ai.out,rfl⟩
 case round=>
  obtain⟨f,g,N,m,hf,rfl,rfl,hm,u⟩:=hrel;have C:Hid (((n:Int)::Br L f).length=m):=by
   obtain⟨_,g',aw,e⟩:=u.out.1;injection e with _ e2 _;exact e2.symm
  by_cases F:f<n
  .have az:(f:Int)<(n:Int):=by omega
   obtain⟨x,hx,af⟩:=HC.out f F;have cx:wr.cell? ⟨p,off+f,none⟩=some x:=(u.out.2.1.cell (p:=⟨p,off+f,none⟩) hp).trans hx;have I:Hid (Kt wr x (L.getD f none)):=af.keep u.out.2.1;have aB:p<wr.heap.size:=bM hp u.out.2.1.size;have aa:Hid (Br L (f+1)=Br L f++Dk (L.getD f none)):=rfl;have ab:Hid (Lf L (f+1)=(Lf L f&&TP (L.getD f none))):=rfl;have ak:Hid (TP (L.getD f none)=false->Lf L n=false):=λh=>TN F h;have ax:=(show Hid (_<=_)from IN L (f+1))
   clear hx af;generalize L.getD f none=r at *;cases r with
   |none=>
    have av:x=.slice none 0 0:=I.out;subst av;go_wp2_with (at_builtin;refine Dc (xs:=(n:Int)::Br L f) (ys:=[0]) rfl (.tmp 28) (.tmp 29) rfl rfl (u.out.1.keep ((bC _ _).alloc (bB _) _) (bB _)) wr.heap.size 1 rfl (by intro i hi;match i,hi with|0,_=>exact bL _ _ _ _ rfl) (by rw[C.out];simp;omega) (by have:=u.out.2.1.size;simp;omega) ?_;intro v5 K s t);obtain⟨W,X,c5,rfl⟩:=id s;have e:((n:Int)::Br L f++[0]).length=m+1:=by rw[cn,C.out];rfl
    have M:Hid (EJ K w.heap.size (.slice (some ⟨X,0,none⟩) (m+1) c5) ((n:Int)::Br L (f+1))/\dc w K/\Lf L (f+1)=true):=by
     rw[e]at s;refine⟨by rw[aa.out];exact s,?_,by rw[ab.out,u.out.2.2];rfl⟩;exact((u.out.2.1.alloc u.out.2.1.size _).grown t (by have:=u.out.2.1.size;simp;omega) (λk hk=>(u.out.1.1.lt k hk).1))
    rw[e];clear W s t;go_roundw;case rel=>exact⟨f+1,X,c5,m+1,by omega,by go_num,rfl,by omega,M.out⟩
    case measure=>simp[intOf];omega
   |some l=>
    have E:=KN (w:=wr) x l I.out.1;obtain⟨a,xn,xc,rfl⟩:=I.out.2;cases J:FM l with
    |false=>
     rw[J]at E;have HF:Hid (DH L=([],3)):=by show DH L=_;rw[Y.out,ak.out J];rfl
     clear J;go_wp2_with fail;refine E.mono ?_;rintro e H ⟨rfl,rfl⟩;go_wp2_with fail
     go_ret2
     exact⟨by rw[HF.out];rfl,u.out.2.1⟩
    |true=>
     rw[J]at E;obtain⟨p2,ah,ay,e2,aq,ae,O⟩:=I.out.1.good J;injection e2 with e2 e3 e4
     injection e2 with e2
     subst e2 e3 e4;have ag:=MI p2 ah xc l aq ae O;have aj:Hid (TP (some l)=true):=J;have Z:Hid (Dk (some l)=[1]++(((ct l 32:Nat):Int)::tl l 32)):=rfl;generalize((ct l 32:Nat):Int)::tl l 32=d at *;clear J ae O;go_wp2_with fail;refine E.mono ?_;rintro e H ⟨rfl,rfl⟩;go_wp2_with fail;refine ag.mono ?_;rintro e Q ⟨v3,z,rfl,U⟩;obtain⟨ar,g3,c3,rfl⟩:=id z;have H3:Hid (EJ Q H.heap.size (.slice (some ⟨g3,0,none⟩) d.length c3) d/\dc H Q/\EJ Q w.heap.size (.slice (some ⟨g,0,none⟩) m N) ((n:Int)::Br L f)):=⟨z,U,u.out.1.keep U (bB _)⟩
     have ac:Hid (d.length<=97):=by
      have h1:=J_ (some l);rw[Z.out]at h1;simp at h1;show d.length<=97;omega
     clear ar z U ag E;have e:((n:Int)::Br L f++[1]).length=m+1:=by rw[cn,C.out];rfl
     have R:Hid (((n:Int)::Br L f++[1]).length=m+1):=e;clear e;go_wp2_with (at_builtin;first|(refine Dc (xs:=(n:Int)::Br L f) (ys:=[1]) rfl (.tmp 36) (.tmp 37) rfl rfl (H3.out.2.2.keep ((bC _ _).alloc (bB _) _) (bB _)) Q.heap.size 1 rfl (by intro i hi;match i,hi with|0,_=>exact bL _ _ _ _ rfl) (by rw[C.out];simp;omega) (by have:=u.out.2.1.size;have:=H3.out.2.1.size;simp;omega) ?_;intro v5 K s t;obtain⟨W,X,c5,e5⟩:=id s;rw[R.out]at e5;subst e5;refine XT u.out.1 u.out.2.1 H3.out.1 H3.out.2.1 s t (λM=>?_);clear W s t)|(refine Dc (xs:=(n:Int)::Br L f++[1]) (ys:=d) rfl (.tmp 39) (.tmp 40) rfl rfl M.out.1 g3 c3 rfl M.out.2.2.cells (by have:=ac.out;rw[R.out];omega) M.out.2.1.size ?_;intro v6 w6 y B));obtain⟨au,g6,c6,rfl⟩:=id y;have e':((n:Int)::Br L f++[1]++d).length=m+1+d.length:=by rw[cn,R.out]
     have H6:Hid (EJ w6 w.heap.size (.slice (some ⟨g6,0,none⟩) (m+1+d.length) c6) ((n:Int)::Br L (f+1))/\dc w w6/\Lf L (f+1)=true):=by
      rw[e']at y;refine⟨by rw[aa.out,Z.out,<-List.append_assoc];exact y,M.out.2.1.grown B M.out.2.1.size (λk hk=>(M.out.1.1.lt k hk).1),by rw[ab.out,u.out.2.2,aj.out];rfl⟩
     rw[e'];have aA:=ac.out;clear au y B;go_roundw;case rel=>exact⟨f+1,g6,c6,m+1+d.length,by omega,by go_num,rfl,by omega,H6.out⟩
     case measure=>simp[intOf];omega
  .have an:f=n:=by omega
   subst an
   have aD:=ad.out wr g m N ((f:Int)::Br L f) C.out (by
    intro i hi;rw[cU];have:=u.out.1;rw[<-C.out]at this hi
    exact this.cells i hi)
   have HF:Hid (DH L=((f:Int)::Br L f,0)):=by show DH L=_;rw[Y.out,u.out.2.2];rfl
   go_wp2_with fail
   go_ret2
   exact⟨by rw[HF.out];rfl,u.out.2.1⟩
theorem Mv(xs ys:List Int):strOfNums (xs++ys)=strOfNums xs++strOfNums ys:=by
 apply ByteArray.ext;simp[strOfNums,ByteArray.data_append]
theorem GW(w:World)(xs:List Int):(convert 130 9 (.slice (some ⟨w.heap.size,0,none⟩) xs.length xs.length)).run prog (w.alloc (.cells (MF xs).toArray Mx))=.ok (.string (strOfNums xs)) (w.alloc (.cells (MF xs).toArray Mx)):=by
 refine run_convert_bytes_arg (P:=prog) _ 130 Mx underlying130 (by kernel_rfl) w.heap.size 0 xs.length xs.length xs rfl ?_ 9 (by kernel_rfl);intro i hi;rw[cU];exact(bL _ _ _ _ rfl).trans (show(MF xs).toArray[i]?=some (.int .u8 (xs.getD i 0)) by simp[MF,List.getD,hi])
theorem YD(p off cu:Nat)(l:List Int)(U:p<w.heap.size)(hc:∀i,i<32->w.cell? ⟨p,off+i,none⟩=some (.int .i64 (l.getD i 0)))(hb:∀f,f<32->On (l.getD f 0)):
  Calls prog 100 #[.slice (some ⟨p,off,none⟩) 32 cu] w λe w'=>e=.returned (.string (strOfNums (Dk (some l))))/\dc w w':=by
 have HC:Hid (∀i,i<32->w.cell? ⟨p,off+i,none⟩=some (.int .i64 (l.getD i 0))):=hc;have HB:Hid (∀f,f<32->On (l.getD f 0)):=hb;obtain⟨T,M⟩:∃T,T=tl l:=⟨_,rfl⟩
 obtain⟨C,G⟩:∃C,C=ct l:=⟨_,rfl⟩
 have HT:Hid (∀f,T (f+1)=T f++(if l.getD f 0=1000000 then[]else b3 (f,l.getD f 0))):=by rw[M];exact Im l
 have HS:Hid (∀f,C (f+1)=C f+(if l.getD f 0=1000000 then 0 else 1)):=by rw[G];exact E9 l
 have HL:Hid (∀f,C f<=f):=by rw[G];exact J6 l
 have ag:Hid (∀f,(T f).length=3*C f):=by rw[M,G];exact JC l
 have HZ:Hid (T 0=[]/\C 0=0):=by rw[M,G];exact⟨rfl,rfl⟩
 have A:Hid (Dk (some l)=[1,((C 32:Nat):Int)]++T 32):=by show _=_;rw[M,G,LY];simp only[List.cons_append,List.nil_append]
 have aA:∀(w:World)(x y z:Int),(convert 130 9 (.slice (some ⟨w.heap.size,0,none⟩) 3 3)).run prog (w.alloc (.cells #[.int .u8 x,.int .u8 y,.int .u8 z] Mx))=.ok (.string (strOfNums [x,y,z])) (w.alloc (.cells #[.int .u8 x,.int .u8 y,.int .u8 z] Mx)):=λw x y z=>GW w [x,y,z];have az:∀(w:World)(x y:Int),(convert 130 9 (.slice (some ⟨w.heap.size,0,none⟩) 2 2)).run prog (w.alloc (.cells #[.int .u8 x,.int .u8 y] Mx))=.ok (.string (strOfNums [x,y])) (w.alloc (.cells #[.int .u8 x,.int .u8 y] Mx)):=λw x y=>GW w [x,y];have au:∀x y z:Int,(strOfNums [x,y,z]).size=3:=λ_ _ _=>rfl;have aB:∀x y:Int,(strOfNums [x,y]).size=2:=λ_ _=>rfl;rw[A.out];clear hc hb M G A;go_enter func100,ntmps100;go_wp2_with fail;go_loopw [3,4,5] (λt s i wr=>∃(f D:Nat)(S:ByteArray),f<=32/\i=.int .i64 f/\t=.int .i64 (D:Int)/\D<=32/\s=.string S/\S.size<=96/\Hid (S=strOfNums (T f)/\D=C f/\dc w wr)) (λ_ _ i _=>32-(intOf i).toNat);case atStart=>exact⟨0,0,_,by omega,rfl,rfl,by omega,rfl,by decide,by rw[HZ.out.1];rfl,HZ.out.2.symm,bC _ _⟩
 case round=>
  obtain⟨f,D,S,hf,rfl,rfl,al,rfl,hS,b⟩:=hrel;by_cases o:f<32
  .have am:(f:Int)<32:=by omega
   have cx:wr.cell? ⟨p,off+f,none⟩=some (.int .i64 (l.getD f 0)):=(b.out.2.2.cell (p:=⟨p,off+f,none⟩) U).trans (HC.out f o);have aq:p<wr.heap.size:=bM U b.out.2.2.size;have q:=(show Hid (_=_)from HT.out f)
   have H:=(show Hid (_=_)from HS.out f)
   have Z:=(show Hid (On _)from HB.out f o)
   generalize l.getD f 0=x at *;by_cases e1:x=1000000
   .have ah:(x != 1000000)=false:=by rw[e1];rfl
    have K:Hid (T (f+1)=T f/\C (f+1)=C f):=⟨by rw[q.out,bA e1,List.append_nil],by rw[H.out,bA e1];rfl⟩
    go_wp2_with fail;go_roundw;case rel=>exact⟨f+1,D,S,by omega,by go_num,rfl,al,rfl,hS,by rw[K.out.1];exact b.out.1,by rw[K.out.2];exact b.out.2.1,b.out.2.2⟩
    case measure=>simp[intOf];omega
   .have ah:(x != 1000000)=true:=by rw[cI];exact e1
    obtain⟨x1,x2⟩: -4000<=x/\x<=4000:=Z.out.resolve_left e1;have K:Hid (T (f+1)=T f++[(f:Int),(x+4000)/256,(x+4000)%256]/\C (f+1)=C f+1):=⟨by rw[q.out,a_ e1];rfl,by rw[H.out,a_ e1]⟩
    have r1:=Wr (x+4000) (by omega);have r2:=Ws (x+4000) (by omega);have y1:0<=(x+4000)/256:=by omega
    have y2:(x+4000)/256<=255:=by omega
    have y3:0<=(x+4000)%256:=by omega
    have y4:(x+4000)%256<=255:=by omega
    generalize(x+4000)/256=ya at *;generalize(x+4000)%256=yb at *;have ak:D+1<=32:=by have:=HL.out f;have:=b.out.2.1;omega
    have af:Hid ((S++strOfNums [(f:Int),ya,yb]).size<=96):=by
     show _<=_;rw[ByteArray.size_append',au,b.out.1,strOfNums_size,ag.out,<-b.out.2.1];omega
    go_wp2_with fail;go_roundw;case rel=>exact⟨f+1,D+1,S++strOfNums [(f:Int),ya,yb],by omega,by go_num,by go_num,ak,rfl,af.out,by rw[K.out.1,Mv,<-b.out.1],by rw[K.out.2,b.out.2.1],b.out.2.2.alloc b.out.2.2.size _⟩
    case measure=>simp[intOf];omega
  .have R:f=32:=by omega
   subst R;go_wp2_with fail;go_ret;exact⟨by rw[show(1::((C 32:Nat):Int)::T 32)=[1,((C 32:Nat):Int)]++T 32 from rfl,Mv,<-b.out.1,<-b.out.2.1];rfl,b.out.2.2.alloc b.out.2.2.size _⟩
theorem T_(v:Value)(L:List (Option (List Int)))(_hm:L.length<=maxLen)(F:∀i l,L.getD i none=some l->l.length<=1073741824)(hv:CX w v L):Calls prog 66 #[v] w (VI w L):=by
 obtain⟨ao,cap,rfl,k,h0⟩:=hv;by_cases j:L.length<1\/21<L.length
 .have A:Hid (DH L=([],4)):=by show DH L=_;unfold DH;rw[bA j]
  clear h0 F;rcases j with hb|hb
  .have hz:L.length=0:=by omega
   rw[hz];clear hz hb k;go_enter func66,ntmps66;go_wp2_with fail
   go_ret2
   exact⟨by rw[A.out];rfl,bC _ _⟩
  .have ai:¬(L.length:Int)<1:=by omega
   have aj:(21:Int)<(L.length:Int):=by omega
   clear hb;go_enter func66,ntmps66;go_wp2_with fail
   go_ret2
   exact⟨by rw[A.out];rfl,bC _ _⟩
 obtain⟨n,hn⟩:∃n,n=L.length:=⟨_,rfl⟩
 have n1:1<=n:=by omega
 have n2:n<=21:=by omega
 have A:Hid (DH L=if Lf L n then((n:Int)::Br L n,0)else([],3)):=by show DH L=_;unfold DH;rw[a_ j,hn];rfl
 obtain⟨p,off,rfl,U,g⟩:=h0 (by omega);rw[<-hn]at g k|-;have HC:Hid (∀i,i<n->∃x,w.cell? ⟨p,off+i,none⟩=some x/\Kt w x (L.getD i none)):=g;have ad:Hid (∀i l,L.getD i none=some l->l.length<=1073741824):=F;have ai:¬(n:Int)<1:=by omega
 have aj:¬(21:Int)<(n:Int):=by omega
 have Y:Hid (dc w (w.alloc (.cells #[.int .u8 (n:Int)] Mx))):=(bC _ _).alloc (bB _) _;have ax:∀(w:World)(a:Option Addr)(n c:Nat),(binOp .eql 32 (.slice a n c) (.slice none 0 0)).run prog w=.ok (.bool a.isNone) w:=λw a n c=>cz w 32 3 a n c 0 0 underlying32;have ay:∀(w:World)(x:Int),(convert 130 9 (.slice (some ⟨w.heap.size,0,none⟩) 1 1)).run prog (w.alloc (.cells #[.int .u8 x] Mx))=.ok (.string (strOfNums [x])) (w.alloc (.cells #[.int .u8 x] Mx)):=λw x=>GW w [x];clear g k h0 j F _hm hn;go_enter func66,ntmps66;go_wp2_with fail;go_loopw [4,5] (λs i wr=>∃(f:Nat)(S:ByteArray),f<=n/\i=.int .i64 f/\s=.string S/\S.size<=3000/\Hid (S=strOfNums ((n:Int)::Br L f)/\dc w wr/\Lf L f=true)) (λ_ i _=>n-(intOf i).toNat);case atStart=>exact⟨0,_,by omega,rfl,rfl,by rw[strOfNums_size];simp,rfl,Y.out,rfl⟩
 case round=>
  obtain⟨f,S,hf,rfl,rfl,hS,b⟩:=hrel;by_cases o:f<n
  .have am:(f:Int)<(n:Int):=by omega
   obtain⟨x,hx,V⟩:=HC.out f o;have cx:wr.cell? ⟨p,off+f,none⟩=some x:=(b.out.2.1.cell (p:=⟨p,off+f,none⟩) U).trans hx;have u:Hid (Kt wr x (L.getD f none)):=V.keep b.out.2.1;have aq:p<wr.heap.size:=bM U b.out.2.1.size;have q:Hid (Br L (f+1)=Br L f++Dk (L.getD f none)):=rfl;have I:Hid (Lf L (f+1)=(Lf L f&&TP (L.getD f none))):=rfl;have ae:Hid (TP (L.getD f none)=false->Lf L n=false):=λh=>TN o h;have ac:Hid (∀l,L.getD f none=some l->l.length<=1073741824):=ad.out f;have aa:=(show Hid (_<=_)from IN L (f+1))
   have J:Hid (∀y:List Int,Dk (L.getD f none)=y->(S++strOfNums y).size<=3000/\S++strOfNums y=strOfNums ((n:Int)::Br L (f+1))):=by
    intro y hy;have e:S++strOfNums y=strOfNums ((n:Int)::Br L (f+1)):=by rw[q.out,hy,b.out.1,<-Mv];rfl
    refine⟨?_,e⟩;have h1:=aa.out;rw[e,strOfNums_size];simp only[db];omega
   clear hx V;generalize L.getD f none=r at *;cases r with
   |none=>
    have ar:x=.slice none 0 0:=u.out;subst ar;have d:=(show Hid (_/\_)from J.out [0] rfl)
    go_wp2_with fail;go_roundw;case rel=>exact⟨f+1,_,by omega,by go_num,rfl,d.out.1,d.out.2,b.out.2.1,by rw[I.out,b.out.2.2];rfl⟩
    case measure=>simp[intOf];omega
   |some l=>
    have m:=GV (w:=wr) x l (ac.out l rfl) u.out.1;have d:=(show Hid (_/\_)from J.out _ rfl)
    obtain⟨a,xn,xc,rfl⟩:=u.out.2;cases E:FM l with
    |false=>
     rw[E]at m;have HF:Hid (DH L=([],3)):=by show DH L=_;rw[A.out,ae.out E];rfl
     clear E;go_wp2_with fail;refine m.mono ?_;rintro e w2 ⟨rfl,rfl⟩;go_wp2_with fail
     go_ret2
     exact⟨by rw[HF.out];rfl,b.out.2.1⟩
    |true=>
     rw[E]at m;obtain⟨p2,X,av,e2,ap,O,B⟩:=u.out.1.good E;injection e2 with e2 e3 e4
     injection e2 with e2
     subst e2 e3 e4;have W:=YD p2 X xc l ap O B;have ab:Hid (TP (some l)=true):=E;have Q:=J_ (some l);have aw:(strOfNums (Dk (some l))).size<=98:=by rw[strOfNums_size];exact Q
     generalize strOfNums (Dk (some l))=part at *;clear E O B Q;go_wp2_with fail;refine m.mono ?_;rintro e w2 ⟨rfl,rfl⟩;go_wp2_with fail;refine W.mono ?_;rintro e w3 ⟨rfl,N⟩;have H3:Hid (dc w w3):=b.out.2.1.trans (N.mono b.out.2.1.size);clear N W m;go_wp2_with fail;go_roundw;case rel=>exact⟨f+1,_,by omega,by go_num,rfl,d.out.1,d.out.2,H3.out,by rw[I.out,b.out.2.2,ab.out];rfl⟩
     case measure=>simp[intOf];omega
  .have an:f=n:=by omega
   subst an;have HF:Hid (DH L=((f:Int)::Br L f,0)):=by show DH L=_;rw[A.out,b.out.2.2];rfl
   go_wp2_with fail
   go_ret2
   exact⟨by rw[HF.out,<-b.out.1];rfl,b.out.2.1⟩
def AA(s:ByteArray):List Int:=s.data.toList.map λb=>(b.toNat:Int)
theorem AR(s:ByteArray):(AA s).length=s.size:=by simp[AA]
theorem IG(s:ByteArray)(k:Nat)(h:k<s.size):(AA s).take (k+1)=(AA s).take k++[((s[k]).toNat:Int)]:=by
 rw[List.take_succ_eq_append_getElem (by rw[AR];exact h)];simp[AA];rfl
theorem Ck(s:ByteArray)(k:Nat)(h:k<s.size):(AA s)[k]?=some ((s[k]).toNat:Int):=by
 rw[bP (by rw[AR];exact h)];simp[AA];rfl
variable {r:Nat}{s:ByteArray}{d:ES}
abbrev aA:TypeId:=155
def Eh(w:World)(r:Nat)(s:ByteArray)(d:ES):Prop:=At w r #[.string s,.int .i64 d.1,.bool d.2] aA
theorem Eh.cells(h:Eh w r s d):w.cell? ⟨r,0,none⟩=some (.string s)/\w.cell? ⟨r,1,none⟩=some (.int .i64 d.1)/\w.cell? ⟨r,2,none⟩=some (.bool d.2)/\∀i,w.frozen? ⟨r,i,none⟩=false:=
 ⟨h.cell 0,h.cell 1,h.cell 2,h.free⟩
theorem Eh.drewN(h:Eh w r s d)(k:Nat):Eh (w.drewN k) r s d:=h
theorem Eh.step(h:Eh w r s d):Eh (w.setCell ⟨r,1,none⟩ (.int .i64 ((d.1:Int)+1))) r s (d.1+1,d.2):=by
 have:=At.put h 1 (.int .i64 ((d.1:Int)+1));exact this
theorem Eh.stick(h:Eh w r s d):Eh (w.setCell ⟨r,2,none⟩ (.bool true)) r s (d.1,true):=by
 have:=At.put h 2 (.bool true);exact this
theorem Om(s:ByteArray):VG (AA s):=by
 intro i hi;rw[AR]at hi;rw[bG,Ck s i hi];have:=(s[i]).toNat_lt;simp only[Option.getD_some];omega
def VH(w:World)(r:Nat)(s:ByteArray)(R:ES)(v:Value):Ending->World->Prop:=λe w'=>e=.returned v/\Eh w' r s R/\BC r w w'
theorem Ss(h:Eh w r s d)(_hs:s.size<=9223372036854775807)(t:d.1<=s.size):
  Calls prog 143 #[.pointer (some ⟨r,0,none⟩)] w λe w'=>e=.returned (.int .i64 (Fi (AA s) d))/\∃k,w'=w.drewN k:=by
 obtain⟨c0,c1,c2,G⟩:=h.cells;obtain⟨a,b⟩:=d;simp only at c0 c1 c2 t;have a0:decide (((a:Nat):Int)<0)=false:=bT (by omega);by_cases I:a<s.size
 .have F:Hid (Fi (AA s) (a,b)=((s[a]).toNat:Int)):=by show Fi _ _=_;unfold Fi;rw[bA (by rw[AR];exact I),bG,Ck s a I];rfl
  have Q:decide (((s.size:Nat):Int)<=(a:Int))=false:=bT (by omega);have i1:((a:Nat):Int)<((s.size:Nat):Int):=by omega
  have T:wrap64 ((s[a]).toNat:Int)=((s[a]).toNat:Int):=by have:=(s[a]).toNat_lt;unfold wrap64;omega
  clear h;go_enter func143,ntmps143;go_wp2;go_quiet (fail);go_wp2;go_quiet (fail);go_wp2;go_ret;exact⟨by rw[F.out];show Ending.returned (.int .i64 (wrap64 _))=_;rw[T],_,World.drewN_drewN _ _ _⟩
 .have F:Hid (Fi (AA s) (a,b)= -1):=by show Fi _ _=_;unfold Fi;rw[a_ (by rw[AR];exact I)]
  have Q:decide (((s.size:Nat):Int)<=(a:Int))=true:=cC (by omega);clear h;go_enter func143,ntmps143;go_wp2;go_quiet (fail);go_wp2;go_ret;exact⟨by rw[F.out];rfl,_,rfl⟩
theorem GL(h:Eh w r s d)(hs:s.size<=9223372036854775807)(t:d.1<=s.size)(lo hi:Int)(z:0<=lo):
  Calls prog 117 #[.pointer (some ⟨r,0,none⟩),.int .i64 lo,.int .i64 hi] w (VH w r s (Ai (AA s) lo hi d).2 (.int .i64 (Ai (AA s) lo hi d).1)):=by
 have J:=Ss h hs t;obtain⟨c0,c1,c2,G⟩:=h.cells;have E:Hid (Eh w r s d):=h;have hr:=h.lt;have L:Hid (lo<=Fi (AA s) d->d.1<s.size):=by
  intro H;unfold Fi at H;rw[AR]at H;by_cases q:d.1<s.size
  .exact q
  .rw[a_ q]at H;omega
 have C:Hid (Ai (AA s) lo hi d=if Fi (AA s) d<lo\/hi<Fi (AA s) d then(0,(d.1,true))else(Fi (AA s) d,(d.1+1,d.2))):=rfl;generalize Fi (AA s) d=x at *;by_cases m:x<lo\/hi<x
 .have D:Hid (Ai (AA s) lo hi d=(0,(d.1,true))):=C.out.trans (bA m);clear h z C;rcases cR x lo with q|q
  .have N:decide (x<lo)=true:=cC q;clear m;go_enter func117,ntmps117;go_wp2_with (go_at_call 143;refine J.mono ?_;rintro e w' ⟨rfl,k,rfl⟩);go_ret;rw[D.out];exact⟨rfl,(E.out.drewN k).stick,((BC.refl _ _).drewN _).setCell _ _⟩
  .have N:decide (x<lo)=false:=bT (by omega);have U:hi<x:=by omega
   clear m;go_enter func117,ntmps117;go_wp2_with (go_at_call 143;refine J.mono ?_;rintro e w' ⟨rfl,k,rfl⟩);go_ret;rw[D.out];exact⟨rfl,(E.out.drewN k).stick,((BC.refl _ _).drewN _).setCell _ _⟩
 .have D:Hid (Ai (AA s) lo hi d=(x,(d.1+1,d.2))):=C.out.trans (a_ m);have N:¬x<lo:=by omega
  have U:¬hi<x:=by omega
  have u:=L.out (by omega);clear h z C m L;go_enter func117,ntmps117;go_wp2_with (go_at_call 143;refine J.mono ?_;rintro e w' ⟨rfl,k,rfl⟩);go_ret;rw[D.out];exact⟨rfl,(E.out.drewN k).step,((BC.refl _ _).drewN _).setCell _ _⟩
theorem GR{lo hi:Int}(S:0<=lo)(t:d.1<=s.size):(Ai (AA s) lo hi d).2.1<=s.size:=by
 have:=(EC (Om s) lo hi S d).2.2;rw[AR]at this;omega
theorem Ve(h:Eh w r s d)(hs:s.size<=9223372036854775807)(t:d.1<=s.size):
  Calls prog 155 #[.pointer (some ⟨r,0,none⟩)] w (VH w r s (JW (AA s) d).2 (.int .i64 (JW (AA s) d).1)):=by
 have h1:=GL h hs t 0 255 (by omega);have M:Hid (JW (AA s) d=((Ai (AA s) 0 255 d).1*256+(Ai (AA s) 0 255 (Ai (AA s) 0 255 d).2).1-4000,((Ai (AA s) 0 255 (Ai (AA s) 0 255 d).2).2.1,if 8000<(Ai (AA s) 0 255 d).1*256+(Ai (AA s) 0 255 (Ai (AA s) 0 255 d).2).1 then true else(Ai (AA s) 0 255 (Ai (AA s) 0 255 d).2).2.2))):=rfl;have r1:=EC (Om s) 0 255 (by omega) d;have O:=EC (Om s) 0 255 (by omega) (Ai (AA s) 0 255 d).2;have u:=GR (s:=s) (lo:=0) (hi:=255) (by omega) t;have B:Hid (∀l,Eh l r s (Ai (AA s) 0 255 d).2->Calls prog 117 #[.pointer (some ⟨r,0,none⟩),.int .i64 0,.int .i64 255] l (VH l r s (Ai (AA s) 0 255 (Ai (AA s) 0 255 d).2).2 (.int .i64 (Ai (AA s) 0 255 (Ai (AA s) 0 255 d).2).1))):=λl hc=>GL hc hs u 0 255 (by omega);rw[M.out];clear h M u;generalize Ai (AA s) 0 255 d=x at *;generalize Ai (AA s) 0 255 x.2=y at *;obtain⟨V,x2⟩:=x;obtain⟨W,P⟩:=y;simp only at r1 O|-;obtain⟨aa,ab, -⟩:=r1;obtain⟨ac,ad, -⟩:=O;by_cases m:8000<V*256+W
 .rw[bA m];go_enter func155,ntmps155;go_wp2_with fail;refine h1.mono ?_;rintro e l ⟨rfl,f,g⟩;have h2:=B.out l f;have o:Hid (BC r w l):=g;clear f g h1 B;go_wp2_with fail;refine h2.mono ?_;rintro e A ⟨rfl,c,j⟩;obtain⟨c0,c1,c2,G⟩:=c.cells;have K:=c.lt;have n:Hid (Eh A r s P):=c;have p:Hid (BC r w A):=o.out.trans j;clear c j h2;go_wp2_with fail;go_ret;exact⟨rfl,n.out.stick,p.out.setCell _ _⟩
 .rw[a_ m];go_enter func155,ntmps155;go_wp2_with fail;refine h1.mono ?_;rintro e l ⟨rfl,f,g⟩;have h2:=B.out l f;have o:Hid (BC r w l):=g;clear f g h1 B;go_wp2_with fail;refine h2.mono ?_;rintro e A ⟨rfl,c,j⟩;obtain⟨c0,c1,c2,G⟩:=c.cells;have K:=c.lt;have n:Hid (Eh A r s P):=c;have p:Hid (BC r w A):=o.out.trans j;clear c j h2;go_wp2_with fail;go_ret;exact⟨rfl,n.out,p.out⟩
end Go.Proofs.YtffajooegiempaaGreatDoor
