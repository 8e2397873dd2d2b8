import Derived.Test.YtffajooegiempaaGreatDoorJ0
import Derived.Laws.AppendOwn
import Derived.Laws.BytesArg
import Derived.Laws.Concat
set_option maxRecDepth 100000
set_option maxHeartbeats 6400000
namespace Go.Proofs.YtffajooegiempaaGreatDoor
open Go.RowKit
variable {w:World}
abbrev Mx:TypeId:=5
def MF(xs:List Int):List Value:=xs.map (Value.int .u8)
theorem Vd(xs ys:List Int):MF (xs++ys)=MF xs++MF ys:=by simp[MF]
def EJ(w:World)(base:Nat)(v:Value)(xs:List Int):Prop:=w.ownsRow base Mx 1 v xs.length (MF xs)/\∃g cap,v=.slice (some ⟨g,0,none⟩) xs.length cap
theorem Bm{w w':World}{base e size n:Nat}{v:Value}{xs:List Value}(h:w.ownsRow base e size v n xs)(hb:∀k,v.ownBlock=some k->w'.heap[k]?=w.heap[k]?):w'.ownsRow base e size v n xs:=by
 obtain⟨h1,h2⟩:=h;refine⟨h1,?_⟩;rcases h2 with h2|⟨g,cap,c,hv,hg,hh,r⟩
 ·exact .inl h2
 ·exact .inr ⟨g,cap,c,hv,hg,by rw[hb g (by rw[hv];rfl)];exact hh,r⟩
theorem EJ.keep{w w':World}{base B:Nat}{v:Value}{xs:List Int}(h:EJ w base v xs)(hb:Below B w w')(hB:w.heap.size<=B):EJ w' base v xs:=
 ⟨Bm h.1 (λk hk=>hb.block k (by have:=(h.1.lt k hk).2;omega)),h.2⟩
theorem EJ.cells{base:Nat}{g cap:Nat}{xs:List Int}(h:EJ w base (.slice (some ⟨g,0,none⟩) xs.length cap) xs):∀i,i<xs.length->w.cell? ⟨g,i,none⟩=some (.int .u8 (xs.getD i 0)):=by
 intro i hi;have:=h.1.cells (g:=g) rfl i (.int .u8 (xs.getD i 0)) (by simp[MF,List.getD,hi]);have e1:(⟨g,0,none⟩:Addr).add i=⟨g,i,none⟩:=by unfold Addr.add;split<;>simp_all
 rwa[e1]at this
theorem EJ.new(w:World)(xs:List Int)(base:Nat)(hb:base<=w.heap.size)(hx:xs.length<=maxLen):EJ (w.alloc (.cells (MF xs).toArray Mx)) base (.slice (some ⟨w.heap.size,0,none⟩) xs.length xs.length) xs:=
 ⟨⟨by simp[MF],.inr ⟨w.heap.size,xs.length,(MF xs).toArray,rfl,hb,heap_alloc_new w _,Nat.le_refl _,hx,by simp[MF],List.take_of_length_le (by simp[MF])⟩⟩,_,_,rfl⟩
theorem Dc{base:Nat}{v:Value}{xs ys:List Int}{ops:Array Oper}{rest:List Oper}{o:Oper}{a:Act}{Q:Exit->Act->World->Prop}(hgd:o.guard=none)(s x:Operand)
  (ho:o.op=.call {callee:=.builtin .append,args:=#[s,x],argTypes:=#[130,130]})
  (hs:a.eval s=v) (hown:EJ w base v xs) (g c:Nat) (hx:a.eval x=.slice (some ⟨g,0,none⟩) ys.length c) (hnews:∀i,i<ys.length->w.cell? ⟨g,i,none⟩=some (.int .u8 (ys.getD i 0)))
  (h63:xs.length+ys.length<=1000000) (hbase:base<=w.heap.size)
  (h:∀v' w',EJ w' base v' (xs++ys)->w.grownBy w' v.ownBlock->wpList Tryz.prog ops Q rest (a.put o.dst v') w'):wpList Tryz.prog ops Q (o::rest) a w:=by
 obtain⟨i0,hi,hz0,hz1,hz2⟩:=info_parts (P:=Tryz.prog) (e:=Mx) (z:=.int .u8 0) (size:=1) (bytes:=1) (by kernel_rfl);obtain⟨hrow,q,cap,rfl⟩:=hown
 refine wpList_append_own _ hgd s x 130 ho base Mx i0 _ 1 1 Tryz.underlying130 hi hz0 hz1 hz2 rfl (by decide) _ _ _ hs hrow ⟨g,0,none⟩ ys.length c (MF ys) hx (by simp[MF]) (by
  intro j u hj;have hjl:j<ys.length:=by
   rcases Nat.lt_or_ge j ys.length with q|q
   ·exact q
   ·rw[List.getElem?_eq_none (by simp[MF];omega)]at hj;cases hj
  have e1:(⟨g,0,none⟩:Addr).add j=⟨g,j,none⟩:=by unfold Addr.add;split<;>simp_all
  rw[e1,hnews j hjl];simpa[MF,List.getD,hjl]using hj) (by
  intro u hu;obtain⟨y,_,rfl⟩:=List.mem_map.1 hu
  rfl) (by unfold maxLen;omega) (by omega) hbase ?_
 intro v' w' h2 h3 h4;refine h v' w' ⟨by rw[List.length_append,Vd];exact h2,?_⟩ h3;rcases h2.2 with⟨e,_⟩|⟨g',cap',cur,e,_⟩
 ·obtain⟨e1,_⟩:=h4.1 e;cases e1
 ·exact⟨g',cap',by rw[List.length_append];exact e⟩
theorem NW(p off cu:Nat)(l:List Int)(_hp:p<w.heap.size)(hc:∀i,i<32->w.cell? ⟨p,off+i,none⟩=some (.int .i64 (l.getD i 0))):
  Calls Tryz.prog 122 #[.slice (some ⟨p,off,none⟩) 32 cu] w λe w'=>e=.returned (.int .i64 ((ct l 32:Nat):Int))/\w'=w:=by
 have HC:Hid (∀i,i<32->w.cell? ⟨p,off+i,none⟩=some (.int .i64 (l.getD i 0))):=hc;obtain⟨C,hC⟩:∃C,C=ct l:=⟨_,rfl⟩
 have HS:Hid (∀f,C (f+1)=C f+(if l.getD f 0=1000000 then 0 else 1)):=by rw[hC];exact E9 l
 have HL:Hid (∀f,C f<=f):=by rw[hC];exact J6 l
 have HZ:Hid (C 0=0):=by rw[hC];rfl
 rw[<-hC];clear hc hC;go_enter Tryz.func122,Tryz.ntmps122;go_wp2_with fail;go_loopw [3,8] (λt i wr=>∃(f:Nat),f<=32/\i=.int .i64 f/\wr=w/\t=.int .i64 ((C f:Nat):Int)) (λ_ i _=>32-(intOf i).toNat);case atStart=>exact⟨0,by omega,rfl,rfl,by rw[HZ.out];rfl⟩
 case round=>
  obtain⟨f,hf,rfl,rfl,rfl⟩:=hrel;have hcf:=HL.out f;by_cases hlt:f<32
  ·have hfi:(f:Int)<32:=by omega
   have cx:=HC.out f hlt;have HEq:=(show Hid (_=_)from HS.out f)
   generalize l.getD f 0=x at *;generalize C f=cf at *;by_cases e1:x=1000000
   ·have e1':(x != 1000000)=false:=by rw[e1];rfl
    have HX:Hid (C (f+1)=cf):=by show _=_;rw[HEq.out,if_pos e1];rfl
    go_wp2_with fail;go_roundw;case rel=>exact⟨f+1,by omega,by go_num,by simp,by rw[HX.out]⟩
    case measure=>simp[intOf];omega
   ·have e1':(x != 1000000)=true:=by rw[bne_iff_ne];exact e1
    have HX:Hid (C (f+1)=cf+1):=by show _=_;rw[HEq.out,if_neg e1]
    go_wp2_with fail;go_roundw;case rel=>exact⟨f+1,by omega,by go_num,by simp,by rw[HX.out];go_num⟩
    case measure=>simp[intOf];omega
  ·have hf32:f=32:=by omega
   subst hf32;go_wp2_with fail;go_ret;exact⟨rfl,rfl⟩
theorem Wr(x:Int)(h0:0<=x):x.tdiv 256=x/256:=Int.tdiv_eq_ediv_of_nonneg h0
theorem Ws(x:Int)(h0:0<=x):x.tmod 256=x%256:=Int.tmod_eq_emod_of_nonneg h0
def Zn(w:World)(xs:List Int):Ending->World->Prop:=λe w'=>∃v,EJ w' w.heap.size v xs/\e=.returned v/\Below w.heap.size w w'
theorem MI(p off cu:Nat)(l:List Int)(hp:p<w.heap.size)(hc:∀i,i<32->w.cell? ⟨p,off+i,none⟩=some (.int .i64 (l.getD i 0)))(hb:∀f,f<32->On (l.getD f 0)):
  Calls Tryz.prog 88 #[.slice (some ⟨p,off,none⟩) 32 cu] w (Zn w (((ct l 32:Nat):Int)::tl l 32)):=by
 have HC:Hid (∀i,i<32->w.cell? ⟨p,off+i,none⟩=some (.int .i64 (l.getD i 0))):=hc;have HB:Hid (∀f,f<32->On (l.getD f 0)):=hb;have hct:=NW p off cu l hp hc;have hcl:=J6 l 32;obtain⟨T,hT⟩:∃T,T=tl l:=⟨_,rfl⟩
 have HT:Hid (∀f,T (f+1)=T f++(if l.getD f 0=1000000 then[]else b3 (f,l.getD f 0))):=by rw[hT];exact Im l
 have HTL:Hid (∀f,f<=32->(T f).length<=96):=by
  rw[hT];intro f hf;rw[JC];have:=J6 l f;omega
 have HZ:Hid (T 0=[]):=by rw[hT];rfl
 rw[<-hT];generalize ct l 32=cc at *;have HN:Hid (EJ (w.alloc (.cells #[.int .u8 ((cc:Nat):Int)] Mx)) w.heap.size (.slice (some ⟨w.heap.size,0,none⟩) 1 1) [((cc:Nat):Int)]):=EJ.new w [((cc:Nat):Int)] w.heap.size (Nat.le_refl _) (by simp[maxLen]);have HB1:Hid (Below w.heap.size w (w.alloc (.cells #[.int .u8 ((cc:Nat):Int)] Mx))):=(Below.refl _ _).alloc (Nat.le_refl _) _;clear hc hb hT;go_enter Tryz.func88,Tryz.ntmps88;go_wp2_with fail;refine hct.mono ?_;rintro e w1 ⟨rfl,rfl⟩;clear hct;go_wp2_with fail;go_loopw [3,13] (λsl i wr=>∃(f g cap n:Nat),f<=32/\i=.int .i64 f/\sl=.slice (some ⟨g,0,none⟩) n cap/\n<=97/\Hid (EJ wr w1.heap.size (.slice (some ⟨g,0,none⟩) n cap) (((cc:Nat):Int)::T f)/\Below w1.heap.size w1 wr)) (λ_ i _=>32-(intOf i).toNat);case atStart=>exact⟨0,_,_,_,by omega,rfl,rfl,by omega,by show _/\_;rw[HZ.out];exact⟨HN.out,HB1.out⟩⟩
 case round=>
  obtain⟨f,g,cap,n,hf,rfl,rfl,hn,HR⟩:=hrel;by_cases hlt:f<32
  ·have hfi:(f:Int)<32:=by omega
   have cx:wr.cell? ⟨p,off+f,none⟩=some (.int .i64 (l.getD f 0)):=(HR.out.2.cell (p:=⟨p,off+f,none⟩) hp).trans (HC.out f hlt);have hpr:p<wr.heap.size:=Nat.lt_of_lt_of_le hp HR.out.2.size;have HEq:=(show Hid (_=_)from HT.out f)
   have HBf:=(show Hid (On _)from HB.out f hlt)
   have HL1:=(show Hid (_<=_)from HTL.out (f+1) (by omega))
   generalize l.getD f 0=x at *;by_cases e1:x=1000000
   ·have e1':(x==1000000)=true:=by rw[e1];rfl
    have HX:Hid (T (f+1)=T f):=by show _=_;rw[HEq.out,if_pos e1,List.append_nil]
    go_wp2_with fail;go_roundw;case rel=>exact⟨f+1,g,cap,n,by omega,by go_num,rfl,hn,by show _/\_;rw[HX.out];exact HR.out⟩
    case measure=>simp[intOf];omega
   ·have e1':(x==1000000)=false:=by simpa using e1
    obtain⟨x1,x2⟩: -4000<=x/\x<=4000:=HBf.out.resolve_left e1;have HX:Hid (T (f+1)=T f++[(f:Int),(x+4000)/256,(x+4000)%256]):=by show _=_;rw[HEq.out,if_neg e1];rfl
    have r1:=Wr (x+4000) (by omega);have r2:=Ws (x+4000) (by omega);have y1:0<=(x+4000)/256:=by omega
    have y2:(x+4000)/256<=255:=by omega
    have y3:0<=(x+4000)%256:=by omega
    have y4:(x+4000)%256<=255:=by omega
    generalize(x+4000)/256=ya at *;generalize(x+4000)%256=yb at *;have HLn:Hid ((((cc:Nat):Int)::T f).length=n):=by
     obtain⟨_,g',cap',e⟩:=HR.out.1;injection e with _ e2 _;exact e2.symm
    have hln:n+3<=97:=by
     have h1:=HL1.out;rw[HX.out]at h1;have h2:=HLn.out;simp at h1 h2;omega
    go_wp2_with (at_builtin;refine Dc (xs:=((cc:Nat):Int)::T f) (ys:=[(f:Int),ya,yb]) rfl (.tmp 22) (.tmp 31) rfl rfl (HR.out.1.keep ((Below.refl _ _).alloc (Nat.le_refl _) _) (Nat.le_refl _)) wr.heap.size 3 rfl (by
      intro i hi
      match i,hi with
      |0,_=>exact World.cell?_alloc_at _ _ _ _ rfl
      |1,_=>exact World.cell?_alloc_at _ _ _ _ rfl
      |2,_=>exact World.cell?_alloc_at _ _ _ _ rfl) (by rw[HLn.out];simp;omega) (by have:=HR.out.2.size;simp;omega) ?_;intro v5 w5 hrow5 hgrow5)
    obtain⟨hr5,g5,c5,rfl⟩:=id hrow5;have H5:Hid (EJ w5 w1.heap.size (.slice (some ⟨g5,0,none⟩) (n+3) c5) (((cc:Nat):Int)::T (f+1))/\Below w1.heap.size w1 w5):=by
     have e:(((cc:Nat):Int)::T f++[(f:Int),ya,yb]).length=n+3:=by rw[List.length_append,HLn.out];rfl
     rw[e]at hrow5;refine⟨by rw[HX.out];exact hrow5,?_⟩;exact((HR.out.2.alloc HR.out.2.size _).grown hgrow5 (by have:=HR.out.2.size;simp;omega) (λk hk=>(HR.out.1.1.lt k hk).1))
    have e:(((cc:Nat):Int)::T f++[(f:Int),ya,yb]).length=n+3:=by rw[List.length_append,HLn.out];rfl
    rw[e];clear hr5 hrow5 hgrow5;go_roundw;case rel=>exact⟨f+1,g5,c5,n+3,by omega,by go_num,rfl,by omega,H5.out⟩
    case measure=>simp[intOf];omega
  ·have hf32:f=32:=by omega
   subst hf32;go_wp2_with fail;go_ret;exact⟨_,HR.out.1,rfl,HR.out.2⟩
def Kt(w:World)(v:Value):Option (List Int)->Prop
 |none=>v=.slice none 0 0
 |some l=>AQ w v l/\∃a n c,v=.slice (some a) n c
def CX(w:World)(v:Value)(L:List (Option (List Int))):Prop:=
 ∃ao cap,v=.slice ao L.length cap/\L.length<=cap/\(L.length≠0->∃b off,ao=some ⟨b,off,none⟩/\b<w.heap.size/\∀i,i<L.length->∃x,w.cell? ⟨b,off+i,none⟩=some x/\Kt w x (L.getD i none))
theorem Kt.keep{w w':World}{v:Value}{r:Option (List Int)}(h:Kt w v r)(hb:Below w.heap.size w w'):Kt w' v r:=by
 cases r with
 |none=>exact h
 |some l=>exact⟨h.1.keep hb,h.2⟩
theorem CX.keep{w w':World}{v:Value}{L:List (Option (List Int))}(h:CX w v L)(hb:Below w.heap.size w w'):CX w' v L:=by
 obtain⟨ao,cap,hv,hc,h0⟩:=h;refine⟨ao,cap,hv,hc,λhn=>?_⟩;obtain⟨b,off,ha,hlt,hcell⟩:=h0 hn;refine⟨b,off,ha,Nat.lt_of_lt_of_le hlt hb.size,λi hi=>?_⟩;obtain⟨x,h1,h2⟩:=hcell i hi;exact⟨x,(hb.cell (by exact hlt)).trans h1,h2.keep hb⟩
def TP:Option (List Int)->Bool
 |none=>true
 |some l=>FM l
def Lf(L:List (Option (List Int))):Nat->Bool
 |0=>true
 |n+1=>Lf L n&&TP (L.getD n none)
def DH(L:List (Option (List Int))):List Int×Int:=
 if L.length<1\/21<L.length then([],4)else if Lf L L.length then(IM L,0)else([],3)
def VI(w:World)(L:List (Option (List Int))):Ending->World->Prop:=λe w'=>e=.returned (.tuple #[.string (strOfNums (DH L).1),.int .i64 (DH L).2])/\Below w.heap.size w w'
theorem MQ{L:List (Option (List Int))}:∀{n:Nat},Lf L n=true↔∀i,i<n->TP (L.getD i none)=true:=by
 intro n;induction n with
 |zero=>exact⟨λ_ i hi=>absurd hi (by omega),λ_=>rfl⟩
 |succ n ih=>
  show(Lf L n&&TP (L.getD n none))=true↔_;rw[Bool.and_eq_true,ih];constructor
  ·rintro⟨h1,h2⟩ f hf;rcases Nat.lt_or_eq_of_le (Nat.lt_succ_iff.1 hf)with q|q
   ·exact h1 f q
   ·rw[q];exact h2
  ·intro h;exact⟨λf hf=>h f (by omega),h n (by omega)⟩
theorem TN{L:List (Option (List Int))}{n i:Nat}(hi:i<n)(h:TP (L.getD i none)=false):Lf L n=false:=by
 cases e:Lf L n with
 |false=>rfl
 |true=>rw[MQ.1 e i hi]at h;cases h
theorem J_(r:Option (List Int)):(Dk r).length<=98:=by
 cases r with
 |none=>show 1<=98;omega
 |some l=>
  have e:(Dk (some l)).length=(tl l 32).length+2:=rfl;have:=J6 l 32;rw[e,JC];omega
theorem IN(L:List (Option (List Int))):∀n,(Br L n).length<=98*n
 |0=>Nat.le_refl _
 |n+1=>by
  have h1:=IN L n;have h2:=J_ (L.getD n none);show(Br L n++Dk (L.getD n none)).length<=_;rw[List.length_append];omega
theorem AQ.good{v:Value}{l:List Int}(h:AQ w v l)(hg:FM l=true):∃p off cu,v=.slice (some ⟨p,off,none⟩) 32 cu/\p<w.heap.size/\(∀i,i<32->w.cell? ⟨p,off+i,none⟩=some (.int .i64 (l.getD i 0)))/\∀f,f<32->On (l.getD f 0):=by
 have hok:=CG.1 hg;obtain⟨ao,cap,rfl,hc,h0⟩:=h;obtain⟨p,off,rfl,hp,hcell⟩:=h0 (by rw[hok.1];decide);rw[hok.1]at hcell|-;exact⟨p,off,cap,rfl,hp,hcell,λf hf=>by have:=of_decide_eq_true (hok.2 f hf);exact this⟩
theorem XT{w w2 w3 w5:World}{g m cap g3 c3 g5 c5:Nat}{xs ys part:List Int}{o:Obj}{G:Prop}(h1:EJ w2 w.heap.size (.slice (some ⟨g,0,none⟩) m cap) xs)(h2:Below w.heap.size w w2)
  (h3:EJ w3 w2.heap.size (.slice (some ⟨g3,0,none⟩) part.length c3) part) (h4:Below w2.heap.size w2 w3) (h5:EJ w5 w.heap.size (.slice (some ⟨g5,0,none⟩) (m+1) c5) ys) (h6:(w3.alloc o).grownBy w5 (Value.slice (some ⟨g,0,none⟩) m cap).ownBlock)
  (hG:Hid (EJ w5 w.heap.size (.slice (some ⟨g5,0,none⟩) (m+1) c5) ys/\Below w.heap.size w w5/\EJ w5 w2.heap.size (.slice (some ⟨g3,0,none⟩) part.length c3) part)->G):G:=by
 refine hG ?_;have s1:=h2.size;have s2:=h4.size;refine⟨h5,((h2.trans (h4.mono s1)).alloc (by omega) _).grown h6 (by simp;omega) (λk hk=>(h1.1.lt k hk).1),?_⟩;refine⟨Bm h3.1 (λk hk=>?_),h3.2⟩;have hk3:=h3.1.lt k hk;rw[h6.block k (by simp;omega) (λe=>by have:=h1.1.lt k e.symm;omega)];exact heap_alloc_old _ _ hk3.2
theorem Sr(v:Value)(L:List (Option (List Int)))(_hm:L.length<=maxLen)(hv:CX w v L):Calls Tryz.prog 56 #[v] w (VI w L):=by
 obtain⟨ao,cap,rfl,hcap,h0⟩:=hv;by_cases hbad:L.length<1\/21<L.length
 ·have HE:Hid (DH L=([],4)):=by show DH L=_;unfold DH;rw[if_pos hbad]
  clear h0;rcases hbad with hb|hb
  ·have hz:L.length=0:=by omega
   rw[hz];clear hz hb hcap;go_enter Tryz.func56,Tryz.ntmps56;go_wp2_with fail
   go_ret2
   exact⟨by rw[HE.out];rfl,Below.refl _ _⟩
  ·have hb1:((L.length:Int)==0)=false:=by simp;intro e;rw[e]at hb;simp at hb
   have hb2:(21:Int)<(L.length:Int):=by omega
   clear hb;go_enter Tryz.func56,Tryz.ntmps56;go_wp2_with fail
   go_ret2
   exact⟨by rw[HE.out];rfl,Below.refl _ _⟩
 obtain⟨n,hn⟩:∃n,n=L.length:=⟨_,rfl⟩
 have n1:1<=n:=by omega
 have n2:n<=21:=by omega
 have HE:Hid (DH L=if Lf L n then((n:Int)::Br L n,0)else([],3)):=by show DH L=_;unfold DH;rw[if_neg hbad,hn];rfl
 obtain⟨p,off,rfl,hp,hcell⟩:=h0 (by omega);rw[<-hn]at hcell hcap|-;have HC:Hid (∀i,i<n->∃x,w.cell? ⟨p,off+i,none⟩=some x/\Kt w x (L.getD i none)):=hcell;have hb1:((n:Int)==0)=false:=by simp;omega
 have hb2:¬(21:Int)<(n:Int):=by omega
 have HN:Hid (EJ (w.alloc (.cells #[.int .u8 (n:Int)] Mx)) w.heap.size (.slice (some ⟨w.heap.size,0,none⟩) 1 1) [(n:Int)]):=EJ.new w [(n:Int)] w.heap.size (Nat.le_refl _) (by simp[maxLen]);have HB1:Hid (Below w.heap.size w (w.alloc (.cells #[.int .u8 (n:Int)] Mx))):=(Below.refl _ _).alloc (Nat.le_refl _) _;have hq1:∀(w:World)(a:Option Addr)(n c:Nat),(binOp .eql 32 (.slice a n c) (.slice none 0 0)).run Tryz.prog w=.ok (.bool a.isNone) w:=λw a n c=>Lib.run_eql_slice_nil w 32 3 a n c 0 0 Tryz.underlying32;have HStr:Hid (∀(w:World)(b len cap:Nat)(xs:List Int),xs.length=len->(∀i,i<len->w.cell? ⟨b,0+i,none⟩=some (.int .u8 (xs.getD i 0)))->(convert 130 9 (.slice (some ⟨b,0,none⟩) len cap)).run Tryz.prog w=.ok (.string (strOfNums xs)) w):=λw b len cap xs h1 h2=>run_convert_bytes_arg (P:=Tryz.prog) w 130 Mx Tryz.underlying130 (by kernel_rfl) b 0 len cap xs h1 h2 9 (by kernel_rfl);clear hcell hcap h0 hbad _hm hn;go_enter Tryz.func56,Tryz.ntmps56;go_wp2_with fail;go_loopw [4,22] (λsl i wr=>∃(f g cap m:Nat),f<=n/\i=.int .i64 f/\sl=.slice (some ⟨g,0,none⟩) m cap/\m<=1+98*f/\Hid (EJ wr w.heap.size (.slice (some ⟨g,0,none⟩) m cap) ((n:Int)::Br L f)/\Below w.heap.size w wr/\Lf L f=true)) (λ_ i _=>n-(intOf i).toNat);case atStart=>exact⟨0,_,_,_,by omega,rfl,rfl,by omega,HN.out,HB1.out,rfl⟩
 case round=>
  obtain⟨f,g,cap1,m,hf,rfl,rfl,hm,HR⟩:=hrel;have HLn:Hid (((n:Int)::Br L f).length=m):=by
   obtain⟨_,g',cap',e⟩:=HR.out.1;injection e with _ e2 _;exact e2.symm
  by_cases hlt:f<n
  ·have hfi:(f:Int)<(n:Int):=by omega
   obtain⟨x,hx,hrx⟩:=HC.out f hlt;have cx:wr.cell? ⟨p,off+f,none⟩=some x:=(HR.out.2.1.cell (p:=⟨p,off+f,none⟩) hp).trans hx;have HRx:Hid (Kt wr x (L.getD f none)):=hrx.keep HR.out.2.1;have hpr:p<wr.heap.size:=Nat.lt_of_lt_of_le hp HR.out.2.1.size;have HEq:Hid (Br L (f+1)=Br L f++Dk (L.getD f none)):=rfl;have HGd:Hid (Lf L (f+1)=(Lf L f&&TP (L.getD f none))):=rfl;have HNo:Hid (TP (L.getD f none)=false->Lf L n=false):=λh=>TN hlt h;have HEl:=(show Hid (_<=_)from IN L (f+1))
   clear hx hrx;generalize L.getD f none=r at *;cases r with
   |none=>
    have hxe:x=.slice none 0 0:=HRx.out;subst hxe
    go_wp2_with (at_builtin;refine Dc (xs:=(n:Int)::Br L f) (ys:=[0]) rfl (.tmp 28) (.tmp 29) rfl rfl (HR.out.1.keep ((Below.refl _ _).alloc (Nat.le_refl _) _) (Nat.le_refl _)) wr.heap.size 1 rfl (by
      intro i hi
      match i,hi with
      |0,_=>exact World.cell?_alloc_at _ _ _ _ rfl) (by rw[HLn.out];simp;omega) (by have:=HR.out.2.1.size;simp;omega) ?_;intro v5 w5 hrow5 hgrow5)
    obtain⟨hr5,g5,c5,rfl⟩:=id hrow5;have e:((n:Int)::Br L f++[0]).length=m+1:=by rw[List.length_append,HLn.out];rfl
    have H5:Hid (EJ w5 w.heap.size (.slice (some ⟨g5,0,none⟩) (m+1) c5) ((n:Int)::Br L (f+1))/\Below w.heap.size w w5/\Lf L (f+1)=true):=by
     rw[e]at hrow5;refine⟨by rw[HEq.out];exact hrow5,?_,by rw[HGd.out,HR.out.2.2];rfl⟩;exact((HR.out.2.1.alloc HR.out.2.1.size _).grown hgrow5 (by have:=HR.out.2.1.size;simp;omega) (λk hk=>(HR.out.1.1.lt k hk).1))
    rw[e];clear hr5 hrow5 hgrow5;go_roundw;case rel=>exact⟨f+1,g5,c5,m+1,by omega,by go_num,rfl,by omega,H5.out⟩
    case measure=>simp[intOf];omega
   |some l=>
    have hil:=KN (w:=wr) x l HRx.out.1;obtain⟨a,xn,xc,rfl⟩:=HRx.out.2;cases hg:FM l with
    |false=>
     rw[hg]at hil;have HF:Hid (DH L=([],3)):=by show DH L=_;rw[HE.out,HNo.out hg];rfl
     clear hg;go_wp2_with fail;refine hil.mono ?_;rintro e w2 ⟨rfl,rfl⟩;go_wp2_with fail
     go_ret2
     exact⟨by rw[HF.out];rfl,HR.out.2.1⟩
    |true=>
     rw[hg]at hil;obtain⟨p2,off2,cu2,e2,hp2,hc2,hb2'⟩:=HRx.out.1.good hg;injection e2 with e2 e3 e4
     injection e2 with e2
     subst e2 e3 e4;have htb:=MI p2 off2 xc l hp2 hc2 hb2';have HG1:Hid (TP (some l)=true):=hg;have HE1:Hid (Dk (some l)=[1]++(((ct l 32:Nat):Int)::tl l 32)):=rfl;generalize((ct l 32:Nat):Int)::tl l 32=part at *;clear hg hc2 hb2';go_wp2_with fail;refine hil.mono ?_;rintro e w2 ⟨rfl,rfl⟩;go_wp2_with fail;refine htb.mono ?_;rintro e w3 ⟨v3,hrow3,rfl,hb3⟩;obtain⟨hr3,g3,c3,rfl⟩:=id hrow3;have H3:Hid (EJ w3 w2.heap.size (.slice (some ⟨g3,0,none⟩) part.length c3) part/\Below w2.heap.size w2 w3/\EJ w3 w.heap.size (.slice (some ⟨g,0,none⟩) m cap1) ((n:Int)::Br L f)):=⟨hrow3,hb3,HR.out.1.keep hb3 (Nat.le_refl _)⟩
     have HPl:Hid (part.length<=97):=by
      have h1:=J_ (some l);rw[HE1.out]at h1;simp at h1;show part.length<=97;omega
     clear hr3 hrow3 hb3 htb hil;have e:((n:Int)::Br L f++[1]).length=m+1:=by rw[List.length_append,HLn.out];rfl
     have HLe:Hid (((n:Int)::Br L f++[1]).length=m+1):=e;clear e
     go_wp2_with (at_builtin;first|(refine Dc (xs:=(n:Int)::Br L f) (ys:=[1]) rfl (.tmp 36) (.tmp 37) rfl rfl (H3.out.2.2.keep ((Below.refl _ _).alloc (Nat.le_refl _) _) (Nat.le_refl _)) w3.heap.size 1 rfl (by
        intro i hi
        match i,hi with
        |0,_=>exact World.cell?_alloc_at _ _ _ _ rfl) (by rw[HLn.out];simp;omega) (by have:=HR.out.2.1.size;have:=H3.out.2.1.size;simp;omega) ?_;intro v5 w5 hrow5 hgrow5;obtain⟨hr5,g5,c5,e5⟩:=id hrow5;rw[HLe.out]at e5;subst e5;refine XT HR.out.1 HR.out.2.1 H3.out.1 H3.out.2.1 hrow5 hgrow5 (λH5=>?_);clear hr5 hrow5 hgrow5)|(refine Dc (xs:=(n:Int)::Br L f++[1]) (ys:=part) rfl (.tmp 39) (.tmp 40) rfl rfl H5.out.1 g3 c3 rfl H5.out.2.2.cells (by have:=HPl.out;rw[HLe.out];omega) H5.out.2.1.size ?_;intro v6 w6 hrow6 hgrow6))
     obtain⟨hr6,g6,c6,rfl⟩:=id hrow6;have e':((n:Int)::Br L f++[1]++part).length=m+1+part.length:=by rw[List.length_append,HLe.out]
     have H6:Hid (EJ w6 w.heap.size (.slice (some ⟨g6,0,none⟩) (m+1+part.length) c6) ((n:Int)::Br L (f+1))/\Below w.heap.size w w6/\Lf L (f+1)=true):=by
      rw[e']at hrow6;refine⟨by rw[HEq.out,HE1.out,<-List.append_assoc];exact hrow6,H5.out.2.1.grown hgrow6 H5.out.2.1.size (λk hk=>(H5.out.1.1.lt k hk).1),by rw[HGd.out,HR.out.2.2,HG1.out];rfl⟩
     rw[e'];have hpl:=HPl.out;clear hr6 hrow6 hgrow6;go_roundw;case rel=>exact⟨f+1,g6,c6,m+1+part.length,by omega,by go_num,rfl,by omega,H6.out⟩
     case measure=>simp[intOf];omega
  ·have hfn:f=n:=by omega
   subst hfn
   have hs1:=HStr.out wr g m cap1 ((f:Int)::Br L f) HLn.out (by
    intro i hi;rw[Nat.zero_add];have:=HR.out.1;rw[<-HLn.out]at this hi
    exact this.cells i hi)
   have HF:Hid (DH L=((f:Int)::Br L f,0)):=by show DH L=_;rw[HE.out,HR.out.2.2];rfl
   go_wp2_with fail
   go_ret2
   exact⟨by rw[HF.out];rfl,HR.out.2.1⟩
theorem Mv(xs ys:List Int):strOfNums (xs++ys)=strOfNums xs++strOfNums ys:=by
 apply ByteArray.ext;simp[strOfNums,ByteArray.data_append]
theorem GW(w:World)(xs:List Int):(convert 130 9 (.slice (some ⟨w.heap.size,0,none⟩) xs.length xs.length)).run Tryz.prog (w.alloc (.cells (MF xs).toArray Mx))=.ok (.string (strOfNums xs)) (w.alloc (.cells (MF xs).toArray Mx)):=by
 refine run_convert_bytes_arg (P:=Tryz.prog) _ 130 Mx Tryz.underlying130 (by kernel_rfl) w.heap.size 0 xs.length xs.length xs rfl ?_ 9 (by kernel_rfl);intro i hi;rw[Nat.zero_add];exact(World.cell?_alloc_at _ _ _ _ rfl).trans (show(MF xs).toArray[i]?=some (.int .u8 (xs.getD i 0)) by simp[MF,List.getD,hi])
theorem YD(p off cu:Nat)(l:List Int)(hp:p<w.heap.size)(hc:∀i,i<32->w.cell? ⟨p,off+i,none⟩=some (.int .i64 (l.getD i 0)))(hb:∀f,f<32->On (l.getD f 0)):
  Calls Tryz.prog 100 #[.slice (some ⟨p,off,none⟩) 32 cu] w λe w'=>e=.returned (.string (strOfNums (Dk (some l))))/\Below w.heap.size w w':=by
 have HC:Hid (∀i,i<32->w.cell? ⟨p,off+i,none⟩=some (.int .i64 (l.getD i 0))):=hc;have HB:Hid (∀f,f<32->On (l.getD f 0)):=hb;obtain⟨T,hT⟩:∃T,T=tl l:=⟨_,rfl⟩
 obtain⟨C,hC⟩:∃C,C=ct l:=⟨_,rfl⟩
 have HT:Hid (∀f,T (f+1)=T f++(if l.getD f 0=1000000 then[]else b3 (f,l.getD f 0))):=by rw[hT];exact Im l
 have HS:Hid (∀f,C (f+1)=C f+(if l.getD f 0=1000000 then 0 else 1)):=by rw[hC];exact E9 l
 have HL:Hid (∀f,C f<=f):=by rw[hC];exact J6 l
 have HTL:Hid (∀f,(T f).length=3*C f):=by rw[hT,hC];exact JC l
 have HZ:Hid (T 0=[]/\C 0=0):=by rw[hT,hC];exact⟨rfl,rfl⟩
 have HE:Hid (Dk (some l)=[1,((C 32:Nat):Int)]++T 32):=by show _=_;rw[hT,hC,LY];simp only[List.cons_append,List.nil_append]
 have hs3:∀(w:World)(x y z:Int),(convert 130 9 (.slice (some ⟨w.heap.size,0,none⟩) 3 3)).run Tryz.prog (w.alloc (.cells #[.int .u8 x,.int .u8 y,.int .u8 z] Mx))=.ok (.string (strOfNums [x,y,z])) (w.alloc (.cells #[.int .u8 x,.int .u8 y,.int .u8 z] Mx)):=λw x y z=>GW w [x,y,z];have hs2:∀(w:World)(x y:Int),(convert 130 9 (.slice (some ⟨w.heap.size,0,none⟩) 2 2)).run Tryz.prog (w.alloc (.cells #[.int .u8 x,.int .u8 y] Mx))=.ok (.string (strOfNums [x,y])) (w.alloc (.cells #[.int .u8 x,.int .u8 y] Mx)):=λw x y=>GW w [x,y];have hz3:∀x y z:Int,(strOfNums [x,y,z]).size=3:=λ_ _ _=>rfl;have hz2:∀x y:Int,(strOfNums [x,y]).size=2:=λ_ _=>rfl;rw[HE.out];clear hc hb hT hC HE;go_enter Tryz.func100,Tryz.ntmps100;go_wp2_with fail;go_loopw [3,4,5] (λt s i wr=>∃(f cf:Nat)(S:ByteArray),f<=32/\i=.int .i64 f/\t=.int .i64 (cf:Int)/\cf<=32/\s=.string S/\S.size<=96/\Hid (S=strOfNums (T f)/\cf=C f/\Below w.heap.size w wr)) (λ_ _ i _=>32-(intOf i).toNat);case atStart=>exact⟨0,0,_,by omega,rfl,rfl,by omega,rfl,by decide,by rw[HZ.out.1];rfl,HZ.out.2.symm,Below.refl _ _⟩
 case round=>
  obtain⟨f,cf,S,hf,rfl,rfl,hcf,rfl,hS,HR⟩:=hrel;by_cases hlt:f<32
  ·have hfi:(f:Int)<32:=by omega
   have cx:wr.cell? ⟨p,off+f,none⟩=some (.int .i64 (l.getD f 0)):=(HR.out.2.2.cell (p:=⟨p,off+f,none⟩) hp).trans (HC.out f hlt);have hpr:p<wr.heap.size:=Nat.lt_of_lt_of_le hp HR.out.2.2.size;have HEq:=(show Hid (_=_)from HT.out f)
   have HEc:=(show Hid (_=_)from HS.out f)
   have HBf:=(show Hid (On _)from HB.out f hlt)
   generalize l.getD f 0=x at *;by_cases e1:x=1000000
   ·have e1':(x != 1000000)=false:=by rw[e1];rfl
    have HX:Hid (T (f+1)=T f/\C (f+1)=C f):=⟨by rw[HEq.out,if_pos e1,List.append_nil],by rw[HEc.out,if_pos e1];rfl⟩
    go_wp2_with fail;go_roundw;case rel=>exact⟨f+1,cf,S,by omega,by go_num,rfl,hcf,rfl,hS,by rw[HX.out.1];exact HR.out.1,by rw[HX.out.2];exact HR.out.2.1,HR.out.2.2⟩
    case measure=>simp[intOf];omega
   ·have e1':(x != 1000000)=true:=by rw[bne_iff_ne];exact e1
    obtain⟨x1,x2⟩: -4000<=x/\x<=4000:=HBf.out.resolve_left e1;have HX:Hid (T (f+1)=T f++[(f:Int),(x+4000)/256,(x+4000)%256]/\C (f+1)=C f+1):=⟨by rw[HEq.out,if_neg e1];rfl,by rw[HEc.out,if_neg e1]⟩
    have r1:=Wr (x+4000) (by omega);have r2:=Ws (x+4000) (by omega);have y1:0<=(x+4000)/256:=by omega
    have y2:(x+4000)/256<=255:=by omega
    have y3:0<=(x+4000)%256:=by omega
    have y4:(x+4000)%256<=255:=by omega
    generalize(x+4000)/256=ya at *;generalize(x+4000)%256=yb at *;have hc1:cf+1<=32:=by have:=HL.out f;have:=HR.out.2.1;omega
    have HS3:Hid ((S++strOfNums [(f:Int),ya,yb]).size<=96):=by
     show _<=_;rw[ByteArray.size_append',hz3,HR.out.1,strOfNums_size,HTL.out,<-HR.out.2.1];omega
    go_wp2_with fail;go_roundw;case rel=>exact⟨f+1,cf+1,S++strOfNums [(f:Int),ya,yb],by omega,by go_num,by go_num,hc1,rfl,HS3.out,by rw[HX.out.1,Mv,<-HR.out.1],by rw[HX.out.2,HR.out.2.1],HR.out.2.2.alloc HR.out.2.2.size _⟩
    case measure=>simp[intOf];omega
  ·have hf32:f=32:=by omega
   subst hf32;go_wp2_with fail;go_ret;exact⟨by rw[show(1::((C 32:Nat):Int)::T 32)=[1,((C 32:Nat):Int)]++T 32 from rfl,Mv,<-HR.out.1,<-HR.out.2.1];rfl,HR.out.2.2.alloc HR.out.2.2.size _⟩
theorem T_(v:Value)(L:List (Option (List Int)))(_hm:L.length<=maxLen)(hlm:∀i l,L.getD i none=some l->l.length<=1073741824)(hv:CX w v L):Calls Tryz.prog 66 #[v] w (VI w L):=by
 obtain⟨ao,cap,rfl,hcap,h0⟩:=hv;by_cases hbad:L.length<1\/21<L.length
 ·have HE:Hid (DH L=([],4)):=by show DH L=_;unfold DH;rw[if_pos hbad]
  clear h0 hlm;rcases hbad with hb|hb
  ·have hz:L.length=0:=by omega
   rw[hz];clear hz hb hcap;go_enter Tryz.func66,Tryz.ntmps66;go_wp2_with fail
   go_ret2
   exact⟨by rw[HE.out];rfl,Below.refl _ _⟩
  ·have hb1:¬(L.length:Int)<1:=by omega
   have hb2:(21:Int)<(L.length:Int):=by omega
   clear hb;go_enter Tryz.func66,Tryz.ntmps66;go_wp2_with fail
   go_ret2
   exact⟨by rw[HE.out];rfl,Below.refl _ _⟩
 obtain⟨n,hn⟩:∃n,n=L.length:=⟨_,rfl⟩
 have n1:1<=n:=by omega
 have n2:n<=21:=by omega
 have HE:Hid (DH L=if Lf L n then((n:Int)::Br L n,0)else([],3)):=by show DH L=_;unfold DH;rw[if_neg hbad,hn];rfl
 obtain⟨p,off,rfl,hp,hcell⟩:=h0 (by omega);rw[<-hn]at hcell hcap|-;have HC:Hid (∀i,i<n->∃x,w.cell? ⟨p,off+i,none⟩=some x/\Kt w x (L.getD i none)):=hcell;have HLm:Hid (∀i l,L.getD i none=some l->l.length<=1073741824):=hlm;have hb1:¬(n:Int)<1:=by omega
 have hb2:¬(21:Int)<(n:Int):=by omega
 have HB1:Hid (Below w.heap.size w (w.alloc (.cells #[.int .u8 (n:Int)] Mx))):=(Below.refl _ _).alloc (Nat.le_refl _) _;have hq1:∀(w:World)(a:Option Addr)(n c:Nat),(binOp .eql 32 (.slice a n c) (.slice none 0 0)).run Tryz.prog w=.ok (.bool a.isNone) w:=λw a n c=>Lib.run_eql_slice_nil w 32 3 a n c 0 0 Tryz.underlying32;have hs1:∀(w:World)(x:Int),(convert 130 9 (.slice (some ⟨w.heap.size,0,none⟩) 1 1)).run Tryz.prog (w.alloc (.cells #[.int .u8 x] Mx))=.ok (.string (strOfNums [x])) (w.alloc (.cells #[.int .u8 x] Mx)):=λw x=>GW w [x];clear hcell hcap h0 hbad hlm _hm hn;go_enter Tryz.func66,Tryz.ntmps66;go_wp2_with fail;go_loopw [4,5] (λs i wr=>∃(f:Nat)(S:ByteArray),f<=n/\i=.int .i64 f/\s=.string S/\S.size<=3000/\Hid (S=strOfNums ((n:Int)::Br L f)/\Below w.heap.size w wr/\Lf L f=true)) (λ_ i _=>n-(intOf i).toNat);case atStart=>exact⟨0,_,by omega,rfl,rfl,by rw[strOfNums_size];simp,rfl,HB1.out,rfl⟩
 case round=>
  obtain⟨f,S,hf,rfl,rfl,hS,HR⟩:=hrel;by_cases hlt:f<n
  ·have hfi:(f:Int)<(n:Int):=by omega
   obtain⟨x,hx,hrx⟩:=HC.out f hlt;have cx:wr.cell? ⟨p,off+f,none⟩=some x:=(HR.out.2.1.cell (p:=⟨p,off+f,none⟩) hp).trans hx;have HRx:Hid (Kt wr x (L.getD f none)):=hrx.keep HR.out.2.1;have hpr:p<wr.heap.size:=Nat.lt_of_lt_of_le hp HR.out.2.1.size;have HEq:Hid (Br L (f+1)=Br L f++Dk (L.getD f none)):=rfl;have HGd:Hid (Lf L (f+1)=(Lf L f&&TP (L.getD f none))):=rfl;have HNo:Hid (TP (L.getD f none)=false->Lf L n=false):=λh=>TN hlt h;have HLf:Hid (∀l,L.getD f none=some l->l.length<=1073741824):=HLm.out f;have HEl:=(show Hid (_<=_)from IN L (f+1))
   have HSn:Hid (∀y:List Int,Dk (L.getD f none)=y->(S++strOfNums y).size<=3000/\S++strOfNums y=strOfNums ((n:Int)::Br L (f+1))):=by
    intro y hy;have e:S++strOfNums y=strOfNums ((n:Int)::Br L (f+1)):=by rw[HEq.out,hy,HR.out.1,<-Mv];rfl
    refine⟨?_,e⟩;have h1:=HEl.out;rw[e,strOfNums_size];simp only[List.length_cons];omega
   clear hx hrx;generalize L.getD f none=r at *;cases r with
   |none=>
    have hxe:x=.slice none 0 0:=HRx.out;subst hxe;have HSn1:=(show Hid (_/\_)from HSn.out [0] rfl)
    go_wp2_with fail;go_roundw;case rel=>exact⟨f+1,_,by omega,by go_num,rfl,HSn1.out.1,HSn1.out.2,HR.out.2.1,by rw[HGd.out,HR.out.2.2];rfl⟩
    case measure=>simp[intOf];omega
   |some l=>
    have hgd:=GV (w:=wr) x l (HLf.out l rfl) HRx.out.1;have HSn1:=(show Hid (_/\_)from HSn.out _ rfl)
    obtain⟨a,xn,xc,rfl⟩:=HRx.out.2;cases hg:FM l with
    |false=>
     rw[hg]at hgd;have HF:Hid (DH L=([],3)):=by show DH L=_;rw[HE.out,HNo.out hg];rfl
     clear hg;go_wp2_with fail;refine hgd.mono ?_;rintro e w2 ⟨rfl,rfl⟩;go_wp2_with fail
     go_ret2
     exact⟨by rw[HF.out];rfl,HR.out.2.1⟩
    |true=>
     rw[hg]at hgd;obtain⟨p2,off2,cu2,e2,hp2,hc2,hb2'⟩:=HRx.out.1.good hg;injection e2 with e2 e3 e4
     injection e2 with e2
     subst e2 e3 e4;have htb:=YD p2 off2 xc l hp2 hc2 hb2';have HG1:Hid (TP (some l)=true):=hg;have hel:=J_ (some l);have hes:(strOfNums (Dk (some l))).size<=98:=by rw[strOfNums_size];exact hel
     generalize strOfNums (Dk (some l))=part at *;clear hg hc2 hb2' hel;go_wp2_with fail;refine hgd.mono ?_;rintro e w2 ⟨rfl,rfl⟩;go_wp2_with fail;refine htb.mono ?_;rintro e w3 ⟨rfl,hb3⟩;have H3:Hid (Below w.heap.size w w3):=HR.out.2.1.trans (hb3.mono HR.out.2.1.size);clear hb3 htb hgd;go_wp2_with fail;go_roundw;case rel=>exact⟨f+1,_,by omega,by go_num,rfl,HSn1.out.1,HSn1.out.2,H3.out,by rw[HGd.out,HR.out.2.2,HG1.out];rfl⟩
     case measure=>simp[intOf];omega
  ·have hfn:f=n:=by omega
   subst hfn;have HF:Hid (DH L=((f:Int)::Br L f,0)):=by show DH L=_;rw[HE.out,HR.out.2.2];rfl
   go_wp2_with fail
   go_ret2
   exact⟨by rw[HF.out,<-HR.out.1];rfl,HR.out.2.1⟩
end Go.Proofs.YtffajooegiempaaGreatDoor
namespace Go.Proofs.YtffajooegiempaaGreatDoor
def AA(s:ByteArray):List Int:=s.data.toList.map λb=>(b.toNat:Int)
theorem AR(s:ByteArray):(AA s).length=s.size:=by simp[AA]
theorem IG(s:ByteArray)(k:Nat)(h:k<s.size):(AA s).take (k+1)=(AA s).take k++[((s[k]).toNat:Int)]:=by
 rw[List.take_succ_eq_append_getElem (by rw[AR];exact h)];simp[AA];rfl
theorem Ck(s:ByteArray)(k:Nat)(h:k<s.size):(AA s)[k]?=some ((s[k]).toNat:Int):=by
 rw[List.getElem?_eq_getElem (by rw[AR];exact h)];simp[AA];rfl
end Go.Proofs.YtffajooegiempaaGreatDoor
namespace Go.Proofs.YtffajooegiempaaGreatDoor
open Go.RowKit
variable {w:World}{r:Nat}{s:ByteArray}{d:ES}
abbrev aA:TypeId:=155
def Eh(w:World)(r:Nat)(s:ByteArray)(d:ES):Prop:=At w r #[.string s,.int .i64 d.1,.bool d.2] aA
theorem Eh.cells(h:Eh w r s d):w.cell? ⟨r,0,none⟩=some (.string s)/\w.cell? ⟨r,1,none⟩=some (.int .i64 d.1)/\w.cell? ⟨r,2,none⟩=some (.bool d.2)/\∀i,w.frozen? ⟨r,i,none⟩=false:=
 ⟨h.cell 0,h.cell 1,h.cell 2,h.free⟩
theorem Eh.drewN(h:Eh w r s d)(k:Nat):Eh (w.drewN k) r s d:=h
theorem Eh.step(h:Eh w r s d):Eh (w.setCell ⟨r,1,none⟩ (.int .i64 ((d.1:Int)+1))) r s (d.1+1,d.2):=by
 have:=At.put h 1 (.int .i64 ((d.1:Int)+1));exact this
theorem Eh.stick(h:Eh w r s d):Eh (w.setCell ⟨r,2,none⟩ (.bool true)) r s (d.1,true):=by
 have:=At.put h 2 (.bool true);exact this
theorem Om(s:ByteArray):VG (AA s):=by
 intro i hi;rw[AR]at hi;rw[List.getD_eq_getElem?_getD,Ck s i hi];have:=(s[i]).toNat_lt;simp only[Option.getD_some];omega
def VH(w:World)(r:Nat)(s:ByteArray)(d':ES)(v:Value):Ending->World->Prop:=λe w'=>e=.returned v/\Eh w' r s d'/\BC r w w'
theorem Ss(h:Eh w r s d)(_hs:s.size<=9223372036854775807)(hd:d.1<=s.size):
  Calls Tryz.prog 143 #[.pointer (some ⟨r,0,none⟩)] w λe w'=>e=.returned (.int .i64 (Fi (AA s) d))/\∃k,w'=w.drewN k:=by
 obtain⟨c0,c1,c2,cf⟩:=h.cells;obtain⟨a,b⟩:=d;simp only at c0 c1 c2 hd;have a0:decide (((a:Nat):Int)<0)=false:=decide_eq_false (by omega);by_cases hl:a<s.size
 ·have HP:Hid (Fi (AA s) (a,b)=((s[a]).toNat:Int)):=by show Fi _ _=_;unfold Fi;rw[if_pos (by rw[AR];exact hl),List.getD_eq_getElem?_getD,Ck s a hl];rfl
  have a1:decide (((s.size:Nat):Int)<=(a:Int))=false:=decide_eq_false (by omega);have i1:((a:Nat):Int)<((s.size:Nat):Int):=by omega
  have hw:wrap64 ((s[a]).toNat:Int)=((s[a]).toNat:Int):=by have:=(s[a]).toNat_lt;unfold wrap64;omega
  clear h;go_enter Tryz.func143,Tryz.ntmps143;go_wp2;go_quiet (fail);go_wp2;go_quiet (fail);go_wp2;go_ret;exact⟨by rw[HP.out];show Ending.returned (.int .i64 (wrap64 _))=_;rw[hw],_,World.drewN_drewN _ _ _⟩
 ·have HP:Hid (Fi (AA s) (a,b)= -1):=by show Fi _ _=_;unfold Fi;rw[if_neg (by rw[AR];exact hl)]
  have a1:decide (((s.size:Nat):Int)<=(a:Int))=true:=decide_eq_true (by omega);clear h;go_enter Tryz.func143,Tryz.ntmps143;go_wp2;go_quiet (fail);go_wp2;go_ret;exact⟨by rw[HP.out];rfl,_,rfl⟩
theorem GL(h:Eh w r s d)(hs:s.size<=9223372036854775807)(hd:d.1<=s.size)(lo hi:Int)(hlo:0<=lo):
  Calls Tryz.prog 117 #[.pointer (some ⟨r,0,none⟩),.int .i64 lo,.int .i64 hi] w (VH w r s (Ai (AA s) lo hi d).2 (.int .i64 (Ai (AA s) lo hi d).1)):=by
 have hp:=Ss h hs hd;obtain⟨c0,c1,c2,cf⟩:=h.cells;have HC:Hid (Eh w r s d):=h;have hr:=h.lt;have HD:Hid (lo<=Fi (AA s) d->d.1<s.size):=by
  intro hh;unfold Fi at hh;rw[AR]at hh;by_cases q:d.1<s.size
  ·exact q
  ·rw[if_neg q]at hh;omega
 have HN:Hid (Ai (AA s) lo hi d=if Fi (AA s) d<lo\/hi<Fi (AA s) d then(0,(d.1,true))else(Fi (AA s) d,(d.1+1,d.2))):=rfl;generalize Fi (AA s) d=x at *;by_cases hq:x<lo\/hi<x
 ·have HX:Hid (Ai (AA s) lo hi d=(0,(d.1,true))):=HN.out.trans (if_pos hq);clear h hlo HN;rcases Int.lt_or_le x lo with q|q
  ·have q':decide (x<lo)=true:=decide_eq_true q;clear hq;go_enter Tryz.func117,Tryz.ntmps117;go_wp2_with (go_at_call 143;refine hp.mono ?_;rintro e w' ⟨rfl,k,rfl⟩);go_ret;rw[HX.out];exact⟨rfl,(HC.out.drewN k).stick,((BC.refl _ _).drewN _).setCell _ _⟩
  ·have q':decide (x<lo)=false:=decide_eq_false (by omega);have q2:hi<x:=by omega
   clear hq;go_enter Tryz.func117,Tryz.ntmps117;go_wp2_with (go_at_call 143;refine hp.mono ?_;rintro e w' ⟨rfl,k,rfl⟩);go_ret;rw[HX.out];exact⟨rfl,(HC.out.drewN k).stick,((BC.refl _ _).drewN _).setCell _ _⟩
 ·have HX:Hid (Ai (AA s) lo hi d=(x,(d.1+1,d.2))):=HN.out.trans (if_neg hq);have q':¬x<lo:=by omega
  have q2:¬hi<x:=by omega
  have hd1:=HD.out (by omega);clear h hlo HN hq HD;go_enter Tryz.func117,Tryz.ntmps117;go_wp2_with (go_at_call 143;refine hp.mono ?_;rintro e w' ⟨rfl,k,rfl⟩);go_ret;rw[HX.out];exact⟨rfl,(HC.out.drewN k).step,((BC.refl _ _).drewN _).setCell _ _⟩
theorem GR{lo hi:Int}(h0:0<=lo)(hd:d.1<=s.size):(Ai (AA s) lo hi d).2.1<=s.size:=by
 have:=(EC (Om s) lo hi h0 d).2.2;rw[AR]at this;omega
theorem Ve(h:Eh w r s d)(hs:s.size<=9223372036854775807)(hd:d.1<=s.size):
  Calls Tryz.prog 155 #[.pointer (some ⟨r,0,none⟩)] w (VH w r s (JW (AA s) d).2 (.int .i64 (JW (AA s) d).1)):=by
 have h1:=GL h hs hd 0 255 (by omega);have HE:Hid (JW (AA s) d=((Ai (AA s) 0 255 d).1*256+(Ai (AA s) 0 255 (Ai (AA s) 0 255 d).2).1-4000,((Ai (AA s) 0 255 (Ai (AA s) 0 255 d).2).2.1,if 8000<(Ai (AA s) 0 255 d).1*256+(Ai (AA s) 0 255 (Ai (AA s) 0 255 d).2).1 then true else(Ai (AA s) 0 255 (Ai (AA s) 0 255 d).2).2.2))):=rfl;have r1:=EC (Om s) 0 255 (by omega) d;have r2:=EC (Om s) 0 255 (by omega) (Ai (AA s) 0 255 d).2;have hd1:=GR (s:=s) (lo:=0) (hi:=255) (by omega) hd;have H2:Hid (∀w1,Eh w1 r s (Ai (AA s) 0 255 d).2->Calls Tryz.prog 117 #[.pointer (some ⟨r,0,none⟩),.int .i64 0,.int .i64 255] w1 (VH w1 r s (Ai (AA s) 0 255 (Ai (AA s) 0 255 d).2).2 (.int .i64 (Ai (AA s) 0 255 (Ai (AA s) 0 255 d).2).1))):=λw1 hc=>GL hc hs hd1 0 255 (by omega);rw[HE.out];clear h HE hd1;generalize Ai (AA s) 0 255 d=x at *;generalize Ai (AA s) 0 255 x.2=y at *;obtain⟨x1,x2⟩:=x;obtain⟨y1,y2⟩:=y;simp only at r1 r2|-;obtain⟨r1a,r1b, -⟩:=r1;obtain⟨r2a,r2b, -⟩:=r2;by_cases hq:8000<x1*256+y1
 ·rw[if_pos hq];go_enter Tryz.func155,Tryz.ntmps155;go_wp2_with fail;refine h1.mono ?_;rintro e w1 ⟨rfl,hc1,ho1⟩;have h2:=H2.out w1 hc1;have HO1:Hid (BC r w w1):=ho1;clear hc1 ho1 h1 H2;go_wp2_with fail;refine h2.mono ?_;rintro e w2 ⟨rfl,hc2,ho2⟩;obtain⟨c0,c1,c2,cf⟩:=hc2.cells;have hr2:=hc2.lt;have HC2:Hid (Eh w2 r s y2):=hc2;have HO2:Hid (BC r w w2):=HO1.out.trans ho2;clear hc2 ho2 h2;go_wp2_with fail;go_ret;exact⟨rfl,HC2.out.stick,HO2.out.setCell _ _⟩
 ·rw[if_neg hq];go_enter Tryz.func155,Tryz.ntmps155;go_wp2_with fail;refine h1.mono ?_;rintro e w1 ⟨rfl,hc1,ho1⟩;have h2:=H2.out w1 hc1;have HO1:Hid (BC r w w1):=ho1;clear hc1 ho1 h1 H2;go_wp2_with fail;refine h2.mono ?_;rintro e w2 ⟨rfl,hc2,ho2⟩;obtain⟨c0,c1,c2,cf⟩:=hc2.cells;have hr2:=hc2.lt;have HC2:Hid (Eh w2 r s y2):=hc2;have HO2:Hid (BC r w w2):=HO1.out.trans ho2;clear hc2 ho2 h2;go_wp2_with fail;go_ret;exact⟨rfl,HC2.out,HO2.out⟩
end Go.Proofs.YtffajooegiempaaGreatDoor
