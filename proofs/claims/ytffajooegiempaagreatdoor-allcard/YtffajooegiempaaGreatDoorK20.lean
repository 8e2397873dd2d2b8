import Derived.Test.YtffajooegiempaaGreatDoorK19
set_option maxRecDepth 100000
set_option maxHeartbeats 6400000
namespace Go.Proofs.YtffajooegiempaaGreatDoor
open Go.RowKit Go.Proofs.Tryz
variable {m m':Rd}
def Fq(s:St):Prop:=(s.kind=61->nz s.sg<=1)/\(s.kind≠61->s.star=true\/1<=nz s.sg)
def Gq(x:Int)(s:St):Prop:=
 if x=61\/x=118\/x=86 then s.kind=61/\nz s.sg=0
 else if x=120\/x=121\/x=110 then s.kind=61/\nz s.sg<=1
 else if x=99\/x=67 then s.kind≠61
 else if x=100\/x=101\/x=102\/x=60\/x=98\/x=66\/x=109 then s.kind≠61/\1<=nz s.sg
 else Fq s
structure Kn(m:Rd):Prop where
 all:∀i,i+1<m.st.length->Fq (m.st.getD i AY)
 now:0<m.st.length->Gq m.state (cur m)
 sgn:m.state=67->m.sign= -1
theorem Yg{x:Int}{s:St}(h:x=61\/x=118\/x=86):Gq x s↔s.kind=61/\nz s.sg=0:=by unfold Gq;rw[bA h]
theorem Yh{x:Int}{s:St}(h:x=120\/x=121\/x=110):Gq x s↔s.kind=61/\nz s.sg<=1:=by unfold Gq;rw[a_ (by omega),bA h]
theorem Y5{x:Int}{s:St}(h:x=99\/x=67):Gq x s↔s.kind≠61:=by unfold Gq;rw[a_ (by omega),a_ (by omega),bA h]
theorem No{x:Int}{s:St}(h:x=100\/x=101\/x=102\/x=60\/x=98\/x=66\/x=109):Gq x s↔s.kind≠61/\1<=nz s.sg:=by unfold Gq;rw[a_ (by omega),a_ (by omega),a_ (by omega),bA h]
theorem TS{x:Int}{s:St}(h:x=115\/x=59\/x=123\/x=125):Gq x s↔Fq s:=by unfold Gq;rw[a_ (by omega),a_ (by omega),a_ (by omega),a_ (by omega)]
theorem TT(m:Rd)(s:St):Gq (AG m) s↔Fq s:=TS (by unfold AG;split<;>omega)
theorem Si(m:Rd):AG m≠67:=by unfold AG;split<;>omega
theorem Nn(m:Rd)(s:St)(i:Nat)(h:i+1<m.st.length):(m.st.set (m.st.length-1) s).getD i AY=m.st.getD i AY:=by
 simp[List.getD,show¬m.st.length-1=i by omega]
theorem Kn.setC(h:Kn m){s:St}(f:0<m.st.length)(e:m'.st=m.st.set (m.st.length-1) s)(hs:Gq m'.state s)(hn:m'.state=67->m'.sign= -1):Kn m':=by
 have J:m'.st.length=m.st.length:=by rw[e];simp
 refine⟨λi hi=>?_,λ_=>?_,hn⟩
 .rw[e,Nn m s i (by omega)];exact h.all i (by omega)
 .have:Go.Proofs.YtffajooegiempaaGreatDoor.cur m'=s:=by
   unfold Go.Proofs.YtffajooegiempaaGreatDoor.cur;rw[J,e];simp[List.getD,show m.st.length-1<m.st.length by omega]
  rw[this];exact hs
theorem Kn.of(h:Kn m)(e:m'.st=m.st)(E:Gq m.state (Go.Proofs.YtffajooegiempaaGreatDoor.cur m)->Gq m'.state (Go.Proofs.YtffajooegiempaaGreatDoor.cur m))(hn:m'.state=67->m'.sign= -1):Kn m':=by
 have hc:Go.Proofs.YtffajooegiempaaGreatDoor.cur m'=Go.Proofs.YtffajooegiempaaGreatDoor.cur m:=by unfold Go.Proofs.YtffajooegiempaaGreatDoor.cur;rw[e]
 exact⟨λi hi=>by rw[e]at hi|-;exact h.all i hi,λf=>by rw[hc];exact E (h.now (by rw[<-e];exact f)),hn⟩
theorem Kn.begin_(h:Kn m)(g:m.state=115){k v x:Int}(e:BN m k v x=some m')(hx:x=61\/x=99)(hk:Gq x ⟨k,v,false,[0,0,0,0],0,0,m.st.length+1⟩):Kn m':=by
 unfold BN at e;split at e
 .cases e
 .cases e
  refine⟨λi hi=>?_,λ_=>?_,λq=>?_⟩
  .have F:i<m.st.length:=by simpa using hi
   show Fq ((m.st++[_]).getD i AY);have e1:(m.st++[(⟨k,v,false,[0,0,0,0],0,0,m.st.length+1⟩:St)]).getD i AY=m.st.getD i AY:=by simp[List.getD,bU F]
   rw[e1];rcases bX (Nat.succ_le_of_lt F)with q|q
   .exact h.all i q
   .have:=h.now (by omega);rw[TS (.inl g)]at this;unfold Go.Proofs.YtffajooegiempaaGreatDoor.cur at this;rw[show m.st.length-1=i by omega]at this;exact this
  .show Gq x ((m.st++[_]).getD ((m.st++[_]).length-1) AY);simpa[List.getD]using hk
  .have R:x=67:=q;omega
theorem Kn.shut(h:Kn m)(g:m.state=115)(e:Ba m=some m'):Kn m':=by
 have r:∀i,i<m.st.length->Fq (m.st.getD i AY):=by
  intro i hi;rcases bX (Nat.succ_le_of_lt hi)with q|q
  .exact h.all i q
  .have:=h.now (by omega);rw[TS (.inl g)]at this;unfold Go.Proofs.YtffajooegiempaaGreatDoor.cur at this;rw[show m.st.length-1=i by omega]at this;exact this
 have G:∀(s:St),(s.kind=(m.st.getD (top m).of_ AY).kind/\s.sg=(m.st.getD (top m).of_ AY).sg/\s.star=(m.st.getD (top m).of_ AY).star)->∀i,i<m.st.length->Fq ((m.st.set (top m).of_ s).getD i AY):=by
  intro s hs i hi;by_cases q:(top m).of_=i
  .have e1:(m.st.set (top m).of_ s).getD i AY=s:=by simp[List.getD,q,hi]
   rw[e1];have:=r i hi;rw[<-q]at this;unfold Fq at *;rw[hs.1,hs.2.1,hs.2.2];exact this
  .have e1:(m.st.set (top m).of_ s).getD i AY=m.st.getD i AY:=by simp[List.getD,q]
   rw[e1];exact r i hi
 have fin:∀(B:Rd)(s:St),(s.kind=(m.st.getD (top m).of_ AY).kind/\s.sg=(m.st.getD (top m).of_ AY).sg/\s.star=(m.st.getD (top m).of_ AY).star)->B.st=m.st.set (top m).of_ s->(B.state=115\/B.state=125)->Kn B:=by
  intro B s hs e2 K;have J:B.st.length=m.st.length:=by rw[e2];simp
  refine⟨λi hi=>by rw[e2];exact G s hs i (by omega),λf=>?_,λq=>by omega⟩;rw[TS (by omega)];unfold Go.Proofs.YtffajooegiempaaGreatDoor.cur;rw[J,e2];exact G s hs _ (by omega)
 simp only[Ba]at e;split at e
 .cases e;exact fin _ {m.st.getD (top m).of_ AY with fin:=m.st.length,mid:=m.st.length} ⟨rfl,rfl,rfl⟩ rfl (.inr rfl)
 .cases e;exact fin _ {m.st.getD (top m).of_ AY with fin:=m.st.length} ⟨rfl,rfl,rfl⟩ rfl (.inl g)
theorem Kn.digit(h:Kn m)(f:0<m.st.length){c x:Int}{pos:Bool}(e:AT m c pos x=some m')(hx:x=110\/x=109)(E:∀s:St,s.kind=(cur m).kind->s.sg=(cur m).sg->Gq x s):Kn m':=by
 obtain⟨d,u,_,_,rfl⟩:=Gl e;refine h.setC (s:={Go.Proofs.YtffajooegiempaaGreatDoor.cur m with num:=10*u+(c-48)}) f rfl (E _ rfl rfl) (λq=>?_);have R:x=67:=q;omega
theorem Qr:∀(l:List Int)(v:Nat)(x:Int),x≠0->v<l.length->1<=nz (l.set v x):=by
 intro l;induction l with
 |nil=>intro v x _ h;simp at h
 |cons a l ih=>
  intro v x hx h;cases v with
  |zero=>rw[List.set_cons_zero,C2,a_ hx];omega
  |succ v=>
   rw[List.set_cons_succ,C2];have:=ih v x hx (by simpa using h);omega
theorem V2:∀(l:List Int)(v:Nat)(x:Int),l.getD v 0=0->nz l<=nz (l.set v x):=by
 intro l;induction l with
 |nil=>intro v x _;simp
 |cons a l ih=>
  intro v x h;cases v with
  |zero=>
   have T:a=0:=h;rw[List.set_cons_zero,C2,C2,bA T];omega
  |succ v=>
   rw[List.set_cons_succ,C2,C2];have:=ih v x h;omega
theorem Kn.signTo(h:Kn m)(f:0<m.st.length)(v:Nat)(y x:Int)(hx:x≠67)(E:Gq x {cur m with sg:=(cur m).sg.set v y}):Kn (Bp m v y x):=
 h.setC (s:={Go.Proofs.YtffajooegiempaaGreatDoor.cur m with sg:=(Go.Proofs.YtffajooegiempaaGreatDoor.cur m).sg.set v y}) f rfl E (λq=>absurd q hx)
theorem Kn.plain(h:Kn m){c:Int}(hs:m.state=59\/m.state=123)(e:Ac m c=some m'):Kn m':=by
 have Q:Gq m.state (cur m)->Gq 115 (cur m):=λq=>by rw[TS (.inl rfl)];rw[TS (by omega)]at q;exact q
 unfold Ac at e;split at e
 .split at e
  .cases e;exact h.of rfl Q (λq=>by cases q)
  .cases e
 .split at e
  .cases e
  .cases e;exact h.of rfl Q (λq=>by cases q)
theorem Kn.value(h:Kn m)(ok:Ok m){c:Int}(H:m.state=118\/m.state=86\/m.state=120\/m.state=121\/m.state=110)(e:AO m c=some m'):Kn m':=by
 have f:0<m.st.length:=ok.some_ (by omega);have hc:=h.now f;have t:∀v y,nz ((cur m).sg.set v y)<=nz (cur m).sg+1:=λv y=>To _ v y;have S:(Gq m.state (cur m)->(cur m).kind=61/\nz (cur m).sg<=1)->Kn (CW m):=λq=>
  h.setC (s:={Go.Proofs.YtffajooegiempaaGreatDoor.cur m with num:=m.sign*(Go.Proofs.YtffajooegiempaaGreatDoor.cur m).num}) f rfl (by
   show Gq 115 _;rw[TS (.inl rfl)]
   exact⟨λ_=>(q hc).2,λz=>absurd (q hc).1 z⟩) (λz=>by cases z)
 have o:∀{m1:Rd}{p:Bool},m1.st=m.st->Kn m1->((cur m).kind=61/\nz (cur m).sg<=1)->AT m1 c p 110=some m'->Kn m':=by
  intro m1 p e1 U q e2;have I:Go.Proofs.YtffajooegiempaaGreatDoor.cur m1=Go.Proofs.YtffajooegiempaaGreatDoor.cur m:=by unfold Go.Proofs.YtffajooegiempaaGreatDoor.cur;rw[e1]
  refine U.digit (by rw[e1];exact f) e2 (.inl rfl) (λs h1 h2=>?_);rw[Yh (by omega),h1,h2,I];exact q
 unfold AO at e;by_cases A:m.state=118
 .rw[bA A]at e;rw[A,Yg (by omega)]at hc;split at e
  .cases e
   exact h.setC (s:={Go.Proofs.YtffajooegiempaaGreatDoor.cur m with star:=true}) f rfl (by show Gq 59 _;rw[TS (by omega)];exact⟨λ_=>by show nz (cur m).sg<=1;omega,λ_=>.inl rfl⟩) (λz=>by cases z)
  split at e
  .cases e;exact h.of rfl (λ_=>by show Gq 86 _;rw[Yg (by omega)];exact hc) (λz=>by cases z)
  split at e
  .cases e;exact h.signTo f _ 1 120 (by omega) (by rw[Yh (by omega)];exact⟨hc.1,by have:=t (c-97).toNat 1;show nz ((cur m).sg.set _ _)<=1;omega⟩)
  .exact o (m1:={m with sign:=1}) rfl (h.of rfl id (λq=>by have R:m.state=67:=q;omega)) ⟨hc.1,by omega⟩ e
 rw[a_ A]at e;by_cases w:m.state=86
 .rw[bA w]at e;rw[w,Yg (by omega)]at hc;split at e
  .cases e;exact h.signTo f _ m.sign 120 (by omega) (by rw[Yh (by omega)];exact⟨hc.1,by have:=t (c-97).toNat m.sign;show nz ((cur m).sg.set _ _)<=1;omega⟩)
  .exact o rfl h ⟨hc.1,by omega⟩ e
 rw[a_ w]at e;have j:(cur m).kind=61/\nz (cur m).sg<=1:=by rw[Yh (by omega)]at hc;exact hc
 by_cases C:m.state=120
 .rw[bA C]at e;split at e
  .cases e;exact h.of rfl (λ_=>by show Gq 121 _;rw[Yh (by omega)];exact j) (λz=>by cases z)
  split at e
  .cases e;exact h.of rfl (λ_=>by show Gq 121 _;rw[Yh (by omega)];exact j) (λz=>by cases z)
  split at e
  .cases e;exact S (λ_=>j)
  .cases e
 rw[a_ C]at e;by_cases D:m.state=121
 .rw[bA D]at e;exact o rfl h j e
 rw[a_ D]at e;split at e
 .cases e;exact S (λ_=>j)
 .exact o rfl h j e
theorem Kn.cond(h:Kn m)(ok:Ok m){c:Int}(hs:m.state=99\/m.state=67\/m.state=100\/m.state=101\/m.state=102\/m.state=60\/m.state=98\/m.state=66\/m.state=109\/m.state=125)(e:AF m c=some m'):Kn m':=by
 have f:0<m.st.length:=ok.some_ (by omega);have hc:=h.now f
 have aa:(cur m).sg.length=4:=ok.sgl _ (by
  unfold cur;rw[bG,bP (show m.st.length-1<m.st.length by omega)]
  exact List.getElem_mem _)
 have o:∀{p:Bool},((cur m).kind≠61/\1<=nz (cur m).sg)->AT m c p 109=some m'->Kn m':=by
  intro p q e2;refine h.digit f e2 (.inr rfl) (λs h1 h2=>?_);rw[No (by omega),h1,h2];exact q
 unfold AF at e;by_cases A:m.state=99
 .rw[bA A]at e;rw[A,Y5 (by omega)]at hc;split at e
  .cases e
   exact h.setC (s:={Go.Proofs.YtffajooegiempaaGreatDoor.cur m with star:=true}) f rfl (by show Gq (AG m) _;rw[TT];exact⟨λz=>absurd z hc,λ_=>.inl rfl⟩) (λz=>absurd z (Si m))
  split at e
  .cases e;exact h.of rfl (λ_=>by show Gq 67 _;rw[Y5 (by omega)];exact hc) (λ_=>rfl)
  split at e
  .rename_i hr;cases e;exact h.signTo f _ 1 100 (by omega) (by rw[No (by omega)];exact⟨hc,Qr _ _ 1 (by omega) (by omega)⟩)
  .cases e
 rw[a_ A]at e;by_cases w:m.state=67
 .rw[bA w]at e;rw[w,Y5 (by omega)]at hc;split at e
  .rename_i hr;cases e;exact h.signTo f _ m.sign 100 (by omega) (by rw[No (by omega)];exact⟨hc,Qr _ _ m.sign (by rw[h.sgn w];omega) (by omega)⟩)
  .cases e
 rw[a_ w]at e;by_cases C:m.state=100
 .rw[bA C]at e;rw[C,No (by omega)]at hc;split at e
  .cases e;exact h.of rfl (λ_=>by show Gq 101 _;rw[No (by omega)];exact hc) (λz=>by cases z)
  split at e
  .cases e;exact h.of rfl (λ_=>by show Gq 101 _;rw[No (by omega)];exact hc) (λz=>by cases z)
  split at e
  .cases e;exact h.of rfl (λ_=>by show Gq 60 _;rw[No (by omega)];exact hc) (λz=>by cases z)
  .cases e
 rw[a_ C]at e;by_cases D:m.state=101
 .rw[bA D]at e;rw[D,No (by omega)]at hc;split at e
  .split at e
   .rename_i hz;cases e;exact h.signTo f _ m.sign 102 (by omega) (by rw[No (by omega)];exact⟨hc.1,cN hc.2 (V2 _ _ _ hz)⟩)
   .cases e
  .cases e
 rw[a_ D]at e;by_cases L:m.state=102
 .rw[bA L]at e;rw[L,No (by omega)]at hc;split at e
  .cases e;exact h.of rfl (λ_=>by show Gq 60 _;rw[No (by omega)];exact hc) (λz=>by cases z)
  .cases e
 rw[a_ L]at e;by_cases M:m.state=60
 .rw[bA M]at e;rw[M,No (by omega)]at hc;split at e
  .cases e;exact h.of rfl (λ_=>by show Gq 98 _;rw[No (by omega)];exact hc) (λz=>by cases z)
  .cases e
 rw[a_ M]at e;by_cases N:m.state=98
 .rw[bA N]at e;rw[N,No (by omega)]at hc;split at e
  .cases e;exact h.of rfl (λ_=>by show Gq 66 _;rw[No (by omega)];exact hc) (λz=>by cases z)
  .exact o hc e
 rw[a_ N]at e;by_cases O:m.state=66
 .rw[bA O]at e;rw[O,No (by omega)]at hc;exact o hc e
 rw[a_ O]at e;by_cases P:m.state=109
 .rw[bA P]at e;rw[P,No (by omega)]at hc;split at e
  .refine Kn.plain (m:={AE m {Go.Proofs.YtffajooegiempaaGreatDoor.cur m with num:=if m.neg then -(Go.Proofs.YtffajooegiempaaGreatDoor.cur m).num else(Go.Proofs.YtffajooegiempaaGreatDoor.cur m).num}with state:=AG m}) ?_ (by show AG m=59\/AG m=123;unfold AG;split<;>omega) e;exact h.setC (s:={Go.Proofs.YtffajooegiempaaGreatDoor.cur m with num:=if m.neg then -(Go.Proofs.YtffajooegiempaaGreatDoor.cur m).num else(Go.Proofs.YtffajooegiempaaGreatDoor.cur m).num}) f rfl (by show Gq (AG m) _;rw[TT];exact⟨λz=>absurd z hc.1,λ_=>.inr hc.2⟩) (λz=>absurd z (Si m))
  .exact o hc e
 rw[a_ P]at e;split at e
 .cases e;exact h.of rfl (λq=>by show Gq 115 _;rw[TS (by omega)];rw[TS (by omega)]at q;exact q) (λz=>by cases z)
 .cases e
theorem Kn.byte(h:Kn m)(ok:Ok m){c:Int}(e:AM m c=some m'):Kn m':=by
 have K:=ok.states;unfold AM at e;split at e
 .rename_i hs;unfold AP at e;split at e
  .exact h.begin_ hs e (.inl rfl) (by rw[Yg (by omega)];exact⟨rfl,rfl⟩)
  split at e
  .rename_i hc;split at e
   .exact h.begin_ hs e (.inr rfl) (by rw[Y5 (by omega)];show c≠61;omega)
   .cases e
  split at e
  .rename_i hc;exact h.begin_ hs e (.inr rfl) (by rw[Y5 (by omega)];show c≠61;omega)
  split at e
  .exact h.shut hs e
  .cases e
 split at e
 .rename_i h1 h2;split at e
  .cases e;exact h.of rfl (λq=>by show Gq 118 _;rw[Yg (by omega)];rw[h2,Yg (by omega)]at q;exact q) (λz=>by cases z)
  .cases e
 split at e
 .rename_i H;exact h.value ok H e
 split at e
 .rename_i H;exact h.plain H e
 .exact h.cond ok (by omega) e
theorem Vs{l:List Int}:∀{m:Rd}{n k:Nat},Kn m->Ok m->BH m l n=(k,some m')->Kn m':=by
 induction l with
 |nil=>intro m n k h ok e;simp[BH]at e;rw[<-e.2];exact h
 |cons c l ih=>
  intro m n k h ok e;simp only[BH]at e;split at e
  .cases e
  .rename_i m1 e1;exact ih (h.byte ok e1) (ok.byte e1) e
variable {w:World}
def z4(l:List Int):Bool:=decide (AK l 0=0/\AK l 1=0/\AK l 2=0/\AK l 3=0)
def IS(C:Nat->Int)(l:List Int):Int:=
 if 0<=Ar l then bd C (Ar l).toNat else if z4 l=true then 0 else if bd C (Ar (CH l)).toNat=NB then NB else 2*bd C (Ar (CH l)).toNat
def Ky(l:List Int):Bool:=(decide (0<=Ar l)&&decide (Ar l<32))||(decide (Ar l= -1)&&z4 l)||(decide (Ar l= -1)&& !z4 l&&decide (0<=Ar (CH l))&&decide (Ar (CH l)<32))
def SE(l:List Int):Nat->Bool
 |0=>true
 |j+1=>SE l j&&decide (AK l j=0)
theorem Yb(l:List Int):SE l 4=z4 l:=by
 unfold z4;show((((true&&decide (AK l 0=0))&&decide (AK l 1=0))&&decide (AK l 2=0))&&decide (AK l 3=0))=_;by_cases a:AK l 0=0<;>by_cases b:AK l 1=0<;>by_cases c:AK l 2=0<;>by_cases d:AK l 3=0<;>simp[a,b,c,d]
theorem OH(C:Nat->Int)(u v:Value)(l:List Int)(T:l.length=4)(hv:∀i,i<4-> -2<=AK l i/\AK l i<=2)(hc:Ky l=true)(hS:Sm C)(hu:AQ w u (Bl C))(hr:AQ w v l):
  Calls prog 97 #[u,v] w λe w'=>e=.returned (.int .i64 (IS C l))/\dc w w':=by
 have ah:∀w,(Instr.makeSlice 32 (.int .i64 4) (.int .i64 4)).run prog w=.ok (.slice (some ⟨w.heap.size,0,none⟩) 4 4) (w.alloc (.cells #[.int .i64 0,.int .i64 0,.int .i64 0,.int .i64 0] tNk)):=λ_=>by kernel_rfl
 have hn:=Fd v l T hr (λi hi=>by have:=hv i hi;omega);have R:(Bl C).length=32:=by simp[Bl]
 have I:Hid (∀n b,At n b (ic (Et l 4)) tNk->Calls prog 98 #[.slice (some ⟨b,0,none⟩) 4 4] n λe w'=>e=.returned (.int .i64 (Ar (CH l)))/\dc n w'):=by
  intro n b h1;rw[T1 T]at h1;have hh:(CH l).length=4:=by unfold CH;rw[List.length_map];exact T
  refine Fd _ (CH l) hh (AQ.at_ h1 hh (bB _) (λi hi=>Aa _ _ (by omega))) (λi hi=>?_);have:AK (CH l) i=(AK l i).tdiv 2:=by
   obtain⟨a,b,c,d,rfl⟩:=C0 T;rcases(show i=0\/i=1\/i=2\/i=3 by omega)with rfl|rfl|rfl|rfl<;>rfl
  rw[this];have:=AW (AK l i);have:=hv i hi;omega
 have V:Hid (IS C l=if 0<=Ar l then bd C (Ar l).toNat else if z4 l=true then 0 else if bd C (Ar (CH l)).toNat=NB then NB else 2*bd C (Ar (CH l)).toNat):=rfl;have aa:=λ{f:Nat} (A:f<32)=>Jv hS A;obtain⟨bu,cu,rfl, -,P⟩:=hu;obtain⟨q,o,rfl,hq,S⟩:=P (by omega);obtain⟨au,ca,rfl, -,h0⟩:=id hr;obtain⟨p,off,rfl,hp,s⟩:=h0 (by omega);have HC:Hid (∀i,i<4->w.cell? ⟨p,off+i,none⟩=some (.int .i64 (AK l i))):=λi hi=>s i (by omega);have L:Hid (∀i,i<32->w.cell? ⟨q,o+i,none⟩=some (.int .i64 (bd C i))):=λi hi=>by rw[S i (by omega)];exact congrArg (λz=>some (Value.int .i64 z)) (Gh C i hi)
 rw[R];rw[T]at hn|-;clear h0 P s S hr hS;by_cases e:0<=Ar l
 .have B:Ar l<32:=by
   unfold Ky at hc;simp only[cV,cA,cD]at hc;omega
  obtain⟨f,A⟩:∃f:Nat,Ar l=(f:Int):=⟨(Ar l).toNat,by omega⟩
  have r:f<32:=by omega
  have M:Hid (IS C l=bd C f):=by show _=_;rw[V.out,bA e,A,bK]
  rw[A]at hn;have ab:(f:Int)<32:=by omega
  have G:Hid (w.cell? ⟨q,o+f,none⟩=some (.int .i64 (bd C f))):=L.out f r;clear V hc B A e I;generalize bd C f=g at *;go_enter func97,ntmps97;go_wp2_with fail;refine hn.mono ?_;rintro e n ⟨rfl,m⟩;have cq:n.cell? ⟨q,o+f,none⟩=some (.int .i64 g):=(m.cell (p:=⟨q,o+f,none⟩) hq).trans G.out;have K:Hid (dc w n):=m;clear m hn;go_wp2_with fail;go_ret;exact⟨by rw[M.out];rfl,K.out⟩
 .have U:Ar l= -1:=by
   unfold Ky at hc;simp only[cV,cA,cD]at hc;omega
  have M:Hid (IS C l=if z4 l=true then 0 else if bd C (Ar (CH l)).toNat=NB then NB else 2*bd C (Ar (CH l)).toNat):=by show _=_;rw[V.out,a_ e]
  rw[U]at hn;have N:Hid (z4 l=false->0<=Ar (CH l)/\Ar (CH l)<32):=by
   intro z;unfold Ky at hc;rw[z]at hc;simp only[cV,cA,cD,Bool.not_false]at hc;rcases hc with(h|h)|h
   .omega
   .cases h.2
   .exact⟨h.1.2,h.2⟩
  have O:Hid (SE l 4=z4 l):=Yb l;clear V hc U e;go_enter func97,ntmps97;go_wp2_with fail;refine hn.mono ?_;rintro e n ⟨rfl,m⟩;have K:Hid (dc w n):=m;have D:=m.size;have HA:Hid (At (n.alloc (.cells #[.int .i64 0,.int .i64 0,.int .i64 0,.int .i64 0] tNk)) n.heap.size (ic (Et l 0)) tNk/\dc w (n.alloc (.cells #[.int .i64 0,.int .i64 0,.int .i64 0,.int .i64 0] tNk))):=⟨At.new _ _ _,m.alloc m.size _⟩
  clear m hn;go_wp2_with fail;go_loopw [7,8] (λzv iv wr=>∃(j:Nat)(E:Bool),j<=4/\iv=.int .i64 j/\zv=.bool E/\Hid (E=SE l j/\At wr n.heap.size (ic (Et l j)) tNk/\dc w wr)) (λ_ iv _=>4-(intOf iv).toNat);case atStart=>exact⟨0,true,by omega,rfl,rfl,rfl,HA.out⟩
  case round=>
   obtain⟨j,E,hj,rfl,rfl,k⟩:=hrel;by_cases B:j<4
   .have ag:(j:Int)<4:=by omega
    have ca:wr.cell? ⟨p,off+j,none⟩=some (.int .i64 (AK l j)):=(k.out.2.2.cell (p:=⟨p,off+j,none⟩) hp).trans (HC.out j B);obtain⟨x0,ai⟩:∃x,wr.cell? ⟨n.heap.size,j,none⟩=some x:=by
     rw[k.out.2.1.cell];have ad:(Et l j).length=4:=by
      rcases(show j=0\/j=1\/j=2\/j=3 by omega)with rfl|rfl|rfl|rfl<;>rfl
     exact⟨_,Aa _ _ (by omega)⟩
    have cf:=k.out.2.1.free;have R:=k.out.2.1.lt;have al:p≠n.heap.size:=by omega
    have hx:=hv j B;have W:Hid (Et l (j+1)=(Et l j).set j ((AK l j).tdiv 2)):=rfl;have X:Hid (SE l (j+1)=(SE l j&&decide (AK l j=0))):=rfl;have ta:=AW (AK l j);generalize AK l j=x at *;obtain⟨am,an⟩:=ta;obtain⟨aj,ak⟩:=hx;by_cases Z:x=0
    .subst Z;cases E with
     |true=>
      go_wp2_with fail;go_roundw;case rel=>
       refine⟨j+1,true,by omega,by go_num,rfl,?_,?_,k.out.2.2.setCell D _⟩
       .rw[X.out,<-k.out.1];rfl
       .rw[W.out,<-Be];exact k.out.2.1.put j _
      case measure=>simp[intOf];omega
     |false=>
      go_wp2_with fail;go_roundw;case rel=>
       refine⟨j+1,false,by omega,by go_num,rfl,?_,?_,k.out.2.2.setCell D _⟩
       .rw[X.out,<-k.out.1];rfl
       .rw[W.out,<-Be];exact k.out.2.1.put j _
      case measure=>simp[intOf];omega
    .have af:(x==0)=false:=by simpa using Z
     cases E with
     |true=>
      go_wp2_with fail;go_roundw;case rel=>
       refine⟨j+1,false,by omega,by go_num,rfl,?_,?_,k.out.2.2.setCell D _⟩
       .rw[X.out,<-k.out.1,bT Z];rfl
       .rw[W.out,<-Be];exact k.out.2.1.put j _
      case measure=>simp[intOf];omega
     |false=>
      go_wp2_with fail;go_roundw;case rel=>
       refine⟨j+1,false,by omega,by go_num,rfl,?_,?_,k.out.2.2.setCell D _⟩
       .rw[X.out,<-k.out.1];rfl
       .rw[W.out,<-Be];exact k.out.2.1.put j _
      case measure=>simp[intOf];omega
   .have ac:j=4:=by omega
    subst ac;have y:Hid (E=z4 l):=by show E=_;rw[<-O.out];exact k.out.1
    cases E with
    |true=>
     have t:Hid (IS C l=0):=by show _=_;rw[M.out,<-y.out,bA rfl]
     go_wp2_with fail;go_ret;exact⟨by rw[t.out];rfl,k.out.2.2⟩
    |false=>
     obtain⟨h1,h2⟩:=N.out y.out.symm;obtain⟨f,A⟩:∃f:Nat,Ar (CH l)=(f:Int):=⟨(Ar (CH l)).toNat,by omega⟩
     have r:f<32:=by omega
     have ab:(f:Int)<32:=by omega
     have t:Hid (IS C l=if bd C f=NB then NB else 2*bd C f):=by show _=_;rw[M.out,<-y.out,a_ (by decide),A,bK]
     have J:=I.out wr n.heap.size k.out.2.1;rw[A]at J;have G:Hid (w.cell? ⟨q,o+f,none⟩=some (.int .i64 (bd C f))):=L.out f r;obtain⟨b1,b2⟩:=aa r;clear h1 h2 A M I y N O;generalize bd C f=g at *;go_wp2_with fail;refine J.mono ?_;rintro e w3 ⟨rfl,Q⟩;have F:Hid (dc w w3):=k.out.2.2.trans (Q.mono k.out.2.2.size);have cq:w3.cell? ⟨q,o+f,none⟩=some (.int .i64 g):=(F.out.cell (p:=⟨q,o+f,none⟩) hq).trans G.out;clear Q J;by_cases Y:g=1000000
     .subst Y;have H:Hid (IS C l=1000000):=by show _=_;rw[t.out,bA (show(1000000:Int)=NB from rfl)];rfl
      go_wp2_with fail;go_ret;exact⟨by rw[H.out];rfl,F.out⟩
     .have ae:(g==1000000)=false:=by simpa using Y
      have H:Hid (IS C l=2*g):=by show _=_;rw[t.out,a_ (show¬g=NB from Y)]
      go_wp2_with fail;go_ret;exact⟨by rw[H.out];rfl,F.out⟩
variable {e0:Bool}{M:Nat->Int}
def Ko(e:Bool)(M:Nat->Int)(l:List Int)(n:Int):Bool:=decide (e=true\/FC M l<=n)
def GJ(e:Bool)(M:Nat->Int)(l:List Int)(n:Int):Bool:=if Ko e M l n=true then e else By (Aj (lm M (CF l) (C4 l) n)) 8
def E5(e:Bool)(M:Nat->Int)(l:List Int)(n:Int):Nat->Int:=if Ko e M l n=true then M else Aj (lm M (CF l) (C4 l) n)
theorem Ta{i j:Nat}{n:Int}(E:∀k,k<64-> -20000000000<=M k/\M k<=1000000)(hn: -1000<=n/\n<=1000):∀k,k<64-> -20000000000<=lm M i j n k/\lm M i j n k<=1000000:=by
 intro k hk;have:=E k hk;unfold lm Bw;split
 .split<;>omega
 .split
  .split<;>omega
  .exact this
theorem N0(E:∀k,k<64-> -20000000000<=M k/\M k<=1000000)(l:List Int)(Q:∀i, -1<=AK l i/\AK l i<=1)(n:Int)(hn: -1000<=n/\n<=1000):
  Calls prog 113 #[.agg (oc e0 M),v4 l,.int .i64 n] w λe w'=>e=.returned (.agg (oc (GJ e0 M l n) (E5 e0 M l n)))/\dc w w':=by
 have hz:=Bn;have P:Sm M:=λk hk=>by have:=E k hk;omega
 have O:=Cx l 4 (bB _);have H:=JZ P l;have z:Hid (∀b,Calls prog 116 #[.agg (oc e0 M),v4 l] b λe w'=>e=.returned (.int .i64 (FC M l))/\dc b w'):=λb=>Fw l Q P;have u:Hid (∀b,Calls prog 142 #[v4 l] b λe w'=>e=.returned (.tuple #[.int .i64 ((CF l:Nat):Int),.int .i64 ((C4 l:Nat):Int)])/\dc b w'):=λb=>Ji l Q;obtain⟨p,c⟩:∃p,p=((w.alloc (.cells (oc e0 M) tO)).alloc (.cells (c4 l) FS)).alloc (.cells (oc false λ_=>0) tO):=⟨_,rfl⟩
 have o:Hid (AL p w.heap.size e0 M/\At p (w.heap.size+1) (c4 l) FS/\AL p (w.heap.size+2) false (λ_=>0)/\dc w p/\p.heap.size=w.heap.size+3):=by
  refine⟨by rw[c];exact At.allocH (At.allocH (At.new _ _ _) _) _,?_,?_,by rw[c];exact(((bC _ _).alloc (bB _) _).alloc (by simp) _).alloc (by simp;omega) _,by rw[c];simp⟩
  .have:=At.allocH (At.new (w.alloc (.cells (oc e0 M) tO)) (c4 l) FS) (.cells (oc false λ_=>0) tO);rw[show(w.alloc (.cells (oc e0 M) tO)).heap.size=w.heap.size+1 by simp]at this;rw[c];exact this
  .have:=At.new ((w.alloc (.cells (oc e0 M) tO)).alloc (.cells (c4 l) FS)) (oc false λ_=>0) tO;rw[show((w.alloc (.cells (oc e0 M) tO)).alloc (.cells (c4 l) FS)).heap.size=w.heap.size+2 by simp]at this;rw[c];exact this
 have K:p.cell? ⟨w.heap.size,0,none⟩=some (.bool e0):=by rw[At.cell o.out.1];exact Ib _ _
 have f:=o.out.1;cases e0 with
 |true=>
  have t:Hid (GJ true M l n=true/\E5 true M l n=M):=⟨rfl,rfl⟩
  obtain⟨y,h,a,d⟩:=Al o.out.2.2.1 true M;have x:Hid (AL y (w.heap.size+2) true M/\dc w y):=⟨a,(o.out.2.2.2.1).trans (d.below (by omega) (o.out.2.2.2.1).size)⟩
  clear a d;rw[c]at K f h;unfold c4 at K f h;unfold v4;rw[t.out.1,t.out.2];clear E P O H z u o t c Q hn;go_enter func113,ntmps113;go_wp2_with (refine AH rfl (.tmp 3) rfl rfl f ?_);try simp only[Exit.inBlock,Exit.then]
  refine bJ (Ag rfl _ rfl x.out.1) rfl ?_;exact⟨rfl,x.out.2⟩
 |false=>
  obtain⟨T,A⟩:∃T:World->Prop,T=λw'=>dc p w':=⟨_,rfl⟩
  have s:Calls prog 116 #[.agg (oc false M),v4 l] p λe w'=>e=.returned (.int .i64 (FC M l))/\T w':=by rw[A];exact z.out p
  have N:Hid (Ko false M l n=decide (FC M l<=n)):=by show _=_;unfold Ko;simp
  have D:Hid (GJ false M l n=(if Ko false M l n=true then false else By (Aj (lm M (CF l) (C4 l) n)) 8)/\E5 false M l n=if Ko false M l n=true then M else Aj (lm M (CF l) (C4 l) n)):=⟨rfl,rfl⟩
  rw[c]at K f s;unfold c4 at K f s;unfold v4 at s|-;generalize FC M l=gr at *;obtain⟨g1,g2⟩:=H;obtain⟨n1,n2⟩:=hn;have U:Hid (∀k,k<64-> -20000000000<=M k/\M k<=1000000):=E;clear P z c Q E;go_enter func113,ntmps113;go_wp2_with (refine Gg (by first|rfl|simp[Region.wanted,yielded]) (.tmp 3) rfl rfl f ?_);refine s.mono ?_;rintro e b ⟨rfl,g⟩;rw[A]at g;have s0:=o.out.2.2.2.2;have m:Hid (AL b w.heap.size false M/\At b (w.heap.size+1) (c4 l) FS/\AL b (w.heap.size+2) false (λ_=>0)/\dc w b/\w.heap.size+3<=b.heap.size):=by
   have s1:=g.size;exact⟨At.keep o.out.1 g (by omega),At.keep o.out.2.1 g (by omega),At.keep o.out.2.2.1 g (by omega),o.out.2.2.2.1.trans (g.mono (by omega)),by omega⟩
  clear g A s f K o;by_cases q:gr<=n
  .have t:Hid (GJ false M l n=false/\E5 false M l n=M):=by
    show _/\_;rw[D.out.1,D.out.2,N.out,cC q];exact⟨rfl,rfl⟩
   obtain⟨y,h,a,d⟩:=Al m.out.2.2.1 false M;have x:Hid (AL y (w.heap.size+2) false M/\dc w y):=⟨a,(m.out.2.2.2.1).trans (d.below (by omega) (m.out.2.2.2.1).size)⟩
   clear a d;clear N D u;go_wp2_with (refine AH rfl (.tmp 3) rfl rfl m.out.1 ?_);try simp only[Exit.inBlock,Exit.then]
   refine bJ (Ag rfl _ rfl x.out.1) rfl ?_;exact⟨by rw[t.out.1,t.out.2],x.out.2⟩
  .have t:Hid (GJ false M l n=By (Aj (lm M (CF l) (C4 l) n)) 8/\E5 false M l n=Aj (lm M (CF l) (C4 l) n)):=by
    show _/\_;rw[D.out.1,D.out.2,N.out,bT q];exact⟨rfl,rfl⟩
   have W:b.cell? ⟨w.heap.size+1,0,none⟩=some (.int .i64 (AK l 0)):=m.out.2.1.cell 0;have X:b.cell? ⟨w.heap.size+1,1,none⟩=some (.int .i64 (AK l 1)):=m.out.2.1.cell 1;have Y:b.cell? ⟨w.heap.size+1,2,none⟩=some (.int .i64 (AK l 2)):=m.out.2.1.cell 2;have Z:b.cell? ⟨w.heap.size+1,3,none⟩=some (.int .i64 (AK l 3)):=m.out.2.1.cell 3;have C:=u.out b;unfold v4 at C;have i8:CF l<8:=O.1;have j8:C4 l<8:=O.2;clear N D u O s0;generalize CF l=i at *;generalize C4 l=j at *;go_wp2_with fail;refine C.mono ?_;rintro e R ⟨rfl,r⟩;have F:Hid (AL R w.heap.size false M/\AL R (w.heap.size+2) false (λ_=>0)/\dc w R/\w.heap.size+3<=R.heap.size):=by
    have s1:=m.out.2.2.2.2;have s2:=r.size;exact⟨At.keep m.out.1 r (by omega),At.keep m.out.2.2.1 r (by omega),m.out.2.2.2.1.trans (r.mono (by omega)),by omega⟩
   have I:=MY F.out.1 i j i8 j8 n ⟨by omega,by omega⟩;clear r C W X Y Z m;go_wp2_with fail;refine I.mono ?_;rintro e S ⟨rfl,h3,v⟩;have G:Hid (AL S w.heap.size false (lm M i j n)/\AL S (w.heap.size+2) false (λ_=>0)/\dc w S/\w.heap.size+3<=S.heap.size):=by
    have s2:=F.out.2.2.2;have s3:=v.size;exact⟨h3,v.at_ F.out.2.1 (by omega),F.out.2.2.1.trans (v.below (bB _) (by omega)),by omega⟩
   have J:=Lj G.out.1 (Ta U.out ⟨n1,n2⟩);clear h3 v I F;go_wp2_with fail;refine J.mono ?_;rintro e V ⟨rfl,h4,B⟩;have L:Hid (AL V w.heap.size (By (Aj (lm M i j n)) 8) (Aj (lm M i j n))/\AL V (w.heap.size+2) false (λ_=>0)/\dc w V):=by
    have s3:=G.out.2.2.2;exact⟨h4,B.at_ G.out.2.1 (by omega),G.out.2.2.1.trans (B.below (bB _) (by omega))⟩
   clear h4 B J G;generalize By (Aj (lm M i j n)) 8=e4 at *;generalize Aj (lm M i j n)=M4 at *;obtain⟨y,h,a,d⟩:=Al L.out.2.1 e4 M4;have x:Hid (AL y (w.heap.size+2) e4 M4/\dc w y):=⟨a,(L.out.2.2).trans (d.below (by omega) (L.out.2.2).size)⟩
   clear a d;go_wp2_with (refine AH rfl (.tmp 3) rfl rfl L.out.1 ?_);try simp only[Exit.inBlock,Exit.then]
   refine bJ (Ag rfl _ rfl x.out.1) rfl ?_;exact⟨by rw[t.out.1,t.out.2],x.out.2⟩
end Go.Proofs.YtffajooegiempaaGreatDoor
