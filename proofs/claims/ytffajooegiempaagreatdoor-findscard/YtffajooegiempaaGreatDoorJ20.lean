import Derived.Test.YtffajooegiempaaGreatDoorJ19
set_option maxRecDepth 100000
set_option maxHeartbeats 6400000
namespace Go.Proofs.YtffajooegiempaaGreatDoor
variable {m m':Rd}
def Fq(s:St):Prop:=(s.kind=61->nz s.sg<=1)/\(s.kind≠61->s.star=true\/1<=nz s.sg)
def Gq(x:Int)(s:St):Prop:=
 if x=61\/x=118\/x=86 then s.kind=61/\nz s.sg=0
 else if x=120\/x=121\/x=110 then s.kind=61/\nz s.sg<=1
 else if x=99\/x=67 then s.kind≠61
 else if x=100\/x=101\/x=102\/x=60\/x=98\/x=66\/x=109 then s.kind≠61/\1<=nz s.sg
 else Fq s
structure Kn(m:Rd):Prop where
 all:∀i,i+1<m.st.length->Fq (m.st.getD i AY)
 now:0<m.st.length->Gq m.state (cur m)
 sgn:m.state=67->m.sign= -1
theorem Yg{x:Int}{s:St}(h:x=61\/x=118\/x=86):Gq x s↔s.kind=61/\nz s.sg=0:=by unfold Gq;rw[if_pos h]
theorem Yh{x:Int}{s:St}(h:x=120\/x=121\/x=110):Gq x s↔s.kind=61/\nz s.sg<=1:=by unfold Gq;rw[if_neg (by omega),if_pos h]
theorem Y5{x:Int}{s:St}(h:x=99\/x=67):Gq x s↔s.kind≠61:=by unfold Gq;rw[if_neg (by omega),if_neg (by omega),if_pos h]
theorem No{x:Int}{s:St}(h:x=100\/x=101\/x=102\/x=60\/x=98\/x=66\/x=109):Gq x s↔s.kind≠61/\1<=nz s.sg:=by unfold Gq;rw[if_neg (by omega),if_neg (by omega),if_neg (by omega),if_pos h]
theorem TS{x:Int}{s:St}(h:x=115\/x=59\/x=123\/x=125):Gq x s↔Fq s:=by unfold Gq;rw[if_neg (by omega),if_neg (by omega),if_neg (by omega),if_neg (by omega)]
theorem TT(m:Rd)(s:St):Gq (AG m) s↔Fq s:=TS (by unfold AG;split<;>omega)
theorem Si(m:Rd):AG m≠67:=by unfold AG;split<;>omega
theorem Nn(m:Rd)(s:St)(i:Nat)(h:i+1<m.st.length):(m.st.set (m.st.length-1) s).getD i AY=m.st.getD i AY:=by
 simp[List.getD,show¬m.st.length-1=i by omega]
theorem Kn.setC(h:Kn m){s:St}(hp:0<m.st.length)(e:m'.st=m.st.set (m.st.length-1) s)(hs:Gq m'.state s)(hn:m'.state=67->m'.sign= -1):Kn m':=by
 have hl:m'.st.length=m.st.length:=by rw[e];simp
 refine⟨λi hi=>?_,λ_=>?_,hn⟩
 ·rw[e,Nn m s i (by omega)];exact h.all i (by omega)
 ·have:Go.Proofs.YtffajooegiempaaGreatDoor.cur m'=s:=by
   unfold Go.Proofs.YtffajooegiempaaGreatDoor.cur;rw[hl,e];simp[List.getD,show m.st.length-1<m.st.length by omega]
  rw[this];exact hs
theorem Kn.of(h:Kn m)(e:m'.st=m.st)(hg:Gq m.state (Go.Proofs.YtffajooegiempaaGreatDoor.cur m)->Gq m'.state (Go.Proofs.YtffajooegiempaaGreatDoor.cur m))(hn:m'.state=67->m'.sign= -1):Kn m':=by
 have hc:Go.Proofs.YtffajooegiempaaGreatDoor.cur m'=Go.Proofs.YtffajooegiempaaGreatDoor.cur m:=by unfold Go.Proofs.YtffajooegiempaaGreatDoor.cur;rw[e]
 exact⟨λi hi=>by rw[e]at hi|-;exact h.all i hi,λhp=>by rw[hc];exact hg (h.now (by rw[<-e];exact hp)),hn⟩
theorem Kn.begin_(h:Kn m)(h115:m.state=115){k v x:Int}(e:BN m k v x=some m')(hx:x=61\/x=99)(hk:Gq x ⟨k,v,false,[0,0,0,0],0,0,m.st.length+1⟩):Kn m':=by
 unfold BN at e;split at e
 ·cases e
 ·cases e
  refine⟨λi hi=>?_,λ_=>?_,λq=>?_⟩
  ·have hi':i<m.st.length:=by simpa using hi
   show Fq ((m.st++[_]).getD i AY);have e1:(m.st++[(⟨k,v,false,[0,0,0,0],0,0,m.st.length+1⟩:St)]).getD i AY=m.st.getD i AY:=by simp[List.getD,List.getElem?_append_left hi']
   rw[e1];rcases Nat.lt_or_eq_of_le (Nat.succ_le_of_lt hi')with q|q
   ·exact h.all i q
   ·have:=h.now (by omega);rw[TS (.inl h115)]at this;unfold Go.Proofs.YtffajooegiempaaGreatDoor.cur at this;rw[show m.st.length-1=i by omega]at this;exact this
  ·show Gq x ((m.st++[_]).getD ((m.st++[_]).length-1) AY);simpa[List.getD]using hk
  ·have q':x=67:=q;omega
theorem Kn.shut(h:Kn m)(h115:m.state=115)(e:Ba m=some m'):Kn m':=by
 have hall:∀i,i<m.st.length->Fq (m.st.getD i AY):=by
  intro i hi;rcases Nat.lt_or_eq_of_le (Nat.succ_le_of_lt hi)with q|q
  ·exact h.all i q
  ·have:=h.now (by omega);rw[TS (.inl h115)]at this;unfold Go.Proofs.YtffajooegiempaaGreatDoor.cur at this;rw[show m.st.length-1=i by omega]at this;exact this
 have key:∀(s:St),(s.kind=(m.st.getD (top m).of_ AY).kind/\s.sg=(m.st.getD (top m).of_ AY).sg/\s.star=(m.st.getD (top m).of_ AY).star)->∀i,i<m.st.length->Fq ((m.st.set (top m).of_ s).getD i AY):=by
  intro s hs i hi;by_cases q:(top m).of_=i
  ·have e1:(m.st.set (top m).of_ s).getD i AY=s:=by simp[List.getD,q,hi]
   rw[e1];have:=hall i hi;rw[<-q]at this;unfold Fq at *;rw[hs.1,hs.2.1,hs.2.2];exact this
  ·have e1:(m.st.set (top m).of_ s).getD i AY=m.st.getD i AY:=by simp[List.getD,q]
   rw[e1];exact hall i hi
 have fin:∀(m2:Rd)(s:St),(s.kind=(m.st.getD (top m).of_ AY).kind/\s.sg=(m.st.getD (top m).of_ AY).sg/\s.star=(m.st.getD (top m).of_ AY).star)->m2.st=m.st.set (top m).of_ s->(m2.state=115\/m2.state=125)->Kn m2:=by
  intro m2 s hs e2 hst;have hl:m2.st.length=m.st.length:=by rw[e2];simp
  refine⟨λi hi=>by rw[e2];exact key s hs i (by omega),λhp=>?_,λq=>by omega⟩;rw[TS (by omega)];unfold Go.Proofs.YtffajooegiempaaGreatDoor.cur;rw[hl,e2];exact key s hs _ (by omega)
 simp only[Ba]at e;split at e
 ·cases e;exact fin _ {m.st.getD (top m).of_ AY with fin:=m.st.length,mid:=m.st.length} ⟨rfl,rfl,rfl⟩ rfl (.inr rfl)
 ·cases e;exact fin _ {m.st.getD (top m).of_ AY with fin:=m.st.length} ⟨rfl,rfl,rfl⟩ rfl (.inl h115)
theorem Kn.digit(h:Kn m)(hp:0<m.st.length){c x:Int}{pos:Bool}(e:AT m c pos x=some m')(hx:x=110\/x=109)(hg:∀s:St,s.kind=(cur m).kind->s.sg=(cur m).sg->Gq x s):Kn m':=by
 obtain⟨d,u,_,_,rfl⟩:=Gl e;refine h.setC (s:={Go.Proofs.YtffajooegiempaaGreatDoor.cur m with num:=10*u+(c-48)}) hp rfl (hg _ rfl rfl) (λq=>?_);have q':x=67:=q;omega
theorem Qr:∀(l:List Int)(v:Nat)(x:Int),x≠0->v<l.length->1<=nz (l.set v x):=by
 intro l;induction l with
 |nil=>intro v x _ h;simp at h
 |cons a l ih=>
  intro v x hx h;cases v with
  |zero=>rw[List.set_cons_zero,C2,if_neg hx];omega
  |succ v=>
   rw[List.set_cons_succ,C2];have:=ih v x hx (by simpa using h);omega
theorem V2:∀(l:List Int)(v:Nat)(x:Int),l.getD v 0=0->nz l<=nz (l.set v x):=by
 intro l;induction l with
 |nil=>intro v x _;simp
 |cons a l ih=>
  intro v x h;cases v with
  |zero=>
   have h':a=0:=h;rw[List.set_cons_zero,C2,C2,if_pos h'];omega
  |succ v=>
   rw[List.set_cons_succ,C2,C2];have:=ih v x h;omega
theorem Kn.signTo(h:Kn m)(hp:0<m.st.length)(v:Nat)(y x:Int)(hx:x≠67)(hg:Gq x {cur m with sg:=(cur m).sg.set v y}):Kn (Bp m v y x):=
 h.setC (s:={Go.Proofs.YtffajooegiempaaGreatDoor.cur m with sg:=(Go.Proofs.YtffajooegiempaaGreatDoor.cur m).sg.set v y}) hp rfl hg (λq=>absurd q hx)
theorem Kn.plain(h:Kn m){c:Int}(hs:m.state=59\/m.state=123)(e:Ac m c=some m'):Kn m':=by
 have ho:Gq m.state (cur m)->Gq 115 (cur m):=λq=>by rw[TS (.inl rfl)];rw[TS (by omega)]at q;exact q
 unfold Ac at e;split at e
 ·split at e
  ·cases e;exact h.of rfl ho (λq=>by cases q)
  ·cases e
 ·split at e
  ·cases e
  ·cases e;exact h.of rfl ho (λq=>by cases q)
theorem Kn.value(h:Kn m)(ok:Ok m){c:Int}(hv:m.state=118\/m.state=86\/m.state=120\/m.state=121\/m.state=110)(e:AO m c=some m'):Kn m':=by
 have hp:0<m.st.length:=ok.some_ (by omega);have hc:=h.now hp;have hset:∀v y,nz ((cur m).sg.set v y)<=nz (cur m).sg+1:=λv y=>To _ v y;have ve:(Gq m.state (cur m)->(cur m).kind=61/\nz (cur m).sg<=1)->Kn (CW m):=λq=>
  h.setC (s:={Go.Proofs.YtffajooegiempaaGreatDoor.cur m with num:=m.sign*(Go.Proofs.YtffajooegiempaaGreatDoor.cur m).num}) hp rfl (by
   show Gq 115 _;rw[TS (.inl rfl)]
   exact⟨λ_=>(q hc).2,λz=>absurd (q hc).1 z⟩) (λz=>by cases z)
 have dg:∀{m1:Rd}{p:Bool},m1.st=m.st->Kn m1->((cur m).kind=61/\nz (cur m).sg<=1)->AT m1 c p 110=some m'->Kn m':=by
  intro m1 p e1 k1 q e2;have hcm:Go.Proofs.YtffajooegiempaaGreatDoor.cur m1=Go.Proofs.YtffajooegiempaaGreatDoor.cur m:=by unfold Go.Proofs.YtffajooegiempaaGreatDoor.cur;rw[e1]
  refine k1.digit (by rw[e1];exact hp) e2 (.inl rfl) (λs h1 h2=>?_);rw[Yh (by omega),h1,h2,hcm];exact q
 unfold AO at e;by_cases x1:m.state=118
 ·rw[if_pos x1]at e;rw[x1,Yg (by omega)]at hc;split at e
  ·cases e
   exact h.setC (s:={Go.Proofs.YtffajooegiempaaGreatDoor.cur m with star:=true}) hp rfl (by show Gq 59 _;rw[TS (by omega)];exact⟨λ_=>by show nz (cur m).sg<=1;omega,λ_=>.inl rfl⟩) (λz=>by cases z)
  split at e
  ·cases e;exact h.of rfl (λ_=>by show Gq 86 _;rw[Yg (by omega)];exact hc) (λz=>by cases z)
  split at e
  ·cases e;exact h.signTo hp _ 1 120 (by omega) (by rw[Yh (by omega)];exact⟨hc.1,by have:=hset (c-97).toNat 1;show nz ((cur m).sg.set _ _)<=1;omega⟩)
  ·exact dg (m1:={m with sign:=1}) rfl (h.of rfl id (λq=>by have q':m.state=67:=q;omega)) ⟨hc.1,by omega⟩ e
 rw[if_neg x1]at e;by_cases x2:m.state=86
 ·rw[if_pos x2]at e;rw[x2,Yg (by omega)]at hc;split at e
  ·cases e;exact h.signTo hp _ m.sign 120 (by omega) (by rw[Yh (by omega)];exact⟨hc.1,by have:=hset (c-97).toNat m.sign;show nz ((cur m).sg.set _ _)<=1;omega⟩)
  ·exact dg rfl h ⟨hc.1,by omega⟩ e
 rw[if_neg x2]at e;have hc1:(cur m).kind=61/\nz (cur m).sg<=1:=by rw[Yh (by omega)]at hc;exact hc
 by_cases x3:m.state=120
 ·rw[if_pos x3]at e;split at e
  ·cases e;exact h.of rfl (λ_=>by show Gq 121 _;rw[Yh (by omega)];exact hc1) (λz=>by cases z)
  split at e
  ·cases e;exact h.of rfl (λ_=>by show Gq 121 _;rw[Yh (by omega)];exact hc1) (λz=>by cases z)
  split at e
  ·cases e;exact ve (λ_=>hc1)
  ·cases e
 rw[if_neg x3]at e;by_cases x4:m.state=121
 ·rw[if_pos x4]at e;exact dg rfl h hc1 e
 rw[if_neg x4]at e;split at e
 ·cases e;exact ve (λ_=>hc1)
 ·exact dg rfl h hc1 e
theorem Kn.cond(h:Kn m)(ok:Ok m){c:Int}(hs:m.state=99\/m.state=67\/m.state=100\/m.state=101\/m.state=102\/m.state=60\/m.state=98\/m.state=66\/m.state=109\/m.state=125)(e:AF m c=some m'):Kn m':=by
 have hp:0<m.st.length:=ok.some_ (by omega);have hc:=h.now hp
 have hl4:(cur m).sg.length=4:=ok.sgl _ (by
  unfold cur;rw[List.getD_eq_getElem?_getD,List.getElem?_eq_getElem (show m.st.length-1<m.st.length by omega)]
  exact List.getElem_mem _)
 have dg:∀{p:Bool},((cur m).kind≠61/\1<=nz (cur m).sg)->AT m c p 109=some m'->Kn m':=by
  intro p q e2;refine h.digit hp e2 (.inr rfl) (λs h1 h2=>?_);rw[No (by omega),h1,h2];exact q
 unfold AF at e;by_cases x1:m.state=99
 ·rw[if_pos x1]at e;rw[x1,Y5 (by omega)]at hc;split at e
  ·cases e
   exact h.setC (s:={Go.Proofs.YtffajooegiempaaGreatDoor.cur m with star:=true}) hp rfl (by show Gq (AG m) _;rw[TT];exact⟨λz=>absurd z hc,λ_=>.inl rfl⟩) (λz=>absurd z (Si m))
  split at e
  ·cases e;exact h.of rfl (λ_=>by show Gq 67 _;rw[Y5 (by omega)];exact hc) (λ_=>rfl)
  split at e
  ·rename_i hr;cases e;exact h.signTo hp _ 1 100 (by omega) (by rw[No (by omega)];exact⟨hc,Qr _ _ 1 (by omega) (by omega)⟩)
  ·cases e
 rw[if_neg x1]at e;by_cases x2:m.state=67
 ·rw[if_pos x2]at e;rw[x2,Y5 (by omega)]at hc;split at e
  ·rename_i hr;cases e;exact h.signTo hp _ m.sign 100 (by omega) (by rw[No (by omega)];exact⟨hc,Qr _ _ m.sign (by rw[h.sgn x2];omega) (by omega)⟩)
  ·cases e
 rw[if_neg x2]at e;by_cases x3:m.state=100
 ·rw[if_pos x3]at e;rw[x3,No (by omega)]at hc;split at e
  ·cases e;exact h.of rfl (λ_=>by show Gq 101 _;rw[No (by omega)];exact hc) (λz=>by cases z)
  split at e
  ·cases e;exact h.of rfl (λ_=>by show Gq 101 _;rw[No (by omega)];exact hc) (λz=>by cases z)
  split at e
  ·cases e;exact h.of rfl (λ_=>by show Gq 60 _;rw[No (by omega)];exact hc) (λz=>by cases z)
  ·cases e
 rw[if_neg x3]at e;by_cases x4:m.state=101
 ·rw[if_pos x4]at e;rw[x4,No (by omega)]at hc;split at e
  ·split at e
   ·rename_i hz;cases e;exact h.signTo hp _ m.sign 102 (by omega) (by rw[No (by omega)];exact⟨hc.1,Nat.le_trans hc.2 (V2 _ _ _ hz)⟩)
   ·cases e
  ·cases e
 rw[if_neg x4]at e;by_cases x5:m.state=102
 ·rw[if_pos x5]at e;rw[x5,No (by omega)]at hc;split at e
  ·cases e;exact h.of rfl (λ_=>by show Gq 60 _;rw[No (by omega)];exact hc) (λz=>by cases z)
  ·cases e
 rw[if_neg x5]at e;by_cases x6:m.state=60
 ·rw[if_pos x6]at e;rw[x6,No (by omega)]at hc;split at e
  ·cases e;exact h.of rfl (λ_=>by show Gq 98 _;rw[No (by omega)];exact hc) (λz=>by cases z)
  ·cases e
 rw[if_neg x6]at e;by_cases x7:m.state=98
 ·rw[if_pos x7]at e;rw[x7,No (by omega)]at hc;split at e
  ·cases e;exact h.of rfl (λ_=>by show Gq 66 _;rw[No (by omega)];exact hc) (λz=>by cases z)
  ·exact dg hc e
 rw[if_neg x7]at e;by_cases x8:m.state=66
 ·rw[if_pos x8]at e;rw[x8,No (by omega)]at hc;exact dg hc e
 rw[if_neg x8]at e;by_cases x9:m.state=109
 ·rw[if_pos x9]at e;rw[x9,No (by omega)]at hc;split at e
  ·refine Kn.plain (m:={AE m {Go.Proofs.YtffajooegiempaaGreatDoor.cur m with num:=if m.neg then -(Go.Proofs.YtffajooegiempaaGreatDoor.cur m).num else(Go.Proofs.YtffajooegiempaaGreatDoor.cur m).num}with state:=AG m}) ?_ (by show AG m=59\/AG m=123;unfold AG;split<;>omega) e;exact h.setC (s:={Go.Proofs.YtffajooegiempaaGreatDoor.cur m with num:=if m.neg then -(Go.Proofs.YtffajooegiempaaGreatDoor.cur m).num else(Go.Proofs.YtffajooegiempaaGreatDoor.cur m).num}) hp rfl (by show Gq (AG m) _;rw[TT];exact⟨λz=>absurd z hc.1,λ_=>.inr hc.2⟩) (λz=>absurd z (Si m))
  ·exact dg hc e
 rw[if_neg x9]at e;split at e
 ·cases e;exact h.of rfl (λq=>by show Gq 115 _;rw[TS (by omega)];rw[TS (by omega)]at q;exact q) (λz=>by cases z)
 ·cases e
theorem Kn.byte(h:Kn m)(ok:Ok m){c:Int}(e:AM m c=some m'):Kn m':=by
 have hst:=ok.states;unfold AM at e;split at e
 ·rename_i hs;unfold AP at e;split at e
  ·exact h.begin_ hs e (.inl rfl) (by rw[Yg (by omega)];exact⟨rfl,rfl⟩)
  split at e
  ·rename_i hc;split at e
   ·exact h.begin_ hs e (.inr rfl) (by rw[Y5 (by omega)];show c≠61;omega)
   ·cases e
  split at e
  ·rename_i hc;exact h.begin_ hs e (.inr rfl) (by rw[Y5 (by omega)];show c≠61;omega)
  split at e
  ·exact h.shut hs e
  ·cases e
 split at e
 ·rename_i h1 h2;split at e
  ·cases e;exact h.of rfl (λq=>by show Gq 118 _;rw[Yg (by omega)];rw[h2,Yg (by omega)]at q;exact q) (λz=>by cases z)
  ·cases e
 split at e
 ·rename_i hv;exact h.value ok hv e
 split at e
 ·rename_i hv;exact h.plain hv e
 ·exact h.cond ok (by omega) e
theorem Vs{l:List Int}:∀{m:Rd}{n k:Nat},Kn m->Ok m->BH m l n=(k,some m')->Kn m':=by
 induction l with
 |nil=>intro m n k h ok e;simp[BH]at e;rw[<-e.2];exact h
 |cons c l ih=>
  intro m n k h ok e;simp only[BH]at e;split at e
  ·cases e
  ·rename_i m1 e1;exact ih (h.byte ok e1) (ok.byte e1) e
end Go.Proofs.YtffajooegiempaaGreatDoor
namespace Go.Proofs.YtffajooegiempaaGreatDoor
open Go.RowKit
variable {w:World}
def z4(l:List Int):Bool:=decide (AK l 0=0/\AK l 1=0/\AK l 2=0/\AK l 3=0)
def IS(C:Nat->Int)(l:List Int):Int:=
 if 0<=Ar l then bd C (Ar l).toNat else if z4 l=true then 0 else if bd C (Ar (CH l)).toNat=NB then NB else 2*bd C (Ar (CH l)).toNat
def Ky(l:List Int):Bool:=(decide (0<=Ar l)&&decide (Ar l<32))||(decide (Ar l= -1)&&z4 l)||(decide (Ar l= -1)&& !z4 l&&decide (0<=Ar (CH l))&&decide (Ar (CH l)<32))
def SE(l:List Int):Nat->Bool
 |0=>true
 |j+1=>SE l j&&decide (AK l j=0)
theorem Yb(l:List Int):SE l 4=z4 l:=by
 unfold z4;show((((true&&decide (AK l 0=0))&&decide (AK l 1=0))&&decide (AK l 2=0))&&decide (AK l 3=0))=_;by_cases a:AK l 0=0<;>by_cases b:AK l 1=0<;>by_cases c:AK l 2=0<;>by_cases d:AK l 3=0<;>simp[a,b,c,d]
theorem OH(C:Nat->Int)(u v:Value)(l:List Int)(hl:l.length=4)(hv:∀i,i<4-> -2<=AK l i/\AK l i<=2)(hc:Ky l=true)(hS:Sm C)(hu:AQ w u (Bl C))(hr:AQ w v l):
  Calls Tryz.prog 97 #[u,v] w λe w'=>e=.returned (.int .i64 (IS C l))/\Below w.heap.size w w':=by
 have hmk:∀w,(Instr.makeSlice 32 (.int .i64 4) (.int .i64 4)).run Tryz.prog w=.ok (.slice (some ⟨w.heap.size,0,none⟩) 4 4) (w.alloc (.cells #[.int .i64 0,.int .i64 0,.int .i64 0,.int .i64 0] tNk)):=λ_=>by kernel_rfl
 have hn:=Fd v l hl hr (λi hi=>by have:=hv i hi;omega);have hbl:(Bl C).length=32:=by simp[Bl]
 have HN2:Hid (∀w1 b,At w1 b (ic (Et l 4)) tNk->Calls Tryz.prog 98 #[.slice (some ⟨b,0,none⟩) 4 4] w1 λe w'=>e=.returned (.int .i64 (Ar (CH l)))/\Below w1.heap.size w1 w'):=by
  intro w1 b h1;rw[T1 hl]at h1;have hh:(CH l).length=4:=by unfold CH;rw[List.length_map];exact hl
  refine Fd _ (CH l) hh (AQ.at_ h1 hh (Nat.le_refl _) (λi hi=>Aa _ _ (by omega))) (λi hi=>?_);have:AK (CH l) i=(AK l i).tdiv 2:=by
   obtain⟨a,b,c,d,rfl⟩:=C0 hl;rcases(show i=0\/i=1\/i=2\/i=3 by omega)with rfl|rfl|rfl|rfl<;>rfl
  rw[this];have:=AW (AK l i);have:=hv i hi;omega
 have HG:Hid (IS C l=if 0<=Ar l then bd C (Ar l).toNat else if z4 l=true then 0 else if bd C (Ar (CH l)).toNat=NB then NB else 2*bd C (Ar (CH l)).toNat):=rfl;have hbr:=λ{f:Nat} (hf:f<32)=>Jv hS hf;obtain⟨bu,cu,rfl, -,h0u⟩:=hu;obtain⟨q,ofq,rfl,hq,hcq⟩:=h0u (by omega);obtain⟨au,ca,rfl, -,h0⟩:=id hr;obtain⟨p,off,rfl,hp,hcell⟩:=h0 (by omega);have HC:Hid (∀i,i<4->w.cell? ⟨p,off+i,none⟩=some (.int .i64 (AK l i))):=λi hi=>hcell i (by omega);have HCq:Hid (∀i,i<32->w.cell? ⟨q,ofq+i,none⟩=some (.int .i64 (bd C i))):=λi hi=>by rw[hcq i (by omega)];exact congrArg (λz=>some (Value.int .i64 z)) (Gh C i hi)
 rw[hbl];rw[hl]at hn|-;clear h0 h0u hcell hcq hr hS;by_cases e:0<=Ar l
 ·have hlt:Ar l<32:=by
   unfold Ky at hc;simp only[Bool.or_eq_true,Bool.and_eq_true,decide_eq_true_eq]at hc;omega
  obtain⟨f,hf⟩:∃f:Nat,Ar l=(f:Int):=⟨(Ar l).toNat,by omega⟩
  have hf32:f<32:=by omega
  have HE:Hid (IS C l=bd C f):=by show _=_;rw[HG.out,if_pos e,hf,Int.toNat_natCast]
  rw[hf]at hn;have hfi:(f:Int)<32:=by omega
  have HCf:Hid (w.cell? ⟨q,ofq+f,none⟩=some (.int .i64 (bd C f))):=HCq.out f hf32;clear HG hc hlt hf e HN2;generalize bd C f=g at *;go_enter Tryz.func97,Tryz.ntmps97;go_wp2_with fail;refine hn.mono ?_;rintro e w1 ⟨rfl,hb1⟩;have cq:w1.cell? ⟨q,ofq+f,none⟩=some (.int .i64 g):=(hb1.cell (p:=⟨q,ofq+f,none⟩) hq).trans HCf.out;have HB1:Hid (Below w.heap.size w w1):=hb1;clear hb1 hn;go_wp2_with fail;go_ret;exact⟨by rw[HE.out];rfl,HB1.out⟩
 ·have hm1:Ar l= -1:=by
   unfold Ky at hc;simp only[Bool.or_eq_true,Bool.and_eq_true,decide_eq_true_eq]at hc;omega
  have HE:Hid (IS C l=if z4 l=true then 0 else if bd C (Ar (CH l)).toNat=NB then NB else 2*bd C (Ar (CH l)).toNat):=by show _=_;rw[HG.out,if_neg e]
  rw[hm1]at hn;have HHf:Hid (z4 l=false->0<=Ar (CH l)/\Ar (CH l)<32):=by
   intro z;unfold Ky at hc;rw[z]at hc;simp only[Bool.or_eq_true,Bool.and_eq_true,decide_eq_true_eq,Bool.not_false]at hc;rcases hc with(h|h)|h
   ·omega
   ·cases h.2
   ·exact⟨h.1.2,h.2⟩
  have HZ4:Hid (SE l 4=z4 l):=Yb l;clear HG hc hm1 e;go_enter Tryz.func97,Tryz.ntmps97;go_wp2_with fail;refine hn.mono ?_;rintro e w1 ⟨rfl,hb1⟩;have HB1:Hid (Below w.heap.size w w1):=hb1;have hs1:=hb1.size;have HA:Hid (At (w1.alloc (.cells #[.int .i64 0,.int .i64 0,.int .i64 0,.int .i64 0] tNk)) w1.heap.size (ic (Et l 0)) tNk/\Below w.heap.size w (w1.alloc (.cells #[.int .i64 0,.int .i64 0,.int .i64 0,.int .i64 0] tNk))):=⟨At.new _ _ _,hb1.alloc hb1.size _⟩
  clear hb1 hn;go_wp2_with fail;go_loopw [7,8] (λzv iv wr=>∃(j:Nat)(zb:Bool),j<=4/\iv=.int .i64 j/\zv=.bool zb/\Hid (zb=SE l j/\At wr w1.heap.size (ic (Et l j)) tNk/\Below w.heap.size w wr)) (λ_ iv _=>4-(intOf iv).toNat);case atStart=>exact⟨0,true,by omega,rfl,rfl,rfl,HA.out⟩
  case round=>
   obtain⟨j,zb,hj,rfl,rfl,HR⟩:=hrel;by_cases hlt:j<4
   ·have hji:(j:Int)<4:=by omega
    have ca:wr.cell? ⟨p,off+j,none⟩=some (.int .i64 (AK l j)):=(HR.out.2.2.cell (p:=⟨p,off+j,none⟩) hp).trans (HC.out j hlt);obtain⟨x0,hx0⟩:∃x,wr.cell? ⟨w1.heap.size,j,none⟩=some x:=by
     rw[HR.out.2.1.cell];have hlen:(Et l j).length=4:=by
      rcases(show j=0\/j=1\/j=2\/j=3 by omega)with rfl|rfl|rfl|rfl<;>rfl
     exact⟨_,Aa _ _ (by omega)⟩
    have cf:=HR.out.2.1.free;have hbl:=HR.out.2.1.lt;have ne1:p≠w1.heap.size:=by omega
    have hx:=hv j hlt;have HP:Hid (Et l (j+1)=(Et l j).set j ((AK l j).tdiv 2)):=rfl;have HZ:Hid (SE l (j+1)=(SE l j&&decide (AK l j=0))):=rfl;have ta:=AW (AK l j);generalize AK l j=x at *;obtain⟨ta1,ta2⟩:=ta;obtain⟨hx1,hx2⟩:=hx;by_cases ez:x=0
    ·subst ez;cases zb with
     |true=>
      go_wp2_with fail;go_roundw;case rel=>
       refine⟨j+1,true,by omega,by go_num,rfl,?_,?_,HR.out.2.2.setCell hs1 _⟩
       ·rw[HZ.out,<-HR.out.1];rfl
       ·rw[HP.out,<-Be];exact HR.out.2.1.put j _
      case measure=>simp[intOf];omega
     |false=>
      go_wp2_with fail;go_roundw;case rel=>
       refine⟨j+1,false,by omega,by go_num,rfl,?_,?_,HR.out.2.2.setCell hs1 _⟩
       ·rw[HZ.out,<-HR.out.1];rfl
       ·rw[HP.out,<-Be];exact HR.out.2.1.put j _
      case measure=>simp[intOf];omega
    ·have ez':(x==0)=false:=by simpa using ez
     cases zb with
     |true=>
      go_wp2_with fail;go_roundw;case rel=>
       refine⟨j+1,false,by omega,by go_num,rfl,?_,?_,HR.out.2.2.setCell hs1 _⟩
       ·rw[HZ.out,<-HR.out.1,decide_eq_false ez];rfl
       ·rw[HP.out,<-Be];exact HR.out.2.1.put j _
      case measure=>simp[intOf];omega
     |false=>
      go_wp2_with fail;go_roundw;case rel=>
       refine⟨j+1,false,by omega,by go_num,rfl,?_,?_,HR.out.2.2.setCell hs1 _⟩
       ·rw[HZ.out,<-HR.out.1];rfl
       ·rw[HP.out,<-Be];exact HR.out.2.1.put j _
      case measure=>simp[intOf];omega
   ·have hj4:j=4:=by omega
    subst hj4;have HZz:Hid (zb=z4 l):=by show zb=_;rw[<-HZ4.out];exact HR.out.1
    cases zb with
    |true=>
     have HEz:Hid (IS C l=0):=by show _=_;rw[HE.out,<-HZz.out,if_pos rfl]
     go_wp2_with fail;go_ret;exact⟨by rw[HEz.out];rfl,HR.out.2.2⟩
    |false=>
     obtain⟨h1,h2⟩:=HHf.out HZz.out.symm;obtain⟨f,hf⟩:∃f:Nat,Ar (CH l)=(f:Int):=⟨(Ar (CH l)).toNat,by omega⟩
     have hf32:f<32:=by omega
     have hfi:(f:Int)<32:=by omega
     have HEz:Hid (IS C l=if bd C f=NB then NB else 2*bd C f):=by show _=_;rw[HE.out,<-HZz.out,if_neg (by decide),hf,Int.toNat_natCast]
     have hnn:=HN2.out wr w1.heap.size HR.out.2.1;rw[hf]at hnn;have HCf:Hid (w.cell? ⟨q,ofq+f,none⟩=some (.int .i64 (bd C f))):=HCq.out f hf32;obtain⟨b1,b2⟩:=hbr hf32;clear h1 h2 hf HE HN2 HZz HHf HZ4;generalize bd C f=g at *;go_wp2_with fail;refine hnn.mono ?_;rintro e w3 ⟨rfl,hb3⟩;have HB3:Hid (Below w.heap.size w w3):=HR.out.2.2.trans (hb3.mono HR.out.2.2.size);have cq:w3.cell? ⟨q,ofq+f,none⟩=some (.int .i64 g):=(HB3.out.cell (p:=⟨q,ofq+f,none⟩) hq).trans HCf.out;clear hb3 hnn;by_cases eg:g=1000000
     ·subst eg;have HEy:Hid (IS C l=1000000):=by show _=_;rw[HEz.out,if_pos (show(1000000:Int)=NB from rfl)];rfl
      go_wp2_with fail;go_ret;exact⟨by rw[HEy.out];rfl,HB3.out⟩
     ·have eg':(g==1000000)=false:=by simpa using eg
      have HEy:Hid (IS C l=2*g):=by show _=_;rw[HEz.out,if_neg (show¬g=NB from eg)]
      go_wp2_with fail;go_ret;exact⟨by rw[HEy.out];rfl,HB3.out⟩
end Go.Proofs.YtffajooegiempaaGreatDoor
namespace Go.Proofs.YtffajooegiempaaGreatDoor
open Go.RowKit
variable {w:World}{e0:Bool}{M:Nat->Int}
def Ko(e:Bool)(M:Nat->Int)(l:List Int)(n:Int):Bool:=decide (e=true\/FC M l<=n)
def GJ(e:Bool)(M:Nat->Int)(l:List Int)(n:Int):Bool:=if Ko e M l n=true then e else By (Aj (lm M (CF l) (C4 l) n)) 8
def E5(e:Bool)(M:Nat->Int)(l:List Int)(n:Int):Nat->Int:=if Ko e M l n=true then M else Aj (lm M (CF l) (C4 l) n)
theorem Ta{i j:Nat}{n:Int}(hM:∀k,k<64-> -20000000000<=M k/\M k<=1000000)(hn: -1000<=n/\n<=1000):∀k,k<64-> -20000000000<=lm M i j n k/\lm M i j n k<=1000000:=by
 intro k hk;have:=hM k hk;unfold lm Bw;split
 ·split<;>omega
 ·split
  ·split<;>omega
  ·exact this
theorem N0(hM:∀k,k<64-> -20000000000<=M k/\M k<=1000000)(l:List Int)(hl:∀i, -1<=AK l i/\AK l i<=1)(n:Int)(hn: -1000<=n/\n<=1000):
  Calls Tryz.prog 113 #[.agg (oc e0 M),v4 l,.int .i64 n] w λe w'=>e=.returned (.agg (oc (GJ e0 M l n) (E5 e0 M l n)))/\Below w.heap.size w w':=by
 have hz:=Bn;have hS:Sm M:=λk hk=>by have:=hM k hk;omega
 have h8:=Cx l 4 (Nat.le_refl _);have hg8:=JZ hS l;have HGr:Hid (∀w1,Calls Tryz.prog 116 #[.agg (oc e0 M),v4 l] w1 λe w'=>e=.returned (.int .i64 (FC M l))/\Below w1.heap.size w1 w'):=λw1=>Fw l hl hS;have HSd:Hid (∀w1,Calls Tryz.prog 142 #[v4 l] w1 λe w'=>e=.returned (.tuple #[.int .i64 ((CF l:Nat):Int),.int .i64 ((C4 l:Nat):Int)])/\Below w1.heap.size w1 w'):=λw1=>Ji l hl;obtain⟨w0,hw0⟩:∃w0,w0=((w.alloc (.cells (oc e0 M) tO)).alloc (.cells (c4 l) FS)).alloc (.cells (oc false λ_=>0) tO):=⟨_,rfl⟩
 have H0:Hid (AL w0 w.heap.size e0 M/\At w0 (w.heap.size+1) (c4 l) FS/\AL w0 (w.heap.size+2) false (λ_=>0)/\Below w.heap.size w w0/\w0.heap.size=w.heap.size+3):=by
  refine⟨by rw[hw0];exact At.allocH (At.allocH (At.new _ _ _) _) _,?_,?_,by rw[hw0];exact(((Below.refl _ _).alloc (Nat.le_refl _) _).alloc (by simp) _).alloc (by simp;omega) _,by rw[hw0];simp⟩
  ·have:=At.allocH (At.new (w.alloc (.cells (oc e0 M) tO)) (c4 l) FS) (.cells (oc false λ_=>0) tO);rw[show(w.alloc (.cells (oc e0 M) tO)).heap.size=w.heap.size+1 by simp]at this;rw[hw0];exact this
  ·have:=At.new ((w.alloc (.cells (oc e0 M) tO)).alloc (.cells (c4 l) FS)) (oc false λ_=>0) tO;rw[show((w.alloc (.cells (oc e0 M) tO)).alloc (.cells (c4 l) FS)).heap.size=w.heap.size+2 by simp]at this;rw[hw0];exact this
 have z0:w0.cell? ⟨w.heap.size,0,none⟩=some (.bool e0):=by rw[At.cell H0.out.1];exact Ib _ _
 have HA0:=H0.out.1;cases e0 with
 |true=>
  have HE:Hid (GJ true M l n=true/\E5 true M l n=M):=⟨rfl,rfl⟩
  obtain⟨w7,hst7,hat7,ho7⟩:=Al H0.out.2.2.1 true M;have H7:Hid (AL w7 (w.heap.size+2) true M/\Below w.heap.size w w7):=⟨hat7,(H0.out.2.2.2.1).trans (ho7.below (by omega) (H0.out.2.2.2.1).size)⟩
  clear hat7 ho7;rw[hw0]at z0 HA0 hst7;unfold c4 at z0 HA0 hst7;unfold v4;rw[HE.out.1,HE.out.2];clear hM hS h8 hg8 HGr HSd H0 HE hw0 hl hn;go_enter Tryz.func113,Tryz.ntmps113;go_wp2_with (refine AH rfl (.tmp 3) rfl rfl HA0 ?_);try simp only[Exit.inBlock,Exit.then]
  refine bodyPost_ret (Ag rfl _ rfl H7.out.1) rfl ?_;exact⟨rfl,H7.out.2⟩
 |false=>
  obtain⟨BW,hBW⟩:∃BW:World->Prop,BW=λw'=>Below w0.heap.size w0 w':=⟨_,rfl⟩
  have hgr:Calls Tryz.prog 116 #[.agg (oc false M),v4 l] w0 λe w'=>e=.returned (.int .i64 (FC M l))/\BW w':=by rw[hBW];exact HGr.out w0
  have HS:Hid (Ko false M l n=decide (FC M l<=n)):=by show _=_;unfold Ko;simp
  have HD:Hid (GJ false M l n=(if Ko false M l n=true then false else By (Aj (lm M (CF l) (C4 l) n)) 8)/\E5 false M l n=if Ko false M l n=true then M else Aj (lm M (CF l) (C4 l) n)):=⟨rfl,rfl⟩
  rw[hw0]at z0 HA0 hgr;unfold c4 at z0 HA0 hgr;unfold v4 at hgr|-;generalize FC M l=gr at *;obtain⟨g1,g2⟩:=hg8;obtain⟨n1,n2⟩:=hn;have HMr:Hid (∀k,k<64-> -20000000000<=M k/\M k<=1000000):=hM;clear hS HGr hw0 hl hM;go_enter Tryz.func113,Tryz.ntmps113;go_wp2_with (refine Gg (by first|rfl|simp[Region.wanted,yielded]) (.tmp 3) rfl rfl HA0 ?_);refine hgr.mono ?_;rintro e w1 ⟨rfl,hb1⟩;rw[hBW]at hb1;have s0:=H0.out.2.2.2.2;have H1:Hid (AL w1 w.heap.size false M/\At w1 (w.heap.size+1) (c4 l) FS/\AL w1 (w.heap.size+2) false (λ_=>0)/\Below w.heap.size w w1/\w.heap.size+3<=w1.heap.size):=by
   have s1:=hb1.size;exact⟨At.keep H0.out.1 hb1 (by omega),At.keep H0.out.2.1 hb1 (by omega),At.keep H0.out.2.2.1 hb1 (by omega),H0.out.2.2.2.1.trans (hb1.mono (by omega)),by omega⟩
  clear hb1 hBW hgr HA0 z0 H0;by_cases q:gr<=n
  ·have HE:Hid (GJ false M l n=false/\E5 false M l n=M):=by
    show _/\_;rw[HD.out.1,HD.out.2,HS.out,decide_eq_true q];exact⟨rfl,rfl⟩
   obtain⟨w7,hst7,hat7,ho7⟩:=Al H1.out.2.2.1 false M;have H7:Hid (AL w7 (w.heap.size+2) false M/\Below w.heap.size w w7):=⟨hat7,(H1.out.2.2.2.1).trans (ho7.below (by omega) (H1.out.2.2.2.1).size)⟩
   clear hat7 ho7;clear HS HD HSd;go_wp2_with (refine AH rfl (.tmp 3) rfl rfl H1.out.1 ?_);try simp only[Exit.inBlock,Exit.then]
   refine bodyPost_ret (Ag rfl _ rfl H7.out.1) rfl ?_;exact⟨by rw[HE.out.1,HE.out.2],H7.out.2⟩
  ·have HE:Hid (GJ false M l n=By (Aj (lm M (CF l) (C4 l) n)) 8/\E5 false M l n=Aj (lm M (CF l) (C4 l) n)):=by
    show _/\_;rw[HD.out.1,HD.out.2,HS.out,decide_eq_false q];exact⟨rfl,rfl⟩
   have d0:w1.cell? ⟨w.heap.size+1,0,none⟩=some (.int .i64 (AK l 0)):=H1.out.2.1.cell 0;have d1:w1.cell? ⟨w.heap.size+1,1,none⟩=some (.int .i64 (AK l 1)):=H1.out.2.1.cell 1;have d2:w1.cell? ⟨w.heap.size+1,2,none⟩=some (.int .i64 (AK l 2)):=H1.out.2.1.cell 2;have d3:w1.cell? ⟨w.heap.size+1,3,none⟩=some (.int .i64 (AK l 3)):=H1.out.2.1.cell 3;have hsd:=HSd.out w1;unfold v4 at hsd;have i8:CF l<8:=h8.1;have j8:C4 l<8:=h8.2;clear HS HD HSd h8 s0;generalize CF l=i at *;generalize C4 l=j at *;go_wp2_with fail;refine hsd.mono ?_;rintro e w2 ⟨rfl,hb2⟩;have H2:Hid (AL w2 w.heap.size false M/\AL w2 (w.heap.size+2) false (λ_=>0)/\Below w.heap.size w w2/\w.heap.size+3<=w2.heap.size):=by
    have s1:=H1.out.2.2.2.2;have s2:=hb2.size;exact⟨At.keep H1.out.1 hb2 (by omega),At.keep H1.out.2.2.1 hb2 (by omega),H1.out.2.2.2.1.trans (hb2.mono (by omega)),by omega⟩
   have hlm:=MY H2.out.1 i j i8 j8 n ⟨by omega,by omega⟩;clear hb2 hsd d0 d1 d2 d3 H1;go_wp2_with fail;refine hlm.mono ?_;rintro e w3 ⟨rfl,h3,ho3⟩;have H3:Hid (AL w3 w.heap.size false (lm M i j n)/\AL w3 (w.heap.size+2) false (λ_=>0)/\Below w.heap.size w w3/\w.heap.size+3<=w3.heap.size):=by
    have s2:=H2.out.2.2.2;have s3:=ho3.size;exact⟨h3,ho3.at_ H2.out.2.1 (by omega),H2.out.2.2.1.trans (ho3.below (Nat.le_refl _) (by omega)),by omega⟩
   have hsh:=Lj H3.out.1 (Ta HMr.out ⟨n1,n2⟩);clear h3 ho3 hlm H2;go_wp2_with fail;refine hsh.mono ?_;rintro e w4 ⟨rfl,h4,ho4⟩;have H4:Hid (AL w4 w.heap.size (By (Aj (lm M i j n)) 8) (Aj (lm M i j n))/\AL w4 (w.heap.size+2) false (λ_=>0)/\Below w.heap.size w w4):=by
    have s3:=H3.out.2.2.2;exact⟨h4,ho4.at_ H3.out.2.1 (by omega),H3.out.2.2.1.trans (ho4.below (Nat.le_refl _) (by omega))⟩
   clear h4 ho4 hsh H3;generalize By (Aj (lm M i j n)) 8=e4 at *;generalize Aj (lm M i j n)=M4 at *;obtain⟨w7,hst7,hat7,ho7⟩:=Al H4.out.2.1 e4 M4;have H7:Hid (AL w7 (w.heap.size+2) e4 M4/\Below w.heap.size w w7):=⟨hat7,(H4.out.2.2).trans (ho7.below (by omega) (H4.out.2.2).size)⟩
   clear hat7 ho7;go_wp2_with (refine AH rfl (.tmp 3) rfl rfl H4.out.1 ?_);try simp only[Exit.inBlock,Exit.then]
   refine bodyPost_ret (Ag rfl _ rfl H7.out.1) rfl ?_;exact⟨by rw[HE.out.1,HE.out.2],H7.out.2⟩
end Go.Proofs.YtffajooegiempaaGreatDoor
