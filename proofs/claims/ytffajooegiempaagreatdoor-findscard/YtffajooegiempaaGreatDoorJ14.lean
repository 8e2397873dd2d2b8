import Derived.Test.YtffajooegiempaaGreatDoorJ13
set_option maxRecDepth 100000
set_option maxHeartbeats 6400000
namespace Go.Proofs.YtffajooegiempaaGreatDoor
open Go.RowKit
def PR(p:Nat):Value:=.pointer (some ⟨p,0,none⟩)
def F5(q:Nat)(s:St):Array Value:=#[.int .u8 s.kind,.int .i64 s.var,.bool s.star,.slice (some ⟨q,0,none⟩) 4 4,.int .i64 s.num,.int .i64 s.mid,.int .i64 s.fin]
def Ii(m:Rd)(vs vo:Value):Array Value:=#[.int .u8 m.state,vs,vo,.int .i64 m.sign,.bool m.neg,.int .i64 m.dig]
def FJ(l:List Int):Array Value:=(l.map (Value.int .i64)).toArray
def IF(b:Bk):Array Value:=#[.int .i64 b.of_,.bool b.second]
abbrev tR:TypeId:=53
abbrev tS:TypeId:=56
abbrev tB:TypeId:=139
abbrev XB:TypeId:=57
abbrev XA:TypeId:=137
abbrev tI:TypeId:=3
structure AZ(B:Nat)(w:World)(r:Nat)(m:Rd)(vs vo:Value)(P Q O:Nat->Nat):Prop where
 rd:At w r (Ii m vs vo) tR
 rs:w.ownsRow B XB 1 vs m.st.length ((List.range m.st.length).map λi=>PR (P i))
 ro:w.ownsRow B XA 1 vo m.op.length ((List.range m.op.length).map λi=>PR (O i))
 st:∀i s,m.st[i]?=some s->At w (P i) (F5 (Q i) s) tS/\At w (Q i) (FJ s.sg) tI
 op:∀i b,m.op[i]?=some b->At w (O i) (IF b) tB
 injP:∀i j,i<m.st.length->j<m.st.length->P i=P j->i=j
 injQ:∀i j,i<m.st.length->j<m.st.length->Q i=Q j->i=j
 injO:∀i j,i<m.op.length->j<m.op.length->O i=O j->i=j
 geR:B<=r
 geP:∀i,i<m.st.length->B<=P i/\B<=Q i
 geO:∀i,i<m.op.length->B<=O i
variable {B:Nat}{w w':World}{r:Nat}{m:Rd}{vs vo:Value}{P Q O:Nat->Nat}
theorem Fx{e:TypeId}{v:Value}{n:Nat}{xs:List Value}(h:w.ownsRow B e 1 v n xs)(hn:0<n):∃g cap c,v=.slice (some ⟨g,0,none⟩) n cap/\B<=g/\At w g c e/\n<=cap:=by
 obtain⟨h1,h2|⟨g,cap,c,hv,hg,hh,h3,h4,h5,h6⟩⟩:=h
 ·omega
 ·exact⟨g,cap,c,hv,hg,hh,h3⟩
theorem Ed{e:TypeId}{v:Value}{n:Nat}{xs:List Value}(h:w.ownsRow B e 1 v n xs)(k:∀g,v.ownBlock=some g->w'.heap[g]?=w.heap[g]?):w'.ownsRow B e 1 v n xs:=by
 obtain⟨h1,h2⟩:=h;refine⟨h1,?_⟩;rcases h2 with h2|⟨g,cap,c,hv,hg,hh,r⟩
 ·exact .inl h2
 ·subst hv;exact .inr ⟨g,cap,c,rfl,hg,by rw[k g rfl];exact hh,r⟩
theorem Cq{e:TypeId}{v:Value}{n:Nat}{xs:List Value}(h:w.ownsRow B e 1 v n xs){b:Nat}{c:Array Value}{t:TypeId}(k:At w b c t)(hn:e≠t):v.ownBlock≠some b:=by
 obtain⟨h1,h2⟩:=h;rcases h2 with⟨rfl,_⟩|⟨g,cap,c',rfl,hg,hh,r⟩
 ·simp[Value.ownBlock]
 ·intro e';simp[Value.ownBlock]at e';exact(At.ne (show At w g c' e from hh) k hn) e'
theorem BY{e:TypeId}{v:Value}{n:Nat}{xs:List Value}(h:w.ownsRow B e 1 v n xs){b:Nat}{c:Array Value}{t:TypeId}(k:At w b c t)(hn:e≠t)(o:Nat)(u:Value):(w.setCell ⟨b,o,none⟩ u).ownsRow B e 1 v n xs:=
 ownsRow_setCell_other h (Cq h k hn) u
theorem AZ.drewN(h:AZ B w r m vs vo P Q O)(k:Nat):AZ B (w.drewN k) r m vs vo P Q O:=⟨h.rd,h.rs,h.ro,h.st,h.op,h.injP,h.injQ,h.injO,h.geR,h.geP,h.geO⟩
theorem AZ.setRd(h:AZ B w r m vs vo P Q O)(o:Nat)(u:Value)(m':Rd)(hc:(Ii m vs vo).setIfInBounds o u=Ii m' vs vo)(hs:m'.st=m.st)(ho:m'.op=m.op):
  AZ B (w.setCell ⟨r,o,none⟩ u) r m' vs vo P Q O where
 rd:=by rw[<-hc];exact h.rd.put o u
 rs:=by rw[hs];exact BY h.rs h.rd (by decide) o u
 ro:=by rw[ho];exact BY h.ro h.rd (by decide) o u
 st:=by
  intro i s hi;rw[hs]at hi;obtain⟨a,b⟩:=h.st i s hi;exact⟨a.other o u (a.ne h.rd (by decide)),b.other o u (b.ne h.rd (by decide))⟩
 op:=by
  intro i s hi;rw[ho]at hi;have a:=h.op i s hi;exact a.other o u (a.ne h.rd (by decide))
 injP:=by rw[hs];exact h.injP
 injQ:=by rw[hs];exact h.injQ
 injO:=by rw[ho];exact h.injO
 geR:=h.geR
 geP:=by rw[hs];exact h.geP
 geO:=by rw[ho];exact h.geO
theorem AZ.setSt(h:AZ B w r m vs vo P Q O)(k:Nat)(s s':St)(hk:m.st[k]?=some s)(o:Nat)(u:Value)(m':Rd)(hc:(F5 (Q k) s).setIfInBounds o u=F5 (Q k) s')(hsg:s'.sg=s.sg)(hm:m'={m with st:=m.st.set k s'}):
  AZ B (w.setCell ⟨P k,o,none⟩ u) r m' vs vo P Q O:=by
 subst hm;have hlt:k<m.st.length:=by
  rcases Nat.lt_or_ge k m.st.length with h'|h'
  ·exact h'
  ·simp[List.getElem?_eq_none h']at hk
 obtain⟨ka,kb⟩:=h.st k s hk
 exact{
  rd:=h.rd.other o u (h.rd.ne ka (by decide))
  rs:=by simp only[List.length_set];exact BY h.rs ka (by decide) o u
  ro:=BY h.ro ka (by decide) o u
  st:=by
   intro i x hi;by_cases e:i=k
   ·subst e;simp[hlt]at hi;subst hi;exact⟨by rw[<-hc];exact ka.put o u,by rw[hsg];exact kb.other o u (kb.ne ka (by decide))⟩
   ·simp only[List.getElem?_set,if_neg (Ne.symm e)]at hi;have hil:i<m.st.length:=by
     rcases Nat.lt_or_ge i m.st.length with h'|h'
     ·exact h'
     ·simp[List.getElem?_eq_none h']at hi
    obtain⟨a,b⟩:=h.st i x hi;exact⟨a.other o u (λq=>e (h.injP i k hil hlt q)),b.other o u (b.ne ka (by decide))⟩
  op:=by
   intro i x hi;have a:=h.op i x hi;exact a.other o u (a.ne ka (by decide))
  injP:=by simp only[List.length_set];exact h.injP
  injQ:=by simp only[List.length_set];exact h.injQ
  injO:=h.injO
  geR:=h.geR
  geP:=by simp only[List.length_set];exact h.geP
  geO:=h.geO}
theorem AZ.setSg(h:AZ B w r m vs vo P Q O)(k:Nat)(s:St)(hk:m.st[k]?=some s)(o:Nat)(x:Int)(m':Rd)(hm:m'={m with st:=m.st.set k {s with sg:=s.sg.set o x}}):
  AZ B (w.setCell ⟨Q k,o,none⟩ (.int .i64 x)) r m' vs vo P Q O:=by
 subst hm;have hlt:k<m.st.length:=by
  rcases Nat.lt_or_ge k m.st.length with h'|h'
  ·exact h'
  ·simp[List.getElem?_eq_none h']at hk
 obtain⟨ka,kb⟩:=h.st k s hk;have hsg:(FJ s.sg).setIfInBounds o (.int .i64 x)=FJ (s.sg.set o x):=by simp[FJ,List.map_set]
 exact{
  rd:=h.rd.other o _ (h.rd.ne kb (by decide))
  rs:=by simp only[List.length_set];exact BY h.rs kb (by decide) o _
  ro:=BY h.ro kb (by decide) o _
  st:=by
   intro i y hi;by_cases e:i=k
   ·subst e;simp[hlt]at hi;subst hi;exact⟨ka.other o _ (ka.ne kb (by decide)),by show At _ _ (FJ (s.sg.set o x)) _;rw[<-hsg];exact kb.put o _⟩
   ·simp only[List.getElem?_set,if_neg (Ne.symm e)]at hi;have hil:i<m.st.length:=by
     rcases Nat.lt_or_ge i m.st.length with h'|h'
     ·exact h'
     ·simp[List.getElem?_eq_none h']at hi
    obtain⟨a,b⟩:=h.st i y hi;exact⟨a.other o _ (a.ne kb (by decide)),b.other o _ (λq=>e (h.injQ i k hil hlt q))⟩
  op:=by
   intro i y hi;have a:=h.op i y hi;exact a.other o _ (a.ne kb (by decide))
  injP:=by simp only[List.length_set];exact h.injP
  injQ:=by simp only[List.length_set];exact h.injQ
  injO:=h.injO
  geR:=h.geR
  geP:=by simp only[List.length_set];exact h.geP
  geO:=h.geO}
theorem AZ.setBk(h:AZ B w r m vs vo P Q O)(k:Nat)(b b':Bk)(hk:m.op[k]?=some b)(o:Nat)(u:Value)(m':Rd)(hc:(IF b).setIfInBounds o u=IF b')(hm:m'={m with op:=m.op.set k b'}):
  AZ B (w.setCell ⟨O k,o,none⟩ u) r m' vs vo P Q O:=by
 subst hm;have hlt:k<m.op.length:=by
  rcases Nat.lt_or_ge k m.op.length with h'|h'
  ·exact h'
  ·simp[List.getElem?_eq_none h']at hk
 have ka:=h.op k b hk
 exact{
  rd:=h.rd.other o u (h.rd.ne ka (by decide))
  rs:=BY h.rs ka (by decide) o u
  ro:=by simp only[List.length_set];exact BY h.ro ka (by decide) o u
  st:=by
   intro i x hi;obtain⟨a,b⟩:=h.st i x hi;exact⟨a.other o u (a.ne ka (by decide)),b.other o u (b.ne ka (by decide))⟩
  op:=by
   intro i x hi;by_cases e:i=k
   ·subst e;simp[hlt]at hi;subst hi;rw[<-hc];exact ka.put o u
   ·simp only[List.getElem?_set,if_neg (Ne.symm e)]at hi;have hil:i<m.op.length:=by
     rcases Nat.lt_or_ge i m.op.length with h'|h'
     ·exact h'
     ·simp[List.getElem?_eq_none h']at hi
    exact(h.op i x hi).other o u (λq=>e (h.injO i k hil hlt q))
  injP:=h.injP
  injQ:=h.injQ
  injO:=by simp only[List.length_set];exact h.injO
  geR:=h.geR
  geP:=h.geP
  geO:=by simp only[List.length_set];exact h.geO}
def D2(B:Nat)(w:World)(r:Nat)(o:Option Rd):Ending->World->Prop:=λe w'=>
 e=.returned (.bool o.isSome)/\Below B w w'/\∀m',o=some m'->∃vs vo P Q O,AZ B w' r m' vs vo P Q O
theorem AZ.rdc(h:AZ B w r m vs vo P Q O):w.cell? ⟨r,0,none⟩=some (.int .u8 m.state)/\w.cell? ⟨r,1,none⟩=some vs/\w.cell? ⟨r,2,none⟩=some vo/\w.cell? ⟨r,3,none⟩=some (.int .i64 m.sign)/\w.cell? ⟨r,4,none⟩=some (.bool m.neg)/\w.cell? ⟨r,5,none⟩=some (.int .i64 m.dig)/\∀i,w.frozen? ⟨r,i,none⟩=false:=
 ⟨h.rd.cell 0,h.rd.cell 1,h.rd.cell 2,h.rd.cell 3,h.rd.cell 4,h.rd.cell 5,h.rd.free⟩
theorem AZ.curs(hn:0<m.st.length):m.st[m.st.length-1]?=some (cur m):=by
 unfold cur;rw[List.getD_eq_getElem?_getD,List.getElem?_eq_getElem (by omega)];rfl
theorem AZ.stc(h:AZ B w r m vs vo P Q O)(k:Nat)(s:St)(hk:m.st[k]?=some s):w.cell? ⟨P k,0,none⟩=some (.int .u8 s.kind)/\w.cell? ⟨P k,1,none⟩=some (.int .i64 s.var)/\w.cell? ⟨P k,2,none⟩=some (.bool s.star)/\w.cell? ⟨P k,3,none⟩=some (.slice (some ⟨Q k,0,none⟩) 4 4)/\w.cell? ⟨P k,4,none⟩=some (.int .i64 s.num)/\w.cell? ⟨P k,5,none⟩=some (.int .i64 s.mid)/\w.cell? ⟨P k,6,none⟩=some (.int .i64 s.fin)/\(∀i,w.frozen? ⟨P k,i,none⟩=false)/\(∀i,w.frozen? ⟨Q k,i,none⟩=false)/\P k≠r/\Q k≠r/\Q k≠P k:=by
 obtain⟨a,b⟩:=h.st k s hk;exact⟨a.cell 0,a.cell 1,a.cell 2,a.cell 3,a.cell 4,a.cell 5,a.cell 6,a.free,b.free,a.ne h.rd (by decide),b.ne h.rd (by decide),b.ne a (by decide)⟩
theorem AZ.row(h:AZ B w r m vs vo P Q O)(hn:0<m.st.length):∃g cap,vs=.slice (some ⟨g,0,none⟩) m.st.length cap/\(∀i,i<m.st.length->w.cell? ⟨g,i,none⟩=some (PR (P i)))/\g≠r/\m.st.length<=cap/\∀k s,m.st[k]?=some s->g≠P k/\g≠Q k:=by
 obtain⟨g,cap,c,hv,hg,ha,hc⟩:=Fx h.rs hn;refine⟨g,cap,hv,?_,ha.ne h.rd (by decide),hc,λk s hk=>?_⟩
 ·intro i hi;have:=h.rs;rw[hv]at this;rw[this.cellAt i (by omega)];simp[hi]
 ·obtain⟨a,b⟩:=h.st k s hk;exact⟨ha.ne a (by decide),ha.ne b (by decide)⟩
theorem AZ.now(h:AZ B w r m vs vo P Q O)(hn:0<m.st.length)(hl:m.st.length<=20):
  Calls Tryz.prog 126 #[.pointer (some ⟨r,0,none⟩)] w λe w'=>e=.returned (.pointer (some ⟨P (m.st.length-1),0,none⟩))/\∃k,w'=w.drewN k:=by
 obtain⟨g,cap,rfl,hrow,_⟩:=h.row hn;exact V0 r g (P (m.st.length-1)) m.st.length cap w hn hl h.rdc.2.1 (hrow _ (by omega))
theorem AZ.behind(h:AZ B w r m vs vo P Q O)(hn:0<m.st.length)(hl:m.st.length<=20):
  Calls Tryz.prog 128 #[.pointer (some ⟨r,0,none⟩)] w λe w'=>e=.returned (.int .u8 (AG m))/\∃k,w'=w.drewN k:=by
 have hc:=h.now hn hl;obtain⟨c0, -⟩:=h.stc _ _ (AZ.curs hn);unfold AG;generalize P (m.st.length-1)=p at *;generalize(cur m).kind=kd at *;clear h;by_cases hk:kd=33
 ·subst hk;go_enter Tryz.func128,Tryz.ntmps128;go_wp2_with (go_at_call 126;refine hc.mono ?_;rintro e w' ⟨rfl,k,rfl⟩);go_ret;exact⟨rfl,_,rfl⟩
 ·have hk':(kd==33)=false:=by simpa using hk
  go_enter Tryz.func128,Tryz.ntmps128;go_wp2_with (go_at_call 126;refine hc.mono ?_;rintro e w' ⟨rfl,k,rfl⟩);go_ret;exact⟨by simp,_,rfl⟩
theorem AZ.geC(h:AZ B w r m vs vo P Q O)(hn:0<m.st.length):B<=P (m.st.length-1)/\B<=Q (m.st.length-1):=h.geP _ (by omega)
theorem EL{c:Int}{pos:Bool}{nx:Int}(h:c<48\/57<c\/(if m.state=nx then m.dig else 0)=2\/((if m.state=nx then m.dig else 0)=1/\(if m.state=nx then(cur m).num else 0)=0)\/(pos=true/\c=48)):AT m c pos nx=none:=by
 simp only[AT];rw[if_pos h]
theorem LX{c:Int}{pos:Bool}{nx d u:Int}(hd:(if m.state=nx then m.dig else 0)=d)(hu:(if m.state=nx then(cur m).num else 0)=u)(h:¬(c<48\/57<c\/d=2\/(d=1/\u=0)\/(pos=true/\c=48))):
  AT m c pos nx=some {AE m {cur m with num:=10*u+(c-48)}with dig:=d+1,state:=nx}:=by
 subst hd;subst hu;simp only[AT];rw[if_neg h]
theorem Av{o:Option Rd}{w w':World}(h:o=none)(hb:Below B w w'):D2 B w r o (.returned (.bool false)) w':=by
 subst h;exact⟨rfl,hb,λ_ e=>by cases e⟩
theorem Aq{o:Option Rd}{m':Rd}{w w':World}(h:o=some m')(hb:Below B w w')(hr:AZ B w' r m' vs vo P Q O):D2 B w r o (.returned (.bool true)) w':=by
 subst h;exact⟨rfl,hb,λ_ e=>by cases e;exact⟨vs,vo,P,Q,O,hr⟩⟩
theorem Fc{o:Option Rd}{m' m'':Rd}{w w':World}{b:Value}(hb':b=.bool true)(h:o=some m')(hb:Below B w w')(hm:m''=m')(hr:AZ B w' r m'' vs vo P Q O):D2 B w r o (.returned b) w':=by
 subst hb';subst hm;exact Aq h hb hr
theorem JG(hn:0<m.st.length)(s:St):(AE m s).st[m.st.length-1]?=some s:=by
 simp[AE,List.getElem?_set];omega
theorem AZ.setC(h:AZ B w r m vs vo P Q O)(hn:0<m.st.length)(s':St)(o:Nat)(u:Value)(hc:(F5 (Q (m.st.length-1)) (cur m)).setIfInBounds o u=F5 (Q (m.st.length-1)) s')(hsg:s'.sg=(cur m).sg):
  AZ B (w.setCell ⟨P (m.st.length-1),o,none⟩ u) r (AE m s') vs vo P Q O:=h.setSt _ _ s' (AZ.curs hn) o u _ hc hsg rfl
theorem Hi(hn:0<m.st.length)(s:St):cur (AE m s)=s:=by
 have:=JG hn s;unfold cur;rw[List.getD_eq_getElem?_getD,show(AE m s).st.length=m.st.length by simp[AE],this];rfl
theorem BL(s:St):(AE m s).st.length=m.st.length:=by simp[AE]
theorem Ij(h:AZ B w r m vs vo P Q O)(hn:0<m.st.length)(x nx:Int)(k:Nat):
  AZ B ((((((w.drewN k).setCell ⟨r,5,none⟩ (.int .i64 0)).setCell ⟨P (m.st.length-1),4,none⟩ (.int .i64 0)).setCell ⟨P (m.st.length-1),4,none⟩ (.int .i64 x)).setCell ⟨r,5,none⟩ (.int .i64 1)).setCell ⟨r,0,none⟩ (.int .u8 nx)) r
   {AE m {cur m with num:=x}with dig:=1,state:=nx} vs vo P Q O:=by
 have e1:=(h.drewN k).setRd 5 (.int .i64 0) {m with dig:=0} rfl rfl rfl;have e2:=e1.setC hn {cur m with num:=0} 4 (.int .i64 0) rfl rfl;have e3:=e2.setSt (m.st.length-1) {cur m with num:=0} {cur m with num:=x} (JG (m:={m with dig:=0}) hn _) 4 (.int .i64 x) _ rfl rfl rfl;have e4:=e3.setRd 5 (.int .i64 1) {AE m {cur m with num:=x}with dig:=1} rfl (by simp[AE]) rfl;exact e4.setRd 0 (.int .u8 nx) _ rfl rfl rfl
theorem Eg(h:AZ B w r m vs vo P Q O)(hn:0<m.st.length)(x d nx:Int)(k:Nat):
  AZ B ((((w.drewN k).setCell ⟨P (m.st.length-1),4,none⟩ (.int .i64 x)).setCell ⟨r,5,none⟩ (.int .i64 d)).setCell ⟨r,0,none⟩ (.int .u8 nx)) r
   {AE m {cur m with num:=x}with dig:=d,state:=nx} vs vo P Q O:=by
 have e3:=(h.drewN k).setC hn {cur m with num:=x} 4 (.int .i64 x) rfl rfl;have e4:=e3.setRd 5 (.int .i64 d) {AE m {cur m with num:=x}with dig:=d} rfl rfl rfl;exact e4.setRd 0 (.int .u8 nx) _ rfl rfl rfl
theorem AZ.digitNew(h:AZ B w r m vs vo P Q O)(hn:0<m.st.length)(hl:m.st.length<=20)(c:Int)(pos:Bool)(nx:Int)(h0:0<=c)(h1:c<=255)(hx:m.state≠nx):
  Calls Tryz.prog 127 #[.pointer (some ⟨r,0,none⟩),.int .u8 c,.bool pos,.int .u8 nx] w (D2 B w r (AT m c pos nx)):=by
 have hc:=h.now hn hl;have hcur:=AZ.curs hn;obtain⟨c0,c1,c2,c3,c4,c5,c6,f7,f8,n9,n10,n11⟩:=h.stc _ _ hcur;obtain⟨r0,r1,r2,r3,r4,r5,rf⟩:=h.rdc;have geR:=h.geR;obtain⟨geP,geQ⟩:=h.geC hn;have hxb:(m.state==nx)=false:=by simpa using hx
 have hxn:(m.state != nx)=true:=by simpa using hx
 have hd:(if m.state=nx then m.dig else 0)=0:=if_neg hx;have hu:(if m.state=nx then(cur m).num else 0)=0:=if_neg hx;have HD:Hid (_=_):=hd;have HU:Hid (_=_):=hu;have HC:Hid (_=_):=hcur;clear hd hu hcur;have nrp:r≠P (m.st.length-1):=λe=>n9 e.symm;have HR:Hid (AZ _ _ _ _ _ _ _ _ _):=h;clear h;by_cases hlo:c<48
 ·go_enter Tryz.func127,Tryz.ntmps127;go_wp2_with (go_at_call 126;refine hc.mono ?_;rintro e w' ⟨rfl,k,rfl⟩);go_ret;exact Av (EL (.inl hlo)) (Below.setCell (Below.setCell (below_drewN (Below.refl _ _) _) geR _) geP _)
 by_cases hhi:57<c
 ·go_enter Tryz.func127,Tryz.ntmps127;go_wp2_with (go_at_call 126;refine hc.mono ?_;rintro e w' ⟨rfl,k,rfl⟩);go_ret;exact Av (EL (.inr (.inl hhi))) (Below.setCell (Below.setCell (below_drewN (Below.refl _ _) _) geR _) geP _)
 by_cases hz:pos=true/\c=48
 ·obtain⟨rfl,rfl⟩:=hz;go_enter Tryz.func127,Tryz.ntmps127;go_wp2_with (go_at_call 126;refine hc.mono ?_;rintro e w' ⟨rfl,k,rfl⟩);go_ret;exact Av (EL (.inr (.inr (.inr (.inr ⟨rfl,rfl⟩))))) (Below.setCell (Below.setCell (below_drewN (Below.refl _ _) _) geR _) geP _)
 ·have hz':(pos&&(c==48))=false:=by cases pos<;>simp_all
  have HY:Hid (_=_):=LX (pos:=pos) (c:=c) HD.out HU.out (by rintro(a|a|a|a|a)<;>first|exact hz a|omega);have HZ:Hid (¬(pos=true/\c=48)):=hz;clear hz;cases pos
  ·go_enter Tryz.func127,Tryz.ntmps127;go_wp2_with (go_at_call 126;refine hc.mono ?_;rintro e w' ⟨rfl,k,rfl⟩);go_ret;refine Fc rfl HY.out (Below.setCell (Below.setCell (Below.setCell (Below.setCell (Below.setCell (below_drewN (Below.refl _ _) _) geR _) geP _) geP _) geR _) geR _) ?_ (Ij HR.out hn (c-48) nx k);simp
  ·have hz2:(c==48)=false:=by simpa using hz'
   go_enter Tryz.func127,Tryz.ntmps127;go_wp2_with (go_at_call 126;refine hc.mono ?_;rintro e w' ⟨rfl,k,rfl⟩);go_ret;refine Fc rfl HY.out (Below.setCell (Below.setCell (Below.setCell (Below.setCell (Below.setCell (below_drewN (Below.refl _ _) _) geR _) geP _) geP _) geR _) geR _) ?_ (Ij HR.out hn (c-48) nx k);simp
theorem AZ.digitOld(h:AZ B w r m vs vo P Q O)(hn:0<m.st.length)(hl:m.st.length<=20)(c:Int)(pos:Bool)(h0:0<=c)(h1:c<=255)(hd0:0<=m.dig)(hd2:m.dig<=2)(hn0: -99<=(cur m).num)(hn1:(cur m).num<=99)(nx:Int)(hx:m.state=nx):
  Calls Tryz.prog 127 #[.pointer (some ⟨r,0,none⟩),.int .u8 c,.bool pos,.int .u8 nx] w (D2 B w r (AT m c pos nx)):=by
 have hc:=h.now hn hl;have hcur:=AZ.curs hn;obtain⟨c0,c1,c2,c3,c4,c5,c6,f7,f8,n9,n10,n11⟩:=h.stc _ _ hcur;obtain⟨r0,r1,r2,r3,r4,r5,rf⟩:=h.rdc;have geR:=h.geR;obtain⟨geP,geQ⟩:=h.geC hn;have hd:(if m.state=nx then m.dig else 0)=m.dig:=if_pos hx;have hu:(if m.state=nx then(cur m).num else 0)=(cur m).num:=if_pos hx;have HD:Hid (_=_):=hd;have HU:Hid (_=_):=hu;have HC:Hid (_=_):=hcur;clear hd hu hcur;rw[hx]at r0;have HX:Hid (_=_):=hx;clear hx;have nrp:r≠P (m.st.length-1):=λe=>n9 e.symm;have HR:Hid (AZ _ _ _ _ _ _ _ _ _):=h;clear h;by_cases hlo:c<48
 ·go_enter Tryz.func127,Tryz.ntmps127;go_wp2_with (go_at_call 126;refine hc.mono ?_;rintro e w' ⟨rfl,k,rfl⟩);go_ret;exact Av (EL (.inl hlo)) (below_drewN (Below.refl _ _) _)
 by_cases hhi:57<c
 ·go_enter Tryz.func127,Tryz.ntmps127;go_wp2_with (go_at_call 126;refine hc.mono ?_;rintro e w' ⟨rfl,k,rfl⟩);go_ret;exact Av (EL (.inr (.inl hhi))) (below_drewN (Below.refl _ _) _)
 by_cases h2:m.dig=2
 ·have HN:Hid (AT m c pos nx=none):=EL (.inr (.inr (.inl (HD.out.trans h2))));rw[h2]at r5;clear h2;go_enter Tryz.func127,Tryz.ntmps127;go_wp2_with (go_at_call 126;refine hc.mono ?_;rintro e w' ⟨rfl,k,rfl⟩);go_ret;exact Av HN.out (below_drewN (Below.refl _ _) _)
 have hb2:(m.dig==2)=false:=by simpa using h2
 by_cases h3:m.dig=1/\(cur m).num=0
 ·obtain⟨h3,h4⟩:=h3;have HN:Hid (AT m c pos nx=none):=EL (.inr (.inr (.inr (.inl ⟨HD.out.trans h3,HU.out.trans h4⟩))));rw[h3]at r5;rw[h4]at c4;clear h3 h4 h2 hb2;go_enter Tryz.func127,Tryz.ntmps127;go_wp2_with (go_at_call 126;refine hc.mono ?_;rintro e w' ⟨rfl,k,rfl⟩);go_ret;exact Av HN.out (below_drewN (Below.refl _ _) _)
 by_cases hz:pos=true/\c=48
 ·have HN:Hid (AT m c pos nx=none):=EL (.inr (.inr (.inr (.inr hz))));obtain⟨rfl,rfl⟩:=hz;by_cases h3a:m.dig=1
  ·have h3b:((cur m).num==0)=false:=by simpa using λe=>h3 ⟨h3a,e⟩
   rw[h3a]at r5;clear h3 h2 hb2 h3a;go_enter Tryz.func127,Tryz.ntmps127;go_wp2_with (go_at_call 126;refine hc.mono ?_;rintro e w' ⟨rfl,k,rfl⟩);go_ret;exact Av HN.out (below_drewN (Below.refl _ _) _)
  ·have h3b:(m.dig==1)=false:=by simpa using h3a
   clear h3 h2 h3a;go_enter Tryz.func127,Tryz.ntmps127;go_wp2_with (go_at_call 126;refine hc.mono ?_;rintro e w' ⟨rfl,k,rfl⟩);go_ret;exact Av HN.out (below_drewN (Below.refl _ _) _)
 ·have HY:Hid (_=_):=LX (pos:=pos) (c:=c) HD.out HU.out (by rintro(a|a|a|a|a)<;>first|exact hz a|exact h3 a|exact h2 a|omega);have hz':(pos&&(c==48))=false:=by cases pos<;>simp_all
  by_cases h3a:m.dig=1
  ·have h3b:((cur m).num==0)=false:=by simpa using λe=>h3 ⟨h3a,e⟩
   rw[h3a]at r5 HY;clear h3 h2 hb2 h3a hz;cases pos
   ·go_enter Tryz.func127,Tryz.ntmps127;go_wp2_with (go_at_call 126;refine hc.mono ?_;rintro e w' ⟨rfl,k,rfl⟩);go_ret;refine Fc rfl HY.out (Below.setCell (Below.setCell (Below.setCell (below_drewN (Below.refl _ _) _) geP _) geR _) geR _) ?_ (Eg HR.out hn _ _ nx k);simp
   ·have hz2:(c==48)=false:=by simpa using hz'
    go_enter Tryz.func127,Tryz.ntmps127;go_wp2_with (go_at_call 126;refine hc.mono ?_;rintro e w' ⟨rfl,k,rfl⟩);go_ret;refine Fc rfl HY.out (Below.setCell (Below.setCell (Below.setCell (below_drewN (Below.refl _ _) _) geP _) geR _) geR _) ?_ (Eg HR.out hn _ _ nx k);simp
  ·have h3b:(m.dig==1)=false:=by simpa using h3a
   clear h3 h2 h3a hz;cases pos
   ·go_enter Tryz.func127,Tryz.ntmps127;go_wp2_with (go_at_call 126;refine hc.mono ?_;rintro e w' ⟨rfl,k,rfl⟩);go_ret;refine Fc rfl HY.out (Below.setCell (Below.setCell (Below.setCell (below_drewN (Below.refl _ _) _) geP _) geR _) geR _) ?_ (Eg HR.out hn _ _ nx k);simp
   ·have hz2:(c==48)=false:=by simpa using hz'
    go_enter Tryz.func127,Tryz.ntmps127;go_wp2_with (go_at_call 126;refine hc.mono ?_;rintro e w' ⟨rfl,k,rfl⟩);go_ret;refine Fc rfl HY.out (Below.setCell (Below.setCell (Below.setCell (below_drewN (Below.refl _ _) _) geP _) geR _) geR _) ?_ (Eg HR.out hn _ _ nx k);simp
theorem AZ.digit(h:AZ B w r m vs vo P Q O)(ok:Ok m)(hn:0<m.st.length)(c:Int)(pos:Bool)(h0:0<=c)(h1:c<=255)(nx:Int):
  Calls Tryz.prog 127 #[.pointer (some ⟨r,0,none⟩),.int .u8 c,.bool pos,.int .u8 nx] w (D2 B w r (AT m c pos nx)):=by
 by_cases hx:m.state=nx
 ·have:=ok.nums (cur m) (List.mem_of_getElem? (AZ.curs hn));exact h.digitOld hn ok.len c pos h0 h1 ok.digs.1 ok.digs.2 this.1 this.2 nx hx
 ·exact h.digitNew hn ok.len c pos nx h0 h1 hx
theorem As(c:Int)(w:World)(ha:97<=c)(hb:c<=100):
  Calls Tryz.prog 123 #[.int .u8 c] w λe w'=>e=.returned (.int .i64 (c-97))/\w'=w:=
 (Ip c w (by omega) (by omega)).mono λe w' ⟨h,k⟩=>⟨by rw[h];unfold CJ;rw[if_pos ⟨ha,hb⟩],k⟩
theorem AN(c:Int)(w:World)(h0:0<=c)(h1:c<=255)(hv:¬(97<=c/\c<=100)):
  Calls Tryz.prog 123 #[.int .u8 c] w λe w'=>e=.returned (.int .i64 (-1))/\w'=w:=
 (Ip c w h0 h1).mono λe w' ⟨h,k⟩=>⟨by rw[h];unfold CJ;rw[if_neg hv],k⟩
theorem AZ.sgc(h:AZ B w r m vs vo P Q O)(ok:Ok m)(hn:0<m.st.length)(v:Nat)(hv:v<4):w.cell? ⟨Q (m.st.length-1),v,none⟩=some (.int .i64 ((cur m).sg.getD v 0)):=by
 obtain⟨_,b⟩:=h.st _ _ (AZ.curs hn);have hl:=ok.sgl (cur m) (List.mem_of_getElem? (AZ.curs hn));rw[b.cell v];simp[FJ,List.getD_eq_getElem?_getD,List.getElem?_eq_getElem (show v<(cur m).sg.length by omega)]
theorem KY(h:AZ B w r m vs vo P Q O)(hn:0<m.st.length)(v:Nat)(nx:Int)(k:Nat):
  AZ B (((w.drewN k).setCell ⟨Q (m.st.length-1),v,none⟩ (.int .i64 m.sign)).setCell ⟨r,0,none⟩ (.int .u8 nx)) r
   (Bp m v m.sign nx) vs vo P Q O:=by
 have e2:=(h.drewN k).setSg (m.st.length-1) (cur m) (AZ.curs hn) v m.sign _ rfl;exact e2.setRd 0 (.int .u8 nx) _ rfl rfl rfl
theorem Lv(h:AZ B w r m vs vo P Q O)(hn:0<m.st.length)(v:Nat)(nx:Int)(k:Nat):
  AZ B ((((w.drewN k).setCell ⟨r,3,none⟩ (.int .i64 1)).setCell ⟨Q (m.st.length-1),v,none⟩ (.int .i64 1)).setCell ⟨r,0,none⟩ (.int .u8 nx)) r
   (Bp m v 1 nx) vs vo P Q O:=by
 have e1:=(h.drewN k).setRd 3 (.int .i64 1) {m with sign:=1} rfl rfl rfl;have e2:=e1.setSg (m.st.length-1) (cur m) (AZ.curs hn) v 1 _ rfl;exact e2.setRd 0 (.int .u8 nx) _ rfl rfl rfl
theorem AZ.drew(h:AZ B w r m vs vo P Q O):AZ B w.drew r m vs vo P Q O:=⟨h.rd,h.rs,h.ro,h.st,h.op,h.injP,h.injQ,h.injO,h.geR,h.geP,h.geO⟩
theorem Ok.sign1(ok:Ok m):Ok {m with sign:=1}:=⟨ok.states,ok.some_,ok.len,ok.oplen,ok.ofs,⟨(by decide:(-1:Int)<=1),(by decide:(1:Int)<=1)⟩,ok.digs,ok.nums,ok.sgl,ok.inNum,ok.open_⟩
theorem Bg{o o':Option Rd}{w w1 w':World}(h:o=o')(h0:Below B w w1)(hb:Below B w1 w')(hr:∀m',o'=some m'->∃vs vo P Q O,AZ B w' r m' vs vo P Q O):D2 B w r o (.returned (.bool o'.isSome)) w':=by
 subst h;exact⟨rfl,h0.trans hb,hr⟩
theorem AZ.valueV(h:AZ B w r m vs vo P Q O)(ok:Ok m)(hn:0<m.st.length)(c:Int)(h0:0<=c)(h1:c<=255)(hx:m.state=118):
  Calls Tryz.prog 93 #[.pointer (some ⟨r,0,none⟩),.int .u8 c] w (D2 B w r (AO m c)):=by
 have hc:=h.now hn ok.len;have hcur:=AZ.curs hn;obtain⟨c0,c1,c2,c3,c4,c5,c6,f7,f8,n9,n10,n11⟩:=h.stc _ _ hcur;obtain⟨r0,r1,r2,r3,r4,r5,rf⟩:=h.rdc;have geR:=h.geR;obtain⟨geP,geQ⟩:=h.geC hn;obtain⟨sg0,sg1⟩:=ok.sgn;obtain⟨nu0,nu1⟩:=ok.nums (cur m) (List.mem_of_getElem? hcur);have HC:Hid (_=_):=hcur;clear hcur;rw[hx]at r0;have HX:Hid (_=_):=hx;clear hx;have nrp:r≠P (m.st.length-1):=λe=>n9 e.symm;have nrq:r≠Q (m.st.length-1):=λe=>n10 e.symm;have npq:P (m.st.length-1)≠Q (m.st.length-1):=λe=>n11 e.symm;by_cases h42:c=42
 ·subst h42;have HR:Hid (AZ _ _ _ _ _ _ _ _ _):=h;have OK:Hid (Ok m):=ok;clear h ok;go_enter Tryz.func93,Tryz.ntmps93;go_wp2_with (first|(go_at_call 126;refine hc.mono ?_;rintro e w' ⟨rfl,k,rfl⟩)|(go_at_call 123;refine(AN _ _ (by omega) (by omega) (by omega)).mono ?_;rintro e w' ⟨rfl,rfl⟩));go_ret;refine Aq (m':={AE m {cur m with star:=true}with state:=59}) (by unfold AO;rw[if_pos HX.out,if_pos rfl]) (Below.setCell (Below.setCell (below_drewN (Below.refl _ _) _) geP _) geR _) (((HR.out.drewN k).setC hn {cur m with star:=true} 2 (.bool true) rfl rfl).setRd 0 (.int .u8 59) _ rfl rfl rfl)
 have b42:(c==42)=false:=by simpa using h42
 by_cases h45:c=45
 ·subst h45;clear h42 b42;have HR:Hid (AZ _ _ _ _ _ _ _ _ _):=h;have OK:Hid (Ok m):=ok;clear h ok;go_enter Tryz.func93,Tryz.ntmps93;go_wp2_with (first|(go_at_call 126;refine hc.mono ?_;rintro e w' ⟨rfl,k,rfl⟩)|(go_at_call 123;refine(AN _ _ (by omega) (by omega) (by omega)).mono ?_;rintro e w' ⟨rfl,rfl⟩));go_ret;refine Aq (m':={m with sign:= -1,state:=86}) (by unfold AO;rw[if_pos HX.out,if_neg (by decide),if_pos rfl]) (Below.setCell (Below.setCell (below_drewN (Below.refl _ _) _) geR _) geR _) (((HR.out.drewN k).setRd 3 (.int .i64 (-1)) {m with sign:= -1} rfl rfl rfl).setRd 0 (.int .u8 86) _ rfl rfl rfl)
 have b45:(c==45)=false:=by simpa using h45
 by_cases hv:97<=c/\c<=100
 ·have HS2:Hid (AO m c=some (Bp m (c-97).toNat 1 120)):=by show AO m c=_;unfold AO;rw[if_pos HX.out,if_neg h42,if_neg h45,if_pos hv]
  obtain⟨hva,hvb⟩:=hv;have hq:=h.sgc ok hn (c-97).toNat (by omega);have i0:(0:Int)<=c-97:=by omega
  have i1:c-97<4:=by omega
  clear h42 h45;have HR:Hid (AZ _ _ _ _ _ _ _ _ _):=h;have OK:Hid (Ok m):=ok;clear h ok;go_enter Tryz.func93,Tryz.ntmps93;go_wp2_with (first|(go_at_call 126;refine hc.mono ?_;rintro e w' ⟨rfl,k,rfl⟩)|(go_at_call 123;refine(As c _ hva hvb).mono ?_;rintro e w' ⟨rfl,rfl⟩));go_region;go_wp2;go_ret;refine Aq HS2.out (Below.drew (Below.setCell (Below.setCell (Below.setCell (below_drewN (Below.refl _ _) _) geR _) geQ _) geR _)) (Lv HR.out hn (c-97).toNat 120 k).drew
 ·have HS2:Hid (AO m c=AT {m with sign:=1} c false 110):=by show AO m c=_;unfold AO;rw[if_pos HX.out,if_neg h42,if_neg h45,if_neg hv]
  clear h42 h45;have HR:Hid (AZ _ _ _ _ _ _ _ _ _):=h;have OK:Hid (Ok m):=ok;clear h ok;go_enter Tryz.func93,Tryz.ntmps93;go_wp2_with (first|(go_at_call 126;refine hc.mono ?_;rintro e w' ⟨rfl,k,rfl⟩)|(go_at_call 123;refine(AN _ _ (by omega) (by omega) (by omega)).mono ?_;rintro e w' ⟨rfl,rfl⟩));refine((((HR.out.drewN k).setRd 3 (.int .i64 1) {m with sign:=1} rfl rfl rfl)).digit ?_ hn c false h0 h1 110).mono ?_
  ·exact OK.out.sign1
  rintro e w' ⟨rfl,hb,hr⟩;go_wp2;go_ret;exact Bg HS2.out ((Below.setCell (below_drewN (Below.refl _ _) _) geR _)) hb hr
theorem AZ.valueVV(h:AZ B w r m vs vo P Q O)(ok:Ok m)(hn:0<m.st.length)(c:Int)(h0:0<=c)(h1:c<=255)(hx:m.state=86):
  Calls Tryz.prog 93 #[.pointer (some ⟨r,0,none⟩),.int .u8 c] w (D2 B w r (AO m c)):=by
 have hc:=h.now hn ok.len;have hcur:=AZ.curs hn;obtain⟨c0,c1,c2,c3,c4,c5,c6,f7,f8,n9,n10,n11⟩:=h.stc _ _ hcur;obtain⟨r0,r1,r2,r3,r4,r5,rf⟩:=h.rdc;have geR:=h.geR;obtain⟨geP,geQ⟩:=h.geC hn;obtain⟨sg0,sg1⟩:=ok.sgn;obtain⟨nu0,nu1⟩:=ok.nums (cur m) (List.mem_of_getElem? hcur);have HC:Hid (_=_):=hcur;clear hcur;rw[hx]at r0;have HX:Hid (_=_):=hx;clear hx;have nrp:r≠P (m.st.length-1):=λe=>n9 e.symm;have nrq:r≠Q (m.st.length-1):=λe=>n10 e.symm;have npq:P (m.st.length-1)≠Q (m.st.length-1):=λe=>n11 e.symm;by_cases hv:97<=c/\c<=100
 ·have HS2:Hid (AO m c=some (Bp m (c-97).toNat m.sign 120)):=by show AO m c=_;unfold AO;rw[HX.out,if_neg (by decide),if_pos rfl,if_pos hv]
  obtain⟨hva,hvb⟩:=hv;have hq:=h.sgc ok hn (c-97).toNat (by omega);have i0:(0:Int)<=c-97:=by omega
  have i1:c-97<4:=by omega
  have HR:Hid (AZ _ _ _ _ _ _ _ _ _):=h;have OK:Hid (Ok m):=ok;clear h ok;go_enter Tryz.func93,Tryz.ntmps93;go_wp2_with (first|(go_at_call 126;refine hc.mono ?_;rintro e w' ⟨rfl,k,rfl⟩)|(go_at_call 123;refine(As c _ hva hvb).mono ?_;rintro e w' ⟨rfl,rfl⟩));go_region;go_wp2;go_ret;exact Aq HS2.out (Below.setCell (Below.setCell (below_drewN (Below.refl _ _) _) geQ _) geR _) (KY HR.out hn (c-97).toNat 120 (k+1))
 ·have HS2:Hid (AO m c=AT m c true 110):=by show AO m c=_;unfold AO;rw[HX.out,if_neg (by decide),if_pos rfl,if_neg hv]
  have HR:Hid (AZ _ _ _ _ _ _ _ _ _):=h;have OK:Hid (Ok m):=ok;clear h ok;go_enter Tryz.func93,Tryz.ntmps93;go_wp2_with (first|(go_at_call 126;refine hc.mono ?_;rintro e w' ⟨rfl,k,rfl⟩)|(go_at_call 123;refine(AN _ _ (by omega) (by omega) (by omega)).mono ?_;rintro e w' ⟨rfl,rfl⟩));refine((HR.out.drewN k).digit OK.out hn c true h0 h1 110).mono ?_;rintro e w' ⟨rfl,hb,hr⟩;go_wp2;go_ret;exact Bg HS2.out ((below_drewN (Below.refl _ _) _)) hb hr
theorem AZ.valueX(h:AZ B w r m vs vo P Q O)(ok:Ok m)(hn:0<m.st.length)(c:Int)(h0:0<=c)(h1:c<=255)(hx:m.state=120):
  Calls Tryz.prog 93 #[.pointer (some ⟨r,0,none⟩),.int .u8 c] w (D2 B w r (AO m c)):=by
 have hc:=h.now hn ok.len;have hcur:=AZ.curs hn;obtain⟨c0,c1,c2,c3,c4,c5,c6,f7,f8,n9,n10,n11⟩:=h.stc _ _ hcur;obtain⟨r0,r1,r2,r3,r4,r5,rf⟩:=h.rdc;have geR:=h.geR;obtain⟨geP,geQ⟩:=h.geC hn;obtain⟨sg0,sg1⟩:=ok.sgn;obtain⟨nu0,nu1⟩:=ok.nums (cur m) (List.mem_of_getElem? hcur);have HC:Hid (_=_):=hcur;clear hcur;rw[hx]at r0;have HX:Hid (_=_):=hx;clear hx;have nrp:r≠P (m.st.length-1):=λe=>n9 e.symm;have nrq:r≠Q (m.st.length-1):=λe=>n10 e.symm;have npq:P (m.st.length-1)≠Q (m.st.length-1):=λe=>n11 e.symm;have hmw:=IX _ _ sg0 sg1 nu0 nu1;by_cases h43:c=43
 ·subst h43;have HS2:Hid (AO m 43=some {m with sign:=1,state:=121}):=by show AO m 43=_;unfold AO;rw[HX.out,if_neg (by decide),if_neg (by decide),if_pos rfl,if_pos rfl]
  have HR:Hid (AZ _ _ _ _ _ _ _ _ _):=h;have OK:Hid (Ok m):=ok;clear h ok;go_enter Tryz.func93,Tryz.ntmps93;go_wp2_with (first|(go_at_call 126;refine hc.mono ?_;rintro e w' ⟨rfl,k,rfl⟩)|(go_at_call 123;refine(AN _ _ (by omega) (by omega) (by omega)).mono ?_;rintro e w' ⟨rfl,rfl⟩));go_ret;exact Aq HS2.out (Below.setCell (Below.setCell (below_drewN (Below.refl _ _) _) geR _) geR _) (((HR.out.drewN k).setRd 3 (.int .i64 1) {m with sign:=1} rfl rfl rfl).setRd 0 (.int .u8 121) _ rfl rfl rfl)
 have b43:(c==43)=false:=by simpa using h43
 by_cases h45:c=45
 ·subst h45;have HS2:Hid (AO m 45=some {m with sign:= -1,state:=121}):=by show AO m 45=_;unfold AO;rw[HX.out,if_neg (by decide),if_neg (by decide),if_pos rfl,if_neg (by decide),if_pos rfl]
  clear h43 b43;have HR:Hid (AZ _ _ _ _ _ _ _ _ _):=h;have OK:Hid (Ok m):=ok;clear h ok;go_enter Tryz.func93,Tryz.ntmps93;go_wp2_with (first|(go_at_call 126;refine hc.mono ?_;rintro e w' ⟨rfl,k,rfl⟩)|(go_at_call 123;refine(AN _ _ (by omega) (by omega) (by omega)).mono ?_;rintro e w' ⟨rfl,rfl⟩));go_ret;exact Aq HS2.out (Below.setCell (Below.setCell (Below.setCell (below_drewN (Below.refl _ _) _) geR _) geR _) geR _) ((((HR.out.drewN k).setRd 3 (.int .i64 1) {m with sign:=1} rfl rfl rfl).setRd 3 (.int .i64 (-1)) {m with sign:= -1} rfl rfl rfl).setRd 0 (.int .u8 121) _ rfl rfl rfl)
 have b45:(c==45)=false:=by simpa using h45
 by_cases h59:c=59
 ·subst h59;have HS2:Hid (AO m 59=some (CW m)):=by show AO m 59=_;unfold AO;rw[HX.out,if_neg (by decide),if_neg (by decide),if_pos rfl,if_neg (by decide),if_neg (by decide),if_pos rfl]
  clear h43 b43 h45 b45;have HR:Hid (AZ _ _ _ _ _ _ _ _ _):=h;have OK:Hid (Ok m):=ok;clear h ok;go_enter Tryz.func93,Tryz.ntmps93;go_wp2_with (first|(go_at_call 126;refine hc.mono ?_;rintro e w' ⟨rfl,k,rfl⟩)|(go_at_call 123;refine(AN _ _ (by omega) (by omega) (by omega)).mono ?_;rintro e w' ⟨rfl,rfl⟩));go_region;go_wp2;go_ret;exact Aq HS2.out (Below.setCell (Below.setCell (below_drewN (Below.refl _ _) _) geP _) geR _) (((HR.out.drewN (k+1)).setC hn {cur m with num:=m.sign*(cur m).num} 4 (.int .i64 (m.sign*(cur m).num)) rfl rfl).setRd 0 (.int .u8 115) (CW m) rfl rfl rfl)
 have b59:(c==59)=false:=by simpa using h59
 have HS2:Hid (AO m c=none):=by show AO m c=_;unfold AO;rw[HX.out,if_neg (by decide),if_neg (by decide),if_pos rfl,if_neg h43,if_neg h45,if_neg h59]
 clear h43 h45 h59;have HR:Hid (AZ _ _ _ _ _ _ _ _ _):=h;have OK:Hid (Ok m):=ok;clear h ok;by_cases hv:97<=c/\c<=100
 ·obtain⟨hva,hvb⟩:=hv;go_enter Tryz.func93,Tryz.ntmps93;go_wp2_with (first|(go_at_call 126;refine hc.mono ?_;rintro e w' ⟨rfl,k,rfl⟩)|(go_at_call 123;refine(As c _ hva hvb).mono ?_;rintro e w' ⟨rfl,rfl⟩));go_ret;exact Av HS2.out (below_drewN (Below.refl _ _) _)
 ·go_enter Tryz.func93,Tryz.ntmps93;go_wp2_with (first|(go_at_call 126;refine hc.mono ?_;rintro e w' ⟨rfl,k,rfl⟩)|(go_at_call 123;refine(AN _ _ (by omega) (by omega) (by omega)).mono ?_;rintro e w' ⟨rfl,rfl⟩));go_ret;exact Av HS2.out (below_drewN (Below.refl _ _) _)
theorem AZ.valueY(h:AZ B w r m vs vo P Q O)(ok:Ok m)(hn:0<m.st.length)(c:Int)(h0:0<=c)(h1:c<=255)(hx:m.state=121):
  Calls Tryz.prog 93 #[.pointer (some ⟨r,0,none⟩),.int .u8 c] w (D2 B w r (AO m c)):=by
 have hc:=h.now hn ok.len;have hcur:=AZ.curs hn;obtain⟨c0,c1,c2,c3,c4,c5,c6,f7,f8,n9,n10,n11⟩:=h.stc _ _ hcur;obtain⟨r0,r1,r2,r3,r4,r5,rf⟩:=h.rdc;have geR:=h.geR;obtain⟨geP,geQ⟩:=h.geC hn;obtain⟨sg0,sg1⟩:=ok.sgn;obtain⟨nu0,nu1⟩:=ok.nums (cur m) (List.mem_of_getElem? hcur);have HC:Hid (_=_):=hcur;clear hcur;rw[hx]at r0;have HX:Hid (_=_):=hx;clear hx;have nrp:r≠P (m.st.length-1):=λe=>n9 e.symm;have nrq:r≠Q (m.st.length-1):=λe=>n10 e.symm;have npq:P (m.st.length-1)≠Q (m.st.length-1):=λe=>n11 e.symm;have HS2:Hid (AO m c=AT m c false 110):=by show AO m c=_;unfold AO;rw[HX.out,if_neg (by decide),if_neg (by decide),if_neg (by decide),if_pos rfl]
 by_cases hv:97<=c/\c<=100
 ·obtain⟨hva,hvb⟩:=hv;have HR:Hid (AZ _ _ _ _ _ _ _ _ _):=h;have OK:Hid (Ok m):=ok;clear h ok;go_enter Tryz.func93,Tryz.ntmps93;go_wp2_with (first|(go_at_call 126;refine hc.mono ?_;rintro e w' ⟨rfl,k,rfl⟩)|(go_at_call 123;refine(As c _ hva hvb).mono ?_;rintro e w' ⟨rfl,rfl⟩));refine((HR.out.drewN k).digit OK.out hn c false h0 h1 110).mono ?_;rintro e w' ⟨rfl,hb,hr⟩;go_wp2;go_ret;exact Bg HS2.out ((below_drewN (Below.refl _ _) _)) hb hr
 ·have HR:Hid (AZ _ _ _ _ _ _ _ _ _):=h;have OK:Hid (Ok m):=ok;clear h ok;go_enter Tryz.func93,Tryz.ntmps93;go_wp2_with (first|(go_at_call 126;refine hc.mono ?_;rintro e w' ⟨rfl,k,rfl⟩)|(go_at_call 123;refine(AN _ _ (by omega) (by omega) (by omega)).mono ?_;rintro e w' ⟨rfl,rfl⟩));refine((HR.out.drewN k).digit OK.out hn c false h0 h1 110).mono ?_;rintro e w' ⟨rfl,hb,hr⟩;go_wp2;go_ret;exact Bg HS2.out ((below_drewN (Below.refl _ _) _)) hb hr
theorem AZ.valueN(h:AZ B w r m vs vo P Q O)(ok:Ok m)(hn:0<m.st.length)(c:Int)(h0:0<=c)(h1:c<=255)(hx:m.state=110):
  Calls Tryz.prog 93 #[.pointer (some ⟨r,0,none⟩),.int .u8 c] w (D2 B w r (AO m c)):=by
 have hc:=h.now hn ok.len;have hcur:=AZ.curs hn;obtain⟨c0,c1,c2,c3,c4,c5,c6,f7,f8,n9,n10,n11⟩:=h.stc _ _ hcur;obtain⟨r0,r1,r2,r3,r4,r5,rf⟩:=h.rdc;have geR:=h.geR;obtain⟨geP,geQ⟩:=h.geC hn;obtain⟨sg0,sg1⟩:=ok.sgn;obtain⟨nu0,nu1⟩:=ok.nums (cur m) (List.mem_of_getElem? hcur);have HC:Hid (_=_):=hcur;clear hcur;rw[hx]at r0;have HX:Hid (_=_):=hx;clear hx;have nrp:r≠P (m.st.length-1):=λe=>n9 e.symm;have nrq:r≠Q (m.st.length-1):=λe=>n10 e.symm;have npq:P (m.st.length-1)≠Q (m.st.length-1):=λe=>n11 e.symm;have hmw:=IX _ _ sg0 sg1 nu0 nu1;by_cases h59:c=59
 ·subst h59;have HS2:Hid (AO m 59=some (CW m)):=by show AO m 59=_;unfold AO;rw[HX.out,if_neg (by decide),if_neg (by decide),if_neg (by decide),if_neg (by decide),if_pos rfl]
  have HR:Hid (AZ _ _ _ _ _ _ _ _ _):=h;have OK:Hid (Ok m):=ok;clear h ok;go_enter Tryz.func93,Tryz.ntmps93;go_wp2_with (first|(go_at_call 126;refine hc.mono ?_;rintro e w' ⟨rfl,k,rfl⟩)|(go_at_call 123;refine(AN _ _ (by omega) (by omega) (by omega)).mono ?_;rintro e w' ⟨rfl,rfl⟩));go_region;go_wp2;go_ret;exact Aq HS2.out (Below.setCell (Below.setCell (below_drewN (Below.refl _ _) _) geP _) geR _) (((HR.out.drewN (k+1)).setC hn {cur m with num:=m.sign*(cur m).num} 4 (.int .i64 (m.sign*(cur m).num)) rfl rfl).setRd 0 (.int .u8 115) (CW m) rfl rfl rfl)
 have b59:(c==59)=false:=by simpa using h59
 have HS2:Hid (AO m c=AT m c false 110):=by show AO m c=_;unfold AO;rw[HX.out,if_neg (by decide),if_neg (by decide),if_neg (by decide),if_neg (by decide),if_neg h59]
 clear h59 hmw;by_cases hv:97<=c/\c<=100
 ·obtain⟨hva,hvb⟩:=hv;have HR:Hid (AZ _ _ _ _ _ _ _ _ _):=h;have OK:Hid (Ok m):=ok;clear h ok;go_enter Tryz.func93,Tryz.ntmps93;go_wp2_with (first|(go_at_call 126;refine hc.mono ?_;rintro e w' ⟨rfl,k,rfl⟩)|(go_at_call 123;refine(As c _ hva hvb).mono ?_;rintro e w' ⟨rfl,rfl⟩));refine((HR.out.drewN k).digit OK.out hn c false h0 h1 110).mono ?_;rintro e w' ⟨rfl,hb,hr⟩;go_wp2;go_ret;exact Bg HS2.out ((below_drewN (Below.refl _ _) _)) hb hr
 ·have HR:Hid (AZ _ _ _ _ _ _ _ _ _):=h;have OK:Hid (Ok m):=ok;clear h ok;go_enter Tryz.func93,Tryz.ntmps93;go_wp2_with (first|(go_at_call 126;refine hc.mono ?_;rintro e w' ⟨rfl,k,rfl⟩)|(go_at_call 123;refine(AN _ _ (by omega) (by omega) (by omega)).mono ?_;rintro e w' ⟨rfl,rfl⟩));refine((HR.out.drewN k).digit OK.out hn c false h0 h1 110).mono ?_;rintro e w' ⟨rfl,hb,hr⟩;go_wp2;go_ret;exact Bg HS2.out ((below_drewN (Below.refl _ _) _)) hb hr
theorem AZ.condC(h:AZ B w r m vs vo P Q O)(ok:Ok m)(hn:0<m.st.length)(_hB:B<=w.heap.size)(c:Int)(h0:0<=c)(h1:c<=255)(hx:m.state=99):
  Calls Tryz.prog 94 #[.pointer (some ⟨r,0,none⟩),.int .u8 c] w (D2 B w r (AF m c)):=by
 have hc:=h.now hn ok.len;have hcur:=AZ.curs hn;obtain⟨c0,c1,c2,c3,c4,c5,c6,f7,f8,n9,n10,n11⟩:=h.stc _ _ hcur;obtain⟨r0,r1,r2,r3,r4,r5,rf⟩:=h.rdc;have geR:=h.geR;obtain⟨geP,geQ⟩:=h.geC hn;obtain⟨sg0,sg1⟩:=ok.sgn;obtain⟨nu0,nu1⟩:=ok.nums (cur m) (List.mem_of_getElem? hcur);have HC:Hid (_=_):=hcur;clear hcur;rw[hx]at r0;have HX:Hid (_=_):=hx;clear hx;have nrp:r≠P (m.st.length-1):=λe=>n9 e.symm;have nrq:r≠Q (m.st.length-1):=λe=>n10 e.symm;have npq:P (m.st.length-1)≠Q (m.st.length-1):=λe=>n11 e.symm;by_cases h42:c=42
 ·subst h42;have HY:Hid (AF m 42=some {AE m {cur m with star:=true}with state:=AG m}):=by show AF m 42=_;unfold AF;rw[HX.out,if_pos rfl,if_pos rfl]
  have HR:Hid (AZ _ _ _ _ _ _ _ _ _):=h;have OK:Hid (Ok m):=ok;clear h ok;go_enter Tryz.func94,Tryz.ntmps94;go_wp2_with (first|(go_at_call 126;refine hc.mono ?_;rintro e w' ⟨rfl,k,rfl⟩)|(go_at_call 123;refine(AN _ _ (by omega) (by omega) (by omega)).mono ?_;rintro e w' ⟨rfl,rfl⟩));have e1:=(HR.out.drewN k).setC hn {cur m with star:=true} 2 (.bool true) rfl rfl;refine(e1.behind (by rw[BL];exact hn) (by rw[BL];exact OK.out.len)).mono ?_;rintro e w' ⟨rfl,k2,rfl⟩;have HE:Hid (AZ _ _ _ _ _ _ _ _ _):=e1;clear e1;go_wp2;go_ret;refine Aq HY.out (Below.setCell (below_drewN (Below.setCell (below_drewN (Below.refl _ _) _) geP _) _) geR _) ((HE.out.drewN k2).setRd 0 _ _ ?_ rfl rfl);simp[Ii,AG,Hi hn]
 have b42:(c==42)=false:=by simpa using h42
 by_cases h45:c=45
 ·subst h45;have HY:Hid (AF m 45=some {m with sign:= -1,state:=67}):=by show AF m 45=_;unfold AF;rw[HX.out,if_pos rfl,if_neg (by decide),if_pos rfl]
  clear h42 b42;have HR:Hid (AZ _ _ _ _ _ _ _ _ _):=h;have OK:Hid (Ok m):=ok;clear h ok;go_enter Tryz.func94,Tryz.ntmps94;go_wp2_with (first|(go_at_call 126;refine hc.mono ?_;rintro e w' ⟨rfl,k,rfl⟩)|(go_at_call 123;refine(AN _ _ (by omega) (by omega) (by omega)).mono ?_;rintro e w' ⟨rfl,rfl⟩));go_ret;exact Aq HY.out (Below.setCell (Below.setCell (below_drewN (Below.refl _ _) _) geR _) geR _) (((HR.out.drewN k).setRd 3 (.int .i64 (-1)) {m with sign:= -1} rfl rfl rfl).setRd 0 (.int .u8 67) _ rfl rfl rfl)
 have b45:(c==45)=false:=by simpa using h45
 by_cases hv:97<=c/\c<=100
 ·have HY:Hid (AF m c=some (Bp m (c-97).toNat 1 100)):=by show AF m c=_;unfold AF;rw[HX.out,if_pos rfl,if_neg h42,if_neg h45,if_pos hv]
  obtain⟨hva,hvb⟩:=hv;have hq:=h.sgc ok hn (c-97).toNat (by omega);have i0:(0:Int)<=c-97:=by omega
  have i1:c-97<4:=by omega
  clear h42 h45;have HR:Hid (AZ _ _ _ _ _ _ _ _ _):=h;have OK:Hid (Ok m):=ok;clear h ok;go_enter Tryz.func94,Tryz.ntmps94;go_wp2_with (first|(go_at_call 126;refine hc.mono ?_;rintro e w' ⟨rfl,k,rfl⟩)|(go_at_call 123;refine(As c _ hva hvb).mono ?_;rintro e w' ⟨rfl,rfl⟩));go_region;go_wp2;go_ret;exact Aq HY.out (Below.drew (Below.setCell (Below.setCell (Below.setCell (below_drewN (Below.refl _ _) _) geR _) geQ _) geR _)) (Lv HR.out hn (c-97).toNat 100 k).drew
 have HY:Hid (AF m c=none):=by show AF m c=_;unfold AF;rw[HX.out,if_pos rfl,if_neg h42,if_neg h45,if_neg hv]
 clear h42 h45;have HR:Hid (AZ _ _ _ _ _ _ _ _ _):=h;have OK:Hid (Ok m):=ok;clear h ok;go_enter Tryz.func94,Tryz.ntmps94;go_wp2_with (first|(go_at_call 126;refine hc.mono ?_;rintro e w' ⟨rfl,k,rfl⟩)|(go_at_call 123;refine(AN _ _ (by omega) (by omega) (by omega)).mono ?_;rintro e w' ⟨rfl,rfl⟩));go_ret;exact Av HY.out (below_drewN (Below.refl _ _) _)
theorem AZ.condCC(h:AZ B w r m vs vo P Q O)(ok:Ok m)(hn:0<m.st.length)(_hB:B<=w.heap.size)(c:Int)(h0:0<=c)(h1:c<=255)(hx:m.state=67):
  Calls Tryz.prog 94 #[.pointer (some ⟨r,0,none⟩),.int .u8 c] w (D2 B w r (AF m c)):=by
 have hc:=h.now hn ok.len;have hcur:=AZ.curs hn;obtain⟨c0,c1,c2,c3,c4,c5,c6,f7,f8,n9,n10,n11⟩:=h.stc _ _ hcur;obtain⟨r0,r1,r2,r3,r4,r5,rf⟩:=h.rdc;have geR:=h.geR;obtain⟨geP,geQ⟩:=h.geC hn;obtain⟨sg0,sg1⟩:=ok.sgn;obtain⟨nu0,nu1⟩:=ok.nums (cur m) (List.mem_of_getElem? hcur);have HC:Hid (_=_):=hcur;clear hcur;rw[hx]at r0;have HX:Hid (_=_):=hx;clear hx;have nrp:r≠P (m.st.length-1):=λe=>n9 e.symm;have nrq:r≠Q (m.st.length-1):=λe=>n10 e.symm;have npq:P (m.st.length-1)≠Q (m.st.length-1):=λe=>n11 e.symm;by_cases hv:97<=c/\c<=100
 ·have HY:Hid (AF m c=some (Bp m (c-97).toNat m.sign 100)):=by show AF m c=_;unfold AF;rw[HX.out,if_neg (by decide),if_pos rfl,if_pos hv]
  obtain⟨hva,hvb⟩:=hv;have hq:=h.sgc ok hn (c-97).toNat (by omega);have i0:(0:Int)<=c-97:=by omega
  have i1:c-97<4:=by omega
  have HR:Hid (AZ _ _ _ _ _ _ _ _ _):=h;have OK:Hid (Ok m):=ok;clear h ok;go_enter Tryz.func94,Tryz.ntmps94;go_wp2_with (first|(go_at_call 126;refine hc.mono ?_;rintro e w' ⟨rfl,k,rfl⟩)|(go_at_call 123;refine(As c _ hva hvb).mono ?_;rintro e w' ⟨rfl,rfl⟩));go_region;go_wp2;go_ret;exact Aq HY.out (Below.setCell (Below.setCell (below_drewN (Below.refl _ _) _) geQ _) geR _) (KY HR.out hn (c-97).toNat 100 (k+1))
 have HY:Hid (AF m c=none):=by show AF m c=_;unfold AF;rw[HX.out,if_neg (by decide),if_pos rfl,if_neg hv]
 have HR:Hid (AZ _ _ _ _ _ _ _ _ _):=h;have OK:Hid (Ok m):=ok;clear h ok;go_enter Tryz.func94,Tryz.ntmps94;go_wp2_with (first|(go_at_call 126;refine hc.mono ?_;rintro e w' ⟨rfl,k,rfl⟩)|(go_at_call 123;refine(AN _ _ (by omega) (by omega) (by omega)).mono ?_;rintro e w' ⟨rfl,rfl⟩));go_ret;exact Av HY.out (below_drewN (Below.refl _ _) _)
end Go.Proofs.YtffajooegiempaaGreatDoor
