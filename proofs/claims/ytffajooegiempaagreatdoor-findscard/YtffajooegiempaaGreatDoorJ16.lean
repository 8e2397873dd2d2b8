import Derived.Test.YtffajooegiempaaGreatDoorJ15
set_option maxRecDepth 100000
set_option maxHeartbeats 6400000
namespace Go.Proofs.YtffajooegiempaaGreatDoor
open Go.RowKit
variable {w:World}
def sg3:List Int:=[-1,0,1]
def tabS (l:List Int):Bool:=decide (2 < nz l) || (if nz l=0 then decide (numV l=-1) && decide (sd1 l=0) && decide (sd2 l=1)
 else decide (0<=numV l) && decide (numV l < 32) && decide (sd1 l=fs (numV l).toNat) && decide (sd2 l=ss (numV l).toNat))
theorem tabS_all:(sg3.all fun a=>sg3.all fun b=>sg3.all fun c=>sg3.all fun d=>tabS [a,b,c,d])=true:=by decide +kernel
theorem mem_sg3 {a:Int} (h:-1<=a/\a<=1):a ∈ sg3:=by
 rcases (show a=-1 \/ a=0 \/ a=1 by omega) with rfl | rfl | rfl <;> decide
theorem tabS_of {l:List Int} (hl:l.length=4) (h:∀ i,-1<=gAt l i/\gAt l i<=1):tabS l=true:=by
 obtain ⟨a,b,c,d,rfl⟩:=four_of hl
 have t:=tabS_all
 simp only [List.all_eq_true] at t
 exact t a (mem_sg3 (h 0)) b (mem_sg3 (h 1)) c (mem_sg3 (h 2)) d (mem_sg3 (h 3))
def grD (C:Nat->Int) (l:List Int):Int:=if nz l=0 then 0 else bd C (numV l).toNat
theorem grP_grD {C:Nat->Int} (hC:C (0*8+1)=0) {l:List Int} (hl:l.length=4) (h:∀ i,-1<=gAt l i/\gAt l i<=1) (h2:nz l<=2) :
  mo C (sd1 l) (sd2 l)=grD C l/\(nz l=0->numV l=-1)/\(nz l ≠ 0->∃ f:Nat,f < 32/\numV l=(f:Int)/\grD C l=bd C f):=by
 have t:=tabS_of hl h
 unfold tabS at t
 rw [decide_eq_false (by omega:¬ 2 < nz l),Bool.false_or] at t
 by_cases e:nz l=0
 ·rw [if_pos e] at t
  simp only [Bool.and_eq_true,decide_eq_true_eq] at t
  refine ⟨?_,fun _=>t.1.1,fun q=>absurd e q⟩
  unfold grD
  rw [if_pos e,t.1.2,t.2]
  unfold mo
  rw [if_neg (fun z=>absurd z.1 (by decide))]
  exact hC
 ·rw [if_neg e] at t
  simp only [Bool.and_eq_true,decide_eq_true_eq] at t
  refine ⟨?_,fun q=>absurd q e,fun _=>⟨(numV l).toNat,by omega,by omega,?_⟩⟩
  ·unfold grD
   rw [if_neg e,t.1.2,t.2]
   rfl
  ·unfold grD
   rw [if_neg e]
theorem nz_four (a b c d:Int):nz [a,b,c,d]=(if a=0 then 0 else 1)+(if b=0 then 0 else 1)+(if c=0 then 0 else 1)+(if d=0 then 0 else 1):=by
 rw [nz_cons,nz_cons,nz_cons,nz_cons]
 have:nz []=0:=rfl
 omega
theorem nz_ngL {l:List Int} (hl:l.length=4):nz (ngL l)=nz l:=by
 obtain ⟨a,b,c,d,rfl⟩:=four_of hl
 show nz [-a,-b,-c,-d]=_
 rw [nz_four,nz_four]
 have h:∀ x:Int,(if -x=0 then 0 else 1:Nat)=if x=0 then 0 else 1:=fun x=>by
  by_cases e:x=0
  ·rw [if_pos e,if_pos (by omega)]
  ·rw [if_neg e,if_neg (by omega)]
 rw [h,h,h,h]
theorem nz_zero {l:List Int} (hl:l.length=4) (h:nz l=0):∀ i,i < 4->gAt l i=0:=by
 obtain ⟨a,b,c,d,rfl⟩:=four_of hl
 rw [nz_four] at h
 intro i hi
 have z:∀ x:Int,(if x=0 then 0 else 1:Nat)=0->x=0:=fun x hx=>by
  by_cases e:x=0
  ·exact e
  ·rw [if_neg e] at hx; cases hx
 rcases (show i=0 \/ i=1 \/ i=2 \/ i=3 by omega) with rfl | rfl | rfl | rfl
 ·exact z a (by omega)
 ·exact z b (by omega)
 ·exact z c (by omega)
 ·exact z d (by omega)
theorem z4_set:∀ j:Nat,j < 4->([0,0,0,0]:List Int).set j 0=[0,0,0,0]:=by decide
theorem r_greatest (C:Nat->Int) (u v:Value) (l:List Int) (hl:l.length=4) (hv:∀ i,-1<=gAt l i/\gAt l i<=1) (h2:nz l<=2) (hC0:C (0*8+1)=0) (hu:Reads w u (bdL C)) (hr:Reads w v l) :
  Calls Tryz.prog 97 #[u,v] w fun e w'=>e=.returned (.int .i64 (grD C l))/\Below w.heap.size w w':=by
 have hmk:∀ w,(Instr.makeSlice 32 (.int .i64 4) (.int .i64 4)).run Tryz.prog w=.ok (.slice (some ⟨w.heap.size,0,none⟩) 4 4) (w.alloc (.cells #[.int .i64 0,.int .i64 0,.int .i64 0,.int .i64 0] tNk)):=fun _=>by kernel_rfl
 obtain ⟨_,hz,hnz⟩:=grP_grD hC0 hl hv h2
 have hn:=r_number v l hl hr (fun i _=>by have:=hv i; omega)
 have hbl:(bdL C).length=32:=by simp [bdL]
 have HL:Hid (l.length=4):=hl
 obtain ⟨bu,cu,rfl,-,h0u⟩:=hu
 obtain ⟨q,ofq,rfl,hq,hcq⟩:=h0u (by omega)
 obtain ⟨au,ca,rfl,-,h0⟩:=id hr
 obtain ⟨p,off,rfl,hp,hcell⟩:=h0 (by omega)
 have HC:Hid (∀ i,i < 4->w.cell? ⟨p,off+i,none⟩=some (.int .i64 (gAt l i))):=fun i hi=>hcell i (by omega)
 have HCq:Hid (∀ i,i < 32->w.cell? ⟨q,ofq+i,none⟩=some (.int .i64 (bd C i))):=fun i hi=>by rw [hcq i (by omega)]; exact congrArg (fun z=>some (Value.int .i64 z)) (bdL_get C i hi)
 rw [hbl]
 rw [hl] at hn |-
 clear h0 h0u hcell hcq hr
 by_cases e:nz l=0
 ·have HE:Hid (grD C l=0):=if_pos e
  rw [hz e] at hn
  have HZ:Hid (∀ i,i < 4->w.cell? ⟨p,off+i,none⟩=some (.int .i64 0)):=fun i hi=>by rw [HC.out i hi,nz_zero HL.out e i hi]
  clear hz hnz hC0 e HCq HC
  go_enter Tryz.func97,Tryz.ntmps97
  go_wp2_with fail
  refine hn.mono ?_
  rintro e w1 ⟨rfl,hb1⟩
  have HB1:Hid (Below w.heap.size w w1):=hb1
  have hs1:=hb1.size
  have HA:Hid (At (w1.alloc (.cells #[.int .i64 0,.int .i64 0,.int .i64 0,.int .i64 0] tNk)) w1.heap.size (ic [0,0,0,0]) tNk/\Below w.heap.size w (w1.alloc (.cells #[.int .i64 0,.int .i64 0,.int .i64 0,.int .i64 0] tNk))):=⟨At.new _ _ _,hb1.alloc hb1.size _⟩
  clear hb1 hn
  go_wp2_with fail
  go_loopw [7,8] (fun zv iv wr=>∃ (j:Nat),j<=4/\iv=.int .i64 j/\zv=.bool true/\Hid (At wr w1.heap.size (ic [0,0,0,0]) tNk/\Below w.heap.size w wr)) (fun _ iv _=>4 - (intOf iv).toNat)
  case atStart=>exact ⟨0,by omega,rfl,rfl,HA.out⟩
  case round =>
   obtain ⟨j,hj,rfl,rfl,HR⟩:=hrel
   by_cases hlt:j < 4
   ·have hji:(j:Int) < 4:=by omega
    have ca:wr.cell? ⟨p,off+j,none⟩=some (.int .i64 0):=(HR.out.2.cell (p:=⟨p,off+j,none⟩) hp).trans (HZ.out j hlt)
    have cb:wr.cell? ⟨w1.heap.size,j,none⟩=some (.int .i64 0):=by
     rw [HR.out.1.cell,ic_get _ _ (by exact hlt)]
     rcases (show j=0 \/ j=1 \/ j=2 \/ j=3 by omega) with rfl | rfl | rfl | rfl <;> rfl
    have cf:=HR.out.1.free
    have hbl:=HR.out.1.lt
    have ne1:p ≠ w1.heap.size:=by omega
    go_wp2_with fail
    go_roundw
    case rel =>
     refine ⟨j+1,by omega,by go_num,rfl,?_,HR.out.2.setCell hs1 _⟩
     have:=HR.out.1.put j (.int .i64 0)
     rw [ic_set,z4_set j hlt] at this
     exact this
    case measure=>simp [intOf]; omega
   ·have hj4:j=4:=by omega
    subst hj4
    go_wp2_with fail
    go_ret
    exact ⟨by rw [HE.out]; rfl,HR.out.2⟩
 ·obtain ⟨f,hf,hnf,hg⟩:=hnz e
  rw [hnf] at hn
  have HE:Hid (grD C l=bd C f):=hg
  have hfi:(f:Int) < 32:=by omega
  have HCf:Hid (w.cell? ⟨q,ofq+f,none⟩=some (.int .i64 (bd C f))):=HCq.out f hf
  clear hz hnz hg hnf hC0 e
  generalize bd C f=g at *
  go_enter Tryz.func97,Tryz.ntmps97
  go_wp2_with fail
  refine hn.mono ?_
  rintro e w1 ⟨rfl,hb1⟩
  have cq:w1.cell? ⟨q,ofq+f,none⟩=some (.int .i64 g):=(hb1.cell (p:=⟨q,ofq+f,none⟩) hq).trans HCf.out
  have HB1:Hid (Below w.heap.size w w1):=hb1
  clear hb1 hn
  go_wp2_with fail
  go_ret
  exact ⟨by rw [HE.out]; rfl,HB1.out⟩
end Go.Proofs.YtffajooegiempaaGreatDoor

namespace Go.Proofs.YtffajooegiempaaGreatDoor
open Go.RowKit
theorem variable_any (c:Int) (w:World) (h0:0<=c) (h1:c<=255) :
  Calls Tryz.prog 123 #[.int .u8 c] w fun e w'=>e=.returned (.int .i64 (varOf c))/\w'=w:=by
 unfold varOf
 by_cases ha:97<=c
 ·by_cases hb:c<=100
  ·go_enter Tryz.func123,Tryz.ntmps123
   go_wp2
   go_ret
   exact ⟨rfl,rfl⟩
  ·go_enter Tryz.func123,Tryz.ntmps123
   go_wp2
   go_ret
   exact ⟨rfl,rfl⟩
 ·go_enter Tryz.func123,Tryz.ntmps123
  go_wp2
  go_ret
  exact ⟨rfl,rfl⟩
theorem now_any (r g p:Nat) (n cap:Nat) (w:World) (hn:0 < n) (hcap:n<=20)
  (hs:w.cell? ⟨r,1,none⟩=some (.slice (some ⟨g,0,none⟩) n cap))
  (hp:w.cell? ⟨g,n - 1,none⟩=some (.pointer (some ⟨p,0,none⟩))) :
  Calls Tryz.prog 126 #[.pointer (some ⟨r,0,none⟩)] w fun e w'=>e=.returned (.pointer (some ⟨p,0,none⟩))/\∃ k,w'=w.drewN k:=by
 go_enter Tryz.func126,Tryz.ntmps126
 go_wp2
 go_quiet (fail)
 go_wp2
 go_ret
 exact ⟨rfl,_,rfl⟩
end Go.Proofs.YtffajooegiempaaGreatDoor

namespace Go.Proofs.YtffajooegiempaaGreatDoor
open Go.RowKit
def ptr (p:Nat):Value:=.pointer (some ⟨p,0,none⟩)
def stCells (q:Nat) (s:St):Array Value:=#[.int .u8 s.kind,.int .i64 s.var,.bool s.star,.slice (some ⟨q,0,none⟩) 4 4,.int .i64 s.num,.int .i64 s.mid,.int .i64 s.fin]
def rdCells (m:Rd) (vs vo:Value):Array Value:=#[.int .u8 m.state,vs,vo,.int .i64 m.sign,.bool m.neg,.int .i64 m.dig]
def sgCells (l:List Int):Array Value:=(l.map (Value.int .i64)).toArray
def bkCells (b:Bk):Array Value:=#[.int .i64 b.of_,.bool b.second]
abbrev tR:TypeId:=53
abbrev tS:TypeId:=56
abbrev tB:TypeId:=139
abbrev tPS:TypeId:=57
abbrev tPB:TypeId:=137
abbrev tI:TypeId:=3
structure Rep (B:Nat) (w:World) (r:Nat) (m:Rd) (vs vo:Value) (P Q O:Nat->Nat):Prop where
 rd:At w r (rdCells m vs vo) tR
 rs:w.ownsRow B tPS 1 vs m.st.length ((List.range m.st.length).map fun i=>ptr (P i))
 ro:w.ownsRow B tPB 1 vo m.op.length ((List.range m.op.length).map fun i=>ptr (O i))
 st:∀ i s,m.st[i]?=some s->At w (P i) (stCells (Q i) s) tS/\At w (Q i) (sgCells s.sg) tI
 op:∀ i b,m.op[i]?=some b->At w (O i) (bkCells b) tB
 injP:∀ i j,i < m.st.length->j < m.st.length->P i=P j->i=j
 injQ:∀ i j,i < m.st.length->j < m.st.length->Q i=Q j->i=j
 injO:∀ i j,i < m.op.length->j < m.op.length->O i=O j->i=j
 geR:B<=r
 geP:∀ i,i < m.st.length->B<=P i/\B<=Q i
 geO:∀ i,i < m.op.length->B<=O i
variable {B:Nat} {w w':World} {r:Nat} {m:Rd} {vs vo:Value} {P Q O:Nat->Nat}
theorem ownsRow_at {e:TypeId} {v:Value} {n:Nat} {xs:List Value} (h:w.ownsRow B e 1 v n xs) (hn:0 < n):∃ g cap c,v=.slice (some ⟨g,0,none⟩) n cap/\B<=g/\At w g c e/\n<=cap:=by
 obtain ⟨h1,h2 | ⟨g,cap,c,hv,hg,hh,h3,h4,h5,h6⟩⟩:=h
 ·omega
 ·exact ⟨g,cap,c,hv,hg,hh,h3⟩
theorem ownsRow_same {e:TypeId} {v:Value} {n:Nat} {xs:List Value} (h:w.ownsRow B e 1 v n xs) (k:∀ g,v.ownBlock=some g->w'.heap[g]?=w.heap[g]?):w'.ownsRow B e 1 v n xs:=by
 obtain ⟨h1,h2⟩:=h
 refine ⟨h1,?_⟩
 rcases h2 with h2 | ⟨g,cap,c,hv,hg,hh,r⟩
 ·exact .inl h2
 ·subst hv; exact .inr ⟨g,cap,c,rfl,hg,by rw [k g rfl]; exact hh,r⟩
theorem ownsRow_type {e:TypeId} {v:Value} {n:Nat} {xs:List Value} (h:w.ownsRow B e 1 v n xs) {b:Nat} {c:Array Value} {t:TypeId} (k:At w b c t) (hn:e ≠ t):v.ownBlock ≠ some b:=by
 obtain ⟨h1,h2⟩:=h
 rcases h2 with ⟨rfl,_⟩ | ⟨g,cap,c',rfl,hg,hh,r⟩
 ·simp [Value.ownBlock]
 ·intro e'
  simp [Value.ownBlock] at e'
  exact (At.ne (show At w g c' e from hh) k hn) e'
theorem ownsRow_put {e:TypeId} {v:Value} {n:Nat} {xs:List Value} (h:w.ownsRow B e 1 v n xs) {b:Nat} {c:Array Value} {t:TypeId} (k:At w b c t) (hn:e ≠ t) (o:Nat) (u:Value):(w.setCell ⟨b,o,none⟩ u).ownsRow B e 1 v n xs :=
 ownsRow_setCell_other h (ownsRow_type h k hn) u
theorem Rep.drewN (h:Rep B w r m vs vo P Q O) (k:Nat):Rep B (w.drewN k) r m vs vo P Q O:=⟨h.rd,h.rs,h.ro,h.st,h.op,h.injP,h.injQ,h.injO,h.geR,h.geP,h.geO⟩
theorem Rep.setRd (h:Rep B w r m vs vo P Q O) (o:Nat) (u:Value) (m':Rd) (hc:(rdCells m vs vo).setIfInBounds o u=rdCells m' vs vo) (hs:m'.st=m.st) (ho:m'.op=m.op) :
  Rep B (w.setCell ⟨r,o,none⟩ u) r m' vs vo P Q O where
 rd:=by rw [<- hc]; exact h.rd.put o u
 rs:=by rw [hs]; exact ownsRow_put h.rs h.rd (by decide) o u
 ro:=by rw [ho]; exact ownsRow_put h.ro h.rd (by decide) o u
 st:=by
  intro i s hi; rw [hs] at hi
  obtain ⟨a,b⟩:=h.st i s hi
  exact ⟨a.other o u (a.ne h.rd (by decide)),b.other o u (b.ne h.rd (by decide))⟩
 op:=by
  intro i s hi; rw [ho] at hi
  have a:=h.op i s hi
  exact a.other o u (a.ne h.rd (by decide))
 injP:=by rw [hs]; exact h.injP
 injQ:=by rw [hs]; exact h.injQ
 injO:=by rw [ho]; exact h.injO
 geR:=h.geR
 geP:=by rw [hs]; exact h.geP
 geO:=by rw [ho]; exact h.geO
theorem Rep.setSt (h:Rep B w r m vs vo P Q O) (k:Nat) (s s':St) (hk:m.st[k]?=some s) (o:Nat) (u:Value) (m':Rd) (hc:(stCells (Q k) s).setIfInBounds o u=stCells (Q k) s') (hsg:s'.sg=s.sg) (hm:m'={ m with st:=m.st.set k s' }) :
  Rep B (w.setCell ⟨P k,o,none⟩ u) r m' vs vo P Q O:=by
 subst hm
 have hlt:k < m.st.length:=by
  rcases Nat.lt_or_ge k m.st.length with h' | h'
  ·exact h'
  ·simp [List.getElem?_eq_none h'] at hk
 obtain ⟨ka,kb⟩:=h.st k s hk
 exact {
  rd:=h.rd.other o u (h.rd.ne ka (by decide))
  rs:=by simp only [List.length_set]; exact ownsRow_put h.rs ka (by decide) o u
  ro:=ownsRow_put h.ro ka (by decide) o u
  st:=by
   intro i x hi
   by_cases e:i=k
   ·subst e
    simp [hlt] at hi
    subst hi
    exact ⟨by rw [<- hc]; exact ka.put o u,by rw [hsg]; exact kb.other o u (kb.ne ka (by decide))⟩
   ·simp only [List.getElem?_set,if_neg (Ne.symm e)] at hi
    have hil:i < m.st.length:=by
     rcases Nat.lt_or_ge i m.st.length with h' | h'
     ·exact h'
     ·simp [List.getElem?_eq_none h'] at hi
    obtain ⟨a,b⟩:=h.st i x hi
    exact ⟨a.other o u (fun q=>e (h.injP i k hil hlt q)),b.other o u (b.ne ka (by decide))⟩
  op:=by
   intro i x hi
   have a:=h.op i x hi
   exact a.other o u (a.ne ka (by decide))
  injP:=by simp only [List.length_set]; exact h.injP
  injQ:=by simp only [List.length_set]; exact h.injQ
  injO:=h.injO
  geR:=h.geR
  geP:=by simp only [List.length_set]; exact h.geP
  geO:=h.geO }
theorem Rep.setSg (h:Rep B w r m vs vo P Q O) (k:Nat) (s:St) (hk:m.st[k]?=some s) (o:Nat) (x:Int) (m':Rd) (hm:m'={ m with st:=m.st.set k { s with sg:=s.sg.set o x } }) :
  Rep B (w.setCell ⟨Q k,o,none⟩ (.int .i64 x)) r m' vs vo P Q O:=by
 subst hm
 have hlt:k < m.st.length:=by
  rcases Nat.lt_or_ge k m.st.length with h' | h'
  ·exact h'
  ·simp [List.getElem?_eq_none h'] at hk
 obtain ⟨ka,kb⟩:=h.st k s hk
 have hsg:(sgCells s.sg).setIfInBounds o (.int .i64 x)=sgCells (s.sg.set o x):=by simp [sgCells,List.map_set]
 exact {
  rd:=h.rd.other o _ (h.rd.ne kb (by decide))
  rs:=by simp only [List.length_set]; exact ownsRow_put h.rs kb (by decide) o _
  ro:=ownsRow_put h.ro kb (by decide) o _
  st:=by
   intro i y hi
   by_cases e:i=k
   ·subst e
    simp [hlt] at hi
    subst hi
    exact ⟨ka.other o _ (ka.ne kb (by decide)),by show At _ _ (sgCells (s.sg.set o x)) _; rw [<- hsg]; exact kb.put o _⟩
   ·simp only [List.getElem?_set,if_neg (Ne.symm e)] at hi
    have hil:i < m.st.length:=by
     rcases Nat.lt_or_ge i m.st.length with h' | h'
     ·exact h'
     ·simp [List.getElem?_eq_none h'] at hi
    obtain ⟨a,b⟩:=h.st i y hi
    exact ⟨a.other o _ (a.ne kb (by decide)),b.other o _ (fun q=>e (h.injQ i k hil hlt q))⟩
  op:=by
   intro i y hi
   have a:=h.op i y hi
   exact a.other o _ (a.ne kb (by decide))
  injP:=by simp only [List.length_set]; exact h.injP
  injQ:=by simp only [List.length_set]; exact h.injQ
  injO:=h.injO
  geR:=h.geR
  geP:=by simp only [List.length_set]; exact h.geP
  geO:=h.geO }
theorem Rep.setBk (h:Rep B w r m vs vo P Q O) (k:Nat) (b b':Bk) (hk:m.op[k]?=some b) (o:Nat) (u:Value) (m':Rd) (hc:(bkCells b).setIfInBounds o u=bkCells b') (hm:m'={ m with op:=m.op.set k b' }) :
  Rep B (w.setCell ⟨O k,o,none⟩ u) r m' vs vo P Q O:=by
 subst hm
 have hlt:k < m.op.length:=by
  rcases Nat.lt_or_ge k m.op.length with h' | h'
  ·exact h'
  ·simp [List.getElem?_eq_none h'] at hk
 have ka:=h.op k b hk
 exact {
  rd:=h.rd.other o u (h.rd.ne ka (by decide))
  rs:=ownsRow_put h.rs ka (by decide) o u
  ro:=by simp only [List.length_set]; exact ownsRow_put h.ro ka (by decide) o u
  st:=by
   intro i x hi
   obtain ⟨a,b⟩:=h.st i x hi
   exact ⟨a.other o u (a.ne ka (by decide)),b.other o u (b.ne ka (by decide))⟩
  op:=by
   intro i x hi
   by_cases e:i=k
   ·subst e
    simp [hlt] at hi
    subst hi
    rw [<- hc]; exact ka.put o u
   ·simp only [List.getElem?_set,if_neg (Ne.symm e)] at hi
    have hil:i < m.op.length:=by
     rcases Nat.lt_or_ge i m.op.length with h' | h'
     ·exact h'
     ·simp [List.getElem?_eq_none h'] at hi
    exact (h.op i x hi).other o u (fun q=>e (h.injO i k hil hlt q))
  injP:=h.injP
  injQ:=h.injQ
  injO:=by simp only [List.length_set]; exact h.injO
  geR:=h.geR
  geP:=h.geP
  geO:=by simp only [List.length_set]; exact h.geO }
def Post (B:Nat) (w:World) (r:Nat) (o:Option Rd):Ending->World->Prop:=fun e w' =>
 e=.returned (.bool o.isSome)/\Below B w w'/\∀ m',o=some m'->∃ vs vo P Q O,Rep B w' r m' vs vo P Q O
end Go.Proofs.YtffajooegiempaaGreatDoor

namespace Go.Proofs.YtffajooegiempaaGreatDoor
open Go.RowKit
variable {B:Nat} {w w':World} {r:Nat} {m:Rd} {vs vo:Value} {P Q O:Nat->Nat}
theorem Rep.rdc (h:Rep B w r m vs vo P Q O):w.cell? ⟨r,0,none⟩=some (.int .u8 m.state)/\w.cell? ⟨r,1,none⟩=some vs/\w.cell? ⟨r,2,none⟩=some vo/\w.cell? ⟨r,3,none⟩=some (.int .i64 m.sign)/\w.cell? ⟨r,4,none⟩=some (.bool m.neg)/\w.cell? ⟨r,5,none⟩=some (.int .i64 m.dig)/\∀ i,w.frozen? ⟨r,i,none⟩=false :=
 ⟨h.rd.cell 0,h.rd.cell 1,h.rd.cell 2,h.rd.cell 3,h.rd.cell 4,h.rd.cell 5,h.rd.free⟩
theorem Rep.curs (hn:0 < m.st.length):m.st[m.st.length - 1]?=some (cur m):=by
 unfold cur
 rw [List.getD_eq_getElem?_getD,List.getElem?_eq_getElem (by omega)]; rfl
theorem Rep.stc (h:Rep B w r m vs vo P Q O) (k:Nat) (s:St) (hk:m.st[k]?=some s):w.cell? ⟨P k,0,none⟩=some (.int .u8 s.kind)/\w.cell? ⟨P k,1,none⟩=some (.int .i64 s.var)/\w.cell? ⟨P k,2,none⟩=some (.bool s.star)/\w.cell? ⟨P k,3,none⟩=some (.slice (some ⟨Q k,0,none⟩) 4 4)/\w.cell? ⟨P k,4,none⟩=some (.int .i64 s.num)/\w.cell? ⟨P k,5,none⟩=some (.int .i64 s.mid)/\w.cell? ⟨P k,6,none⟩=some (.int .i64 s.fin)/\(∀ i,w.frozen? ⟨P k,i,none⟩=false)/\(∀ i,w.frozen? ⟨Q k,i,none⟩=false)/\P k ≠ r/\Q k ≠ r/\Q k ≠ P k:=by
 obtain ⟨a,b⟩:=h.st k s hk
 exact ⟨a.cell 0,a.cell 1,a.cell 2,a.cell 3,a.cell 4,a.cell 5,a.cell 6,a.free,b.free,a.ne h.rd (by decide),b.ne h.rd (by decide),b.ne a (by decide)⟩
theorem Rep.row (h:Rep B w r m vs vo P Q O) (hn:0 < m.st.length):∃ g cap,vs=.slice (some ⟨g,0,none⟩) m.st.length cap/\(∀ i,i < m.st.length->w.cell? ⟨g,i,none⟩=some (ptr (P i)))/\g ≠ r/\m.st.length<=cap/\∀ k s,m.st[k]?=some s->g ≠ P k/\g ≠ Q k:=by
 obtain ⟨g,cap,c,hv,hg,ha,hc⟩:=ownsRow_at h.rs hn
 refine ⟨g,cap,hv,?_,ha.ne h.rd (by decide),hc,fun k s hk=>?_⟩
 ·intro i hi
  have:=h.rs
  rw [hv] at this
  rw [this.cellAt i (by omega)]
  simp [hi]
 ·obtain ⟨a,b⟩:=h.st k s hk
  exact ⟨ha.ne a (by decide),ha.ne b (by decide)⟩
theorem Rep.now (h:Rep B w r m vs vo P Q O) (hn:0 < m.st.length) (hl:m.st.length<=20) :
  Calls Tryz.prog 126 #[.pointer (some ⟨r,0,none⟩)] w fun e w'=>e=.returned (.pointer (some ⟨P (m.st.length - 1),0,none⟩))/\∃ k,w'=w.drewN k:=by
 obtain ⟨g,cap,rfl,hrow,_⟩:=h.row hn
 exact now_any r g (P (m.st.length - 1)) m.st.length cap w hn hl h.rdc.2.1 (hrow _ (by omega))
theorem Rep.behind (h:Rep B w r m vs vo P Q O) (hn:0 < m.st.length) (hl:m.st.length<=20) :
  Calls Tryz.prog 128 #[.pointer (some ⟨r,0,none⟩)] w fun e w'=>e=.returned (.int .u8 (behindOf m))/\∃ k,w'=w.drewN k:=by
 have hc:=h.now hn hl
 obtain ⟨c0,-⟩:=h.stc _ _ (Rep.curs hn)
 unfold behindOf
 generalize P (m.st.length - 1)=p at *
 generalize (cur m).kind=kd at *
 clear h
 by_cases hk:kd=33
 ·subst hk
  go_enter Tryz.func128,Tryz.ntmps128
  go_wp2_with (go_at_call 126; refine hc.mono ?_; rintro e w' ⟨rfl,k,rfl⟩)
  go_ret
  exact ⟨rfl,_,rfl⟩
 ·have hk':(kd == 33)=false:=by simpa using hk
  go_enter Tryz.func128,Tryz.ntmps128
  go_wp2_with (go_at_call 126; refine hc.mono ?_; rintro e w' ⟨rfl,k,rfl⟩)
  go_ret
  exact ⟨by simp,_,rfl⟩
end Go.Proofs.YtffajooegiempaaGreatDoor

namespace Go.Proofs.YtffajooegiempaaGreatDoor
open Go.RowKit
variable {B:Nat} {w w':World} {r:Nat} {m:Rd} {vs vo:Value} {P Q O:Nat->Nat}
theorem Rep.geC (h:Rep B w r m vs vo P Q O) (hn:0 < m.st.length):B<=P (m.st.length - 1)/\B<=Q (m.st.length - 1):=h.geP _ (by omega)
theorem digit_no {c:Int} {pos:Bool} {nx:Int} (h:c < 48 \/ 57 < c \/ (if m.state=nx then m.dig else 0)=2 \/ ((if m.state=nx then m.dig else 0)=1/\(if m.state=nx then (cur m).num else 0)=0) \/ (pos=true/\c=48)):digitStep m c pos nx=none:=by
 simp only [digitStep]; rw [if_pos h]
theorem digit_yes {c:Int} {pos:Bool} {nx d u:Int} (hd:(if m.state=nx then m.dig else 0)=d) (hu:(if m.state=nx then (cur m).num else 0)=u) (h:¬ (c < 48 \/ 57 < c \/ d=2 \/ (d=1/\u=0) \/ (pos=true/\c=48))) :
  digitStep m c pos nx=some { setCur m { cur m with num:=10*u+(c - 48) } with dig:=d+1,state:=nx }:=by
 subst hd; subst hu
 simp only [digitStep]; rw [if_neg h]
theorem post_no {o:Option Rd} {w w':World} (h:o=none) (hb:Below B w w'):Post B w r o (.returned (.bool false)) w':=by
 subst h; exact ⟨rfl,hb,fun _ e=>by cases e⟩
theorem post_yes {o:Option Rd} {m':Rd} {w w':World} (h:o=some m') (hb:Below B w w') (hr:Rep B w' r m' vs vo P Q O):Post B w r o (.returned (.bool true)) w':=by
 subst h; exact ⟨rfl,hb,fun _ e=>by cases e; exact ⟨vs,vo,P,Q,O,hr⟩⟩
theorem post_ret {o:Option Rd} {m' m'':Rd} {w w':World} {b:Value} (hb':b=.bool true) (h:o=some m') (hb:Below B w w') (hm:m''=m') (hr:Rep B w' r m'' vs vo P Q O):Post B w r o (.returned b) w':=by
 subst hb'; subst hm; exact post_yes h hb hr
theorem curs_setCur (hn:0 < m.st.length) (s:St):(setCur m s).st[m.st.length - 1]?=some s:=by
 simp [setCur,List.getElem?_set]; omega
theorem Rep.setC (h:Rep B w r m vs vo P Q O) (hn:0 < m.st.length) (s':St) (o:Nat) (u:Value) (hc:(stCells (Q (m.st.length - 1)) (cur m)).setIfInBounds o u=stCells (Q (m.st.length - 1)) s') (hsg:s'.sg=(cur m).sg) :
  Rep B (w.setCell ⟨P (m.st.length - 1),o,none⟩ u) r (setCur m s') vs vo P Q O:=h.setSt _ _ s' (Rep.curs hn) o u _ hc hsg rfl
theorem cur_setCur (hn:0 < m.st.length) (s:St):cur (setCur m s)=s:=by
 have:=curs_setCur hn s
 unfold cur
 rw [List.getD_eq_getElem?_getD,show (setCur m s).st.length=m.st.length by simp [setCur],this]; rfl
theorem len_setCur (s:St):(setCur m s).st.length=m.st.length:=by simp [setCur]
theorem rep_digitNew (h:Rep B w r m vs vo P Q O) (hn:0 < m.st.length) (x nx:Int) (k:Nat) :
  Rep B ((((((w.drewN k).setCell ⟨r,5,none⟩ (.int .i64 0)).setCell ⟨P (m.st.length - 1),4,none⟩ (.int .i64 0)).setCell ⟨P (m.st.length - 1),4,none⟩ (.int .i64 x)).setCell ⟨r,5,none⟩ (.int .i64 1)).setCell ⟨r,0,none⟩ (.int .u8 nx)) r
   { setCur m { cur m with num:=x } with dig:=1,state:=nx } vs vo P Q O:=by
 have e1:=(h.drewN k).setRd 5 (.int .i64 0) { m with dig:=0 } rfl rfl rfl
 have e2:=e1.setC hn { cur m with num:=0 } 4 (.int .i64 0) rfl rfl
 have e3:=e2.setSt (m.st.length - 1) { cur m with num:=0 } { cur m with num:=x } (curs_setCur (m:={ m with dig:=0 }) hn _) 4 (.int .i64 x) _ rfl rfl rfl
 have e4:=e3.setRd 5 (.int .i64 1) { setCur m { cur m with num:=x } with dig:=1 } rfl (by simp [setCur]) rfl
 exact e4.setRd 0 (.int .u8 nx) _ rfl rfl rfl
theorem rep_digitOld (h:Rep B w r m vs vo P Q O) (hn:0 < m.st.length) (x d nx:Int) (k:Nat) :
  Rep B ((((w.drewN k).setCell ⟨P (m.st.length - 1),4,none⟩ (.int .i64 x)).setCell ⟨r,5,none⟩ (.int .i64 d)).setCell ⟨r,0,none⟩ (.int .u8 nx)) r
   { setCur m { cur m with num:=x } with dig:=d,state:=nx } vs vo P Q O:=by
 have e3:=(h.drewN k).setC hn { cur m with num:=x } 4 (.int .i64 x) rfl rfl
 have e4:=e3.setRd 5 (.int .i64 d) { setCur m { cur m with num:=x } with dig:=d } rfl rfl rfl
 exact e4.setRd 0 (.int .u8 nx) _ rfl rfl rfl
theorem Rep.digitNew (h:Rep B w r m vs vo P Q O) (hn:0 < m.st.length) (hl:m.st.length<=20) (c:Int) (pos:Bool) (nx:Int) (h0:0<=c) (h1:c<=255) (hx:m.state ≠ nx) :
  Calls Tryz.prog 127 #[.pointer (some ⟨r,0,none⟩),.int .u8 c,.bool pos,.int .u8 nx] w (Post B w r (digitStep m c pos nx)):=by
 have hc:=h.now hn hl
 have hcur:=Rep.curs hn
 obtain ⟨c0,c1,c2,c3,c4,c5,c6,f7,f8,n9,n10,n11⟩:=h.stc _ _ hcur
 obtain ⟨r0,r1,r2,r3,r4,r5,rf⟩:=h.rdc
 have geR:=h.geR
 obtain ⟨geP,geQ⟩:=h.geC hn
 have hxb:(m.state == nx)=false:=by simpa using hx
 have hxn:(m.state != nx)=true:=by simpa using hx
 have hd:(if m.state=nx then m.dig else 0)=0:=if_neg hx
 have hu:(if m.state=nx then (cur m).num else 0)=0:=if_neg hx
 have HD:Hid (_=_):=hd
 have HU:Hid (_=_):=hu
 have HC:Hid (_=_):=hcur
 clear hd hu hcur
 have nrp:r ≠ P (m.st.length - 1):=fun e=>n9 e.symm
 have HR:Hid (Rep _ _ _ _ _ _ _ _ _):=h
 clear h
 by_cases hlo:c < 48
 ·go_enter Tryz.func127,Tryz.ntmps127
  go_wp2_with (go_at_call 126; refine hc.mono ?_; rintro e w' ⟨rfl,k,rfl⟩)
  go_ret
  exact post_no (digit_no (.inl hlo)) (Below.setCell (Below.setCell (below_drewN (Below.refl _ _) _) geR _) geP _)
 by_cases hhi:57 < c
 ·go_enter Tryz.func127,Tryz.ntmps127
  go_wp2_with (go_at_call 126; refine hc.mono ?_; rintro e w' ⟨rfl,k,rfl⟩)
  go_ret
  exact post_no (digit_no (.inr (.inl hhi))) (Below.setCell (Below.setCell (below_drewN (Below.refl _ _) _) geR _) geP _)
 by_cases hz:pos=true/\c=48
 ·obtain ⟨rfl,rfl⟩:=hz
  go_enter Tryz.func127,Tryz.ntmps127
  go_wp2_with (go_at_call 126; refine hc.mono ?_; rintro e w' ⟨rfl,k,rfl⟩)
  go_ret
  exact post_no (digit_no (.inr (.inr (.inr (.inr ⟨rfl,rfl⟩))))) (Below.setCell (Below.setCell (below_drewN (Below.refl _ _) _) geR _) geP _)
 ·have hz':(pos && (c == 48))=false:=by cases pos <;> simp_all
  have HY:Hid (_=_):=digit_yes (pos:=pos) (c:=c) HD.out HU.out (by rintro (a | a | a | a | a) <;> first | exact hz a | omega)
  have HZ:Hid (¬ (pos=true/\c=48)):=hz
  clear hz
  cases pos
  ·go_enter Tryz.func127,Tryz.ntmps127
   go_wp2_with (go_at_call 126; refine hc.mono ?_; rintro e w' ⟨rfl,k,rfl⟩)
   go_ret
   refine post_ret rfl HY.out (Below.setCell (Below.setCell (Below.setCell (Below.setCell (Below.setCell (below_drewN (Below.refl _ _) _) geR _) geP _) geP _) geR _) geR _) ?_ (rep_digitNew HR.out hn (c - 48) nx k)
   simp
  ·have hz2:(c == 48)=false:=by simpa using hz'
   go_enter Tryz.func127,Tryz.ntmps127
   go_wp2_with (go_at_call 126; refine hc.mono ?_; rintro e w' ⟨rfl,k,rfl⟩)
   go_ret
   refine post_ret rfl HY.out (Below.setCell (Below.setCell (Below.setCell (Below.setCell (Below.setCell (below_drewN (Below.refl _ _) _) geR _) geP _) geP _) geR _) geR _) ?_ (rep_digitNew HR.out hn (c - 48) nx k)
   simp
theorem Rep.digitOld (h:Rep B w r m vs vo P Q O) (hn:0 < m.st.length) (hl:m.st.length<=20) (c:Int) (pos:Bool) (h0:0<=c) (h1:c<=255) (hd0:0<=m.dig) (hd2:m.dig<=2) (hn0:-99<=(cur m).num) (hn1:(cur m).num<=99) (nx:Int) (hx:m.state=nx) :
  Calls Tryz.prog 127 #[.pointer (some ⟨r,0,none⟩),.int .u8 c,.bool pos,.int .u8 nx] w (Post B w r (digitStep m c pos nx)):=by
 have hc:=h.now hn hl
 have hcur:=Rep.curs hn
 obtain ⟨c0,c1,c2,c3,c4,c5,c6,f7,f8,n9,n10,n11⟩:=h.stc _ _ hcur
 obtain ⟨r0,r1,r2,r3,r4,r5,rf⟩:=h.rdc
 have geR:=h.geR
 obtain ⟨geP,geQ⟩:=h.geC hn
 have hd:(if m.state=nx then m.dig else 0)=m.dig:=if_pos hx
 have hu:(if m.state=nx then (cur m).num else 0)=(cur m).num:=if_pos hx
 have HD:Hid (_=_):=hd
 have HU:Hid (_=_):=hu
 have HC:Hid (_=_):=hcur
 clear hd hu hcur
 rw [hx] at r0
 have HX:Hid (_=_):=hx
 clear hx
 have nrp:r ≠ P (m.st.length - 1):=fun e=>n9 e.symm
 have HR:Hid (Rep _ _ _ _ _ _ _ _ _):=h
 clear h
 by_cases hlo:c < 48
 ·go_enter Tryz.func127,Tryz.ntmps127
  go_wp2_with (go_at_call 126; refine hc.mono ?_; rintro e w' ⟨rfl,k,rfl⟩)
  go_ret
  exact post_no (digit_no (.inl hlo)) (below_drewN (Below.refl _ _) _)
 by_cases hhi:57 < c
 ·go_enter Tryz.func127,Tryz.ntmps127
  go_wp2_with (go_at_call 126; refine hc.mono ?_; rintro e w' ⟨rfl,k,rfl⟩)
  go_ret
  exact post_no (digit_no (.inr (.inl hhi))) (below_drewN (Below.refl _ _) _)
 by_cases h2:m.dig=2
 ·have HN:Hid (digitStep m c pos nx=none):=digit_no (.inr (.inr (.inl (HD.out.trans h2))))
  rw [h2] at r5
  clear h2
  go_enter Tryz.func127,Tryz.ntmps127
  go_wp2_with (go_at_call 126; refine hc.mono ?_; rintro e w' ⟨rfl,k,rfl⟩)
  go_ret
  exact post_no HN.out (below_drewN (Below.refl _ _) _)
 have hb2:(m.dig == 2)=false:=by simpa using h2
 by_cases h3:m.dig=1/\(cur m).num=0
 ·obtain ⟨h3,h4⟩:=h3
  have HN:Hid (digitStep m c pos nx=none):=digit_no (.inr (.inr (.inr (.inl ⟨HD.out.trans h3,HU.out.trans h4⟩))))
  rw [h3] at r5
  rw [h4] at c4
  clear h3 h4 h2 hb2
  go_enter Tryz.func127,Tryz.ntmps127
  go_wp2_with (go_at_call 126; refine hc.mono ?_; rintro e w' ⟨rfl,k,rfl⟩)
  go_ret
  exact post_no HN.out (below_drewN (Below.refl _ _) _)
 by_cases hz:pos=true/\c=48
 ·have HN:Hid (digitStep m c pos nx=none):=digit_no (.inr (.inr (.inr (.inr hz))))
  obtain ⟨rfl,rfl⟩:=hz
  by_cases h3a:m.dig=1
  ·have h3b:((cur m).num == 0)=false:=by simpa using fun e=>h3 ⟨h3a,e⟩
   rw [h3a] at r5
   clear h3 h2 hb2 h3a
   go_enter Tryz.func127,Tryz.ntmps127
   go_wp2_with (go_at_call 126; refine hc.mono ?_; rintro e w' ⟨rfl,k,rfl⟩)
   go_ret
   exact post_no HN.out (below_drewN (Below.refl _ _) _)
  ·have h3b:(m.dig == 1)=false:=by simpa using h3a
   clear h3 h2 h3a
   go_enter Tryz.func127,Tryz.ntmps127
   go_wp2_with (go_at_call 126; refine hc.mono ?_; rintro e w' ⟨rfl,k,rfl⟩)
   go_ret
   exact post_no HN.out (below_drewN (Below.refl _ _) _)
 ·have HY:Hid (_=_):=digit_yes (pos:=pos) (c:=c) HD.out HU.out (by rintro (a | a | a | a | a) <;> first | exact hz a | exact h3 a | exact h2 a | omega)
  have hz':(pos && (c == 48))=false:=by cases pos <;> simp_all
  by_cases h3a:m.dig=1
  ·have h3b:((cur m).num == 0)=false:=by simpa using fun e=>h3 ⟨h3a,e⟩
   rw [h3a] at r5 HY
   clear h3 h2 hb2 h3a hz
   cases pos
   ·go_enter Tryz.func127,Tryz.ntmps127
    go_wp2_with (go_at_call 126; refine hc.mono ?_; rintro e w' ⟨rfl,k,rfl⟩)
    go_ret
    refine post_ret rfl HY.out (Below.setCell (Below.setCell (Below.setCell (below_drewN (Below.refl _ _) _) geP _) geR _) geR _) ?_ (rep_digitOld HR.out hn _ _ nx k)
    simp
   ·have hz2:(c == 48)=false:=by simpa using hz'
    go_enter Tryz.func127,Tryz.ntmps127
    go_wp2_with (go_at_call 126; refine hc.mono ?_; rintro e w' ⟨rfl,k,rfl⟩)
    go_ret
    refine post_ret rfl HY.out (Below.setCell (Below.setCell (Below.setCell (below_drewN (Below.refl _ _) _) geP _) geR _) geR _) ?_ (rep_digitOld HR.out hn _ _ nx k)
    simp
  ·have h3b:(m.dig == 1)=false:=by simpa using h3a
   clear h3 h2 h3a hz
   cases pos
   ·go_enter Tryz.func127,Tryz.ntmps127
    go_wp2_with (go_at_call 126; refine hc.mono ?_; rintro e w' ⟨rfl,k,rfl⟩)
    go_ret
    refine post_ret rfl HY.out (Below.setCell (Below.setCell (Below.setCell (below_drewN (Below.refl _ _) _) geP _) geR _) geR _) ?_ (rep_digitOld HR.out hn _ _ nx k)
    simp
   ·have hz2:(c == 48)=false:=by simpa using hz'
    go_enter Tryz.func127,Tryz.ntmps127
    go_wp2_with (go_at_call 126; refine hc.mono ?_; rintro e w' ⟨rfl,k,rfl⟩)
    go_ret
    refine post_ret rfl HY.out (Below.setCell (Below.setCell (Below.setCell (below_drewN (Below.refl _ _) _) geP _) geR _) geR _) ?_ (rep_digitOld HR.out hn _ _ nx k)
    simp
theorem Rep.digit (h:Rep B w r m vs vo P Q O) (ok:Ok m) (hn:0 < m.st.length) (c:Int) (pos:Bool) (h0:0<=c) (h1:c<=255) (nx:Int) :
  Calls Tryz.prog 127 #[.pointer (some ⟨r,0,none⟩),.int .u8 c,.bool pos,.int .u8 nx] w (Post B w r (digitStep m c pos nx)):=by
 by_cases hx:m.state=nx
 ·have:=ok.nums (cur m) (List.mem_of_getElem? (Rep.curs hn))
  exact h.digitOld hn ok.len c pos h0 h1 ok.digs.1 ok.digs.2 this.1 this.2 nx hx
 ·exact h.digitNew hn ok.len c pos nx h0 h1 hx
end Go.Proofs.YtffajooegiempaaGreatDoor

namespace Go.Proofs.YtffajooegiempaaGreatDoor
open Go.RowKit
variable {B:Nat} {w w':World} {r:Nat} {m:Rd} {vs vo:Value} {P Q O:Nat->Nat}
theorem variable_yes (c:Int) (w:World) (ha:97<=c) (hb:c<=100) :
  Calls Tryz.prog 123 #[.int .u8 c] w fun e w'=>e=.returned (.int .i64 (c - 97))/\w'=w :=
 (variable_any c w (by omega) (by omega)).mono fun e w' ⟨h,k⟩=>⟨by rw [h]; unfold varOf; rw [if_pos ⟨ha,hb⟩],k⟩
theorem variable_no (c:Int) (w:World) (h0:0<=c) (h1:c<=255) (hv:¬ (97<=c/\c<=100)) :
  Calls Tryz.prog 123 #[.int .u8 c] w fun e w'=>e=.returned (.int .i64 (-1))/\w'=w :=
 (variable_any c w h0 h1).mono fun e w' ⟨h,k⟩=>⟨by rw [h]; unfold varOf; rw [if_neg hv],k⟩
theorem Rep.sgc (h:Rep B w r m vs vo P Q O) (ok:Ok m) (hn:0 < m.st.length) (v:Nat) (hv:v < 4):w.cell? ⟨Q (m.st.length - 1),v,none⟩=some (.int .i64 ((cur m).sg.getD v 0)):=by
 obtain ⟨_,b⟩:=h.st _ _ (Rep.curs hn)
 have hl:=ok.sgl (cur m) (List.mem_of_getElem? (Rep.curs hn))
 rw [b.cell v]
 simp [sgCells,List.getD_eq_getElem?_getD,List.getElem?_eq_getElem (show v < (cur m).sg.length by omega)]
theorem rep_sign (h:Rep B w r m vs vo P Q O) (hn:0 < m.st.length) (v:Nat) (nx:Int) (k:Nat) :
  Rep B (((w.drewN k).setCell ⟨Q (m.st.length - 1),v,none⟩ (.int .i64 m.sign)).setCell ⟨r,0,none⟩ (.int .u8 nx)) r
   (signTo m v m.sign nx) vs vo P Q O:=by
 have e2:=(h.drewN k).setSg (m.st.length - 1) (cur m) (Rep.curs hn) v m.sign _ rfl
 exact e2.setRd 0 (.int .u8 nx) _ rfl rfl rfl
theorem rep_sign1 (h:Rep B w r m vs vo P Q O) (hn:0 < m.st.length) (v:Nat) (nx:Int) (k:Nat) :
  Rep B ((((w.drewN k).setCell ⟨r,3,none⟩ (.int .i64 1)).setCell ⟨Q (m.st.length - 1),v,none⟩ (.int .i64 1)).setCell ⟨r,0,none⟩ (.int .u8 nx)) r
   (signTo m v 1 nx) vs vo P Q O:=by
 have e1:=(h.drewN k).setRd 3 (.int .i64 1) { m with sign:=1 } rfl rfl rfl
 have e2:=e1.setSg (m.st.length - 1) (cur m) (Rep.curs hn) v 1 _ rfl
 exact e2.setRd 0 (.int .u8 nx) _ rfl rfl rfl
theorem Rep.drew (h:Rep B w r m vs vo P Q O):Rep B w.drew r m vs vo P Q O:=⟨h.rd,h.rs,h.ro,h.st,h.op,h.injP,h.injQ,h.injO,h.geR,h.geP,h.geO⟩
theorem Ok.sign1 (ok:Ok m):Ok { m with sign:=1 }:=⟨ok.states,ok.some_,ok.len,ok.oplen,ok.ofs,⟨(by decide:(-1:Int)<=1),(by decide:(1:Int)<=1)⟩,ok.digs,ok.nums,ok.sgl,ok.inNum,ok.open_⟩
theorem post_via {o o':Option Rd} {w w1 w':World} (h:o=o') (h0:Below B w w1) (hb:Below B w1 w') (hr:∀ m',o'=some m'->∃ vs vo P Q O,Rep B w' r m' vs vo P Q O):Post B w r o (.returned (.bool o'.isSome)) w':=by
 subst h; exact ⟨rfl,h0.trans hb,hr⟩
theorem Rep.valueV (h:Rep B w r m vs vo P Q O) (ok:Ok m) (hn:0 < m.st.length) (c:Int) (h0:0<=c) (h1:c<=255) (hx:m.state=118) :
  Calls Tryz.prog 93 #[.pointer (some ⟨r,0,none⟩),.int .u8 c] w (Post B w r (valueStep m c)):=by
 have hc:=h.now hn ok.len
 have hcur:=Rep.curs hn
 obtain ⟨c0,c1,c2,c3,c4,c5,c6,f7,f8,n9,n10,n11⟩:=h.stc _ _ hcur
 obtain ⟨r0,r1,r2,r3,r4,r5,rf⟩:=h.rdc
 have geR:=h.geR
 obtain ⟨geP,geQ⟩:=h.geC hn
 obtain ⟨sg0,sg1⟩:=ok.sgn
 obtain ⟨nu0,nu1⟩:=ok.nums (cur m) (List.mem_of_getElem? hcur)
 have HC:Hid (_=_):=hcur
 clear hcur
 rw [hx] at r0
 have HX:Hid (_=_):=hx
 clear hx
 have nrp:r ≠ P (m.st.length - 1):=fun e=>n9 e.symm
 have nrq:r ≠ Q (m.st.length - 1):=fun e=>n10 e.symm
 have npq:P (m.st.length - 1) ≠ Q (m.st.length - 1):=fun e=>n11 e.symm
 by_cases h42:c=42
 ·subst h42
  have HR:Hid (Rep _ _ _ _ _ _ _ _ _):=h
  have OK:Hid (Ok m):=ok
  clear h ok
  go_enter Tryz.func93,Tryz.ntmps93
  go_wp2_with (first | (go_at_call 126; refine hc.mono ?_; rintro e w' ⟨rfl,k,rfl⟩) | (go_at_call 123; refine (variable_no _ _ (by omega) (by omega) (by omega)).mono ?_; rintro e w' ⟨rfl,rfl⟩))
  go_ret
  refine post_yes (m':={ setCur m { cur m with star:=true } with state:=59 }) (by unfold valueStep; rw [if_pos HX.out,if_pos rfl]) (Below.setCell (Below.setCell (below_drewN (Below.refl _ _) _) geP _) geR _) (((HR.out.drewN k).setC hn { cur m with star:=true } 2 (.bool true) rfl rfl).setRd 0 (.int .u8 59) _ rfl rfl rfl)
 have b42:(c == 42)=false:=by simpa using h42
 by_cases h45:c=45
 ·subst h45
  clear h42 b42
  have HR:Hid (Rep _ _ _ _ _ _ _ _ _):=h
  have OK:Hid (Ok m):=ok
  clear h ok
  go_enter Tryz.func93,Tryz.ntmps93
  go_wp2_with (first | (go_at_call 126; refine hc.mono ?_; rintro e w' ⟨rfl,k,rfl⟩) | (go_at_call 123; refine (variable_no _ _ (by omega) (by omega) (by omega)).mono ?_; rintro e w' ⟨rfl,rfl⟩))
  go_ret
  refine post_yes (m':={ m with sign:=-1,state:=86 }) (by unfold valueStep; rw [if_pos HX.out,if_neg (by decide),if_pos rfl]) (Below.setCell (Below.setCell (below_drewN (Below.refl _ _) _) geR _) geR _) (((HR.out.drewN k).setRd 3 (.int .i64 (-1)) { m with sign:=-1 } rfl rfl rfl).setRd 0 (.int .u8 86) _ rfl rfl rfl)
 have b45:(c == 45)=false:=by simpa using h45
 by_cases hv:97<=c/\c<=100
 ·have HS2:Hid (valueStep m c=some (signTo m (c - 97).toNat 1 120)):=by show valueStep m c=_; unfold valueStep; rw [if_pos HX.out,if_neg h42,if_neg h45,if_pos hv]
  obtain ⟨hva,hvb⟩:=hv
  have hq:=h.sgc ok hn (c - 97).toNat (by omega)
  have i0:(0:Int)<=c - 97:=by omega
  have i1:c - 97 < 4:=by omega
  clear h42 h45
  have HR:Hid (Rep _ _ _ _ _ _ _ _ _):=h
  have OK:Hid (Ok m):=ok
  clear h ok
  go_enter Tryz.func93,Tryz.ntmps93
  go_wp2_with (first | (go_at_call 126; refine hc.mono ?_; rintro e w' ⟨rfl,k,rfl⟩) | (go_at_call 123; refine (variable_yes c _ hva hvb).mono ?_; rintro e w' ⟨rfl,rfl⟩))
  go_region
  go_wp2
  go_ret
  refine post_yes HS2.out (Below.drew (Below.setCell (Below.setCell (Below.setCell (below_drewN (Below.refl _ _) _) geR _) geQ _) geR _)) (rep_sign1 HR.out hn (c - 97).toNat 120 k).drew
 ·have HS2:Hid (valueStep m c=digitStep { m with sign:=1 } c false 110):=by show valueStep m c=_; unfold valueStep; rw [if_pos HX.out,if_neg h42,if_neg h45,if_neg hv]
  clear h42 h45
  have HR:Hid (Rep _ _ _ _ _ _ _ _ _):=h
  have OK:Hid (Ok m):=ok
  clear h ok
  go_enter Tryz.func93,Tryz.ntmps93
  go_wp2_with (first | (go_at_call 126; refine hc.mono ?_; rintro e w' ⟨rfl,k,rfl⟩) | (go_at_call 123; refine (variable_no _ _ (by omega) (by omega) (by omega)).mono ?_; rintro e w' ⟨rfl,rfl⟩))
  refine ((((HR.out.drewN k).setRd 3 (.int .i64 1) { m with sign:=1 } rfl rfl rfl)).digit ?_ hn c false h0 h1 110).mono ?_
  ·exact OK.out.sign1
  rintro e w' ⟨rfl,hb,hr⟩
  go_wp2
  go_ret
  exact post_via HS2.out ((Below.setCell (below_drewN (Below.refl _ _) _) geR _)) hb hr
end Go.Proofs.YtffajooegiempaaGreatDoor

namespace Go.Proofs.YtffajooegiempaaGreatDoor
open Go.RowKit
variable {B:Nat} {w w':World} {r:Nat} {m:Rd} {vs vo:Value} {P Q O:Nat->Nat}
theorem Rep.valueVV (h:Rep B w r m vs vo P Q O) (ok:Ok m) (hn:0 < m.st.length) (c:Int) (h0:0<=c) (h1:c<=255) (hx:m.state=86) :
  Calls Tryz.prog 93 #[.pointer (some ⟨r,0,none⟩),.int .u8 c] w (Post B w r (valueStep m c)):=by
 have hc:=h.now hn ok.len
 have hcur:=Rep.curs hn
 obtain ⟨c0,c1,c2,c3,c4,c5,c6,f7,f8,n9,n10,n11⟩:=h.stc _ _ hcur
 obtain ⟨r0,r1,r2,r3,r4,r5,rf⟩:=h.rdc
 have geR:=h.geR
 obtain ⟨geP,geQ⟩:=h.geC hn
 obtain ⟨sg0,sg1⟩:=ok.sgn
 obtain ⟨nu0,nu1⟩:=ok.nums (cur m) (List.mem_of_getElem? hcur)
 have HC:Hid (_=_):=hcur
 clear hcur
 rw [hx] at r0
 have HX:Hid (_=_):=hx
 clear hx
 have nrp:r ≠ P (m.st.length - 1):=fun e=>n9 e.symm
 have nrq:r ≠ Q (m.st.length - 1):=fun e=>n10 e.symm
 have npq:P (m.st.length - 1) ≠ Q (m.st.length - 1):=fun e=>n11 e.symm
 by_cases hv:97<=c/\c<=100
 ·have HS2:Hid (valueStep m c=some (signTo m (c - 97).toNat m.sign 120)):=by show valueStep m c=_; unfold valueStep; rw [HX.out,if_neg (by decide),if_pos rfl,if_pos hv]
  obtain ⟨hva,hvb⟩:=hv
  have hq:=h.sgc ok hn (c - 97).toNat (by omega)
  have i0:(0:Int)<=c - 97:=by omega
  have i1:c - 97 < 4:=by omega
  have HR:Hid (Rep _ _ _ _ _ _ _ _ _):=h
  have OK:Hid (Ok m):=ok
  clear h ok
  go_enter Tryz.func93,Tryz.ntmps93
  go_wp2_with (first | (go_at_call 126; refine hc.mono ?_; rintro e w' ⟨rfl,k,rfl⟩) | (go_at_call 123; refine (variable_yes c _ hva hvb).mono ?_; rintro e w' ⟨rfl,rfl⟩))
  go_region
  go_wp2
  go_ret
  exact post_yes HS2.out (Below.setCell (Below.setCell (below_drewN (Below.refl _ _) _) geQ _) geR _) (rep_sign HR.out hn (c - 97).toNat 120 (k+1))
 ·have HS2:Hid (valueStep m c=digitStep m c true 110):=by show valueStep m c=_; unfold valueStep; rw [HX.out,if_neg (by decide),if_pos rfl,if_neg hv]
  have HR:Hid (Rep _ _ _ _ _ _ _ _ _):=h
  have OK:Hid (Ok m):=ok
  clear h ok
  go_enter Tryz.func93,Tryz.ntmps93
  go_wp2_with (first | (go_at_call 126; refine hc.mono ?_; rintro e w' ⟨rfl,k,rfl⟩) | (go_at_call 123; refine (variable_no _ _ (by omega) (by omega) (by omega)).mono ?_; rintro e w' ⟨rfl,rfl⟩))
  refine ((HR.out.drewN k).digit OK.out hn c true h0 h1 110).mono ?_
  rintro e w' ⟨rfl,hb,hr⟩
  go_wp2
  go_ret
  exact post_via HS2.out ((below_drewN (Below.refl _ _) _)) hb hr
theorem Rep.valueX (h:Rep B w r m vs vo P Q O) (ok:Ok m) (hn:0 < m.st.length) (c:Int) (h0:0<=c) (h1:c<=255) (hx:m.state=120) :
  Calls Tryz.prog 93 #[.pointer (some ⟨r,0,none⟩),.int .u8 c] w (Post B w r (valueStep m c)):=by
 have hc:=h.now hn ok.len
 have hcur:=Rep.curs hn
 obtain ⟨c0,c1,c2,c3,c4,c5,c6,f7,f8,n9,n10,n11⟩:=h.stc _ _ hcur
 obtain ⟨r0,r1,r2,r3,r4,r5,rf⟩:=h.rdc
 have geR:=h.geR
 obtain ⟨geP,geQ⟩:=h.geC hn
 obtain ⟨sg0,sg1⟩:=ok.sgn
 obtain ⟨nu0,nu1⟩:=ok.nums (cur m) (List.mem_of_getElem? hcur)
 have HC:Hid (_=_):=hcur
 clear hcur
 rw [hx] at r0
 have HX:Hid (_=_):=hx
 clear hx
 have nrp:r ≠ P (m.st.length - 1):=fun e=>n9 e.symm
 have nrq:r ≠ Q (m.st.length - 1):=fun e=>n10 e.symm
 have npq:P (m.st.length - 1) ≠ Q (m.st.length - 1):=fun e=>n11 e.symm
 have hmw:=mul_wrap _ _ sg0 sg1 nu0 nu1
 by_cases h43:c=43
 ·subst h43
  have HS2:Hid (valueStep m 43=some { m with sign:=1,state:=121 }):=by show valueStep m 43=_; unfold valueStep; rw [HX.out,if_neg (by decide),if_neg (by decide),if_pos rfl,if_pos rfl]
  have HR:Hid (Rep _ _ _ _ _ _ _ _ _):=h
  have OK:Hid (Ok m):=ok
  clear h ok
  go_enter Tryz.func93,Tryz.ntmps93
  go_wp2_with (first | (go_at_call 126; refine hc.mono ?_; rintro e w' ⟨rfl,k,rfl⟩) | (go_at_call 123; refine (variable_no _ _ (by omega) (by omega) (by omega)).mono ?_; rintro e w' ⟨rfl,rfl⟩))
  go_ret
  exact post_yes HS2.out (Below.setCell (Below.setCell (below_drewN (Below.refl _ _) _) geR _) geR _) (((HR.out.drewN k).setRd 3 (.int .i64 1) { m with sign:=1 } rfl rfl rfl).setRd 0 (.int .u8 121) _ rfl rfl rfl)
 have b43:(c == 43)=false:=by simpa using h43
 by_cases h45:c=45
 ·subst h45
  have HS2:Hid (valueStep m 45=some { m with sign:=-1,state:=121 }):=by show valueStep m 45=_; unfold valueStep; rw [HX.out,if_neg (by decide),if_neg (by decide),if_pos rfl,if_neg (by decide),if_pos rfl]
  clear h43 b43
  have HR:Hid (Rep _ _ _ _ _ _ _ _ _):=h
  have OK:Hid (Ok m):=ok
  clear h ok
  go_enter Tryz.func93,Tryz.ntmps93
  go_wp2_with (first | (go_at_call 126; refine hc.mono ?_; rintro e w' ⟨rfl,k,rfl⟩) | (go_at_call 123; refine (variable_no _ _ (by omega) (by omega) (by omega)).mono ?_; rintro e w' ⟨rfl,rfl⟩))
  go_ret
  exact post_yes HS2.out (Below.setCell (Below.setCell (Below.setCell (below_drewN (Below.refl _ _) _) geR _) geR _) geR _) ((((HR.out.drewN k).setRd 3 (.int .i64 1) { m with sign:=1 } rfl rfl rfl).setRd 3 (.int .i64 (-1)) { m with sign:=-1 } rfl rfl rfl).setRd 0 (.int .u8 121) _ rfl rfl rfl)
 have b45:(c == 45)=false:=by simpa using h45
 by_cases h59:c=59
 ·subst h59
  have HS2:Hid (valueStep m 59=some (valueEnd m)):=by show valueStep m 59=_; unfold valueStep; rw [HX.out,if_neg (by decide),if_neg (by decide),if_pos rfl,if_neg (by decide),if_neg (by decide),if_pos rfl]
  clear h43 b43 h45 b45
  have HR:Hid (Rep _ _ _ _ _ _ _ _ _):=h
  have OK:Hid (Ok m):=ok
  clear h ok
  go_enter Tryz.func93,Tryz.ntmps93
  go_wp2_with (first | (go_at_call 126; refine hc.mono ?_; rintro e w' ⟨rfl,k,rfl⟩) | (go_at_call 123; refine (variable_no _ _ (by omega) (by omega) (by omega)).mono ?_; rintro e w' ⟨rfl,rfl⟩))
  go_region
  go_wp2
  go_ret
  exact post_yes HS2.out (Below.setCell (Below.setCell (below_drewN (Below.refl _ _) _) geP _) geR _) (((HR.out.drewN (k+1)).setC hn { cur m with num:=m.sign*(cur m).num } 4 (.int .i64 (m.sign*(cur m).num)) rfl rfl).setRd 0 (.int .u8 115) (valueEnd m) rfl rfl rfl)
 have b59:(c == 59)=false:=by simpa using h59
 have HS2:Hid (valueStep m c=none):=by show valueStep m c=_; unfold valueStep; rw [HX.out,if_neg (by decide),if_neg (by decide),if_pos rfl,if_neg h43,if_neg h45,if_neg h59]
 clear h43 h45 h59
 have HR:Hid (Rep _ _ _ _ _ _ _ _ _):=h
 have OK:Hid (Ok m):=ok
 clear h ok
 by_cases hv:97<=c/\c<=100
 ·obtain ⟨hva,hvb⟩:=hv
  go_enter Tryz.func93,Tryz.ntmps93
  go_wp2_with (first | (go_at_call 126; refine hc.mono ?_; rintro e w' ⟨rfl,k,rfl⟩) | (go_at_call 123; refine (variable_yes c _ hva hvb).mono ?_; rintro e w' ⟨rfl,rfl⟩))
  go_ret
  exact post_no HS2.out (below_drewN (Below.refl _ _) _)
 ·go_enter Tryz.func93,Tryz.ntmps93
  go_wp2_with (first | (go_at_call 126; refine hc.mono ?_; rintro e w' ⟨rfl,k,rfl⟩) | (go_at_call 123; refine (variable_no _ _ (by omega) (by omega) (by omega)).mono ?_; rintro e w' ⟨rfl,rfl⟩))
  go_ret
  exact post_no HS2.out (below_drewN (Below.refl _ _) _)
end Go.Proofs.YtffajooegiempaaGreatDoor

