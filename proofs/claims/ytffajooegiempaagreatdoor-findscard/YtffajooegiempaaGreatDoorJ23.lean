import Derived.Test.YtffajooegiempaaGreatDoorJ22
set_option maxRecDepth 100000
set_option maxHeartbeats 6400000
namespace Go.Proofs.YtffajooegiempaaGreatDoor
variable {m m':Rd}
def Fq (s:St):Prop:=(s.kind=61->nz s.sg<=1)/\(s.kind ≠ 61->s.star=true \/ 1<=nz s.sg)
def Gq (x:Int) (s:St):Prop :=
 if x=61 \/ x=118 \/ x=86 then s.kind=61/\nz s.sg=0
 else if x=120 \/ x=121 \/ x=110 then s.kind=61/\nz s.sg<=1
 else if x=99 \/ x=67 then s.kind ≠ 61
 else if x=100 \/ x=101 \/ x=102 \/ x=60 \/ x=98 \/ x=66 \/ x=109 then s.kind ≠ 61/\1<=nz s.sg
 else Fq s
structure Kn (m:Rd):Prop where
 all:∀ i,i+1 < m.st.length->Fq (m.st.getD i noSt)
 now:0 < m.st.length->Gq m.state (cur m)
 sgn:m.state=67->m.sign=-1
theorem gq0 {x:Int} {s:St} (h:x=61 \/ x=118 \/ x=86):Gq x s ↔ s.kind=61/\nz s.sg=0:=by unfold Gq; rw [if_pos h]
theorem gq1 {x:Int} {s:St} (h:x=120 \/ x=121 \/ x=110):Gq x s ↔ s.kind=61/\nz s.sg<=1:=by unfold Gq; rw [if_neg (by omega),if_pos h]
theorem gq2 {x:Int} {s:St} (h:x=99 \/ x=67):Gq x s ↔ s.kind ≠ 61:=by unfold Gq; rw [if_neg (by omega),if_neg (by omega),if_pos h]
theorem gq3 {x:Int} {s:St} (h:x=100 \/ x=101 \/ x=102 \/ x=60 \/ x=98 \/ x=66 \/ x=109):Gq x s ↔ s.kind ≠ 61/\1<=nz s.sg:=by unfold Gq; rw [if_neg (by omega),if_neg (by omega),if_neg (by omega),if_pos h]
theorem gq4 {x:Int} {s:St} (h:x=115 \/ x=59 \/ x=123 \/ x=125):Gq x s ↔ Fq s:=by unfold Gq; rw [if_neg (by omega),if_neg (by omega),if_neg (by omega),if_neg (by omega)]
theorem gq_beh (m:Rd) (s:St):Gq (behindOf m) s ↔ Fq s:=gq4 (by unfold behindOf; split <;> omega)
theorem beh_ne (m:Rd):behindOf m ≠ 67:=by unfold behindOf; split <;> omega
theorem getD_setCur (m:Rd) (s:St) (i:Nat) (h:i+1 < m.st.length):(m.st.set (m.st.length - 1) s).getD i noSt=m.st.getD i noSt:=by
 simp [List.getD,show ¬ m.st.length - 1=i by omega]
theorem Kn.setC (h:Kn m) {s:St} (hp:0 < m.st.length) (e:m'.st=m.st.set (m.st.length - 1) s) (hs:Gq m'.state s) (hn:m'.state=67->m'.sign=-1):Kn m':=by
 have hl:m'.st.length=m.st.length:=by rw [e]; simp
 refine ⟨fun i hi=>?_,fun _=>?_,hn⟩
 ·rw [e,getD_setCur m s i (by omega)]
  exact h.all i (by omega)
 ·have:Go.Proofs.YtffajooegiempaaGreatDoor.cur m'=s:=by
   unfold Go.Proofs.YtffajooegiempaaGreatDoor.cur
   rw [hl,e]
   simp [List.getD,show m.st.length - 1 < m.st.length by omega]
  rw [this]
  exact hs
theorem Kn.of (h:Kn m) (e:m'.st=m.st) (hg:Gq m.state (Go.Proofs.YtffajooegiempaaGreatDoor.cur m)->Gq m'.state (Go.Proofs.YtffajooegiempaaGreatDoor.cur m)) (hn:m'.state=67->m'.sign=-1):Kn m':=by
 have hc:Go.Proofs.YtffajooegiempaaGreatDoor.cur m'=Go.Proofs.YtffajooegiempaaGreatDoor.cur m:=by unfold Go.Proofs.YtffajooegiempaaGreatDoor.cur; rw [e]
 exact ⟨fun i hi=>by rw [e] at hi |-; exact h.all i hi,fun hp=>by rw [hc]; exact hg (h.now (by rw [<- e]; exact hp)),hn⟩
theorem Kn.begin_ (h:Kn m) (h115:m.state=115) {k v x:Int} (e:beginStep m k v x=some m') (hx:x=61 \/ x=99) (hk:Gq x ⟨k,v,false,[0,0,0,0],0,0,m.st.length+1⟩):Kn m':=by
 unfold beginStep at e
 split at e
 ·cases e
 ·cases e
  refine ⟨fun i hi=>?_,fun _=>?_,fun q=>?_⟩
  ·have hi':i < m.st.length:=by simpa using hi
   show Fq ((m.st ++ [_]).getD i noSt)
   have e1:(m.st ++ [(⟨k,v,false,[0,0,0,0],0,0,m.st.length+1⟩:St)]).getD i noSt=m.st.getD i noSt:=by simp [List.getD,List.getElem?_append_left hi']
   rw [e1]
   rcases Nat.lt_or_eq_of_le (Nat.succ_le_of_lt hi') with q | q
   ·exact h.all i q
   ·have:=h.now (by omega)
    rw [gq4 (.inl h115)] at this
    unfold Go.Proofs.YtffajooegiempaaGreatDoor.cur at this
    rw [show m.st.length - 1=i by omega] at this
    exact this
  ·show Gq x ((m.st ++ [_]).getD ((m.st ++ [_]).length - 1) noSt)
   simpa [List.getD] using hk
  ·have q':x=67:=q
   omega
theorem Kn.shut (h:Kn m) (h115:m.state=115) (e:shutStep m=some m'):Kn m':=by
 have hall:∀ i,i < m.st.length->Fq (m.st.getD i noSt):=by
  intro i hi
  rcases Nat.lt_or_eq_of_le (Nat.succ_le_of_lt hi) with q | q
  ·exact h.all i q
  ·have:=h.now (by omega)
   rw [gq4 (.inl h115)] at this
   unfold Go.Proofs.YtffajooegiempaaGreatDoor.cur at this
   rw [show m.st.length - 1=i by omega] at this
   exact this
 have key:∀ (s:St),(s.kind=(m.st.getD (top m).of_ noSt).kind/\s.sg=(m.st.getD (top m).of_ noSt).sg/\s.star=(m.st.getD (top m).of_ noSt).star)->∀ i,i < m.st.length->Fq ((m.st.set (top m).of_ s).getD i noSt):=by
  intro s hs i hi
  by_cases q:(top m).of_=i
  ·have e1:(m.st.set (top m).of_ s).getD i noSt=s:=by simp [List.getD,q,hi]
   rw [e1]
   have:=hall i hi
   rw [<- q] at this
   unfold Fq at *
   rw [hs.1,hs.2.1,hs.2.2]
   exact this
  ·have e1:(m.st.set (top m).of_ s).getD i noSt=m.st.getD i noSt:=by simp [List.getD,q]
   rw [e1]; exact hall i hi
 have fin:∀ (m2:Rd) (s:St),(s.kind=(m.st.getD (top m).of_ noSt).kind/\s.sg=(m.st.getD (top m).of_ noSt).sg/\s.star=(m.st.getD (top m).of_ noSt).star)->m2.st=m.st.set (top m).of_ s->(m2.state=115 \/ m2.state=125)->Kn m2:=by
  intro m2 s hs e2 hst
  have hl:m2.st.length=m.st.length:=by rw [e2]; simp
  refine ⟨fun i hi=>by rw [e2]; exact key s hs i (by omega),fun hp=>?_,fun q=>by omega⟩
  rw [gq4 (by omega)]
  unfold Go.Proofs.YtffajooegiempaaGreatDoor.cur
  rw [hl,e2]
  exact key s hs _ (by omega)
 simp only [shutStep] at e
 split at e
 ·cases e; exact fin _ { m.st.getD (top m).of_ noSt with fin:=m.st.length,mid:=m.st.length } ⟨rfl,rfl,rfl⟩ rfl (.inr rfl)
 ·cases e; exact fin _ { m.st.getD (top m).of_ noSt with fin:=m.st.length } ⟨rfl,rfl,rfl⟩ rfl (.inl h115)
theorem Kn.digit (h:Kn m) (hp:0 < m.st.length) {c x:Int} {pos:Bool} (e:digitStep m c pos x=some m') (hx:x=110 \/ x=109) (hg:∀ s:St,s.kind=(cur m).kind->s.sg=(cur m).sg->Gq x s):Kn m':=by
 obtain ⟨d,u,_,_,rfl⟩:=digit_inv e
 refine h.setC (s:={ Go.Proofs.YtffajooegiempaaGreatDoor.cur m with num:=10*u+(c - 48) }) hp rfl (hg _ rfl rfl) (fun q=>?_)
 have q':x=67:=q
 omega
theorem nz_set1:∀ (l:List Int) (v:Nat) (x:Int),x ≠ 0->v < l.length->1<=nz (l.set v x):=by
 intro l
 induction l with
 | nil=>intro v x _ h; simp at h
 | cons a l ih =>
  intro v x hx h
  cases v with
  | zero=>rw [List.set_cons_zero,nz_cons,if_neg hx]; omega
  | succ v =>
   rw [List.set_cons_succ,nz_cons]
   have:=ih v x hx (by simpa using h)
   omega
theorem nz_set0:∀ (l:List Int) (v:Nat) (x:Int),l.getD v 0=0->nz l<=nz (l.set v x):=by
 intro l
 induction l with
 | nil=>intro v x _; simp
 | cons a l ih =>
  intro v x h
  cases v with
  | zero =>
   have h':a=0:=h
   rw [List.set_cons_zero,nz_cons,nz_cons,if_pos h']; omega
  | succ v =>
   rw [List.set_cons_succ,nz_cons,nz_cons]
   have:=ih v x h
   omega
theorem Kn.signTo (h:Kn m) (hp:0 < m.st.length) (v:Nat) (y x:Int) (hx:x ≠ 67) (hg:Gq x { cur m with sg:=(cur m).sg.set v y }):Kn (signTo m v y x) :=
 h.setC (s:={ Go.Proofs.YtffajooegiempaaGreatDoor.cur m with sg:=(Go.Proofs.YtffajooegiempaaGreatDoor.cur m).sg.set v y }) hp rfl hg (fun q=>absurd q hx)
theorem Kn.plain (h:Kn m) {c:Int} (hs:m.state=59 \/ m.state=123) (e:plainStep m c=some m'):Kn m':=by
 have ho:Gq m.state (cur m)->Gq 115 (cur m):=fun q=>by rw [gq4 (.inl rfl)]; rw [gq4 (by omega)] at q; exact q
 unfold plainStep at e
 split at e
 ·split at e
  ·cases e; exact h.of rfl ho (fun q=>by cases q)
  ·cases e
 ·split at e
  ·cases e
  ·cases e; exact h.of rfl ho (fun q=>by cases q)
theorem Kn.value (h:Kn m) (ok:Ok m) {c:Int} (hv:m.state=118 \/ m.state=86 \/ m.state=120 \/ m.state=121 \/ m.state=110) (e:valueStep m c=some m'):Kn m':=by
 have hp:0 < m.st.length:=ok.some_ (by omega)
 have hc:=h.now hp
 have hset:∀ v y,nz ((cur m).sg.set v y)<=nz (cur m).sg+1:=fun v y=>nz_set _ v y
 have ve:(Gq m.state (cur m)->(cur m).kind=61/\nz (cur m).sg<=1)->Kn (valueEnd m):=fun q =>
  h.setC (s:={ Go.Proofs.YtffajooegiempaaGreatDoor.cur m with num:=m.sign*(Go.Proofs.YtffajooegiempaaGreatDoor.cur m).num }) hp rfl (by
   show Gq 115 _
   rw [gq4 (.inl rfl)]
   exact ⟨fun _=>(q hc).2,fun z=>absurd (q hc).1 z⟩) (fun z=>by cases z)
 have dg:∀ {m1:Rd} {p:Bool},m1.st=m.st->Kn m1->((cur m).kind=61/\nz (cur m).sg<=1)->digitStep m1 c p 110=some m'->Kn m':=by
  intro m1 p e1 k1 q e2
  have hcm:Go.Proofs.YtffajooegiempaaGreatDoor.cur m1=Go.Proofs.YtffajooegiempaaGreatDoor.cur m:=by unfold Go.Proofs.YtffajooegiempaaGreatDoor.cur; rw [e1]
  refine k1.digit (by rw [e1]; exact hp) e2 (.inl rfl) (fun s h1 h2=>?_)
  rw [gq1 (by omega),h1,h2,hcm]
  exact q
 unfold valueStep at e
 by_cases x1:m.state=118
 ·rw [if_pos x1] at e
  rw [x1,gq0 (by omega)] at hc
  split at e
  ·cases e
   exact h.setC (s:={ Go.Proofs.YtffajooegiempaaGreatDoor.cur m with star:=true }) hp rfl (by show Gq 59 _; rw [gq4 (by omega)]; exact ⟨fun _=>by show nz (cur m).sg<=1; omega,fun _=>.inl rfl⟩) (fun z=>by cases z)
  split at e
  ·cases e; exact h.of rfl (fun _=>by show Gq 86 _; rw [gq0 (by omega)]; exact hc) (fun z=>by cases z)
  split at e
  ·cases e; exact h.signTo hp _ 1 120 (by omega) (by rw [gq1 (by omega)]; exact ⟨hc.1,by have:=hset (c - 97).toNat 1; show nz ((cur m).sg.set _ _)<=1; omega⟩)
  ·exact dg (m1:={ m with sign:=1 }) rfl (h.of rfl id (fun q=>by have q':m.state=67:=q; omega)) ⟨hc.1,by omega⟩ e
 rw [if_neg x1] at e
 by_cases x2:m.state=86
 ·rw [if_pos x2] at e
  rw [x2,gq0 (by omega)] at hc
  split at e
  ·cases e; exact h.signTo hp _ m.sign 120 (by omega) (by rw [gq1 (by omega)]; exact ⟨hc.1,by have:=hset (c - 97).toNat m.sign; show nz ((cur m).sg.set _ _)<=1; omega⟩)
  ·exact dg rfl h ⟨hc.1,by omega⟩ e
 rw [if_neg x2] at e
 have hc1:(cur m).kind=61/\nz (cur m).sg<=1:=by rw [gq1 (by omega)] at hc; exact hc
 by_cases x3:m.state=120
 ·rw [if_pos x3] at e
  split at e
  ·cases e; exact h.of rfl (fun _=>by show Gq 121 _; rw [gq1 (by omega)]; exact hc1) (fun z=>by cases z)
  split at e
  ·cases e; exact h.of rfl (fun _=>by show Gq 121 _; rw [gq1 (by omega)]; exact hc1) (fun z=>by cases z)
  split at e
  ·cases e; exact ve (fun _=>hc1)
  ·cases e
 rw [if_neg x3] at e
 by_cases x4:m.state=121
 ·rw [if_pos x4] at e
  exact dg rfl h hc1 e
 rw [if_neg x4] at e
 split at e
 ·cases e; exact ve (fun _=>hc1)
 ·exact dg rfl h hc1 e
theorem Kn.cond (h:Kn m) (ok:Ok m) {c:Int} (hs:m.state=99 \/ m.state=67 \/ m.state=100 \/ m.state=101 \/ m.state=102 \/ m.state=60 \/ m.state=98 \/ m.state=66 \/ m.state=109 \/ m.state=125) (e:condStep m c=some m'):Kn m':=by
 have hp:0 < m.st.length:=ok.some_ (by omega)
 have hc:=h.now hp
 have hl4:(cur m).sg.length=4:=ok.sgl _ (by
  unfold cur
  rw [List.getD_eq_getElem?_getD,List.getElem?_eq_getElem (show m.st.length - 1 < m.st.length by omega)]
  exact List.getElem_mem _)
 have dg:∀ {p:Bool},((cur m).kind ≠ 61/\1<=nz (cur m).sg)->digitStep m c p 109=some m'->Kn m':=by
  intro p q e2
  refine h.digit hp e2 (.inr rfl) (fun s h1 h2=>?_)
  rw [gq3 (by omega),h1,h2]
  exact q
 unfold condStep at e
 by_cases x1:m.state=99
 ·rw [if_pos x1] at e
  rw [x1,gq2 (by omega)] at hc
  split at e
  ·cases e
   exact h.setC (s:={ Go.Proofs.YtffajooegiempaaGreatDoor.cur m with star:=true }) hp rfl (by show Gq (behindOf m) _; rw [gq_beh]; exact ⟨fun z=>absurd z hc,fun _=>.inl rfl⟩) (fun z=>absurd z (beh_ne m))
  split at e
  ·cases e; exact h.of rfl (fun _=>by show Gq 67 _; rw [gq2 (by omega)]; exact hc) (fun _=>rfl)
  split at e
  ·rename_i hr
   cases e; exact h.signTo hp _ 1 100 (by omega) (by rw [gq3 (by omega)]; exact ⟨hc,nz_set1 _ _ 1 (by omega) (by omega)⟩)
  ·cases e
 rw [if_neg x1] at e
 by_cases x2:m.state=67
 ·rw [if_pos x2] at e
  rw [x2,gq2 (by omega)] at hc
  split at e
  ·rename_i hr
   cases e; exact h.signTo hp _ m.sign 100 (by omega) (by rw [gq3 (by omega)]; exact ⟨hc,nz_set1 _ _ m.sign (by rw [h.sgn x2]; omega) (by omega)⟩)
  ·cases e
 rw [if_neg x2] at e
 by_cases x3:m.state=100
 ·rw [if_pos x3] at e
  rw [x3,gq3 (by omega)] at hc
  split at e
  ·cases e; exact h.of rfl (fun _=>by show Gq 101 _; rw [gq3 (by omega)]; exact hc) (fun z=>by cases z)
  split at e
  ·cases e; exact h.of rfl (fun _=>by show Gq 101 _; rw [gq3 (by omega)]; exact hc) (fun z=>by cases z)
  split at e
  ·cases e; exact h.of rfl (fun _=>by show Gq 60 _; rw [gq3 (by omega)]; exact hc) (fun z=>by cases z)
  ·cases e
 rw [if_neg x3] at e
 by_cases x4:m.state=101
 ·rw [if_pos x4] at e
  rw [x4,gq3 (by omega)] at hc
  split at e
  ·split at e
   ·rename_i hz
    cases e; exact h.signTo hp _ m.sign 102 (by omega) (by rw [gq3 (by omega)]; exact ⟨hc.1,Nat.le_trans hc.2 (nz_set0 _ _ _ hz)⟩)
   ·cases e
  ·cases e
 rw [if_neg x4] at e
 by_cases x5:m.state=102
 ·rw [if_pos x5] at e
  rw [x5,gq3 (by omega)] at hc
  split at e
  ·cases e; exact h.of rfl (fun _=>by show Gq 60 _; rw [gq3 (by omega)]; exact hc) (fun z=>by cases z)
  ·cases e
 rw [if_neg x5] at e
 by_cases x6:m.state=60
 ·rw [if_pos x6] at e
  rw [x6,gq3 (by omega)] at hc
  split at e
  ·cases e; exact h.of rfl (fun _=>by show Gq 98 _; rw [gq3 (by omega)]; exact hc) (fun z=>by cases z)
  ·cases e
 rw [if_neg x6] at e
 by_cases x7:m.state=98
 ·rw [if_pos x7] at e
  rw [x7,gq3 (by omega)] at hc
  split at e
  ·cases e; exact h.of rfl (fun _=>by show Gq 66 _; rw [gq3 (by omega)]; exact hc) (fun z=>by cases z)
  ·exact dg hc e
 rw [if_neg x7] at e
 by_cases x8:m.state=66
 ·rw [if_pos x8] at e
  rw [x8,gq3 (by omega)] at hc
  exact dg hc e
 rw [if_neg x8] at e
 by_cases x9:m.state=109
 ·rw [if_pos x9] at e
  rw [x9,gq3 (by omega)] at hc
  split at e
  ·refine Kn.plain (m:={ setCur m { Go.Proofs.YtffajooegiempaaGreatDoor.cur m with num:=if m.neg then -(Go.Proofs.YtffajooegiempaaGreatDoor.cur m).num else (Go.Proofs.YtffajooegiempaaGreatDoor.cur m).num } with state:=behindOf m }) ?_ (by show behindOf m=59 \/ behindOf m=123; unfold behindOf; split <;> omega) e
   exact h.setC (s:={ Go.Proofs.YtffajooegiempaaGreatDoor.cur m with num:=if m.neg then -(Go.Proofs.YtffajooegiempaaGreatDoor.cur m).num else (Go.Proofs.YtffajooegiempaaGreatDoor.cur m).num }) hp rfl (by show Gq (behindOf m) _; rw [gq_beh]; exact ⟨fun z=>absurd z hc.1,fun _=>.inr hc.2⟩) (fun z=>absurd z (beh_ne m))
  ·exact dg hc e
 rw [if_neg x9] at e
 split at e
 ·cases e; exact h.of rfl (fun q=>by show Gq 115 _; rw [gq4 (by omega)]; rw [gq4 (by omega)] at q; exact q) (fun z=>by cases z)
 ·cases e
theorem Kn.byte (h:Kn m) (ok:Ok m) {c:Int} (e:byteStep m c=some m'):Kn m':=by
 have hst:=ok.states
 unfold byteStep at e
 split at e
 ·rename_i hs
  unfold startStep at e
  split at e
  ·exact h.begin_ hs e (.inl rfl) (by rw [gq0 (by omega)]; exact ⟨rfl,rfl⟩)
  split at e
  ·rename_i hc
   split at e
   ·exact h.begin_ hs e (.inr rfl) (by rw [gq2 (by omega)]; show c ≠ 61; omega)
   ·cases e
  split at e
  ·rename_i hc
   exact h.begin_ hs e (.inr rfl) (by rw [gq2 (by omega)]; show c ≠ 61; omega)
  split at e
  ·exact h.shut hs e
  ·cases e
 split at e
 ·rename_i h1 h2
  split at e
  ·cases e; exact h.of rfl (fun q=>by show Gq 118 _; rw [gq0 (by omega)]; rw [h2,gq0 (by omega)] at q; exact q) (fun z=>by cases z)
  ·cases e
 split at e
 ·rename_i hv; exact h.value ok hv e
 split at e
 ·rename_i hv; exact h.plain hv e
 ·exact h.cond ok (by omega) e
theorem kn_from {l:List Int}:∀ {m:Rd} {n k:Nat},Kn m->Ok m->readFrom m l n=(k,some m')->Kn m':=by
 induction l with
 | nil=>intro m n k h ok e; simp [readFrom] at e; rw [<- e.2]; exact h
 | cons c l ih =>
  intro m n k h ok e
  simp only [readFrom] at e
  split at e
  ·cases e
  ·rename_i m1 e1
   exact ih (h.byte ok e1) (ok.byte e1) e
end Go.Proofs.YtffajooegiempaaGreatDoor

namespace Go.Proofs.YtffajooegiempaaGreatDoor
open Go.RowKit
variable {w:World}
def z4 (l:List Int):Bool:=decide (gAt l 0=0/\gAt l 1=0/\gAt l 2=0/\gAt l 3=0)
def grE (C:Nat->Int) (l:List Int):Int :=
 if 0<=numV l then bd C (numV l).toNat else if z4 l=true then 0 else if bd C (numV (halfV l)).toNat=NB then NB else 2*bd C (numV (halfV l)).toNat
def clsB (l:List Int):Bool:=(decide (0<=numV l) && decide (numV l < 32)) || (decide (numV l=-1) && z4 l) || (decide (numV l=-1) && !z4 l && decide (0<=numV (halfV l)) && decide (numV (halfV l) < 32))
def zpre (l:List Int):Nat->Bool
 | 0=>true
 | j+1=>zpre l j && decide (gAt l j=0)
theorem zpre_4 (l:List Int):zpre l 4=z4 l:=by
 unfold z4
 show ((((true && decide (gAt l 0=0)) && decide (gAt l 1=0)) && decide (gAt l 2=0)) && decide (gAt l 3=0))=_
 by_cases a:gAt l 0=0 <;> by_cases b:gAt l 1=0 <;> by_cases c:gAt l 2=0 <;> by_cases d:gAt l 3=0 <;> simp [a,b,c,d]
theorem r_greatest2 (C:Nat->Int) (u v:Value) (l:List Int) (hl:l.length=4) (hv:∀ i,i < 4->-2<=gAt l i/\gAt l i<=2) (hc:clsB l=true) (hS:Sm C) (hu:Reads w u (bdL C)) (hr:Reads w v l) :
  Calls Tryz.prog 97 #[u,v] w fun e w'=>e=.returned (.int .i64 (grE C l))/\Below w.heap.size w w':=by
 have hmk:∀ w,(Instr.makeSlice 32 (.int .i64 4) (.int .i64 4)).run Tryz.prog w=.ok (.slice (some ⟨w.heap.size,0,none⟩) 4 4) (w.alloc (.cells #[.int .i64 0,.int .i64 0,.int .i64 0,.int .i64 0] tNk)):=fun _=>by kernel_rfl
 have hn:=r_number v l hl hr (fun i hi=>by have:=hv i hi; omega)
 have hbl:(bdL C).length=32:=by simp [bdL]
 have HN2:Hid (∀ w1 b,At w1 b (ic (preH l 4)) tNk->Calls Tryz.prog 98 #[.slice (some ⟨b,0,none⟩) 4 4] w1 fun e w'=>e=.returned (.int .i64 (numV (halfV l)))/\Below w1.heap.size w1 w'):=by
  intro w1 b h1
  rw [preH_4 hl] at h1
  have hh:(halfV l).length=4:=by unfold halfV; rw [List.length_map]; exact hl
  refine r_number _ (halfV l) hh (Reads.at_ h1 hh (Nat.le_refl _) (fun i hi=>ic_get _ _ (by omega))) (fun i hi=>?_)
  have:gAt (halfV l) i=(gAt l i).tdiv 2:=by
   obtain ⟨a,b,c,d,rfl⟩:=four_of hl
   rcases (show i=0 \/ i=1 \/ i=2 \/ i=3 by omega) with rfl | rfl | rfl | rfl <;> rfl
  rw [this]
  have:=tdiv2_le (gAt l i)
  have:=hv i hi
  omega
 have HG:Hid (grE C l=if 0<=numV l then bd C (numV l).toNat else if z4 l=true then 0 else if bd C (numV (halfV l)).toNat=NB then NB else 2*bd C (numV (halfV l)).toNat):=rfl
 have hbr:=fun {f:Nat} (hf:f < 32)=>bd_rng hS hf
 obtain ⟨bu,cu,rfl,-,h0u⟩:=hu
 obtain ⟨q,ofq,rfl,hq,hcq⟩:=h0u (by omega)
 obtain ⟨au,ca,rfl,-,h0⟩:=id hr
 obtain ⟨p,off,rfl,hp,hcell⟩:=h0 (by omega)
 have HC:Hid (∀ i,i < 4->w.cell? ⟨p,off+i,none⟩=some (.int .i64 (gAt l i))):=fun i hi=>hcell i (by omega)
 have HCq:Hid (∀ i,i < 32->w.cell? ⟨q,ofq+i,none⟩=some (.int .i64 (bd C i))):=fun i hi=>by rw [hcq i (by omega)]; exact congrArg (fun z=>some (Value.int .i64 z)) (bdL_get C i hi)
 rw [hbl]
 rw [hl] at hn |-
 clear h0 h0u hcell hcq hr hS
 by_cases e:0<=numV l
 ·have hlt:numV l < 32:=by
   unfold clsB at hc
   simp only [Bool.or_eq_true,Bool.and_eq_true,decide_eq_true_eq] at hc
   omega
  obtain ⟨f,hf⟩:∃ f:Nat,numV l=(f:Int):=⟨(numV l).toNat,by omega⟩
  have hf32:f < 32:=by omega
  have HE:Hid (grE C l=bd C f):=by show _=_; rw [HG.out,if_pos e,hf,Int.toNat_natCast]
  rw [hf] at hn
  have hfi:(f:Int) < 32:=by omega
  have HCf:Hid (w.cell? ⟨q,ofq+f,none⟩=some (.int .i64 (bd C f))):=HCq.out f hf32
  clear HG hc hlt hf e HN2
  generalize bd C f=g at *
  go_enter Tryz.func97,Tryz.ntmps97
  go_wp2_with fail
  refine hn.mono ?_
  rintro e w1 ⟨rfl,hb1⟩
  have cq:w1.cell? ⟨q,ofq+f,none⟩=some (.int .i64 g):=(hb1.cell (p:=⟨q,ofq+f,none⟩) hq).trans HCf.out
  have HB1:Hid (Below w.heap.size w w1):=hb1
  clear hb1 hn
  go_wp2_with fail
  go_ret
  exact ⟨by rw [HE.out]; rfl,HB1.out⟩
 ·have hm1:numV l=-1:=by
   unfold clsB at hc
   simp only [Bool.or_eq_true,Bool.and_eq_true,decide_eq_true_eq] at hc
   omega
  have HE:Hid (grE C l=if z4 l=true then 0 else if bd C (numV (halfV l)).toNat=NB then NB else 2*bd C (numV (halfV l)).toNat):=by show _=_; rw [HG.out,if_neg e]
  rw [hm1] at hn
  have HHf:Hid (z4 l=false->0<=numV (halfV l)/\numV (halfV l) < 32):=by
   intro z
   unfold clsB at hc
   rw [z] at hc
   simp only [Bool.or_eq_true,Bool.and_eq_true,decide_eq_true_eq,Bool.not_false] at hc
   rcases hc with (h | h) | h
   ·omega
   ·cases h.2
   ·exact ⟨h.1.2,h.2⟩
  have HZ4:Hid (zpre l 4=z4 l):=zpre_4 l
  clear HG hc hm1 e
  go_enter Tryz.func97,Tryz.ntmps97
  go_wp2_with fail
  refine hn.mono ?_
  rintro e w1 ⟨rfl,hb1⟩
  have HB1:Hid (Below w.heap.size w w1):=hb1
  have hs1:=hb1.size
  have HA:Hid (At (w1.alloc (.cells #[.int .i64 0,.int .i64 0,.int .i64 0,.int .i64 0] tNk)) w1.heap.size (ic (preH l 0)) tNk/\Below w.heap.size w (w1.alloc (.cells #[.int .i64 0,.int .i64 0,.int .i64 0,.int .i64 0] tNk))):=⟨At.new _ _ _,hb1.alloc hb1.size _⟩
  clear hb1 hn
  go_wp2_with fail
  go_loopw [7,8] (fun zv iv wr=>∃ (j:Nat) (zb:Bool),j<=4/\iv=.int .i64 j/\zv=.bool zb/\Hid (zb=zpre l j/\At wr w1.heap.size (ic (preH l j)) tNk/\Below w.heap.size w wr)) (fun _ iv _=>4 - (intOf iv).toNat)
  case atStart=>exact ⟨0,true,by omega,rfl,rfl,rfl,HA.out⟩
  case round =>
   obtain ⟨j,zb,hj,rfl,rfl,HR⟩:=hrel
   by_cases hlt:j < 4
   ·have hji:(j:Int) < 4:=by omega
    have ca:wr.cell? ⟨p,off+j,none⟩=some (.int .i64 (gAt l j)):=(HR.out.2.2.cell (p:=⟨p,off+j,none⟩) hp).trans (HC.out j hlt)
    obtain ⟨x0,hx0⟩:∃ x,wr.cell? ⟨w1.heap.size,j,none⟩=some x:=by
     rw [HR.out.2.1.cell]
     have hlen:(preH l j).length=4:=by
      rcases (show j=0 \/ j=1 \/ j=2 \/ j=3 by omega) with rfl | rfl | rfl | rfl <;> rfl
     exact ⟨_,ic_get _ _ (by omega)⟩
    have cf:=HR.out.2.1.free
    have hbl:=HR.out.2.1.lt
    have ne1:p ≠ w1.heap.size:=by omega
    have hx:=hv j hlt
    have HP:Hid (preH l (j+1)=(preH l j).set j ((gAt l j).tdiv 2)):=rfl
    have HZ:Hid (zpre l (j+1)=(zpre l j && decide (gAt l j=0))):=rfl
    have ta:=tdiv2_le (gAt l j)
    generalize gAt l j=x at *
    obtain ⟨ta1,ta2⟩:=ta
    obtain ⟨hx1,hx2⟩:=hx
    by_cases ez:x=0
    ·subst ez
     cases zb with
     | true =>
      go_wp2_with fail
      go_roundw
      case rel =>
       refine ⟨j+1,true,by omega,by go_num,rfl,?_,?_,HR.out.2.2.setCell hs1 _⟩
       ·rw [HZ.out,<- HR.out.1]; rfl
       ·rw [HP.out,<- ic_set]; exact HR.out.2.1.put j _
      case measure=>simp [intOf]; omega
     | false =>
      go_wp2_with fail
      go_roundw
      case rel =>
       refine ⟨j+1,false,by omega,by go_num,rfl,?_,?_,HR.out.2.2.setCell hs1 _⟩
       ·rw [HZ.out,<- HR.out.1]; rfl
       ·rw [HP.out,<- ic_set]; exact HR.out.2.1.put j _
      case measure=>simp [intOf]; omega
    ·have ez':(x == 0)=false:=by simpa using ez
     cases zb with
     | true =>
      go_wp2_with fail
      go_roundw
      case rel =>
       refine ⟨j+1,false,by omega,by go_num,rfl,?_,?_,HR.out.2.2.setCell hs1 _⟩
       ·rw [HZ.out,<- HR.out.1,decide_eq_false ez]; rfl
       ·rw [HP.out,<- ic_set]; exact HR.out.2.1.put j _
      case measure=>simp [intOf]; omega
     | false =>
      go_wp2_with fail
      go_roundw
      case rel =>
       refine ⟨j+1,false,by omega,by go_num,rfl,?_,?_,HR.out.2.2.setCell hs1 _⟩
       ·rw [HZ.out,<- HR.out.1]; rfl
       ·rw [HP.out,<- ic_set]; exact HR.out.2.1.put j _
      case measure=>simp [intOf]; omega
   ·have hj4:j=4:=by omega
    subst hj4
    have HZz:Hid (zb=z4 l):=by show zb=_; rw [<- HZ4.out]; exact HR.out.1
    cases zb with
    | true =>
     have HEz:Hid (grE C l=0):=by show _=_; rw [HE.out,<- HZz.out,if_pos rfl]
     go_wp2_with fail
     go_ret
     exact ⟨by rw [HEz.out]; rfl,HR.out.2.2⟩
    | false =>
     obtain ⟨h1,h2⟩:=HHf.out HZz.out.symm
     obtain ⟨f,hf⟩:∃ f:Nat,numV (halfV l)=(f:Int):=⟨(numV (halfV l)).toNat,by omega⟩
     have hf32:f < 32:=by omega
     have hfi:(f:Int) < 32:=by omega
     have HEz:Hid (grE C l=if bd C f=NB then NB else 2*bd C f):=by show _=_; rw [HE.out,<- HZz.out,if_neg (by decide),hf,Int.toNat_natCast]
     have hnn:=HN2.out wr w1.heap.size HR.out.2.1
     rw [hf] at hnn
     have HCf:Hid (w.cell? ⟨q,ofq+f,none⟩=some (.int .i64 (bd C f))):=HCq.out f hf32
     obtain ⟨b1,b2⟩:=hbr hf32
     clear h1 h2 hf HE HN2 HZz HHf HZ4
     generalize bd C f=g at *
     go_wp2_with fail
     refine hnn.mono ?_
     rintro e w3 ⟨rfl,hb3⟩
     have HB3:Hid (Below w.heap.size w w3):=HR.out.2.2.trans (hb3.mono HR.out.2.2.size)
     have cq:w3.cell? ⟨q,ofq+f,none⟩=some (.int .i64 g):=(HB3.out.cell (p:=⟨q,ofq+f,none⟩) hq).trans HCf.out
     clear hb3 hnn
     by_cases eg:g=1000000
     ·subst eg
      have HEy:Hid (grE C l=1000000):=by show _=_; rw [HEz.out,if_pos (show (1000000:Int)=NB from rfl)]; rfl
      go_wp2_with fail
      go_ret
      exact ⟨by rw [HEy.out]; rfl,HB3.out⟩
     ·have eg':(g == 1000000)=false:=by simpa using eg
      have HEy:Hid (grE C l=2*g):=by show _=_; rw [HEz.out,if_neg (show ¬ g=NB from eg)]
      go_wp2_with fail
      go_ret
      exact ⟨by rw [HEy.out]; rfl,HB3.out⟩
end Go.Proofs.YtffajooegiempaaGreatDoor

namespace Go.Proofs.YtffajooegiempaaGreatDoor
open Go.RowKit
variable {w:World} {e0:Bool} {M:Nat->Int}
def atS (e:Bool) (M:Nat->Int) (l:List Int) (n:Int):Bool:=decide (e=true \/ grP M l<=n)
def atE (e:Bool) (M:Nat->Int) (l:List Int) (n:Int):Bool:=if atS e M l n=true then e else conF (sharp (lm M (sd1 l) (sd2 l) n)) 8
def atM (e:Bool) (M:Nat->Int) (l:List Int) (n:Int):Nat->Int:=if atS e M l n=true then M else sharp (lm M (sd1 l) (sd2 l) n)
theorem lm_rng {i j:Nat} {n:Int} (hM:∀ k,k < 64->-20000000000<=M k/\M k<=1000000) (hn:-1000<=n/\n<=1000):∀ k,k < 64->-20000000000<=lm M i j n k/\lm M i j n k<=1000000:=by
 intro k hk
 have:=hM k hk
 unfold lm upd
 split
 ·split <;> omega
 ·split
  ·split <;> omega
  ·exact this
theorem o_atMost (hM:∀ k,k < 64->-20000000000<=M k/\M k<=1000000) (l:List Int) (hl:∀ i,-1<=gAt l i/\gAt l i<=1) (n:Int) (hn:-1000<=n/\n<=1000) :
  Calls Tryz.prog 113 #[.agg (oc e0 M),v4 l,.int .i64 n] w fun e w'=>e=.returned (.agg (oc (atE e0 M l n) (atM e0 M l n)))/\Below w.heap.size w w':=by
 have hz:=o_zero
 have hS:Sm M:=fun k hk=>by have:=hM k hk; omega
 have h8:=sdS_lt l 4 (Nat.le_refl _)
 have hg8:=grP_rng hS l
 have HGr:Hid (∀ w1,Calls Tryz.prog 116 #[.agg (oc e0 M),v4 l] w1 fun e w'=>e=.returned (.int .i64 (grP M l))/\Below w1.heap.size w1 w'):=fun w1=>o_greatest l hl hS
 have HSd:Hid (∀ w1,Calls Tryz.prog 142 #[v4 l] w1 fun e w'=>e=.returned (.tuple #[.int .i64 ((sd1 l:Nat):Int),.int .i64 ((sd2 l:Nat):Int)])/\Below w1.heap.size w1 w'):=fun w1=>o_sides l hl
 obtain ⟨w0,hw0⟩:∃ w0,w0=((w.alloc (.cells (oc e0 M) tO)).alloc (.cells (c4 l) tV4)).alloc (.cells (oc false fun _=>0) tO):=⟨_,rfl⟩
 have H0:Hid (OAt w0 w.heap.size e0 M/\At w0 (w.heap.size+1) (c4 l) tV4/\OAt w0 (w.heap.size+2) false (fun _=>0)/\Below w.heap.size w w0/\w0.heap.size=w.heap.size+3):=by
  refine ⟨by rw [hw0]; exact At.allocH (At.allocH (At.new _ _ _) _) _,?_,?_,by rw [hw0]; exact (((Below.refl _ _).alloc (Nat.le_refl _) _).alloc (by simp) _).alloc (by simp; omega) _,by rw [hw0]; simp⟩
  ·have:=At.allocH (At.new (w.alloc (.cells (oc e0 M) tO)) (c4 l) tV4) (.cells (oc false fun _=>0) tO)
   rw [show (w.alloc (.cells (oc e0 M) tO)).heap.size=w.heap.size+1 by simp] at this
   rw [hw0]; exact this
  ·have:=At.new ((w.alloc (.cells (oc e0 M) tO)).alloc (.cells (c4 l) tV4)) (oc false fun _=>0) tO
   rw [show ((w.alloc (.cells (oc e0 M) tO)).alloc (.cells (c4 l) tV4)).heap.size=w.heap.size+2 by simp] at this
   rw [hw0]; exact this
 have z0:w0.cell? ⟨w.heap.size,0,none⟩=some (.bool e0):=by rw [At.cell H0.out.1]; exact oc_0 _ _
 have HA0:=H0.out.1
 cases e0 with
 | true =>
  have HE:Hid (atE true M l n=true/\atM true M l n=M):=⟨rfl,rfl⟩
  obtain ⟨w7,hst7,hat7,ho7⟩:=o_store H0.out.2.2.1 true M
  have H7:Hid (OAt w7 (w.heap.size+2) true M/\Below w.heap.size w w7):=⟨hat7,(H0.out.2.2.2.1).trans (ho7.below (by omega) (H0.out.2.2.2.1).size)⟩
  clear hat7 ho7
  rw [hw0] at z0 HA0 hst7
  unfold c4 at z0 HA0 hst7
  unfold v4
  rw [HE.out.1,HE.out.2]
  clear hM hS h8 hg8 HGr HSd H0 HE hw0 hl hn
  go_enter Tryz.func113,Tryz.ntmps113
  go_wp2_with (refine wpList_load_o rfl (.tmp 3) rfl rfl HA0 ?_)
  try simp only [Exit.inBlock,Exit.then]
  refine bodyPost_ret (results_o rfl _ rfl H7.out.1) rfl ?_
  exact ⟨rfl,H7.out.2⟩
 | false =>
  obtain ⟨BW,hBW⟩:∃ BW:World->Prop,BW=fun w'=>Below w0.heap.size w0 w':=⟨_,rfl⟩
  have hgr:Calls Tryz.prog 116 #[.agg (oc false M),v4 l] w0 fun e w'=>e=.returned (.int .i64 (grP M l))/\BW w':=by rw [hBW]; exact HGr.out w0
  have HS:Hid (atS false M l n=decide (grP M l<=n)):=by show _=_; unfold atS; simp
  have HD:Hid (atE false M l n=(if atS false M l n=true then false else conF (sharp (lm M (sd1 l) (sd2 l) n)) 8)/\atM false M l n=if atS false M l n=true then M else sharp (lm M (sd1 l) (sd2 l) n)):=⟨rfl,rfl⟩
  rw [hw0] at z0 HA0 hgr
  unfold c4 at z0 HA0 hgr
  unfold v4 at hgr |-
  generalize grP M l=gr at *
  obtain ⟨g1,g2⟩:=hg8
  obtain ⟨n1,n2⟩:=hn
  have HMr:Hid (∀ k,k < 64->-20000000000<=M k/\M k<=1000000):=hM
  clear hS HGr hw0 hl hM
  go_enter Tryz.func113,Tryz.ntmps113
  go_wp2_with (refine wpList_load_ow (by first | rfl | simp [Region.wanted,yielded]) (.tmp 3) rfl rfl HA0 ?_)
  refine hgr.mono ?_
  rintro e w1 ⟨rfl,hb1⟩
  rw [hBW] at hb1
  have s0:=H0.out.2.2.2.2
  have H1:Hid (OAt w1 w.heap.size false M/\At w1 (w.heap.size+1) (c4 l) tV4/\OAt w1 (w.heap.size+2) false (fun _=>0)/\Below w.heap.size w w1/\w.heap.size+3<=w1.heap.size):=by
   have s1:=hb1.size
   exact ⟨At.keep H0.out.1 hb1 (by omega),At.keep H0.out.2.1 hb1 (by omega),At.keep H0.out.2.2.1 hb1 (by omega),H0.out.2.2.2.1.trans (hb1.mono (by omega)),by omega⟩
  clear hb1 hBW hgr HA0 z0 H0
  by_cases q:gr<=n
  ·have HE:Hid (atE false M l n=false/\atM false M l n=M):=by
    show _/\_
    rw [HD.out.1,HD.out.2,HS.out,decide_eq_true q]; exact ⟨rfl,rfl⟩
   obtain ⟨w7,hst7,hat7,ho7⟩:=o_store H1.out.2.2.1 false M
   have H7:Hid (OAt w7 (w.heap.size+2) false M/\Below w.heap.size w w7):=⟨hat7,(H1.out.2.2.2.1).trans (ho7.below (by omega) (H1.out.2.2.2.1).size)⟩
   clear hat7 ho7
   clear HS HD HSd
   go_wp2_with (refine wpList_load_o rfl (.tmp 3) rfl rfl H1.out.1 ?_)
   try simp only [Exit.inBlock,Exit.then]
   refine bodyPost_ret (results_o rfl _ rfl H7.out.1) rfl ?_
   exact ⟨by rw [HE.out.1,HE.out.2],H7.out.2⟩
  ·have HE:Hid (atE false M l n=conF (sharp (lm M (sd1 l) (sd2 l) n)) 8/\atM false M l n=sharp (lm M (sd1 l) (sd2 l) n)):=by
    show _/\_
    rw [HD.out.1,HD.out.2,HS.out,decide_eq_false q]; exact ⟨rfl,rfl⟩
   have d0:w1.cell? ⟨w.heap.size+1,0,none⟩=some (.int .i64 (gAt l 0)):=H1.out.2.1.cell 0
   have d1:w1.cell? ⟨w.heap.size+1,1,none⟩=some (.int .i64 (gAt l 1)):=H1.out.2.1.cell 1
   have d2:w1.cell? ⟨w.heap.size+1,2,none⟩=some (.int .i64 (gAt l 2)):=H1.out.2.1.cell 2
   have d3:w1.cell? ⟨w.heap.size+1,3,none⟩=some (.int .i64 (gAt l 3)):=H1.out.2.1.cell 3
   have hsd:=HSd.out w1
   unfold v4 at hsd
   have i8:sd1 l < 8:=h8.1
   have j8:sd2 l < 8:=h8.2
   clear HS HD HSd h8 s0
   generalize sd1 l=i at *
   generalize sd2 l=j at *
   go_wp2_with fail
   refine hsd.mono ?_
   rintro e w2 ⟨rfl,hb2⟩
   have H2:Hid (OAt w2 w.heap.size false M/\OAt w2 (w.heap.size+2) false (fun _=>0)/\Below w.heap.size w w2/\w.heap.size+3<=w2.heap.size):=by
    have s1:=H1.out.2.2.2.2
    have s2:=hb2.size
    exact ⟨At.keep H1.out.1 hb2 (by omega),At.keep H1.out.2.2.1 hb2 (by omega),H1.out.2.2.2.1.trans (hb2.mono (by omega)),by omega⟩
   have hlm:=o_limit H2.out.1 i j i8 j8 n ⟨by omega,by omega⟩
   clear hb2 hsd d0 d1 d2 d3 H1
   go_wp2_with fail
   refine hlm.mono ?_
   rintro e w3 ⟨rfl,h3,ho3⟩
   have H3:Hid (OAt w3 w.heap.size false (lm M i j n)/\OAt w3 (w.heap.size+2) false (fun _=>0)/\Below w.heap.size w w3/\w.heap.size+3<=w3.heap.size):=by
    have s2:=H2.out.2.2.2
    have s3:=ho3.size
    exact ⟨h3,ho3.at_ H2.out.2.1 (by omega),H2.out.2.2.1.trans (ho3.below (Nat.le_refl _) (by omega)),by omega⟩
   have hsh:=o_sharpen H3.out.1 (lm_rng HMr.out ⟨n1,n2⟩)
   clear h3 ho3 hlm H2
   go_wp2_with fail
   refine hsh.mono ?_
   rintro e w4 ⟨rfl,h4,ho4⟩
   have H4:Hid (OAt w4 w.heap.size (conF (sharp (lm M i j n)) 8) (sharp (lm M i j n))/\OAt w4 (w.heap.size+2) false (fun _=>0)/\Below w.heap.size w w4):=by
    have s3:=H3.out.2.2.2
    exact ⟨h4,ho4.at_ H3.out.2.1 (by omega),H3.out.2.2.1.trans (ho4.below (Nat.le_refl _) (by omega))⟩
   clear h4 ho4 hsh H3
   generalize conF (sharp (lm M i j n)) 8=e4 at *
   generalize sharp (lm M i j n)=M4 at *
   obtain ⟨w7,hst7,hat7,ho7⟩:=o_store H4.out.2.1 e4 M4
   have H7:Hid (OAt w7 (w.heap.size+2) e4 M4/\Below w.heap.size w w7):=⟨hat7,(H4.out.2.2).trans (ho7.below (by omega) (H4.out.2.2).size)⟩
   clear hat7 ho7
   go_wp2_with (refine wpList_load_o rfl (.tmp 3) rfl rfl H4.out.1 ?_)
   try simp only [Exit.inBlock,Exit.then]
   refine bodyPost_ret (results_o rfl _ rfl H7.out.1) rfl ?_
   exact ⟨by rw [HE.out.1,HE.out.2],H7.out.2⟩
end Go.Proofs.YtffajooegiempaaGreatDoor

