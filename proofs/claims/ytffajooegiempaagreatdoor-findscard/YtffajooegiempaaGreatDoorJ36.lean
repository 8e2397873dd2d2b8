import Derived.Test.YtffajooegiempaaGreatDoorJ35
set_option maxRecDepth 100000
set_option maxHeartbeats 6400000
namespace Go.Proofs.YtffajooegiempaaGreatDoor
open Go.RowKit
variable {w:World}
theorem sf_same_c {x:Ds} {u:St} {C:Nat->Int} (hc:Cor x u) (hu:StG u) (hC0:C (0*8+1)=0):sfP false C x=sfD false C u:=by
 obtain ⟨c0,_,c2,c3,c4⟩:=hc
 unfold sfP sfD
 have g1:=(grP_grD hC0 hu.len hu.sg hu.nz).1
 have g2:=(grP_grD hC0 (ngL_len u.sg) (ngL_rng hu.sg) (by rw [nz_ngL hu.len]; exact hu.nz)).1
 have e1:grP C u.sg=grD C u.sg:=g1
 have e2:grP C (ngL u.sg)=grD C (ngL u.sg):=g2
 rw [if_neg (show ¬ (false=true) by decide),if_neg (show ¬ (false=true) by decide)]
 have k0:x.kind=0 ↔ u.kind=61:=by
  rw [c0]; unfold kindOf
  constructor
  ·intro h; rw [if_pos h]
  ·intro h
   by_cases q:x.kind=0
   ·exact q
   ·rw [if_neg q] at h
    split at h
    ·cases h
    ·split at h <;> cases h
 have k1:x.kind=1 ↔ u.kind=33:=by
  rw [c0]; unfold kindOf
  constructor
  ·intro h; rw [if_neg (by omega),if_pos h]
  ·intro h
   by_cases q:x.kind=0
   ·rw [if_pos q] at h; cases h
   ·rw [if_neg q] at h
    by_cases q1:x.kind=1
    ·exact q1
    ·rw [if_neg q1] at h
     split at h <;> cases h
 by_cases q0:x.kind=0
 ·rw [if_pos q0,if_pos (k0.1 q0),<- c2,<- c4,<- c3]
  unfold ftB
  rw [e1,e2]
 ·rw [if_neg q0,if_neg (fun z=>q0 (k0.2 z))]
  by_cases q1:x.kind=1
  ·rw [if_pos q1,if_pos (k1.1 q1),<- c2,<- c4,<- c3,e1]
  ·rw [if_neg q1,if_neg (fun z=>q1 (k1.2 z))]
def KV (w:World):Option (Nat->Int)->Value->Prop
 | none,u=>u=.slice none 0 0
 | some M,u=>∃ g,u=.slice (some ⟨g,0,none⟩) 32 32/\At w g (ic (bdL M)) tNo
theorem KV.keep {w w':World} {o:Option (Nat->Int)} {u:Value} (h:KV w o u) (hb:Below w.heap.size w w'):KV w' o u:=by
 cases o with
 | none=>exact h
 | some M=>obtain ⟨g,e,ha⟩:=h; exact ⟨g,e,ha.keep hb ha.lt⟩
theorem KV.isSlice {o:Option (Nat->Int)} {u:Value} (h:KV w o u):∃ a n c,u=.slice a n c:=by
 cases o with
 | none=>exact ⟨_,_,_,h⟩
 | some M=>obtain ⟨g,e,ha⟩:=h; exact ⟨_,_,_,e⟩
theorem At.reads {g:Nat} {M:Nat->Int} (ha:At w g (ic (bdL M)) tNo):Reads w (.slice (some ⟨g,0,none⟩) 32 32) (bdL M):=Reads.at_ ha (bdL_len M) (Nat.le_refl _) (fun i hi=>ic_get _ _ (by rw [bdL_len]; exact hi))
theorem r_inside_k {e0:Bool} {M:Nat->Int} (u v:Value) (r:Option (Nat->Int)) (hT:e0=false->TC M/\Sm M) (hu:LV w e0 M u) (hv:KV w r v) :
  Calls Tryz.prog 65 #[u,v] w fun e w'=>e=.returned (.bool (insK e0 M r))/\Below w.heap.size w w':=by
 have hq1:∀ (w:World) (a:Option Addr) (n c:Nat),(binOp .eql 32 (.slice a n c) (.slice none 0 0)).run Tryz.prog w=.ok (.bool a.isNone) w:=fun w a n c=>Lib.run_eql_slice_nil w 32 tN a n c 0 0 Tryz.underlying32
 rcases hu with ⟨rfl,rfl⟩ | ⟨rfl,g0,rfl,ha0⟩
 ·have HE:Hid (insK true M r=true):=by cases r <;> rfl
  obtain ⟨va,vn,vc,rfl⟩:=hv.isSlice
  clear hT hv
  go_enter Tryz.func65,Tryz.ntmps65
  go_wp2_with fail
  go_ret
  exact ⟨ret_b HE.out,Below.refl _ _⟩
 ·have hcl:=r_closed_t (w:=w) (hT rfl).1 (hT rfl).2 (.slice (some ⟨g0,0,none⟩) 32 32) (Reads.at_ ha0 (bdL_len M) (Nat.le_refl _) (fun i hi=>ic_get _ _ (by rw [bdL_len]; exact hi)))
  cases r with
  | none =>
   obtain rfl:v=.slice none 0 0:=hv
   have HE:Hid (insK false M none=false):=rfl
   clear hT ha0
   go_enter Tryz.func65,Tryz.ntmps65
   go_wp2_with fail
   refine hcl.mono ?_
   rintro e w1 ⟨hb1,⟨he,-⟩ | ⟨-,g,rfl,hg,ha⟩⟩
   ·cases he
   ·have HB1:Hid (Below w.heap.size w w1):=hb1
    clear hb1 hcl ha
    go_wp2_with fail
    go_ret
    exact ⟨ret_b HE.out,HB1.out⟩
  | some p =>
   obtain ⟨g2,rfl,hg2⟩:=hv
   have hv:Reads w (.slice (some ⟨g2,0,none⟩) 32 32) (bdL p):=hg2.reads
   have HL:Hid (∀ w1 g,Below w.heap.size w w1->At w1 g (ic (bdL M)) tNo->Calls Tryz.prog 99 #[.slice (some ⟨g,0,none⟩) 32 32,.slice (some ⟨g2,0,none⟩) 32 32] w1 fun e w'=>e=.returned (.bool (leF (bd M) (bd p) 32))/\Below w1.heap.size w1 w'):=by
    intro w1 g hb ha
    have h:=r_least (w:=w1) (.slice (some ⟨g,0,none⟩) 32 32) (.slice (some ⟨g2,0,none⟩) 32 32) (bdL M) (bdL p) (bdL_len M) (bdL_len p) (Reads.at_ ha (bdL_len M) (Nat.le_refl _) (fun i hi=>ic_get _ _ (by rw [bdL_len]; exact hi))) (hv.keep hb)
    rw [leF_congr (A:=fun f=>(bdL M).getD f 0) (A':=bd M) 32 (fun f hf=>bdL_get M f hf),leF_right (B:=fun f=>(bdL p).getD f 0) (B':=bd p) 32 (fun f hf=>bdL_getD p hf)] at h
    exact h
   have HE:Hid (insK false M (some p)=leF (bd M) (bd p) 32):=Bool.false_or _
   generalize leF (bd M) (bd p) 32=b at *
   clear hT ha0 hv hg2
   go_enter Tryz.func65,Tryz.ntmps65
   go_wp2_with fail
   refine hcl.mono ?_
   rintro e w1 ⟨hb1,⟨he,-⟩ | ⟨-,g,rfl,hg,ha⟩⟩
   ·cases he
   ·have hls:=HL.out w1 g hb1 ha
    have HB1:Hid (Below w.heap.size w w1):=hb1
    clear hb1 hcl ha
    go_wp2_with fail
    refine hls.mono ?_
    rintro e w2 ⟨rfl,hb2⟩
    go_wp2_with fail
    go_ret
    exact ⟨ret_b HE.out,HB1.out.trans (hb2.mono HB1.out.size)⟩
def staK:Option (Nat->Int)->Bool
 | none=>false
 | some A=>leF (fun _=>0) (bd A) 32
theorem r_starts_k (v:Value) (r:Option (Nat->Int)) (hv:KV w r v) :
  Calls Tryz.prog 63 #[v] w fun e w'=>e=.returned (.bool (staK r))/\Below w.heap.size w w':=by
 have hq1:∀ (w:World) (a:Option Addr) (n c:Nat),(binOp .eql 32 (.slice a n c) (.slice none 0 0)).run Tryz.prog w=.ok (.bool a.isNone) w:=fun w a n c=>Lib.run_eql_slice_nil w 32 tN a n c 0 0 Tryz.underlying32
 cases r with
 | none =>
  obtain rfl:v=.slice none 0 0:=hv
  have HE:Hid (staK none=false):=rfl
  go_enter Tryz.func63,Tryz.ntmps63
  go_wp2_with fail
  go_ret
  exact ⟨ret_b HE.out,Below.refl _ _⟩
 | some l =>
  obtain ⟨p,rfl,hp⟩:=hv
  have HC:Hid (∀ i,i < 32->w.cell? ⟨p,i,none⟩=some (.int .i64 (bd l i))):=fun i hi=>by rw [hp.cell,ic_get _ _ (by rw [bdL_len]; exact hi),bdL_getD l hi]
  have HE:Hid (staK (some l)=leF (fun _=>0) (bd l) 32):=rfl
  obtain ⟨A,hA⟩:∃ A:Nat->Int,A=fun _=>0:=⟨_,rfl⟩
  obtain ⟨B,hB⟩:∃ B:Nat->Int,B=bd l:=⟨_,rfl⟩
  have HC':Hid (∀ i,i < 32->w.cell? ⟨p,i,none⟩=some (.int .i64 (B i))):=by rw [hB]; exact HC.out
  have HA:Hid (∀ i,A i=0):=by rw [hA]; exact fun _=>rfl
  rw [<- hA,<- hB] at HE
  have hpl:=hp.lt
  clear HC hA hB hp
  go_enter Tryz.func63,Tryz.ntmps63
  go_wp2_with fail
  go_loopw [3] (fun i wr=>∃ (f k:Nat),f<=32/\i=.int .i64 f/\Hid (wr=w.drewN k/\leF A B f=true)) (fun i _=>32 - (intOf i).toNat)
  case atStart=>exact ⟨0,0,by omega,rfl,rfl,rfl⟩
  case round =>
   obtain ⟨f,k,hf,rfl,HR⟩:=hrel
   by_cases hlt:f < 32
   ·have hfi:(f:Int) < 32:=by omega
    have ca:wr.cell? ⟨p,f,none⟩=some (.int .i64 (B f)):=by rw [HR.out.1]; exact HC'.out f hlt
    have HN:Hid (B f < 0->leF A B 32=false):=fun h=>by
     cases e:leF A B 32 with
     | false=>rfl
     | true=>have:=leF_iff.1 e f hlt; rw [HA.out] at this; omega
    have HY:Hid (¬ B f < 0->leF A B (f+1)=true):=fun h=>by
     show (leF A B f && decide (A f<=B f))=true
     rw [HR.out.2,HA.out,decide_eq_true (by omega)]; rfl
    generalize B f=y at *
    by_cases hxy:y < 0
    ·have HF:Hid (leF A B 32=false):=HN.out hxy
     go_wp2_with fail
     go_ret
     exact ⟨ret_b (HE.out.trans HF.out),by rw [HR.out.1]; exact below_drewN (Below.refl _ _) _⟩
    ·have HF:Hid (leF A B (f+1)=true):=HY.out hxy
     go_wp2_with fail
     go_roundw
     case rel=>exact ⟨f+1,k,by omega,by go_num,HR.out.1,HF.out⟩
     case measure=>simp [intOf]; omega
   ·have hf32:f=32:=by omega
    subst hf32
    go_wp2_with fail
    go_ret
    exact ⟨ret_b (HE.out.trans HR.out.2),by rw [HR.out.1]; exact below_drewN (Below.refl _ _) _⟩
theorem r_checked_k {B r:Nat} {m:Rd} {vs vo:Value} {P Q O:Nat->Nat} {l:List Int} {F:List Ds} {K:Kl} {b:Nat} (h:Rep B w r m vs vo P Q O) (hp:progOf l=some m) (hW:Whole F m.st) (hl:F.length<=20) (hblt:b < w.heap.size) (hcell:∀ i,i < F.length+1->∃ u,w.cell? ⟨b,i,none⟩=some u/\KV w (K.getD i none) u) (hv:∀ i A,K.getD i none=some A->Wv 8000 A) :
  Calls Tryz.prog 25 #[.pointer (some ⟨r,0,none⟩),.slice (some ⟨b,0,none⟩) (F.length+1) (F.length+1)] w fun e w'=>∃ a b,e=.returned (.tuple #[.int .i64 a,.int .i64 b])/\(a=0->KOk F K)/\Below w.heap.size w w':=by
 have hq1:∀ (w:World) (a:Option Addr) (n c:Nat),(binOp .eql 32 (.slice a n c) (.slice none 0 0)).run Tryz.prog w=.ok (.bool a.isNone) w:=fun w a n c=>Lib.run_eql_slice_nil w 32 tN a n c 0 0 Tryz.underlying32
 have hSl:F.length=m.st.length:=hW.1.len
 have HC:Hid (∀ w1,Below w.heap.size w w1->∀ i,i < F.length+1->∃ a nn c,w1.cell? ⟨b,i,none⟩=some (.slice a nn c)/\KV w1 (K.getD i none) (.slice a nn c)):=fun w1 hb i hi=>by
  obtain ⟨x,h1,h2⟩:=hcell i (by omega)
  obtain ⟨a,nn,c,rfl⟩:=h2.isSlice
  exact ⟨a,nn,c,(hb.cell (by exact hblt)).trans h1,h2.keep hb⟩
 have HSt:Hid (∀ w1 a nn c,KV w1 (K.getD 0 none) (.slice a nn c)->Calls Tryz.prog 63 #[.slice a nn c] w1 fun e w'=>e=.returned (.bool (staK (K.getD 0 none)))/\Below w1.heap.size w1 w'):=fun w1 a nn c hr=>r_starts_k _ _ hr
 have HCl:Hid (∀ w1 k o a nn c,K.getD k none=some o->KV w1 (some o) (.slice a nn c)->Calls Tryz.prog 59 #[.slice a nn c] w1 (LSays w1 false o)):=fun w1 k o a nn c hr hrd=>by
  obtain ⟨g,e,ha⟩:=hrd
  cases e
  exact r_closed_t (hv k o hr).tc ((hv k o hr).sm (by decide)) _ ha.reads
 have HSf:Hid (∀ w1,Below w.heap.size w w1->∀ k,k < F.length->∀ o a nn c,K.getD k none=some o->KV w1 (some o) (.slice a nn c)->Calls Tryz.prog 64 #[.pointer (some ⟨r,0,none⟩),.int .i64 (k:Int),.slice a nn c] w1 fun e w'=>e=.returned (.bool (sfP false o (F.getD k (newDs 0 0))))/\Below w1.heap.size w1 w'):=fun w1 hb k hk o a nn c hr hrd=>by
  have hz:=(hv k o hr).tc.zero 0 (by omega)
  rw [sf_same_c (dsg_of hp hW hk).2 (stg_of hp k) hz]
  exact r_safe_c (h.keep hb) k (by omega) (stg_of hp k) _ ⟨_,_,_,rfl⟩ (HCl.out w1 k o a nn c hr hrd) ((hv k o hr).sm (by decide)) (fun _=>hz)
 have HWy:Hid (∀ w1,Below w.heap.size w w1->∀ k:Nat,k < F.length->Calls Tryz.prog 21 #[.pointer (some ⟨r,0,none⟩),.int .i64 (k:Int)] w1 fun e w'=>e=.returned (.int .i64 (waysP (F.getD k (newDs 0 0)).kind))/\w'=w1):=fun w1 hb k hk=>by
  have:=(h.keep hb).ways (k:Int)
  rw [if_neg (by omega),Int.toNat_natCast,<- ways_same hW hk] at this
  exact this
 have HAf:Hid (∀ w1,Below w.heap.size w w1->∀ k,k < F.length->∀ o a nn c way,K.getD k none=some o->KV w1 (some o) (.slice a nn c)->Calls Tryz.prog 22 #[.pointer (some ⟨r,0,none⟩),.int .i64 (k:Int),.int .i64 way,.slice a nn c] w1 (LSays w1 (poE false o (F.getD k (newDs 0 0)) way) (poM false o (F.getD k (newDs 0 0)) way))):=fun w1 hb k hk o a nn c way hr hrd =>
  r_after (h.keep hb) k (by omega) (stq_of hp (by omega)) (dsg_of hp hW hk).2 way _ false ⟨_,_,_,rfl⟩ (HCl.out w1 k o a nn c hr hrd) (fun _=>(hv k o hr).tq (by decide))
 have HNx:Hid (∀ w1,Below w.heap.size w w1->∀ (k way:Nat),k < F.length->(way:Int) < waysP (F.getD k (newDs 0 0)).kind->Calls Tryz.prog 23 #[.pointer (some ⟨r,0,none⟩),.int .i64 (k:Int),.int .i64 (way:Int)] w1 fun e w'=>e=.returned (.int .i64 (nextP F k way).1)/\Below w1.heap.size w1 w'):=fun w1 hb k way hk hw=>by
  have e:=next_same hW hl k hk way
  rw [if_neg (by rw [<- ways_same hW hk]; omega)] at e
  rw [e]
  exact ((h.keep hb).next (by omega) k (by omega) way).mono fun e w' ⟨h1,j,h2⟩=>⟨h1,by rw [h2]; exact below_drewN (Below.refl _ _) j⟩
 have HIn:Hid (∀ w1 (k way qn:Nat) o u a nn c,k < F.length->K.getD k none=some o->LV w1 (poE false o (F.getD k (newDs 0 0)) way) (poM false o (F.getD k (newDs 0 0)) way) u->KV w1 (K.getD qn none) (.slice a nn c)->Calls Tryz.prog 65 #[u,.slice a nn c] w1 fun e w'=>e=.returned (.bool (insK (poE false o (F.getD k (newDs 0 0)) way) (poM false o (F.getD k (newDs 0 0)) way) (K.getD qn none)))/\Below w1.heap.size w1 w'):=fun w1 k way qn o u a nn c hk hr hu hrd=>by
  refine r_inside_k u _ _ (fun he=>?_) hu hrd
  have hP:=wv_post ((hv k o hr)) (by decide) (by decide) (dq_of hp hW hk) way he
  exact ⟨hP.tc,hP.sm (by decide)⟩
 have HLn:Hid (∀ w1,Below w.heap.size w w1->∃ sa sc,w1.cell? ⟨r,1,none⟩=some (.slice sa F.length sc)):=fun w1 hb=>by
  obtain ⟨sa,sc,hvs⟩:=(h.keep hb).slen'
  obtain ⟨_,r1,_⟩:=(h.keep hb).rdc
  rw [hvs,<- hSl] at r1
  exact ⟨sa,sc,r1⟩
 have HNi:Hid (∀ (k way:Nat),k < F.length->(way:Int) < waysP (F.getD k (newDs 0 0)).kind->∃ qn:Nat,(nextP F k way).1=(qn:Int)/\qn < F.length+1):=fun k way hk hw=>by
  have:=nextP_in (F:=F) k way (next_z F k hk way hw)
  exact ⟨(nextP F k way).1.toNat,by omega,by omega⟩
 have HWr:Hid (∀ k,1<=waysP (F.getD k (newDs 0 0)).kind/\waysP (F.getD k (newDs 0 0)).kind<=2):=fun k=>ways_rng _
 have hr0:r < w.heap.size:=h.rd.lt
 obtain ⟨G,hG⟩:∃ G:Nat->Prop,G=fun k=>∀ A,K.getD k none=some A->sfP false A (F.getD k (newDs 0 0))=true/\∀ way:Nat,(way:Int) < waysP (F.getD k (newDs 0 0)).kind->insK (poE false A (F.getD k (newDs 0 0)) way) (poM false A (F.getD k (newDs 0 0)) way) (K.getD (nextP F k way).1.toNat none)=true:=⟨_,rfl⟩
 have HKk:Hid (staK (K.getD 0 none)=true->(∀ j,j < F.length->G j)->KOk F K):=fun q h=>by
  rw [hG] at h
  refine ⟨?_,fun k hk A hA=>(h k hk A hA).1,fun k hk A hA=>(h k hk A hA).2⟩
  cases hr:K.getD 0 none with
  | none=>rw [hr] at q; cases q
  | some A=>rw [hr] at q; exact ⟨A,rfl,q⟩
 have HNo:Hid (∀ k,K.getD k none=none->G k):=fun k hk=>by rw [hG]; intro A hA; rw [hk] at hA; cases hA
 have HGo:Hid (∀ k o,K.getD k none=some o->sfP false o (F.getD k (newDs 0 0))=true->(∀ way:Nat,(way:Int) < waysP (F.getD k (newDs 0 0)).kind->insK (poE false o (F.getD k (newDs 0 0)) way) (poM false o (F.getD k (newDs 0 0)) way) (K.getD (nextP F k way).1.toNat none)=true)->G k):=fun k o ho h1 h2=>by rw [hG]; intro A hA; rw [ho] at hA; cases hA; exact ⟨h1,h2⟩
 clear h hp hW hcell hSl HCl hv hG
 generalize hnn:F.length=n at *
 obtain ⟨a0,n0,c0,cx0,hrd0⟩:=HC.out w (Below.refl _ _) 0 (by omega)
 have cx00:w.cell? ⟨b,0,none⟩=some (.slice a0 n0 c0):=cx0
 have hst:=HSt.out w _ _ _ hrd0
 have h0n:(0:Int) < ((n+1:Nat):Int):=by omega
 clear hrd0 HSt
 generalize staK (K.getD 0 none)=st at *
 go_enter Tryz.func25,Tryz.ntmps25
 go_wp2_with fail
 refine hst.mono ?_
 rintro e w1 ⟨rfl,hb1⟩
 have HB1:Hid (Below w.heap.size w w1):=hb1
 clear hb1 hst cx0 cx00
 cases st with
 | false =>
  clear HKk
  go_wp2_with fail
  go_ret2
  exact ⟨_,_,rfl,fun z=>absurd z (by decide),HB1.out⟩
 | true =>
  have HKl:Hid ((∀ j,j < n->G j)->KOk F K):=HKk.out rfl
  clear HKk
  go_wp2_with fail
  go_loopw [6,7] (fun okv pv wr=>∃ (i:Nat) (bb:Bool),i<=n/\okv=.bool bb/\pv=.int .i64 (i:Int)/\Hid ((∀ j,j < i->G j)/\Below w.heap.size w wr)) (fun _ pv _=>n - (intOf pv).toNat)
  case atStart=>exact ⟨0,_,by omega,rfl,rfl,fun j hj=>by omega,HB1.out⟩
  case round =>
   obtain ⟨i,bb,hi,rfl,rfl,HR⟩:=hrel
   obtain ⟨sa,sc,cl⟩:=HLn.out wr HR.out.2
   by_cases hin:i < n
   ·have hii:(i:Int) < (n:Int):=by omega
    have hii1:(i:Int) < ((n+1:Nat):Int):=by omega
    obtain ⟨a,nn,c,cx,hrd⟩:=HC.out wr HR.out.2 i (by omega)
    have HA:Hid (G i->∀ j,j < i+1->G j):=fun h0 j hj=>by
     rcases Nat.lt_or_ge j i with q | q
     ·exact HR.out.1 j q
     ·rw [show j=i by omega]; exact h0
    cases hr:K.getD i none with
    | none =>
     rw [hr] at hrd
     have hrd':Value.slice a nn c=.slice none 0 0:=hrd
     cases hrd'
     have HF:Hid (∀ j,j < i+1->G j):=HA.out (HNo.out i hr)
     clear hrd
     go_wp2_with fail
     go_roundw
     case rel=>exact ⟨i+1,bb,by omega,rfl,by go_num,HF.out,HR.out.2⟩
     case measure=>simp [intOf]; omega
    | some o =>
     rw [hr] at hrd
     obtain ⟨g',e',-⟩:=id hrd
     cases e'
     have hsf:=HSf.out wr HR.out.2 i (by omega) o _ _ _ hr hrd
     have HGi:Hid (sfP false o (F.getD i (newDs 0 0))=true->(∀ way:Nat,(way:Int) < waysP (F.getD i (newDs 0 0)).kind->insK (poE false o (F.getD i (newDs 0 0)) way) (poM false o (F.getD i (newDs 0 0)) way) (K.getD (nextP F i way).1.toNat none)=true)->G i):=HGo.out i o hr
     have HHr:Hid (K.getD i none=some o):=hr
     clear hrd hr
     generalize sfP false o (F.getD i (newDs 0 0))=sf at *
     go_wp2_with fail
     refine hsf.mono ?_
     rintro e w2 ⟨rfl,hb2⟩
     have H2:Hid (Below w.heap.size w w2):=HR.out.2.trans (hb2.mono HR.out.2.size)
     clear hb2 hsf cx cl
     cases sf with
     | false =>
      clear HGi
      go_wp2_with fail
      go_ret2
      exact ⟨_,_,rfl,fun z=>absurd z (by decide),H2.out⟩
     | true =>
      have hwy:=HWy.out w2 H2.out i (by omega)
      have hwr:=HWr.out i
      have HNxi:Hid (∀ w1,Below w.heap.size w w1->∀ (way:Nat),(way:Int) < waysP (F.getD i (newDs 0 0)).kind->∃ qn:Nat,qn < n+1/\(nextP F i way).1.toNat=qn/\Calls Tryz.prog 23 #[.pointer (some ⟨r,0,none⟩),.int .i64 (i:Int),.int .i64 (way:Int)] w1 fun e w'=>e=.returned (.int .i64 (qn:Int))/\Below w1.heap.size w1 w'):=fun w1 hb way hw=>by
       obtain ⟨qn,q1,q2⟩:=HNi.out i way (by omega) hw
       have:=HNx.out w1 hb i way (by omega) hw
       rw [q1] at this
       exact ⟨qn,q2,by rw [q1,Int.toNat_natCast],this⟩
      have HAfi:Hid (∀ w1,Below w.heap.size w w1->∀ a nn c (way:Nat),KV w1 (some o) (.slice a nn c)->Calls Tryz.prog 22 #[.pointer (some ⟨r,0,none⟩),.int .i64 (i:Int),.int .i64 (way:Int),.slice a nn c] w1 fun e w'=>∃ a' n' c',e=.returned (.slice a' n' c')/\Below w1.heap.size w1 w'/\LV w' (poE false o (F.getD i (newDs 0 0)) way) (poM false o (F.getD i (newDs 0 0)) way) (.slice a' n' c')):=fun w1 hb a nn c way hrd=>by
       refine (HAf.out w1 hb i (by omega) o a nn c way HHr.out hrd).mono ?_
       rintro e w' ⟨hb',⟨h1,rfl⟩ | ⟨h1,g,rfl,hg,ha⟩⟩
       ·exact ⟨_,_,_,rfl,hb',.inl ⟨h1,rfl⟩⟩
       ·exact ⟨_,_,_,rfl,hb',.inr ⟨h1,g,rfl,ha⟩⟩
      have HIni:Hid (∀ w1 (way qn:Nat) u a nn c,LV w1 (poE false o (F.getD i (newDs 0 0)) way) (poM false o (F.getD i (newDs 0 0)) way) u->KV w1 (K.getD qn none) (.slice a nn c)->Calls Tryz.prog 65 #[u,.slice a nn c] w1 fun e w'=>e=.returned (.bool (insK (poE false o (F.getD i (newDs 0 0)) way) (poM false o (F.getD i (newDs 0 0)) way) (K.getD qn none)))/\Below w1.heap.size w1 w'):=fun w1 way qn u a nn c hu hrd=>HIn.out w1 i way qn o u a nn c (by omega) HHr.out hu hrd
      have HCx:Hid (∀ w1,Below w.heap.size w w1->∀ j,j < n+1->∃ a nn c,w1.cell? ⟨b,j,none⟩=some (.slice a nn c)/\KV w1 (K.getD j none) (.slice a nn c)):=HC.out
      clear HSf HWy HAf HNx HIn HNi HWr HGo HNo
      obtain ⟨kn,hkn⟩:∃ kn:Nat,waysP (F.getD i (newDs 0 0)).kind=(kn:Int):=⟨(waysP (F.getD i (newDs 0 0)).kind).toNat,by omega⟩
      rw [hkn] at HGi hwy hwr HNxi
      have HGj:Hid ((∀ way:Nat,way < kn->insK (poE false o (F.getD i (newDs 0 0)) way) (poM false o (F.getD i (newDs 0 0)) way) (K.getD (nextP F i way).1.toNat none)=true)->G i):=fun h=>HGi.out rfl (fun way hw=>h way (by omega))
      clear hkn HGi
      go_wp2_with fail
      refine hwy.mono ?_
      rintro e w3 ⟨rfl,rfl⟩
      clear hwy
      go_wp2_with fail
      go_loopw [6,9] (fun okv yv wq=>∃ (y:Nat) (bb:Bool),y<=kn/\okv=.bool bb/\yv=.int .i64 (y:Int)/\Hid ((∀ way:Nat,way < y->insK (poE false o (F.getD i (newDs 0 0)) way) (poM false o (F.getD i (newDs 0 0)) way) (K.getD (nextP F i way).1.toNat none)=true)/\Below w.heap.size w wq)) (fun _ yv _=>kn - (intOf yv).toNat)
      case atStart=>exact ⟨0,_,by omega,rfl,rfl,fun j hj=>by omega,H2.out⟩
      case round =>
       obtain ⟨y,bb',hy,rfl,rfl,HQ⟩:=hrel
       by_cases hyn:y < kn
       ·have hyi:(y:Int) < (kn:Int):=by omega
        obtain ⟨a1,n1,c1,cx1,hrd1⟩:=HCx.out wr HQ.out.2 i (by omega)
        rw [HHr.out] at hrd1
        have haf:=HAfi.out wr HQ.out.2 a1 n1 c1 y hrd1
        clear hrd1
        go_wp2_with fail
        refine haf.mono ?_
        rintro e w4 ⟨ua,un,uc,rfl,hb4,hu4⟩
        have H4:Hid (Below w.heap.size w w4/\LV w4 (poE false o (F.getD i (newDs 0 0)) y) (poM false o (F.getD i (newDs 0 0)) y) (.slice ua un uc)):=⟨HQ.out.2.trans (hb4.mono HQ.out.2.size),hu4⟩
        clear hb4 hu4 haf cx1
        obtain ⟨qn,hqn,hqe,hnx⟩:=HNxi.out w4 H4.out.1 y hyi
        have HQe:Hid ((nextP F i y).1.toNat=qn):=hqe
        clear hqe
        go_wp2_with fail
        refine hnx.mono ?_
        rintro e w5 ⟨rfl,hb5⟩
        have H5:Hid (Below w.heap.size w w5/\LV w5 (poE false o (F.getD i (newDs 0 0)) y) (poM false o (F.getD i (newDs 0 0)) y) (.slice ua un uc)):=⟨H4.out.1.trans (hb5.mono H4.out.1.size),H4.out.2.keep hb5⟩
        clear hb5 hnx
        obtain ⟨a2,n2,c2,cx2,hrd2⟩:=HCx.out w5 H5.out.1 qn hqn
        have hqi:(qn:Int) < ((n+1:Nat):Int):=by omega
        have his:=HIni.out w5 y qn _ a2 n2 c2 H5.out.2 hrd2
        clear hrd2
        have HE7:Hid (insK (poE false o (F.getD i (newDs 0 0)) y) (poM false o (F.getD i (newDs 0 0)) y) (K.getD (nextP F i y).1.toNat none)=insK (poE false o (F.getD i (newDs 0 0)) y) (poM false o (F.getD i (newDs 0 0)) y) (K.getD qn none)):=by show _=_; rw [HQe.out]
        generalize insK (poE false o (F.getD i (newDs 0 0)) y) (poM false o (F.getD i (newDs 0 0)) y) (K.getD qn none)=bi at *
        go_wp2_with fail
        refine his.mono ?_
        rintro e w6 ⟨rfl,hb6⟩
        have H6:Hid (Below w.heap.size w w6):=H5.out.1.trans (hb6.mono H5.out.1.size)
        clear hb6 his cx2
        cases bi with
        | false =>
         go_wp2_with fail
         go_ret2
         exact ⟨_,_,rfl,fun z=>absurd z (by decide),H6.out⟩
        | true =>
         have HE8:Hid (∀ way:Nat,way < y+1->insK (poE false o (F.getD i (newDs 0 0)) way) (poM false o (F.getD i (newDs 0 0)) way) (K.getD (nextP F i way).1.toNat none)=true):=fun j hj=>by
          rcases Nat.lt_or_ge j y with q | q
          ·exact HQ.out.1 j q
          ·rw [show j=y by omega]; exact HE7.out
         clear HE7
         go_wp2_with fail
         go_roundw
         case rel=>exact ⟨y+1,_,by omega,rfl,by go_num,HE8.out,H6.out⟩
         case measure=>simp [intOf]; omega
       ·have hye:y=kn:=by omega
        subst hye
        have HF:Hid (∀ j,j < i+1->G j):=HA.out (HGj.out HQ.out.1)
        go_wp2_with fail
        go_roundw
        case rel=>exact ⟨i+1,_,by omega,rfl,by go_num,HF.out,HQ.out.2⟩
        case measure=>simp [intOf]; omega
   ·have hie:i=n:=by omega
    subst hie
    go_wp2_with fail
    go_ret2
    exact ⟨_,_,rfl,fun _=>HKl.out HR.out.1,HR.out.2⟩
end Go.Proofs.YtffajooegiempaaGreatDoor

namespace Go.Proofs.YtffajooegiempaaGreatDoor
open Go.RowKit
variable {w:World}
theorem ref_check (s c:ByteArray) (hm:s.size<=maxLen) (hc:c.size<=maxLen):Calls Tryz.prog 8 #[.string s,.string c] w (ChkOut w s c):=by
 have hs:=ref_scan s w hm
 cases hp:progOf (bytesOf s) with
 | none =>
  have h1:=progOf_none hp
  have HE:Hid (∀ x,scanOf (bytesOf s)=x->ChkSays s c (x.2.1,x.2.2)):=fun x hx=>by
   unfold ChkSays
   rw [hp,<- hx]
  generalize scanOf (bytesOf s)=x at *
  obtain ⟨a,b,d⟩:=x
  have h2:b=1:=h1
  subst h2
  simp only [three] at hs
  clear hm hp h1 hc
  go_enter Tryz.func8,Tryz.ntmps8
  go_wp2_with fail
  refine hs.mono ?_
  rintro e w1 ⟨rfl,hb⟩
  go_wp2_with fail
  go_ret2
  exact ⟨_,_,rfl,HE.out _ rfl,hb⟩
 | some m =>
  have hsz:(bytesOf s).length<=160:=(progOf_some hp).1
  have hl:=bytesOf_len s
  rw [(progOf_some hp).2.2.2] at hs
  simp only [three] at hs
  have hW:Whole (readZ s).2 m.st:=by
   rcases prog_whole s (by omega) with ⟨_,hn⟩ | ⟨m',_,hp',hW⟩
   ·rw [hp] at hn; cases hn
   ·rw [hp] at hp'; cases hp'; exact hW
  have hlen:(readZ s).2.length<=20:=(rStmts_goes s 22 (-1) 0 0 ((0,false),[]) ⟨Nat.zero_le _,Nat.zero_le _⟩).ok.len
  have hSl:(readZ s).2.length=m.st.length:=hW.1.len
  have HS:Hid (∀ r,CertSays (readZ s).2 (bytesOf c) r->ChkSays s c r):=fun r h=>by unfold ChkSays; rw [hp]; exact h
  have HD:Hid (∀ w1,Calls Tryz.prog 26 #[.string c] w1 (ROut w1 c)):=fun w1=>r_decode (by unfold maxLen at hc; omega)
  have HR:Hid (∀ w1,Calls Tryz.prog 20 #[.string s] w1 fun e w'=>∃ n:Nat,e=.returned (.tuple #[.pointer (some ⟨w1.heap.size,0,none⟩),.int .i64 n,.bool true])/\Below w1.heap.size w1 w'/\m.st.length<=20/\∃ vs vo P Q O,Rep w1.heap.size w' w1.heap.size m vs vo P Q O):=fun w1=>ref_again hp w1
  have HK:Hid (∀ {B r:Nat} {w1:World} {vs vo:Value} {P Q O:Nat->Nat} (v:Value) (L:List (Option (List Int))),Rep B w1 r m vs vo P Q O->ReadsL w1 v L->L.length=(readZ s).2.length+1->decF (bytesOf c)=some L->Calls Tryz.prog 25 #[.pointer (some ⟨r,0,none⟩),v] w1 fun e w'=>∃ a b,e=.returned (.tuple #[.int .i64 a,.int .i64 b])/\ChkSays s c (a,b)/\Below w1.heap.size w1 w'):=fun v L hrep hv hn hd=>by
   refine (r_checked hrep hp hW hlen v hv hn (dec_ok (bys c) hd).2.2.2).mono ?_
   rintro e w' ⟨a,b,rfl,h1,h2⟩
   refine ⟨a,b,rfl,HS.out _ ?_,h2⟩
   unfold CertSays
   rw [hd]
   show (if L.length ≠ (readZ s).2.length+1 then _ else _)
   rw [if_neg (by omega)]
   exact h1
  have HB:Hid (∀ L,decF (bytesOf c)=some L->L.length ≠ (readZ s).2.length+1->ChkSays s c (4,0)):=fun L hd hn=>HS.out _ (by unfold CertSays; rw [hd]; show (if L.length ≠ (readZ s).2.length+1 then ((4:Int),(0:Int))=(4,0) else _); rw [if_pos hn])
  have HB0:Hid (decF (bytesOf c)=none->ChkSays s c (4,0)):=fun hd=>HS.out _ (by unfold CertSays; rw [hd])
  rw [<- hSl] at hs HR
  clear hm hp hc hl hsz hW HS hSl
  generalize (readZ s).2.length=n at *
  go_enter Tryz.func8,Tryz.ntmps8
  go_wp2_with fail
  refine hs.mono ?_
  rintro e w1 ⟨rfl,hb1⟩
  have H1:Hid (Below w.heap.size w w1):=hb1
  clear hb1 hs
  go_wp2_with fail
  refine (HD.out w1).mono ?_
  rintro e w2 ⟨hb2,⟨hd,rfl⟩ | ⟨L,v,hd,rfl,hrl,a,nn,cc,rfl⟩⟩
  ·have H2:Hid (Below w.heap.size w w2/\ChkSays s c (4,0)):=⟨H1.out.trans (hb2.mono H1.out.size),HB0.out (by rw [<- decR_eq]; exact hd)⟩
   clear hb2 hd
   go_wp2_with fail
   go_ret2
   exact ⟨_,_,rfl,H2.out.2,H2.out.1⟩
  ·have HLl:Hid (nn=L.length):=by obtain ⟨_,_,e,_,_⟩:=hrl; cases e; exact (rfl:L.length=L.length)
   have H2:Hid (Below w.heap.size w w2/\decF (bytesOf c)=some L/\ReadsL w2 (.slice (some a) nn cc) L):=⟨H1.out.trans (hb2.mono H1.out.size),by rw [<- decR_eq]; exact hd,hrl⟩
   clear hb2 hd hrl
   by_cases hne:nn=n+1
   ·have hni:(nn:Int)=(n:Int)+1:=by omega
    have HNe:Hid (nn=n+1):=hne
    clear hne
    go_wp2_with fail
    refine (HR.out w2).mono ?_
    rintro e w3 ⟨n3,rfl,hb3,_,vs,vo,P,Q,O,hrep⟩
    have H3:Hid (Below w.heap.size w w3):=H2.out.1.trans (hb3.mono H2.out.1.size)
    have hck:=HK.out (.slice (some a) nn cc) L hrep (H2.out.2.2.keep hb3) (by rw [<- HLl.out]; exact HNe.out) H2.out.2.1
    clear hb3 hrep
    go_wp2_with fail
    refine hck.mono ?_
    rintro e w4 ⟨x,y,rfl,h4,hb4⟩
    have H4:Hid (Below w.heap.size w w4/\ChkSays s c (x,y)):=⟨H3.out.trans (hb4.mono H3.out.size),h4⟩
    clear hb4 h4 hck
    go_wp2_with fail
    go_ret2
    exact ⟨_,_,rfl,H4.out.2,H4.out.1⟩
   ·have hni:¬ (nn:Int)=(n:Int)+1:=by omega
    have HF:Hid (ChkSays s c (4,0)):=HB.out L H2.out.2.1 (by rw [<- HLl.out]; exact hne)
    clear hne
    go_wp2_with fail
    go_ret2
    exact ⟨_,_,rfl,HF.out,H2.out.1⟩
end Go.Proofs.YtffajooegiempaaGreatDoor

namespace Go.Proofs.YtffajooegiempaaGreatDoor
open Go.RowKit
variable {w:World}
def jnP (A B:Nat->Int) (k:Nat):Nat->Int:=fun f=>if f < k then mxR A B f else 0
theorem jnP_0 (A B:Nat->Int):rl (jnP A B 0)=List.replicate 32 0:=by
 unfold rl
 rw [List.map_congr_left (g:=fun _=>(0:Int)) (fun f _=>by unfold jnP; rw [if_neg (by omega)])]
 rfl
theorem jnP_s (A B:Nat->Int) (k:Nat):jnP A B (k+1)=upd (jnP A B k) k (mxR A B k):=by
 funext f
 show (if f < k+1 then mxR A B f else 0)=if f=k then mxR A B k else if f < k then mxR A B f else 0
 by_cases e:f=k
 ·subst e; rw [if_pos (by omega),if_pos rfl]
 ·rw [if_neg e]
  by_cases c:f < k
  ·rw [if_pos c,if_pos (by omega)]
  ·rw [if_neg c,if_neg (by omega)]
theorem upd_upd (R:Nat->Int) (k:Nat) (x y:Int):upd (upd R k x) k y=upd R k y:=by
 funext f
 unfold upd
 by_cases e:f=k
 ·rw [if_pos e,if_pos e]
 ·rw [if_neg e,if_neg e,if_neg e]
theorem ic_zero:(List.replicate 32 (Value.int .i64 0)).toArray=ic (List.replicate 32 0):=by
 unfold ic
 rw [List.map_replicate]
theorem r_both_some (ga gb:Nat) (A B:Nat->Int) (ha:At w ga (ic (rl A)) tNk) (hb:At w gb (ic (rl B)) tNk) :
  Calls Tryz.prog 24 #[.slice (some ⟨ga,0,none⟩) 32 32,.slice (some ⟨gb,0,none⟩) 32 32] w fun e w'=>e=.returned (.slice (some ⟨w.heap.size,0,none⟩) 32 32)/\At w' w.heap.size (ic (rl (mxR A B))) tNk/\Below w.heap.size w w':=by
 have hq1:∀ (w:World) (a:Option Addr) (n c:Nat),(binOp .eql 32 (.slice a n c) (.slice none 0 0)).run Tryz.prog w=.ok (.bool a.isNone) w:=fun w a n c=>Lib.run_eql_slice_nil w 32 tN a n c 0 0 Tryz.underlying32
 have hmk:∀ w,(Instr.makeSlice 32 (.int .i64 32) (.int .i64 32)).run Tryz.prog w=.ok (.slice (some ⟨w.heap.size,0,none⟩) 32 32) (w.alloc (.cells (List.replicate 32 (Value.int .i64 0)).toArray tNk)):=fun _=>by kernel_rfl
 obtain ⟨cur,hcur⟩:∃ cur,cur=(List.replicate 32 (Value.int .i64 0)).toArray:=⟨_,rfl⟩
 rw [<- hcur] at hmk
 have HBe:Hid (Below w.heap.size w (w.alloc (.cells cur tNk))):=(Below.refl _ _).alloc (Nat.le_refl _) _
 have HA0:Hid (At (w.alloc (.cells cur tNk)) w.heap.size (ic (rl (jnP A B 0))) tNk):=by
  show At _ _ _ _
  rw [jnP_0,<- ic_zero,<- hcur]; exact At.new _ _ _
 have HAB:Hid (At w ga (ic (rl A)) tNk/\At w gb (ic (rl B)) tNk):=⟨ha,hb⟩
 have HEnd:Hid (rl (jnP A B 32)=rl (mxR A B)):=by
  refine List.map_congr_left fun f hf=>?_
  have:f < 32:=by simpa using hf
  unfold jnP
  rw [if_pos this]
 clear ha hb hcur
 go_enter Tryz.func24,Tryz.ntmps24
 go_wp2_with fail
 go_loopw [6] (fun i wr=>∃ (f:Nat),f<=32/\i=.int .i64 f/\Hid (At wr w.heap.size (ic (rl (jnP A B f))) tNk/\Below w.heap.size w wr)) (fun i _=>32 - (intOf i).toNat)
 case atStart=>exact ⟨0,by omega,rfl,HA0.out,HBe.out⟩
 case round =>
  obtain ⟨f,hf,rfl,HR⟩:=hrel
  by_cases hlt:f < 32
  ·have hfi:(f:Int) < 32:=by omega
   obtain ⟨w4,rfl⟩:∃ w4,w4=wr:=⟨_,rfl⟩
   have la:=HAB.out.1.lt
   have lb:=HAB.out.2.lt
   have ca:=rl_cell (HAB.out.1.keep HR.out.2 la) hlt
   have cb:=rl_cell (HAB.out.2.keep HR.out.2 lb) hlt
   have co:=rl_cell HR.out.1 hlt
   have cf:=HR.out.1.free
   have hl:=HR.out.1.lt
   have na:ga ≠ w.heap.size:=by omega
   have nb:gb ≠ w.heap.size:=by omega
   have HS:Hid (jnP A B (f+1)=upd (jnP A B f) f (if A f < B f then B f else A f)):=jnP_s A B f
   generalize A f=x at *
   generalize B f=y at *
   by_cases hxy:x < y
   ·have HE:Hid (jnP A B (f+1)=upd (upd (jnP A B f) f x) f y):=by show _=_; rw [HS.out,if_pos hxy,upd_upd]
    clear HS
    go_wp2_with fail
    go_quiet (fail)
    go_wp2_with fail
    go_roundw
    case rel =>
     refine ⟨f+1,by omega,by go_num,?_,?_⟩
     ·rw [HE.out,<- rl_set,<- ic_set,<- rl_set,<- ic_set]
      exact At.put (At.drewN (HR.out.1.put f _) _) f _
     ·exact (below_drewN (HR.out.2.setCell (Nat.le_refl _) _) _).setCell (Nat.le_refl _) _
    case measure=>simp [intOf]; omega
   ·have HE:Hid (jnP A B (f+1)=upd (jnP A B f) f x):=by show _=_; rw [HS.out,if_neg hxy]
    clear HS
    go_wp2_with fail
    go_quiet (fail)
    go_wp2_with fail
    go_roundw
    case rel =>
     refine ⟨f+1,by omega,by go_num,?_,?_⟩
     ·rw [HE.out,<- rl_set,<- ic_set]
      exact At.drewN (HR.out.1.put f _) _
     ·exact below_drewN (HR.out.2.setCell (Nat.le_refl _) _) _
    case measure=>simp [intOf]; omega
  ·have hf32:f=32:=by omega
   subst hf32
   go_wp2_with fail
   go_ret
   exact ⟨rfl,by rw [<- HEnd.out]; exact HR.out.1,HR.out.2⟩
theorem r_both_nil (a:Option Addr) (n c:Nat):Calls Tryz.prog 24 #[.slice none 0 0,.slice a n c] w fun e w'=>e=.returned (.slice a n c)/\w'=w:=by
 have hq1:∀ (w:World) (a:Option Addr) (n c:Nat),(binOp .eql 32 (.slice a n c) (.slice none 0 0)).run Tryz.prog w=.ok (.bool a.isNone) w:=fun w a n c=>Lib.run_eql_slice_nil w 32 tN a n c 0 0 Tryz.underlying32
 go_enter Tryz.func24,Tryz.ntmps24
 go_wp2_with fail
 go_ret
 exact ⟨rfl,rfl⟩
theorem r_both_lin (a:Addr) (n c:Nat):Calls Tryz.prog 24 #[.slice (some a) n c,.slice none 0 0] w fun e w'=>e=.returned (.slice (some a) n c)/\w'=w:=by
 have hq1:∀ (w:World) (a:Option Addr) (n c:Nat),(binOp .eql 32 (.slice a n c) (.slice none 0 0)).run Tryz.prog w=.ok (.bool a.isNone) w:=fun w a n c=>Lib.run_eql_slice_nil w 32 tN a n c 0 0 Tryz.underlying32
 go_enter Tryz.func24,Tryz.ntmps24
 go_wp2_with fail
 go_ret
 exact ⟨rfl,rfl⟩
end Go.Proofs.YtffajooegiempaaGreatDoor

namespace Go.Proofs.YtffajooegiempaaGreatDoor
open Go.RowKit
variable {w:World}
abbrev tKl:TypeId:=32
theorem tKl_ne:tNo ≠ tKl:=by decide
def KAt (w:World) (b:Nat) (K:Kl):Prop:=∃ cs:Array Value,At w b cs tKl/\∀ i,i < K.length->∃ u,cs[i]?=some u/\KV w (K.getD i none) u
theorem KAt.lt {b:Nat} {K:Kl} (h:KAt w b K):b < w.heap.size:=by obtain ⟨cs,h1,_⟩:=h; exact h1.lt
theorem KAt.keep {w w':World} {b:Nat} {K:Kl} (h:KAt w b K) (hb:Below w.heap.size w w'):KAt w' b K:=by
 obtain ⟨cs,h1,h2⟩:=h
 refine ⟨cs,h1.keep hb h1.lt,fun i hi=>?_⟩
 obtain ⟨u,e,k⟩:=h2 i hi
 exact ⟨u,e,k.keep hb⟩
theorem KAt.cell {b:Nat} {K:Kl} (h:KAt w b K) {i:Nat} (hi:i < K.length):∃ u,w.cell? ⟨b,i,none⟩=some u/\KV w (K.getD i none) u:=by
 obtain ⟨cs,h1,h2⟩:=h
 obtain ⟨u,e,k⟩:=h2 i hi
 exact ⟨u,by rw [h1.cell]; exact e,k⟩
theorem KV.other {b q:Nat} {v:Value} {cs:Array Value} (hb:At w b cs tKl) {o:Option (Nat->Int)} {u:Value} (h:KV w o u):KV (w.setCell ⟨b,q,none⟩ v) o u:=by
 cases o with
 | none=>exact h
 | some M=>obtain ⟨g,e,ha⟩:=h; exact ⟨g,e,ha.other q v (ha.ne hb tKl_ne)⟩
theorem KAt.put {b q:Nat} {K:Kl} (h:KAt w b K) (hq:q < K.length) {o:Option (Nat->Int)} {v:Value} (hv:KV w o v):KAt (w.setCell ⟨b,q,none⟩ v) b (K.set q o):=by
 obtain ⟨cs,h1,h2⟩:=h
 refine ⟨_,h1.put q v,fun i hi=>?_⟩
 rw [List.length_set] at hi
 rw [kset_at,Array.getElem?_setIfInBounds]
 obtain ⟨u,e,k⟩:=h2 i hi
 by_cases c:q=i
 ·subst c
  have:q < cs.size:=by
   rcases Nat.lt_or_ge q cs.size with z | z
   ·exact z
   ·rw [Array.getElem?_eq_none z] at e; cases e
  rw [if_pos rfl,if_pos this,if_pos ⟨rfl,hq⟩]
  exact ⟨v,rfl,hv.other h1⟩
 ·rw [if_neg c,if_neg (fun z=>c z.1)]
  exact ⟨u,e,k.other h1⟩
theorem r_both_k {o:Option (Nat->Int)} {u v:Value} {e:Bool} {M:Nat->Int} (ho:∀ A,o=some A->∀ a,a < 64->A a<=NB) (hM:e=false->∀ a,a < 64->M a<=NB) (hu:KV w o u) (hv:LV w e M v) :
  Calls Tryz.prog 24 #[u,v] w fun x w'=>∃ a n c,x=.returned (.slice a n c)/\KV w' (jnO o e M) (.slice a n c)/\Below w.heap.size w w':=by
 cases o with
 | none =>
  obtain rfl:u=.slice none 0 0:=hu
  rcases hv with ⟨rfl,rfl⟩ | ⟨rfl,g,rfl,ha⟩
  ·refine (r_both_nil none 0 0).mono ?_
   rintro x w3 ⟨rfl,rfl⟩
   exact ⟨_,_,_,rfl,rfl,Below.refl _ _⟩
  ·refine (r_both_nil (some ⟨g,0,none⟩) 32 32).mono ?_
   rintro x w3 ⟨rfl,rfl⟩
   exact ⟨_,_,_,rfl,⟨g,rfl,ha⟩,Below.refl _ _⟩
 | some A =>
  obtain ⟨g,rfl,ha⟩:=hu
  rcases hv with ⟨rfl,rfl⟩ | ⟨rfl,q,rfl,hq⟩
  ·refine (r_both_lin ⟨g,0,none⟩ 32 32).mono ?_
   rintro x w3 ⟨rfl,rfl⟩
   exact ⟨_,_,_,rfl,⟨g,rfl,ha⟩,Below.refl _ _⟩
  ·refine (r_both_some g q (bd A) (bd M) ha hq).mono ?_
   rintro x w3 ⟨rfl,ha3,hb3⟩
   refine ⟨_,_,_,rfl,⟨_,rfl,?_⟩,hb3⟩
   have:rl (mxR (bd A) (bd M))=bdL (jF A M 64):=bdL_of fun f hf=>(jo_bd (ho A rfl) (hM rfl) hf).symm
   rw [<- this]
   exact ha3
theorem k_beg {n b g:Nat} (hb:At w b (((List.replicate (n+1) (Value.slice none 0 0)).toArray).setIfInBounds 0 (.slice (some ⟨g,0,none⟩) 32 32)) tKl) (hg:At w g ((List.replicate 32 (Value.int .i64 0)).toArray) tNo):KAt w b (some (fun _=>0) :: List.replicate n none):=by
 have hz:bdL (fun _=>0)=List.replicate 32 0:=by unfold bdL; rw [show bd (fun _=>0)=fun _=>0 from funext bd_zero]; rfl
 refine ⟨_,hb,fun i hi=>?_⟩
 rw [List.length_cons,List.length_replicate] at hi
 rw [Array.getElem?_setIfInBounds]
 cases i with
 | zero =>
  rw [if_pos rfl,if_pos (by simp)]
  exact ⟨_,rfl,g,rfl,by rw [hz,<- ic_zero]; exact hg⟩
 | succ i =>
  rw [if_neg (by omega)]
  refine ⟨.slice none 0 0,by simp [hi],?_⟩
  rw [List.getD_cons_succ,List.getD_eq_getElem?_getD,List.getElem?_replicate]
  split <;> rfl
def StrOut (w:World) (F:List Ds):Ending->World->Prop:=fun e w'=>∃ a b,e=.returned (.tuple #[.bool a,.bool b])/\(a=true->∃ L,CertOk F L)/\Below w.heap.size w w'
end Go.Proofs.YtffajooegiempaaGreatDoor

