import Derived.Test.YtffajooegiempaaGreatDoorJ33
import Derived.Deep.RegionWith
set_option maxRecDepth 100000
set_option maxHeartbeats 6400000
namespace Go.Proofs.YtffajooegiempaaGreatDoor
variable {F:List Ds} {L:List (Option (List Int))} {M N:Nat->Int}
def s32 (M:Nat->Int):Nat->Nat
 | 0=>0
 | f+1=>s32 M f+(M (fs f*8+ss f)+1998).toNat
theorem fs_64 {f:Nat} (hf:f < 32):fs f*8+ss f < 64:=by have:=fs_lt f hf; have:=ss_lt f hf; omega
theorem s32_le (h:Wn M):∀ n,n<=32->s32 M n<=3996*n
 | 0,_=>Nat.zero_le _
 | n+1,hn=>by
  have:=s32_le h n (by omega)
  have:=h.all (fs_64 (f:=n) (by omega))
  rw [s32]
  omega
theorem s32_mono (h:Le M N):∀ n,n<=32->s32 M n<=s32 N n
 | 0,_=>Nat.le_refl _
 | n+1,hn=>by
  have:=s32_mono h n (by omega)
  have:=h _ (fs_64 (f:=n) (by omega))
  rw [s32,s32]
  omega
theorem s32_lt (h:Le M N) (hM:Wn M) {f:Nat} (hf:f < 32) (hlt:M (fs f*8+ss f) < N (fs f*8+ss f)):∀ n,n<=32->f < n->s32 M n+1<=s32 N n
 | 0,_,h0=>absurd h0 (by omega)
 | n+1,hn,hfn=>by
  have lo:=hM.all (fs_64 (f:=n) (by omega))
  have le:=h _ (fs_64 (f:=n) (by omega))
  rw [s32,s32]
  rcases Nat.lt_or_eq_of_le (Nat.lt_succ_iff.1 hfn) with q | q
  ·have:=s32_lt h hM hf hlt n (by omega) q
   omega
  ·subst q
   have:=s32_mono h f (by omega)
   omega
def muP (p:Pl):Nat:=if p.e=true then 0 else 1+s32 p.M 32
def muS (l:List Pl):Nat:=(l.map muP).sum
theorem mu_set:∀ (l:List Pl) (k:Nat),k < l.length->∀ p,muS (l.set k p)+muP (l.getD k p0)=muS l+muP p
 | [],k,h,_=>absurd h (by simp)
 | a :: l,0,_,p=>by simp [muS,List.getD]; omega
 | a :: l,k+1,h,p=>by
  have:=mu_set l k (by simpa using h) p
  simp [muS,List.getD] at this |-
  omega
theorem muP_le {p:Pl} (h:PlOk p):muP p<=127873:=by
 unfold muP
 rcases h with ⟨h1,h2⟩ | ⟨h1,_⟩
 ·rw [if_neg (by rw [h1]; decide)]
  have:=s32_le h2 32 (Nat.le_refl _)
  omega
 ·rw [if_pos h1]; omega
theorem muS_le:∀ (l:List Pl),(∀ i,PlOk (l.getD i p0))->muS l<=127873*l.length
 | [],_=>Nat.zero_le _
 | a :: l,h=>by
  have h1:=muP_le (h 0)
  have h2:=muS_le l (fun i=>h (i+1))
  have e:muS (a :: l)=muP a+muS l:=by simp [muS]
  have h3:muP a<=127873:=h1
  rw [e,List.length_cons]
  omega
theorem clm_mu {s:SS} (hg:GoodS s) (pt:Int) {e:Bool} {M:Nat->Int} (hM:e=false->Wn M):clmS s pt e M=s \/ (muS s.1+1<=muS (clmS s pt e M).1/\(clmS s pt e M).2=true):=by
 unfold clmS
 split
 ·exact .inl rfl
 ·rename_i hp
  split
  ·exact .inl rfl
  ·rename_i q
   right
   refine ⟨?_,rfl⟩
   have hk:pt.toNat < s.1.length:=by omega
   have he:e=false:=by
    cases e with
    | false=>rfl
    | true=>exact absurd rfl q
   subst he
   have hw:=hM rfl
   have h1:=mu_set s.1 pt.toNat hk ⟨joE (s.1.getD pt.toNat p0).e false,joM (s.1.getD pt.toNat p0).e false (s.1.getD pt.toNat p0).M M,true⟩
   have key:muP (s.1.getD pt.toNat p0)+1<=muP ⟨joE (s.1.getD pt.toNat p0).e false,joM (s.1.getD pt.toNat p0).e false (s.1.getD pt.toNat p0).M M,true⟩:=by
    rcases hg pt.toNat with ⟨g1,g2⟩ | ⟨g1,g2⟩
    ·rw [g1] at q |-
     have hno:¬ Le M (s.1.getD pt.toNat p0).M:=fun z=>q (wi_iff.2 (.inr ⟨rfl,rfl,z⟩))
     have hex:∃ f,f < 32/\(s.1.getD pt.toNat p0).M (fs f*8+ss f) < M (fs f*8+ss f):=by
      refine Classical.byContradiction fun hn=>hno fun a ha=>?_
      have e:a=a / 8*8+a % 8:=by omega
      have hi:a / 8 < 8:=by omega
      have hj:a % 8 < 8:=by omega
      rw [e]
      generalize a / 8=i at hi
      generalize a % 8=j at hj
      by_cases o:j=opp i
      ·rw [o,hw.tc.zero i hi,g2.tc.zero i hi]; exact Int.le_refl _
      ·obtain ⟨f1,f2⟩:=nf_ok i hi j hj o
       have:¬ (s.1.getD pt.toNat p0).M (fs (nf i j)*8+ss (nf i j)) < M (fs (nf i j)*8+ss (nf i j)):=fun z=>hn ⟨_,f1,z⟩
       rcases f2 with ⟨z1,z2⟩ | ⟨z1,z2⟩
       ·rw [z1,z2] at this; omega
       ·rw [z1,z2,hw.tc.sym j i hj hi,g2.tc.sym j i hj hi] at this; omega
     obtain ⟨f,hf,hlt⟩:=hex
     have hle:Le (s.1.getD pt.toNat p0).M (jF (s.1.getD pt.toNat p0).M M 64):=fun a ha=>(jF_mx _ M ha).2.1
     have h2:=(jF_mx (s.1.getD pt.toNat p0).M M (fs_64 hf)).2.2
     have:=s32_lt hle g2 hf (by omega) 32 (Nat.le_refl _) hf
     have e1:muP (s.1.getD pt.toNat p0)=1+s32 (s.1.getD pt.toNat p0).M 32:=by unfold muP; rw [if_neg (by rw [g1]; decide)]
     have e2:muP ⟨joE false false,joM false false (s.1.getD pt.toNat p0).M M,true⟩=1+s32 (jF (s.1.getD pt.toNat p0).M M 64) 32:=rfl
     rw [e1,e2]
     omega
    ·have e1:muP (s.1.getD pt.toNat p0)=0:=by unfold muP; rw [if_pos g1]
     rw [e1,g1]
     have e2:muP ⟨joE true false,joM true false (s.1.getD pt.toNat p0).M M,true⟩=1+s32 M 32:=rfl
     rw [e2]
     omega
   show muS s.1+1<=muS (s.1.set pt.toNat _)
   omega
def UpS (s t:SS):Prop:=muS s.1<=muS t.1/\(t.2=true->s.2=true \/ muS s.1+1<=muS t.1)
theorem UpS.refl (s:SS):UpS s s:=⟨Nat.le_refl _,fun h=>.inl h⟩
theorem UpS.trans {s t u:SS} (h:UpS s t) (k:UpS t u):UpS s u:=by
 refine ⟨Nat.le_trans h.1 k.1,fun hu=>?_⟩
 have:=h.1
 have:=k.1
 rcases k.2 hu with q | q
 ·rcases h.2 q with r | r
  ·exact .inl r
  ·exact .inr (by omega)
 ·exact .inr (by omega)
theorem clm_up {s:SS} (hg:GoodS s) (pt:Int) {e:Bool} {M:Nat->Int} (hM:e=false->Wn M):UpS s (clmS s pt e M):=by
 rcases clm_mu hg pt hM with q | q
 ·rw [q]; exact UpS.refl s
 ·exact ⟨by omega,fun _=>.inr q.1⟩
theorem wys_up {s:SS} (h:GoodS s) {k:Nat} (hx:DQ (F.getD k (newDs 0 0))) {e:Bool} {M:Nat->Int} (hM:e=false->Wn M) (hs:sfP e M (F.getD k (newDs 0 0))=true):∀ n,UpS s (wysS F k e M s n)
 | 0=>UpS.refl s
 | n+1=>by
  refine (wys_up h hx hM hs n).trans (clm_up (wys_good h hx hM hs n) _ fun he=>?_)
  cases e with
  | true=>cases he
  | false=>exact wn_post (hM rfl) hx hs n he
theorem flw_up {s:SS} (h:GoodS s) {k:Nat} (hx:k < F.length->DQ (F.getD k (newDs 0 0))) {e:Bool} {M:Nat->Int} (hM:e=false->Wn M):UpS s (flwS F k e M s):=by
 unfold flwS
 split
 ·rename_i q
  split
  ·rename_i hs
   exact wys_up h (hx q) hM hs _
  ·exact UpS.refl s
 ·exact UpS.refl s
theorem pnt_up {s:SS} (h:GoodS s) {k:Nat} (hk:k < s.1.length) (hx:k < F.length->DQ (F.getD k (newDs 0 0))):UpS s (pntS F k s):=by
 unfold pntS
 split
 ·have h1:=mu_set s.1 k hk ⟨(s.1.getD k p0).e,(s.1.getD k p0).M,false⟩
  have e:muP ⟨(s.1.getD k p0).e,(s.1.getD k p0).M,false⟩=muP (s.1.getD k p0):=rfl
  have h2:UpS s (s.1.set k ⟨(s.1.getD k p0).e,(s.1.getD k p0).M,false⟩,s.2):=⟨by show muS s.1<=muS (s.1.set k _); omega,fun z=>.inl z⟩
  refine h2.trans (flw_up (good_set h _ ?_ _) hx ?_)
  ·rcases h k with q | q
   ·exact .inl q
   ·exact .inr q
  ·intro he
   rcases h k with q | q
   ·exact q.2
   ·rw [q.1] at he; cases he
 ·exact UpS.refl s
theorem rnd_up {s:SS} (h:GoodS s) (hx:∀ k,k < F.length->DQ (F.getD k (newDs 0 0))):∀ n,n<=s.1.length->UpS (s.1,false) (rndS F s n)
 | 0,_=>UpS.refl _
 | n+1,hn=>(rnd_up h hx n (by omega)).trans (pnt_up (rnd_good h hx n) (by rw [rndS_len]; omega) (hx n))
theorem it_up (hx:∀ k,k < F.length->DQ (F.getD k (newDs 0 0))):∀ r {s:SS},GoodS s->(itS F r s).2=false \/ muS s.1+r<=muS (itS F r s).1
 | 0,s,_=>.inr (Nat.le_refl _)
 | r+1,s,h=>by
  rw [itS]
  split
  ·have h1:=rnd_up h hx s.1.length (Nat.le_refl _)
   have hg:=rnd_good h hx (n:=s.1.length)
   cases ht:(rndS F s s.1.length).2 with
   | false=>left; rw [it_stop F r ht]; exact ht
   | true =>
    have h2:=(h1.2 ht).resolve_left (fun z=>Bool.noConfusion z)
    rcases it_up hx r hg with q | q
    ·exact .inl q
    ·right
     have h3:muS s.1+1<=muS (rndS F s s.1.length).1:=h2
     omega
  ·rename_i q
   left
   simpa using q
theorem fin_stop (hx:∀ k,k < F.length->DQ (F.getD k (newDs 0 0))) (hl:F.length<=20):(finS F).2=false:=by
 rcases it_up hx 2685334 (beg_good F.length) with q | q
 ·exact q
 ·exfalso
  have h1:=muS_le (finS F).1 (fin_good hx)
  rw [fin_len] at h1
  have h2:muS (begS F.length).1+2685334<=muS (finS F).1:=q
  omega
structure EndS (F:List Ds) (L:List (Option (List Int))) (s:SS):Prop where
 len:s.1.length=F.length+1
 good:GoodS s
 ab:AbS L s
 wy:WyS F s
 no:s.2=false->∀ i,i < F.length->(at_ s i).wt=false
 or_:wiB false (at_ s 0).e (fun _=>0) (at_ s 0).M=true
theorem set_in {s:SS} {k:Nat} (hk:k < s.1.length) (b:Bool) (i:Nat):wiB (at_ s i).e (at_ (s.1.set k ⟨(at_ s k).e,(at_ s k).M,b⟩,s.2) i).e (at_ s i).M (at_ (s.1.set k ⟨(at_ s k).e,(at_ s k).M,b⟩,s.2) i).M=true:=by
 show wiB (at_ s i).e ((s.1.set k _).getD i p0).e (at_ s i).M ((s.1.set k _).getD i p0).M=true
 rw [plset_at hk]
 by_cases c:i=k
 ·rw [if_pos c,c]; exact wi_refl _ _
 ·rw [if_neg c]; exact wi_refl _ _
theorem flw_gr (F:List Ds) (k:Nat) (e:Bool) (M:Nat->Int) (s:SS):GrS s (flwS F k e M s):=by
 unfold flwS
 split
 ·split
  ·exact wys_gr F k e M s _
  ·exact GrS.refl s
 ·exact GrS.refl s
theorem pnt_in {s:SS} {k:Nat} (hk:k < s.1.length) (i:Nat):wiB (at_ s i).e (at_ (pntS F k s) i).e (at_ s i).M (at_ (pntS F k s) i).M=true:=by
 unfold pntS
 split
 ·exact wi_trans (set_in hk false i) ((flw_gr F k _ _ _).in_ i)
 ·exact wi_refl _ _
theorem rnd_in {s:SS} (i:Nat):∀ n,n<=s.1.length->wiB (at_ s i).e (at_ (rndS F s n) i).e (at_ s i).M (at_ (rndS F s n) i).M=true
 | 0,_=>wi_refl _ _
 | n+1,hn=>wi_trans (rnd_in i n (by omega)) (pnt_in (by rw [rndS_len]; omega) i)
theorem end_it (hC:CertOk F L) (hD:∀ k,k < F.length->DQ (F.getD k (newDs 0 0))):∀ r {s:SS},EndS F L s->EndS F L (itS F r s)
 | 0,_,h=>h
 | r+1,s,h=>by
  rw [itS]
  split
  ·exact end_it hC hD r ⟨by rw [rndS_len]; exact h.len,rnd_good h.good hD _,rnd_ab hC hD h.ab h.good _,rnd_wy hC hD h.len h.wy h.ab h.good _ (Nat.le_refl _),fun z i hi=>rnd_no _ (Nat.le_refl _) z i (by rw [h.len]; omega),wi_trans h.or_ (rnd_in 0 _ (Nat.le_refl _))⟩
  ·exact h
theorem end_beg (hC:CertOk F L):EndS F L (begS F.length):=by
 have hrep:∀ i,at_ (List.replicate (F.length+1) p0,false) i=p0:=fun i=>by
  show (List.replicate (F.length+1) p0).getD i p0=p0
  rw [List.getD_eq_getElem?_getD,List.getElem?_replicate]
  split <;> rfl
 have hor:=clm_in (s:=(List.replicate (F.length+1) p0,false)) (pt:=0) (by decide) (by simp) false (fun _=>0)
 have h2:(begS F.length).2=true:=by
  rcases clm_mu (s:=(List.replicate (F.length+1) p0,false)) (fun i=>by rw [show (List.replicate (F.length+1) p0,false).1.getD i p0=p0 from hrep i]; exact PlOk.p0) 0 (e:=false) (M:=fun _=>0) (fun _=>wn_zero) with q | q
  ·exfalso
   rw [q,show (0:Int).toNat=0 from rfl,hrep 0] at hor
   cases hor
  ·exact q.2
 refine ⟨beg_len _,beg_good _,beg_ab hC _,?_,fun z=>?_,hor⟩
 ·refine WyS.gr (s:=(List.replicate (F.length+1) p0,false)) (fun k _ _=>?_) (clm_gr _ _ _ _)
  rw [hrep k]
  exact fun way _=>wi_iff.2 (.inl rfl)
 ·rw [h2] at z; cases z
theorem ls_same (h:Wn M):ovE (bdL M)=false/\Le M (ovM (bdL M))/\Le (ovM (bdL M)) M:=by
 have hok:okL (bdL M):=okp_ok (by
  intro l e
  cases e
  exact ⟨bdL_len _,fun f hf=>by rw [bdL_getD _ hf]; exact bd_small h hf⟩)
 have up:Le M (ovM (bdL M)):=h.tc.below_sharp (lay_above h.tc hok (fun f hf=>by rw [bdL_getD _ hf]; exact Int.le_refl _)) (lay_top hok)
 refine ⟨conF_no (fun i hi=>?_),up,fun a ha=>Int.le_trans (sharp_le _ a) ?_⟩
 ·have z:=up (i*8+opp i) (by have:=opp_lt hi; omega)
  rw [h.tc.zero i hi] at z
  exact z
 ·have e:a=a / 8*8+a % 8:=by omega
  have hi:a / 8 < 8:=by omega
  have hj:a % 8 < 8:=by omega
  rw [e]
  generalize a / 8=i at hi
  generalize a % 8=j at hj
  by_cases e1:j=opp i
  ·rw [e1,lay_opp (bdL M) i hi,h.tc.zero i hi]; exact Int.le_refl _
  ·rw [lay_nf (bdL M) hi hj e1]
   by_cases e2:i=j
   ·subst e2
    rw [nf_self]
    have b:=bv_lo (bdL M) hi
    have hb:(bdL M).getD i 0=bd M i:=bdL_getD M (by omega)
    have d:=gr_diag h hi
    have e3:bd M i=mo M i i:=by
     obtain ⟨q1,q2⟩:=fs_lo i hi
     unfold bd mo
     rw [q1,q2]
    have al:=h.all (k:=i*8+i) (by omega)
    have hne:(bdL M).getD i 0 ≠ NB:=by rw [hb,e3]; unfold NB; omega
    rw [b.2 hne,hb,e3]
    omega
   ·rw [bv_hi (bdL M) hi hj e2 e1,bdL_getD M (nf_ok i hi j hj e1).1,bd_nf h.tc.sym hi hj e2 e1]
    exact Int.le_refl _
theorem complete (hC:CertOk F L) (hD:∀ k,k < F.length->DQ (F.getD k (newDs 0 0))) (hl:F.length<=20):∀ r,CertSays F (bytesOf (crtF F)) r->r=(0,0):=by
 intro r h
 refine h.one ?_
 have hE:EndS F L (finS F):=end_it hC hD _ (end_beg hC)
 have hst:=fin_stop hD hl
 have hok:=lst_okp hD
 unfold CertSays
 rw [crt_dec hD hl]
 show (if (lstF F).length ≠ F.length+1 then ((0:Int),(0:Int))=(4,0) else _)
 rw [if_neg (by rw [lst_len]; omega)]
 have hget:∀ k:Nat,k < F.length+1->atL (lstF F) (k:Int)=lsP (at_ (finS F) k):=fun k hk=>by
  unfold atL
  rw [if_neg (by omega),Int.toNat_natCast]
  have hk':k < (finS F).1.length:=by rw [hE.len]; exact hk
  unfold lstF
  simp [List.getD,hk']
 -- from a point of the search to what is read of its list
 have to:∀ {e:Bool} {A:Nat->Int} {k:Nat},k < F.length+1->wiB e (at_ (finS F) k).e A (at_ (finS F) k).M=true->wiB e (cE (atL (lstF F) (k:Int))) A (cM (atL (lstF F) (k:Int)))=true:=fun {e A k} hk hw=>by
  rw [hget k hk]
  rcases wi_iff.1 hw with q | ⟨q1,q2,q3⟩
  ·exact wi_iff.2 (.inl q)
  ·rcases hE.good k with ⟨g1,g2⟩ | ⟨g1,_⟩
   ·have hs:=ls_same g2
    have e1:lsP (at_ (finS F) k)=some (bdL (at_ (finS F) k).M):=by unfold lsP; rw [if_neg (by rw [g1]; decide)]
    rw [e1]
    exact wi_iff.2 (.inr ⟨q1,hs.1,q3.trans hs.2.1⟩)
   ·rw [g1] at q2; cases q2
 have h0:wiB false (cE (atL (lstF F) 0)) (fun _=>0) (cM (atL (lstF F) 0))=true:=to (k:=0) (by omega) hE.or_
 rw [h0,if_neg (by decide)]
 refine .inl ⟨fun k hk=>?_,rfl⟩
 have hx:=hD k hk
 have hcl:=hE.wy k hk (hE.no hst k hk)
 have hsay:=(ab_says hC hD (hE.good k) hk (hE.ab k)).1
 unfold chkP
 have gk:=hget k (by omega)
 rcases hE.good k with ⟨g1,g2⟩ | ⟨g1,_⟩
 ·have hs:=ls_same g2
  have e1:lsP (at_ (finS F) k)=some (bdL (at_ (finS F) k).M):=by unfold lsP; rw [if_neg (by rw [g1]; decide)]
  have eE:cE (atL (lstF F) (k:Int))=false:=by rw [gk,e1]; exact hs.1
  have eM:cM (atL (lstF F) (k:Int))=ovM (bdL (at_ (finS F) k).M):=by rw [gk,e1]; rfl
  have hT:TQ (cM (atL (lstF F) (k:Int))):=c_tq (atL_ok hok _) eE
  have hWn:Wn (cM (atL (lstF F) (k:Int))):=⟨hT.tc,fun i hi=>by
   rw [eM]
   exact Int.le_trans (hs.2.2 (i*8+i) (by omega)) (g2.box i hi)⟩
  have hle:Le (cM (atL (lstF F) (k:Int))) (at_ (finS F) k).M:=by rw [eM]; exact hs.2.2
  rw [g1] at hsay
  have hsf:sfP (cE (atL (lstF F) (k:Int))) (cM (atL (lstF F) (k:Int))) (F.getD k (newDs 0 0))=true:=by rw [eE]; exact sf_mono hle g2.tc.hi hx hsay
  rw [hsf,if_neg (by decide),if_pos]
  have all:∀ n,n<=(waysP (F.getD k (newDs 0 0)).kind).toNat->allN (wayP F (lstF F) k) n=true:=by
   intro n
   induction n with
   | zero=>intro _; rfl
   | succ n ih =>
    intro hn
    show (allN (wayP F (lstF F) k) n && wayP F (lstF F) k n)=true
    rw [ih (by omega),Bool.true_and]
    have hz:=nextP_in (F:=F) k n (next_z F k hk n (by omega))
    obtain ⟨q,hq⟩:∃ q:Nat,(nextP F k n).1=(q:Int):=⟨_,(Int.toNat_of_nonneg hz.1).symm⟩
    have hc:=hcl n (by omega)
    rw [hq,Int.toNat_natCast,g1] at hc
    unfold wayP
    rw [hq,eE]
    refine to (by omega) ?_
    cases hpe:poE false (cM (atL (lstF F) (k:Int))) (F.getD k (newDs 0 0)) n with
    | true=>exact wi_iff.2 (.inl rfl)
    | false =>
     obtain ⟨a,b⟩:=po_mono hWn g2.tq hle hx n hpe
     rw [a] at hc
     obtain ⟨_,c2,c3⟩:=(wi_iff.1 hc).resolve_left (by decide)
     exact wi_iff.2 (.inr ⟨rfl,c2,b.trans c3⟩)
  exact all _ (Nat.le_refl _)
 ·have e1:lsP (at_ (finS F) k)=none:=by unfold lsP; rw [if_pos g1]
  rw [gk,e1]
  have e2:sfP (cE none) (cM none) (F.getD k (newDs 0 0))=true:=rfl
  rw [e2,if_neg (by decide),if_pos]
  have all:∀ n,allN (wayP F (lstF F) k) n=true:=by
   intro n
   induction n with
   | zero=>rfl
   | succ n ih =>
    show (allN (wayP F (lstF F) k) n && wayP F (lstF F) k n)=true
    rw [ih,Bool.true_and]
    unfold wayP
    rw [gk,e1]
    exact wi_iff.2 (.inl rfl)
  exact all _
end Go.Proofs.YtffajooegiempaaGreatDoor

namespace Go.Proofs.YtffajooegiempaaGreatDoor
open Go.RowKit
variable {w:World} {s:ByteArray}
theorem lpF_succ (b:List Int) (k i:Nat) (L:List (Option (List Int))):lpF b (k+1) i L=match lp1 b i with | none=>none | some y=>lpF b k y.1 (L ++ [y.2]):=rfl
theorem inF_succ (b:List Int) (k i:Nat) (o:List Int):inF b (k+1) i o=if i+3<=b.length/\b.getD i 0 < 32 then inF b k (i+3) (o.set (b.getD i 0).toNat (256*b.getD (i+1) 0+b.getD (i+2) 0 - 4000)) else none:=rfl
theorem str_eq (a b:ByteArray):(a.toList == b.toList)=true ↔ a=b:=by
 rw [ByteArray.toList_eq,ByteArray.toList_eq]
 obtain ⟨⟨x⟩⟩:=a
 obtain ⟨⟨y⟩⟩:=b
 simp
theorem str_ne {a b:ByteArray} (h:a ≠ b):(a.toList == b.toList)=false:=by
 cases e:(a.toList == b.toList) with
 | false=>rfl
 | true=>exact absurd ((str_eq a b).1 e) h
theorem PV_nil {w:World} {base:Nat}:PV w base (.slice none 0 0) none:=rfl
theorem r_decode_ok (hs:s.size<=9223372036854775807) (h0:0 < s.size) (h1:1<=(bytesOf s).getD 0 0) (h21:(bytesOf s).getD 0 0<=21):Calls Tryz.prog 26 #[.string s] w (ROut w s):=by
 rw [byte_at s 0 h0] at h1 h21
 obtain ⟨n,hn⟩:∃ n:Nat,((s[0]).toNat:Int)=(n:Int):=⟨_,rfl⟩
 obtain ⟨b,hb⟩:∃ b,b=bytesOf s:=⟨_,rfl⟩
 have HE:Hid (looF b=lpF b n 1 []):=by
  show _=_
  rw [hb]
  unfold looF
  rw [bytesOf_len,byte_at s 0 h0,hn,if_neg (by omega),Int.toNat_natCast]
 have HD:Hid (decR s=match looF b with | none=>none | some L=>if (encR L).2=0/\strOfNums (encR L).1=s then some L else none):=by rw [hb]; rfl
 have HBy:Hid (∀ k (h:k < s.size),b.getD k 0=((s[k]).toNat:Int)):=by rw [hb]; exact byte_at s
 have HBl:Hid (b.length=s.size):=by rw [hb]; exact bytesOf_len s
 rw [hn] at h1 h21
 have hw0:wrap64 (n:Int)=(n:Int):=by unfold wrap64; omega
 have z0:¬ (s.size:Int) < 1:=by omega
 have z1:¬ (n:Int) < 1:=by omega
 have z2:¬ (21:Int) < (n:Int):=by omega
 have hmk:∀ w,(Instr.makeSlice 32 (.int .i64 32) (.int .i64 32)).run Tryz.prog w=.ok (.slice (some ⟨w.heap.size,0,none⟩) 32 32) (w.alloc (.cells (ic (List.replicate 32 0)) 3)):=fun _=>by kernel_rfl
 obtain ⟨i0,hi0,hz0,hz1,hz2⟩:=info_parts (P:=Tryz.prog) (e:=32) (z:=.slice none 0 0) (size:=1) (bytes:=24) (by kernel_rfl)
 obtain ⟨zl,hzl⟩:∃ zl,zl=List.replicate 32 (0:Int):=⟨_,rfl⟩
 have HL0:Hid (zl.length=32):=by show _=_; rw [hzl]; simp
 rw [<- hzl] at hmk
 clear hb hzl
 go_enter Tryz.func26,Tryz.ntmps26
 go_wp2_with fail
 go_loopw [4,5,6] (fun sl at_ i wr=>∃ (q a:Nat) (ao:Option Addr) (cap:Nat) (X:List Value) (L:List (Option (List Int))),q<=n/\i=.int .i64 q/\at_=.int .i64 (a:Int)/\a<=1+800*q/\sl=.slice ao q cap/\Hid (L.length=q/\LLo wr w.heap.size (.slice ao q cap) X L/\Below w.heap.size w wr/\lpF b (n - q) a L=lpF b n 1 [])) (fun _ _ i _=>n - (intOf i).toNat)
 case atStart=>exact ⟨0,1,none,0,[],[],by omega,rfl,rfl,by omega,rfl,rfl,⟨World.ownsRow_nil _ _ _ _,fun i hi=>absurd hi (by simp),fun i k hi=>absurd hi (by simp)⟩,Below.refl _ _,rfl⟩
 case round =>
  obtain ⟨q,a,ao,cap,X,L,hq,rfl,rfl,ha,rfl,HR⟩:=hrel
  by_cases hlt:q < n
  ·have hqi:(q:Int) < (n:Int):=by omega
   have HSu:Hid (lpF b n 1 []=match lp1 b a with | none=>none | some y=>lpF b (n - (q+1)) y.1 (L ++ [y.2])):=by
    show _=_
    rw [<- HR.out.2.2.2,show n - q=(n - (q+1))+1 by omega,lpF_succ]
   have HNo:Hid (lp1 b a=none->decR s=none):=by
    intro h; rw [HD.out,HE.out,HSu.out,h]
   by_cases hz:a < s.size/\b.getD a 0=0
   ·obtain ⟨haz,hzb⟩:=hz
    have hai:(a:Int) < (s.size:Int):=by omega
    have hby:((s[a]'haz).toNat:Int)=0:=by rw [<- HBy.out a haz]; exact hzb
    have hby':(s[a]'haz).toNat=0:=by omega
    have HX:Hid (lpF b (n - (q+1)) (a+1) (L ++ [none])=lpF b n 1 []):=by
     show _=_
     rw [HSu.out]
     unfold lp1
     rw [if_pos ⟨by rw [HBl.out]; exact haz,hzb⟩]
    clear hby hzb
    have HN:Hid (wr.heap.size+0=wr.heap.size/\L.length=q):=⟨rfl,HR.out.1⟩
    go_wp2_with (at_builtin; refine wpList_append_own2 rfl (.tmp 43) (.tmp 44) 54 rfl w.heap.size 32 i0 _ 1 24 Tryz.underlying54 hi0 hz0 hz1 hz2 rfl (by decide) (.slice ao q cap) q X rfl (by have h:=HR.out.2.1; have h2:=h.row; rw [HN.out.2] at h2; exact h2.alloc _) ⟨wr.heap.size,0,none⟩ 1 1 [(Value.slice none 0 0)] rfl rfl (by intro t u ht; match t,ht with | 0,ht=>simp at ht; subst ht; exact World.cell?_alloc_at _ _ _ _ rfl) (by intro u hu; simp at hu; subst hu; rfl) (by unfold maxLen; omega) (by omega) (by have:=(HR.out.2.2.1).size; simp; omega) ?_; intro v5 w5 hown5 hgrow5 hv5)
    have HL5:Hid (LLo w5 w.heap.size v5 (X ++ [(Value.slice none 0 0)]) (L ++ [none])):=by
     refine LLo.snoc (w:=wr.alloc (.cells #[(Value.slice none 0 0)] 32)) (v:=.slice ao q cap) ?_ ?_ ?_ ?_ hgrow5 hv5
     ·exact (HR.out.2.1).keep ((Below.refl _ _).alloc (Nat.le_refl _) _) (Nat.le_refl _)
     ·exact PV_nil
     ·intro k hk; first | (cases hk; done) | exact HAw.out k hk
     ·rw [HN.out.2]; exact hown5
    have HB5:Hid (Below w.heap.size w w5):=((HR.out.2.2.1).alloc (HR.out.2.2.1).size _).grown hgrow5 (by have:=(HR.out.2.2.1).size; simp; omega) (fun k hk=>((HR.out.2.1).row.lt k (by exact hk)).1)
    obtain ⟨ao5,cap5,hv5e⟩:∃ ao5 cap5,v5=.slice ao5 (q+1) cap5:=by
     rcases hown5.2 with ⟨e,e2⟩ | ⟨g,cap,cur,e,_⟩
     ·omega
     ·exact ⟨_,_,e⟩
    subst hv5e
    have H5:Hid (LLo w5 w.heap.size (.slice ao5 (q+1) cap5) (X ++ [(Value.slice none 0 0)]) (L ++ [none])/\Below w.heap.size w w5):=⟨HL5.out,HB5.out⟩
    clear hown5 hgrow5 hv5 HL5 HB5
    go_roundw
    case rel=>exact ⟨q+1,a+1,ao5,cap5,X ++ [Value.slice none 0 0],L ++ [none],by omega,by go_num,by go_num,by omega,rfl,by simp [HR.out.1],H5.out.1,H5.out.2,HX.out⟩
    case measure=>simp [intOf]; omega
   ·have HLp:Hid (lp1 b a=if b.length < a+2 then none else match inF b (b.getD (a+1) 0).toNat (a+2) none32 with | none=>none | some y=>some (y.1,some y.2)):=by
     show _=_
     unfold lp1
     rw [if_neg (by rw [HBl.out]; exact hz)]
     rfl
    by_cases hsh:s.size < a+2
    ·have HX:Hid (decR s=none):=HNo.out (by rw [HLp.out,if_pos (by rw [HBl.out]; exact hsh)])
     have hsi:(s.size:Int) < (a:Int)+2:=by omega
     by_cases haz:a < s.size
     ·have hai:(a:Int) < (s.size:Int):=by omega
      have hby:¬ ((s[a]'haz).toNat=0):=fun e=>hz ⟨haz,by rw [HBy.out a haz,e]; rfl⟩
      clear hz
      go_wp2_with fail
      go_ret2
      exact ⟨HR.out.2.2.1,.inl ⟨HX.out,rfl⟩⟩
     ·have hai:¬ (a:Int) < (s.size:Int):=by omega
      clear hz
      go_wp2_with fail
      go_ret2
      exact ⟨HR.out.2.2.1,.inl ⟨HX.out,rfl⟩⟩
    ·have haz:a < s.size:=by omega
     have haz1:a+1 < s.size:=by omega
     have hai:(a:Int) < (s.size:Int):=by omega
     have hai1:(a:Int)+1 < (s.size:Int):=by omega
     have hsi:¬ (s.size:Int) < (a:Int)+2:=by omega
     have hby:¬ ((s[a]'haz).toNat=0):=fun e=>hz ⟨haz,by rw [HBy.out a haz,e]; rfl⟩
     obtain ⟨a1,ha1⟩:∃ a1,a1=a+1:=⟨_,rfl⟩
     have hea:(a:Int)+1=(a1:Int):=by omega
     have haz2:a1 < s.size:=by omega
     have hai2:(a1:Int) < (s.size:Int):=by omega
     obtain ⟨m,hm⟩:∃ m:Nat,(((s[a1]'haz2).toNat:Nat):Int)=(m:Int):=⟨_,rfl⟩
     have hm255:m<=255:=by have:=(s[a1]'haz2).toNat_lt; omega
     have HL2:Hid (lp1 b a=match inF b m (a+2) none32 with | none=>none | some y=>some (y.1,some y.2)):=by
      show _=_
      rw [HLp.out,if_neg (by rw [HBl.out]; exact hsh),<- ha1,HBy.out a1 haz2,hm,Int.toNat_natCast]
     have HLr:Hid (LLo wr w.heap.size (.slice ao q cap) X L):=HR.out.2.1
     have HBr:Hid (Below w.heap.size w wr):=HR.out.2.2.1
     have hbs:=HR.out.2.2.1.size
     clear hz hsh ha1 hai1 haz1
     go_wp2_with fail
     obtain ⟨wm,hwm0⟩:∃ wm,wm=wr.alloc (.cells (ic zl) 3):=⟨_,rfl⟩
     have HM:Hid (At wm wr.heap.size (ic zl) 3/\Below wr.heap.size wr wm):=by show _/\_; rw [hwm0]; exact ⟨At.new _ _ _,(Below.refl _ _).alloc (Nat.le_refl _) _⟩
     rw [<- hwm0]
     clear hwm0
     obtain ⟨wo,rfl⟩:∃ wo,wo=wr:=⟨_,rfl⟩
     go_loopw [8] (fun i w2=>∃ (f:Nat) (l:List Int),f<=32/\i=.int .i64 f/\Hid (l.length=32/\At w2 wo.heap.size (ic l) 3/\(∀ j,j < f->l.getD j 0=1000000)/\Below wo.heap.size wo w2)) (fun i _=>32 - (intOf i).toNat)
     case atStart=>exact ⟨0,zl,by omega,rfl,HL0.out,HM.out.1,fun j hj=>absurd hj (by omega),HM.out.2⟩
     case round =>
      obtain ⟨f,l,hf,rfl,HF⟩:=hrel
      have hwl:=HF.out.2.1.lt
      by_cases hfl:f < 32
      ·have hfi:(f:Int) < 32:=by omega
       obtain ⟨x0,hx0⟩:∃ x,wr.cell? ⟨wo.heap.size,f,none⟩=some x:=⟨_,by rw [HF.out.2.1.cell]; exact ic_get l f (by rw [HF.out.1]; exact hfl)⟩
       have hfr:=HF.out.2.1.free f
       go_wp2_with fail
       go_roundw
       case rel =>
        refine ⟨f+1,l.set f 1000000,by omega,by go_num,by simp [HF.out.1],?_,?_,HF.out.2.2.2.setCell (Nat.le_refl _) _⟩
        ·rw [<- ic_set]; exact HF.out.2.1.put f _
        ·intro j hj
         by_cases e:j=f
         ·subst e; simp [List.getD,HF.out.1,hfl]
         ·have:=HF.out.2.2.1 j (by omega)
          simpa [List.getD,List.getElem?_set,Ne.symm e] using this
       case measure=>simp [intOf]; omega
      ·have hf32:f=32:=by omega
       subst hf32
       obtain ⟨wf,hwf⟩:∃ wf,wf=wr:=⟨_,rfl⟩
       have HO:Hid (l=none32):=by
        show _=_
        apply List.ext_getElem
        ·rw [HF.out.1]; rfl
        ·intro j h1 h2
         have:=HF.out.2.2.1 j (by rw [HF.out.1] at h1; exact h1)
         simp [List.getD,h1] at this
         rw [this]
         exact (List.getElem_replicate _).symm
       have HWf:Hid (At wf wo.heap.size (ic none32) 3/\Below wo.heap.size wo wf):=by show _/\_; rw [hwf,<- HO.out]; exact ⟨HF.out.2.1,HF.out.2.2.2⟩
       rw [<- hwf]
       clear hwf HF HO hfl
       go_wp2_with fail
       clear hm
       go_loopw [5,10] (fun at_ i w3=>∃ (k a3:Nat) (l:List Int),k<=m/\i=.int .i64 k/\at_=.int .i64 (a3:Int)/\a3<=a+2+3*k/\Hid (l.length=32/\At w3 wo.heap.size (ic l) 3/\Below wo.heap.size wo w3/\inF b (m - k) a3 l=inF b m (a+2) none32)) (fun _ i _=>m - (intOf i).toNat)
       case atStart=>exact ⟨0,a+2,none32,by omega,rfl,by go_num,by omega,by rfl,HWf.out.1,HWf.out.2,rfl⟩
       case round =>
        obtain ⟨k,a3,l,hk,rfl,rfl,ha3,HG⟩:=hrel
        have hwl:=HG.out.2.1.lt
        by_cases hkm:k < m
        ·have hki:(k:Int) < (m:Int):=by omega
         have HIn:Hid (inF b m (a+2) none32=if a3+3<=b.length/\b.getD a3 0 < 32 then inF b (m - (k+1)) (a3+3) (l.set (b.getD a3 0).toNat (256*b.getD (a3+1) 0+b.getD (a3+2) 0 - 4000)) else none):=by
          show _=_
          rw [<- HG.out.2.2.2,show m - k=(m - (k+1))+1 by omega,inF_succ]
         have HBd:Hid (inF b m (a+2) none32=none->decR s=none):=fun h=>HNo.out (by rw [HL2.out,h])
         by_cases hok:a3+3<=s.size
         ·have hj0:a3 < s.size:=by omega
          obtain ⟨a4,ha4⟩:∃ a4,a4=a3+1:=⟨_,rfl⟩
          obtain ⟨a5,ha5⟩:∃ a5,a5=a3+2:=⟨_,rfl⟩
          have he4:(a3:Int)+1=(a4:Int):=by omega
          have he5:(a3:Int)+2=(a5:Int):=by omega
          have hj1:a4 < s.size:=by omega
          have hj2:a5 < s.size:=by omega
          have hi0':(a3:Int) < (s.size:Int):=by omega
          have hi1':(a4:Int) < (s.size:Int):=by omega
          have hi2':(a5:Int) < (s.size:Int):=by omega
          have hi3':¬ (s.size:Int) < (a3:Int)+3:=by omega
          have t0:=(s[a3]'hj0).toNat_lt
          have t1:=(s[a4]'hj1).toNat_lt
          have t2:=(s[a5]'hj2).toNat_lt
          obtain ⟨y0,hy0⟩:∃ y:Nat,(((s[a3]'hj0).toNat:Nat):Int)=(y:Int):=⟨_,rfl⟩
          obtain ⟨y1,hy1⟩:∃ y:Nat,(((s[a4]'hj1).toNat:Nat):Int)=(y:Int):=⟨_,rfl⟩
          obtain ⟨y2,hy2⟩:∃ y:Nat,(((s[a5]'hj2).toNat:Nat):Int)=(y:Int):=⟨_,rfl⟩
          have u0:y0<=255:=by omega
          have u1:y1<=255:=by omega
          have u2:y2<=255:=by omega
          have HI2:Hid (inF b m (a+2) none32=if y0 < 32 then inF b (m - (k+1)) (a3+3) (l.set y0 (256*y1+y2 - 4000)) else none):=by
           show _=_
           rw [HIn.out,HBl.out,<- ha4,<- ha5,HBy.out a3 hj0,HBy.out a4 hj1,HBy.out a5 hj2,hy0,hy1,hy2,Int.toNat_natCast]
           by_cases q:y0 < 32
           ·rw [if_pos q,if_pos ⟨hok,by omega⟩]
           ·rw [if_neg q,if_neg (by omega)]
          clear t0 t1 t2 ha4 ha5
          by_cases hy:y0 < 32
          ·have hyi:(y0:Int) < 32:=by omega
           have HX:Hid (inF b (m - (k+1)) (a3+3) (l.set y0 (256*y1+y2 - 4000))=inF b m (a+2) none32):=by show _=_; rw [HI2.out,if_pos hy]
           obtain ⟨x0,hx0⟩:∃ x,wr.cell? ⟨wo.heap.size,y0,none⟩=some x:=⟨_,by rw [HG.out.2.1.cell]; exact ic_get l y0 (by rw [HG.out.1]; exact hy)⟩
           have hfr:=HG.out.2.1.free y0
           go_wp2_with fail
           go_region
           all_goals
            go_wp2_with fail
            refine ⟨?_,?measure⟩
            (repeat apply Exists.intro)
            refine ⟨?rel,rfl⟩
            case rel =>
             refine ⟨k+1,a3+3,l.set y0 (256*y1+y2 - 4000),by omega,by go_num,by go_num,by omega,by simp [HG.out.1],?_,?_,HX.out⟩
             ·rw [<- ic_set]; exact At.drewN (HG.out.2.1.put y0 _) 1
             ·exact below_drewN (HG.out.2.2.1.setCell (Nat.le_refl _) _) 1
            case measure=>simp [intOf]; omega
          ·have hyi:(32:Int)<=(y0:Int):=by omega
           have HX:Hid (decR s=none):=HBd.out (by rw [HI2.out,if_neg hy])
           go_wp2_with fail
           go_ret2
           exact ⟨HBr.out.trans (HG.out.2.2.1.mono hbs),.inl ⟨HX.out,rfl⟩⟩
         ·have hi3':(s.size:Int) < (a3:Int)+3:=by omega
          have HX:Hid (decR s=none):=HBd.out (by rw [HIn.out,HBl.out,if_neg (fun h=>hok h.1)])
          go_wp2_with fail
          go_ret2
          exact ⟨HBr.out.trans (HG.out.2.2.1.mono hbs),.inl ⟨HX.out,rfl⟩⟩
        ·have hkm':k=m:=by omega
         subst hkm'
         have HX:Hid (lpF b (n - (q+1)) a3 (L ++ [some l])=lpF b n 1 []):=by
          show _=_
          have h0:=HG.out.2.2.2
          rw [show k - k=0 by omega] at h0
          have h1:inF b k (a+2) none32=some (a3,l):=h0.symm
          rw [HSu.out,HL2.out,h1]
         obtain ⟨w2,rfl⟩:∃ w2,w2=wr:=⟨_,rfl⟩
         have HLx:Hid (LLo w2 w.heap.size (.slice ao q cap) X L):=HLr.out.keep HG.out.2.2.1 (Nat.le_refl _)
         have HBx:Hid (Below w.heap.size w w2):=HBr.out.trans (HG.out.2.2.1.mono hbs)
         have HPv:Hid (PV w2 w.heap.size (.slice (some ⟨wo.heap.size,0,none⟩) 32 32) (some l)):=⟨wo.heap.size,hbs,rfl,HG.out.2.1,HG.out.1⟩
         have HAw:Hid (∀ k,(Value.slice (some ⟨wo.heap.size,0,none⟩) 32 32).ownBlock=some k->(Value.slice ao q cap).ownBlock ≠ some k):=by
          intro k hk e
          have h1:=(HLr.out.row.lt k e).2
          have h2:wo.heap.size=k:=Option.some.inj hk
          omega
         clear hwl hkm
         have HN:Hid (w2.heap.size+0=w2.heap.size/\L.length=q):=⟨rfl,HR.out.1⟩
         go_wp2_with (at_builtin; refine wpList_append_own2 rfl (.tmp 104) (.tmp 106) 54 rfl w.heap.size 32 i0 _ 1 24 Tryz.underlying54 hi0 hz0 hz1 hz2 rfl (by decide) (.slice ao q cap) q X rfl (by have h:=HLx.out; have h2:=h.row; rw [HN.out.2] at h2; exact h2.alloc _) ⟨w2.heap.size,0,none⟩ 1 1 [(Value.slice (some ⟨wo.heap.size,0,none⟩) 32 32)] rfl rfl (by intro t u ht; match t,ht with | 0,ht=>simp at ht; subst ht; exact World.cell?_alloc_at _ _ _ _ rfl) (by intro u hu; simp at hu; subst hu; rfl) (by unfold maxLen; omega) (by omega) (by have:=(HBx.out).size; simp; omega) ?_; intro v5 w5 hown5 hgrow5 hv5)
         have HL5:Hid (LLo w5 w.heap.size v5 (X ++ [(Value.slice (some ⟨wo.heap.size,0,none⟩) 32 32)]) (L ++ [(some l)])):=by
          refine LLo.snoc (w:=w2.alloc (.cells #[(Value.slice (some ⟨wo.heap.size,0,none⟩) 32 32)] 32)) (v:=.slice ao q cap) ?_ ?_ ?_ ?_ hgrow5 hv5
          ·exact (HLx.out).keep ((Below.refl _ _).alloc (Nat.le_refl _) _) (Nat.le_refl _)
          ·exact (HPv.out.same (fun k hk=>heap_alloc_old _ _ (HPv.out.lt k hk).2))
          ·intro k hk; first | (cases hk; done) | exact HAw.out k hk
          ·rw [HN.out.2]; exact hown5
         have HB5:Hid (Below w.heap.size w w5):=((HBx.out).alloc (HBx.out).size _).grown hgrow5 (by have:=(HBx.out).size; simp; omega) (fun k hk=>((HLx.out).row.lt k (by exact hk)).1)
         obtain ⟨ao5,cap5,hv5e⟩:∃ ao5 cap5,v5=.slice ao5 (q+1) cap5:=by
          rcases hown5.2 with ⟨e,e2⟩ | ⟨g,cap,cur,e,_⟩
          ·omega
          ·exact ⟨_,_,e⟩
         subst hv5e
         have H5:Hid (LLo w5 w.heap.size (.slice ao5 (q+1) cap5) (X ++ [(Value.slice (some ⟨wo.heap.size,0,none⟩) 32 32)]) (L ++ [(some l)])/\Below w.heap.size w w5):=⟨HL5.out,HB5.out⟩
         clear hown5 hgrow5 hv5 HL5 HB5
         go_roundw
         case rel=>exact ⟨q+1,a3,ao5,cap5,X ++ [Value.slice (some ⟨wo.heap.size,0,none⟩) 32 32],L ++ [some l],by omega,by go_num,rfl,by omega,rfl,by simp [HR.out.1],H5.out.1,H5.out.2,HX.out⟩
         case measure=>simp [intOf]; omega
  ·have hqn:q=n:=by omega
   subst hqn
   have HX:Hid (decR s=if (encR L).2=0/\strOfNums (encR L).1=s then some L else none):=by
    show _=_
    have h0:=HR.out.2.2.2
    rw [show q - q=0 by omega] at h0
    have h1:lpF b q 1 []=some L:=h0.symm
    rw [HD.out,HE.out,h1]
   obtain ⟨hrl,HVa⟩:=HR.out.2.1.reads (by rw [HR.out.1]; omega)
   have HLl:Hid (∀ i l,L.getD i none=some l->l.length<=1073741824):=by
    intro i l hl
    rcases Nat.lt_or_ge i L.length with c | c
    ·have:=HR.out.2.1.each i c
     rw [hl] at this
     obtain ⟨_,_,_,_,h5⟩:=this
     omega
    ·rw [List.getD_eq_getElem?_getD,List.getElem?_eq_none c] at hl; cases hl
   have hen:=r_encode (w:=wr) (.slice ao q cap) L (by rw [HR.out.1]; unfold maxLen; omega) HLl.out hrl
   obtain ⟨wz,hwz⟩:∃ wz,wz=wr:=⟨_,rfl⟩
   have HBz:Hid (Below w.heap.size w wr):=HR.out.2.2.1
   have HRl:Hid (ReadsL wr (.slice ao q cap) L):=hrl
   obtain ⟨a7,n7,c7,hv7⟩:=HVa
   injection hv7 with e1 e2 e3
   subst e1
   clear hrl e2 e3 hwz
   unfold EOut at hen
   obtain ⟨E,hE⟩:∃ E,E=encR L:=⟨_,rfl⟩
   rw [<- hE] at hen HX
   clear hE
   obtain ⟨xs,er⟩:=E
   simp only at hen HX
   obtain ⟨S,hS⟩:∃ S,S=strOfNums xs:=⟨_,rfl⟩
   rw [<- hS] at hen HX
   clear hS
   go_wp2_with fail
   refine hen.mono ?_
   rintro e w3 ⟨rfl,hb3⟩
   have H3:Hid (Below w.heap.size w w3/\ReadsL w3 (.slice (some a7) q cap) L):=⟨HBz.out.trans (hb3.mono HBz.out.size),HRl.out.keep hb3⟩
   clear hb3 hen
   by_cases h4:er=0
   ·subst h4
    by_cases h5:S=s
    ·have h5':(S.toList == s.toList)=true:=(str_eq S s).2 h5
     have HY:Hid (decR s=some L):=by show _=_; rw [HX.out,if_pos ⟨rfl,h5⟩]
     clear h5 HX
     go_wp2_with fail
     go_ret2
     exact ⟨H3.out.1,.inr ⟨L,_,HY.out,rfl,H3.out.2,_,_,_,rfl⟩⟩
    ·have h5':(S.toList == s.toList)=false:=str_ne h5
     have HY:Hid (decR s=none):=by show _=_; rw [HX.out,if_neg (fun z=>h5 z.2)]
     clear h5 HX
     go_wp2_with fail
     go_ret2
     exact ⟨H3.out.1,.inl ⟨HY.out,rfl⟩⟩
   ·have h4':(er != 0)=true:=by rw [bne_iff_ne]; exact h4
    have HY:Hid (decR s=none):=by show _=_; rw [HX.out,if_neg (fun z=>h4 z.1)]
    clear h4 HX
    go_wp2_with fail
    go_ret2
    exact ⟨H3.out.1,.inl ⟨HY.out,rfl⟩⟩
theorem r_decode (hs:s.size<=9223372036854775807):Calls Tryz.prog 26 #[.string s] w (ROut w s):=by
 by_cases hbad:s.size < 1 \/ (bytesOf s).getD 0 0 < 1 \/ 21 < (bytesOf s).getD 0 0
 ·exact r_decode_bad hs hbad
 ·exact r_decode_ok hs (by omega) (by omega) (by omega)
end Go.Proofs.YtffajooegiempaaGreatDoor

namespace Go.Proofs.YtffajooegiempaaGreatDoor
open Go.RowKit
variable {w:World} {C:Nat->Int}
theorem itF_le {R:Nat->Int} (hR:∀ f,f < 32->R f<=NB):∀ n R',itF R n=some R'->∀ f,f < 32->R' f<=R f:=by
 intro n
 induction n with
 | zero=>intro R' h f _; cases h; exact Int.le_refl _
 | succ n ih =>
  intro R' h f hf
  obtain ⟨R1,b,e,e2⟩:=itF_succ h
  exact Int.le_trans ((rF_inv (itF_hi hR n R1 e) 1024 (Nat.le_refl _) _ b e2).le f hf) (ih R1 e f hf)
theorem r_closed_t (h:TC C) (hs:Sm C) (u:Value) (hu:Reads w u (bdL C)):Calls Tryz.prog 59 #[u] w (LSays w false C):=by
 obtain ⟨R0,hR0⟩:∃ R0:Nat->Int,R0=fun f=>(bdL C).getD f 0:=⟨_,rfl⟩
 have eq:∀ f,f < 32->R0 f=bd C f:=fun f hf=>by rw [hR0]; exact bdL_getD C hf
 have hA:Ab C R0:=fun f hf=>by rw [eq f hf]; exact Int.le_refl _
 have hH:∀ f,f < 32->R0 f<=NB:=fun f hf=>by rw [eq f hf]; exact h.bd_hi hf
 have hcl:=r_closed u (bdL C) (bdL_len C) hu
 rw [<- hR0] at hcl
 refine (hcl (fun n R e=>?_)).mono ?_
 ·obtain ⟨R1,e1,a1,i1⟩:=itF_ab h hH hA n
  have:R1=R:=Option.some.inj (e1.symm.trans e)
  subst this
  intro k hk R' b e2 f hf
  obtain ⟨R2,b2,e3,a2,i2⟩:=rF_ab h a1 i1 k hk
  have e4:(R',b)=(R2,b2):=Option.some.inj (e2.symm.trans e3)
  cases e4
  have x:=a2 f hf
  have y:=i2 f hf
  have z:=bd_rng hs hf
  unfold NB at y
  omega
 ·rintro e w' ⟨hb,⟨rfl,n,hn⟩ | ⟨g,n,R,R',rfl,hg,ha,h1,h2⟩⟩
  ·obtain ⟨R1,e1,_⟩:=itF_ab h hH hA n
   rw [hn] at e1
   cases e1
  ·refine ⟨hb,.inr ⟨rfl,g,rfl,hg,?_⟩⟩
   obtain ⟨R1,e1,a1,i1⟩:=itF_ab h hH hA n
   have:R1=R:=Option.some.inj (e1.symm.trans h1)
   subst this
   obtain ⟨R2,b2,e3,a2,i2⟩:=rF_ab h a1 i1 1024 (Nat.le_refl _)
   have e4:(R',false)=(R2,b2):=Option.some.inj (h2.symm.trans e3)
   cases e4
   have e5:∀ f,f < 32->R' f=bd C f:=fun f hf=>by
    have x:=a2 f hf
    have y:=(rF_inv (itF_hi hH n R1 h1) 1024 (Nat.le_refl _) _ _ e3).le f hf
    have z:=itF_le hH n R1 h1 f hf
    have:=eq f hf
    omega
   rw [<- bdL_of e5]
   exact ha
def LV (w:World) (e:Bool) (M:Nat->Int) (u:Value):Prop:=(e=true/\u=.slice none 0 0) \/ (e=false/\∃ g,u=.slice (some ⟨g,0,none⟩) 32 32/\At w g (ic (bdL M)) tNo)
theorem LV.keep {w w':World} {e:Bool} {M:Nat->Int} {u:Value} (h:LV w e M u) (hb:Below w.heap.size w w'):LV w' e M u:=by
 rcases h with h | ⟨h1,g,h2,h3⟩
 ·exact .inl h
 ·exact .inr ⟨h1,g,h2,h3.keep hb h3.lt⟩
theorem r_inside_t {e0:Bool} {M:Nat->Int} (u v:Value) (r:Option (List Int)) (hT:e0=false->TC M/\Sm M) (hr:okp r) (hu:LV w e0 M u) (hv:RdL w v r) :
  Calls Tryz.prog 65 #[u,v] w fun e w'=>e=.returned (.bool (wiB e0 (cE r) M (cM r)))/\Below w.heap.size w w':=by
 have hq1:∀ (w:World) (a:Option Addr) (n c:Nat),(binOp .eql 32 (.slice a n c) (.slice none 0 0)).run Tryz.prog w=.ok (.bool a.isNone) w:=fun w a n c=>Lib.run_eql_slice_nil w 32 tN a n c 0 0 Tryz.underlying32
 rw [ins_same (fun h=>(hT h).1) hr]
 rcases hu with ⟨rfl,rfl⟩ | ⟨rfl,g0,rfl,ha0⟩
 ·have HE:Hid (insB true M r=true):=by cases r <;> rfl
  obtain ⟨va,vn,vc,rfl⟩:∃ a n c,v=.slice a n c:=by
   cases r with
   | none=>exact ⟨_,_,_,hv⟩
   | some l=>obtain ⟨_,a,n,c,h⟩:=hv; exact ⟨_,_,_,h⟩
  clear hT hr hv
  go_enter Tryz.func65,Tryz.ntmps65
  go_wp2_with fail
  go_ret
  exact ⟨ret_b HE.out,Below.refl _ _⟩
 ·have hcl:=r_closed_t (w:=w) (hT rfl).1 (hT rfl).2 (.slice (some ⟨g0,0,none⟩) 32 32) (Reads.at_ ha0 (bdL_len M) (Nat.le_refl _) (fun i hi=>ic_get _ _ (by rw [bdL_len]; exact hi)))
  cases r with
  | none =>
   obtain rfl:v=.slice none 0 0:=hv
   have HE:Hid (insB false M none=false):=rfl
   clear hT hr ha0
   go_enter Tryz.func65,Tryz.ntmps65
   go_wp2_with fail
   refine hcl.mono ?_
   rintro e w1 ⟨hb1,⟨he,-⟩ | ⟨-,g,rfl,hg,ha⟩⟩
   ·cases he
   ·have HB1:Hid (Below w.heap.size w w1):=hb1
    clear hb1 hcl ha
    go_wp2_with fail
    go_ret
    exact ⟨ret_b HE.out,HB1.out⟩
  | some p =>
   have hp:=(okp_ok hr).1
   obtain ⟨hv,a,n,c,rfl⟩:=hv
   have HL:Hid (∀ w1 g,Below w.heap.size w w1->At w1 g (ic (bdL M)) tNo->Calls Tryz.prog 99 #[.slice (some ⟨g,0,none⟩) 32 32,.slice (some a) n c] w1 fun e w'=>e=.returned (.bool (leF (bd M) (fun f=>p.getD f 0) 32))/\Below w1.heap.size w1 w'):=by
    intro w1 g hb ha
    have h:=r_least (w:=w1) (.slice (some ⟨g,0,none⟩) 32 32) (.slice (some a) n c) (bdL M) p (bdL_len M) hp (Reads.at_ ha (bdL_len M) (Nat.le_refl _) (fun i hi=>ic_get _ _ (by rw [bdL_len]; exact hi))) (hv.keep hb)
    rw [leF_congr (A:=fun f=>(bdL M).getD f 0) (A':=bd M) 32 (fun f hf=>bdL_get M f hf)] at h
    exact h
   have HE:Hid (insB false M (some p)=leF (bd M) (fun f=>p.getD f 0) 32):=Bool.false_or _
   generalize leF (bd M) (fun f=>p.getD f 0) 32=b at *
   clear hT hr ha0 hv hp
   go_enter Tryz.func65,Tryz.ntmps65
   go_wp2_with fail
   refine hcl.mono ?_
   rintro e w1 ⟨hb1,⟨he,-⟩ | ⟨-,g,rfl,hg,ha⟩⟩
   ·cases he
   ·have hls:=HL.out w1 g hb1 ha
    have HB1:Hid (Below w.heap.size w w1):=hb1
    clear hb1 hcl ha
    go_wp2_with fail
    refine hls.mono ?_
    rintro e w2 ⟨rfl,hb2⟩
    go_wp2_with fail
    go_ret
    exact ⟨ret_b HE.out,HB1.out.trans (hb2.mono HB1.out.size)⟩
theorem r_starts (v:Value) (r:Option (List Int)) (hr:okp r) (hv:RdL w v r) :
  Calls Tryz.prog 63 #[v] w fun e w'=>e=.returned (.bool (wiB false (cE r) (fun _=>0) (cM r)))/\Below w.heap.size w w':=by
 have hq1:∀ (w:World) (a:Option Addr) (n c:Nat),(binOp .eql 32 (.slice a n c) (.slice none 0 0)).run Tryz.prog w=.ok (.bool a.isNone) w:=fun w a n c=>Lib.run_eql_slice_nil w 32 tN a n c 0 0 Tryz.underlying32
 rw [sta_same hr]
 cases r with
 | none =>
  obtain rfl:v=.slice none 0 0:=hv
  have HE:Hid (staB none=false):=rfl
  clear hr
  go_enter Tryz.func63,Tryz.ntmps63
  go_wp2_with fail
  go_ret
  exact ⟨ret_b HE.out,Below.refl _ _⟩
 | some l =>
  have hl:=(okp_ok hr).1
  obtain ⟨⟨ao,ca,e,-,h0⟩,a,n,c,rfl⟩:=hv
  obtain ⟨p,off,rfl,hp,hcell⟩:=h0 (by omega)
  cases e
  rw [hl]
  have HC:Hid (∀ i,i < 32->w.cell? ⟨p,off+i,none⟩=some (.int .i64 (l.getD i 0))):=fun i hi=>hcell i (by omega)
  have HE:Hid (staB (some l)=leF (fun _=>0) (fun f=>l.getD f 0) 32):=rfl
  obtain ⟨A,hA⟩:∃ A:Nat->Int,A=fun _=>0:=⟨_,rfl⟩
  obtain ⟨B,hB⟩:∃ B:Nat->Int,B=fun f=>l.getD f 0:=⟨_,rfl⟩
  have HC':Hid (∀ i,i < 32->w.cell? ⟨p,off+i,none⟩=some (.int .i64 (B i))):=by rw [hB]; exact HC.out
  have HA:Hid (∀ i,A i=0):=by rw [hA]; exact fun _=>rfl
  rw [<- hA,<- hB] at HE
  clear HC hA hB hcell h0 hl hr
  go_enter Tryz.func63,Tryz.ntmps63
  go_wp2_with fail
  go_loopw [3] (fun i wr=>∃ (f k:Nat),f<=32/\i=.int .i64 f/\Hid (wr=w.drewN k/\leF A B f=true)) (fun i _=>32 - (intOf i).toNat)
  case atStart=>exact ⟨0,0,by omega,rfl,rfl,rfl⟩
  case round =>
   obtain ⟨f,k,hf,rfl,HR⟩:=hrel
   by_cases hlt:f < 32
   ·have hfi:(f:Int) < 32:=by omega
    have ca:wr.cell? ⟨p,off+f,none⟩=some (.int .i64 (B f)):=by rw [HR.out.1]; exact HC'.out f hlt
    have HN:Hid (B f < 0->leF A B 32=false):=fun h=>by
     cases e:leF A B 32 with
     | false=>rfl
     | true=>have:=leF_iff.1 e f hlt; rw [HA.out] at this; omega
    have HY:Hid (¬ B f < 0->leF A B (f+1)=true):=fun h=>by
     show (leF A B f && decide (A f<=B f))=true
     rw [HR.out.2,HA.out,decide_eq_true (by omega)]; rfl
    generalize B f=y at *
    by_cases hxy:y < 0
    ·have HF:Hid (leF A B 32=false):=HN.out hxy
     go_wp2_with fail
     go_ret
     exact ⟨ret_b (HE.out.trans HF.out),by rw [HR.out.1]; exact below_drewN (Below.refl _ _) _⟩
    ·have HF:Hid (leF A B (f+1)=true):=HY.out hxy
     go_wp2_with fail
     go_roundw
     case rel=>exact ⟨f+1,k,by omega,by go_num,HR.out.1,HF.out⟩
     case measure=>simp [intOf]; omega
   ·have hf32:f=32:=by omega
    subst hf32
    go_wp2_with fail
    go_ret
    exact ⟨ret_b (HE.out.trans HR.out.2),by rw [HR.out.1]; exact below_drewN (Below.refl _ _) _⟩
end Go.Proofs.YtffajooegiempaaGreatDoor

