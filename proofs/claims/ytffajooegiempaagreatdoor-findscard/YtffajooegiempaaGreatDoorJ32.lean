import Derived.Test.YtffajooegiempaaGreatDoorJ31
import Derived.Deep.RegionWith
set_option maxRecDepth 100000
set_option maxHeartbeats 6400000
namespace Go.Proofs.YtffajooegiempaaGreatDoor
open Go.RowKit
variable {M N:Nat->Int} {F:List Ds}
structure Wn (M:Nat->Int):Prop where
 tc:TC M
 box:∀ i,i < 8->M (i*8+i)<=1998
theorem Wn.ne (h:Wn M) {i:Nat} (hi:i < 8):M (i*8+i) ≠ NB:=by have:=h.box i hi; unfold NB; omega
theorem Wn.up (h:Wn M) {i j:Nat} (hi:i < 8) (hj:j < 8):M (i*8+j) ≠ NB/\M (i*8+j)<=1998:=by
 obtain ⟨a,b⟩:=h.tc.half i j hi hj (h.ne hi) (h.ne hj)
 have:=h.box i hi
 have:=h.box j hj
 exact ⟨a,by omega⟩
theorem Wn.lo (h:Wn M) {i j:Nat} (hi:i < 8) (hj:j < 8):-1998<=M (i*8+j):=by
 have t:=h.tc.tri (opp j) (opp_lt hj) i (opp i) hi (opp_lt hi)
 rw [h.tc.zero i hi,opp_opp j hj] at t
 have a:=h.up hi hj
 have b:=h.up (opp_lt hj) (opp_lt hi)
 rcases t with q | q | q
 ·exact absurd q a.1
 ·exact absurd q b.1
 ·omega
theorem Wn.all (h:Wn M) {k:Nat} (hk:k < 64):M k ≠ NB/\-1998<=M k/\M k<=1998:=by
 have e:k=k / 8*8+k % 8:=by omega
 rw [e]
 have a:=h.up (i:=k / 8) (j:=k % 8) (by omega) (by omega)
 exact ⟨a.1,h.lo (by omega) (by omega),a.2⟩
theorem Wn.tq (h:Wn M):TQ M:=⟨h.tc,fun k hk=>.inr (by have:=h.all hk; omega),fun k hk=>by have:=h.all hk; omega⟩
theorem wn_zero:Wn (fun _=>0):=⟨tc_zero,fun _ _=>by show (0:Int)<=1998; omega⟩
theorem jF_mx (M N:Nat->Int) {a:Nat} (ha:a < 64):(jF M N 64 a=M a \/ jF M N 64 a=N a)/\M a<=jF M N 64 a/\N a<=jF M N 64 a:=by
 rw [jF_eq]
 by_cases q:a < 64/\M a < N a
 ·rw [if_pos q]; exact ⟨.inr rfl,by omega,Int.le_refl _⟩
 ·rw [if_neg q]; exact ⟨.inl rfl,Int.le_refl _,by omega⟩
theorem wn_join (h:Wn M) (k:Wn N):Wn (jF M N 64):=by
 have fin:∀ {a:Nat},a < 64->jF M N 64 a ≠ NB/\jF M N 64 a<=1998:=fun {a} ha=>by
  rcases (jF_mx M N ha).1 with e | e <;> rw [e]
  ·exact ⟨(h.all ha).1,(h.all ha).2.2⟩
  ·exact ⟨(k.all ha).1,(k.all ha).2.2⟩
 refine ⟨⟨?_,?_,?_,?_,?_,?_⟩,fun i hi=>(fin (by omega)).2⟩
 ·intro s hs i j hi hj
  have o1:=opp_lt hs
  have a1:=jF_mx M N (a:=i*8+j) (by omega)
  have a2:=jF_mx M N (a:=i*8+opp s) (by omega)
  have a3:=jF_mx M N (a:=s*8+j) (by omega)
  refine .inr (.inr ⟨(fin (by omega)).1,?_⟩)
  have t1:=h.tc.tri s hs i j hi hj
  have t2:=k.tc.tri s hs i j hi hj
  have n1:=h.up hi o1
  have n2:=h.up hs hj
  have n3:=k.up hi o1
  have n4:=k.up hs hj
  rcases t1 with q | q | q
  ·exact absurd q n1.1
  ·exact absurd q n2.1
  ·rcases t2 with r | r | r
   ·exact absurd r n3.1
   ·exact absurd r n4.1
   ·rcases a1.1 with e | e <;> rw [e] <;> omega
 ·intro i hi
  have o:=opp_lt hi
  rcases (jF_mx M N (a:=i*8+opp i) (by omega)).1 with e | e <;> rw [e]
  ·exact h.tc.zero i hi
  ·exact k.tc.zero i hi
 ·intro i hi
  rcases (jF_mx M N (a:=i*8+i) (by omega)).1 with e | e <;> rw [e]
  ·exact h.tc.even i hi
  ·exact k.tc.even i hi
 ·intro i j hi hj _ _
  refine ⟨(fin (by omega)).1,?_⟩
  have a1:=jF_mx M N (a:=i*8+j) (by omega)
  have a2:=jF_mx M N (a:=i*8+i) (by omega)
  have a3:=jF_mx M N (a:=j*8+j) (by omega)
  have t1:=(h.tc.half i j hi hj (h.ne hi) (h.ne hj)).2
  have t2:=(k.tc.half i j hi hj (k.ne hi) (k.ne hj)).2
  rcases a1.1 with e | e <;> rw [e] <;> omega
 ·intro i j hi hj
  rw [jF_eq,jF_eq,h.tc.sym i j hi hj,k.tc.sym i j hi hj]
  by_cases q:M (j*8+i) < N (j*8+i)
  ·rw [if_pos ⟨by omega,q⟩,if_pos ⟨by omega,q⟩]
  ·rw [if_neg (fun z=>q z.2),if_neg (fun z=>q z.2)]
 ·intro a ha
  have:=fin ha
  exact .inr (by omega)
def tabN (l:List Int):Bool:=decide (1 < nz l) || (if sd1 l=sd2 l then decide (sd1 (ngL l)=opp (sd1 l)) && decide (sd2 (ngL l)=opp (sd1 l)) else true)
theorem tabN_all:(sg3.all fun a=>sg3.all fun b=>sg3.all fun c=>sg3.all fun d=>tabN [a,b,c,d])=true:=by decide +kernel
theorem ng_sd {l:List Int} (hl:l.length=4) (h:∀ i,-1<=gAt l i/\gAt l i<=1) (h1:nz l<=1) (he:sd1 l=sd2 l):sd1 (ngL l)=opp (sd1 l)/\sd2 (ngL l)=opp (sd1 l):=by
 have t:tabN l=true:=by
  obtain ⟨a,b,c,d,rfl⟩:=four_of hl
  have t:=tabN_all
  simp only [List.all_eq_true] at t
  exact t a (mem_sg3 (h 0)) b (mem_sg3 (h 1)) c (mem_sg3 (h 2)) d (mem_sg3 (h 3))
 unfold tabN at t
 rw [decide_eq_false (by omega:¬ 1 < nz l),Bool.false_or,if_pos he,Bool.and_eq_true] at t
 exact ⟨of_decide_eq_true t.1,of_decide_eq_true t.2⟩
theorem gr_diag (h:Wn M) {i:Nat} (hi:i < 8):2*mo M i i=M (i*8+i):=by
 exact ((mo_tc h.tc hi).2 (h.ne hi)).1
theorem wn_post (h:Wn M) {x:Ds} (hx:DQ x) (hs:sfP false M x=true) (way:Int) (he:poE false M x way=false):Wn (poM false M x way):=by
 have n:=hx.g.num
 have ht:=hx.tg
 have hT:=h.tq
 unfold sfP at hs
 unfold poE at he
 unfold poM
 rw [if_neg (by decide)] at hs he |-
 by_cases k0:x.kind=0
 ·rw [if_pos k0] at hs |-
  unfold asM
  have bt:∀ {lo hi:Int},-999<=lo->hi<=999->lo<=hi->Wn (sbT M x.target.toNat lo hi):=fun {lo hi} h1 h2 h3=>by
   have hlo:-999<=lo/\lo<=999:=⟨h1,by omega⟩
   have hhi:-999<=hi/\hi<=999:=⟨by omega,h2⟩
   refine ⟨(bt_tc h.tc hT.top (by omega) hlo hhi h3).1,fun i hi'=>?_⟩
   rw [sbT_at M (by omega) hlo hhi hi' hi']
   unfold sbG
   by_cases ti:isT x.target.toNat i
   ·rw [if_pos ti,if_pos ti,if_pos rfl]
    split <;> omega
   ·rw [if_neg ti,if_neg ti]
    exact h.box i hi'
  by_cases a:x.any=true
  ·rw [if_pos a]
   exact bt (by omega) (by omega) (by omega)
  ·rw [if_neg a]
   rw [show x.any=false by simpa using a,Bool.false_or] at hs
   unfold ftB at hs
   obtain ⟨g1,g2,g3,g4⟩:=of_decide_eq_true hs
   by_cases q:sd1 x.sg=opp (sd2 x.sg)
   ·rw [if_pos q]
    exact bt (by omega) (by omega) (Int.le_refl _)
   ·rw [if_neg q]
    have hf:=(sdS_lt x.sg 4 (Nat.le_refl _)).1
    have e:=(one_sd hx.len hx.g.sg (hx.fa k0)).resolve_right q
    have ng:=ng_sd hx.len hx.g.sg (hx.fa k0) e
    have hf':sd1 x.sg < 8:=hf
    refine ⟨(ss_tc h.tc hT.top (by omega) hf ⟨by omega,by omega⟩).1,fun i hi=>?_⟩
    rw [ss_at M _ _ _ hi hi]
    have u1:grP M x.sg=mo M (sd1 x.sg) (sd1 x.sg):=by unfold grP; rw [<- e]
    have u2:grP M (ngL x.sg)=mo M (opp (sd1 x.sg)) (opp (sd1 x.sg)):=by unfold grP; rw [ng.1,ng.2]
    have d1:=gr_diag h hf'
    have d2:=gr_diag h (opp_lt hf')
    have b0:=h.box i hi
    unfold orgF addF
    by_cases i1:i=2*x.target.toNat
    ·rw [if_pos i1,if_pos i1]
     unfold pl
     rw [if_neg (fun z=>z.elim (h.ne hf') (fun q=>by unfold NB at q; omega))]
     rw [u1] at g3
     omega
    ·rw [if_neg i1,if_neg i1]
     by_cases i2:i=2*x.target.toNat+1
     ·rw [if_pos i2,if_pos i2]
      unfold pl
      rw [if_neg (fun z=>z.elim (h.ne (opp_lt hf')) (fun q=>by unfold NB at q; omega))]
      rw [u2] at g4
      omega
     ·rw [if_neg i2,if_neg i2]
      unfold pl
      rw [if_neg (fun z=>z.elim (h.ne hi) (fun q=>by unfold NB at q; omega))]
      omega
 ·rw [if_neg k0] at hs he |-
  cases ha:x.any with
  | true=>rw [if_pos rfl]; exact h
  | false =>
   rw [ha,if_neg (by decide)] at he
   rw [if_neg (by decide)]
   have hz1:1<=nz x.sg:=(hx.fc k0).resolve_left (by rw [ha]; decide)
   have fin:∀ {l:List Int} {c:Int},l.length=4->(∀ i,-1<=gAt l i/\gAt l i<=1)->1<=nz l->nz l<=2->c<=1000->atE false M l c=false->Wn (atM false M l c):=fun {l c} a1 a2 a3 a4 a5 a6=>by
    refine ⟨at_tc hT a1 a2 a3 a4 a5 a6,fun i hi=>?_⟩
    obtain ⟨f,hf,hnf,hgr,hs1,hs2⟩:=grP_form h.tc a1 a2 a3 a4
    unfold atM
    by_cases q:atS false M l c=true
    ·rw [if_pos q]; exact h.box i hi
    ·rw [if_neg q]
     have e:lm M (sd1 l) (sd2 l) c=sb M f c:=by rw [hs1,hs2]; rfl
     rw [e]
     have s1:=sharp_le (sb M f c) (i*8+i)
     have hc:¬ grP M l<=c:=by
      unfold atS at q
      simpa using q
     rw [hgr] at hc
     rw [sb_at M hf (by unfold NB; omega) hi hi] at s1
     have b0:=h.box i hi
     split at s1
     ·rename_i z
      obtain ⟨n1,n2,n3,n4,n5,n6⟩:=nf_fs f hf
      have f8:f < 8:=by
       rcases Nat.lt_or_ge f 8 with r | r
       ·exact r
       ·exact absurd (show fs f=ss f by omega) (fs_hi f hf r)
      rw [if_pos f8] at s1
      have hb:bd M f=mo M f f:=by
       obtain ⟨q1,q2⟩:=fs_lo f f8
       unfold bd mo
       rw [q1,q2]
      have hd:=gr_diag h f8
      have hif:i=f:=by
       obtain ⟨q1,q2⟩:=fs_lo f f8
       omega
      rw [hb] at hc
      rw [<- hif] at hc hd
      omega
     ·omega
   by_cases w0:way=0
   ·rw [if_pos w0] at he |-
    exact fin hx.len hx.g.sg hz1 hx.nz2 (by omega) he
   ·rw [if_neg w0] at he |-
    exact fin (ngL_len _) (ngL_rng hx.g.sg) (by rw [nz_ngL hx.len]; exact hz1) (by rw [nz_ngL hx.len]; exact hx.nz2) (by omega) he
def PlOk (p:Pl):Prop:=(p.e=false/\Wn p.M) \/ (p.e=true/\p.M=fun _=>0)
def GoodS (s:SS):Prop:=∀ i,PlOk (s.1.getD i p0)
theorem PlOk.p0:PlOk p0:=.inr ⟨rfl,rfl⟩
theorem PlOk.rg {p:Pl} (h:PlOk p):RgP p:=by
 rcases h with ⟨h1,h2⟩ | ⟨h1,h2⟩
 ·exact ⟨fun j hj=>by have:=h2.all hj; omega,fun _=>h2.tq.sh⟩
 ·exact ⟨fun j _=>by rw [h2]; show -20000000000<=(0:Int)/\(0:Int)<=1000000; omega,fun q=>by rw [h1] at q; cases q⟩
theorem PlOk.sm {p:Pl} (h:PlOk p):Sm p.M:=fun k hk=>by have:=h.rg.1 k hk; omega
theorem good_set {s:SS} (h:GoodS s) (k:Nat) {p:Pl} (hp:PlOk p) (b:Bool):GoodS (s.1.set k p,b):=by
 intro i
 show PlOk ((s.1.set k p).getD i Go.Proofs.YtffajooegiempaaGreatDoor.p0)
 rcases Nat.lt_or_ge k s.1.length with q | q
 ·rw [plset_at q]
  split
  ·exact hp
  ·exact h i
 ·rw [List.set_eq_of_length_le q]; exact h i
theorem clm_good {s:SS} (h:GoodS s) (pt:Int) {e:Bool} {M:Nat->Int} (hM:e=false->Wn M):GoodS (clmS s pt e M):=by
 unfold clmS
 split
 ·exact h
 ·split
  ·exact h
  ·rename_i q
   have he:e=false:=by
    cases e with
    | false=>rfl
    | true=>exact absurd rfl q
   have hw:=hM he
   refine good_set h _ ?_ true
   subst he
   rcases h pt.toNat with ⟨h1,h2⟩ | ⟨h1,h2⟩
   ·refine .inl ⟨?_,?_⟩
    ·show joE _ false=false; rw [h1]; rfl
    ·show Wn (joM _ false _ M); rw [h1]; exact wn_join h2 hw
   ·refine .inl ⟨?_,?_⟩
    ·show joE _ false=false; rw [h1]; rfl
    ·show Wn (joM _ false _ M); rw [h1]; exact hw
theorem wys_good {s:SS} (h:GoodS s) {k:Nat} (hx:DQ (F.getD k (newDs 0 0))) {e:Bool} {M:Nat->Int} (hM:e=false->Wn M) (hs:sfP e M (F.getD k (newDs 0 0))=true):∀ n,GoodS (wysS F k e M s n)
 | 0=>h
 | n+1=>by
  refine clm_good (wys_good h hx hM hs n) _ fun he=>?_
  cases e with
  | true=>cases he
  | false=>exact wn_post (hM rfl) hx hs n he
theorem flw_good {s:SS} (h:GoodS s) {k:Nat} (hx:k < F.length->DQ (F.getD k (newDs 0 0))) {e:Bool} {M:Nat->Int} (hM:e=false->Wn M):GoodS (flwS F k e M s):=by
 unfold flwS
 split
 ·rename_i q
  split
  ·rename_i hs
   exact wys_good h (hx q) hM hs _
  ·exact h
 ·exact h
theorem pnt_good {s:SS} (h:GoodS s) {k:Nat} (hx:k < F.length->DQ (F.getD k (newDs 0 0))):GoodS (pntS F k s):=by
 unfold pntS
 split
 ·refine flw_good (good_set h _ ?_ _) hx ?_
  ·rcases h k with q | q
   ·exact .inl q
   ·exact .inr q
  ·intro he
   rcases h k with q | q
   ·exact q.2
   ·rw [q.1] at he; cases he
 ·exact h
theorem rnd_good {s:SS} (h:GoodS s) (hx:∀ k,k < F.length->DQ (F.getD k (newDs 0 0))):∀ n,GoodS (rndS F s n)
 | 0=>h
 | n+1=>pnt_good (rnd_good h hx n) (hx n)
theorem it_good (hx:∀ k,k < F.length->DQ (F.getD k (newDs 0 0))):∀ r {s:SS},GoodS s->GoodS (itS F r s)
 | 0,_,h=>h
 | r+1,s,h=>by
  rw [itS]
  split
  ·exact it_good hx r (rnd_good h hx _)
  ·exact h
theorem it_len (F:List Ds):∀ r (s:SS),(itS F r s).1.length=s.1.length
 | 0,_=>rfl
 | r+1,s=>by
  rw [itS]
  split
  ·rw [it_len F r,rndS_len]
  ·rfl
def begS (n:Nat):SS:=clmS (List.replicate (n+1) p0,false) 0 false (fun _=>0)
def finS (F:List Ds):SS:=itS F 2685334 (begS F.length)
theorem beg_good (n:Nat):GoodS (begS n):=by
 refine clm_good (fun i=>?_) _ fun _=>wn_zero
 show PlOk ((List.replicate (n+1) p0).getD i p0)
 rw [List.getD_eq_getElem?_getD,List.getElem?_replicate]
 split <;> exact PlOk.p0
theorem beg_len (n:Nat):(begS n).1.length=n+1:=by unfold begS; rw [clmS_len]; simp
theorem fin_good (hx:∀ k,k < F.length->DQ (F.getD k (newDs 0 0))):GoodS (finS F):=it_good hx _ (beg_good _)
theorem fin_len (F:List Ds):(finS F).1.length=F.length+1:=by unfold finS; rw [it_len,beg_len]
end Go.Proofs.YtffajooegiempaaGreatDoor

namespace Go.Proofs.YtffajooegiempaaGreatDoor
open Go.RowKit
variable {w:World} {F:List Ds}
def lstF (F:List Ds):List (Option (List Int)):=(finS F).1.map lsP
def crtF (F:List Ds):ByteArray:=strOfNums (encB (lstF F))
theorem lst_len (F:List Ds):(lstF F).length=F.length+1:=by unfold lstF; rw [List.length_map,fin_len]
theorem bd_small {M:Nat->Int} (h:Wn M) {f:Nat} (hf:f < 32):cBd (bd M f):=by
 have a:=fs_lt f hf
 have b:=ss_lt f hf
 have k:=h.all (k:=fs f*8+ss f) (by omega)
 right
 unfold bd
 split
 ·have t:=tdiv2 (M (fs f*8+ss f))
  rcases Int.lt_or_le (M (fs f*8+ss f)) 0 with e | e
  ·rw [t.2 e]; omega
  ·rw [t.1 e]; omega
 ·omega
theorem ls_okp {p:Pl} (h:PlOk p):okp (lsP p):=by
 intro l e
 unfold lsP at e
 rcases h with ⟨h1,h2⟩ | ⟨h1,h2⟩
 ·rw [h1,if_neg (by decide)] at e
  cases e
  exact ⟨bdL_len _,fun f hf=>by rw [bdL_getD _ hf]; exact bd_small h2 hf⟩
 ·rw [h1,if_pos rfl] at e
  cases e
theorem lst_okp (hx:∀ k,k < F.length->DQ (F.getD k (newDs 0 0))):∀ r,r ∈ lstF F->okp r:=by
 intro r hr
 obtain ⟨p,hp,rfl⟩:=List.mem_map.1 hr
 obtain ⟨i,hi,rfl⟩:=List.getElem_of_mem hp
 have:=fin_good hx i
 rw [List.getD_eq_getElem?_getD,List.getElem?_eq_getElem hi] at this
 exact ls_okp this
theorem crt_bytes (hx:∀ k,k < F.length->DQ (F.getD k (newDs 0 0))) (hl:F.length<=20):bytesOf (crtF F)=encB (lstF F):=bytes_son (encB_byte (lst_okp hx) (by rw [lst_len]; omega))
theorem crt_dec (hx:∀ k,k < F.length->DQ (F.getD k (newDs 0 0))) (hl:F.length<=20):decF (bytesOf (crtF F))=some (lstF F):=dec_yes (by rw [lst_len]; omega) (by rw [lst_len]; omega) (lst_okp hx) (crt_bytes hx hl)
theorem enc_lst (hx:∀ k,k < F.length->DQ (F.getD k (newDs 0 0))) (hl:F.length<=20):encR (lstF F)=(encB (lstF F),0):=by
 unfold encR
 rw [if_neg (by rw [lst_len]; omega),if_pos]
 rw [gdA_all]
 intro i hi
 exact okp_gd.1 (getD_ok (lst_okp hx) i)
theorem crt_small (hx:∀ k,k < F.length->DQ (F.getD k (newDs 0 0))) (hl:F.length<=20):(crtF F).size<=9223372036854775807:=by
 have h1:=bytesOf_len (crtF F)
 rw [crt_bytes hx hl] at h1
 have h2:=encs_len (lstF F) (lstF F).length
 have h3:(encB (lstF F)).length=(encs (lstF F) (lstF F).length).length+1:=rfl
 have h4:=lst_len F
 omega
def FndOut (w:World) (F:List Ds):Ending->World->Prop:=fun e w'=>Below w.heap.size w w'/\∃ a b,CertSays F (bytesOf (crtF F)) (a,b)/\((a=0/\e=.returned (.tuple #[.string (crtF F),.int .i64 0])) \/ (a ≠ 0/\e=.returned (.tuple #[.string ⟨#[]⟩,.int .i64 8])))
theorem Pls.keep {w w':World} {g n:Nat} (h:Pls w g n) (hb:Below w.heap.size w w'):Pls w' g n:=by
 obtain ⟨⟨C,h1,h2⟩,h3⟩:=h
 exact ⟨⟨C,h1.keep hb h1.lt,h2⟩,fun i k hi hk=>(hb.cell (by exact h1.lt)).trans (h3 i k hi hk)⟩
theorem sst_first {w6:World} {s g n1:Nat} {Z:Array Value} {pv:Value} (ha:At w6 s Z tSe) (hP:Pls w6 g n1) :
  SSt (w6.setRow s #[pv,.slice (some ⟨g,0,none⟩) n1 21,.bool false]) s g pv (List.replicate n1 p0,false)/\Onl s w6 (w6.setRow s #[pv,.slice (some ⟨g,0,none⟩) n1 21,.bool false]):=by
 obtain ⟨⟨C,h1,h2⟩,h3⟩:=hP
 have hne:s ≠ g:=At.ne ha h1 (by decide)
 have hon:Onl s w6 (w6.setRow s #[pv,.slice (some ⟨g,0,none⟩) n1 21,.bool false]):=⟨rfl,rfl,rfl,by simp [World.setRow],fun k _ hk=>setRow_other _ _ k _ (fun e=>hk e)⟩
 refine ⟨⟨?_,⟨C,hon.at_ h1 (Ne.symm hne),by simpa using h2⟩,fun i k hi hk=>?_⟩,hon⟩
 ·have:=setRow_heap w6 s Z #[pv,.slice (some ⟨g,0,none⟩) n1 21,.bool false] tSe (0,0) ha
  rw [show (List.replicate n1 p0,false).1.length=n1 by simp]
  exact this
 ·have hi':i < n1:=by simpa using hi
  rw [hon.cell h1.lt (Ne.symm hne),h3 i k hi' hk]
  congr 2
  simp [List.getD,hi']
theorem it_stop (F:List Ds):∀ (n:Nat) {s:SS},s.2=false->itS F n s=s
 | 0,_,_=>rfl
 | n+1,s,h=>by rw [itS,h,if_neg (by decide)]
theorem it_go (F:List Ds) {r mx:Nat} (hr:r < mx) {s:SS} (h:s.2=true):itS F (mx - r) s=itS F (mx - (r+1)) (rndS F s s.1.length):=by
 rw [show mx - r=(mx - (r+1))+1 by omega,itS,if_pos h]
structure FZ (w wz:World) (s g:Nat) (pv:Value) (F:List Ds) (P:SS):Prop where
 st:SSt wz s g pv P
 pk:PK wz s g pv F
 bx:At wz w.heap.size #[pv] tPr
 be:Below w.heap.size w wz
 ge:w.heap.size < s/\w.heap.size < g
theorem FZ.keep {w wz w':World} {s g:Nat} {pv:Value} {F:List Ds} {P:SS} (h:FZ w wz s g pv F P) (hb:Below wz.heap.size wz w'):FZ w w' s g pv F P :=
 ⟨h.st.keep hb,h.pk.keep hb,h.bx.keep hb h.bx.lt,h.be.trans (hb.mono h.be.size),h.ge⟩
theorem FZ.step {w wz w':World} {s g:Nat} {pv:Value} {F:List Ds} {P P':SS} (h:FZ w wz s g pv F P) (hs:SSt w' s g pv P') (ho:On2 s g wz w'):FZ w w' s g pv F P' :=
 ⟨hs,h.pk.on ho,ho.at_ h.bx (by have:=h.ge; omega) (by have:=h.ge; omega),h.be.trans (ho.below (by have:=h.ge; omega) (by have:=h.ge; omega) h.be.size),h.ge⟩
theorem h_find {l:List Int} {m:Rd} (hG:Glob w) (hp:progOf l=some m) (hW:Whole F m.st) (hl:F.length<=20) (ao:Option Addr) (cap:Nat) (hrow:F.length ≠ 0->∃ g0,ao=some ⟨g0,0,none⟩/\PRow w g0 F) :
  Calls Tryz.prog 19 #[.agg #[.slice ao F.length cap]] w (FndOut w F):=by
 have hD:∀ k,k < F.length->DQ (F.getD k (newDs 0 0)):=fun k hk=>dq_of hp hW hk
 have HNc:Hid (∀ w1,Calls Tryz.prog 51 #[.agg #[.slice ao F.length cap]] w1 fun x w'=>∃ g,x=.returned (.slice (some ⟨g,0,none⟩) (F.length+1) 21)/\Hid (w1.heap.size<=g/\Pls w' g (F.length+1)/\Below w1.heap.size w1 w')):=fun w1=>(s_noClaims ao F.length cap hl).mono fun x w' ⟨g,h1,h2,h3,h4⟩=>⟨g,h1,h2,h3,h4⟩
 obtain ⟨pv,hpv⟩:∃ pv,pv=Value.slice ao F.length cap:=⟨_,rfl⟩
 have H0:Hid (At (w.alloc (.cells #[pv] tPr)) w.heap.size #[pv] tPr/\Below w.heap.size w (w.alloc (.cells #[pv] tPr))):=⟨At.new _ _ _,(Below.refl _ _).alloc (Nat.le_refl _) _⟩
 have c0:(w.alloc (.cells #[pv] tPr)).cell? ⟨w.heap.size,0,none⟩=some pv:=H0.out.1.cell 0
 have HP1:Hid (∀ g,(#[pv,.slice (some ⟨g,0,none⟩) (F.length+1) 21,.bool false]:Array Value).all (·.oneCell')=true):=fun g=>by
  rw [hpv]
  refine Array.all_eq_true_iff_forall_mem.2 fun v hv=>?_
  simp at hv
  rcases hv with rfl | rfl | rfl <;> rfl
 obtain ⟨M0,hM0⟩:∃ M0:Nat->Int,M0=fun _=>0:=⟨_,rfl⟩
 have hz:∀ w,(zeroValue tO).run Tryz.prog w=.ok (.agg (oc false M0)) w:=by rw [hM0]; exact o_zero
 have ho3:(oc false M0).size=65:=oc_size _ _
 have ho4:¬ oc false M0=#[]:=fun h=>by have:=congrArg Array.size h; rw [oc_size] at this; simp at this
 have HFr:Hid (∀ w1:World,∃ w2,(storeCells ⟨w1.heap.size,0,none⟩ (oc false M0).toList).run Tryz.prog (w1.alloc (.cells (oc false M0) tO))=.ok () w2/\OAt w2 w1.heap.size false M0/\Below w1.heap.size w1 w2/\w1.heap.size < w2.heap.size):=by rw [hM0]; exact fun w1=>o_fresh w1 false _
 have HOr:Hid (∀ w1,Calls Tryz.prog 52 #[] w1 fun e w'=>e=.returned (.agg (oc false M0))/\Below w1.heap.size w1 w'):=by rw [hM0]; exact fun w1=>o_origin
 have HCl:Hid (∀ w1 s g P,SSt w1 s g pv P->Calls Tryz.prog 53 #[.pointer (some ⟨s,0,none⟩),.int .i64 0,.agg (oc false M0)] w1 fun x w'=>x=.returned (.tuple #[])/\SSt w' s g pv (clmS P 0 false M0)/\On2 s g w1 w'):=fun w1 s g P h=>s_claim h 0 false M0
 have HBg:Hid (begS F.length=clmS (List.replicate (F.length+1) p0,false) 0 false M0):=by rw [hM0]; rfl
 have HBg2:Hid (GoodS (begS F.length)/\(begS F.length).1.length=F.length+1/\itS F (2685334 - 0) (begS F.length)=finS F):=⟨beg_good _,beg_len _,rfl⟩
 clear hM0
 have HGd:Hid (∀ Q:SS,GoodS Q->GoodS (rndS F Q Q.1.length)):=fun Q h=>rnd_good h hD _
 have hpar:∀ (k:Nat) (x:Ds),F[k]?=some x->-1<=x.parent/\x.parent < (k:Int):=fun k x hx=>hW.par k x hx
 have HGo:Hid (∀ w1 s g (Q:SS),FZ w w1 s g pv F Q->GoodS Q->Q.1.length=F.length+1->Calls Tryz.prog 54 #[.pointer (some ⟨s,0,none⟩)] w1 fun x w'=>x=.returned (.tuple #[])/\SSt w' s g pv (rndS F Q Q.1.length)/\On2 s g w1 w'):=fun w1 s g Q h h1 h2=>s_goRound h.st (by omega) h.pk hl hpar (fun k hk=>⟨(hD k hk).g,(hD k hk).tg⟩) (fun k _=>(rnd_good h1 hD k k).rg)
 have HLs:Hid (∀ w1 s g,FZ w w1 s g pv F (finS F)->Calls Tryz.prog 55 #[.pointer (some ⟨s,0,none⟩)] w1 fun x w'=>∃ lo lc,x=.returned (.slice lo (F.length+1) lc)/\ReadsL w' (.slice lo (F.length+1) lc) (lstF F)/\Below w1.heap.size w1 w'):=fun w1 s g h=>by
  have:=s_lists (hG.keep h.be hG.size) h.st (by rw [fin_len]; omega) (fun k _=>(fin_good hD k).sm)
  rw [fin_len] at this
  exact this
 have HEn:Hid (∀ w1 v,ReadsL w1 v (lstF F)->Calls Tryz.prog 56 #[v] w1 fun e w'=>e=.returned (.tuple #[.string (crtF F),.int .i64 0])/\Below w1.heap.size w1 w'):=fun w1 v h=>by
  have:=c_encode v (lstF F) (by rw [lst_len]; unfold maxLen; omega) h
  unfold EOut at this
  rw [enc_lst hD hl] at this
  exact this
 have HCk:Hid (∀ w1,Below w.heap.size w w1->Calls Tryz.prog 57 #[.agg #[pv],.string (crtF F)] w1 fun e w'=>∃ a b,e=.returned (.tuple #[.int .i64 a,.int .i64 b])/\CertSays F (bytesOf (crtF F)) (a,b)/\Below w1.heap.size w1 w'):=fun w1 hb=>by
  rw [hpv]
  refine c_check (hG.keep hb hG.size) (crt_small hD hl) hl ?_
  intro w2 hb2 g L hO hok k hk
  obtain ⟨g0,rfl,hP⟩:=hrow (by omega)
  exact c_checkPoint_of hp hW hl hpar ((hP.keep hb).keep hb2) hO hok hk
 have HPk:Hid (∀ w1 s g,Below w.heap.size w w1->w.heap.size < s->w.heap.size < g->PK w1 s g pv F):=fun w1 s g hb h1 h2=>⟨ao,cap,hpv,fun hn=>by
  obtain ⟨g0,e,hP⟩:=hrow hn
  have:=hP.1
  exact ⟨g0,e,by omega,by omega,hP.keep hb⟩⟩
 rw [<- hpv] at HNc |-
 clear hpv hG hp hW hrow hD hpar
 go_enter Tryz.func19,Tryz.ntmps19
 go_wp2_with fail
 refine wp_region_held (S:=fun w'=>w'.cell? ⟨w.heap.size,0,none⟩=some pv) (by kernel_rfl) ?_
 change wpAnyH _ _ _ _ _ _ _ _ (World.drew _)
 have H5:Hid (At (w.alloc (.cells #[pv] tPr)).drew w.heap.size #[pv] tPr/\Below w.heap.size w (w.alloc (.cells #[pv] tPr)).drew):=⟨H0.out.1,H0.out.2.drew⟩
 generalize (w.alloc (.cells #[pv] tPr)).drew=w5 at *
 have c5:w5.cell? ⟨w.heap.size,0,none⟩=some pv:=H5.out.1.cell 0
 refine wpAnyH_take (i:=0) (v:=.agg #[pv]) rfl (by kernel_rfl) (by kernel_rfl) (by kernel_rfl) (fun _ _ _ h=>h) (Or.inl ⟨by rfl,by intro w1 hw1; have cc:w1.cell? ⟨w.heap.size,0,none⟩=some pv:=hw1; go_simp⟩) (c5) ?_
 simp only [Act.put]
 refine wpAnyH_take (i:=1) (v:=.agg #[pv]) rfl (by kernel_rfl) (by kernel_rfl) (by kernel_rfl) (fun _ _ _ h=>h) (Or.inl ⟨by rfl,by intro w1 hw1; have cc:w1.cell? ⟨w.heap.size,0,none⟩=some pv:=hw1; go_simp⟩) (c5) ?_
 simp only [Act.put]
 refine wpAnyH_ready (rs:=[2,4]) (by kernel_rfl) (by simp) ?_
 refine AllReadyH.cons (o:=⟨some 12,.call _,_,_,_,none⟩) rfl (fun K hK=>?_) (AllReadyH.cons (o:=⟨some 4,.alloc _,_,_,_,none⟩) rfl (fun K hK=>?_) AllReadyH.nil)
 ·go_simp
  refine (HNc.out _).mono ?_
  rintro x w6 ⟨g,rfl,HN⟩
  have H6:Hid (At w6 w.heap.size #[pv] tPr/\Below w.heap.size w w6/\Pls w6 g (F.length+1)/\w5.heap.size<=g):=⟨H5.out.1.keep HN.out.2.2 H5.out.1.lt,H5.out.2.trans (HN.out.2.2.mono H5.out.2.size),HN.out.2.1,HN.out.1⟩
  have c6:w6.cell? ⟨w.heap.size,0,none⟩=some pv:=H6.out.1.cell 0
  refine hK.out _ _ c6 (fun _=>?_)
  clear hK K
  refine wpAnyH_take (i:=3) (v:=.agg #[pv,.slice (some ⟨g,0,none⟩) (F.length+1) 21,.bool false]) rfl (by kernel_rfl) (by kernel_rfl) (by kernel_rfl) (fun _ _ _ h=>h) (Or.inl ⟨by rfl,by intro w1 _; go_simp⟩) (c6) ?_
  simp only [Act.put]
  refine wpAnyH_ready (rs:=[4]) (by kernel_rfl) (by simp) ?_
  refine AllReadyH.cons (o:=⟨some 4,.alloc _,_,_,_,none⟩) rfl (fun K hK=>?_) AllReadyH.nil
  go_simp
  have ha7:At (w6.alloc (.cells #[.slice none 0 0,.slice none 0 0,.bool false] tSe)) w6.heap.size #[.slice none 0 0,.slice none 0 0,.bool false] tSe:=At.new _ _ _
  have hb7:Below w6.heap.size w6 (w6.alloc (.cells #[.slice none 0 0,.slice none 0 0,.bool false] tSe)):=(Below.refl _ _).alloc (Nat.le_refl _) _
  refine hK.out _ _ ((hb7.cell (by exact H6.out.1.lt)).trans c6) (fun _=>?_)
  clear hK K
  refine wpAnyH_ready (rs:=[5]) (by kernel_rfl) (by simp) ?_
  refine AllReadyH.cons (o:=⟨none,.store 86 (.tmp 4) (.tmp 13),_,_,_,none⟩) rfl (fun K hK=>?_) AllReadyH.nil
  rw [if_pos (by rfl)]
  obtain ⟨hss,hon⟩:=sst_first (pv:=pv) ha7 (H6.out.2.2.1.keep hb7)
  refine wp_store_row 86 (.tmp 4) (.tmp 13) rfl w6.heap.size #[pv,.slice (some ⟨g,0,none⟩) (F.length+1) 21,.bool false] rfl rfl tSe _ ha7 (by kernel_rfl) rfl (HP1.out g) ?_
  have HZ:Hid (FZ w ((w6.alloc (.cells #[.slice none 0 0,.slice none 0 0,.bool false] tSe)).setRow w6.heap.size #[pv,.slice (some ⟨g,0,none⟩) (F.length+1) 21,.bool false]) w6.heap.size g pv F (List.replicate (F.length+1) p0,false)):=by
   have l1:=H6.out.1.lt
   have l2:=H5.out.1.lt
   have l3:=H6.out.2.2.2
   have hbz:Below w.heap.size w ((w6.alloc (.cells #[.slice none 0 0,.slice none 0 0,.bool false] tSe)).setRow w6.heap.size #[pv,.slice (some ⟨g,0,none⟩) (F.length+1) 21,.bool false]):=(H6.out.2.1.trans (hb7.mono H6.out.2.1.size)).trans (hon.below (by omega) (by simp; omega))
   exact ⟨hss,HPk.out _ _ _ hbz (by omega) (by omega),hon.at_ (H6.out.1.keep hb7 l1) (by omega),hbz,by omega,by omega⟩
  refine hK.out _ _ (HZ.out.bx.cell 0) (fun _=>?_)
  clear hK K hss hon ha7 hb7
  refine wpAnyH_done (by kernel_rfl) ?_ _
  generalize (w6.alloc (.cells #[.slice none 0 0,.slice none 0 0,.bool false] tSe)).setRow w6.heap.size #[pv,.slice (some ⟨g,0,none⟩) (F.length+1) 21,.bool false]=wz at *
  generalize w6.heap.size=s at *
  clear H6 HN H5 c6 c5 H0 c0 HNc HPk
  go_wp2_with fail
  refine (HOr.out wz).mono ?_
  rintro x w10 ⟨rfl,hb10⟩
  obtain ⟨w11,hst11,hat11,hb11,hs11⟩:=HFr.out w10
  have H11:Hid (OAt w11 w10.heap.size false M0/\FZ w w11 (s) g pv F (List.replicate (F.length+1) p0,false)):=⟨hat11,(HZ.out.keep hb10).keep hb11⟩
  clear hb10 hat11 hb11
  go_wp2_with (refine wpList_load_o rfl (.tmp 5) rfl rfl H11.out.1 ?_)
  refine (HCl.out w11 (s) g _ H11.out.2.st).mono ?_
  rintro x w12 ⟨rfl,hst12,hon12⟩
  have H12:Hid (FZ w w12 (s) g pv F (begS F.length)):=H11.out.2.step (by rw [HBg.out]; exact hst12) hon12
  clear hst12 hon12
  go_wp2_with fail
  go_loopw [6] (fun iv wr=>∃ (r:Nat) (b:Bool),r<=2685334/\iv=.int .i64 (r:Int)/\Hid (∃ Q:SS,FZ w wr (s) g pv F Q/\GoodS Q/\Q.1.length=F.length+1/\itS F (2685334 - r) Q=finS F/\Q.2=b)) (fun iv _=>2685334 - (intOf iv).toNat)
  case atStart=>exact ⟨0,_,by omega,rfl,_,H12.out,HBg2.out.1,HBg2.out.2.1,HBg2.out.2.2,rfl⟩
  case round =>
   obtain ⟨r,b,hr,rfl,HQ⟩:=hrel
   obtain ⟨Q,hQ⟩:=HQ.out
   have HQ2:Hid (FZ w wr (s) g pv F Q/\GoodS Q/\Q.1.length=F.length+1/\itS F (2685334 - r) Q=finS F/\Q.2=b):=hQ
   have cb:wr.cell? ⟨s,2,none⟩=some (.bool b):=by
    have:=hQ.1.st.sa.cell 2
    rw [this]
    show some (Value.bool Q.2)=_
    rw [hQ.2.2.2.2]
   have hlr:=hQ.1.st.sa.lt
   clear hQ HQ
   have fin:(r=2685334 \/ b=false)->Q=finS F:=fun h=>by
    rw [<- HQ2.out.2.2.2.1]
    rcases h with q | q
    ·subst q; rfl
    ·exact (it_stop F _ (HQ2.out.2.2.2.2.trans q)).symm
   have HFin:Hid ((r=2685334 \/ b=false)->Q=finS F):=fin
   clear fin
   by_cases hrl:r < 2685334
   ·have hri:(r:Int) < 2685334:=by omega
    cases b with
    | true =>
     go_wp2_with fail
     refine (HGo.out wr (s) g Q HQ2.out.1 HQ2.out.2.1 HQ2.out.2.2.1).mono ?_
     rintro x w13 ⟨rfl,hst13,hon13⟩
     have H13:Hid (∃ Q':SS,FZ w w13 (s) g pv F Q'/\GoodS Q'/\Q'.1.length=F.length+1/\itS F (2685334 - (r+1)) Q'=finS F):=⟨_,HQ2.out.1.step hst13 hon13,HGd.out Q HQ2.out.2.1,by rw [rndS_len]; exact HQ2.out.2.2.1,by rw [<- it_go F hrl HQ2.out.2.2.2.2]; exact HQ2.out.2.2.2.1⟩
     clear hst13 hon13
     obtain ⟨Q',hQ'⟩:=H13.out
     have HQ':Hid (FZ w w13 (s) g pv F Q'/\GoodS Q'/\Q'.1.length=F.length+1/\itS F (2685334 - (r+1)) Q'=finS F):=hQ'
     clear hQ' H13
     go_wp2_with fail
     go_roundw
     case rel=>exact ⟨r+1,Q'.2,by omega,by go_num,Q',HQ'.out.1,HQ'.out.2.1,HQ'.out.2.2.1,HQ'.out.2.2.2,rfl⟩
     case measure=>simp [intOf]; omega
    | false =>
     have HE:Hid (Q=finS F):=HFin.out (.inr rfl)
     have HZ2:Hid (FZ w wr (s) g pv F (finS F)):=by rw [<- HE.out]; exact HQ2.out.1
     clear HE HFin
     go_wp2_with fail
     clear hri hrl hr HQ2 cb
     refine (HLs.out wr (s) g HZ2.out).mono ?_
     rintro x w14 ⟨lo,lc,rfl,hrd,hb14⟩
     have H14:Hid (FZ w w14 (s) g pv F (finS F)/\ReadsL w14 (.slice lo (F.length+1) lc) (lstF F)):=⟨HZ2.out.keep hb14,hrd⟩
     clear hrd hb14
     go_wp2_with fail
     refine (HEn.out w14 _ H14.out.2).mono ?_
     rintro x w15 ⟨rfl,hb15⟩
     have H15:Hid (FZ w w15 (s) g pv F (finS F)):=H14.out.1.keep hb15
     clear hb15
     have c15:w15.cell? ⟨w.heap.size,0,none⟩=some pv:=H15.out.bx.cell 0
     go_wp2_with fail
     refine (HCk.out w15 H15.out.be).mono ?_
     rintro x w16 ⟨a,b16,rfl,hsay,hb16⟩
     have H16:Hid (CertSays F (bytesOf (crtF F)) (a,b16)/\Below w.heap.size w w16):=⟨hsay,H15.out.be.trans (hb16.mono H15.out.be.size)⟩
     clear hsay hb16 c15
     by_cases ha:a=0
     ·subst ha
      go_wp2_with fail
      go_ret2
      exact ⟨H16.out.2,_,_,H16.out.1,.inl ⟨rfl,rfl⟩⟩
     ·go_wp2_with fail
      go_ret2
      exact ⟨H16.out.2,_,_,H16.out.1,.inr ⟨ha,rfl⟩⟩
   ·have hre:r=2685334:=by omega
    subst hre
    have HE:Hid (Q=finS F):=HFin.out (.inl rfl)
    have HZ2:Hid (FZ w wr (s) g pv F (finS F)):=by rw [<- HE.out]; exact HQ2.out.1
    clear HE HFin
    go_wp2_with fail
    refine (HLs.out wr (s) g HZ2.out).mono ?_
    rintro x w14 ⟨lo,lc,rfl,hrd,hb14⟩
    have H14:Hid (FZ w w14 (s) g pv F (finS F)/\ReadsL w14 (.slice lo (F.length+1) lc) (lstF F)):=⟨HZ2.out.keep hb14,hrd⟩
    clear hrd hb14
    go_wp2_with fail
    refine (HEn.out w14 _ H14.out.2).mono ?_
    rintro x w15 ⟨rfl,hb15⟩
    have H15:Hid (FZ w w15 (s) g pv F (finS F)):=H14.out.1.keep hb15
    clear hb15
    have c15:w15.cell? ⟨w.heap.size,0,none⟩=some pv:=H15.out.bx.cell 0
    go_wp2_with fail
    refine (HCk.out w15 H15.out.be).mono ?_
    rintro x w16 ⟨a,b16,rfl,hsay,hb16⟩
    have H16:Hid (CertSays F (bytesOf (crtF F)) (a,b16)/\Below w.heap.size w w16):=⟨hsay,H15.out.be.trans (hb16.mono H15.out.be.size)⟩
    clear hsay hb16 c15
    by_cases ha:a=0
    ·subst ha
     go_wp2_with fail
     go_ret2
     exact ⟨H16.out.2,_,_,H16.out.1,.inl ⟨rfl,rfl⟩⟩
    ·go_wp2_with fail
     go_ret2
     exact ⟨H16.out.2,_,_,H16.out.1,.inr ⟨ha,rfl⟩⟩
 ·go_simp
  have ha6:At (w5.alloc (.cells #[.slice none 0 0,.slice none 0 0,.bool false] tSe)) w5.heap.size #[.slice none 0 0,.slice none 0 0,.bool false] tSe:=At.new _ _ _
  have hb6:Below w5.heap.size w5 (w5.alloc (.cells #[.slice none 0 0,.slice none 0 0,.bool false] tSe)):=(Below.refl _ _).alloc (Nat.le_refl _) _
  have hz6:(w5.alloc (.cells #[.slice none 0 0,.slice none 0 0,.bool false] tSe)).heap.size=w5.heap.size+1:=by simp
  have H6:Hid (At (w5.alloc (.cells #[.slice none 0 0,.slice none 0 0,.bool false] tSe)) w.heap.size #[pv] tPr/\Below w.heap.size w (w5.alloc (.cells #[.slice none 0 0,.slice none 0 0,.bool false] tSe))/\At (w5.alloc (.cells #[.slice none 0 0,.slice none 0 0,.bool false] tSe)) w5.heap.size #[.slice none 0 0,.slice none 0 0,.bool false] tSe):=⟨H5.out.1.keep hb6 H5.out.1.lt,H5.out.2.trans (hb6.mono H5.out.2.size),ha6⟩
  refine hK.out _ _ (H6.out.1.cell 0) (fun _=>?_)
  clear hK K hb6 ha6
  have l5:=H5.out.1.lt
  generalize hw6:w5.alloc (.cells #[.slice none 0 0,.slice none 0 0,.bool false] tSe)=w6 at *
  refine wpAnyH_ready (rs:=[2]) (by kernel_rfl) (by simp) ?_
  refine AllReadyH.cons (o:=⟨some 12,.call _,_,_,_,none⟩) rfl (fun K hK=>?_) AllReadyH.nil
  clear hw6
  go_simp
  refine (HNc.out _).mono ?_
  rintro x w7 ⟨g,rfl,HN⟩
  have H7:Hid (At w7 w.heap.size #[pv] tPr/\Below w.heap.size w w7/\At w7 w5.heap.size #[.slice none 0 0,.slice none 0 0,.bool false] tSe/\Pls w7 g (F.length+1)):=⟨H6.out.1.keep HN.out.2.2 H6.out.1.lt,H6.out.2.1.trans (HN.out.2.2.mono H6.out.2.1.size),H6.out.2.2.keep HN.out.2.2 H6.out.2.2.lt,HN.out.2.1⟩
  have c7:w7.cell? ⟨w.heap.size,0,none⟩=some pv:=H7.out.1.cell 0
  have hg7:w5.heap.size+1<=g:=by have:=HN.out.1; omega
  refine hK.out _ _ c7 (fun _=>?_)
  clear hK K
  refine wpAnyH_take (i:=3) (v:=.agg #[pv,.slice (some ⟨g,0,none⟩) (F.length+1) 21,.bool false]) rfl (by kernel_rfl) (by kernel_rfl) (by kernel_rfl) (fun _ _ _ h=>h) (Or.inl ⟨by rfl,by intro w1 _; go_simp⟩) (c7) ?_
  simp only [Act.put]
  refine wpAnyH_ready (rs:=[5]) (by kernel_rfl) (by simp) ?_
  refine AllReadyH.cons (o:=⟨none,.store 86 (.tmp 4) (.tmp 13),_,_,_,none⟩) rfl (fun K hK=>?_) AllReadyH.nil
  rw [if_pos (by rfl)]
  obtain ⟨hss,hon⟩:=sst_first (pv:=pv) H7.out.2.2.1 H7.out.2.2.2
  refine wp_store_row 86 (.tmp 4) (.tmp 13) rfl w5.heap.size #[pv,.slice (some ⟨g,0,none⟩) (F.length+1) 21,.bool false] rfl rfl tSe _ H7.out.2.2.1 (by kernel_rfl) rfl (HP1.out g) ?_
  have HZ:Hid (FZ w (w7.setRow w5.heap.size #[pv,.slice (some ⟨g,0,none⟩) (F.length+1) 21,.bool false]) w5.heap.size g pv F (List.replicate (F.length+1) p0,false)):=by
   have hbz:Below w.heap.size w (w7.setRow w5.heap.size #[pv,.slice (some ⟨g,0,none⟩) (F.length+1) 21,.bool false]):=H7.out.2.1.trans (hon.below (by omega) H7.out.2.1.size)
   exact ⟨hss,HPk.out _ _ _ hbz (by omega) (by omega),hon.at_ H7.out.1 (by omega),hbz,by omega,by omega⟩
  refine hK.out _ _ (HZ.out.bx.cell 0) (fun _=>?_)
  clear hK K hss hon
  refine wpAnyH_done (by kernel_rfl) ?_ _
  generalize w7.setRow w5.heap.size #[pv,.slice (some ⟨g,0,none⟩) (F.length+1) 21,.bool false]=wz at *
  clear H6 H7 HN H5 c7 c5 H0 c0 HNc HPk l5 hz6 hg7
  generalize w5.heap.size=s at *
  go_wp2_with fail
  refine (HOr.out wz).mono ?_
  rintro x w10 ⟨rfl,hb10⟩
  obtain ⟨w11,hst11,hat11,hb11,hs11⟩:=HFr.out w10
  have H11:Hid (OAt w11 w10.heap.size false M0/\FZ w w11 (s) g pv F (List.replicate (F.length+1) p0,false)):=⟨hat11,(HZ.out.keep hb10).keep hb11⟩
  clear hb10 hat11 hb11
  go_wp2_with (refine wpList_load_o rfl (.tmp 5) rfl rfl H11.out.1 ?_)
  refine (HCl.out w11 (s) g _ H11.out.2.st).mono ?_
  rintro x w12 ⟨rfl,hst12,hon12⟩
  have H12:Hid (FZ w w12 (s) g pv F (begS F.length)):=H11.out.2.step (by rw [HBg.out]; exact hst12) hon12
  clear hst12 hon12
  go_wp2_with fail
  go_loopw [6] (fun iv wr=>∃ (r:Nat) (b:Bool),r<=2685334/\iv=.int .i64 (r:Int)/\Hid (∃ Q:SS,FZ w wr (s) g pv F Q/\GoodS Q/\Q.1.length=F.length+1/\itS F (2685334 - r) Q=finS F/\Q.2=b)) (fun iv _=>2685334 - (intOf iv).toNat)
  case atStart=>exact ⟨0,_,by omega,rfl,_,H12.out,HBg2.out.1,HBg2.out.2.1,HBg2.out.2.2,rfl⟩
  case round =>
   obtain ⟨r,b,hr,rfl,HQ⟩:=hrel
   obtain ⟨Q,hQ⟩:=HQ.out
   have HQ2:Hid (FZ w wr (s) g pv F Q/\GoodS Q/\Q.1.length=F.length+1/\itS F (2685334 - r) Q=finS F/\Q.2=b):=hQ
   have cb:wr.cell? ⟨s,2,none⟩=some (.bool b):=by
    have:=hQ.1.st.sa.cell 2
    rw [this]
    show some (Value.bool Q.2)=_
    rw [hQ.2.2.2.2]
   have hlr:=hQ.1.st.sa.lt
   clear hQ HQ
   have fin:(r=2685334 \/ b=false)->Q=finS F:=fun h=>by
    rw [<- HQ2.out.2.2.2.1]
    rcases h with q | q
    ·subst q; rfl
    ·exact (it_stop F _ (HQ2.out.2.2.2.2.trans q)).symm
   have HFin:Hid ((r=2685334 \/ b=false)->Q=finS F):=fin
   clear fin
   by_cases hrl:r < 2685334
   ·have hri:(r:Int) < 2685334:=by omega
    cases b with
    | true =>
     go_wp2_with fail
     refine (HGo.out wr (s) g Q HQ2.out.1 HQ2.out.2.1 HQ2.out.2.2.1).mono ?_
     rintro x w13 ⟨rfl,hst13,hon13⟩
     have H13:Hid (∃ Q':SS,FZ w w13 (s) g pv F Q'/\GoodS Q'/\Q'.1.length=F.length+1/\itS F (2685334 - (r+1)) Q'=finS F):=⟨_,HQ2.out.1.step hst13 hon13,HGd.out Q HQ2.out.2.1,by rw [rndS_len]; exact HQ2.out.2.2.1,by rw [<- it_go F hrl HQ2.out.2.2.2.2]; exact HQ2.out.2.2.2.1⟩
     clear hst13 hon13
     obtain ⟨Q',hQ'⟩:=H13.out
     have HQ':Hid (FZ w w13 (s) g pv F Q'/\GoodS Q'/\Q'.1.length=F.length+1/\itS F (2685334 - (r+1)) Q'=finS F):=hQ'
     clear hQ' H13
     go_wp2_with fail
     go_roundw
     case rel=>exact ⟨r+1,Q'.2,by omega,by go_num,Q',HQ'.out.1,HQ'.out.2.1,HQ'.out.2.2.1,HQ'.out.2.2.2,rfl⟩
     case measure=>simp [intOf]; omega
    | false =>
     have HE:Hid (Q=finS F):=HFin.out (.inr rfl)
     have HZ2:Hid (FZ w wr (s) g pv F (finS F)):=by rw [<- HE.out]; exact HQ2.out.1
     clear HE HFin
     go_wp2_with fail
     clear hri hrl hr HQ2 cb
     refine (HLs.out wr (s) g HZ2.out).mono ?_
     rintro x w14 ⟨lo,lc,rfl,hrd,hb14⟩
     have H14:Hid (FZ w w14 (s) g pv F (finS F)/\ReadsL w14 (.slice lo (F.length+1) lc) (lstF F)):=⟨HZ2.out.keep hb14,hrd⟩
     clear hrd hb14
     go_wp2_with fail
     refine (HEn.out w14 _ H14.out.2).mono ?_
     rintro x w15 ⟨rfl,hb15⟩
     have H15:Hid (FZ w w15 (s) g pv F (finS F)):=H14.out.1.keep hb15
     clear hb15
     have c15:w15.cell? ⟨w.heap.size,0,none⟩=some pv:=H15.out.bx.cell 0
     go_wp2_with fail
     refine (HCk.out w15 H15.out.be).mono ?_
     rintro x w16 ⟨a,b16,rfl,hsay,hb16⟩
     have H16:Hid (CertSays F (bytesOf (crtF F)) (a,b16)/\Below w.heap.size w w16):=⟨hsay,H15.out.be.trans (hb16.mono H15.out.be.size)⟩
     clear hsay hb16 c15
     by_cases ha:a=0
     ·subst ha
      go_wp2_with fail
      go_ret2
      exact ⟨H16.out.2,_,_,H16.out.1,.inl ⟨rfl,rfl⟩⟩
     ·go_wp2_with fail
      go_ret2
      exact ⟨H16.out.2,_,_,H16.out.1,.inr ⟨ha,rfl⟩⟩
   ·have hre:r=2685334:=by omega
    subst hre
    have HE:Hid (Q=finS F):=HFin.out (.inl rfl)
    have HZ2:Hid (FZ w wr (s) g pv F (finS F)):=by rw [<- HE.out]; exact HQ2.out.1
    clear HE HFin
    go_wp2_with fail
    refine (HLs.out wr (s) g HZ2.out).mono ?_
    rintro x w14 ⟨lo,lc,rfl,hrd,hb14⟩
    have H14:Hid (FZ w w14 (s) g pv F (finS F)/\ReadsL w14 (.slice lo (F.length+1) lc) (lstF F)):=⟨HZ2.out.keep hb14,hrd⟩
    clear hrd hb14
    go_wp2_with fail
    refine (HEn.out w14 _ H14.out.2).mono ?_
    rintro x w15 ⟨rfl,hb15⟩
    have H15:Hid (FZ w w15 (s) g pv F (finS F)):=H14.out.1.keep hb15
    clear hb15
    have c15:w15.cell? ⟨w.heap.size,0,none⟩=some pv:=H15.out.bx.cell 0
    go_wp2_with fail
    refine (HCk.out w15 H15.out.be).mono ?_
    rintro x w16 ⟨a,b16,rfl,hsay,hb16⟩
    have H16:Hid (CertSays F (bytesOf (crtF F)) (a,b16)/\Below w.heap.size w w16):=⟨hsay,H15.out.be.trans (hb16.mono H15.out.be.size)⟩
    clear hsay hb16 c15
    by_cases ha:a=0
    ·subst ha
     go_wp2_with fail
     go_ret2
     exact ⟨H16.out.2,_,_,H16.out.1,.inl ⟨rfl,rfl⟩⟩
    ·go_wp2_with fail
     go_ret2
     exact ⟨H16.out.2,_,_,H16.out.1,.inr ⟨ha,rfl⟩⟩
end Go.Proofs.YtffajooegiempaaGreatDoor

namespace Go.Proofs.YtffajooegiempaaGreatDoor
open Go.RowKit
variable {w:World} {s:ByteArray}
theorem CertSays.one {F:List Ds} {b:List Int} {r r':Int × Int} (h:CertSays F b r) (h':CertSays F b r'):r=r':=by
 unfold CertSays at h h'
 cases hd:decF b with
 | none=>rw [hd] at h h'; exact Eq.trans h (Eq.symm h')
 | some L =>
  rw [hd] at h h'
  simp only at h h'
  split at h
  ·rename_i q; rw [if_pos q] at h'; exact h.trans h'.symm
  ·rename_i q
   rw [if_neg q] at h'
   split at h
   ·rename_i q2; rw [if_pos q2] at h'; exact h.trans h'.symm
   ·rename_i q2; rw [if_neg q2] at h'; exact h.one h'
def ChkSays (s c:ByteArray) (r:Int × Int):Prop :=
 match progOf (bytesOf s) with
 | none=>r=((scanOf (bytesOf s)).2.1,(scanOf (bytesOf s)).2.2)
 | some _=>CertSays (readZ s).2 (bytesOf c) r
def ChkOut (w:World) (s c:ByteArray):Ending->World->Prop:=fun e w'=>∃ a b,e=.returned (.tuple #[.int .i64 a,.int .i64 b])/\ChkSays s c (a,b)/\Below w.heap.size w w'
end Go.Proofs.YtffajooegiempaaGreatDoor

namespace Go.Proofs.YtffajooegiempaaGreatDoor
open Go.RowKit
variable {w:World}
def AnOut (w:World) (s:ByteArray):Ending->World->Prop:=fun e w'=>Below w.heap.size w w' /\
 ((progOf (bytesOf s)=none/\e=.returned (.tuple #[.string ⟨#[]⟩,.int .i64 1])) \/
  (progOf (bytesOf s) ≠ none/\∃ a b,CertSays (readZ s).2 (bytesOf (crtF (readZ s).2)) (a,b)/\((a=0/\e=.returned (.tuple #[.string (crtF (readZ s).2),.int .i64 0])) \/ (a ≠ 0/\e=.returned (.tuple #[.string ⟨#[]⟩,.int .i64 8])))))
theorem w_analyze (hG:Glob w) (s:ByteArray) (hm:s.size<=maxLen):Calls Tryz.prog 5 #[.string s] w (AnOut w s):=by
 have hr:=d_read s w hm
 have hl:=bytesOf_len s
 have bad:progOf (bytesOf s)=none->∀ n:Int,(∀ e w',DReadPost w s e w'->e=.returned (.tuple #[.agg #[.slice none 0 0],.int .i64 1,.int .i64 n])/\Below w.heap.size w w')->Calls Tryz.prog 5 #[.string s] w (AnOut w s):=by
  intro hp n hq
  have HE:Hid (progOf (bytesOf s)=none):=hp
  have hr':=hr.mono hq
  clear hr hp hq hm hl hG
  go_enter Tryz.func5,Tryz.ntmps5
  go_wp2_with fail
  refine hr'.mono ?_
  rintro e w1 ⟨rfl,hb⟩
  have HB:Hid (Below w.heap.size w w1):=hb
  clear hb hr'
  go_wp2_with fail
  go_ret2
  exact ⟨HB.out.alloc HB.out.size _,.inl ⟨HE.out,rfl⟩⟩
 by_cases h160:160 < s.size
 ·refine bad (by unfold progOf; rw [if_pos (by omega)]) 0 ?_
  rintro e w' ⟨hb,h | h | h⟩
  ·exact ⟨h.2,hb⟩
  ·exact absurd h.1 (by omega)
  ·exact absurd h.1 (by omega)
 rcases prog_whole s (by omega) with ⟨hg,hp⟩ | ⟨m,hg,hp,hW⟩
 ·refine bad hp (readZ s).1.1 ?_
  rintro e w' ⟨hb,h | h | h⟩
  ·exact absurd h.1 h160
  ·exact ⟨h.2.2,hb⟩
  ·exact absurd h.2.1 (by rw [hg]; decide)
 clear bad
 have hlen:(readZ s).2.length<=20:=(rStmts_goes s 22 (-1) 0 0 ((0,false),[]) ⟨Nat.zero_le _,Nat.zero_le _⟩).ok.len
 have hr':=hr.mono (R':=fun e w'=>∃ ao cap,e=.returned (.tuple #[.agg #[.slice ao (readZ s).2.length cap],.int .i64 0,.int .i64 0])/\Below w.heap.size w w'/\((readZ s).2.length ≠ 0->∃ g,ao=some ⟨g,0,none⟩/\PRow w' g (readZ s).2)) (by
  rintro e w' ⟨hb,h | h | h⟩
  ·exact absurd h.1 h160
  ·exact absurd h.2.1 (by rw [hg]; decide)
  ·obtain ⟨_,_,v,he,hrow⟩:=h
   have hrow2:=hrow
   obtain ⟨_,h2⟩:=hrow2
   rcases h2 with ⟨rfl,e0⟩ | ⟨g,cap,_,rfl,_⟩
   ·exact ⟨none,0,by rw [e0]; exact he,hb,fun z=>absurd e0 z⟩
   ·exact ⟨_,cap,he,hb,fun _=>⟨g,rfl,prow_of hrow rfl (hrow.lt g rfl).2⟩⟩)
 have HS:Hid (progOf (bytesOf s) ≠ none):=by show _ ≠ _; rw [hp]; exact fun z=>by cases z
 have HC:Hid (∀ w1 ao cap,Below w.heap.size w w1->((readZ s).2.length ≠ 0->∃ g,ao=some ⟨g,0,none⟩/\PRow w1 g (readZ s).2)->Calls Tryz.prog 19 #[.agg #[.slice ao (readZ s).2.length cap]] w1 (FndOut w1 (readZ s).2)):=fun w1 ao cap hb h=>h_find (hG.keep hb hG.size) hp hW hlen ao cap h
 have HO:Hid (∀ w1 e w',Below w.heap.size w w1->FndOut w1 (readZ s).2 e w'->∃ c k,e=.returned (.tuple #[.string c,.int .i64 k])/\Hid (AnOut w s (.returned (.tuple #[.string c,.int .i64 k])) w')):=by
  rintro w1 e w' hb ⟨h1,a,b,h2,⟨h3,rfl⟩ | ⟨h3,rfl⟩⟩
  ·exact ⟨_,_,rfl,hb.trans (h1.mono hb.size),.inr ⟨HS.out,a,b,h2,.inl ⟨h3,rfl⟩⟩⟩
  ·exact ⟨_,_,rfl,hb.trans (h1.mono hb.size),.inr ⟨HS.out,a,b,h2,.inr ⟨h3,rfl⟩⟩⟩
 clear hr hm hl h160 hg hp hW hG
 generalize (readZ s).2=F at *
 go_enter Tryz.func5,Tryz.ntmps5
 go_wp2_with fail
 refine hr'.mono ?_
 rintro e w1 ⟨ao,cap,rfl,hb,hrow⟩
 have HB:Hid (Below w.heap.size w w1/\(F.length ≠ 0->∃ g,ao=some ⟨g,0,none⟩/\PRow w1 g F)):=⟨hb,hrow⟩
 clear hb hrow hr'
 go_wp2_with fail
 refine (HC.out _ ao cap (HB.out.1.alloc HB.out.1.size _) (fun z=>by obtain ⟨g,e,h⟩:=HB.out.2 z; exact ⟨g,e,h.keep ((Below.refl _ _).alloc (Nat.le_refl _) _)⟩)).mono ?_
 intro y w2 hy
 obtain ⟨c,k,rfl,HY⟩:=HO.out _ _ _ (HB.out.1.alloc HB.out.1.size _) hy
 clear hy
 go_wp2_with fail
 go_ret2
 exact HY.out
end Go.Proofs.YtffajooegiempaaGreatDoor

namespace Go.Proofs.YtffajooegiempaaGreatDoor
variable {F:List Ds} {L:List (Option (List Int))} {I:List Int} {s:Ms}
theorem allN_all {f:Nat->Bool} {n:Nat} (h:allN f n=true):∀ i,i < n->f i=true:=by
 intro i hi
 cases e:f i with
 | true=>rfl
 | false=>rw [allN_no hi e] at h; cases h
structure CertOk (F:List Ds) (L:List (Option (List Int))):Prop where
 ok:∀ r,r ∈ L->okp r
 st:wiB false (cE (atL L 0)) (fun _=>0) (cM (atL L 0))=true
 pt:∀ k,k < F.length->chkP F L k=0
theorem CertOk.says (h:CertOk F L) {k:Nat} (hk:k < F.length):sfP (cE (atL L k)) (cM (atL L k)) (F.getD k (newDs 0 0))=true/\∀ way:Nat,(way:Int) < waysP (F.getD k (newDs 0 0)).kind->wayP F L k way=true:=by
 have q:=h.pt k hk
 unfold chkP at q
 cases hs:sfP (cE (atL L k)) (cM (atL L k)) (F.getD k (newDs 0 0)) with
 | false=>rw [hs,if_pos rfl] at q; cases q
 | true =>
  rw [hs,if_neg (by decide)] at q
  cases ha:allN (wayP F L k) (waysP (F.getD k (newDs 0 0)).kind).toNat with
  | false=>rw [ha,if_neg (by decide)] at q; cases q
  | true=>exact ⟨rfl,fun way hw=>allN_all ha way (by omega)⟩
end Go.Proofs.YtffajooegiempaaGreatDoor

