import Derived.Test.YtffajooegiempaaGreatDoorJ27
set_option maxRecDepth 100000
set_option maxHeartbeats 6400000
namespace Go.Proofs.YtffajooegiempaaGreatDoor
open Go.RowKit
variable {B:Nat} {w:World} {r:Nat} {m:Rd} {vs vo:Value} {P Q O:Nat->Nat} {C:Nat->Int}
structure StQ (u:St):Prop where
 g:StG u
 var:0<=u.var/\u.var<=3
 fq:Fq u
theorem stq_of {l:List Int} {m:Rd} (hp:progOf l=some m) {k:Nat} (hk:k < m.st.length):StQ (m.st.getD k noSt):=by
 obtain ⟨_,⟨n,hr⟩,hd,_⟩:=progOf_some hp
 obtain ⟨hg,ok⟩:=gd_from (m:=init) (m':=m) (fun s hs=>absurd hs (by simp [init])) Ok.init hr
 have hkn:=kn_from (m:=init) (m':=m) ⟨fun i hi=>absurd hi (by simp [init]),fun h=>absurd h (by simp [init]),fun h=>absurd h (by decide)⟩ Ok.init hr
 have h115:m.state=115:=by
  unfold isDone at hd
  simp only [Bool.and_eq_true,decide_eq_true_eq] at hd
  exact hd.1
 refine ⟨stg_of hp k,⟨(AllGd.get hg k).1,(AllGd.get hg k).2.1⟩,?_⟩
 rcases Nat.lt_or_eq_of_le (Nat.succ_le_of_lt hk) with q | q
 ·exact hkn.all k q
 ·have:=hkn.now (by omega)
  rw [gq4 (.inl h115)] at this
  unfold cur at this
  rw [show m.st.length - 1=k by omega] at this
  exact this
structure StV (w:World) (r k:Nat) (u:St) (len:Nat):Prop where
 ex:∃ g cap p q,w.cell? ⟨r,1,none⟩=some (.slice (some ⟨g,0,none⟩) len cap)/\w.cell? ⟨g,k,none⟩=some (.pointer (some ⟨p,0,none⟩))/\w.cell? ⟨p,0,none⟩=some (.int .u8 u.kind)/\w.cell? ⟨p,2,none⟩=some (.bool u.star) /\
  w.cell? ⟨p,3,none⟩=some (.slice (some ⟨q,0,none⟩) 4 4)/\w.cell? ⟨p,4,none⟩=some (.int .i64 u.num)/\At w q (ic u.sg) tNk/\p < w.heap.size/\g < w.heap.size/\r < w.heap.size/\w.cell? ⟨p,1,none⟩=some (.int .i64 u.var)
theorem Rep.stv (h:Rep B w r m vs vo P Q O) {k:Nat} (hk:k < m.st.length):StV w r k (m.st.getD k noSt) m.st.length:=by
 obtain ⟨g,cap,hvs,hrow,_⟩:=h.row (by omega)
 obtain ⟨r0,r1,_⟩:=h.rdc
 have hg:=Rep.gets hk
 obtain ⟨c0,c1,c2,c3,c4,_⟩:=h.stc k _ hg
 obtain ⟨a,b⟩:=h.st k _ hg
 rw [hvs] at r1
 have hgl:=World.block_lt_of_cell? w _ (hrow k hk)
 exact ⟨g,cap,P k,Q k,r1,hrow k hk,c0,c2,c3,c4,b,a.lt,hgl,h.rd.lt,c1⟩
theorem kind_0 {x:Ds} {u:St} (hc:Cor x u):x.kind=0 ↔ u.kind=61:=by
 rw [hc.1]; unfold kindOf
 constructor
 ·intro h; rw [if_pos h]
 ·intro h
  by_cases q:x.kind=0
  ·exact q
  ·rw [if_neg q] at h
   split at h
   ·cases h
   ·split at h <;> cases h
theorem r_after (h:Rep B w r m vs vo P Q O) (k:Nat) (hk:k < m.st.length) (hu:StQ (m.st.getD k noSt)) {x:Ds} (hc:Cor x (m.st.getD k noSt)) (way:Int) (v:Value) (e0:Bool) (hva:∃ a n c,v=.slice a n c) (hcl:Calls Tryz.prog 59 #[v] w (LSays w e0 C)) (hT:e0=false->TQ C) :
  Calls Tryz.prog 22 #[.pointer (some ⟨r,0,none⟩),.int .i64 (k:Int),.int .i64 way,v] w (LSays w (poE e0 C x way) (poM e0 C x way)):=by
 have hq1:∀ (w:World) (a:Option Addr) (n c:Nat),(binOp .eql 32 (.slice a n c) (.slice none 0 0)).run Tryz.prog w=.ok (.bool a.isNone) w:=fun w a n c=>Lib.run_eql_slice_nil w 32 tN a n c 0 0 Tryz.underlying32
 have hmk:∀ w,(Instr.makeSlice 32 (.int .i64 4) (.int .i64 4)).run Tryz.prog w=.ok (.slice (some ⟨w.heap.size,0,none⟩) 4 4) (w.alloc (.cells #[.int .i64 0,.int .i64 0,.int .i64 0,.int .i64 0] tNk)):=fun _=>by kernel_rfl
 have StK:Hid (∀ w1,Below w.heap.size w w1->StV w1 r k (m.st.getD k noSt) m.st.length):=fun w1 hb=>(h.keep hb).stv hk
 have hki:(k:Int) < (m.st.length:Int):=by omega
 have hk0:=kind_0 hc
 obtain ⟨-,c1,c2,c3,c4⟩:=id hc
 obtain ⟨va,vn,vc,rfl⟩:=hva
 clear h
 generalize m.st.getD k noSt=u at *
 have HU:Hid (StQ u):=hu
 have HC:Hid (Cor x u):=hc
 cases e0 with
 | true =>
  have HE:Hid (poE true C x way=true):=rfl
  clear hT hu hc c1 c2 c3 c4 hk0
  go_enter Tryz.func22,Tryz.ntmps22
  go_wp2_with fail
  refine hcl.mono ?_
  rintro e w1 ⟨hb1,⟨-,rfl⟩ | ⟨he,-⟩⟩
  ·have hrw:=StK.out w1 hb1
   obtain ⟨g,cap,p,q,x1,x2,x3,x4,x5,x6,hq,hpl,hgl,hrl,x7⟩:=hrw.ex
   have HQ:Hid (At w1 q (ic u.sg) tNk/\Below w.heap.size w w1):=⟨hq,hb1⟩
   clear hrw hq
   clear hb1 hcl
   go_wp2_with fail
   go_ret
   exact ⟨HQ.out.2,.inl ⟨HE.out,rfl⟩⟩
  ·cases he
 | false =>
 have HT:Hid (TQ C):=hT rfl
 have hnr:=hu.g.num
 obtain ⟨n1,n2⟩:=hnr
 by_cases k61:u.kind=61
 ·have HE:Hid (poE false C x way=false/\poM false C x way=asM C x):=by
   refine ⟨?_,?_⟩
   ·unfold poE; rw [if_neg (by decide),if_pos (hk0.2 k61)]
   ·unfold poM; rw [if_neg (by decide),if_pos (hk0.2 k61)]
  have h1:nz u.sg<=1:=hu.fq.1 k61
  have HAs:Hid (∀ w1 gq p q,Below w.heap.size w w1->At w1 gq (ic (bdL C)) tNo->p < w1.heap.size->w1.cell? ⟨p,1,none⟩=some (.int .i64 u.var)->w1.cell? ⟨p,2,none⟩=some (.bool u.star)->w1.cell? ⟨p,3,none⟩=some (.slice (some ⟨q,0,none⟩) 4 4)->w1.cell? ⟨p,4,none⟩=some (.int .i64 u.num)->At w1 q (ic u.sg) tNk ->
    Calls Tryz.prog 60 #[.slice (some ⟨gq,0,none⟩) 32 32,.pointer (some ⟨p,0,none⟩)] w1 (tOut w1 (asD C u))):=fun w1 gq p q hb ha hp y1 y2 y3 y4 hq =>
   r_assigned HT.out.sm _ u HU.out.g HU.out.var h1 (Reads.at_ ha (bdL_len C) (Nat.le_refl _) (fun i hi=>ic_get _ _ (by rw [bdL_len]; exact hi))) p q hp y1 y2 y3 y4 hq
  have HSm:Hid (∀ f,f < 32->bd (asM C x) f=asD C u f):=fun f hf=>as_same HT.out.tc HT.out.top HC.out HU.out.g HU.out.var h1 hf
  clear hT hu hc h1 c1 c2 c3 c4 hk0
  go_enter Tryz.func22,Tryz.ntmps22
  go_wp2_with fail
  refine hcl.mono ?_
  rintro e w1 ⟨hb1,⟨he,-⟩ | ⟨-,gq,rfl,hgq,ha⟩⟩
  ·cases he
  ·have hrw:=StK.out w1 hb1
   obtain ⟨g,cap,p,q,x1,x2,x3,x4,x5,x6,hq,hpl,hgl,hrl,x7⟩:=hrw.ex
   have HQ:Hid (At w1 q (ic u.sg) tNk/\Below w.heap.size w w1):=⟨hq,hb1⟩
   clear hrw hq
   have has:=HAs.out w1 gq p q hb1 ha hpl x7 x4 x5 x6 HQ.out.1
   rw [k61] at x3
   clear hb1 hcl ha k61 HAs
   go_wp2_with fail
   refine has.mono ?_
   rintro e w2 ⟨hb2,g2,rfl,hg2,ha2⟩
   have H2:Hid (Below w.heap.size w w2/\w.heap.size<=g2/\At w2 g2 (ic (rl (asD C u))) tNk):=⟨HQ.out.2.trans (hb2.mono HQ.out.2.size),Nat.le_trans HQ.out.2.size hg2,ha2⟩
   clear hb2 hg2 ha2 has
   go_wp2_with fail
   go_ret
   rw [HE.out.1,HE.out.2]
   refine ⟨H2.out.1,.inr ⟨rfl,g2,rfl,H2.out.2.1,?_⟩⟩
   have e1:rl (asD C u)=bdL (asM C x):=bdL_of (fun f hf=>(HSm.out f hf).symm)
   rw [<- e1]
   exact H2.out.2.2
 have kx:¬ x.kind=0:=fun z=>k61 (hk0.1 z)
 have kb:(u.kind == 61)=false:=by simpa using k61
 cases hst:u.star with
 | true =>
  have HE:Hid (poE false C x way=false/\poM false C x way=C):=by
   have ha:x.any=true:=by rw [<- c2]; exact hst
   refine ⟨?_,?_⟩
   ·unfold poE; rw [if_neg (by decide),if_neg kx,if_pos ha]
   ·unfold poM; rw [if_neg (by decide),if_neg kx,if_pos ha]
  clear hT hu hc kx k61 c1 c2 c3 c4 hk0
  go_enter Tryz.func22,Tryz.ntmps22
  go_wp2_with fail
  refine hcl.mono ?_
  rintro e w1 ⟨hb1,⟨he,-⟩ | ⟨-,gq,rfl,hgq,ha⟩⟩
  ·cases he
  ·have hrw:=StK.out w1 hb1
   obtain ⟨g,cap,p,q,x1,x2,x3,x4,x5,x6,hq,hpl,hgl,hrl,x7⟩:=hrw.ex
   have HQ:Hid (At w1 q (ic u.sg) tNk/\Below w.heap.size w w1):=⟨hq,hb1⟩
   clear hrw hq
   rw [hst] at x4
   have HG:Hid (w.heap.size<=gq/\At w1 gq (ic (bdL C)) tNo):=⟨hgq,ha⟩
   clear hb1 hcl ha hgq
   go_wp2_with fail
   go_ret
   rw [HE.out.1,HE.out.2]
   exact ⟨HQ.out.2,.inr ⟨rfl,gq,rfl,HG.out.1,HG.out.2⟩⟩
 | false =>
 have ha:x.any=false:=by rw [<- c2]; exact hst
 have hz1:1<=nz u.sg:=(hu.fq.2 k61).resolve_left (by rw [hst]; decide)
 have HMe:Hid (∀ w1 gq vv (l:List Int) n,At w1 gq (ic (bdL C)) tNo->Reads w1 vv l->l.length=4->(∀ i,-1<=gAt l i/\gAt l i<=1)->1<=nz l->nz l<=2->(-1000<=n/\n<=1000)->Calls Tryz.prog 61 #[.slice (some ⟨gq,0,none⟩) 32 32,vv,.int .i64 n] w1 (LSays w1 (atE false C l n) (atM false C l n))):=fun w1 gq vv l n ha hr h4 hs h1 h2 hn =>
  r_met HT.out _ vv l h4 hs h1 h2 n hn (Reads.at_ ha (bdL_len C) (Nat.le_refl _) (fun i hi=>ic_get _ _ (by rw [bdL_len]; exact hi))) hr
 by_cases hw:way=0
 ·have HE:Hid (poE false C x way=atE false C u.sg u.num/\poM false C x way=atM false C u.sg u.num):=by
   rw [c3,c4]
   refine ⟨?_,?_⟩
   ·unfold poE; rw [if_neg (by decide),if_neg kx,ha,if_neg (by decide),if_pos hw]
   ·unfold poM; rw [if_neg (by decide),if_neg kx,ha,if_neg (by decide),if_pos hw]
  have HMt:Hid (∀ w1 w3 gq q,w3.heap=w1.heap->At w1 gq (ic (bdL C)) tNo->At w1 q (ic u.sg) tNk->Calls Tryz.prog 61 #[.slice (some ⟨gq,0,none⟩) 32 32,.slice (some ⟨q,0,none⟩) 4 4,.int .i64 u.num] w3 (LSays w3 (atE false C u.sg u.num) (atM false C u.sg u.num))):=fun w1 w3 gq q he ha hq =>
   HMe.out w3 gq _ u.sg u.num (ha.same (by rw [he])) (Reads.at_ (hq.same (by rw [he])) HU.out.g.len (Nat.le_refl _) (fun i hi=>ic_get _ _ (by rw [HU.out.g.len]; exact hi))) HU.out.g.len HU.out.g.sg hz1 HU.out.g.nz ⟨by omega,by omega⟩
  subst hw
  clear hT hu hc kx k61 HMe c1 c2 c3 c4 hk0 ha
  go_enter Tryz.func22,Tryz.ntmps22
  go_wp2_with fail
  refine hcl.mono ?_
  rintro e w1 ⟨hb1,⟨he,-⟩ | ⟨-,gq,rfl,hgq,ha⟩⟩
  ·cases he
  ·have hrw:=StK.out w1 hb1
   obtain ⟨g,cap,p,q,x1,x2,x3,x4,x5,x6,hq,hpl,hgl,hrl,x7⟩:=hrw.ex
   have HQ:Hid (At w1 q (ic u.sg) tNk/\Below w.heap.size w w1):=⟨hq,hb1⟩
   clear hrw hq
   rw [hst] at x4
   have HMw:Hid (∀ w3,w3.heap=w1.heap->Below w.heap.size w w3->Calls Tryz.prog 61 #[.slice (some ⟨gq,0,none⟩) 32 32,.slice (some ⟨q,0,none⟩) 4 4,.int .i64 u.num] w3 fun e w'=>∃ a nn c,e=.returned (.slice a nn c)/\Hid (LSays w (atE false C u.sg u.num) (atM false C u.sg u.num) (.returned (.slice a nn c)) w')):=by
    intro w3 he hb3
    refine (HMt.out w1 w3 gq q he ha HQ.out.1).mono ?_
    intro y w4 hy
    obtain ⟨yy,rfl,a,nn,c,rfl⟩:=hy.val
    exact ⟨a,nn,c,rfl,hy.from_ hb3⟩
   clear hb1 hcl ha hgq HMt
   generalize u.num=n at *
   generalize atE false C u.sg n=e4 at *
   generalize atM false C u.sg n=M4 at *
   go_wp2_with fail
   go_region_with (go_at_call 61; refine (HMw.out _ (by rfl) HQ.out.2.drew).mono ?_; rintro e w3 ⟨a,nn,c,rfl,HY⟩)
   all_goals
    go_wp2_with fail
    go_ret
    rw [HE.out.1,HE.out.2]
    exact HY.out
 ·have wb:(way == 0)=false:=by simpa using hw
  have HE:Hid (poE false C x way=atE false C (ngL u.sg) (-u.num - 1)/\poM false C x way=atM false C (ngL u.sg) (-u.num - 1)):=by
   rw [c3,c4]
   refine ⟨?_,?_⟩
   ·unfold poE; rw [if_neg (by decide),if_neg kx,ha,if_neg (by decide),if_neg hw]
   ·unfold poM; rw [if_neg (by decide),if_neg kx,ha,if_neg (by decide),if_neg hw]
  clear hT hu hc kx k61 c1 c2 c3 c4 hk0 ha hw
  go_enter Tryz.func22,Tryz.ntmps22
  go_wp2_with fail
  refine hcl.mono ?_
  rintro e w1 ⟨hb1,⟨he,-⟩ | ⟨-,gq,rfl,hgq,ha⟩⟩
  ·cases he
  ·have hrw:=StK.out w1 hb1
   obtain ⟨g,cap,p,q,x1,x2,x3,x4,x5,x6,hq,hpl,hgl,hrl,x7⟩:=hrw.ex
   have HQ:Hid (At w1 q (ic u.sg) tNk/\Below w.heap.size w w1):=⟨hq,hb1⟩
   clear hrw hq
   rw [hst] at x4
   have HA:Hid (At (w1.alloc (.cells #[.int .i64 0,.int .i64 0,.int .i64 0,.int .i64 0] tNk)) w1.heap.size (ic (pnL u.sg 0)) tNk/\Below w1.heap.size w1 (w1.alloc (.cells #[.int .i64 0,.int .i64 0,.int .i64 0,.int .i64 0] tNk))):=⟨At.new _ _ _,(Below.refl _ _).alloc (Nat.le_refl _) _⟩
   have HGa:Hid (At w1 gq (ic (bdL C)) tNo):=ha
   have hqlt:q < w1.heap.size:=HQ.out.1.lt
   clear hb1 hcl ha hgq
   go_wp2_with fail
   go_loopw [12] (fun iv wr=>∃ (j:Nat),j<=4/\iv=.int .i64 j/\Hid (At wr w1.heap.size (ic (pnL u.sg j)) tNk/\Below w1.heap.size w1 wr)) (fun iv _=>4 - (intOf iv).toNat)
   case atStart=>exact ⟨0,by omega,rfl,HA.out⟩
   case round =>
    obtain ⟨j,hj,rfl,HR⟩:=hrel
    have y5:wr.cell? ⟨p,3,none⟩=some (.slice (some ⟨q,0,none⟩) 4 4):=(HR.out.2.cell (p:=⟨p,3,none⟩) hpl).trans x5
    by_cases hlt:j < 4
    ·have hji:(j:Int) < 4:=by omega
     have hpn:=pnL_at u.sg hlt
     have ca:wr.cell? ⟨q,j,none⟩=some (.int .i64 (gAt u.sg j)):=by
      rw [HR.out.2.cell (p:=⟨q,j,none⟩) hqlt,HQ.out.1.cell,ic_get _ _ (by rw [HU.out.g.len]; exact hlt)]; rfl
     have cb:wr.cell? ⟨w1.heap.size,j,none⟩=some (.int .i64 0):=by
      rw [HR.out.1.cell,ic_get _ _ (by omega),hpn.2]
     have cf:=HR.out.1.free
     have hbl:=HR.out.1.lt
     have hx:=HU.out.g.sg j
     have HP:Hid (pnL u.sg (j+1)=(pnL u.sg j).set j (-gAt u.sg j)):=rfl
     clear hpn
     generalize gAt u.sg j=y at *
     go_wp2_with fail
     go_roundw
     case rel =>
      refine ⟨j+1,by omega,by go_num,?_,HR.out.2.setCell (Nat.le_refl _) _⟩
      rw [HP.out,<- ic_set]
      exact HR.out.1.put j _
     case measure=>simp [intOf]; omega
    ·have hj4:j=4:=by omega
     subst hj4
     have hme:=HMe.out wr gq (.slice (some ⟨w1.heap.size,0,none⟩) 4 4) (ngL u.sg) (-u.num - 1) (HGa.out.keep HR.out.2 HGa.out.lt) (Reads.at_ HR.out.1 (ngL_len _) (Nat.le_refl _) (fun i hi=>ic_get _ _ (by show i < (ngL u.sg).length; rw [ngL_len]; exact hi))) (ngL_len _) (ngL_rng HU.out.g.sg) (by rw [nz_ngL HU.out.g.len]; exact hz1) (by rw [nz_ngL HU.out.g.len]; exact HU.out.g.nz) ⟨by omega,by omega⟩
     have HBr:Hid (Below w.heap.size w wr):=HQ.out.2.trans (HR.out.2.mono HQ.out.2.size)
     have z6:wr.cell? ⟨p,4,none⟩=some (.int .i64 u.num):=(HR.out.2.cell (p:=⟨p,4,none⟩) hpl).trans x6
     have hplr:p < wr.heap.size:=Nat.lt_of_lt_of_le hpl HR.out.2.size
     clear HMe HA HQ HGa
     generalize u.num=n at *
     generalize atE false C (ngL u.sg) (-n - 1)=e4 at *
     generalize atM false C (ngL u.sg) (-n - 1)=M4 at *
     go_wp2_with fail
     refine hme.mono ?_
     intro y w3 hy
     obtain ⟨yy,rfl,a,nn,c,rfl⟩:=hy.val
     have HY:Hid (LSays wr e4 M4 (.returned (.slice a nn c)) w3):=hy
     clear hy hme
     go_wp2_with fail
     go_ret
     rw [HE.out.1,HE.out.2]
     exact HY.out.from_ HBr.out
end Go.Proofs.YtffajooegiempaaGreatDoor

namespace Go.Proofs.YtffajooegiempaaGreatDoor
open Go.RowKit
variable {w w':World} {g cap b:Nat} {F:List Ds}
theorem ds_storeAt {c:Array Value} (h:At w b c tDs) (hc:c.size=10) (y:Ds):∃ w1,(Instr.storeAt tDs (.pointer (some ⟨b,0,none⟩)) (dsv y)).run Tryz.prog w=.ok () w1/\At w1 b (dsCells y) tDs/\Onl b w w1:=by
 refine ⟨w.setRow b (dsCells y),?_,setRow_heap w b c (dsCells y) tDs (0,0) h,⟨rfl,rfl,rfl,by simp [World.setRow],fun k _ hk=>setRow_other w b k _ (fun e=>hk e)⟩⟩
 simp only [Instr.storeAt,Instr.sureAddr,Sem.run_bind,Sem.run_pure,Result.andThen]
 exact run_storeVar_row w b tDs tDs c (dsCells y) h (by kernel_rfl) (by rw [hc]; rfl) (by simp [dsCells,Value.oneCell'])
theorem wpList_store_ds {ops:Array Oper} {rest:List Oper} {o:Oper} {a:Act} {Q:Exit->Act->World->Prop} {c:Array Value} (hg:o.guard=none) (p x:Operand) (hop:o.op=Op.store tDs p x) (hp:a.eval p=.pointer (some ⟨b,0,none⟩)) (y:Ds) (hx:a.eval x=dsv y) (hat:At w b c tDs) (hc:c.size=10)
  (hK:∀ w1,At w1 b (dsCells y) tDs->Onl b w w1->wpList Tryz.prog ops Q rest (a.put o.dst undef) w1):wpList Tryz.prog ops Q (o :: rest) a w:=by
 refine wpList_plain hg fun K hK'=>?_
 obtain ⟨w1,h1,h2,h3⟩:=ds_storeAt hat hc y
 unfold Oper.wp
 simp [execOp,hop,hp,hx,h1,Result.andThen,Oper.upon]
 exact hK' _ _ (hK w1 h2 h3)
theorem d_with_out (ao:Option Addr) (n:Nat) (hn:n<=20) (p way:Int) (hp:p < 0 \/ (n:Int)<=p) :
  Calls Tryz.prog 79 #[.agg #[.slice ao n cap],.int .i64 p,.int .i64 way] w fun e w'=>e=.returned (.tuple #[dsv zDs,.int .i64 2])/\Below w.heap.size w w':=by
 obtain ⟨w0,hw0⟩:∃ w0,w0=(w.alloc (.cells #[.slice ao n cap] 43)).alloc (.cells (dsCells zDs) tDs):=⟨_,rfl⟩
 have HB0:Hid (Below w.heap.size w w0/\At w0 (w.heap.size+1) (dsCells zDs) tDs/\w0.heap.size=w.heap.size+2):=by
  refine ⟨by rw [hw0]; exact ((Below.refl _ _).alloc (Nat.le_refl _) _).alloc (by simp) _,?_,by rw [hw0]; simp⟩
  have:=At.new (w.alloc (.cells #[.slice ao n cap] 43)) (dsCells zDs) tDs
  rw [show (w.alloc (.cells #[.slice ao n cap] 43)).heap.size=w.heap.size+1 by simp] at this
  rw [hw0]; exact this
 obtain ⟨BW,hBW⟩:∃ BW:World->Prop,BW=fun w'=>Below w0.heap.size w0 w':=⟨_,rfl⟩
 have hat0:Calls Tryz.prog 81 #[.agg #[.slice ao n cap],.int .i64 p] w0 fun e w'=>e=.returned (.tuple #[dsv zDs,.int .i64 2])/\BW w':=by rw [hBW]; exact d_at_out ao n hn p hp
 clear hp
 rw [hw0] at hat0
 unfold dsv dsCells zDs newDs at hat0
 go_enter Tryz.func79,Tryz.ntmps79
 go_wp2_with fail
 refine hat0.mono ?_
 rintro e w1 ⟨rfl,hb1⟩
 obtain ⟨w2,hw2⟩:∃ w2,w2=w1.alloc (.cells (dsCells zDs) tDs):=⟨_,rfl⟩
 have H2:Hid (Below w.heap.size w w2/\At w2 (w.heap.size+1) (dsCells zDs) tDs/\At w2 w1.heap.size (dsCells zDs) tDs/\w.heap.size+2<=w1.heap.size/\w2.heap.size=w1.heap.size+1):=by
  have s0:=HB0.out.2.2
  rw [hBW] at hb1
  have s1:=hb1.size
  have a1:=At.keep HB0.out.2.1 hb1 (by omega)
  refine ⟨?_,?_,?_,by omega,by rw [hw2]; simp⟩
  ·rw [hw2]; exact (HB0.out.1.trans (hb1.mono (by omega))).alloc (by have:=HB0.out.1.size; omega) _
  ·rw [hw2]; exact At.allocH a1 _
  ·rw [hw2]; exact At.new _ _ _
 have hs1:w.heap.size+2<=w1.heap.size:=H2.out.2.2.2.1
 clear hb1
 unfold dsCells zDs newDs at hw2
 rw [hw2] at H2
 go_wp2_with (first | (refine wpList_store_ds (b:=w.heap.size+1) (c:=dsCells zDs) rfl (.tmp 6) (.tmp 18) rfl rfl zDs rfl H2.out.2.1 rfl ?_; intro w5 h5a h5b))
 have h5:Hid (At w5 (w.heap.size+1) (dsCells zDs) tDs/\Below w.heap.size w w5):=⟨h5a,H2.out.1.trans (h5b.below (by omega) (by have:=H2.out.1.size; exact this))⟩
 go_wp2_with fail
 try simp only [Exit.inBlock,Exit.then]
 refine bodyPost_ret (results_dc (b:=w.heap.size+1) (x:=zDs) rfl _ rfl h5.out.1) rfl ?_
 exact ⟨rfl,h5.out.2⟩
theorem d_with_in (h:PRow w g F) (k:Nat) (hk:k < F.length) (way:Int) :
  Calls Tryz.prog 79 #[.agg #[.slice (some ⟨g,0,none⟩) F.length cap],.int .i64 (k:Int),.int .i64 way] w fun e w' =>
   e=.returned (.tuple #[dsv (if way < 0 \/ waysP (F.getD k (newDs 0 0)).kind<=way then zDs else F.getD k (newDs 0 0)),.int .i64 (if way < 0 \/ waysP (F.getD k (newDs 0 0)).kind<=way then 2 else 0)])/\Below w.heap.size w w':=by
 obtain ⟨w0,hw0⟩:∃ w0,w0=(w.alloc (.cells #[.slice (some ⟨g,0,none⟩) F.length cap] 43)).alloc (.cells (dsCells zDs) tDs):=⟨_,rfl⟩
 have HB0:Hid (Below w.heap.size w w0/\At w0 (w.heap.size+1) (dsCells zDs) tDs/\w0.heap.size=w.heap.size+2):=by
  refine ⟨by rw [hw0]; exact ((Below.refl _ _).alloc (Nat.le_refl _) _).alloc (by simp) _,?_,by rw [hw0]; simp⟩
  have:=At.new (w.alloc (.cells #[.slice (some ⟨g,0,none⟩) F.length cap] 43)) (dsCells zDs) tDs
  rw [show (w.alloc (.cells #[.slice (some ⟨g,0,none⟩) F.length cap] 43)).heap.size=w.heap.size+1 by simp] at this
  rw [hw0]; exact this
 obtain ⟨BW,hBW⟩:∃ BW:World->Prop,BW=fun w'=>Below w0.heap.size w0 w':=⟨_,rfl⟩
 have hat0:Calls Tryz.prog 81 #[.agg #[.slice (some ⟨g,0,none⟩) F.length cap],.int .i64 (k:Int)] w0 fun e w'=>e=.returned (.tuple #[dsv (F.getD k (newDs 0 0)),.int .i64 0])/\BW w':=by rw [hBW]; exact d_at_in (h.keep HB0.out.1) k hk
 generalize F.getD k (newDs 0 0)=x at *
 clear h hk
 by_cases hw0':way < 0
 ·rw [if_pos (.inl hw0'),if_pos (.inl hw0')]
  rw [hw0] at hat0
  unfold dsv dsCells zDs newDs at hat0
  go_enter Tryz.func79,Tryz.ntmps79
  go_wp2_with fail
  refine hat0.mono ?_
  rintro e w1 ⟨rfl,hb1⟩
  obtain ⟨w2,hw2⟩:∃ w2,w2=w1.alloc (.cells (dsCells x) tDs):=⟨_,rfl⟩
  have H2:Hid (Below w.heap.size w w2/\At w2 (w.heap.size+1) (dsCells zDs) tDs/\At w2 w1.heap.size (dsCells x) tDs/\w.heap.size+2<=w1.heap.size/\w2.heap.size=w1.heap.size+1):=by
   have s0:=HB0.out.2.2
   rw [hBW] at hb1
   have s1:=hb1.size
   have a1:=At.keep HB0.out.2.1 hb1 (by omega)
   refine ⟨?_,?_,?_,by omega,by rw [hw2]; simp⟩
   ·rw [hw2]; exact (HB0.out.1.trans (hb1.mono (by omega))).alloc (by have:=HB0.out.1.size; omega) _
   ·rw [hw2]; exact At.allocH a1 _
   ·rw [hw2]; exact At.new _ _ _
  have hs1:w.heap.size+2<=w1.heap.size:=H2.out.2.2.2.1
  clear hb1
  unfold dsCells at hw2
  rw [hw2] at H2
  go_wp2_with (first | (refine wpList_store_ds (b:=w.heap.size+1) (c:=dsCells zDs) rfl (.tmp 6) (.tmp 28) rfl rfl zDs rfl H2.out.2.1 rfl ?_; intro w5 h5a h5b))
  have h5:Hid (At w5 (w.heap.size+1) (dsCells zDs) tDs/\Below w.heap.size w w5):=⟨h5a,H2.out.1.trans (h5b.below (by omega) (by have:=H2.out.1.size; exact this))⟩
  go_wp2_with fail
  try simp only [Exit.inBlock,Exit.then]
  refine bodyPost_ret (results_dc (b:=w.heap.size+1) (x:=zDs) rfl _ rfl h5.out.1) rfl ?_
  exact ⟨rfl,h5.out.2⟩
 by_cases hw1:waysP x.kind<=way
 ·rw [if_pos (.inr hw1),if_pos (.inr hw1)]
  rw [hw0] at hat0
  unfold dsv dsCells zDs newDs at hat0
  go_enter Tryz.func79,Tryz.ntmps79
  go_wp2_with fail
  refine hat0.mono ?_
  rintro e w1 ⟨rfl,hb1⟩
  obtain ⟨w2,hw2⟩:∃ w2,w2=w1.alloc (.cells (dsCells x) tDs):=⟨_,rfl⟩
  have H2:Hid (Below w.heap.size w w2/\At w2 (w.heap.size+1) (dsCells zDs) tDs/\At w2 w1.heap.size (dsCells x) tDs/\w.heap.size+2<=w1.heap.size/\w2.heap.size=w1.heap.size+1):=by
   have s0:=HB0.out.2.2
   rw [hBW] at hb1
   have s1:=hb1.size
   have a1:=At.keep HB0.out.2.1 hb1 (by omega)
   refine ⟨?_,?_,?_,by omega,by rw [hw2]; simp⟩
   ·rw [hw2]; exact (HB0.out.1.trans (hb1.mono (by omega))).alloc (by have:=HB0.out.1.size; omega) _
   ·rw [hw2]; exact At.allocH a1 _
   ·rw [hw2]; exact At.new _ _ _
  have hs1:w.heap.size+2<=w1.heap.size:=H2.out.2.2.2.1
  clear hb1
  unfold dsCells at hw2
  rw [hw2] at H2
  go_wp2_with fail
  refine (d_ways _ _ _ _ _ _ _ _ _ _ _).mono ?_
  rintro e w3 ⟨rfl,o3,rfl⟩
  go_wp2_with (first | (refine wpList_store_ds (b:=w.heap.size+1) (c:=dsCells zDs) rfl (.tmp 6) (.tmp 28) rfl rfl zDs rfl (At.allocH H2.out.2.1 _) rfl ?_; intro w5 h5a h5b))
  have h5:Hid (At w5 (w.heap.size+1) (dsCells zDs) tDs/\Below w.heap.size w w5):=⟨h5a,(H2.out.1.alloc (by have:=H2.out.1.size; exact this) _).trans (h5b.below (by omega) (by have:=H2.out.1.size; simp at this |-; omega))⟩
  go_wp2_with fail
  try simp only [Exit.inBlock,Exit.then]
  refine bodyPost_ret (results_dc (b:=w.heap.size+1) (x:=zDs) rfl _ rfl h5.out.1) rfl ?_
  exact ⟨rfl,h5.out.2⟩
 ·rw [if_neg (fun e=>e.elim hw0' hw1),if_neg (fun e=>e.elim hw0' hw1)]
  rw [hw0] at hat0
  unfold dsv dsCells zDs newDs at hat0
  go_enter Tryz.func79,Tryz.ntmps79
  go_wp2_with fail
  refine hat0.mono ?_
  rintro e w1 ⟨rfl,hb1⟩
  obtain ⟨w2,hw2⟩:∃ w2,w2=w1.alloc (.cells (dsCells x) tDs):=⟨_,rfl⟩
  have H2:Hid (Below w.heap.size w w2/\At w2 (w.heap.size+1) (dsCells zDs) tDs/\At w2 w1.heap.size (dsCells x) tDs/\w.heap.size+2<=w1.heap.size/\w2.heap.size=w1.heap.size+1):=by
   have s0:=HB0.out.2.2
   rw [hBW] at hb1
   have s1:=hb1.size
   have a1:=At.keep HB0.out.2.1 hb1 (by omega)
   refine ⟨?_,?_,?_,by omega,by rw [hw2]; simp⟩
   ·rw [hw2]; exact (HB0.out.1.trans (hb1.mono (by omega))).alloc (by have:=HB0.out.1.size; omega) _
   ·rw [hw2]; exact At.allocH a1 _
   ·rw [hw2]; exact At.new _ _ _
  have hs1:w.heap.size+2<=w1.heap.size:=H2.out.2.2.2.1
  clear hb1
  unfold dsCells at hw2
  rw [hw2] at H2
  go_wp2_with fail
  refine (d_ways _ _ _ _ _ _ _ _ _ _ _).mono ?_
  rintro e w3 ⟨rfl,o3,rfl⟩
  go_wp2_with (first | (refine wpList_store_ds (b:=w.heap.size+1) (c:=dsCells zDs) rfl (.tmp 6) (.tmp 29) rfl rfl x rfl (At.allocH H2.out.2.1 _) rfl ?_; intro w5 h5a h5b))
  have h5:Hid (At w5 (w.heap.size+1) (dsCells x) tDs/\Below w.heap.size w w5):=⟨h5a,(H2.out.1.alloc (by have:=H2.out.1.size; exact this) _).trans (h5b.below (by omega) (by have:=H2.out.1.size; simp at this |-; omega))⟩
  go_wp2_with fail
  try simp only [Exit.inBlock,Exit.then]
  refine bodyPost_ret (results_dc (b:=w.heap.size+1) (x:=x) rfl _ rfl h5.out.1) rfl ?_
  exact ⟨rfl,h5.out.2⟩
end Go.Proofs.YtffajooegiempaaGreatDoor

namespace Go.Proofs.YtffajooegiempaaGreatDoor
open Go.RowKit
variable {w:World}
theorem ov_tq {o:List Int} (ho:okL o) (he:ovE o=false):TQ (ovM o):=by
 refine ⟨(raw_lay ho).tc he,(raw_lay ho).top (bd_lay ho) he,fun k hk=>?_⟩
 have hlo:Lo (8000*6 ^ 8+1) (sharp (lay o 32)):=sharp_lo (fun a _=>(lay_range o 32 ho.2 a).1)
 have y:-(8000*6 ^ 8+1)<=sharp (lay o 32) k:=hlo k hk
 have z:(8000*6 ^ 8+1:Int)=13436928001:=by decide
 rw [z] at y
 show _<=sharp (lay o 32) k
 omega
theorem ov_rng {o:List Int} (ho:okL o):∀ k,k < 64->-20000000000<=ovM o k/\ovM o k<=1000000:=by
 intro k hk
 have hlo:Lo (8000*6 ^ 8+1) (sharp (lay o 32)):=sharp_lo (fun a _=>(lay_range o 32 ho.2 a).1)
 have y:-(8000*6 ^ 8+1)<=sharp (lay o 32) k:=hlo k hk
 have z:(8000*6 ^ 8+1:Int)=13436928001:=by decide
 rw [z] at y
 have u:=sharp_le (lay o 32) k
 have v:=(lay_range o 32 ho.2 k).2
 show -20000000000<=sharp (lay o 32) k/\sharp (lay o 32) k<=1000000
 omega
theorem TQ.sh {C:Nat->Int} (h:TQ C):Sh C:=fun k hk=>⟨by have:=h.lo k hk; omega,(h.top k hk).imp id (fun q=>by omega)⟩
theorem ss_sm {C:Nat->Int} (h:Sh C) {t f:Nat} (hf:f < 8) {n:Int} (hn:-999<=n/\n<=999):Sm (ssF C t f n 64):=by
 intro k hk
 rw [show k=k / 8*8+k % 8 by omega,ss_at C t f n (by omega) (by omega)]
 have a:=org_lt (t:=t) hf (show k / 8 < 8 by omega)
 have b:=org_lt (t:=t) hf (show k % 8 < 8 by omega)
 have c:=h (orgF t f (k / 8)*8+orgF t f (k % 8)) (by omega)
 have d:=add_rng (t:=t) hn (k / 8)
 have e:=add_rng (t:=t) hn (k % 8)
 unfold pl
 split
 ·unfold NB; omega
 ·rename_i q
  have:=c.2.resolve_left (fun z=>q (.inl z))
  omega
theorem bt_sm {C:Nat->Int} (h:Sh C) {t:Nat} (ht:t < 4) {lo hi:Int} (hlo:-999<=lo/\lo<=999) (hhi:-999<=hi/\hi<=999):Sm (sbT C t lo hi) :=
 lm_sm (lm_sm (sbF_sm h ht (by omega) hhi 8 (Nat.le_refl _)) ⟨by omega,.inr (by omega)⟩) ⟨by omega,.inr (by omega)⟩
theorem as_sm {C:Nat->Int} (h:Sh C) {x:Ds} (hx:DsG x) (ht:0<=x.target/\x.target < 4):Sm (asM C x):=by
 have n:=hx.num
 unfold asM
 split
 ·exact bt_sm h (by omega) ⟨by omega,by omega⟩ ⟨by omega,by omega⟩
 ·split
  ·exact bt_sm h (by omega) ⟨by omega,by omega⟩ ⟨by omega,by omega⟩
  ·exact ss_sm h (sdS_lt x.sg 4 (Nat.le_refl _)).1 ⟨by omega,by omega⟩
theorem at_sm {e:Bool} {M:Nat->Int} (hM:∀ k,k < 64->-20000000000<=M k/\M k<=1000000) {l:List Int} {n:Int} (hn:-1000<=n/\n<=1000):Sm (atM e M l n):=by
 unfold atM
 split
 ·intro k hk; have:=hM k hk; omega
 ·exact ah_sm (lm_rng hM hn) 64 (Nat.le_refl _)
theorem po_sm {e:Bool} {M:Nat->Int} (hM:∀ k,k < 64->-20000000000<=M k/\M k<=1000000) (hS:e=false->Sh M) {x:Ds} (hx:DsG x) (ht:0<=x.target/\x.target < 4) (way:Int):Sm (poM e M x way):=by
 have n:=hx.num
 have hm:Sm M:=fun k hk=>by have:=hM k hk; omega
 unfold poM
 split
 ·exact hm
 ·rename_i h
  split
  ·exact as_sm (hS (by simpa using h)) hx ht
  ·split
   ·exact hm
   ·split
    ·exact at_sm hM ⟨by omega,by omega⟩
    ·exact at_sm hM ⟨by omega,by omega⟩
theorem ways_same {F:List Ds} {S:List St} (hW:Whole F S) {k:Nat} (hk:k < F.length):waysP (F.getD k (newDs 0 0)).kind=waysR (S.getD k noSt):=by
 obtain ⟨x,u,a0,c0,g,hx,hu,hcor,ha,hif,hfc,hC,hs,hr,hkk⟩:=hW.at_ k hk
 rw [getD_some hx,getD_some hu]
 obtain ⟨x',u',hx',hu',_,_,_,_,hkd⟩:=hs
 rw [hx] at hx'
 rw [hu] at hu'
 cases hx'
 cases hu'
 have hkind:=hcor.1
 unfold waysR
 rw [hkind]
 rcases hkd with ⟨hk01,_⟩ | ⟨hk3,_⟩ | ⟨hk2,_⟩
 ·rcases hk01 with e | e <;> rw [e] <;> decide
 ·rw [hk3]; decide
 ·rw [hk2]; decide
end Go.Proofs.YtffajooegiempaaGreatDoor

namespace Go.Proofs.YtffajooegiempaaGreatDoor
open Go.RowKit
variable {w w':World} {g cap:Nat} {F:List Ds}
theorem d_isRepeat (h:PRow w g F) (hl:F.length<=20) (p:Int) :
  Calls Tryz.prog 130 #[.agg #[.slice (some ⟨g,0,none⟩) F.length cap],.int .i64 p] w fun e w'=>e=.returned (.bool (isRepP F p))/\Below w.heap.size w w':=by
 have hg:=h.1
 have HP:Hid (PRow w g F):=h
 have HB:Hid (∀ o1,Below w.heap.size w (w.alloc o1)):=fun o1=>(Below.refl _ _).alloc (Nat.le_refl _) _
 by_cases hout:p < 0 \/ (F.length:Int)<=p
 ·have HE:Hid (isRepP F p=false):=by
   show isRepP F p=false
   unfold isRepP
   rcases hout with e | e
   ·rw [decide_eq_false (by omega:¬ 0<=p)]; rfl
   ·rw [decide_eq_false (by omega:¬ p < F.length)]; simp
  have HAt:Hid (∀ w1,Calls Tryz.prog 81 #[.agg #[.slice (some ⟨g,0,none⟩) F.length cap],.int .i64 p] w1 fun e w'=>e=.returned (.tuple #[dsv zDs,.int .i64 2])/\Below w1.heap.size w1 w'):=fun w1=>d_at_out _ _ hl p hout
  clear h hout
  unfold dsv zDs at HAt
  go_enter Tryz.func130,Tryz.ntmps130
  go_wp2_with fail
  refine (HAt.out _).mono ?_
  rintro e w1 ⟨rfl,hb1⟩
  have H1:Hid (Below w.heap.size w w1):=(HB.out _).trans (hb1.mono (by simp))
  have hs1:=H1.out.size
  clear hb1
  go_wp2_with fail
  go_ret
  exact ⟨by rw [HE.out]; rfl,H1.out.alloc hs1 _⟩
 ·obtain ⟨k,rfl⟩:∃ k:Nat,p=k:=⟨p.toNat,by omega⟩
  have hk:k < F.length:=by omega
  have HE:Hid (isRepP F k=((F.getD k (newDs 0 0)).kind == 3)):=by
   show isRepP F k=_
   unfold isRepP
   rw [Int.toNat_natCast,decide_eq_true (by omega:(0:Int)<=k),decide_eq_true (by omega:(k:Int) < F.length)]
   simp only [Bool.true_and]
   rfl
  have HAt:Hid (∀ w1,Below w.heap.size w w1->Calls Tryz.prog 81 #[.agg #[.slice (some ⟨g,0,none⟩) F.length cap],.int .i64 (k:Int)] w1 fun e w'=>e=.returned (.tuple #[dsv (F.getD k (newDs 0 0)),.int .i64 0])/\Below w1.heap.size w1 w'):=fun w1 hb=>d_at_in (HP.out.keep hb) k hk
  clear h hout
  generalize F.getD k (newDs 0 0)=x at *
  unfold dsv at HAt
  go_enter Tryz.func130,Tryz.ntmps130
  go_wp2_with fail
  refine (HAt.out _ (HB.out _)).mono ?_
  rintro e w1 ⟨rfl,hb1⟩
  have H1:Hid (Below w.heap.size w w1):=(HB.out _).trans (hb1.mono (by simp))
  have hs1:=H1.out.size
  clear hb1
  go_wp2_with fail
  go_ret
  exact ⟨by rw [HE.out]; rfl,H1.out.alloc hs1 _⟩
end Go.Proofs.YtffajooegiempaaGreatDoor

namespace Go.Proofs.YtffajooegiempaaGreatDoor
open Go.RowKit
variable {w w':World} {g cap:Nat} {F:List Ds}
theorem d_firstIn (h:PRow w g F) (hl:F.length<=20) (p b fr:Int) :
  Calls Tryz.prog 103 #[.agg #[.slice (some ⟨g,0,none⟩) F.length cap],.int .i64 p,.int .i64 b,.int .i64 fr] w fun e w'=>e=.returned (.int .i64 (firstP F p b fr))/\Below w.heap.size w w':=by
 have hg:=h.1
 have HP:Hid (PRow w g F):=h
 clear h
 go_enter Tryz.func103,Tryz.ntmps103
 go_wp2_with fail
 go_loopw [14] (fun i wr=>∃ k:Nat,k<=F.length/\i=.int .i64 k/\Below w.heap.size w wr/\firstP F p b fr=firstGo p b fr (F.drop k) k) (fun i _=>F.length - (intOf i).toNat)
 case atStart=>exact ⟨0,Nat.zero_le _,rfl,(Below.refl _ _).alloc (Nat.le_refl _) _,rfl⟩
 case round =>
  obtain ⟨k,hk,rfl,hbel,hfi⟩:=hrel
  have HF:Hid (_=_):=hfi
  clear hfi
  by_cases hlt:k < F.length
  ·have hki:(k:Int) < (F.length:Int):=by omega
   obtain ⟨c0,c1,c2,c3,c4,c5,c6,c7,c8,c9⟩:=(HP.out.keep hbel).2 k _ (gets' hlt)
   have HD:Hid (_=_):=HF.out.trans (firstGo_drop hlt)
   have hsz:=hbel.size
   have HB:Hid (Below _ _ _):=hbel
   clear HF hbel
   generalize F.getD k (newDs 0 0)=x at *
   by_cases hm:fr<=(k:Int)
   ·by_cases hp:x.parent=p
    ·have bp:(x.parent == p)=true:=by simpa using hp
     by_cases hb:x.block=b
     ·have bb:(x.block == b)=true:=by simpa using hb
      have HE:Hid (_=_):=HD.out.trans (if_pos ⟨hm,hp,hb⟩)
      clear HD hp hb
      go_wp2_with fail
      go_ret
      exact ⟨by rw [HE.out]; rfl,HB.out.alloc hsz _⟩
     ·have bb:(x.block == b)=false:=by simpa using hb
      have HE:Hid (_=_):=HD.out.trans (if_neg (fun e=>hb e.2.2))
      clear HD hp hb
      go_wp2_with fail
      go_roundw
      case rel=>exact ⟨k+1,by omega,by go_num,HB.out.alloc hsz _,HE.out⟩
      case measure=>simp [intOf]; omega
    ·have bp:(x.parent == p)=false:=by simpa using hp
     have HE:Hid (_=_):=HD.out.trans (if_neg (fun e=>hp e.2.1))
     clear HD hp
     go_wp2_with fail
     go_roundw
     case rel=>exact ⟨k+1,by omega,by go_num,HB.out.alloc hsz _,HE.out⟩
     case measure=>simp [intOf]; omega
   ·have HE:Hid (_=_):=HD.out.trans (if_neg (fun e=>hm e.1))
    have hmd:decide (fr<=(k:Int))=false:=decide_eq_false hm
    clear HD
    go_wp2_with fail
    go_roundw
    case rel=>exact ⟨k+1,by omega,by go_num,HB.out.alloc hsz _,HE.out⟩
    case measure=>simp [intOf]; omega
  ·have hke:k=F.length:=by omega
   have HE:Hid (firstP F p b fr=-1):=HF.out.trans (by rw [hke,List.drop_length]; rfl)
   have hnk:¬ (k:Int) < (F.length:Int):=by omega
   clear HF hke
   go_wp2_with fail
   go_ret
   exact ⟨by rw [HE.out]; rfl,hbel⟩
end Go.Proofs.YtffajooegiempaaGreatDoor

namespace Go.Proofs.YtffajooegiempaaGreatDoor
open Go.RowKit
theorem d_end (ao:Option Addr) (n cap:Nat) (w:World) (_hn:n<=20) :
  Calls Tryz.prog 67 #[.agg #[.slice ao n cap]] w fun e w'=>e=.returned (.int .i64 n)/\∃ o,w'=w.alloc o:=by
 go_enter Tryz.func67,Tryz.ntmps67
 go_wp2
 go_ret
 exact ⟨rfl,_,rfl⟩
end Go.Proofs.YtffajooegiempaaGreatDoor

namespace Go.Proofs.YtffajooegiempaaGreatDoor
open Go.RowKit
variable {w w':World} {g cap:Nat} {F:List Ds}
def boxOf (g n cap:Nat):Obj:=.cells #[.slice (some ⟨g,0,none⟩) n cap] 43
theorem d_following (h:PRow w g F) (hl:F.length<=20) (hpar:∀ (k:Nat) (x:Ds),F[k]?=some x->-1<=x.parent/\x.parent < (k:Int)) (pt:Int) (hp0:-1<=pt) (hp1:pt < 21) :
  Calls Tryz.prog 102 #[.agg #[.slice (some ⟨g,0,none⟩) F.length cap],.int .i64 pt] w fun e w'=>e=.returned (.int .i64 (followP F 21 pt))/\Below w.heap.size w w':=by
 have hg:=h.1
 have HP:Hid (PRow w g F):=h
 have HPar:Hid (∀ (k:Nat) (x:Ds),F[k]?=some x->-1<=x.parent/\x.parent < (k:Int)):=hpar
 have HBox:Hid (Below w.heap.size w (w.alloc (boxOf g F.length cap))):=(Below.refl _ _).alloc (Nat.le_refl _) _
 clear h hpar
 go_enter Tryz.func102,Tryz.ntmps102
 go_wp2_with fail
 go_loopw [1] (fun q wr=>∃ (z:Int) (n:Nat),q=.int .i64 z/\-1<=z/\z < n/\n<=21/\followP F 21 pt=followP F n z/\Below (w.heap.size+1) (w.alloc (boxOf g F.length cap)) wr) (fun q _=>(intOf q+1).toNat)
 case atStart=>exact ⟨pt,21,rfl,hp0,by omega,Nat.le_refl _,rfl,Below.refl _ _⟩
 case round =>
  obtain ⟨z,n,rfl,hz0,hzn,hn21,hfo,hbel⟩:=hrel
  have HF:Hid (_=_):=hfo
  have hsz:=hbel.size
  have hwsz:(w.alloc (boxOf g F.length cap)).heap.size=w.heap.size+1:=by simp
  rw [hwsz] at hsz
  have hlt0:w.heap.size < wr.heap.size:=by omega
  have hbx:wr.cell? ⟨w.heap.size,0,none⟩=some (.slice (some ⟨g,0,none⟩) F.length cap):=by
   rw [hbel.cell (p:=⟨w.heap.size,0,none⟩) (by show w.heap.size < _; omega)]
   exact World.cell?_alloc_at (w:=w) _ _ _ _ rfl
  have hbw:Below w.heap.size w wr:=HBox.out.trans (hbel.mono (by omega))
  have HPr:Hid (PRow wr g F):=HP.out.keep hbw
  have HB:Hid (Below _ _ _):=hbel
  have HBW:Hid (Below _ _ _):=hbw
  clear hfo hbel hwsz hbw
  by_cases hneg:z < 0
  ·have HE:Hid (followP F 21 pt=F.length):=HF.out.trans (by
    cases n with
    | zero=>rfl
    | succ n=>rw [followP,if_pos (.inl hneg)])
   go_wp2_with fail
   refine (d_end _ F.length cap _ hl).mono ?_
   rintro e w2 ⟨rfl,o,rfl⟩
   go_wp2_with fail
   go_ret
   exact ⟨by rw [HE.out]; rfl,HBW.out.alloc (by omega) _⟩
  obtain ⟨k,rfl⟩:∃ k:Nat,z=k:=⟨z.toNat,by omega⟩
  obtain ⟨n',rfl⟩:∃ n',n=n'+1:=⟨n - 1,by omega⟩
  by_cases hge:(F.length:Int)<=(k:Int)
  ·have HE:Hid (followP F 21 pt=F.length):=HF.out.trans (by rw [followP,if_pos (.inr hge)])
   have hnk:¬ (k:Int) < (F.length:Int):=by omega
   go_wp2_with fail
   refine (d_end _ F.length cap _ hl).mono ?_
   rintro e w2 ⟨rfl,o,rfl⟩
   go_wp2_with fail
   go_ret
   exact ⟨by rw [HE.out]; rfl,HBW.out.alloc (by omega) _⟩
  have hk:k < F.length:=by omega
  have hki:(k:Int) < (F.length:Int):=by omega
  have HN:Hid (followP F 21 pt=if firstP F (F.getD k (newDs 0 0)).parent (F.getD k (newDs 0 0)).block ((k:Int)+1) ≠ -1 then firstP F (F.getD k (newDs 0 0)).parent (F.getD k (newDs 0 0)).block ((k:Int)+1) else if isRepP F (F.getD k (newDs 0 0)).parent=true then (F.getD k (newDs 0 0)).parent else followP F n' (F.getD k (newDs 0 0)).parent):=HF.out.trans (by
   rw [followP,if_neg (fun e=>e.elim hneg hge),Int.toNat_natCast])
  obtain ⟨c0,c1,c2,c3,c4,c5,c6,c7,c8,c9⟩:=HPr.out.2 k _ (gets' hk)
  obtain ⟨q0,q1⟩:=HPar.out k _ (gets' hk)
  have hgr:g < wr.heap.size:=by omega
  clear HF hneg hge
  generalize F.getD k (newDs 0 0)=x at *
  have hfi:=fun (w2:World) (hP:PRow w2 g F)=>d_firstIn (cap:=cap) hP hl x.parent x.block ((k:Int)+1)
  have HFI:Hid (∀ (w2:World) (hP:PRow w2 g F),Calls Tryz.prog 103 #[.agg #[.slice (some ⟨g,0,none⟩) F.length cap],.int .i64 x.parent,.int .i64 x.block,.int .i64 ((k:Int)+1)] w2 fun e w'=>e=.returned (.int .i64 (firstP F x.parent x.block ((k:Int)+1)))/\Below w2.heap.size w2 w'):=hfi
  clear hfi
  generalize firstP F x.parent x.block ((k:Int)+1)=fi at *
  go_wp2_with fail
  refine (HFI.out _ (HPr.out.keep ((Below.refl _ _).alloc (Nat.le_refl _) _))).mono ?_
  rintro e w2 ⟨rfl,hb2⟩
  have hsz2:=hb2.size
  simp at hsz2
  have hlt2:w.heap.size < w2.heap.size:=by omega
  have s8:w2.cell? ⟨wr.heap.size,8,none⟩=some (.int .i64 x.parent):=by
   rw [hb2.cell (p:=⟨wr.heap.size,8,none⟩) (by simp)]
   exact World.cell?_alloc_at (w:=wr) _ _ _ _ rfl
  have hbx2:w2.cell? ⟨w.heap.size,0,none⟩=some (.slice (some ⟨g,0,none⟩) F.length cap):=by
   rw [hb2.cell (p:=⟨w.heap.size,0,none⟩) (by simp; omega)]
   exact (World.cell?_alloc_past (w:=wr) _ _ _ (by omega)).trans hbx
  have hch:Below wr.heap.size wr w2:=((Below.refl _ _).alloc (Nat.le_refl _) _).trans (hb2.mono (by simp))
  have HCH:Hid (Below _ _ _):=hch
  clear hb2 hch c0 c1 c2 c3 c4 c5 c6 c7 c8 c9
  by_cases hf1:fi=-1
  ·subst hf1
   have HN2:Hid (_=_):=HN.out.trans (if_neg (by decide))
   have hre:=d_isRepeat (cap:=cap) (HPr.out.keep HCH.out) hl x.parent
   clear HN
   cases hrep:isRepP F x.parent
   ·have HE:Hid (_=_):=HN2.out.trans (if_neg (by rw [hrep]; decide))
    rw [hrep] at hre
    clear hrep HN2
    go_wp2_with fail
    refine hre.mono ?_
    rintro e w3 ⟨rfl,hb3⟩
    have s83:w3.cell? ⟨wr.heap.size,8,none⟩=some (.int .i64 x.parent):=by
     rw [hb3.cell (p:=⟨wr.heap.size,8,none⟩) (by show wr.heap.size < _; omega)]; exact s8
    have HB3:Hid (Below _ _ _):=hb3
    clear hb3 hre
    go_wp2_with fail
    go_roundw
    case rel=>exact ⟨x.parent,n',rfl,q0,by omega,by omega,HE.out,(HB.out.trans (HCH.out.mono hsz)).trans (HB3.out.mono (by omega))⟩
    case measure=>simp [intOf]; omega
   ·have HE:Hid (_=_):=HN2.out.trans (if_pos hrep)
    rw [hrep] at hre
    clear hrep HN2
    go_wp2_with fail
    refine hre.mono ?_
    rintro e w3 ⟨rfl,hb3⟩
    have s83:w3.cell? ⟨wr.heap.size,8,none⟩=some (.int .i64 x.parent):=by
     rw [hb3.cell (p:=⟨wr.heap.size,8,none⟩) (by show wr.heap.size < _; omega)]; exact s8
    have HB3:Hid (Below _ _ _):=hb3
    clear hb3 hre
    go_wp2_with fail
    go_ret
    exact ⟨by rw [HE.out]; rfl,(HBW.out.trans (HCH.out.mono (by omega))).trans (HB3.out.mono (by omega))⟩
  ·have bf:(fi != -1)=true:=by rw [bne_iff_ne]; exact hf1
   have HE:Hid (_=_):=HN.out.trans (if_pos hf1)
   clear HN hf1
   go_wp2_with fail
   go_ret
   exact ⟨by rw [HE.out]; rfl,HBW.out.trans (HCH.out.mono (by omega))⟩
end Go.Proofs.YtffajooegiempaaGreatDoor

