import Derived.Test.YtffajooegiempaaGreatDoorJ22
set_option maxRecDepth 100000
set_option maxHeartbeats 6400000
namespace Go.Proofs.YtffajooegiempaaGreatDoor
open Go.RowKit
variable {w:World}{C:Nat->Int}
theorem KW(u:Value)(l:List Int)(hl:l.length=32)(hu:AQ w u l){M:Nat->Int}(hD:P7 M (λf=>l.getD f 0))(hlo:∀k,k<64-> -20000000000<=M k)(hR:∀f,f<32-> -20000000000<=l.getD f 0)
  (hem:By (Aj M) 8=true->EO (λf=>l.getD f 0) 1=none):Calls Tryz.prog 59 #[u] w (BF w (By (Aj M) 8) (Aj M)):=by
 refine(KU u l hl hu (λn R h=>hD.nov hlo hR hem h)).mono ?_;rintro e w' ⟨hb,⟨rfl,n,hn⟩|⟨g,n,R,R',rfl,hg,ha,h1,h2⟩⟩
 ·refine⟨hb,.inl ⟨?_,rfl⟩⟩;cases he:By (Aj M) 8 with
  |true=>rfl
  |false=>
   obtain⟨R',e,_⟩:=hD.some he n;rw[hn]at e;cases e
 ·obtain⟨h3,h4⟩:=hD.done h1 h2;refine⟨hb,.inr ⟨h3,g,rfl,hg,?_⟩⟩;rw[<-It h4];exact ha
structure TQ(C:Nat->Int):Prop where
 tc:TC C
 top:Bd 56000 C
 lo:∀k,k<64-> -20000000000+5<=C k
theorem TQ.sm(h:TQ C):Sm C:=λk hk=>by
 have:=h.lo k hk;have:=h.tc.hi k hk;unfold NB at this;omega
theorem TQ.bd_lo(h:TQ C){f:Nat}(hf:f<32): -20000000000<=bd C f:=by
 have:=QG (M:=C) (L:=20000000000-5) (by decide) (λa ha=>by have:=h.lo a ha;omega) hf;omega
theorem CP(C:Nat->Int){f:Nat}(hf:f<32):(Bl C).getD f 0=bd C f:=Gh C f hf
theorem P7.congr{M R R':Nat->Int}(h:P7 M R)(e:∀f,f<32->R' f=R f):P7 M R':=by
 refine⟨h.raw,λf hf=>by rw[e f hf];exact h.hi f hf,⟨λi hi q=>?_,λi j hi hj h1 h2 q=>?_,h.un.zer⟩,λf hf=>by rw[e f hf];exact h.ab f hf⟩
 ·rw[e i (by omega)];exact h.un.dia i hi q
 ·rw[e _ (DN i hi j hj h2).1];exact h.un.off i j hi hj h1 h2 q
theorem BF.bd_eq{e:Bool}{M N:Nat->Int}(h:∀f,f<32->bd M f=bd N f){x:Ending}{w':World}(hs:BF w e M x w'):BF w e N x w':=by
 have e1:Bl M=Bl N:=by
  unfold Bl;exact List.map_congr_left λf hf=>h f (by simpa using hf)
 unfold BF at *;rw[<-e1];exact hs
theorem PZ(h:TC C)(hb:Bd 60000 C)(hlo:∀k,k<64-> -20000000000+5<=C k)(u:Value)(hu:AQ w u (Bl C)):Calls Tryz.prog 59 #[u] w (BF w false C):=by
 have hD:P7 C (λf=>(Bl C).getD f 0):=(h.doc hb).congr (λf hf=>CP C hf);refine(KW u (Bl C) (BJ C) hu hD (λk hk=>by have:=hlo k hk;omega) (λf hf=>?_) (λq=>?_)).mono ?_
 ·rw[CP C hf];have:=QG (M:=C) (L:=20000000000-5) (by decide) (λa ha=>by have:=hlo a ha;omega) hf;omega
 ·rw[h.sharp_con]at q;cases q
 ·intro x w' hx;rw[h.sharp_con]at hx;exact hx.bd_eq (λf hf=>h.sharp_bd_eq hf)
theorem Ep(_h:TC C){l:List Int}(hl:l.length=4)(hv:∀i, -1<=AK l i/\AK l i<=1)(h1:1<=nz l)(h2:nz l<=2):∃f:Nat,f<32/\Ar l=(f:Int)/\FC C l=bd C f/\CF l=fs f/\C4 l=ss f:=by
 have t:=Q_ hl hv;unfold WP at t;rw[decide_eq_false (by omega:¬2<nz l),Bool.false_or,if_neg (by omega)]at t;simp only[Bool.and_eq_true,decide_eq_true_eq]at t;refine⟨(Ar l).toNat,by omega,by omega,?_,t.1.2,t.2⟩;unfold FC;rw[t.1.2,t.2];rfl
theorem ZK(h:TQ C)(u v:Value)(l:List Int)(hl:l.length=4)(hv:∀i, -1<=AK l i/\AK l i<=1)(h1:1<=nz l)(h2:nz l<=2)(n:Int)(hn: -1000<=n/\n<=1000)(hu:AQ w u (Bl C))(hr:AQ w v l):
  Calls Tryz.prog 61 #[u,v,.int .i64 n] w (BF w (GJ false C l n) (E5 false C l n)):=by
 have hmk:∀w,(Instr.makeSlice 32 (.int .i64 32) (.int .i64 32)).run Tryz.prog w=.ok (.slice (some ⟨w.heap.size,0,none⟩) 32 32) (w.alloc (.cells (List.replicate 32 (Value.int .i64 0)).toArray tNk)):=λ_=>by kernel_rfl
 obtain⟨f,hf,hnf,hgr,hs1,hs2⟩:=Ep h.tc hl hv h1 h2;have hS:Ko false C l n=decide (bd C f<=n):=by unfold Ko;rw[hgr];simp
 have hbl:=BJ C;have HNu:Hid (∀w1,Below w.heap.size w w1->Calls Tryz.prog 98 #[v] w1 λe w'=>e=.returned (.int .i64 (f:Int))/\Below w1.heap.size w1 w'):=λw1 hb=>by
  have:=Fd v l hl (hr.keep hb) (λi hi=>by have:=hv i;omega);rw[hnf]at this;exact this
 obtain⟨ao,cap,rfl,hcap,h0⟩:=hu;obtain⟨b,off,rfl,hlt,hc⟩:=h0 (by omega);obtain⟨cur,hcur⟩:∃cur,cur=List.replicate 32 (Value.int .i64 0):=⟨_,rfl⟩
 have HBe:Hid (Below w.heap.size w (w.alloc (.cells cur.toArray tNk))):=(Below.refl _ _).alloc (Nat.le_refl _) _;have HAl:Hid (At (w.alloc (.cells cur.toArray tNk)) w.heap.size cur.toArray tNk):=At.new _ _ _;have hcl:cur.length=32:=by rw[hcur];simp
 rw[<-hcur]at hmk;obtain⟨w1,hcp,hat,hb1⟩:∃w1,(Builtin.copy_ #[32,32] tNk #[.slice (some ⟨w.heap.size,0,none⟩) 32 32,.slice (some ⟨b,off,none⟩) 32 cap]).run Tryz.prog (w.alloc (.cells cur.toArray tNk))=.ok (.int .i64 32) w1/\At w1 w.heap.size (ic (Bl C)) tNk/\Below w.heap.size w w1:=by
  have hml:((Bl C).map (Value.int .i64)).length=32:=by rw[List.length_map];exact hbl
  have:=run_copy_row (P:=Tryz.prog) (w.alloc (.cells cur.toArray tNk)) 32 32 tNk tNk w.heap.size 0 32 32 ⟨b,off,none⟩ 32 cap cur.toArray tNk ((Bl C).map (Value.int .i64)) Tryz.underlying32 (by kernel_rfl) HAl.out (by rw[hml];simp) (by
   intro j v hj;have hjl:j<32:=by
    rcases Nat.lt_or_ge j 32 with h'|h'
    ·exact h'
    ·rw[List.getElem?_eq_none (by omega)]at hj;cases hj
   have e1:(⟨b,off,none⟩:Addr).add j=⟨b,off+j,none⟩:=by unfold Addr.add;split<;>simp_all
   rw[e1,HBe.out.cell (by exact hlt)];have:=hc j (by omega);simp[List.getElem?_map,List.getElem?_eq_getElem (show j<(Bl C).length by omega)]at hj;rw[<-hj];simpa[List.getD,show j<(Bl C).length by omega]using this) (by simp only[List.size_toArray];omega) (by
   intro u hu;obtain⟨x,_,rfl⟩:=List.mem_map.1 hu
   rfl)
  have e2:goInt ((Bl C).map (Value.int .i64)).length=.int .i64 32:=by rw[hml];rfl
  rw[e2]at this;refine⟨_,this,?_,below_setRow HBe.out (Nat.le_refl _) _⟩;have h2:=setRow_heap (w.alloc (.cells cur.toArray tNk)) w.heap.size cur.toArray (cur.toArray.toList.take 0++(Bl C).map (Value.int .i64)++cur.toArray.toList.drop (0+((Bl C).map (Value.int .i64)).length)).toArray tNk (0,0) HAl.out;have e3:(cur.toArray.toList.take 0++(Bl C).map (Value.int .i64)++cur.toArray.toList.drop (0+((Bl C).map (Value.int .i64)).length)).toArray=ic (Bl C):=by
   rw[hml];unfold ic;rw[List.drop_of_length_le (by simp;omega)];simp
  rw[e3]at h2;unfold At;rw[<-h2,e3]
 have H1:Hid (At w1 w.heap.size (ic (Bl C)) tNk/\Below w.heap.size w w1):=⟨hat,hb1⟩
 have hnu:=HNu.out w1 hb1;have hfi:(f:Int)<32:=by omega
 have hfr:=Jv h.sm hf;obtain⟨f1,f2⟩:=hfr;obtain⟨n1,n2⟩:=hn;have HT:Hid (TQ C):=h;have HS:Hid (Ko false C l n=decide (bd C f<=n)):=hS;have HLm:Hid (lm C (CF l) (C4 l) n=sb C f n):=by show _=_;rw[hs1,hs2];rfl
 have HDf:Hid (GJ false C l n=(if Ko false C l n=true then false else By (Aj (lm C (CF l) (C4 l) n)) 8)/\E5 false C l n=if Ko false C l n=true then C else Aj (lm C (CF l) (C4 l) n)):=⟨rfl,rfl⟩
 have HBf:Hid (∀w2,At w2 w.heap.size (ic (Bl C)) tNk->w2.cell? ⟨w.heap.size,f,none⟩=some (.int .i64 (bd C f))):=λw2 ha=>by
  rw[ha.cell,Aa _ _ (by rw[hbl];exact hf),CP C hf]
 obtain⟨va,vn,vc,rfl⟩:∃a n c,v=.slice a n c:=by obtain⟨a,c,rfl, -, -⟩:=hr;exact⟨_,_,_,rfl⟩
 rw[hbl];clear h hl hv h1 h2 hr hnf hgr hs1 hs2 hS h0 hc hcap HAl HBe hcl hcur hat hb1 HNu;go_enter Tryz.func61,Tryz.ntmps61;go_wp2_with fail;refine hnu.mono ?_;rintro e w2 ⟨rfl,hb2⟩;have H2:Hid (At w2 w.heap.size (ic (Bl C)) tNk/\Below w.heap.size w w2):=⟨At.keep H1.out.1 hb2 H1.out.1.lt,H1.out.2.trans (hb2.mono H1.out.2.size)⟩
 have cx:=HBf.out w2 H2.out.1;have cf:=H2.out.1.free;have hbl2:=H2.out.1.lt;have HBd:Hid (∀x,x=bd C f->bd C f=x):=λx e=>e.symm;clear hb2 hnu H1 hcp;obtain⟨bf,hbf⟩:∃bf,bf=bd C f:=⟨_,rfl⟩
 rw[<-hbf]at cx f1 f2 HS;have HBF:Hid (bf=bd C f):=hbf;clear hbf;by_cases q:n<bf
 ·have HE:Hid (GJ false C l n=By (Aj (sb C f n)) 8/\E5 false C l n=Aj (sb C f n)):=by
   show _/\_;rw[HDf.out.1,HDf.out.2,HS.out,decide_eq_false (by omega),HLm.out];exact⟨rfl,rfl⟩
  have hcs:∀w3,At w3 w.heap.size (ic ((Bl C).set f n)) tNk->Calls Tryz.prog 59 #[.slice (some ⟨w.heap.size,0,none⟩) 32 32] w3 (BF w3 (By (Aj (sb C f n)) 8) (Aj (sb C f n))):=by
   intro w3 ha;have hls:((Bl C).set f n).length=32:=by rw[List.length_set];exact BJ C
   have hget:∀g,g<32->((Bl C).set f n).getD g 0=Hq C f n g:=by
    intro g hg;unfold Hq;by_cases e:g=f
    ·rw[if_pos e,e];simp[List.getD,BJ,hf]
    ·rw[if_neg e,<-CP C hg];simp[List.getD,Ne.symm e]
   have hD:P7 (sb C f n) (λg=>((Bl C).set f n).getD g 0):=(Pp HT.out.tc (HT.out.top.mono (by decide)) hf n2).congr hget;have hnb:n≠NB:=by unfold NB;omega
   refine KW _ _ hls (AQ.at_ ha hls (Nat.le_refl _) (λi hi=>Aa _ _ (by omega))) hD (λk hk=>?_) (λg hg=>?_) (λhe=>?_)
   ·rw[show k=k/8*8+k%8 by omega,EZ C hf hnb (by omega) (by omega)];have:=HT.out.lo (k/8*8+k%8) (by omega);split
    ·split<;>omega
    ·omega
   ·rw[hget g hg];unfold Hq;split
    ·omega
    ·exact HT.out.bd_lo hg
   ·have e0:=UY HT.out.tc (HT.out.top.mono (by decide)) hf n2 (by rw[<-HBF.out];omega) he;have hR:∀f',f'<32->Hq C f n f'<=NB:=(Pp HT.out.tc (HT.out.top.mono (by decide)) hf n2).hi;cases e1:EO (λg=>((Bl C).set f n).getD g 0) 1 with
    |none=>rfl
    |some R1=>
     exfalso;obtain⟨n1',n2',n3'⟩:=Tk f hf;have hr:=Hm hD.hi (n:=0) (R1:=λg=>((Bl C).set f n).getD g 0) rfl e1;have r1:((Bl C).set f n).getD f 0=n:=by rw[hget f hf];exact if_pos rfl
     have r2:((Bl C).set f n).getD (Jh f) 0=bd C (Jh f):=by rw[hget _ n1'];exact if_neg n3'
     have hcn:bd C (Jh f)=NB\/0<=n+bd C (Jh f):=by
      by_cases z:bd C (Jh f)=NB
      ·exact .inl z
      ·right
       have:=hr.zer f (Jh f) hf n1' n2' (by show((Bl C).set f n).getD f 0≠NB;rw[r1];exact hnb) (by show((Bl C).set f n).getD (Jh f) 0≠NB;rw[r2];exact z);have this':0<=((Bl C).set f n).getD f 0+((Bl C).set f n).getD (Jh f) 0:=this;rw[r1,r2]at this';exact this'
     obtain⟨vv,hvv,hll⟩:=HT.out.tc.low hf (by rw[<-HBF.out];omega) hcn;have:=(Pn hvv hf n2 hll).sharp.some;rw[he]at this;cases this
  have HCs:Hid (∀w3,At w3 w.heap.size (ic ((Bl C).set f n)) tNk->Calls Tryz.prog 59 #[.slice (some ⟨w.heap.size,0,none⟩) 32 32] w3 (BF w3 (By (Aj (sb C f n)) 8) (Aj (sb C f n)))):=hcs;have H3:Hid (At (w2.setCell ⟨w.heap.size,f,none⟩ (.int .i64 n)) w.heap.size (ic ((Bl C).set f n)) tNk/\Below w.heap.size w (w2.setCell ⟨w.heap.size,f,none⟩ (.int .i64 n))):=by
   refine⟨?_,H2.out.2.setCell (Nat.le_refl _) _⟩;rw[<-Be];exact H2.out.1.put f _
  have hc3:=HCs.out _ H3.out.1;clear hcs HCs HS HDf HLm;go_wp2_with fail;refine hc3.mono ?_;intro x w5 hx;obtain⟨y,rfl,a,nn,c,rfl⟩:=hx.val;have HX:Hid (BF (w2.setCell ⟨w.heap.size,f,none⟩ (.int .i64 n)) (By (Aj (sb C f n)) 8) (Aj (sb C f n)) (.returned (.slice a nn c)) w5):=hx;clear hx hc3;go_wp2_with fail;go_ret;rw[HE.out.1,HE.out.2];obtain⟨hb5,h5⟩:=HX.out;refine⟨H3.out.2.trans (hb5.mono H3.out.2.size),?_⟩;rcases h5 with⟨e1,e2⟩|⟨e1,g,e2,e3,e4⟩
  ·exact .inl ⟨e1,e2⟩
  ·exact .inr ⟨e1,g,e2,Nat.le_trans H3.out.2.size e3,e4⟩
 ·have HE:Hid (GJ false C l n=false/\E5 false C l n=C):=by
   show _/\_;rw[HDf.out.1,HDf.out.2,HS.out,decide_eq_true (by omega)];exact⟨rfl,rfl⟩
  have hc3:=PZ (w:=w2) HT.out.tc (HT.out.top.mono (by decide)) HT.out.lo (.slice (some ⟨w.heap.size,0,none⟩) 32 32) (AQ.at_ H2.out.1 (BJ C) (Nat.le_refl _) (λi hi=>Aa _ _ (by rw[BJ];exact hi)));clear HS HDf HLm;go_wp2_with fail;refine hc3.mono ?_;intro x w5 hx;obtain⟨y,rfl,a,nn,c,rfl⟩:=hx.val;have HX:Hid (BF w2 false C (.returned (.slice a nn c)) w5):=hx;clear hx hc3;go_wp2_with fail;go_ret;rw[HE.out.1,HE.out.2];obtain⟨hb5,h5⟩:=HX.out;refine⟨H2.out.2.trans (hb5.mono H2.out.2.size),?_⟩;rcases h5 with⟨e1,e2⟩|⟨e1,g,e2,e3,e4⟩
  ·exact .inl ⟨e1,e2⟩
  ·exact .inr ⟨e1,g,e2,Nat.le_trans H2.out.2.size e3,e4⟩
end Go.Proofs.YtffajooegiempaaGreatDoor
