import Derived.Test.YtffajooegiempaaGreatDoorJ25
set_option maxRecDepth 100000
set_option maxHeartbeats 6400000
namespace Go.Proofs.YtffajooegiempaaGreatDoor
open Go.RowKit
variable {w:World} {C:Nat->Int}
theorem r_closed_d (u:Value) (l:List Int) (hl:l.length=32) (hu:Reads w u l) {M:Nat->Int} (hD:Doc M (fun f=>l.getD f 0)) (hlo:∀ k,k < 64->-20000000000<=M k) (hR:∀ f,f < 32->-20000000000<=l.getD f 0)
  (hem:conF (sharp M) 8=true->itF (fun f=>l.getD f 0) 1=none):Calls Tryz.prog 59 #[u] w (LSays w (conF (sharp M) 8) (sharp M)):=by
 refine (r_closed u l hl hu (fun n R h=>hD.nov hlo hR hem h)).mono ?_
 rintro e w' ⟨hb,⟨rfl,n,hn⟩ | ⟨g,n,R,R',rfl,hg,ha,h1,h2⟩⟩
 ·refine ⟨hb,.inl ⟨?_,rfl⟩⟩
  cases he:conF (sharp M) 8 with
  | true=>rfl
  | false =>
   obtain ⟨R',e,_⟩:=hD.some he n
   rw [hn] at e
   cases e
 ·obtain ⟨h3,h4⟩:=hD.done h1 h2
  refine ⟨hb,.inr ⟨h3,g,rfl,hg,?_⟩⟩
  rw [<- bdL_of h4]
  exact ha
structure TQ (C:Nat->Int):Prop where
 tc:TC C
 top:Bd 56000 C
 lo:∀ k,k < 64->-20000000000+5<=C k
theorem TQ.sm (h:TQ C):Sm C:=fun k hk=>by
 have:=h.lo k hk
 have:=h.tc.hi k hk
 unfold NB at this
 omega
theorem TQ.bd_lo (h:TQ C) {f:Nat} (hf:f < 32):-20000000000<=bd C f:=by
 have:=Go.Proofs.YtffajooegiempaaGreatDoor.bd_lo (M:=C) (L:=20000000000 - 5) (by decide) (fun a ha=>by have:=h.lo a ha; omega) hf
 omega
theorem bdL_getD (C:Nat->Int) {f:Nat} (hf:f < 32):(bdL C).getD f 0=bd C f:=bdL_get C f hf
theorem Doc.congr {M R R':Nat->Int} (h:Doc M R) (e:∀ f,f < 32->R' f=R f):Doc M R':=by
 refine ⟨h.raw,fun f hf=>by rw [e f hf]; exact h.hi f hf,⟨fun i hi q=>?_,fun i j hi hj h1 h2 q=>?_,h.un.zer⟩,fun f hf=>by rw [e f hf]; exact h.ab f hf⟩
 ·rw [e i (by omega)]; exact h.un.dia i hi q
 ·rw [e _ (nf_ok i hi j hj h2).1]; exact h.un.off i j hi hj h1 h2 q
theorem LSays.bd_eq {e:Bool} {M N:Nat->Int} (h:∀ f,f < 32->bd M f=bd N f) {x:Ending} {w':World} (hs:LSays w e M x w'):LSays w e N x w':=by
 have e1:bdL M=bdL N:=by
  unfold bdL
  exact List.map_congr_left fun f hf=>h f (by simpa using hf)
 unfold LSays at *
 rw [<- e1]
 exact hs
theorem r_closed_c (h:TC C) (hb:Bd 60000 C) (hlo:∀ k,k < 64->-20000000000+5<=C k) (u:Value) (hu:Reads w u (bdL C)):Calls Tryz.prog 59 #[u] w (LSays w false C):=by
 have hD:Doc C (fun f=>(bdL C).getD f 0):=(h.doc hb).congr (fun f hf=>bdL_getD C hf)
 refine (r_closed_d u (bdL C) (bdL_len C) hu hD (fun k hk=>by have:=hlo k hk; omega) (fun f hf=>?_) (fun q=>?_)).mono ?_
 ·rw [bdL_getD C hf]
  have:=Go.Proofs.YtffajooegiempaaGreatDoor.bd_lo (M:=C) (L:=20000000000 - 5) (by decide) (fun a ha=>by have:=hlo a ha; omega) hf
  omega
 ·rw [h.sharp_con] at q; cases q
 ·intro x w' hx
  rw [h.sharp_con] at hx
  exact hx.bd_eq (fun f hf=>h.sharp_bd_eq hf)
theorem grP_form (_h:TC C) {l:List Int} (hl:l.length=4) (hv:∀ i,-1<=gAt l i/\gAt l i<=1) (h1:1<=nz l) (h2:nz l<=2):∃ f:Nat,f < 32/\numV l=(f:Int)/\grP C l=bd C f/\sd1 l=fs f/\sd2 l=ss f:=by
 have t:=tabS_of hl hv
 unfold tabS at t
 rw [decide_eq_false (by omega:¬ 2 < nz l),Bool.false_or,if_neg (by omega)] at t
 simp only [Bool.and_eq_true,decide_eq_true_eq] at t
 refine ⟨(numV l).toNat,by omega,by omega,?_,t.1.2,t.2⟩
 unfold grP
 rw [t.1.2,t.2]
 rfl
theorem r_met (h:TQ C) (u v:Value) (l:List Int) (hl:l.length=4) (hv:∀ i,-1<=gAt l i/\gAt l i<=1) (h1:1<=nz l) (h2:nz l<=2) (n:Int) (hn:-1000<=n/\n<=1000) (hu:Reads w u (bdL C)) (hr:Reads w v l) :
  Calls Tryz.prog 61 #[u,v,.int .i64 n] w (LSays w (atE false C l n) (atM false C l n)):=by
 have hmk:∀ w,(Instr.makeSlice 32 (.int .i64 32) (.int .i64 32)).run Tryz.prog w=.ok (.slice (some ⟨w.heap.size,0,none⟩) 32 32) (w.alloc (.cells (List.replicate 32 (Value.int .i64 0)).toArray tNk)):=fun _=>by kernel_rfl
 obtain ⟨f,hf,hnf,hgr,hs1,hs2⟩:=grP_form h.tc hl hv h1 h2
 have hS:atS false C l n=decide (bd C f<=n):=by unfold atS; rw [hgr]; simp
 have hbl:=bdL_len C
 have HNu:Hid (∀ w1,Below w.heap.size w w1->Calls Tryz.prog 98 #[v] w1 fun e w'=>e=.returned (.int .i64 (f:Int))/\Below w1.heap.size w1 w'):=fun w1 hb=>by
  have:=r_number v l hl (hr.keep hb) (fun i hi=>by have:=hv i; omega)
  rw [hnf] at this
  exact this
 obtain ⟨ao,cap,rfl,hcap,h0⟩:=hu
 obtain ⟨b,off,rfl,hlt,hc⟩:=h0 (by omega)
 obtain ⟨cur,hcur⟩:∃ cur,cur=List.replicate 32 (Value.int .i64 0):=⟨_,rfl⟩
 have HBe:Hid (Below w.heap.size w (w.alloc (.cells cur.toArray tNk))):=(Below.refl _ _).alloc (Nat.le_refl _) _
 have HAl:Hid (At (w.alloc (.cells cur.toArray tNk)) w.heap.size cur.toArray tNk):=At.new _ _ _
 have hcl:cur.length=32:=by rw [hcur]; simp
 rw [<- hcur] at hmk
 obtain ⟨w1,hcp,hat,hb1⟩:∃ w1,(Builtin.copy_ #[32,32] tNk #[.slice (some ⟨w.heap.size,0,none⟩) 32 32,.slice (some ⟨b,off,none⟩) 32 cap]).run Tryz.prog (w.alloc (.cells cur.toArray tNk))=.ok (.int .i64 32) w1/\At w1 w.heap.size (ic (bdL C)) tNk/\Below w.heap.size w w1:=by
  have hml:((bdL C).map (Value.int .i64)).length=32:=by rw [List.length_map]; exact hbl
  have:=run_copy_row (P:=Tryz.prog) (w.alloc (.cells cur.toArray tNk)) 32 32 tNk tNk w.heap.size 0 32 32 ⟨b,off,none⟩ 32 cap cur.toArray tNk ((bdL C).map (Value.int .i64)) Tryz.underlying32 (by kernel_rfl) HAl.out (by rw [hml]; simp) (by
   intro j v hj
   have hjl:j < 32:=by
    rcases Nat.lt_or_ge j 32 with h' | h'
    ·exact h'
    ·rw [List.getElem?_eq_none (by omega)] at hj; cases hj
   have e1:(⟨b,off,none⟩:Addr).add j=⟨b,off+j,none⟩:=by unfold Addr.add; split <;> simp_all
   rw [e1,HBe.out.cell (by exact hlt)]
   have:=hc j (by omega)
   simp [List.getElem?_map,List.getElem?_eq_getElem (show j < (bdL C).length by omega)] at hj
   rw [<- hj]
   simpa [List.getD,show j < (bdL C).length by omega] using this) (by simp only [List.size_toArray]; omega) (by
   intro u hu
   obtain ⟨x,_,rfl⟩:=List.mem_map.1 hu
   rfl)
  have e2:goInt ((bdL C).map (Value.int .i64)).length=.int .i64 32:=by rw [hml]; rfl
  rw [e2] at this
  refine ⟨_,this,?_,below_setRow HBe.out (Nat.le_refl _) _⟩
  have h2:=setRow_heap (w.alloc (.cells cur.toArray tNk)) w.heap.size cur.toArray (cur.toArray.toList.take 0 ++ (bdL C).map (Value.int .i64) ++ cur.toArray.toList.drop (0+((bdL C).map (Value.int .i64)).length)).toArray tNk (0,0) HAl.out
  have e3:(cur.toArray.toList.take 0 ++ (bdL C).map (Value.int .i64) ++ cur.toArray.toList.drop (0+((bdL C).map (Value.int .i64)).length)).toArray=ic (bdL C):=by
   rw [hml]
   unfold ic
   rw [List.drop_of_length_le (by simp; omega)]
   simp
  rw [e3] at h2
  unfold At
  rw [<- h2,e3]
 have H1:Hid (At w1 w.heap.size (ic (bdL C)) tNk/\Below w.heap.size w w1):=⟨hat,hb1⟩
 have hnu:=HNu.out w1 hb1
 have hfi:(f:Int) < 32:=by omega
 have hfr:=bd_rng h.sm hf
 obtain ⟨f1,f2⟩:=hfr
 obtain ⟨n1,n2⟩:=hn
 have HT:Hid (TQ C):=h
 have HS:Hid (atS false C l n=decide (bd C f<=n)):=hS
 have HLm:Hid (lm C (sd1 l) (sd2 l) n=sb C f n):=by show _=_; rw [hs1,hs2]; rfl
 have HDf:Hid (atE false C l n=(if atS false C l n=true then false else conF (sharp (lm C (sd1 l) (sd2 l) n)) 8)/\atM false C l n=if atS false C l n=true then C else sharp (lm C (sd1 l) (sd2 l) n)):=⟨rfl,rfl⟩
 have HBf:Hid (∀ w2,At w2 w.heap.size (ic (bdL C)) tNk->w2.cell? ⟨w.heap.size,f,none⟩=some (.int .i64 (bd C f))):=fun w2 ha=>by
  rw [ha.cell,ic_get _ _ (by rw [hbl]; exact hf),bdL_getD C hf]
 obtain ⟨va,vn,vc,rfl⟩:∃ a n c,v=.slice a n c:=by obtain ⟨a,c,rfl,-,-⟩:=hr; exact ⟨_,_,_,rfl⟩
 rw [hbl]
 clear h hl hv h1 h2 hr hnf hgr hs1 hs2 hS h0 hc hcap HAl HBe hcl hcur hat hb1 HNu
 go_enter Tryz.func61,Tryz.ntmps61
 go_wp2_with fail
 refine hnu.mono ?_
 rintro e w2 ⟨rfl,hb2⟩
 have H2:Hid (At w2 w.heap.size (ic (bdL C)) tNk/\Below w.heap.size w w2):=⟨At.keep H1.out.1 hb2 H1.out.1.lt,H1.out.2.trans (hb2.mono H1.out.2.size)⟩
 have cx:=HBf.out w2 H2.out.1
 have cf:=H2.out.1.free
 have hbl2:=H2.out.1.lt
 have HBd:Hid (∀ x,x=bd C f->bd C f=x):=fun x e=>e.symm
 clear hb2 hnu H1 hcp
 obtain ⟨bf,hbf⟩:∃ bf,bf=bd C f:=⟨_,rfl⟩
 rw [<- hbf] at cx f1 f2 HS
 have HBF:Hid (bf=bd C f):=hbf
 clear hbf
 by_cases q:n < bf
 ·have HE:Hid (atE false C l n=conF (sharp (sb C f n)) 8/\atM false C l n=sharp (sb C f n)):=by
   show _/\_
   rw [HDf.out.1,HDf.out.2,HS.out,decide_eq_false (by omega),HLm.out]
   exact ⟨rfl,rfl⟩
  have hcs:∀ w3,At w3 w.heap.size (ic ((bdL C).set f n)) tNk->Calls Tryz.prog 59 #[.slice (some ⟨w.heap.size,0,none⟩) 32 32] w3 (LSays w3 (conF (sharp (sb C f n)) 8) (sharp (sb C f n))):=by
   intro w3 ha
   have hls:((bdL C).set f n).length=32:=by rw [List.length_set]; exact bdL_len C
   have hget:∀ g,g < 32->((bdL C).set f n).getD g 0=lowR C f n g:=by
    intro g hg
    unfold lowR
    by_cases e:g=f
    ·rw [if_pos e,e]; simp [List.getD,bdL_len,hf]
    ·rw [if_neg e,<- bdL_getD C hg]; simp [List.getD,Ne.symm e]
   have hD:Doc (sb C f n) (fun g=>((bdL C).set f n).getD g 0):=(sb_doc HT.out.tc (HT.out.top.mono (by decide)) hf n2).congr hget
   have hnb:n ≠ NB:=by unfold NB; omega
   refine r_closed_d _ _ hls (Reads.at_ ha hls (Nat.le_refl _) (fun i hi=>ic_get _ _ (by omega))) hD (fun k hk=>?_) (fun g hg=>?_) (fun he=>?_)
   ·rw [show k=k / 8*8+k % 8 by omega,sb_at C hf hnb (by omega) (by omega)]
    have:=HT.out.lo (k / 8*8+k % 8) (by omega)
    split
    ·split <;> omega
    ·omega
   ·rw [hget g hg]
    unfold lowR
    split
    ·omega
    ·exact HT.out.bd_lo hg
   ·have e0:=sb_empty HT.out.tc (HT.out.top.mono (by decide)) hf n2 (by rw [<- HBF.out]; omega) he
    have hR:∀ f',f' < 32->lowR C f n f'<=NB:=(sb_doc HT.out.tc (HT.out.top.mono (by decide)) hf n2).hi
    cases e1:itF (fun g=>((bdL C).set f n).getD g 0) 1 with
    | none=>rfl
    | some R1 =>
     exfalso
     obtain ⟨n1',n2',n3'⟩:=ngf_ok f hf
     have hr:=itF_rd hD.hi (n:=0) (R1:=fun g=>((bdL C).set f n).getD g 0) rfl e1
     have r1:((bdL C).set f n).getD f 0=n:=by rw [hget f hf]; exact if_pos rfl
     have r2:((bdL C).set f n).getD (ngf f) 0=bd C (ngf f):=by rw [hget _ n1']; exact if_neg n3'
     have hcn:bd C (ngf f)=NB \/ 0<=n+bd C (ngf f):=by
      by_cases z:bd C (ngf f)=NB
      ·exact .inl z
      ·right
       have:=hr.zer f (ngf f) hf n1' n2' (by show ((bdL C).set f n).getD f 0 ≠ NB; rw [r1]; exact hnb) (by show ((bdL C).set f n).getD (ngf f) 0 ≠ NB; rw [r2]; exact z)
       have this':0<=((bdL C).set f n).getD f 0+((bdL C).set f n).getD (ngf f) 0:=this
       rw [r1,r2] at this'
       exact this'
     obtain ⟨vv,hvv,hll⟩:=HT.out.tc.low hf (by rw [<- HBF.out]; omega) hcn
     have:=(sat_sb hvv hf n2 hll).sharp.some
     rw [he] at this
     cases this
  have HCs:Hid (∀ w3,At w3 w.heap.size (ic ((bdL C).set f n)) tNk->Calls Tryz.prog 59 #[.slice (some ⟨w.heap.size,0,none⟩) 32 32] w3 (LSays w3 (conF (sharp (sb C f n)) 8) (sharp (sb C f n)))):=hcs
  have H3:Hid (At (w2.setCell ⟨w.heap.size,f,none⟩ (.int .i64 n)) w.heap.size (ic ((bdL C).set f n)) tNk/\Below w.heap.size w (w2.setCell ⟨w.heap.size,f,none⟩ (.int .i64 n))):=by
   refine ⟨?_,H2.out.2.setCell (Nat.le_refl _) _⟩
   rw [<- ic_set]; exact H2.out.1.put f _
  have hc3:=HCs.out _ H3.out.1
  clear hcs HCs HS HDf HLm
  go_wp2_with fail
  refine hc3.mono ?_
  intro x w5 hx
  obtain ⟨y,rfl,a,nn,c,rfl⟩:=hx.val
  have HX:Hid (LSays (w2.setCell ⟨w.heap.size,f,none⟩ (.int .i64 n)) (conF (sharp (sb C f n)) 8) (sharp (sb C f n)) (.returned (.slice a nn c)) w5):=hx
  clear hx hc3
  go_wp2_with fail
  go_ret
  rw [HE.out.1,HE.out.2]
  obtain ⟨hb5,h5⟩:=HX.out
  refine ⟨H3.out.2.trans (hb5.mono H3.out.2.size),?_⟩
  rcases h5 with ⟨e1,e2⟩ | ⟨e1,g,e2,e3,e4⟩
  ·exact .inl ⟨e1,e2⟩
  ·exact .inr ⟨e1,g,e2,Nat.le_trans H3.out.2.size e3,e4⟩
 ·have HE:Hid (atE false C l n=false/\atM false C l n=C):=by
   show _/\_
   rw [HDf.out.1,HDf.out.2,HS.out,decide_eq_true (by omega)]
   exact ⟨rfl,rfl⟩
  have hc3:=r_closed_c (w:=w2) HT.out.tc (HT.out.top.mono (by decide)) HT.out.lo (.slice (some ⟨w.heap.size,0,none⟩) 32 32) (Reads.at_ H2.out.1 (bdL_len C) (Nat.le_refl _) (fun i hi=>ic_get _ _ (by rw [bdL_len]; exact hi)))
  clear HS HDf HLm
  go_wp2_with fail
  refine hc3.mono ?_
  intro x w5 hx
  obtain ⟨y,rfl,a,nn,c,rfl⟩:=hx.val
  have HX:Hid (LSays w2 false C (.returned (.slice a nn c)) w5):=hx
  clear hx hc3
  go_wp2_with fail
  go_ret
  rw [HE.out.1,HE.out.2]
  obtain ⟨hb5,h5⟩:=HX.out
  refine ⟨H2.out.2.trans (hb5.mono H2.out.2.size),?_⟩
  rcases h5 with ⟨e1,e2⟩ | ⟨e1,g,e2,e3,e4⟩
  ·exact .inl ⟨e1,e2⟩
  ·exact .inr ⟨e1,g,e2,Nat.le_trans H2.out.2.size e3,e4⟩
end Go.Proofs.YtffajooegiempaaGreatDoor

