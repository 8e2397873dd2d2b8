import Derived.Test.YtffajooegiempaaGreatDoorJ12
set_option maxRecDepth 100000
set_option maxHeartbeats 6400000
namespace Go.Proofs.YtffajooegiempaaGreatDoor
open Go.RowKit
variable {w:World} {e0:Bool} {M:Nat->Int}
def sbF (M:Nat->Int) (t:Nat) (lo hi:Int):Nat->Nat->Int
 | 0=>M
 | j+1=>if j=2*t \/ j=2*t+1 then sbF M t lo hi j
  else lm (lm (sbF M t lo hi j) (2*t) j (pl hi (mo (sbF M t lo hi j) j j))) (2*t+1) j (pl (-lo) (mo (sbF M t lo hi j) j j))
def sbT (M:Nat->Int) (t:Nat) (lo hi:Int):Nat->Int:=lm (lm (sbF M t lo hi 8) (2*t) (2*t) hi) (2*t+1) (2*t+1) (-lo)
theorem lm_sm {N:Nat->Int} (hN:Sm N) {i j:Nat} {n:Int} (h:-45000000000<=n/\(n=NB \/ n<=500000)):Sm (lm N i j n):=by
 intro k hk
 have:=hN k hk
 unfold NB at h
 unfold lm upd NB
 split
 ·split <;> omega
 ·split
  ·split <;> omega
  ·exact this
def Sh (M:Nat->Int):Prop:=∀ k,k < 64->-40000000000<=M k/\(M k=NB \/ M k<=432000)
theorem Sh.sm (h:Sh M):Sm M:=fun k hk=>by have:=h k hk; unfold NB at this; omega
theorem sbF_dia (M:Nat->Int) {t:Nat} (ht:t < 4) (lo hi:Int):∀ n,n<=8->∀ j,j < 8->j ≠ 2*t->j ≠ 2*t+1->sbF M t lo hi n (j*8+j)=M (j*8+j):=by
 intro n
 induction n with
 | zero=>intro _ j _ _ _; rfl
 | succ n ih =>
  intro hn j hj h1 h2
  have e:=ih (by omega) j hj h1 h2
  rw [sbF]
  split
  ·exact e
  ·rename_i c
   unfold lm
   rw [upd_other _ _ (by omega),upd_other _ _ (by omega),upd_other _ _ (by omega),upd_other _ _ (by omega)]
   exact e
theorem mo_half (h:Sh M) {j:Nat} (hj:j < 8):-40000000000<=mo M j j/\(mo M j j=NB \/ mo M j j<=400000):=by
 have a:=h (j*8+j) (by omega)
 have t:=tdiv2 (M (j*8+j))
 unfold mo
 by_cases q:M (j*8+j)=NB
 ·rw [if_neg (fun z=>z.2 q)]
  exact ⟨a.1,.inl q⟩
 ·rw [if_pos ⟨rfl,q⟩]
  have a2:=a.2.resolve_left q
  rcases Int.lt_or_le (M (j*8+j)) 0 with c | c
  ·rw [t.2 c]; exact ⟨by omega,.inr (by omega)⟩
  ·rw [t.1 c]; exact ⟨by omega,.inr (by omega)⟩
theorem pl_half {a b:Int} (ha:-999<=a/\a<=999) (hb:-40000000000<=b/\(b=NB \/ b<=400000)):-41000000000<=pl a b/\(pl a b=NB \/ pl a b<=500000):=by
 unfold pl
 by_cases q:a=NB \/ b=NB
 ·rw [if_pos q]; exact ⟨by decide,.inl rfl⟩
 ·rw [if_neg q]
  have:b ≠ NB:=fun z=>q (.inr z)
  have:=hb.2.resolve_left this
  exact ⟨by omega,.inr (by omega)⟩
theorem mo_congr {N:Nat->Int} {j:Nat} (h:N (j*8+j)=M (j*8+j)):mo N j j=mo M j j:=by unfold mo; rw [h]
theorem sbF_sm (h:Sh M) {t:Nat} (ht:t < 4) {lo hi:Int} (hlo:-999<=-lo/\-lo<=999) (hhi:-999<=hi/\hi<=999):∀ n,n<=8->Sm (sbF M t lo hi n):=by
 intro n
 induction n with
 | zero=>intro _; exact h.sm
 | succ n ih =>
  intro hn
  rw [sbF]
  split
  ·exact ih (by omega)
  ·rename_i c
   have e:=mo_congr (sbF_dia M ht lo hi n (by omega) n (by omega) (fun z=>c (.inl z)) (fun z=>c (.inr z)))
   rw [e]
   have q:=mo_half h (show n < 8 by omega)
   have a:=pl_half hhi q
   have b:=pl_half hlo q
   exact lm_sm (lm_sm (ih (by omega)) ⟨by omega,a.2⟩) ⟨by omega,b.2⟩
theorem o_setBetween (h:Sh M) (t:Nat) (ht:t < 4) (lo hi:Int) (hlo:-999<=lo/\lo<=999) (hhi:-999<=hi/\hi<=999) :
  Calls Tryz.prog 140 #[.agg (oc e0 M),.int .i64 (t:Int),.int .i64 lo,.int .i64 hi] w fun e w'=>e=.returned (.agg (oc e0 (sbT M t lo hi)))/\Below w.heap.size w w':=by
 have hz:=o_zero
 have hlo':-999<=-lo/\-lo<=999:=by omega
 have HSm:Hid (∀ n,n<=8->Sm (sbF M t lo hi n)):=sbF_sm h ht hlo' hhi
 have hti:(t:Int) < 4:=by omega
 have ht0:¬ (4:Int)<=(t:Int):=by omega
 obtain ⟨w0,hw0⟩:∃ w0,w0=(w.alloc (.cells (oc e0 M) tO)).alloc (.cells (oc false fun _=>0) tO):=⟨_,rfl⟩
 have H0:Hid (OAt w0 w.heap.size e0 (sbF M t lo hi 0)/\OAt w0 (w.heap.size+1) false (fun _=>0)/\Below w.heap.size w w0):=by
  refine ⟨by rw [hw0]; exact At.allocH (At.new _ _ _) _,?_,by rw [hw0]; exact ((Below.refl _ _).alloc (Nat.le_refl _) _).alloc (by simp) _⟩
  have:=At.new (w.alloc (.cells (oc e0 M) tO)) (oc false fun _=>0) tO
  rw [show (w.alloc (.cells (oc e0 M) tO)).heap.size=w.heap.size+1 by simp] at this
  rw [hw0]; exact this
 have HMo:Hid (∀ w1 n j,n<=8->j < 8->Calls Tryz.prog 139 #[.agg (oc e0 (sbF M t lo hi n)),.int .i64 ((j:Nat):Int),.int .i64 ((j:Nat):Int)] w1 fun e w'=>e=.returned (.int .i64 (mo (sbF M t lo hi n) j j))/\Below w1.heap.size w1 w'):=fun w1 n j hn hj=>o_most j j hj hj (by have:=HSm.out n hn (j*8+j) (by omega); omega)
 have HRg:Hid (∀ n,n < 8->n ≠ 2*t->n ≠ 2*t+1->(-40000000000<=mo (sbF M t lo hi n) n n/\mo (sbF M t lo hi n) n n<=1000000)/\(-41000000000<=pl hi (mo (sbF M t lo hi n) n n)/\pl hi (mo (sbF M t lo hi n) n n)<=1000000)/\(-41000000000<=pl (-lo) (mo (sbF M t lo hi n) n n)/\pl (-lo) (mo (sbF M t lo hi n) n n)<=1000000)):=by
  intro n hn h1 h2
  rw [mo_congr (sbF_dia M ht lo hi n (by omega) n hn h1 h2)]
  have q:=mo_half h hn
  have a:=pl_half hhi q
  have b:=pl_half hlo' q
  unfold NB at q a b
  omega
 have HEq:Hid (∀ n,sbF M t lo hi (n+1)=if n=2*t \/ n=2*t+1 then sbF M t lo hi n else lm (lm (sbF M t lo hi n) (2*t) n (pl hi (mo (sbF M t lo hi n) n n))) (2*t+1) n (pl (-lo) (mo (sbF M t lo hi n) n n))):=fun _=>rfl
 have HT:Hid (sbT M t lo hi=lm (lm (sbF M t lo hi 8) (2*t) (2*t) hi) (2*t+1) (2*t+1) (-lo)):=rfl
 have HLm:Hid (∀ w1 (b:Nat) (N:Nat->Int) (i j:Nat) (n:Int),i < 8->j < 8->(-1000000000000<=n/\n<=1000000000000)->OAt w1 b e0 N->Calls Tryz.prog 134 #[.pointer (some ⟨b,0,none⟩),.int .i64 (i:Int),.int .i64 (j:Int),.int .i64 n] w1 fun e w'=>e=.returned (.tuple #[])/\Hid (OAt w' b e0 (lm N i j n)/\Onl b w1 w')):=fun w1 b N i j n hi hj hn ha=>(o_limit ha i j hi hj n hn).mono fun e w' h=>h
 have e2t:((2*t:Nat):Int)=2*(t:Int):=by omega
 have e2t1:((2*t+1:Nat):Int)=2*(t:Int)+1:=by omega
 rw [hw0] at H0
 clear h hw0 hlo'
 go_enter Tryz.func140,Tryz.ntmps140
 go_wp2_with fail
 go_loopw [11] (fun jv wr=>∃ (j:Nat),j<=8/\jv=.int .i64 j/\Hid (OAt wr w.heap.size e0 (sbF M t lo hi j)/\OAt wr (w.heap.size+1) false (fun _=>0)/\Below w.heap.size w wr)) (fun jv _=>8 - (intOf jv).toNat)
 case atStart=>exact ⟨0,by omega,rfl,H0.out⟩
 case round =>
  obtain ⟨j,hj,rfl,HR⟩:=hrel
  clear H0
  by_cases hlt:j < 8
  ·have hji:(j:Int) < 8:=by omega
   by_cases c1:j=2*t
   ·have HE:Hid (sbF M t lo hi (j+1)=sbF M t lo hi j):=(HEq.out j).trans (if_pos (.inl c1))
    have b1:((j:Int) == 2*(t:Int))=true:=by rw [beq_iff_eq]; omega
    clear c1
    go_wp2_with fail
    go_roundw
    case rel=>exact ⟨j+1,by omega,by go_num,by rw [HE.out]; exact HR.out.1,HR.out.2⟩
    case measure=>simp [intOf]; omega
   ·have b1:((j:Int) == 2*(t:Int))=false:=by rw [beq_eq_false_iff_ne]; omega
    by_cases c2:j=2*t+1
    ·have HE:Hid (sbF M t lo hi (j+1)=sbF M t lo hi j):=(HEq.out j).trans (if_pos (.inr c2))
     have b2:((j:Int) == 2*(t:Int)+1)=true:=by rw [beq_iff_eq]; omega
     clear c1 c2
     go_wp2_with fail
     go_roundw
     case rel=>exact ⟨j+1,by omega,by go_num,by rw [HE.out]; exact HR.out.1,HR.out.2⟩
     case measure=>simp [intOf]; omega
    ·have b2:((j:Int) == 2*(t:Int)+1)=false:=by rw [beq_eq_false_iff_ne]; omega
     have HE:Hid (sbF M t lo hi (j+1)=_):=(HEq.out j).trans (if_neg (fun z=>z.elim c1 c2))
     obtain ⟨⟨m1,m2⟩,⟨m3,m4⟩,⟨m5,m6⟩⟩:=HRg.out j hlt c1 c2
     have hmo:=HMo.out wr j j hj hlt
     have hp1:=fun w1=>o_plus hi (mo (sbF M t lo hi j) j j) ⟨by omega,by omega⟩ ⟨by omega,m2⟩ w1
     have hp2:=fun w1=>o_plus (-lo) (mo (sbF M t lo hi j) j j) ⟨by omega,by omega⟩ ⟨by omega,m2⟩ w1
     have hlr:w.heap.size+1 < wr.heap.size:=At.lt HR.out.2.1
     have HLm1:Hid (∀ w1 (N:Nat->Int),OAt w1 w.heap.size e0 N->Calls Tryz.prog 134 #[.pointer (some ⟨w.heap.size,0,none⟩),.int .i64 (2*(t:Int)),.int .i64 (j:Int),.int .i64 (pl hi (mo (sbF M t lo hi j) j j))] w1 fun e w'=>e=.returned (.tuple #[])/\Hid (OAt w' w.heap.size e0 (lm N (2*t) j (pl hi (mo (sbF M t lo hi j) j j)))/\Onl w.heap.size w1 w')):=fun w1 N ha=>by
      rw [<- e2t]; exact HLm.out w1 _ N (2*t) j _ (by omega) hlt ⟨by omega,by omega⟩ ha
     have HLm2:Hid (∀ w1 (N:Nat->Int),OAt w1 w.heap.size e0 N->Calls Tryz.prog 134 #[.pointer (some ⟨w.heap.size,0,none⟩),.int .i64 (2*(t:Int)+1),.int .i64 (j:Int),.int .i64 (pl (-lo) (mo (sbF M t lo hi j) j j))] w1 fun e w'=>e=.returned (.tuple #[])/\Hid (OAt w' w.heap.size e0 (lm N (2*t+1) j (pl (-lo) (mo (sbF M t lo hi j) j j)))/\Onl w.heap.size w1 w')):=fun w1 N ha=>by
      rw [<- e2t1]; exact HLm.out w1 _ N (2*t+1) j _ (by omega) hlt ⟨by omega,by omega⟩ ha
     have HP1:Hid (∀ w1,Calls Tryz.prog 152 _ w1 _):=hp1
     have HP2:Hid (∀ w1,Calls Tryz.prog 152 _ w1 _):=hp2
     clear c1 c2 hp1 hp2
     generalize pl hi (mo (sbF M t lo hi j) j j)=q1 at *
     generalize pl (-lo) (mo (sbF M t lo hi j) j j)=q2 at *
     generalize mo (sbF M t lo hi j) j j=q0 at *
     go_wp2_with (refine wpList_load_o rfl (.tmp 4) rfl rfl HR.out.1 ?_)
     refine hmo.mono ?_
     rintro e w2 ⟨rfl,hb2⟩
     have H2:Hid (OAt w2 w.heap.size e0 (sbF M t lo hi j)/\OAt w2 (w.heap.size+1) false (fun _=>0)/\Below w.heap.size w w2):=⟨At.keep HR.out.1 hb2 (by omega),At.keep HR.out.2.1 hb2 hlr,HR.out.2.2.trans (hb2.mono HR.out.2.2.size)⟩
     have hp1:=HP1.out w2
     have hl1:=HLm1.out w2 _ H2.out.1
     clear hb2 hmo
     go_wp2_with fail
     refine hp1.mono ?_
     rintro e w3 ⟨rfl,hw3⟩
     subst hw3
     go_wp2_with fail
     refine hl1.mono ?_
     rintro e w4 ⟨rfl,h4⟩
     have H4:Hid (OAt w4 w.heap.size e0 (lm (sbF M t lo hi j) (2*t) j q1)/\OAt w4 (w.heap.size+1) false (fun _=>0)/\Below w.heap.size w w4):=⟨h4.out.1,h4.out.2.at_ H2.out.2.1 (by omega),H2.out.2.2.trans (h4.out.2.below (Nat.le_refl _) H2.out.2.2.size)⟩
     have hp2:=HP2.out w4
     have hl2:=HLm2.out w4 _ H4.out.1
     clear h4 hp1 hl1
     go_wp2_with fail
     refine hp2.mono ?_
     rintro e w5 ⟨rfl,hw5⟩
     subst hw5
     go_wp2_with fail
     refine hl2.mono ?_
     rintro e w6 ⟨rfl,h6⟩
     go_wp2_with fail
     go_roundw
     case rel=>exact ⟨j+1,by omega,by go_num,by rw [HE.out]; exact h6.out.1,h6.out.2.at_ H4.out.2.1 (by omega),H4.out.2.2.trans (h6.out.2.below (Nat.le_refl _) H4.out.2.2.size)⟩
     case measure=>simp [intOf]; omega
  ·have hj8:j=8:=by omega
   subst hj8
   have hl1:Calls Tryz.prog 134 #[.pointer (some ⟨w.heap.size,0,none⟩),.int .i64 (2*(t:Int)),.int .i64 (2*(t:Int)),.int .i64 hi] wr fun e w'=>e=.returned (.tuple #[])/\Hid (OAt w' w.heap.size e0 (lm (sbF M t lo hi 8) (2*t) (2*t) hi)/\Onl w.heap.size wr w'):=by
    rw [<- e2t]; exact HLm.out wr _ _ (2*t) (2*t) hi (by omega) (by omega) ⟨by omega,by omega⟩ HR.out.1
   have HLm2:Hid (∀ w1 (N:Nat->Int),OAt w1 w.heap.size e0 N->Calls Tryz.prog 134 #[.pointer (some ⟨w.heap.size,0,none⟩),.int .i64 (2*(t:Int)+1),.int .i64 (2*(t:Int)+1),.int .i64 (-lo)] w1 fun e w'=>e=.returned (.tuple #[])/\Hid (OAt w' w.heap.size e0 (lm N (2*t+1) (2*t+1) (-lo))/\Onl w.heap.size w1 w')):=fun w1 N ha=>by
    rw [<- e2t1]; exact HLm.out w1 _ N (2*t+1) (2*t+1) (-lo) (by omega) (by omega) ⟨by omega,by omega⟩ ha
   go_wp2_with fail
   refine hl1.mono ?_
   rintro e w4 ⟨rfl,h4⟩
   have H4:Hid (OAt w4 w.heap.size e0 (lm (sbF M t lo hi 8) (2*t) (2*t) hi)/\OAt w4 (w.heap.size+1) false (fun _=>0)/\Below w.heap.size w w4):=⟨h4.out.1,h4.out.2.at_ HR.out.2.1 (by omega),HR.out.2.2.trans (h4.out.2.below (Nat.le_refl _) HR.out.2.2.size)⟩
   have hl2:=HLm2.out w4 _ H4.out.1
   clear h4 hl1
   go_wp2_with fail
   refine hl2.mono ?_
   rintro e w6 ⟨rfl,h6⟩
   have H6:Hid (OAt w6 w.heap.size e0 (sbT M t lo hi)/\OAt w6 (w.heap.size+1) false (fun _=>0)/\Below w.heap.size w w6):=⟨by rw [HT.out]; exact h6.out.1,h6.out.2.at_ H4.out.2.1 (by omega),H4.out.2.2.trans (h6.out.2.below (Nat.le_refl _) H4.out.2.2.size)⟩
   obtain ⟨w7,hst7,hat7,ho7⟩:=o_store H6.out.2.1 e0 (sbT M t lo hi)
   have H7:Hid (OAt w7 (w.heap.size+1) e0 (sbT M t lo hi)/\Below w.heap.size w w7):=⟨hat7,H6.out.2.2.trans (ho7.below (by omega) H6.out.2.2.size)⟩
   clear h6 hl2 hat7 ho7
   generalize hTT:sbT M t lo hi=T at *
   have HTT:Hid (sbT M t lo hi=T):=hTT
   clear hTT
   go_wp2_with (refine wpList_load_o rfl (.tmp 4) rfl rfl H6.out.1 ?_)
   try simp only [Exit.inBlock,Exit.then]
   refine bodyPost_ret (results_o rfl _ rfl H7.out.1) rfl ?_
   exact ⟨by rw [HTT.out],H7.out.2⟩
end Go.Proofs.YtffajooegiempaaGreatDoor

namespace Go.Proofs.YtffajooegiempaaGreatDoor
open Go.RowKit
variable {w:World} {e0:Bool} {M:Nat->Int}
def orgF (t f i:Nat):Nat:=if i=2*t then f else if i=2*t+1 then opp f else i
def addF (t:Nat) (n:Int) (i:Nat):Int:=if i=2*t then n else if i=2*t+1 then -n else 0
def ssF (M:Nat->Int) (t f:Nat) (n:Int):Nat->Nat->Int
 | 0=>M
 | k+1=>upd (ssF M t f n k) k (pl (M (orgF t f (k / 8)*8+orgF t f (k % 8))) (addF t n (k / 8)+addF t n (k % 8)))
abbrev tA8:TypeId:=87
def c8 (F:Nat->Int):Array Value:=#[.int .i64 (F 0),.int .i64 (F 1),.int .i64 (F 2),.int .i64 (F 3),.int .i64 (F 4),.int .i64 (F 5),.int .i64 (F 6),.int .i64 (F 7)]
theorem c8_get (F:Nat->Int) {i:Nat} (h:i < 8):(c8 F)[i]?=some (.int .i64 (F i)):=by
 rcases (show i=0 \/ i=1 \/ i=2 \/ i=3 \/ i=4 \/ i=5 \/ i=6 \/ i=7 by omega) with rfl | rfl | rfl | rfl | rfl | rfl | rfl | rfl <;> rfl
theorem org_lt {t f i:Nat} (hf:f < 8) (hi:i < 8):orgF t f i < 8:=by
 unfold orgF
 split
 ·exact hf
 ·split
  ·exact opp_lt hf
  ·exact hi
theorem add_rng {t:Nat} {n:Int} (h:-999<=n/\n<=999) (i:Nat):-999<=addF t n i/\addF t n i<=999:=by
 unfold addF
 split
 ·exact h
 ·split <;> omega
end Go.Proofs.YtffajooegiempaaGreatDoor

namespace Go.Proofs.YtffajooegiempaaGreatDoor
variable {C:Nat->Int}
theorem ssF_at (M:Nat->Int) (t f:Nat) (n:Int):∀ k a,ssF M t f n k a=if a < k then pl (M (orgF t f (a / 8)*8+orgF t f (a % 8))) (addF t n (a / 8)+addF t n (a % 8)) else M a:=by
 intro k
 induction k with
 | zero=>intro a; rw [if_neg (by omega)]; rfl
 | succ k ih =>
  intro a
  rw [ssF]
  unfold upd
  by_cases e:a=k
  ·rw [if_pos e,if_pos (by omega),e]
  ·rw [if_neg e,ih]
   by_cases q:a < k
   ·rw [if_pos q,if_pos (by omega)]
   ·rw [if_neg q,if_neg (by omega)]
theorem ss_at (M:Nat->Int) (t f:Nat) (n:Int) {i j:Nat} (hi:i < 8) (hj:j < 8):ssF M t f n 64 (i*8+j)=pl (M (orgF t f i*8+orgF t f j)) (addF t n i+addF t n j):=by
 rw [ssF_at,if_pos (by omega),show (i*8+j) / 8=i by omega,show (i*8+j) % 8=j by omega]
theorem org_opp:∀ t:Nat,t < 4->∀ f,f < 8->∀ i,i < 8->orgF t f (opp i)=opp (orgF t f i):=by decide +kernel
theorem add_opp (t:Nat) (n:Int) (i:Nat):addF t n (opp i)=-addF t n i:=by
 unfold addF opp
 by_cases e:i % 2=0
 ·rw [if_pos e,if_neg (show ¬ i+1=2*t by omega)]
  by_cases q:i=2*t
  ·rw [if_pos (by omega),if_pos q]
  ·rw [if_neg (by omega),if_neg q,if_neg (show ¬ i=2*t+1 by omega)]; rfl
 ·rw [if_neg e]
  by_cases q:i=2*t+1
  ·rw [if_pos (show i - 1=2*t by omega),if_neg (show ¬ i=2*t by omega),if_pos q]; omega
  ·rw [if_neg (show ¬ i - 1=2*t by omega),if_neg (show ¬ i - 1=2*t+1 by omega),if_neg (show ¬ i=2*t by omega),if_neg q]; rfl
theorem pl_small {x a:Int} (hx:x=NB \/ x<=60000) (ha:-2000<=a/\a<=2000):(x=NB->pl x a=NB)/\(x ≠ NB->pl x a=x+a/\pl x a ≠ NB):=by
 unfold pl
 constructor
 ·intro h; rw [if_pos (.inl h)]
 ·intro h
  have:=hx.resolve_left h
  have e:a ≠ NB:=by unfold NB; omega
  rw [if_neg (fun z=>z.elim h e)]
  exact ⟨rfl,by unfold NB; omega⟩
theorem ss_tc (h:TC C) (hb:Bd 56000 C) {t f:Nat} (ht:t < 4) (hf:f < 8) {n:Int} (hn:-999<=n/\n<=999):TC (ssF C t f n 64)/\Bd 60000 (ssF C t f n 64):=by
 have hb':Bd 60000 C:=hb.mono (by decide)
 have ho:∀ {i:Nat},i < 8->orgF t f i < 8:=fun hi=>org_lt hf hi
 have hr:=fun i=>add_rng (t:=t) hn i
 have P:∀ {i j:Nat},i < 8->j < 8->(C (orgF t f i*8+orgF t f j)=NB->ssF C t f n 64 (i*8+j)=NB)/\(C (orgF t f i*8+orgF t f j) ≠ NB->ssF C t f n 64 (i*8+j)=C (orgF t f i*8+orgF t f j)+(addF t n i+addF t n j)/\ssF C t f n 64 (i*8+j) ≠ NB):=by
  intro i j hi hj
  rw [ss_at C t f n hi hj]
  have a:=hr i
  have b:=hr j
  have:=ho hi
  have:=ho hj
  exact pl_small (hb' _ (by omega)) ⟨by omega,by omega⟩
 have Q:∀ {i j:Nat},i < 8->j < 8->ssF C t f n 64 (i*8+j) ≠ NB->C (orgF t f i*8+orgF t f j) ≠ NB:=fun hi hj q z=>q ((P hi hj).1 z)
 have top:Bd 60000 (ssF C t f n 64):=by
  intro a ha
  rw [show a=a / 8*8+a % 8 by omega]
  have hi:a / 8 < 8:=by omega
  have hj:a % 8 < 8:=by omega
  by_cases q:ssF C t f n 64 (a / 8*8+a % 8)=NB
  ·exact .inl q
  ·have z:=Q hi hj q
   have e:=((P hi hj).2 z).1
   have:=ho hi
   have:=ho hj
   have:=(hb _ (show orgF t f (a / 8)*8+orgF t f (a % 8) < 64 by omega)).resolve_left z
   have x:=hr (a / 8)
   have y:=hr (a % 8)
   exact .inr (by omega)
 refine ⟨⟨?_,?_,?_,?_,?_,top.mono (by decide)⟩,top⟩
 ·intro k hk i j hi hj
  by_cases q1:ssF C t f n 64 (i*8+opp k)=NB
  ·exact .inl q1
  ·by_cases q2:ssF C t f n 64 (k*8+j)=NB
   ·exact .inr (.inl q2)
   ·have z1:=Q hi (opp_lt hk) q1
    have z2:=Q hk hj q2
    have e1:=((P hi (opp_lt hk)).2 z1).1
    have e2:=((P hk hj).2 z2).1
    rw [org_opp t ht f hf k hk] at z1 e1
    rw [add_opp] at e1
    obtain ⟨t1,t2⟩:=((h.tri (orgF t f k) (ho hk) (orgF t f i) (orgF t f j) (ho hi) (ho hj)).resolve_left z1).resolve_left z2
    obtain ⟨e3,e4⟩:=(P hi hj).2 t1
    exact .inr (.inr ⟨e4,by omega⟩)
 ·intro i hi
  have z:C (orgF t f i*8+orgF t f (opp i))=0:=by rw [org_opp t ht f hf i hi]; exact h.zero _ (ho hi)
  have e:=((P hi (opp_lt hi)).2 (by rw [z]; decide)).1
  rw [add_opp] at e
  omega
 ·intro i hi
  by_cases q:ssF C t f n 64 (i*8+i)=NB
  ·exact .inl q
  ·have z:=Q hi hi q
   have e:=((P hi hi).2 z).1
   have:=(h.even _ (ho hi)).resolve_left z
   exact .inr (by omega)
 ·intro i j hi hj q1 q2
  have z1:=Q hi hi q1
  have z2:=Q hj hj q2
  have e1:=((P hi hi).2 z1).1
  have e2:=((P hj hj).2 z2).1
  obtain ⟨t1,t2⟩:=h.half _ _ (ho hi) (ho hj) z1 z2
  obtain ⟨e3,e4⟩:=(P hi hj).2 t1
  exact ⟨e4,by omega⟩
 ·intro i j hi hj
  rw [ss_at C t f n hi hj,ss_at C t f n hj hi,h.sym _ _ (ho hi) (ho hj),Int.add_comm]
def uF (C:Nat->Int) (t:Nat) (lo hi:Int) (i:Nat):Int:=if i=2*t then hi else if i=2*t+1 then -lo else mo C i i
abbrev isT (t i:Nat):Prop:=i=2*t \/ i=2*t+1
def sbG (C:Nat->Int) (t:Nat) (lo hi:Int) (i j:Nat):Int :=
 if isT t i then (if isT t j then (if i=j then (if i=2*t then 2*hi else 2*-lo) else C (i*8+j)) else pl (uF C t lo hi i) (mo C j j))
 else if isT t j then pl (uF C t lo hi j) (mo C i i) else C (i*8+j)
theorem lm_at (M:Nat->Int) (p q:Nat) (n:Int) {i j:Nat} (_hi:i < 8) (hj:j < 8) (hp:p < 8) (hq:q < 8):lm M p q n (i*8+j)=if (i=p/\j=q) \/ (i=q/\j=p) then (if p=q/\n ≠ NB then 2*n else n) else M (i*8+j):=by
 unfold lm
 generalize (if p=q/\n ≠ NB then 2*n else n)=y
 unfold upd
 by_cases q1:i*8+j=q*8+p
 ·rw [if_pos q1,if_pos (.inr (by omega))]
 ·rw [if_neg q1]
  by_cases q2:i*8+j=p*8+q
  ·rw [if_pos q2,if_pos (.inl (by omega))]
  ·rw [if_neg q2,if_neg (by omega)]
theorem if_cg {b c:Prop} [Decidable b] [Decidable c] {x x' y y':Int} (h:b ↔ c) (hx:x=x') (hy:y=y'):(if b then x else y)=if c then x' else y':=by
 by_cases q:c
 ·rw [if_pos (h.2 q),if_pos q,hx]
 ·rw [if_neg (fun z=>q (h.1 z)),if_neg q,hy]
theorem sbF_at (M:Nat->Int) {t:Nat} (ht:t < 4) (lo hi':Int):∀ n,n<=8->∀ i j,i < 8->j < 8->sbF M t lo hi' n (i*8+j) =
  if isT t i/\¬ isT t j/\j < n then pl (uF M t lo hi' i) (mo M j j) else if isT t j/\¬ isT t i/\i < n then pl (uF M t lo hi' j) (mo M i i) else M (i*8+j):=by
 intro n
 induction n with
 | zero=>intro _ i j _ _; rw [if_neg (by omega),if_neg (by omega)]; rfl
 | succ n ih =>
  intro hn i j hi hj
  rw [sbF]
  by_cases c:n=2*t \/ n=2*t+1
  ·rw [if_pos c,ih (by omega) i j hi hj]
   exact if_cg ⟨fun h=>⟨h.1,h.2.1,by omega⟩,fun h=>⟨h.1,h.2.1,by omega⟩⟩ rfl (if_cg ⟨fun h=>⟨h.1,h.2.1,by omega⟩,fun h=>⟨h.1,h.2.1,by omega⟩⟩ rfl rfl)
  ·rw [if_neg c,mo_congr (sbF_dia M ht lo hi' n (by omega) n (by omega) (fun z=>c (.inl z)) (fun z=>c (.inr z)))]
   rw [lm_at _ _ _ _ hi hj (by omega) (by omega),lm_at _ _ _ _ hi hj (by omega) (by omega),ih (by omega) i j hi hj]
   rw [if_neg (show ¬ (2*t+1=n/\pl (-lo) (mo M n n) ≠ NB) by omega),if_neg (show ¬ (2*t=n/\pl hi' (mo M n n) ≠ NB) by omega)]
   by_cases a1:(i=2*t+1/\j=n) \/ (i=n/\j=2*t+1)
   ·rw [if_pos a1]
    rcases a1 with ⟨b1,b2⟩ | ⟨b1,b2⟩
    ·rw [if_pos (show isT t i/\¬ isT t j/\j < n+1 from ⟨.inr b1,by omega,by omega⟩),b2]; unfold uF; rw [if_neg (show ¬ i=2*t by omega),if_pos b1]
    ·rw [if_neg (show ¬ (isT t i/\¬ isT t j/\j < n+1) by omega),if_pos (show isT t j/\¬ isT t i/\i < n+1 from ⟨.inr b2,by omega,by omega⟩),b1]; unfold uF; rw [if_neg (show ¬ j=2*t by omega),if_pos b2]
   ·rw [if_neg a1]
    by_cases a2:(i=2*t/\j=n) \/ (i=n/\j=2*t)
    ·rw [if_pos a2]
     rcases a2 with ⟨b1,b2⟩ | ⟨b1,b2⟩
     ·rw [if_pos (show isT t i/\¬ isT t j/\j < n+1 from ⟨.inl b1,by omega,by omega⟩),b2]; unfold uF; rw [if_pos b1]
     ·rw [if_neg (show ¬ (isT t i/\¬ isT t j/\j < n+1) by omega),if_pos (show isT t j/\¬ isT t i/\i < n+1 from ⟨.inl b2,by omega,by omega⟩),b1]; unfold uF; rw [if_pos b2]
    ·rw [if_neg a2]
     exact if_cg ⟨fun h=>⟨h.1,h.2.1,by omega⟩,fun h=>⟨h.1,h.2.1,by omega⟩⟩ rfl (if_cg ⟨fun h=>⟨h.1,h.2.1,by omega⟩,fun h=>⟨h.1,h.2.1,by omega⟩⟩ rfl rfl)
theorem sbT_at (M:Nat->Int) {t:Nat} (ht:t < 4) {lo hi:Int} (hlo:-999<=lo/\lo<=999) (hhi:-999<=hi/\hi<=999) {i j:Nat} (hi':i < 8) (hj:j < 8):sbT M t lo hi (i*8+j)=sbG M t lo hi i j:=by
 have n1:hi ≠ NB:=by unfold NB; omega
 have n2:-lo ≠ NB:=by unfold NB; omega
 unfold sbT sbG
 rw [lm_at _ _ _ _ hi' hj (by omega) (by omega),lm_at _ _ _ _ hi' hj (by omega) (by omega),sbF_at M ht lo hi 8 (Nat.le_refl _) i j hi' hj,if_pos (show 2*t+1=2*t+1/\-lo ≠ NB from ⟨rfl,n2⟩),if_pos (show 2*t=2*t/\hi ≠ NB from ⟨rfl,n1⟩)]
 by_cases a1:i=2*t+1/\j=2*t+1
 ·rw [if_pos (.inl a1),if_pos (show isT t i from .inr a1.1),if_pos (show isT t j from .inr a1.2),if_pos (show i=j by omega),if_neg (show ¬ i=2*t by omega)]
 ·rw [if_neg (show ¬ ((i=2*t+1/\j=2*t+1) \/ (i=2*t+1/\j=2*t+1)) by omega)]
  by_cases a2:i=2*t/\j=2*t
  ·rw [if_pos (.inl a2),if_pos (show i=2*t \/ i=2*t+1 by omega),if_pos (show j=2*t \/ j=2*t+1 by omega),if_pos (show i=j by omega),if_pos a2.1]
  ·rw [if_neg (show ¬ ((i=2*t/\j=2*t) \/ (i=2*t/\j=2*t)) by omega)]
   by_cases q1:i=2*t \/ i=2*t+1
   ·rw [if_pos q1]
    by_cases q2:j=2*t \/ j=2*t+1
    ·rw [if_pos q2,if_neg (show ¬ i=j by omega),if_neg (fun z=>z.2.1 q2),if_neg (fun z=>z.2.1 q1)]
    ·rw [if_neg q2,if_pos ⟨q1,q2,hj⟩]
   ·rw [if_neg q1,if_neg (fun z=>q1 z.1)]
    by_cases q2:j=2*t \/ j=2*t+1
    ·rw [if_pos q2,if_pos ⟨q2,q1,hi'⟩]
    ·rw [if_neg q2,if_neg (fun z=>q2 z.1)]
theorem mo_tc (h:TC C) {j:Nat} (hj:j < 8):(C (j*8+j)=NB->mo C j j=NB)/\(C (j*8+j) ≠ NB->2*mo C j j=C (j*8+j)/\mo C j j ≠ NB):=by
 unfold mo
 constructor
 ·intro q; rw [if_neg (fun z=>z.2 q),q]
 ·intro q
  rw [if_pos ⟨rfl,q⟩]
  have e:=tdiv_even ((h.even j hj).resolve_left q)
  have:=(h.top (j*8+j) (by omega)).resolve_left q
  exact ⟨by omega,by unfold NB; omega⟩
theorem isT_opp (t i:Nat):isT t (opp i) ↔ isT t i:=by
 unfold isT opp
 split <;> omega
theorem isT_eq {t i j:Nat} (hi:isT t i) (hj:isT t j):j=i \/ j=opp i:=by
 unfold isT opp at *
 split <;> omega
theorem bt_tc (h:TC C) (hb:Bd 56000 C) {t:Nat} (ht:t < 4) {lo hi:Int} (hlo:-999<=lo/\lo<=999) (hhi:-999<=hi/\hi<=999) (hle:lo<=hi):TC (sbT C t lo hi)/\Bd 60000 (sbT C t lo hi):=by
 have u0:∀ {i:Nat},isT t i->0<=uF C t lo hi i+uF C t lo hi (opp i)/\-999<=uF C t lo hi i/\uF C t lo hi i<=999:=by
  intro i q
  rcases q with q | q
  ·have e:opp i=2*t+1:=by unfold opp; rw [if_pos (by omega)]; omega
   rw [e]
   unfold uF
   rw [if_pos q,if_neg (show ¬ 2*t+1=2*t by omega),if_pos rfl]
   omega
  ·have e:opp i=2*t:=by unfold opp; rw [if_neg (by omega)]; omega
   rw [e]
   unfold uF
   rw [if_neg (show ¬ i=2*t by omega),if_pos q,if_pos rfl]
   omega
 -- the five cases
 have G1:∀ {i j:Nat},i < 8->j < 8->isT t i->j=i->sbT C t lo hi (i*8+j)=2*uF C t lo hi i:=by
  intro i j hi' hj q e
  subst e
  rw [sbT_at C ht hlo hhi hi' hj]
  unfold sbG uF
  rw [if_pos q,if_pos q,if_pos rfl]
  by_cases z:j=2*t
  ·rw [if_pos z,if_pos z]
  ·rw [if_neg z,if_neg z,if_pos (q.resolve_left z)]
 have G2:∀ {i j:Nat},i < 8->j < 8->isT t i->j=opp i->sbT C t lo hi (i*8+j)=0:=by
  intro i j hi' hj q e
  subst e
  rw [sbT_at C ht hlo hhi hi' hj]
  unfold sbG
  rw [if_pos q,if_pos ((isT_opp t i).2 q),if_neg (fun z=>opp_ne i z.symm)]
  exact h.zero i hi'
 have G3:∀ {i j:Nat},i < 8->j < 8->isT t i->¬ isT t j->(C (j*8+j)=NB->sbT C t lo hi (i*8+j)=NB/\sbT C t lo hi (j*8+i)=NB)/\(C (j*8+j) ≠ NB->sbT C t lo hi (i*8+j)=uF C t lo hi i+mo C j j/\sbT C t lo hi (i*8+j) ≠ NB/\sbT C t lo hi (j*8+i)=uF C t lo hi i+mo C j j/\sbT C t lo hi (j*8+i) ≠ NB):=by
  intro i j hi' hj q1 q2
  have m:=mo_tc h hj
  have u:=u0 q1
  have e1:sbT C t lo hi (i*8+j)=pl (uF C t lo hi i) (mo C j j):=by
   rw [sbT_at C ht hlo hhi hi' hj]; unfold sbG; rw [if_pos q1,if_neg q2]
  have e2:sbT C t lo hi (j*8+i)=pl (uF C t lo hi i) (mo C j j):=by
   rw [sbT_at C ht hlo hhi hj hi']; unfold sbG; rw [if_neg q2,if_pos q1]
  rw [e1,e2]
  unfold pl
  constructor
  ·intro z
   rw [if_pos (.inr (m.1 z))]
   exact ⟨rfl,rfl⟩
  ·intro z
   obtain ⟨m1,m2⟩:=m.2 z
   have:=(hb (j*8+j) (by omega)).resolve_left z
   have n1:uF C t lo hi i ≠ NB:=by unfold NB; omega
   rw [if_neg (fun y=>y.elim n1 m2)]
   have n2:uF C t lo hi i+mo C j j ≠ NB:=by unfold NB; omega
   exact ⟨rfl,n2,rfl,n2⟩
 have G5:∀ {i j:Nat},i < 8->j < 8->¬ isT t i->¬ isT t j->sbT C t lo hi (i*8+j)=C (i*8+j):=by
  intro i j hi' hj q1 q2
  rw [sbT_at C ht hlo hhi hi' hj]
  unfold sbG
  rw [if_neg q1,if_neg q2]
 have mm:=fun {j:Nat} (hj:j < 8)=>mo_tc h hj
 generalize hN:sbT C t lo hi=N at *
 clear hN
 have nn:∀ x:Int,x<=200000->x ≠ NB:=fun x hx=>by unfold NB; omega
 have top:Bd 60000 N:=by
  intro a ha
  rw [show a=a / 8*8+a % 8 by omega]
  have hi':a / 8 < 8:=by omega
  have hj:a % 8 < 8:=by omega
  generalize a / 8=i at *
  generalize a % 8=j at *
  by_cases q1:isT t i
  ·by_cases q2:isT t j
   ·rcases isT_eq q1 q2 with e | e
    ·rw [G1 hi' hj q1 e]; have:=u0 q1; exact .inr (by omega)
    ·rw [G2 hi' hj q1 e]; exact .inr (by decide)
   ·by_cases z:C (j*8+j)=NB
    ·exact .inl ((G3 hi' hj q1 q2).1 z).1
    ·have:=(hb (j*8+j) (by omega)).resolve_left z
     have m:=(mm hj).2 z
     have:=u0 q1
     have g:=((G3 hi' hj q1 q2).2 z).1
     exact .inr (by omega)
  ·by_cases q2:isT t j
   ·by_cases z:C (i*8+i)=NB
    ·exact .inl ((G3 hj hi' q2 q1).1 z).2
    ·have:=(hb (i*8+i) (by omega)).resolve_left z
     have m:=(mm hi').2 z
     have:=u0 q2
     have g:=((G3 hj hi' q2 q1).2 z).2.2.1
     exact .inr (by omega)
   ·rw [G5 hi' hj q1 q2]
    exact (hb _ (by omega)).imp id (fun z=>by omega)
 have sym:Sym N:=by
  intro i j hi' hj
  by_cases q1:isT t i
  ·by_cases q2:isT t j
   ·rcases isT_eq q1 q2 with e | e
    ·rw [e]
    ·rw [G2 hi' hj q1 e,G2 hj hi' q2 (by rw [e,opp_opp i hi'])]
   ·by_cases z:C (j*8+j)=NB
    ·have g:=(G3 hi' hj q1 q2).1 z; rw [g.1,g.2]
    ·have g:=(G3 hi' hj q1 q2).2 z; rw [g.1,g.2.2.1]
  ·by_cases q2:isT t j
   ·by_cases z:C (i*8+i)=NB
    ·have g:=(G3 hj hi' q2 q1).1 z; rw [g.1,g.2]
    ·have g:=(G3 hj hi' q2 q1).2 z; rw [g.1,g.2.2.1]
   ·rw [G5 hi' hj q1 q2,G5 hj hi' q2 q1]; exact h.sym i j hi' hj
 refine ⟨⟨?_,fun i hi'=>?_,fun i hi'=>?_,fun i j hi' hj z1 z2=>?_,sym,top.mono (by decide)⟩,top⟩
 ·intro k hk i j hi' hj
  have ho:=opp_lt hk
  by_cases qk:isT t k
  ·have qo:=(isT_opp t k).2 qk
   have uk:=u0 qk
   by_cases q1:isT t i
   ·by_cases q2:isT t j
    ·-- all of them
     right; right
     have ui:=u0 q1
     rcases isT_eq qk q1 with e1 | e1
     ·have a1:=G2 hi' ho q1 (by rw [e1])
      rcases isT_eq qk q2 with e2 | e2
      ·have a2:=G1 hk hj qk e2
       have a3:=G1 hi' hj q1 (by rw [e1,e2])
       rw [a1,a2,a3,e1]
       exact ⟨nn _ (by omega),by omega⟩
      ·have a2:=G2 hk hj qk e2
       have a3:=G2 hi' hj q1 (by rw [e1,e2])
       rw [a1,a2,a3]
       exact ⟨by decide,by omega⟩
     ·have a1:=G1 hi' ho q1 (by rw [e1])
      rcases isT_eq qk q2 with e2 | e2
      ·have a2:=G1 hk hj qk e2
       have a3:=G2 hi' hj q1 (by rw [e1,e2,opp_opp k hk])
       rw [a1,a2,a3,e1]
       exact ⟨by decide,by omega⟩
      ·have a2:=G2 hk hj qk e2
       have a3:=G1 hi' hj q1 (by rw [e1,e2])
       rw [a1,a2,a3]
       exact ⟨nn _ (by omega),by omega⟩
    ·by_cases z:C (j*8+j)=NB
     ·exact .inr (.inl ((G3 hk hj qk q2).1 z).1)
     ·right; right
      have a2:=(G3 hk hj qk q2).2 z
      have a3:=(G3 hi' hj q1 q2).2 z
      refine ⟨a3.2.1,?_⟩
      rw [a2.1,a3.1]
      rcases isT_eq qk q1 with e1 | e1
      ·rw [G2 hi' ho q1 (by rw [e1]),e1]; omega
      ·rw [G1 hi' ho q1 (by rw [e1]),e1]; omega
   ·by_cases z:C (i*8+i)=NB
    ·exact .inl ((G3 ho hi' qo q1).1 z).2
    ·have a1:=(G3 ho hi' qo q1).2 z
     by_cases q2:isT t j
     ·right; right
      have a3:=(G3 hj hi' q2 q1).2 z
      refine ⟨a3.2.2.2,?_⟩
      rw [a1.2.2.1,a3.2.2.1]
      rcases isT_eq qk q2 with e2 | e2
      ·rw [G1 hk hj qk e2,e2]; omega
      ·rw [G2 hk hj qk e2,e2]; omega
     ·by_cases z2:C (j*8+j)=NB
      ·exact .inr (.inl ((G3 hk hj qk q2).1 z2).1)
      ·right; right
       have a2:=(G3 hk hj qk q2).2 z2
       have x:=h.half i j hi' hj z z2
       have m1:=((mm hi').2 z).1
       have m2:=((mm hj).2 z2).1
       rw [a1.2.2.1,a2.1,G5 hi' hj q1 q2]
       exact ⟨x.1,by omega⟩
  ·have qo:¬ isT t (opp k):=fun y=>qk ((isT_opp t k).1 y)
   by_cases q1:isT t i
   ·by_cases zo:C (opp k*8+opp k)=NB
    ·exact .inl ((G3 hi' ho q1 qo).1 zo).1
    ·have a1:=(G3 hi' ho q1 qo).2 zo
     have m1:=((mm ho).2 zo).1
     by_cases q2:isT t j
     ·by_cases zk:C (k*8+k)=NB
      ·exact .inr (.inl ((G3 hj hk q2 qk).1 zk).2)
      ·right; right
       have a2:=(G3 hj hk q2 qk).2 zk
       have m2:=((mm hk).2 zk).1
       have x:=h.half k (opp k) hk ho zk zo
       rw [h.zero k hk] at x
       rw [a1.1,a2.2.2.1]
       rcases isT_eq q1 q2 with e | e
       ·rw [G1 hi' hj q1 e,e]
        have:=u0 q1
        exact ⟨nn _ (by omega),by omega⟩
       ·rw [G2 hi' hj q1 e,e]
        have:=u0 q1
        exact ⟨by decide,by omega⟩
     ·by_cases zk:C (k*8+j)=NB
      ·exact .inr (.inl (by rw [G5 hk hj qk q2]; exact zk))
      ·right; right
       have x:=h.single (i:=opp k) (b:=j) ho hj (by rw [opp_opp k hk]; exact zk) zo
       rw [opp_opp k hk] at x
       have a3:=(G3 hi' hj q1 q2).2 x.1
       have m3:=((mm hj).2 x.1).1
       refine ⟨a3.2.1,?_⟩
       rw [a1.1,a3.1,G5 hk hj qk q2]
       omega
   ·by_cases q2:isT t j
    ·by_cases zk:C (k*8+k)=NB
     ·exact .inr (.inl ((G3 hj hk q2 qk).1 zk).2)
     ·have a2:=(G3 hj hk q2 qk).2 zk
      have m2:=((mm hk).2 zk).1
      by_cases zi:C (i*8+opp k)=NB
      ·exact .inl (by rw [G5 hi' ho q1 qo]; exact zi)
      ·right; right
       have x:=h.single (i:=k) (b:=i) hk hi' (by rw [h.sym _ _ ho hi']; exact zi) zk
       have a3:=(G3 hj hi' q2 q1).2 x.1
       have m3:=((mm hi').2 x.1).1
       have s:=h.sym _ _ ho hi'
       refine ⟨a3.2.2.2,?_⟩
       rw [a2.2.2.1,a3.2.2.1,G5 hi' ho q1 qo]
       omega
    ·rw [G5 hi' hj q1 q2,G5 hi' ho q1 qo,G5 hk hj qk q2]
     exact h.tri k hk i j hi' hj
 ·by_cases q:isT t i
  ·exact G2 hi' (opp_lt hi') q rfl
  ·rw [G5 hi' (opp_lt hi') q (fun y=>q ((isT_opp t i).1 y))]; exact h.zero i hi'
 ·by_cases q:isT t i
  ·rw [G1 hi' hi' q rfl]; exact .inr (by omega)
  ·rw [G5 hi' hi' q q]; exact h.even i hi'
 ·by_cases q1:isT t i
  ·by_cases q2:isT t j
   ·have u1:=u0 q1
    rw [G1 hi' hi' q1 rfl,G1 hj hj q2 rfl]
    rcases isT_eq q1 q2 with e | e
    ·rw [G1 hi' hj q1 e,e]; exact ⟨nn _ (by omega),by omega⟩
    ·rw [G2 hi' hj q1 e,e]; exact ⟨by decide,by omega⟩
   ·rw [G5 hj hj q2 q2] at z2
    have g:=(G3 hi' hj q1 q2).2 z2
    have m:=((mm hj).2 z2).1
    rw [G1 hi' hi' q1 rfl,G5 hj hj q2 q2]
    exact ⟨g.2.1,by rw [g.1]; omega⟩
  ·rw [G5 hi' hi' q1 q1] at z1
   have m:=((mm hi').2 z1).1
   by_cases q2:isT t j
   ·have g:=(G3 hj hi' q2 q1).2 z1
    rw [G1 hj hj q2 rfl,G5 hi' hi' q1 q1]
    exact ⟨g.2.2.2,by rw [g.2.2.1]; omega⟩
   ·rw [G5 hj hj q2 q2] at z2
    rw [G5 hi' hi' q1 q1,G5 hj hj q2 q2,G5 hi' hj q1 q2]
    exact h.half i j hi' hj z1 z2
end Go.Proofs.YtffajooegiempaaGreatDoor

