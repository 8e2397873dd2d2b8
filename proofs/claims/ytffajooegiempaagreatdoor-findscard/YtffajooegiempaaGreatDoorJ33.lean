import Derived.Test.YtffajooegiempaaGreatDoorJ32
import Derived.Deep.RegionWith
set_option maxRecDepth 100000
set_option maxHeartbeats 6400000
namespace Go.Proofs.YtffajooegiempaaGreatDoor
open Go.RowKit
variable {w:World} {m:Nat} {pv iv:Value} {L:List Int} {s:Ms} {F:List Ds}
end Go.Proofs.YtffajooegiempaaGreatDoor

namespace Go.Proofs.YtffajooegiempaaGreatDoor
open Go.RowKit
def vv (l:List Int):Value:=.agg #[.int .i64 (sgAt l 0),.int .i64 (sgAt l 1),.int .i64 (sgAt l 2),.int .i64 (sgAt l 3)]
end Go.Proofs.YtffajooegiempaaGreatDoor

namespace Go.Proofs.YtffajooegiempaaGreatDoor
open Go.RowKit
variable {w:World} {m:Nat} {pv iv:Value} {L:List Int} {s:Ms} {F:List Ds}
end Go.Proofs.YtffajooegiempaaGreatDoor

namespace Go.Proofs.YtffajooegiempaaGreatDoor
open Go.RowKit
variable {w:World} {m:Nat} {pv iv:Value} {L:List Int} {s:Ms} {F:List Ds}
end Go.Proofs.YtffajooegiempaaGreatDoor

namespace Go.Proofs.YtffajooegiempaaGreatDoor
open Go.RowKit
variable {w:World} {m:Nat} {pv iv:Value} {L:List Int} {s:Ms} {F:List Ds}
end Go.Proofs.YtffajooegiempaaGreatDoor

namespace Go.Proofs.YtffajooegiempaaGreatDoor
open Go.RowKit
variable {w:World} {m:Nat} {pv iv:Value} {L:List Int} {s:Ms} {F:List Ds}
end Go.Proofs.YtffajooegiempaaGreatDoor

namespace Go.Proofs.YtffajooegiempaaGreatDoor
open Go.RowKit
variable {w:World} {m:Nat} {pv iv:Value} {L:List Int} {s:Ms} {F:List Ds}
end Go.Proofs.YtffajooegiempaaGreatDoor

namespace Go.Proofs.YtffajooegiempaaGreatDoor
open Go.RowKit
variable {w:World} {m:Nat} {pv iv:Value} {L:List Int} {s:Ms} {F:List Ds}
end Go.Proofs.YtffajooegiempaaGreatDoor

namespace Go.Proofs.YtffajooegiempaaGreatDoor
open Go.RowKit
variable {w:World} {L:List Int} {F:List Ds}
end Go.Proofs.YtffajooegiempaaGreatDoor

namespace Go.Proofs.YtffajooegiempaaGreatDoor
open Go.RowKit
variable {B:Nat} {w w':World} {r:Nat} {m:Rd} {vs vo:Value} {P Q O:Nat->Nat}
theorem Rep.follows (h:Rep B w r m vs vo P Q O) (hl:m.st.length<=20) (n:Nat):∀ i,i < m.st.length->i < n ->
  Calls Tryz.prog 62 #[.pointer (some ⟨r,0,none⟩),.int .i64 (i:Int)] w fun e w'=>e=.returned (.int .i64 (followR m.st n i))/\w'=w:=by
 induction n with
 | zero=>intro i _ hi; omega
 | succ n ih =>
  intro i hi hin
  obtain ⟨g,cap,hvs,hrow,_⟩:=h.row (by omega)
  obtain ⟨r0,r1,r2,r3,r4,r5,rf⟩:=h.rdc
  rw [hvs] at r1
  have hcell:∀ j,j < m.st.length->w.cell? ⟨g,j,none⟩=some (.pointer (some ⟨P j,0,none⟩)):=hrow
  have hst:=fun j (hj:j < m.st.length)=>h.stc j _ (Rep.gets hj)
  have hI:=fun j (h1:j < m.st.length) (h2:j < n)=>ih j h1 h2
  have HI:Hid (∀ j,j < m.st.length->j < n->Calls Tryz.prog 62 #[.pointer (some ⟨r,0,none⟩),.int .i64 (j:Int)] w fun e w'=>e=.returned (.int .i64 (followR m.st n j))/\w'=w):=hI
  have HC:Hid (∀ j,j < m.st.length->w.cell? ⟨g,j,none⟩=some (.pointer (some ⟨P j,0,none⟩))):=hcell
  have HS:Hid (∀ j,j < m.st.length->w.cell? ⟨P j,0,none⟩=some (.int .u8 (m.st.getD j noSt).kind)/\w.cell? ⟨P j,5,none⟩=some (.int .i64 (m.st.getD j noSt).mid)/\w.cell? ⟨P j,6,none⟩=some (.int .i64 (m.st.getD j noSt).fin)):=fun j hj=>⟨(hst j hj).1,(hst j hj).2.2.2.2.2.1,(hst j hj).2.2.2.2.2.2.1⟩
  have HF:Hid (followR m.st (n+1) i=if lastOpen m.st i i < 0 then ((m.st.getD i noSt).fin:Int) else if (m.st.getD i noSt).fin < endOf (m.st.getD (lastOpen m.st i i).toNat noSt) i then ((m.st.getD i noSt).fin:Int) else if (m.st.getD (lastOpen m.st i i).toNat noSt).kind=64 then lastOpen m.st i i else followR m.st n (lastOpen m.st i i).toNat):=by
   show followR _ _ _=_; rw [followR]
  have hii:(i:Int) < (m.st.length:Int):=by omega
  clear h ih hrow hst hI hcell hvs r0 r2 r3 r4 r5 rf
  go_enter Tryz.func62,Tryz.ntmps62
  go_wp2_with fail
  go_loop [5,6] (fun q k=>∃ j:Nat,j<=i/\k=.int .i64 j/\q=.int .i64 (lastOpen m.st i j)) (fun _ k=>i - (intOf k).toNat)
  case atStart=>exact ⟨0,Nat.zero_le _,rfl,rfl⟩
  case round =>
   obtain ⟨j,hj,rfl,rfl⟩:=hrel
   by_cases hlt:j < i
   ·have hjl:j < m.st.length:=by omega
    have hji:(j:Int) < (m.st.length:Int):=by omega
    have k1:=HC.out j hjl
    obtain ⟨-,-,k2⟩:=HS.out j hjl
    have HL:Hid (lastOpen m.st i (j+1)=if i < (m.st.getD j noSt).fin then (j:Int) else lastOpen m.st i j):=rfl
    generalize lastOpen m.st i j=lo at *
    generalize (m.st.getD j noSt).fin=fi at *
    by_cases hf:i < fi
    ·have hfi:(i:Int) < (fi:Int):=by omega
     go_wp2_with fail
     go_round
     case rel=>exact ⟨j+1,by omega,by go_num,by rw [HL.out,if_pos hf]⟩
     case measure=>simp [intOf]; omega
    ·have hfi:¬ (i:Int) < (fi:Int):=by omega
     go_wp2_with fail
     go_round
     case rel=>exact ⟨j+1,by omega,by go_num,by rw [HL.out,if_neg hf]⟩
     case measure=>simp [intOf]; omega
   ·have hje:j=i:=by omega
    subst hje
    have k1:=HC.out j hi
    obtain ⟨-,-,k2⟩:=HS.out j hi
    obtain ⟨l0,l1⟩:=lastOpen_lt m.st j j
    by_cases hneg:lastOpen m.st j j < 0
    ·have HE:Hid (followR m.st (n+1) j=((m.st.getD j noSt).fin:Int)):=HF.out.trans (if_pos hneg)
     clear HF
     generalize lastOpen m.st j j=lo at *
     generalize (m.st.getD j noSt).fin=fi at *
     go_wp2_with fail
     go_ret
     exact ⟨by rw [HE.out]; rfl,rfl⟩
    ·obtain ⟨q,hq⟩:∃ q:Nat,lastOpen m.st j j=q:=⟨(lastOpen m.st j j).toNat,by omega⟩
     rw [hq] at l1 hneg HF |-
     have hql:q < m.st.length:=by omega
     have hqi:(q:Int) < (m.st.length:Int):=by omega
     have k3:=HC.out q hql
     obtain ⟨s0,s5,s6⟩:=HS.out q hql
     simp only [Int.toNat_natCast] at HF
     have HF2:Hid (followR m.st (n+1) j=if (m.st.getD j noSt).fin < endOf (m.st.getD q noSt) j then ((m.st.getD j noSt).fin:Int) else if (m.st.getD q noSt).kind=64 then (q:Int) else followR m.st n q):=HF.out.trans (if_neg hneg)
     have hrec:=HI.out q hql (by omega)
     clear HF hneg hq
     have HEn:Hid (endOf (m.st.getD q noSt) j=if (m.st.getD q noSt).kind=63/\j < (m.st.getD q noSt).mid then (m.st.getD q noSt).mid else (m.st.getD q noSt).fin):=rfl
     generalize m.st.getD q noSt=u at *
     generalize (m.st.getD j noSt).fin=fi at *
     have hq0:¬ (q:Int) < 0:=by omega
     by_cases h63:u.kind=63
     ·rw [h63] at s0
      by_cases hmid:j < u.mid
      ·have hmi:(j:Int) < (u.mid:Int):=by omega
       have en:endOf u j=u.mid:=HEn.out.trans (if_pos ⟨h63,hmid⟩)
       rw [en,h63] at HF2
       clear HEn en h63
       by_cases hlt2:fi < u.mid
       ·have hd:(fi:Int) < (u.mid:Int):=by omega
        have HE:Hid (_=_):=HF2.out.trans (if_pos hlt2)
        clear HF2
        go_wp2_with fail
        go_ret
        exact ⟨by rw [HE.out]; rfl,rfl⟩
       ·have hd:¬ (fi:Int) < (u.mid:Int):=by omega
        have HE:Hid (_=_):=(HF2.out.trans (if_neg hlt2)).trans (if_neg (by decide))
        clear HF2
        go_wp2_with fail
        refine hrec.mono ?_
        rintro e w1 ⟨rfl,rfl⟩
        go_wp2_with fail
        go_ret
        exact ⟨by rw [HE.out]; rfl,rfl⟩
      ·have hmi:¬ (j:Int) < (u.mid:Int):=by omega
       have en:endOf u j=u.fin:=HEn.out.trans (if_neg (fun e=>hmid e.2))
       rw [en,h63] at HF2
       clear HEn en h63
       by_cases hlt2:fi < u.fin
       ·have hd:(fi:Int) < (u.fin:Int):=by omega
        have HE:Hid (_=_):=HF2.out.trans (if_pos hlt2)
        clear HF2
        go_wp2_with fail
        go_ret
        exact ⟨by rw [HE.out]; rfl,rfl⟩
       ·have hd:¬ (fi:Int) < (u.fin:Int):=by omega
        have HE:Hid (_=_):=(HF2.out.trans (if_neg hlt2)).trans (if_neg (by decide))
        clear HF2
        go_wp2_with fail
        refine hrec.mono ?_
        rintro e w1 ⟨rfl,rfl⟩
        go_wp2_with fail
        go_ret
        exact ⟨by rw [HE.out]; rfl,rfl⟩
     ·have b63:(u.kind == 63)=false:=by simpa using h63
      have en:endOf u j=u.fin:=HEn.out.trans (if_neg (fun e=>h63 e.1))
      rw [en] at HF2
      clear HEn en h63
      by_cases hlt2:fi < u.fin
      ·have hd:(fi:Int) < (u.fin:Int):=by omega
       have HE:Hid (_=_):=HF2.out.trans (if_pos hlt2)
       clear HF2
       go_wp2_with fail
       go_ret
       exact ⟨by rw [HE.out]; rfl,rfl⟩
      ·have hd:¬ (fi:Int) < (u.fin:Int):=by omega
       by_cases h64:u.kind=64
       ·have HE:Hid (_=_):=(HF2.out.trans (if_neg hlt2)).trans (if_pos h64)
        rw [h64] at s0
        clear b63 h64
        clear HF2
        go_wp2_with fail
        go_ret
        exact ⟨by rw [HE.out]; rfl,rfl⟩
       ·have b64:(u.kind == 64)=false:=by simpa using h64
        have HE:Hid (_=_):=(HF2.out.trans (if_neg hlt2)).trans (if_neg h64)
        clear h64
        clear HF2
        go_wp2_with fail
        refine hrec.mono ?_
        rintro e w1 ⟨rfl,rfl⟩
        go_wp2_with fail
        go_ret
        exact ⟨by rw [HE.out]; rfl,rfl⟩
end Go.Proofs.YtffajooegiempaaGreatDoor

namespace Go.Proofs.YtffajooegiempaaGreatDoor
open Go.RowKit
variable {B:Nat} {w w':World} {r:Nat} {m:Rd} {vs vo:Value} {P Q O:Nat->Nat}
theorem Rep.next (h:Rep B w r m vs vo P Q O) (hl:m.st.length<=20) (p:Nat) (hp:p < m.st.length) (way:Int) :
  Calls Tryz.prog 23 #[.pointer (some ⟨r,0,none⟩),.int .i64 (p:Int),.int .i64 way] w fun e w'=>e=.returned (.int .i64 (nextR m.st p way))/\∃ k,w'=w.drewN k:=by
 have hfo:=h.follows hl 21 p hp (by omega)
 obtain ⟨g,cap,hvs,hrow,_⟩:=h.row (by omega)
 obtain ⟨r0,r1,r2,r3,r4,r5,rf⟩:=h.rdc
 rw [hvs] at r1
 have hc:w.cell? ⟨g,p,none⟩=some (.pointer (some ⟨P p,0,none⟩)):=hrow p hp
 obtain ⟨c0,c1,c2,c3,c4,c5,c6,-⟩:=h.stc p _ (Rep.gets hp)
 have hpi:(p:Int) < (m.st.length:Int):=by omega
 have HN:Hid (nextR m.st p way=if (m.st.getD p noSt).kind=61 \/ (m.st.getD p noSt).kind=33 \/ ((m.st.getD p noSt).kind=64/\way=1) then followR m.st 21 p
  else if (m.st.getD p noSt).kind=64/\(m.st.getD p noSt).fin=p+1 then (p:Int)
  else if (m.st.getD p noSt).kind=64 then (p:Int)+1
  else if way=0/\p+1 < (m.st.getD p noSt).mid then (p:Int)+1
  else if way=1/\(m.st.getD p noSt).mid < (m.st.getD p noSt).fin then ((m.st.getD p noSt).mid:Int)
  else followR m.st 21 p):=rfl
 clear h hrow hvs r0 r2 r3 r4 r5 rf c1 c2 c3 c4
 generalize m.st.getD p noSt=u at *
 generalize followR m.st 21 p=fo at *
 generalize P p=q at *
 by_cases k61:u.kind=61
 ·have HE:Hid (_=_):=HN.out.trans (if_pos (.inl k61))
  rw [k61] at c0
  clear HN k61
  go_enter Tryz.func23,Tryz.ntmps23
  go_wp2_with fail
  refine hfo.mono ?_
  rintro e w1 ⟨rfl,rfl⟩
  go_wp2_with fail
  go_ret
  exact ⟨by rw [HE.out]; rfl,0,rfl⟩
 have b61:(u.kind == 61)=false:=by simpa using k61
 by_cases k33:u.kind=33
 ·have HE:Hid (_=_):=HN.out.trans (if_pos (.inr (.inl k33)))
  rw [k33] at c0
  clear HN k61 b61 k33
  go_enter Tryz.func23,Tryz.ntmps23
  go_wp2_with fail
  refine hfo.mono ?_
  rintro e w1 ⟨rfl,rfl⟩
  go_wp2_with fail
  go_ret
  exact ⟨by rw [HE.out]; rfl,0,rfl⟩
 have b33:(u.kind == 33)=false:=by simpa using k33
 by_cases k64:u.kind=64
 ·by_cases w1:way=1
  ·have HE:Hid (_=_):=HN.out.trans (if_pos (.inr (.inr ⟨k64,w1⟩)))
   rw [k64] at c0
   subst w1
   clear HN k61 b61 k33 b33 k64
   go_enter Tryz.func23,Tryz.ntmps23
   go_wp2_with fail
   refine hfo.mono ?_
   rintro e w1 ⟨rfl,rfl⟩
   go_wp2_with fail
   go_ret
   exact ⟨by rw [HE.out]; rfl,0,rfl⟩
  ·have bw:(way == 1)=false:=by simpa using w1
   have HN2:Hid (_=_):=HN.out.trans (if_neg (fun e=>e.elim k61 (fun e=>e.elim k33 (fun e=>w1 e.2))))
   by_cases hf:u.fin=p+1
   ·have HE:Hid (_=_):=HN2.out.trans (if_pos ⟨k64,hf⟩)
    have hfb:(((u.fin:Nat):Int) == (p:Int)+1)=true:=by rw [beq_iff_eq]; omega
    rw [k64] at c0
    clear HN HN2 k61 b61 k33 b33 k64 w1 hf
    go_enter Tryz.func23,Tryz.ntmps23
    go_wp2_with fail
    refine hfo.mono ?_
    rintro e w1 ⟨rfl,rfl⟩
    go_wp2_with fail
    go_ret
    exact ⟨by rw [HE.out]; rfl,0,rfl⟩
   ·have HE:Hid (_=_):=(HN2.out.trans (if_neg (fun e=>hf e.2))).trans (if_pos k64)
    have hfb:(((u.fin:Nat):Int) == (p:Int)+1)=false:=by rw [beq_eq_false_iff_ne]; omega
    rw [k64] at c0
    clear HN HN2 k61 b61 k33 b33 k64 w1 hf
    go_enter Tryz.func23,Tryz.ntmps23
    go_wp2_with fail
    refine hfo.mono ?_
    rintro e w1 ⟨rfl,rfl⟩
    go_wp2_with fail
    go_ret
    exact ⟨by rw [HE.out]; rfl,0,rfl⟩
 have b64:(u.kind == 64)=false:=by simpa using k64
 have HN2:Hid (_=_):=((HN.out.trans (if_neg (fun e=>e.elim k61 (fun e=>e.elim k33 (fun e=>k64 e.1))))).trans (if_neg (fun e=>k64 e.1))).trans (if_neg k64)
 clear HN k61 k33 k64
 by_cases w0:way=0
 ·subst w0
  by_cases hm:p+1 < u.mid
  ·have HE:Hid (_=_):=HN2.out.trans (if_pos ⟨rfl,hm⟩)
   have hmi:(p:Int)+1 < (u.mid:Int):=by omega
   clear HN2
   go_enter Tryz.func23,Tryz.ntmps23
   go_wp2_with fail
   refine hfo.mono ?_
   rintro e w1 ⟨rfl,rfl⟩
   go_wp2_with fail
   go_ret
   exact ⟨by rw [HE.out]; rfl,0,rfl⟩
  ·have HE:Hid (_=_):=(HN2.out.trans (if_neg (fun e=>hm e.2))).trans (if_neg (fun e=>absurd e.1 (by decide)))
   have hmi:¬ (p:Int)+1 < (u.mid:Int):=by omega
   clear HN2
   go_enter Tryz.func23,Tryz.ntmps23
   go_wp2_with fail
   refine hfo.mono ?_
   rintro e w1 ⟨rfl,rfl⟩
   go_wp2_with fail
   go_quiet (fail)
   go_wp2_with fail
   go_ret
   exact ⟨by rw [HE.out]; rfl,_,rfl⟩
 ·have bw0:(way == 0)=false:=by simpa using w0
  by_cases w1:way=1
  ·subst w1
   clear w0 bw0
   by_cases hm:u.mid < u.fin
   ·have HE:Hid (_=_):=(HN2.out.trans (if_neg (fun e=>absurd e.1 (by decide)))).trans (if_pos ⟨rfl,hm⟩)
    have hmi:(u.mid:Int) < (u.fin:Int):=by omega
    clear HN2
    go_enter Tryz.func23,Tryz.ntmps23
    go_wp2_with fail
    refine hfo.mono ?_
    rintro e w1 ⟨rfl,rfl⟩
    go_wp2_with fail
    go_quiet (fail)
    go_wp2_with fail
    go_ret
    exact ⟨by rw [HE.out]; rfl,_,rfl⟩
   ·have HE:Hid (_=_):=(HN2.out.trans (if_neg (fun e=>absurd e.1 (by decide)))).trans (if_neg (fun e=>hm e.2))
    have hmi:¬ (u.mid:Int) < (u.fin:Int):=by omega
    clear HN2
    go_enter Tryz.func23,Tryz.ntmps23
    go_wp2_with fail
    refine hfo.mono ?_
    rintro e w1 ⟨rfl,rfl⟩
    go_wp2_with fail
    go_quiet (fail)
    go_wp2_with fail
    go_ret
    exact ⟨by rw [HE.out]; rfl,_,rfl⟩
  ·have bw1:(way == 1)=false:=by simpa using w1
   have HE:Hid (_=_):=(HN2.out.trans (if_neg (fun e=>w0 e.1))).trans (if_neg (fun e=>w1 e.1))
   clear HN2 w0 w1
   go_enter Tryz.func23,Tryz.ntmps23
   go_wp2_with fail
   refine hfo.mono ?_
   rintro e w1 ⟨rfl,rfl⟩
   go_wp2_with fail
   go_quiet (fail)
   go_wp2_with fail
   go_ret
   exact ⟨by rw [HE.out]; rfl,_,rfl⟩
end Go.Proofs.YtffajooegiempaaGreatDoor

namespace Go.Proofs.YtffajooegiempaaGreatDoor
open Go.RowKit
end Go.Proofs.YtffajooegiempaaGreatDoor

namespace Go.Proofs.YtffajooegiempaaGreatDoor
open Go.RowKit
end Go.Proofs.YtffajooegiempaaGreatDoor

namespace Go.Proofs.YtffajooegiempaaGreatDoor
open Go.RowKit
end Go.Proofs.YtffajooegiempaaGreatDoor

namespace Go.Proofs.YtffajooegiempaaGreatDoor
open Go.RowKit
variable {w:World}
end Go.Proofs.YtffajooegiempaaGreatDoor

namespace Go.Proofs.YtffajooegiempaaGreatDoor
open Go.RowKit
variable {w:World}
end Go.Proofs.YtffajooegiempaaGreatDoor

namespace Go.Proofs.YtffajooegiempaaGreatDoor
open Go.RowKit
variable {w:World}
theorem crt_ne (F:List Ds) (hx:∀ k,k < F.length->DQ (F.getD k (newDs 0 0))) (hl:F.length<=20):crtF F ≠ ⟨#[]⟩:=by
 intro h
 have h1:=crt_bytes hx hl
 rw [h] at h1
 have h2:bytesOf ⟨#[]⟩=[]:=rfl
 rw [h2] at h1
 unfold encB at h1
 cases h1
theorem crt_not {s:ByteArray} (hs:progOf (bytesOf s) ≠ none):crtF (readZ s).2 ≠ ⟨#[]⟩:=by
 cases hp:progOf (bytesOf s) with
 | none=>exact absurd hp hs
 | some mm =>
  have h160:=(progOf_some hp).1
  have hbl:=bytesOf_len s
  have hlen:(readZ s).2.length<=20:=(rStmts_goes s 22 (-1) 0 0 ((0,false),[]) ⟨Nat.zero_le _,Nat.zero_le _⟩).ok.len
  rcases prog_whole s (by omega) with ⟨_,hn⟩ | ⟨m',_,hp',hW⟩
  ·rw [hp] at hn; cases hn
  ·exact crt_ne _ (fun k hk=>dq_of hp' hW hk) hlen
theorem crt_le {s:ByteArray} (hs:progOf (bytesOf s) ≠ none):(crtF (readZ s).2).size<=maxLen:=by
 cases hp:progOf (bytesOf s) with
 | none=>exact absurd hp hs
 | some mm =>
  have h160:=(progOf_some hp).1
  have hbl:=bytesOf_len s
  have hlen:(readZ s).2.length<=20:=(rStmts_goes s 22 (-1) 0 0 ((0,false),[]) ⟨Nat.zero_le _,Nat.zero_le _⟩).ok.len
  rcases prog_whole s (by omega) with ⟨_,hn⟩ | ⟨m',_,hp',hW⟩
  ·rw [hp] at hn; cases hn
  ·have:=crt_small (fun k hk=>dq_of hp' hW hk) hlen
   unfold maxLen
   omega
end Go.Proofs.YtffajooegiempaaGreatDoor

namespace Go.Proofs.YtffajooegiempaaGreatDoor
variable {M N:Nat->Int} {F:List Ds} {L:List (Option (List Int))}
theorem wi_iff {e1 e2:Bool}:wiB e1 e2 M N=true ↔ e1=true \/ (e1=false/\e2=false/\Le M N):=by
 unfold wiB
 cases e1 with
 | true=>exact ⟨fun _=>.inl rfl,fun _=>rfl⟩
 | false =>
  cases e2 with
  | true=>exact ⟨(fun h=>by cases h),(fun h=>by rcases h with h | ⟨_,h,_⟩ <;> cases h)⟩
  | false =>
   show leF M N 64=true ↔ _
   rw [leF_iff]
   exact ⟨fun h=>.inr ⟨rfl,rfl,h⟩,fun h=>by
    rcases h with h | ⟨_,_,h⟩
    ·cases h
    ·exact h⟩
theorem Le.trans {A B C:Nat->Int} (h:Le A B) (k:Le B C):Le A C:=fun a ha=>Int.le_trans (h a ha) (k a ha)
theorem wi_trans {e1 e2 e3:Bool} {A B C:Nat->Int} (h:wiB e1 e2 A B=true) (k:wiB e2 e3 B C=true):wiB e1 e3 A C=true:=by
 rcases wi_iff.1 h with h | ⟨h1,h2,h3⟩
 ·exact wi_iff.2 (.inl h)
 ·rcases wi_iff.1 k with k | ⟨_,k2,k3⟩
  ·rw [h2] at k; cases k
  ·exact wi_iff.2 (.inr ⟨h1,k2,h3.trans k3⟩)
theorem wi_refl (e:Bool) (A:Nat->Int):wiB e e A A=true:=by
 cases e with
 | true=>rfl
 | false=>exact wi_iff.2 (.inr ⟨rfl,rfl,fun _ _=>Int.le_refl _⟩)
theorem mo_mono (h:Le M N) (hN:∀ a,a < 64->N a<=NB) {i j:Nat} (hi:i < 8) (hj:j < 8):mo M i j<=mo N i j:=by
 have h1:=h (i*8+j) (by omega)
 have h2:=hN (i*8+j) (by omega)
 unfold mo
 generalize M (i*8+j)=x at *
 generalize N (i*8+j)=y at *
 have tx:=tdiv2 x
 have ty:=tdiv2 y
 have hx:=Int.lt_or_le x 0
 have hy:=Int.lt_or_le y 0
 unfold NB at *
 by_cases e:i=j
 ·by_cases qy:y=1000000
  ·rw [if_neg (show ¬ (i=j/\y ≠ 1000000) from fun z=>z.2 qy)]
   split
   ·rcases hx with c | c
    ·rw [tx.2 c]; omega
    ·rw [tx.1 c]; omega
   ·omega
  ·rw [if_pos (show i=j/\y ≠ 1000000 from ⟨e,qy⟩),if_pos (show i=j/\x ≠ 1000000 from ⟨e,by omega⟩)]
   rcases hx with c | c
   ·rw [tx.2 c]
    rcases hy with d | d
    ·rw [ty.2 d]; omega
    ·rw [ty.1 d]; omega
   ·rw [tx.1 c,ty.1 (by omega)]; omega
 ·rw [if_neg (fun z=>e z.1),if_neg (fun z=>e z.1)]
  exact h1
theorem gr_mono (h:Le M N) (hN:∀ a,a < 64->N a<=NB) (l:List Int):grP M l<=grP N l:=mo_mono h hN (sdS_lt l 4 (Nat.le_refl _)).1 (sdS_lt l 4 (Nat.le_refl _)).2
theorem sf_mono (h:Le M N) (hN:∀ a,a < 64->N a<=NB) {x:Ds} (hx:DQ x) (hs:sfP false N x=true):sfP false M x=true:=by
 have n:=hx.g.num
 have g1:=gr_mono h hN x.sg
 have g2:=gr_mono h hN (ngL x.sg)
 unfold sfP at *
 rw [if_neg (by decide)] at *
 by_cases k0:x.kind=0
 ·rw [if_pos k0] at *
  cases ha:x.any with
  | true=>rfl
  | false =>
   rw [ha,Bool.false_or] at hs
   rw [Bool.false_or]
   unfold ftB at *
   obtain ⟨a,b,c,d⟩:=of_decide_eq_true hs
   unfold NB at *
   exact decide_eq_true ⟨by omega,by omega,by omega,by omega⟩
 ·rw [if_neg k0] at *
  by_cases k1:x.kind=1
  ·rw [if_pos k1,Bool.and_eq_true] at *
   exact ⟨hs.1,decide_eq_true (by have:=of_decide_eq_true hs.2; omega)⟩
  ·rw [if_neg k1]
theorem at_mono (hM:Wn M) (hN:TQ N) (h:Le M N) {l:List Int} (hl:l.length=4) (hv:∀ i,-1<=gAt l i/\gAt l i<=1) (h1:1<=nz l) (h2:nz l<=2) {n:Int} (hn:n<=1000) (he:atE false M l n=false):atE false N l n=false/\Le (atM false M l n) (atM false N l n):=by
 have hC:=at_tc hM.tq hl hv h1 h2 hn he
 obtain ⟨f,hf,hnf,hgr,hs1,hs2⟩:=grP_form hM.tc hl hv h1 h2
 obtain ⟨f',hf',hnf',hgr',hs1',hs2'⟩:=grP_form hN.tc hl hv h1 h2
 have hff:f'=f:=by omega
 subst hff
 have gm:=gr_mono h hN.tc.hi l
 have hnb:n ≠ NB:=by unfold NB; omega
 have eM:lm M (sd1 l) (sd2 l) n=sb M f' n:=by rw [hs1,hs2]; rfl
 have eN:lm N (sd1 l) (sd2 l) n=sb N f' n:=by rw [hs1,hs2]; rfl
 obtain ⟨n1,n2,n3,n4,n5,n6⟩:=nf_fs f' hf
 have a1:=fs_lt f' hf
 have a2:=ss_lt f' hf
 by_cases qN:atS false N l n=true
 ·have qM:atS false M l n=true:=by
   unfold atS at *
   have:=of_decide_eq_true qN
   exact decide_eq_true (this.imp id (fun z=>by omega))
  unfold atE atM
  rw [if_pos qN,if_pos qN,if_pos qM]
  exact ⟨rfl,h⟩
 ·have up:Le (atM false M l n) (sb N f' n):=by
   intro a ha
   have e:a=a / 8*8+a % 8:=by omega
   have hi:a / 8 < 8:=by omega
   have hj:a % 8 < 8:=by omega
   by_cases qM:atS false M l n=true
   ·have c0:bd M f'<=n:=by
     unfold atS at qM
     have:=of_decide_eq_true qM
     rcases this with z | z
     ·cases z
     ·rw [hgr] at z; exact z
    have eA:atM false M l n=M:=by unfold atM; rw [if_pos qM]
    rw [eA,e]
    generalize a / 8=i at hi
    generalize a % 8=j at hj
    rw [sb_at N hf hnb hi hj]
    have hMN:=h (i*8+j) (by omega)
    split
    ·rename_i z
     have val:M (fs f'*8+ss f')<=if f' < 8 then 2*n else n:=by
      by_cases f8:f' < 8
      ·obtain ⟨q1,q2⟩:=fs_lo f' f8
       have hb:bd M f'=mo M f' f':=by unfold bd mo; rw [q1,q2]
       have hd:=gr_diag hM f8
       rw [if_pos f8,q1,q2]
       rw [hb] at c0
       omega
      ·rw [if_neg f8]
       have hb:bd M f'=M (fs f'*8+ss f'):=by
        unfold bd
        rw [if_neg (fun z=>fs_hi f' hf (by omega) z.1)]
       omega
     rcases z with ⟨z1,z2⟩ | ⟨z1,z2⟩
     ·rw [z1,z2]; exact val
     ·rw [z1,z2,hM.tc.sym _ _ a2 a1]; exact val
    ·exact hMN
   ·have eA:atM false M l n=sharp (sb M f' n):=by unfold atM; rw [if_neg qM,eM]
    rw [eA]
    refine Int.le_trans (sharp_le _ a) ?_
    rw [e]
    generalize a / 8=i at hi
    generalize a % 8=j at hj
    rw [sb_at M hf hnb hi hj,sb_at N hf hnb hi hj]
    split
    ·exact Int.le_refl _
    ·exact h _ (by omega)
  have up2:=hC.below_sharp up (sb_le hN.tc hf hn)
  have eB:atM false N l n=sharp (sb N f' n):=by unfold atM; rw [if_neg qN,eN]
  rw [eB]
  refine ⟨?_,up2⟩
  unfold atE
  rw [if_neg qN,eN]
  exact conF_no (fun i hi=>by
   have z:=up2 (i*8+opp i) (by have:=opp_lt hi; omega)
   rw [hC.zero i hi] at z
   exact z)
theorem pl_mono {a b c:Int} (h:a<=b) (hb:b<=NB) (hc:-2000<=c/\c<=2000) (ha:a<=1998):pl a c<=pl b c:=by
 unfold pl NB at *
 split <;> split <;> omega
theorem po_mono (hM:Wn M) (hN:TQ N) (h:Le M N) {x:Ds} (hx:DQ x) (way:Int) (he:poE false M x way=false):poE false N x way=false/\Le (poM false M x way) (poM false N x way):=by
 have n:=hx.g.num
 have ht:=hx.tg
 have hhi:=hN.tc.hi
 have pE:∀ A,poE false A x way=(if x.kind=0 then false else if x.any=true then false else if way=0 then atE false A x.sg x.num else atE false A (ngL x.sg) (-x.num - 1)):=fun A=>rfl
 have pM:∀ A,poM false A x way=(if x.kind=0 then asM A x else if x.any=true then A else if way=0 then atM false A x.sg x.num else atM false A (ngL x.sg) (-x.num - 1)):=fun A=>rfl
 rw [pE] at he
 rw [pE,pM,pM]
 by_cases k0:x.kind=0
 ·simp only [if_pos k0]
  refine ⟨trivial,?_⟩
  unfold asM
  have bt:∀ {lo hi:Int},-999<=lo/\lo<=999->-999<=hi/\hi<=999->Le (sbT M x.target.toNat lo hi) (sbT N x.target.toNat lo hi):=fun {lo hi} h1 h2 a ha=>by
   have e:a=a / 8*8+a % 8:=by omega
   have hi':a / 8 < 8:=by omega
   have hj:a % 8 < 8:=by omega
   rw [e]
   generalize a / 8=i at hi'
   generalize a % 8=j at hj
   rw [sbT_at M (by omega) h1 h2 hi' hj,sbT_at N (by omega) h1 h2 hi' hj]
   have hMN:=h (i*8+j) (by omega)
   have mm:∀ {j:Nat},j < 8->mo M j j<=mo N j j/\mo N j j<=NB/\mo M j j<=1998:=fun {j} hj=>by
    have b:=hM.box j hj
    have d:=gr_diag hM hj
    have hn:=hhi (j*8+j) (by omega)
    refine ⟨mo_mono h hhi hj hj,?_,by omega⟩
    by_cases q:N (j*8+j)=NB
    ·rw [(mo_tc hN.tc hj).1 q]; exact Int.le_refl _
    ·have:=((mo_tc hN.tc hj).2 q).1
     unfold NB at *
     omega
   have uu:∀ {i:Nat},isT x.target.toNat i->uF M x.target.toNat lo hi i=uF N x.target.toNat lo hi i/\-2000<=uF N x.target.toNat lo hi i/\uF N x.target.toNat lo hi i<=2000:=fun {i} q=>by
    unfold uF
    rcases q with q | q
    ·rw [if_pos q,if_pos q]; exact ⟨rfl,by omega,by omega⟩
    ·rw [if_neg (by omega),if_pos q,if_neg (by omega),if_pos q]; exact ⟨rfl,by omega,by omega⟩
   have plc':∀ a b:Int,pl a b=pl b a:=fun a b=>by
    unfold pl
    by_cases q:a=NB \/ b=NB
    ·rw [if_pos q,if_pos q.symm]
    ·rw [if_neg q,if_neg (fun z=>q z.symm),Int.add_comm]
   unfold sbG
   by_cases ti:isT x.target.toNat i
   ·rw [if_pos ti,if_pos ti]
    by_cases tj:isT x.target.toNat j
    ·rw [if_pos tj,if_pos tj]
     split
     ·exact Int.le_refl _
     ·exact hMN
    ·rw [if_neg tj,if_neg tj,(uu ti).1,plc',plc' (uF N _ _ _ _)]
     exact pl_mono (mm hj).1 (mm hj).2.1 (uu ti).2 (mm hj).2.2
   ·rw [if_neg ti,if_neg ti]
    by_cases tj:isT x.target.toNat j
    ·rw [if_pos tj,if_pos tj,(uu tj).1,plc',plc' (uF N _ _ _ _)]
     exact pl_mono (mm hi').1 (mm hi').2.1 (uu tj).2 (mm hi').2.2
    ·rw [if_neg tj,if_neg tj]
     exact hMN
  by_cases a:x.any=true
  ·rw [if_pos a,if_pos a]
   exact bt ⟨by omega,by omega⟩ ⟨by omega,by omega⟩
  ·rw [if_neg a,if_neg a]
   by_cases q:sd1 x.sg=opp (sd2 x.sg)
   ·rw [if_pos q,if_pos q]
    exact bt ⟨by omega,by omega⟩ ⟨by omega,by omega⟩
   ·rw [if_neg q,if_neg q]
    intro a ha
    have e:a=a / 8*8+a % 8:=by omega
    have hi':a / 8 < 8:=by omega
    have hj:a % 8 < 8:=by omega
    rw [e]
    generalize a / 8=i at hi'
    generalize a % 8=j at hj
    have hf:=(sdS_lt x.sg 4 (Nat.le_refl _)).1
    rw [ss_at M _ _ _ hi' hj,ss_at N _ _ _ hi' hj]
    have o1:orgF x.target.toNat (sd1 x.sg) i < 8:=org_lt hf hi'
    have o2:orgF x.target.toNat (sd1 x.sg) j < 8:=org_lt hf hj
    have r1:=add_rng (t:=x.target.toNat) (n:=x.num) ⟨by omega,by omega⟩ i
    have r2:=add_rng (t:=x.target.toNat) (n:=x.num) ⟨by omega,by omega⟩ j
    exact pl_mono (h _ (by omega)) (hhi _ (by omega)) ⟨by omega,by omega⟩ (hM.all (by omega)).2.2
 ·simp only [if_neg k0] at he |-
  by_cases ha:x.any=true
  ·simp only [if_pos ha]
   exact ⟨trivial,h⟩
  ·simp only [if_neg ha] at he |-
   have hz1:1<=nz x.sg:=(hx.fc k0).resolve_left ha
   by_cases w0:way=0
   ·simp only [if_pos w0] at he |-
    exact at_mono hM hN h hx.len hx.g.sg hz1 hx.nz2 (by omega) he
   ·simp only [if_neg w0] at he |-
    exact at_mono hM hN h (ngL_len _) (ngL_rng hx.g.sg) (by rw [nz_ngL hx.len]; exact hz1) (by rw [nz_ngL hx.len]; exact hx.nz2) (by omega) he
end Go.Proofs.YtffajooegiempaaGreatDoor

namespace Go.Proofs.YtffajooegiempaaGreatDoor
variable {F:List Ds} {L:List (Option (List Int))}
abbrev at_ (s:SS) (i:Nat):Pl:=s.1.getD i p0
def AbS (L:List (Option (List Int))) (s:SS):Prop:=∀ i,wiB (at_ s i).e (cE (L.getD i none)) (at_ s i).M (cM (L.getD i none))=true
theorem ab_set {s:SS} (h:AbS L s) (k:Nat) {p:Pl} (hp:wiB p.e (cE (L.getD k none)) p.M (cM (L.getD k none))=true) (b:Bool):AbS L (s.1.set k p,b):=by
 intro i
 show wiB ((s.1.set k p).getD i p0).e _ ((s.1.set k p).getD i p0).M _=true
 rcases Nat.lt_or_ge k s.1.length with q | q
 ·rw [plset_at q]
  by_cases e:i=k
  ·rw [if_pos e,e]; exact hp
  ·rw [if_neg e]; exact h i
 ·rw [List.set_eq_of_length_le q]; exact h i
theorem clm_ab {s:SS} (h:AbS L s) (pt:Int) {e:Bool} {M:Nat->Int} (hM:wiB e (cE (atL L pt)) M (cM (atL L pt))=true):AbS L (clmS s pt e M):=by
 unfold clmS
 split
 ·exact h
 ·rename_i hp
  split
  ·exact h
  ·rename_i q
   have hpt:atL L pt=L.getD pt.toNat none:=by unfold atL; rw [if_neg (by omega)]
   rw [hpt] at hM
   have he:e=false:=by
    cases e with
    | false=>rfl
    | true=>exact absurd rfl q
   subst he
   refine ab_set h _ ?_ true
   obtain ⟨_,m2,m3⟩:=(wi_iff.1 hM).resolve_left (by decide)
   have hk:=h pt.toNat
   show wiB (joE (at_ s pt.toNat).e false) _ (joM (at_ s pt.toNat).e false (at_ s pt.toNat).M M) _=true
   cases hh:(at_ s pt.toNat).e with
   | true=>exact hM
   | false =>
    rw [hh] at hk
    obtain ⟨_,k2,k3⟩:=(wi_iff.1 hk).resolve_left (by decide)
    refine wi_iff.2 (.inr ⟨rfl,k2,fun a ha=>?_⟩)
    show jF (at_ s pt.toNat).M M 64 a<=_
    rcases (jF_mx (at_ s pt.toNat).M M ha).1 with z | z <;> rw [z]
    ·exact k3 a ha
    ·exact m3 a ha
theorem ab_says (hC:CertOk F L) (hD:∀ k,k < F.length->DQ (F.getD k (newDs 0 0))) {p:Pl} (hp:PlOk p) {k:Nat} (hk:k < F.length) (h:wiB p.e (cE (L.getD k none)) p.M (cM (L.getD k none))=true) :
  sfP p.e p.M (F.getD k (newDs 0 0))=true/\∀ way:Nat,(way:Int) < waysP (F.getD k (newDs 0 0)).kind->wiB (poE p.e p.M (F.getD k (newDs 0 0)) way) (cE (atL L (nextP F k way).1)) (poM p.e p.M (F.getD k (newDs 0 0)) way) (cM (atL L (nextP F k way).1))=true:=by
 have hx:=hD k hk
 have hs:=hC.says hk
 have hat:atL L (k:Int)=L.getD k none:=by unfold atL; rw [if_neg (by omega),Int.toNat_natCast]
 rcases hp with ⟨h1,h2⟩ | ⟨h1,h2⟩
 ·rw [h1] at h |-
  obtain ⟨_,k2,k3⟩:=(wi_iff.1 h).resolve_left (by decide)
  have hT:TQ (cM (L.getD k none)):=c_tq (getD_ok hC.ok k) k2
  rw [hat,k2] at hs
  refine ⟨sf_mono k3 hT.tc.hi hx hs.1,fun way hw=>?_⟩
  cases hpe:poE false p.M (F.getD k (newDs 0 0)) way with
  | true=>exact wi_iff.2 (.inl rfl)
  | false =>
   obtain ⟨a,b⟩:=po_mono h2 hT k3 hx way hpe
   have hy:=hs.2 way hw
   unfold wayP at hy
   rw [hat,k2,a] at hy
   obtain ⟨_,c,d⟩:=(wi_iff.1 hy).resolve_left (by decide)
   exact wi_iff.2 (.inr ⟨rfl,c,b.trans d⟩)
 ·rw [h1]
  exact ⟨rfl,fun way _=>wi_iff.2 (.inl rfl)⟩
theorem wys_ab (hC:CertOk F L) (hD:∀ k,k < F.length->DQ (F.getD k (newDs 0 0))) {s:SS} (h:AbS L s) {p:Pl} (hp:PlOk p) {k:Nat} (hk:k < F.length) (hw:wiB p.e (cE (L.getD k none)) p.M (cM (L.getD k none))=true):∀ n:Nat,(n:Int)<=waysP (F.getD k (newDs 0 0)).kind->AbS L (wysS F k p.e p.M s n)
 | 0,_=>h
 | n+1,hn=>clm_ab (wys_ab hC hD h hp hk hw n (by omega)) _ ((ab_says hC hD hp hk hw).2 n (by omega))
theorem flw_ab (hC:CertOk F L) (hD:∀ k,k < F.length->DQ (F.getD k (newDs 0 0))) {s:SS} (h:AbS L s) {p:Pl} (hp:PlOk p) {k:Nat} (hw:wiB p.e (cE (L.getD k none)) p.M (cM (L.getD k none))=true):AbS L (flwS F k p.e p.M s):=by
 unfold flwS
 split
 ·rename_i q
  split
  ·have:=ways_rng (F.getD k (newDs 0 0)).kind
   exact wys_ab hC hD h hp q hw _ (by omega)
  ·exact h
 ·exact h
theorem pnt_ab (hC:CertOk F L) (hD:∀ k,k < F.length->DQ (F.getD k (newDs 0 0))) {s:SS} (h:AbS L s) (hg:GoodS s) (k:Nat):AbS L (pntS F k s):=by
 unfold pntS
 split
 ·exact flw_ab hC hD (ab_set h k (p:=⟨(at_ s k).e,(at_ s k).M,false⟩) (h k) _) (hg k) (h k)
 ·exact h
theorem rnd_ab (hC:CertOk F L) (hD:∀ k,k < F.length->DQ (F.getD k (newDs 0 0))) {s:SS} (h:AbS L s) (hg:GoodS s):∀ n,AbS L (rndS F s n)
 | 0=>h
 | n+1=>pnt_ab hC hD (rnd_ab hC hD h hg n) (rnd_good hg hD n) n
theorem beg_ab (hC:CertOk F L) (n:Nat):AbS L (begS n):=by
 refine clm_ab (fun i=>?_) 0 hC.st
 have:at_ (List.replicate (n+1) p0,false) i=p0:=by
  show (List.replicate (n+1) p0).getD i p0=p0
  rw [List.getD_eq_getElem?_getD,List.getElem?_replicate]
  split <;> rfl
 rw [this]
 exact wi_iff.2 (.inl rfl)
def GrS (s s':SS):Prop:=s'.1.length=s.1.length/\∀ i,at_ s' i=at_ s i \/ ((at_ s' i).wt=true/\wiB (at_ s i).e (at_ s' i).e (at_ s i).M (at_ s' i).M=true)
theorem GrS.in_ {s s':SS} (h:GrS s s') (i:Nat):wiB (at_ s i).e (at_ s' i).e (at_ s i).M (at_ s' i).M=true:=by
 rcases h.2 i with q | q
 ·rw [q]; exact wi_refl _ _
 ·exact q.2
theorem GrS.refl (s:SS):GrS s s:=⟨rfl,fun _=>.inl rfl⟩
theorem GrS.trans {s t u:SS} (h:GrS s t) (k:GrS t u):GrS s u:=by
 refine ⟨k.1.trans h.1,fun i=>?_⟩
 rcases k.2 i with q | q
 ·rcases h.2 i with r | r
  ·exact .inl (q.trans r)
  ·exact .inr (by rw [q]; exact r)
 ·exact .inr ⟨q.1,wi_trans (h.in_ i) q.2⟩
theorem clm_gr (s:SS) (pt:Int) (e:Bool) (M:Nat->Int):GrS s (clmS s pt e M):=by
 refine ⟨clmS_len s pt e M,fun i=>?_⟩
 unfold clmS
 split
 ·exact .inl rfl
 ·rename_i hp
  split
  ·exact .inl rfl
  ·rename_i q
   have hk:pt.toNat < s.1.length:=by omega
   show (s.1.set pt.toNat _).getD i p0=_ \/ ((s.1.set pt.toNat _).getD i p0).wt=true/\wiB _ ((s.1.set pt.toNat _).getD i p0).e _ ((s.1.set pt.toNat _).getD i p0).M=true
   rw [plset_at hk]
   by_cases c:i=pt.toNat
   ·rw [if_pos c,c]
    refine .inr ⟨rfl,?_⟩
    have he:e=false:=by
     cases e with
     | false=>rfl
     | true=>exact absurd rfl q
    subst he
    show wiB (at_ s pt.toNat).e (joE (at_ s pt.toNat).e false) (at_ s pt.toNat).M (joM (at_ s pt.toNat).e false (at_ s pt.toNat).M M)=true
    cases hh:(at_ s pt.toNat).e with
    | true=>exact wi_iff.2 (.inl rfl)
    | false=>exact wi_iff.2 (.inr ⟨rfl,rfl,fun a ha=>(jF_mx (at_ s pt.toNat).M M ha).2.1⟩)
   ·rw [if_neg c]; exact .inl rfl
theorem clm_in {s:SS} {pt:Int} (h0:0<=pt) (h1:pt < s.1.length) (e:Bool) (M:Nat->Int):wiB e (at_ (clmS s pt e M) pt.toNat).e M (at_ (clmS s pt e M) pt.toNat).M=true:=by
 unfold clmS
 rw [if_neg (by omega)]
 split
 ·rename_i q; exact q
 ·rename_i q
  have hk:pt.toNat < s.1.length:=by omega
  show wiB e ((s.1.set pt.toNat _).getD pt.toNat p0).e M ((s.1.set pt.toNat _).getD pt.toNat p0).M=true
  rw [plset_at hk,if_pos rfl]
  have he:e=false:=by
   cases e with
   | false=>rfl
   | true=>exact absurd rfl q
  subst he
  show wiB false (joE (at_ s pt.toNat).e false) M (joM (at_ s pt.toNat).e false (at_ s pt.toNat).M M)=true
  cases hh:(at_ s pt.toNat).e with
  | true=>exact wi_refl _ _
  | false=>exact wi_iff.2 (.inr ⟨rfl,rfl,fun a ha=>(jF_mx (at_ s pt.toNat).M M ha).2.2⟩)
theorem wys_gr (F:List Ds) (k:Nat) (e:Bool) (M:Nat->Int) (s:SS):∀ n,GrS s (wysS F k e M s n)
 | 0=>GrS.refl s
 | n+1=>(wys_gr F k e M s n).trans (clm_gr _ _ _ _)
def ClW (F:List Ds) (s:SS) (k:Nat) (p:Pl) (n:Nat):Prop:=∀ way:Nat,way < n->wiB (poE p.e p.M (F.getD k (newDs 0 0)) way) (at_ s (nextP F k way).1.toNat).e (poM p.e p.M (F.getD k (newDs 0 0)) way) (at_ s (nextP F k way).1.toNat).M=true
theorem ClW.gr {s s':SS} {k n:Nat} {p:Pl} (h:ClW F s k p n) (hg:GrS s s'):ClW F s' k p n:=fun way hw=>wi_trans (h way hw) (hg.in_ _)
theorem wys_cl {s:SS} (hl:s.1.length=F.length+1) {k:Nat} (hk:k < F.length) (p:Pl):∀ n:Nat,(n:Int)<=waysP (F.getD k (newDs 0 0)).kind->ClW F (wysS F k p.e p.M s n) k p n
 | 0,_=>fun way hw=>absurd hw (by omega)
 | n+1,hn=>by
  intro way hw
  have ih:=wys_cl hl hk p n (by omega)
  rcases Nat.lt_or_eq_of_le (Nat.lt_succ_iff.1 hw) with q | q
  ·exact wi_trans (ih way q) ((clm_gr _ _ _ _).in_ _)
  ·subst q
   have hi:=nextP_in (F:=F) k way (next_z F k hk way (by omega))
   exact clm_in hi.1 (by rw [wysS_len,hl]; omega) _ _
def WyS (F:List Ds) (s:SS):Prop:=∀ k,k < F.length->(at_ s k).wt=false->ClW F s k (at_ s k) (waysP (F.getD k (newDs 0 0)).kind).toNat
theorem WyS.gr {s s':SS} (h:WyS F s) (hg:GrS s s'):WyS F s':=by
 intro k hk hw
 rcases hg.2 k with q | q
 ·rw [q] at hw |-
  exact (h k hk hw).gr hg
 ·rw [q.1] at hw; cases hw
theorem pnt_wy (hC:CertOk F L) (hD:∀ k,k < F.length->DQ (F.getD k (newDs 0 0))) {s:SS} (hl:s.1.length=F.length+1) (h:WyS F s) (ha:AbS L s) (hg:GoodS s) {k:Nat} (hkl:k < s.1.length):WyS F (pntS F k s):=by
 unfold pntS
 split
 ·rename_i hwt
  have e1:∀ i,at_ (s.1.set k ⟨(at_ s k).e,(at_ s k).M,false⟩,s.2) i=if i=k then ⟨(at_ s k).e,(at_ s k).M,false⟩ else at_ s i:=fun i=>plset_at hkl i _
  have em:∀ i,(at_ (s.1.set k ⟨(at_ s k).e,(at_ s k).M,false⟩,s.2) i).e=(at_ s i).e/\(at_ (s.1.set k ⟨(at_ s k).e,(at_ s k).M,false⟩,s.2) i).M=(at_ s i).M:=fun i=>by
   rw [e1]
   by_cases c:i=k
   ·rw [if_pos c,c]; exact ⟨rfl,rfl⟩
   ·rw [if_neg c]; exact ⟨rfl,rfl⟩
  have others:∀ j,j ≠ k->j < F.length->(at_ (s.1.set k ⟨(at_ s k).e,(at_ s k).M,false⟩,s.2) j).wt=false->ClW F (s.1.set k ⟨(at_ s k).e,(at_ s k).M,false⟩,s.2) j (at_ (s.1.set k ⟨(at_ s k).e,(at_ s k).M,false⟩,s.2) j) (waysP (F.getD j (newDs 0 0)).kind).toNat:=by
   intro j hj hjl hw
   rw [e1,if_neg hj] at hw |-
   intro way hway
   have:=h j hjl hw way hway
   rw [(em _).1,(em _).2]
   exact this
  by_cases hk:k < F.length
  ·have hs:=(ab_says hC hD (hg k) hk (ha k)).1
   have wr:=ways_rng (F.getD k (newDs 0 0)).kind
   have ef:flwS F k (at_ s k).e (at_ s k).M (s.1.set k ⟨(at_ s k).e,(at_ s k).M,false⟩,s.2)=wysS F k (at_ s k).e (at_ s k).M (s.1.set k ⟨(at_ s k).e,(at_ s k).M,false⟩,s.2) (waysP (F.getD k (newDs 0 0)).kind).toNat:=by
    unfold flwS
    rw [if_pos hk,if_pos hs]
   show WyS F (flwS F k (at_ s k).e (at_ s k).M (s.1.set k ⟨(at_ s k).e,(at_ s k).M,false⟩,s.2))
   rw [ef]
   have gr:=wys_gr F k (at_ s k).e (at_ s k).M (s.1.set k ⟨(at_ s k).e,(at_ s k).M,false⟩,s.2) (waysP (F.getD k (newDs 0 0)).kind).toNat
   intro j hjl hw
   rcases gr.2 j with q | q
   ·by_cases c:j=k
    ·subst c
     rw [q,e1,if_pos rfl]
     exact wys_cl (s:=(s.1.set j ⟨(at_ s j).e,(at_ s j).M,false⟩,s.2)) (by simpa using hl) hk ⟨(at_ s j).e,(at_ s j).M,false⟩ _ (by omega)
    ·rw [q] at hw |-
     exact (others j c hjl hw).gr gr
   ·rw [q.1] at hw; cases hw
  ·have ef:flwS F k (at_ s k).e (at_ s k).M (s.1.set k ⟨(at_ s k).e,(at_ s k).M,false⟩,s.2)=(s.1.set k ⟨(at_ s k).e,(at_ s k).M,false⟩,s.2):=by
    unfold flwS
    rw [if_neg hk]
   show WyS F (flwS F k (at_ s k).e (at_ s k).M (s.1.set k ⟨(at_ s k).e,(at_ s k).M,false⟩,s.2))
   rw [ef]
   intro j hjl hw
   exact others j (by omega) hjl hw
 ·exact h
theorem rnd_wy (hC:CertOk F L) (hD:∀ k,k < F.length->DQ (F.getD k (newDs 0 0))) {s:SS} (hl:s.1.length=F.length+1) (h:WyS F s) (ha:AbS L s) (hg:GoodS s):∀ n,n<=s.1.length->WyS F (rndS F s n)
 | 0,_=>h
 | n+1,hn=>pnt_wy hC hD (by rw [rndS_len]; exact hl) (rnd_wy hC hD hl h ha hg n (by omega)) (rnd_ab hC hD ha hg n) (rnd_good hg hD n) (by rw [rndS_len]; omega)
theorem clm_no {s:SS} {pt:Int} {e:Bool} {M:Nat->Int} (h:(clmS s pt e M).2=false):clmS s pt e M=s:=by
 unfold clmS at *
 split at h
 ·rename_i q; rw [if_pos q]
 ·rename_i q
  rw [if_neg q]
  split at h
  ·rename_i r; rw [if_pos r]
  ·cases h
theorem wys_no {k:Nat} {e:Bool} {M:Nat->Int} {s:SS}:∀ n,(wysS F k e M s n).2=false->wysS F k e M s n=s
 | 0,_=>rfl
 | n+1,h=>by
  have h1:=clm_no h
  have h2:(wysS F k e M s n).2=false:=by rw [<- h1]; exact h
  exact h1.trans (wys_no n h2)
theorem flw_no {k:Nat} {e:Bool} {M:Nat->Int} {s:SS} (h:(flwS F k e M s).2=false):flwS F k e M s=s:=by
 unfold flwS at *
 split
 ·rename_i q
  rw [if_pos q] at h
  split
  ·rename_i r
   rw [if_pos r] at h
   exact wys_no _ h
  ·rfl
 ·rfl
theorem pnt_no {k:Nat} {s:SS} (hk:k < s.1.length) (h:(pntS F k s).2=false):s.2=false/\(at_ (pntS F k s) k).wt=false/\∀ i,i ≠ k->at_ (pntS F k s) i=at_ s i:=by
 unfold pntS at *
 split
 ·rename_i q
  rw [if_pos q] at h
  have e:=flw_no h
  rw [e] at h |-
  refine ⟨h,?_,fun i hi=>?_⟩
  ·show ((s.1.set k _).getD k p0).wt=false
   rw [plset_at hk,if_pos rfl]
  ·show (s.1.set k _).getD i p0=_
   rw [plset_at hk,if_neg hi]
 ·rename_i q
  rw [if_neg q] at h
  exact ⟨h,by simpa using q,fun _ _=>rfl⟩
theorem rnd_no {s:SS}:∀ n,n<=s.1.length->(rndS F s n).2=false->∀ i,i < n->(at_ (rndS F s n) i).wt=false
 | 0,_,_=>fun i hi=>absurd hi (by omega)
 | n+1,hn,h=>by
  intro i hi
  have h1:=pnt_no (F:=F) (k:=n) (s:=rndS F s n) (by rw [rndS_len]; omega) h
  rcases Nat.lt_or_eq_of_le (Nat.lt_succ_iff.1 hi) with q | q
  ·have:=rnd_no n (by omega) h1.1 i q
   rw [show rndS F s (n+1)=pntS F n (rndS F s n) from rfl,h1.2.2 i (by omega)]
   exact this
  ·rw [q]; exact h1.2.1
end Go.Proofs.YtffajooegiempaaGreatDoor

