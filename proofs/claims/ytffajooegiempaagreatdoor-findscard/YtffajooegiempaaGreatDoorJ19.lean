import Derived.Test.YtffajooegiempaaGreatDoorJ18
set_option maxRecDepth 100000
set_option maxHeartbeats 6400000
namespace Go.Proofs.YtffajooegiempaaGreatDoor
open Go.RowKit
variable {B:Nat} {w w':World} {r:Nat} {m:Rd} {vs vo:Value} {P Q O:Nat->Nat}
theorem Rep.value (h:Rep B w r m vs vo P Q O) (ok:Ok m) (c:Int) (h0:0<=c) (h1:c<=255) (hx:m.state=118 \/ m.state=86 \/ m.state=120 \/ m.state=121 \/ m.state=110) :
  Calls Tryz.prog 93 #[.pointer (some ⟨r,0,none⟩),.int .u8 c] w (Post B w r (valueStep m c)):=by
 have hn:=ok.some_ (by omega)
 rcases hx with hx | hx | hx | hx | hx
 ·exact h.valueV ok hn c h0 h1 hx
 ·exact h.valueVV ok hn c h0 h1 hx
 ·exact h.valueX ok hn c h0 h1 hx
 ·exact h.valueY ok hn c h0 h1 hx
 ·exact h.valueN ok hn c h0 h1 hx
theorem Rep.cond (h:Rep B w r m vs vo P Q O) (ok:Ok m) (hB:B<=w.heap.size) (c:Int) (h0:0<=c) (h1:c<=255)
  (hx:m.state=99 \/ m.state=67 \/ m.state=100 \/ m.state=101 \/ m.state=102 \/ m.state=60 \/ m.state=98 \/ m.state=66 \/ m.state=109 \/ m.state=125) :
  Calls Tryz.prog 94 #[.pointer (some ⟨r,0,none⟩),.int .u8 c] w (Post B w r (condStep m c)):=by
 have hn:=ok.some_ (by omega)
 rcases hx with hx | hx | hx | hx | hx | hx | hx | hx | hx | hx
 ·exact h.condC ok hn hB c h0 h1 hx
 ·exact h.condCC ok hn hB c h0 h1 hx
 ·exact h.condD ok hn hB c h0 h1 hx
 ·exact h.condE ok hn hB c h0 h1 hx
 ·exact h.condF ok hn hB c h0 h1 hx
 ·exact h.condL ok hn hB c h0 h1 hx
 ·exact h.condB ok hn hB c h0 h1 hx
 ·exact h.condBB ok hn hB c h0 h1 hx
 ·exact h.condM ok hn hB c h0 h1 hx
 ·exact h.condZ ok hn hB c h0 h1 hx
theorem Rep.byte (h:Rep B w r m vs vo P Q O) (ok:Ok m) (hB:B<=w.heap.size) (c:Int) (h0:0<=c) (h1:c<=255) :
  Calls Tryz.prog 58 #[.pointer (some ⟨r,0,none⟩),.int .u8 c] w (Post B w r (byteStep m c)):=by
 obtain ⟨r0,r1,r2,r3,r4,r5,rf⟩:=h.rdc
 have geR:=h.geR
 rcases ok.states with hx | hx | hx | hx | hx
 ·have HY:Hid (byteStep m c=startStep m c):=by show byteStep m c=_; unfold byteStep; rw [if_pos hx]
  have hc:=h.start ok hB c h0 h1
  rw [hx] at r0
  clear hx h ok
  go_enter Tryz.func58,Tryz.ntmps58
  go_wp2_with (go_at_call 92; refine hc.mono ?_; rintro e w' ⟨rfl,hb,hr⟩)
  go_ret
  exact post_via HY.out (Below.refl _ _) hb hr
 ·rw [hx] at r0
  by_cases hc:c=61
  ·subst hc
   have HY:Hid (byteStep m 61=some { m with state:=118 }):=by show byteStep m 61=_; unfold byteStep; rw [hx,if_neg (by decide),if_pos rfl,if_pos rfl]
   have HR:Hid (Rep _ _ _ _ _ _ _ _ _):=h
   clear h ok hx
   go_enter Tryz.func58,Tryz.ntmps58
   go_wp2_with fail
   go_ret
   exact post_yes HY.out (Below.setCell (Below.refl _ _) geR _) (HR.out.setRd 0 (.int .u8 118) _ rfl rfl rfl)
  ·have HY:Hid (byteStep m c=none):=by show byteStep m c=_; unfold byteStep; rw [hx,if_neg (by decide),if_pos rfl,if_neg hc]
   have bc:(c == 61)=false:=by simpa using hc
   clear h ok hx hc
   go_enter Tryz.func58,Tryz.ntmps58
   go_wp2_with fail
   go_ret
   exact post_no HY.out (Below.setCell (Below.refl _ _) geR _)
 ·have HY:Hid (byteStep m c=valueStep m c):=byte_value hx c
  have hc:=h.value ok c h0 h1 hx
  have HR:Hid (Rep _ _ _ _ _ _ _ _ _):=h
  clear h ok
  rcases hx with hx | hx | hx | hx | hx
  all_goals
   rw [hx] at r0
   clear hx
   go_enter Tryz.func58,Tryz.ntmps58
   go_wp2_with (go_at_call 93; refine hc.mono ?_; rintro e w' ⟨rfl,hb,hr⟩)
   go_ret
   exact post_via HY.out (Below.refl _ _) hb hr
 ·rw [byte_plain hx]
  exact h.bytePlain ok.len ok.oplen (ok.some_ (by omega)) hB c h0 h1 hx
 ·have HY:Hid (byteStep m c=condStep m c):=byte_cond hx c
  have hc:=h.cond ok hB c h0 h1 hx
  have HR:Hid (Rep _ _ _ _ _ _ _ _ _):=h
  clear h ok
  rcases hx with hx | hx | hx | hx | hx | hx | hx | hx | hx | hx
  all_goals
   rw [hx] at r0
   clear hx
   go_enter Tryz.func58,Tryz.ntmps58
   go_wp2_with (go_at_call 94; refine hc.mono ?_; rintro e w' ⟨rfl,hb,hr⟩)
   go_ret
   exact post_via HY.out (Below.refl _ _) hb hr
end Go.Proofs.YtffajooegiempaaGreatDoor

namespace Go.Proofs.YtffajooegiempaaGreatDoor
open Go.RowKit
theorem rep_init (w:World):Rep w.heap.size (w.alloc (.cells (rdCells init (.slice none 0 0) (.slice none 0 0)) tR)) w.heap.size init (.slice none 0 0) (.slice none 0 0) id id id where
 rd:=by
  show (w.heap.push _)[w.heap.size]?=_
  rw [Array.getElem?_push,if_pos rfl]
 rs:=World.ownsRow_nil _ _ _ _
 ro:=World.ownsRow_nil _ _ _ _
 st:=by intro i s h; simp [init] at h
 op:=by intro i s h; simp [init] at h
 injP:=by intro i j h; exact absurd h (by simp [init])
 injQ:=by intro i j h; exact absurd h (by simp [init])
 injO:=by intro i j h; exact absurd h (by simp [init])
 geR:=Nat.le_refl _
 geP:=by intro i h; exact absurd h (by simp [init])
 geO:=by intro i h; exact absurd h (by simp [init])
def ReadPost (w:World) (l:List Int):Ending->World->Prop:=fun e w' =>
 Below w.heap.size w w'/\w.heap.size < w'.heap.size /\
  match readFrom init l 0 with
  | (n,none)=>e=.returned (.tuple #[.pointer (some ⟨w.heap.size,0,none⟩),.int .i64 n,.bool false])
  | (n,some m)=>e=.returned (.tuple #[.pointer (some ⟨w.heap.size,0,none⟩),.int .i64 n,.bool (isDone m)])/\Ok m/\∃ vs vo P Q O,Rep w.heap.size w' w.heap.size m vs vo P Q O
theorem readPost_none {w w':World} {l:List Int} {m:Rd} {k:Nat} {c:Int} (hb:Below w.heap.size w w') (hz:w.heap.size < w'.heap.size) (h:feed init (l.take k)=some m) (hc:l[k]?=some c) (hs:byteStep m c=none) :
  ReadPost w l (.returned (.tuple #[.pointer (some ⟨w.heap.size,0,none⟩),.int .i64 k,.bool false])) w':=by
 refine ⟨hb,hz,?_⟩
 rw [readFrom_none (n:=0) h hc hs,Nat.zero_add]
theorem readPost_some {w w':World} {l:List Int} {m:Rd} {vs vo:Value} {P Q O:Nat->Nat} {b:Bool} {n:Nat} (hb:Below w.heap.size w w') (hz:w.heap.size < w'.heap.size) (h:feed init l=some m) (ok:Ok m) (hr:Rep w.heap.size w' w.heap.size m vs vo P Q O) (hd:isDone m=b) (hl:l.length=n) :
  ReadPost w l (.returned (.tuple #[.pointer (some ⟨w.heap.size,0,none⟩),.int .i64 n,.bool b])) w':=by
 refine ⟨hb,hz,?_⟩
 rw [readFrom_some (n:=0) h,Nat.zero_add,hl]
 exact ⟨by rw [hd],ok,_,_,_,_,_,hr⟩
theorem ref_read (s:ByteArray) (w:World) (hs:s.size<=160) :
  Calls Tryz.prog 20 #[.string s] w (ReadPost w (bytesOf s)):=by
 have HI:Hid (Rep _ _ _ _ _ _ _ _ _):=rep_init w
 go_enter Tryz.func20,Tryz.ntmps20
 go_wp2
 go_loopw [6] (fun i wr=>∃ k:Nat,k<=s.size/\i=.int .i64 k/\w.heap.size < wr.heap.size/\Below w.heap.size w wr/\∃ m,feed init ((bytesOf s).take k)=some m/\∃ vs vo P Q O,Rep w.heap.size wr w.heap.size m vs vo P Q O) (fun i _=>s.size - (intOf i).toNat)
 case atStart=>exact ⟨0,Nat.zero_le _,rfl,by simp,(Below.refl _ _).alloc (Nat.le_refl _) _,init,rfl,_,_,_,_,_,HI.out⟩
 case round =>
  obtain ⟨k,hk,rfl,hz,hbel,m,hfeed,vs,vo,P,Q,O,hrep⟩:=hrel
  have ok:=Ok.init.feed hfeed
  have HF:Hid (_=_):=hfeed
  clear hfeed
  by_cases hlt:k < s.size
  ·have hb0:(0:Int)<=((s[k]).toNat:Int):=by omega
   have hb1:((s[k]).toNat:Int)<=255:=by have:=(s[k]).toNat_lt; omega
   have hc:=hrep.byte ok (by omega) ((s[k]).toNat:Int) hb0 hb1
   have HG:Hid (_=_):=bytesOf_get s k hlt
   have HT:Hid (_=_):=bytesOf_take s k hlt
   have OK:Hid (Ok m):=ok
   have HR:Hid (Rep _ _ _ _ _ _ _ _ _):=hrep
   clear ok hrep
   cases hst:byteStep m ((s[k]).toNat:Int) with
   | none =>
    rw [hst] at hc
    have HS:Hid (_=_):=hst
    clear hst
    go_wp2_with (go_at_call 58; refine hc.mono ?_; rintro e w' ⟨rfl,hb,hr⟩)
    go_ret3
    exact readPost_none (hbel.trans hb) (Nat.lt_of_lt_of_le hz hb.size) HF.out HG.out HS.out
   | some m' =>
    rw [hst] at hc
    have HS:Hid (_=_):=hst
    clear hst
    go_wp2_with (go_at_call 58; refine hc.mono ?_; rintro e w' ⟨rfl,hb,hr⟩)
    go_roundw
    case rel=>exact ⟨k+1,by omega,by go_num,Nat.lt_of_lt_of_le hz hb.size,hbel.trans hb,m',by rw [HT.out,feed_snoc,HF.out]; exact HS.out,hr m' rfl⟩
    case measure=>simp [intOf]; omega
  ·have hke:k=s.size:=by omega
   have hall:(bytesOf s).take k=bytesOf s:=List.take_of_length_le (by rw [bytesOf_len]; omega)
   have HF2:Hid (feed init (bytesOf s)=some m):=by show feed init (bytesOf s)=some m; rw [<- hall]; exact HF.out
   obtain ⟨r0,r1,r2,r3,r4,r5,rf⟩:=hrep.rdc
   obtain ⟨ao,cap,hvo⟩:=hrep.olen
   rw [hvo] at r2
   have hol:=ok.oplen
   have OK:Hid (Ok m):=ok
   have HR:Hid (Rep _ _ _ _ _ _ _ _ _):=hrep
   have HL:Hid ((bytesOf s).length=s.size):=bytesOf_len s
   clear ok hrep hall hke hvo
   by_cases h115:m.state=115
   ·rw [h115] at r0
    by_cases h0:m.op.length=0
    ·have HD:Hid (isDone m=true):=by show isDone m=true; simp [isDone,h115,h0]
     rw [h0] at r2
     clear h115 h0
     go_wp2
     go_quiet (fail)
     go_wp2
     go_ret3
     exact readPost_some (below_drewN hbel _) hz HF2.out OK.out (HR.out.drewN _) HD.out HL.out
    ·have HD:Hid (isDone m=false):=by show isDone m=false; simp [isDone,h0]
     have b0:(((m.op.length:Nat):Int) == 0)=false:=by rw [beq_eq_false_iff_ne]; omega
     clear h115 h0
     go_wp2
     go_quiet (fail)
     go_wp2
     go_ret3
     exact readPost_some (below_drewN hbel _) hz HF2.out OK.out (HR.out.drewN _) HD.out HL.out
   ·have HD:Hid (isDone m=false):=by show isDone m=false; simp [isDone,h115]
    have b115:(m.state == 115)=false:=by simpa using h115
    clear h115
    go_wp2
    go_quiet (fail)
    go_wp2
    go_ret3
    exact readPost_some (below_drewN hbel _) hz HF2.out OK.out (HR.out.drewN _) HD.out HL.out
end Go.Proofs.YtffajooegiempaaGreatDoor

namespace Go.Proofs.YtffajooegiempaaGreatDoor
open Go.RowKit
theorem ref_scan (s:ByteArray) (w:World) (hm:s.size<=maxLen) :
  Calls Tryz.prog 6 #[.string s] w fun e w'=>e=three (scanOf (bytesOf s))/\Below w.heap.size w w':=by
 unfold maxLen at hm
 have hl:=bytesOf_len s
 by_cases h:160 < s.size
 ·have HS:Hid (scanOf (bytesOf s)=(0,1,0)):=by show scanOf _=_; unfold scanOf; rw [if_pos (by omega)]
  clear hl
  go_enter Tryz.func6,Tryz.ntmps6
  go_wp2_with fail
  go_ret3
  exact ⟨by rw [HS.out]; rfl,Below.refl _ _⟩
 ·have hr:=ref_read s w (by omega)
  have HS:Hid (scanOf (bytesOf s)=match readFrom init (bytesOf s) 0 with
   | (n,none)=>(0,1,n)
   | (n,some m)=>if isDone m then ((m.st.length:Int)+1,0,0) else (0,1,n)):=by show scanOf _=_; unfold scanOf; rw [if_neg (by omega)]; rfl
  clear hl
  rcases hrf:readFrom init (bytesOf s) 0 with ⟨n,_ | m⟩
  ·rw [hrf] at HS
   have hr':=hr.mono (R':=fun e w'=>e=.returned (.tuple #[.pointer (some ⟨w.heap.size,0,none⟩),.int .i64 n,.bool false])/\Below w.heap.size w w') (by
    rintro e w' ⟨hb,hz,hm⟩
    rw [hrf] at hm
    exact ⟨hm,hb⟩)
   clear hr hrf
   go_enter Tryz.func6,Tryz.ntmps6
   go_wp2_with (go_at_call 20; refine hr'.mono ?_; rintro e w' ⟨rfl,hb⟩)
   go_ret3
   exact ⟨by rw [HS.out]; rfl,hb⟩
  ·rw [hrf] at HS
   have hr':=hr.mono (R':=fun e w'=>e=.returned (.tuple #[.pointer (some ⟨w.heap.size,0,none⟩),.int .i64 n,.bool (isDone m)])/\Below w.heap.size w w'/\m.st.length<=20/\∃ ao cap,w'.cell? ⟨w.heap.size,1,none⟩=some (.slice ao m.st.length cap)) (by
    rintro e w' ⟨hb,hz,hm⟩
    rw [hrf] at hm
    obtain ⟨he,ok,vs,vo,P,Q,O,hrep⟩:=hm
    obtain ⟨ao,cap,hv⟩:=hrep.slen
    exact ⟨he,hb,ok.len,ao,cap,by rw [<- hv]; exact hrep.rdc.2.1⟩)
   clear hr hrf
   cases hd:isDone m
   ·have HS2:Hid (scanOf (bytesOf s)=(0,1,(n:Int))):=HS.out.trans (by simp [hd])
    rw [hd] at hr'
    clear hd HS
    go_enter Tryz.func6,Tryz.ntmps6
    go_wp2_with (go_at_call 20; refine hr'.mono ?_; rintro e w' ⟨rfl,hb,hlen,ao,cap,hcell⟩)
    go_ret3
    exact ⟨by rw [HS2.out]; rfl,hb⟩
   ·have HS2:Hid (scanOf (bytesOf s)=((m.st.length:Int)+1,0,0)):=HS.out.trans (by simp [hd])
    rw [hd] at hr'
    clear hd HS
    go_enter Tryz.func6,Tryz.ntmps6
    go_wp2_with (go_at_call 20; refine hr'.mono ?_; rintro e w' ⟨rfl,hb,hlen,ao,cap,hcell⟩)
    go_ret3
    exact ⟨by rw [HS2.out]; rfl,hb⟩
end Go.Proofs.YtffajooegiempaaGreatDoor

namespace Go.Proofs.YtffajooegiempaaGreatDoor
def lastOpen (S:List St) (i:Nat):Nat->Int
 | 0=>-1
 | k+1=>if i < (S.getD k noSt).fin then (k:Int) else lastOpen S i k
def endOf (u:St) (i:Nat):Nat:=if u.kind=63/\i < u.mid then u.mid else u.fin
def followR (S:List St):Nat->Nat->Int
 | 0,_=>0
 | n+1,i=>if lastOpen S i i < 0 then ((S.getD i noSt).fin:Int)
  else if (S.getD i noSt).fin < endOf (S.getD (lastOpen S i i).toNat noSt) i then ((S.getD i noSt).fin:Int)
  else if (S.getD (lastOpen S i i).toNat noSt).kind=64 then lastOpen S i i
  else followR S n (lastOpen S i i).toNat
def waysR (u:St):Int:=if u.kind=61 \/ u.kind=33 then 1 else 2
def nextR (S:List St) (p:Nat) (way:Int):Int :=
 let u:=S.getD p noSt
 let f:=followR S 21 p
 if u.kind=61 \/ u.kind=33 \/ (u.kind=64/\way=1) then f
 else if u.kind=64/\u.fin=p+1 then p
 else if u.kind=64 then (p:Int)+1
 else if way=0/\p+1 < u.mid then (p:Int)+1
 else if way=1/\u.mid < u.fin then u.mid
 else f
theorem lastOpen_lt (S:List St) (i:Nat):∀ k,-1<=lastOpen S i k/\lastOpen S i k < k:=by
 intro k
 induction k with
 | zero=>unfold lastOpen; omega
 | succ k ih =>
  unfold lastOpen
  split
  ·omega
  ·omega
end Go.Proofs.YtffajooegiempaaGreatDoor

namespace Go.Proofs.YtffajooegiempaaGreatDoor
open Go.RowKit
variable {B:Nat} {w w':World} {r:Nat} {m:Rd} {vs vo:Value} {P Q O:Nat->Nat}
theorem Rep.gets {j:Nat} (hj:j < m.st.length):m.st[j]?=some (m.st.getD j noSt):=by rw [List.getD_eq_getElem?_getD,List.getElem?_eq_getElem hj]; rfl
theorem Rep.slen' (h:Rep B w r m vs vo P Q O):∃ ao cap,vs=.slice ao m.st.length cap:=by
 obtain ⟨_,h2⟩:=h.rs
 rcases h2 with ⟨rfl,e⟩ | ⟨g,cap,c,rfl,_⟩
 ·exact ⟨none,0,by rw [e]⟩
 ·exact ⟨_,cap,rfl⟩
theorem Rep.ways (h:Rep B w r m vs vo P Q O) (p:Int) :
  Calls Tryz.prog 21 #[.pointer (some ⟨r,0,none⟩),.int .i64 p] w fun e w'=>e=.returned (.int .i64 (if p < 0 \/ (m.st.length:Int)<=p then 0 else waysR (m.st.getD p.toNat noSt)))/\w'=w:=by
 obtain ⟨ao,cap,hvs⟩:=h.slen'
 obtain ⟨r0,r1,r2,r3,r4,r5,rf⟩:=h.rdc
 by_cases h0:p < 0
 ·rw [if_pos (.inl h0)]
  clear h r0 r2 r3 r4 r5 rf
  go_enter Tryz.func21,Tryz.ntmps21
  go_wp2_with fail
  go_ret
  exact ⟨rfl,rfl⟩
 by_cases h1:(m.st.length:Int)<=p
 ·rw [if_pos (.inr h1)]
  rw [hvs] at r1
  clear h r0 r2 r3 r4 r5 rf
  go_enter Tryz.func21,Tryz.ntmps21
  go_wp2_with fail
  go_ret
  exact ⟨rfl,rfl⟩
 rw [if_neg (fun e=>e.elim h0 h1)]
 obtain ⟨k,rfl⟩:∃ k:Nat,p=k:=⟨p.toNat,by omega⟩
 rw [Int.toNat_natCast]
 have hk:k < m.st.length:=by omega
 obtain ⟨g,cap',hvs',hrow,_⟩:=h.row (by omega)
 rw [hvs'] at r1
 have hc:w.cell? ⟨g,k,none⟩=some (.pointer (some ⟨P k,0,none⟩)):=hrow k hk
 obtain ⟨c0,-⟩:=h.stc k _ (Rep.gets hk)
 have hki:(k:Int) < (m.st.length:Int):=by omega
 unfold waysR
 clear h hrow hvs hvs' r0 r2 r3 r4 r5 rf h1
 generalize m.st.getD k noSt=u at *
 generalize P k=q at *
 by_cases k61:u.kind=61
 ·rw [if_pos (.inl k61)]
  rw [k61] at c0
  clear k61
  go_enter Tryz.func21,Tryz.ntmps21
  go_wp2_with fail
  go_ret
  exact ⟨rfl,rfl⟩
 have b61:(u.kind == 61)=false:=by simpa using k61
 by_cases k33:u.kind=33
 ·rw [if_pos (.inr k33)]
  rw [k33] at c0
  clear k33 k61 b61
  go_enter Tryz.func21,Tryz.ntmps21
  go_wp2_with fail
  go_ret
  exact ⟨rfl,rfl⟩
 have b33:(u.kind == 33)=false:=by simpa using k33
 rw [if_neg (fun e=>e.elim k61 k33)]
 clear k33 k61
 go_enter Tryz.func21,Tryz.ntmps21
 go_wp2_with fail
 go_ret
 exact ⟨rfl,rfl⟩
end Go.Proofs.YtffajooegiempaaGreatDoor

namespace Go.Proofs.YtffajooegiempaaGreatDoor
open Go.RowKit
def progOf (l:List Int):Option Rd :=
 if 160 < l.length then none else match (readFrom init l 0).2 with
  | none=>none
  | some m=>if isDone m then some m else none
theorem progOf_none {l:List Int} (h:progOf l=none):(scanOf l).2.1=1:=by
 unfold progOf at h
 unfold scanOf
 split at h
 ·rename_i e; rw [if_pos e]
 ·rename_i e
  rw [if_neg e]
  rcases hr:readFrom init l 0 with ⟨n,_ | m⟩
  ·rfl
  ·rw [hr] at h
   simp only at h |-
   cases hd:isDone m
   ·simp
   ·rw [hd] at h; simp at h
theorem progOf_some {l:List Int} {m:Rd} (h:progOf l=some m):l.length<=160/\(∃ n,readFrom init l 0=(n,some m))/\isDone m=true/\scanOf l=((m.st.length:Int)+1,0,0):=by
 unfold progOf at h
 split at h
 ·cases h
 ·rename_i e
  rcases hr:readFrom init l 0 with ⟨n,_ | m'⟩
  ·rw [hr] at h; cases h
  ·rw [hr] at h
   simp only at h
   cases hd:isDone m'
   ·rw [hd] at h; simp at h
   ·rw [hd] at h
    simp at h
    subst h
    refine ⟨by omega,⟨n,rfl⟩,hd,?_⟩
    unfold scanOf
    rw [if_neg e,hr]
    simp [hd]
def two (x:Int × Int):Ending:=.returned (.tuple #[.int .i64 x.1,.int .i64 x.2])
theorem ref_again {s:ByteArray} {m:Rd} (hp:progOf (bytesOf s)=some m) (w:World) :
  Calls Tryz.prog 20 #[.string s] w fun e w'=>∃ n:Nat,e=.returned (.tuple #[.pointer (some ⟨w.heap.size,0,none⟩),.int .i64 n,.bool true])/\Below w.heap.size w w'/\m.st.length<=20/\∃ vs vo P Q O,Rep w.heap.size w' w.heap.size m vs vo P Q O:=by
 obtain ⟨hl,⟨n,hr⟩,hd,_⟩:=progOf_some hp
 refine (ref_read s w (by rw [<- bytesOf_len]; exact hl)).mono ?_
 rintro e w' ⟨hb,_,h⟩
 rw [hr] at h
 obtain ⟨he,ok,hrep⟩:=h
 exact ⟨n,by rw [he,hd],hb,ok.len,hrep⟩
end Go.Proofs.YtffajooegiempaaGreatDoor

namespace Go.Proofs.YtffajooegiempaaGreatDoor
open Go.RowKit
variable {B B2:Nat} {w w':World} {r:Nat} {m:Rd} {vs vo:Value} {P Q O:Nat->Nat}
theorem Rep.keep (h:Rep B w r m vs vo P Q O) (hb:Below w.heap.size w w'):Rep B w' r m vs vo P Q O where
 rd:=h.rd.keep hb h.rd.lt
 rs:=ownsRow_same h.rs (fun g hg=>hb.block g (h.rs.lt g hg).2)
 ro:=ownsRow_same h.ro (fun g hg=>hb.block g (h.ro.lt g hg).2)
 st:=fun i s hi=>by
  obtain ⟨a,b⟩:=h.st i s hi
  exact ⟨a.keep hb a.lt,b.keep hb b.lt⟩
 op:=fun i b hi=>(h.op i b hi).keep hb (h.op i b hi).lt
 injP:=h.injP
 injQ:=h.injQ
 injO:=h.injO
 geR:=h.geR
 geP:=h.geP
 geO:=h.geO
end Go.Proofs.YtffajooegiempaaGreatDoor

namespace Go.Proofs.YtffajooegiempaaGreatDoor
open Go.RowKit
variable {w:World} {e0:Bool} {M:Nat->Int} {b:Nat}
def sfP (e:Bool) (M:Nat->Int) (x:Ds):Bool :=
 if e=true then true else if x.kind=0 then x.any || ftB M x.sg x.num else if x.kind=1 then !x.any && decide (grP M x.sg<=x.num) else true
end Go.Proofs.YtffajooegiempaaGreatDoor

namespace Go.Proofs.YtffajooegiempaaGreatDoor
open Go.RowKit
variable {w:World} {e0:Bool} {M:Nat->Int} {b:Nat}
theorem e_safe_t (x:Ds) (k1:x.kind=1) (ha:x.any=true) :
  Calls Tryz.prog 82 #[dsv x,.agg (oc false M)] w fun e w'=>e=.returned (.bool (sfP false M x))/\Below w.heap.size w w':=by
 obtain ⟨e0,he0⟩:∃ e0:Bool,e0=false:=⟨_,rfl⟩
 rw [<- he0]
 obtain ⟨w0,hw0⟩:∃ w0,w0=(w.alloc (.cells (dsCells x) tDs)).alloc (.cells (oc e0 M) tO):=⟨_,rfl⟩
 have H0:Hid (At w0 w.heap.size (dsCells x) tDs/\OAt w0 (w.heap.size+1) e0 M/\Below w.heap.size w w0/\w0.heap.size=w.heap.size+2):=by
  refine ⟨by rw [hw0]; exact At.allocH (At.new _ _ _) _,?_,by rw [hw0]; exact ((Below.refl _ _).alloc (Nat.le_refl _) _).alloc (by simp) _,by rw [hw0]; simp⟩
  have:=At.new (w.alloc (.cells (dsCells x) tDs)) (oc e0 M) tO
  rw [show (w.alloc (.cells (dsCells x) tDs)).heap.size=w.heap.size+1 by simp] at this
  rw [hw0]; exact this
 have z0:w0.cell? ⟨w.heap.size+1,0,none⟩=some (.bool e0):=by rw [At.cell H0.out.2.1]; exact oc_0 _ _
 have HB0:=H0.out.2.2.1
 have HA0:=H0.out.2.1
 subst he0
 have HE0:Hid (sfP false M x=(!x.any && decide (grP M x.sg<=x.num))):=by show sfP false M x=_; unfold sfP; rw [if_neg (by decide),if_neg (by omega),if_pos k1]
 have HE:Hid (sfP false M x=false):=by show _=false; rw [HE0.out,ha]; rfl
 have d2:w0.drew.cell? ⟨w.heap.size,2,none⟩=some (.bool true):=by rw [<- ha]; exact H0.out.1.cell 2
 have HB1:Hid (Below w.heap.size w w0.drew):=H0.out.2.2.1.drew
 rw [hw0] at d2 HB1
 clear H0 HE0
 rw [hw0] at z0 HB0 HA0
 unfold dsCells at z0 HB0 HA0
 unfold dsv
 unfold dsCells at d2 HB1
 rw [k1,ha] at z0 HB0 d2 HB1 |-
 clear hw0
 go_enter Tryz.func82,Tryz.ntmps82
 go_wp2_with fail
 go_region
 all_goals
  go_wp2_with fail
  go_ret
  exact ⟨ret_b' HE.out,HB1.out⟩
end Go.Proofs.YtffajooegiempaaGreatDoor

namespace Go.Proofs.YtffajooegiempaaGreatDoor
open Go.RowKit
variable {w:World} {e0:Bool} {M:Nat->Int} {b:Nat}
theorem e_safe_f (x:Ds) (hx:DsG x) (k1:x.kind=1) (ha:x.any=false) (hS:Sm M) :
  Calls Tryz.prog 82 #[dsv x,.agg (oc false M)] w fun e w'=>e=.returned (.bool (sfP false M x))/\Below w.heap.size w w':=by
 obtain ⟨e0,he0⟩:∃ e0:Bool,e0=false:=⟨_,rfl⟩
 rw [<- he0]
 obtain ⟨w0,hw0⟩:∃ w0,w0=(w.alloc (.cells (dsCells x) tDs)).alloc (.cells (oc e0 M) tO):=⟨_,rfl⟩
 have H0:Hid (At w0 w.heap.size (dsCells x) tDs/\OAt w0 (w.heap.size+1) e0 M/\Below w.heap.size w w0/\w0.heap.size=w.heap.size+2):=by
  refine ⟨by rw [hw0]; exact At.allocH (At.new _ _ _) _,?_,by rw [hw0]; exact ((Below.refl _ _).alloc (Nat.le_refl _) _).alloc (by simp) _,by rw [hw0]; simp⟩
  have:=At.new (w.alloc (.cells (dsCells x) tDs)) (oc e0 M) tO
  rw [show (w.alloc (.cells (dsCells x) tDs)).heap.size=w.heap.size+1 by simp] at this
  rw [hw0]; exact this
 have z0:w0.cell? ⟨w.heap.size+1,0,none⟩=some (.bool e0):=by rw [At.cell H0.out.2.1]; exact oc_0 _ _
 have HB0:=H0.out.2.2.1
 have HA0:=H0.out.2.1
 subst he0
 have HE0:Hid (sfP false M x=(!x.any && decide (grP M x.sg<=x.num))):=by show sfP false M x=_; unfold sfP; rw [if_neg (by decide),if_neg (by omega),if_pos k1]
 have HE:Hid (sfP false M x=decide (grP M x.sg<=x.num)):=by show _=decide (grP M x.sg<=x.num); rw [HE0.out,ha]; rfl
 have HGr:Hid (∀ w1,Calls Tryz.prog 116 #[.agg (oc false M),v4 x.sg] w1 fun e w'=>e=.returned (.int .i64 (grP M x.sg))/\Below w1.heap.size w1 w'):=fun w1=>o_greatest x.sg hx.sg hS
 have H2:Hid (At w0.drew w.heap.size (dsCells x) tDs/\OAt w0.drew (w.heap.size+1) false M/\Below w.heap.size w w0.drew):=⟨H0.out.1,H0.out.2.1,H0.out.2.2.1.drew⟩
 have d2:w0.drew.cell? ⟨w.heap.size,2,none⟩=some (.bool false):=by rw [<- ha]; exact H0.out.1.cell 2
 have d3:w0.drew.cell? ⟨w.heap.size,3,none⟩=some (.int .i64 (gAt x.sg 0)):=H0.out.1.cell 3
 have d4:w0.drew.cell? ⟨w.heap.size,4,none⟩=some (.int .i64 (gAt x.sg 1)):=H0.out.1.cell 4
 have d5:w0.drew.cell? ⟨w.heap.size,5,none⟩=some (.int .i64 (gAt x.sg 2)):=H0.out.1.cell 5
 have d6:w0.drew.cell? ⟨w.heap.size,6,none⟩=some (.int .i64 (gAt x.sg 3)):=H0.out.1.cell 6
 have d7:w0.drew.cell? ⟨w.heap.size,7,none⟩=some (.int .i64 x.num):=H0.out.1.cell 7
 have hl2:w.heap.size < w0.drew.heap.size:=by have:=H0.out.1.lt; exact this
 clear H0 HE0 hS
 rw [hw0] at z0 HB0 HA0
 unfold dsCells at z0 HB0 HA0
 unfold dsv
 rw [k1,ha] at z0 HB0 |-
 unfold dsCells at hw0
 rw [k1,ha] at hw0
 generalize grP M x.sg=gr at *
 go_enter Tryz.func82,Tryz.ntmps82
 go_wp2_with fail
 refine wp_region_any (by kernel_rfl) ?_
 change wpAny _ _ _ _ _ _ _ (World.drew _)
 rw [<- hw0]
 clear hw0 z0 HB0 HA0
 generalize w0.drew=w2 at *
 refine wpAny_take (i:=0) (v:=.pointer (some ⟨w.heap.size,2,none⟩)) rfl (by kernel_rfl) (by kernel_rfl) (by kernel_rfl) (fun _ _ _ h=>h) (Or.inl ⟨by kernel_rfl,by intro w; go_simp⟩) ?_
 refine wpAny_ready (rs:=[1]) (by kernel_rfl) (by simp) ?_
 refine AllReady.cons rfl (fun K hK=>?_) AllReady.nil
 go_simp
 refine hK _ _ ?_
 clear hK K
 refine wpAny_take (i:=2) (v:=.bool true) rfl (by kernel_rfl) (by kernel_rfl) (by kernel_rfl) (fun _ _ _ h=>h) (Or.inl ⟨by kernel_rfl,by intro w; go_simp⟩) ?_
 refine wpAny_take (i:=3) (v:=.bool true) rfl (by kernel_rfl) (by kernel_rfl) (by kernel_rfl) (fun _ _ _ h=>h) (Or.inl ⟨by kernel_rfl,by intro w; go_simp⟩) ?_
 refine wpAny_take (i:=5) (v:=.pointer (some ⟨w.heap.size,3,none⟩)) rfl (by kernel_rfl) (by kernel_rfl) (by kernel_rfl) (fun _ _ _ h=>h) (Or.inl ⟨by kernel_rfl,by intro w; go_simp⟩) ?_
 refine wpAny_take (i:=8) (v:=.pointer (some ⟨w.heap.size,7,none⟩)) rfl (by kernel_rfl) (by kernel_rfl) (by kernel_rfl) (fun _ _ _ h=>h) (Or.inl ⟨by kernel_rfl,by intro w; go_simp⟩) ?_
 refine wpAny_ready (rs:=[4,6,9]) (by kernel_rfl) (by simp) ?_
 refine AllReady.cons rfl (fun K hK=>?_) (AllReady.cons rfl (fun K hK=>?_) (AllReady.cons rfl (fun K hK=>?_) AllReady.nil))
 ·refine step_load_ow (by first | rfl | simp [Region.wanted,yielded]) (.tmp 3) rfl rfl H2.out.2.1 ?_
  refine hK _ _ ?_
  clear hK K
  refine wpAny_ready (rs:=[6,9]) (by kernel_rfl) (by simp) ?_
  refine AllReady.cons rfl (fun K hK=>?_) (AllReady.cons rfl (fun K hK=>?_) AllReady.nil)
  ·go_simp
   refine hK _ _ ?_
   clear hK K
   refine wpAny_ready (rs:=[7,9]) (by kernel_rfl) (by simp) ?_
   refine AllReady.cons rfl (fun K hK=>?_) (AllReady.cons rfl (fun K hK=>?_) AllReady.nil)
   ·go_simp
    go_wp2_with (go_at_call 116; refine (HGr.out _).mono ?_; rintro e w3 ⟨rfl,hb3⟩)
    have H3:Hid (Below w.heap.size w w3):=H2.out.2.2.trans (hb3.mono H2.out.2.2.size)
    have f7:w3.cell? ⟨w.heap.size,7,none⟩=some (.int .i64 x.num):=(hb3.cell (p:=⟨w.heap.size,7,none⟩) hl2).trans d7
    clear hb3
    refine wpAny_ready (rs:=[9]) (by kernel_rfl) (by simp) ?_
    refine AllReady.cons rfl (fun K hK=>?_) AllReady.nil
    go_simp
    refine hK _ _ ?_
    clear hK K
    refine wpAny_take (i:=10) (v:=.bool (decide (gr<=x.num))) rfl (by kernel_rfl) (by kernel_rfl) (by kernel_rfl) (fun _ _ _ h=>h) (Or.inl ⟨by kernel_rfl,by intro w; go_simp⟩) ?_
    refine wpAny_take (i:=11) (v:=.bool (decide (gr<=x.num))) rfl (by kernel_rfl) (by kernel_rfl) (by kernel_rfl) (fun _ _ _ h=>h) (Or.inl ⟨by kernel_rfl,by intro w; go_simp⟩) ?_
    refine wpAny_take (i:=12) (v:=.bool (decide (gr<=x.num))) rfl (by kernel_rfl) (by kernel_rfl) (by kernel_rfl) (fun _ _ _ h=>h) (Or.inl ⟨by kernel_rfl,by intro w; go_simp⟩) ?_
    refine wpAny_done (by kernel_rfl) ?_ _
    go_wp2_with fail
    go_ret
    exact ⟨ret_b' HE.out,H3.out⟩
   ·go_simp
    refine hK _ _ ?_
    clear hK K
    refine wpAny_ready (rs:=[7]) (by kernel_rfl) (by simp) ?_
    refine AllReady.cons rfl (fun K hK=>?_) AllReady.nil
    go_simp
    go_wp2_with (go_at_call 116; refine (HGr.out _).mono ?_; rintro e w3 ⟨rfl,hb3⟩)
    have H3:Hid (Below w.heap.size w w3):=H2.out.2.2.trans (hb3.mono H2.out.2.2.size)
    have f7:w3.cell? ⟨w.heap.size,7,none⟩=some (.int .i64 x.num):=(hb3.cell (p:=⟨w.heap.size,7,none⟩) hl2).trans d7
    clear hb3
    refine wpAny_take (i:=10) (v:=.bool (decide (gr<=x.num))) rfl (by kernel_rfl) (by kernel_rfl) (by kernel_rfl) (fun _ _ _ h=>h) (Or.inl ⟨by kernel_rfl,by intro w; go_simp⟩) ?_
    refine wpAny_take (i:=11) (v:=.bool (decide (gr<=x.num))) rfl (by kernel_rfl) (by kernel_rfl) (by kernel_rfl) (fun _ _ _ h=>h) (Or.inl ⟨by kernel_rfl,by intro w; go_simp⟩) ?_
    refine wpAny_take (i:=12) (v:=.bool (decide (gr<=x.num))) rfl (by kernel_rfl) (by kernel_rfl) (by kernel_rfl) (fun _ _ _ h=>h) (Or.inl ⟨by kernel_rfl,by intro w; go_simp⟩) ?_
    refine wpAny_done (by kernel_rfl) ?_ _
    go_wp2_with fail
    go_ret
    exact ⟨ret_b' HE.out,H3.out⟩
  ·go_simp
   refine hK _ _ ?_
   clear hK K
   refine wpAny_ready (rs:=[6]) (by kernel_rfl) (by simp) ?_
   refine AllReady.cons rfl (fun K hK=>?_) AllReady.nil
   go_simp
   refine hK _ _ ?_
   clear hK K
   refine wpAny_ready (rs:=[7]) (by kernel_rfl) (by simp) ?_
   refine AllReady.cons rfl (fun K hK=>?_) AllReady.nil
   go_simp
   go_wp2_with (go_at_call 116; refine (HGr.out _).mono ?_; rintro e w3 ⟨rfl,hb3⟩)
   have H3:Hid (Below w.heap.size w w3):=H2.out.2.2.trans (hb3.mono H2.out.2.2.size)
   have f7:w3.cell? ⟨w.heap.size,7,none⟩=some (.int .i64 x.num):=(hb3.cell (p:=⟨w.heap.size,7,none⟩) hl2).trans d7
   clear hb3
   refine wpAny_take (i:=10) (v:=.bool (decide (gr<=x.num))) rfl (by kernel_rfl) (by kernel_rfl) (by kernel_rfl) (fun _ _ _ h=>h) (Or.inl ⟨by kernel_rfl,by intro w; go_simp⟩) ?_
   refine wpAny_take (i:=11) (v:=.bool (decide (gr<=x.num))) rfl (by kernel_rfl) (by kernel_rfl) (by kernel_rfl) (fun _ _ _ h=>h) (Or.inl ⟨by kernel_rfl,by intro w; go_simp⟩) ?_
   refine wpAny_take (i:=12) (v:=.bool (decide (gr<=x.num))) rfl (by kernel_rfl) (by kernel_rfl) (by kernel_rfl) (fun _ _ _ h=>h) (Or.inl ⟨by kernel_rfl,by intro w; go_simp⟩) ?_
   refine wpAny_done (by kernel_rfl) ?_ _
   go_wp2_with fail
   go_ret
   exact ⟨ret_b' HE.out,H3.out⟩
 ·go_simp
  refine hK _ _ ?_
  clear hK K
  refine wpAny_ready (rs:=[4,9]) (by kernel_rfl) (by simp) ?_
  refine AllReady.cons rfl (fun K hK=>?_) (AllReady.cons rfl (fun K hK=>?_) AllReady.nil)
  ·refine step_load_ow (by first | rfl | simp [Region.wanted,yielded]) (.tmp 3) rfl rfl H2.out.2.1 ?_
   refine hK _ _ ?_
   clear hK K
   refine wpAny_ready (rs:=[7,9]) (by kernel_rfl) (by simp) ?_
   refine AllReady.cons rfl (fun K hK=>?_) (AllReady.cons rfl (fun K hK=>?_) AllReady.nil)
   ·go_simp
    go_wp2_with (go_at_call 116; refine (HGr.out _).mono ?_; rintro e w3 ⟨rfl,hb3⟩)
    have H3:Hid (Below w.heap.size w w3):=H2.out.2.2.trans (hb3.mono H2.out.2.2.size)
    have f7:w3.cell? ⟨w.heap.size,7,none⟩=some (.int .i64 x.num):=(hb3.cell (p:=⟨w.heap.size,7,none⟩) hl2).trans d7
    clear hb3
    refine wpAny_ready (rs:=[9]) (by kernel_rfl) (by simp) ?_
    refine AllReady.cons rfl (fun K hK=>?_) AllReady.nil
    go_simp
    refine hK _ _ ?_
    clear hK K
    refine wpAny_take (i:=10) (v:=.bool (decide (gr<=x.num))) rfl (by kernel_rfl) (by kernel_rfl) (by kernel_rfl) (fun _ _ _ h=>h) (Or.inl ⟨by kernel_rfl,by intro w; go_simp⟩) ?_
    refine wpAny_take (i:=11) (v:=.bool (decide (gr<=x.num))) rfl (by kernel_rfl) (by kernel_rfl) (by kernel_rfl) (fun _ _ _ h=>h) (Or.inl ⟨by kernel_rfl,by intro w; go_simp⟩) ?_
    refine wpAny_take (i:=12) (v:=.bool (decide (gr<=x.num))) rfl (by kernel_rfl) (by kernel_rfl) (by kernel_rfl) (fun _ _ _ h=>h) (Or.inl ⟨by kernel_rfl,by intro w; go_simp⟩) ?_
    refine wpAny_done (by kernel_rfl) ?_ _
    go_wp2_with fail
    go_ret
    exact ⟨ret_b' HE.out,H3.out⟩
   ·go_simp
    refine hK _ _ ?_
    clear hK K
    refine wpAny_ready (rs:=[7]) (by kernel_rfl) (by simp) ?_
    refine AllReady.cons rfl (fun K hK=>?_) AllReady.nil
    go_simp
    go_wp2_with (go_at_call 116; refine (HGr.out _).mono ?_; rintro e w3 ⟨rfl,hb3⟩)
    have H3:Hid (Below w.heap.size w w3):=H2.out.2.2.trans (hb3.mono H2.out.2.2.size)
    have f7:w3.cell? ⟨w.heap.size,7,none⟩=some (.int .i64 x.num):=(hb3.cell (p:=⟨w.heap.size,7,none⟩) hl2).trans d7
    clear hb3
    refine wpAny_take (i:=10) (v:=.bool (decide (gr<=x.num))) rfl (by kernel_rfl) (by kernel_rfl) (by kernel_rfl) (fun _ _ _ h=>h) (Or.inl ⟨by kernel_rfl,by intro w; go_simp⟩) ?_
    refine wpAny_take (i:=11) (v:=.bool (decide (gr<=x.num))) rfl (by kernel_rfl) (by kernel_rfl) (by kernel_rfl) (fun _ _ _ h=>h) (Or.inl ⟨by kernel_rfl,by intro w; go_simp⟩) ?_
    refine wpAny_take (i:=12) (v:=.bool (decide (gr<=x.num))) rfl (by kernel_rfl) (by kernel_rfl) (by kernel_rfl) (fun _ _ _ h=>h) (Or.inl ⟨by kernel_rfl,by intro w; go_simp⟩) ?_
    refine wpAny_done (by kernel_rfl) ?_ _
    go_wp2_with fail
    go_ret
    exact ⟨ret_b' HE.out,H3.out⟩
  ·go_simp
   refine hK _ _ ?_
   clear hK K
   refine wpAny_ready (rs:=[4]) (by kernel_rfl) (by simp) ?_
   refine AllReady.cons rfl (fun K hK=>?_) AllReady.nil
   refine step_load_ow (by first | rfl | simp [Region.wanted,yielded]) (.tmp 3) rfl rfl H2.out.2.1 ?_
   refine hK _ _ ?_
   clear hK K
   refine wpAny_ready (rs:=[7]) (by kernel_rfl) (by simp) ?_
   refine AllReady.cons rfl (fun K hK=>?_) AllReady.nil
   go_simp
   go_wp2_with (go_at_call 116; refine (HGr.out _).mono ?_; rintro e w3 ⟨rfl,hb3⟩)
   have H3:Hid (Below w.heap.size w w3):=H2.out.2.2.trans (hb3.mono H2.out.2.2.size)
   have f7:w3.cell? ⟨w.heap.size,7,none⟩=some (.int .i64 x.num):=(hb3.cell (p:=⟨w.heap.size,7,none⟩) hl2).trans d7
   clear hb3
   refine wpAny_take (i:=10) (v:=.bool (decide (gr<=x.num))) rfl (by kernel_rfl) (by kernel_rfl) (by kernel_rfl) (fun _ _ _ h=>h) (Or.inl ⟨by kernel_rfl,by intro w; go_simp⟩) ?_
   refine wpAny_take (i:=11) (v:=.bool (decide (gr<=x.num))) rfl (by kernel_rfl) (by kernel_rfl) (by kernel_rfl) (fun _ _ _ h=>h) (Or.inl ⟨by kernel_rfl,by intro w; go_simp⟩) ?_
   refine wpAny_take (i:=12) (v:=.bool (decide (gr<=x.num))) rfl (by kernel_rfl) (by kernel_rfl) (by kernel_rfl) (fun _ _ _ h=>h) (Or.inl ⟨by kernel_rfl,by intro w; go_simp⟩) ?_
   refine wpAny_done (by kernel_rfl) ?_ _
   go_wp2_with fail
   go_ret
   exact ⟨ret_b' HE.out,H3.out⟩
 ·go_simp
  refine hK _ _ ?_
  clear hK K
  refine wpAny_ready (rs:=[4,6]) (by kernel_rfl) (by simp) ?_
  refine AllReady.cons rfl (fun K hK=>?_) (AllReady.cons rfl (fun K hK=>?_) AllReady.nil)
  ·refine step_load_ow (by first | rfl | simp [Region.wanted,yielded]) (.tmp 3) rfl rfl H2.out.2.1 ?_
   refine hK _ _ ?_
   clear hK K
   refine wpAny_ready (rs:=[6]) (by kernel_rfl) (by simp) ?_
   refine AllReady.cons rfl (fun K hK=>?_) AllReady.nil
   go_simp
   refine hK _ _ ?_
   clear hK K
   refine wpAny_ready (rs:=[7]) (by kernel_rfl) (by simp) ?_
   refine AllReady.cons rfl (fun K hK=>?_) AllReady.nil
   go_simp
   go_wp2_with (go_at_call 116; refine (HGr.out _).mono ?_; rintro e w3 ⟨rfl,hb3⟩)
   have H3:Hid (Below w.heap.size w w3):=H2.out.2.2.trans (hb3.mono H2.out.2.2.size)
   have f7:w3.cell? ⟨w.heap.size,7,none⟩=some (.int .i64 x.num):=(hb3.cell (p:=⟨w.heap.size,7,none⟩) hl2).trans d7
   clear hb3
   refine wpAny_take (i:=10) (v:=.bool (decide (gr<=x.num))) rfl (by kernel_rfl) (by kernel_rfl) (by kernel_rfl) (fun _ _ _ h=>h) (Or.inl ⟨by kernel_rfl,by intro w; go_simp⟩) ?_
   refine wpAny_take (i:=11) (v:=.bool (decide (gr<=x.num))) rfl (by kernel_rfl) (by kernel_rfl) (by kernel_rfl) (fun _ _ _ h=>h) (Or.inl ⟨by kernel_rfl,by intro w; go_simp⟩) ?_
   refine wpAny_take (i:=12) (v:=.bool (decide (gr<=x.num))) rfl (by kernel_rfl) (by kernel_rfl) (by kernel_rfl) (fun _ _ _ h=>h) (Or.inl ⟨by kernel_rfl,by intro w; go_simp⟩) ?_
   refine wpAny_done (by kernel_rfl) ?_ _
   go_wp2_with fail
   go_ret
   exact ⟨ret_b' HE.out,H3.out⟩
  ·go_simp
   refine hK _ _ ?_
   clear hK K
   refine wpAny_ready (rs:=[4]) (by kernel_rfl) (by simp) ?_
   refine AllReady.cons rfl (fun K hK=>?_) AllReady.nil
   refine step_load_ow (by first | rfl | simp [Region.wanted,yielded]) (.tmp 3) rfl rfl H2.out.2.1 ?_
   refine hK _ _ ?_
   clear hK K
   refine wpAny_ready (rs:=[7]) (by kernel_rfl) (by simp) ?_
   refine AllReady.cons rfl (fun K hK=>?_) AllReady.nil
   go_simp
   go_wp2_with (go_at_call 116; refine (HGr.out _).mono ?_; rintro e w3 ⟨rfl,hb3⟩)
   have H3:Hid (Below w.heap.size w w3):=H2.out.2.2.trans (hb3.mono H2.out.2.2.size)
   have f7:w3.cell? ⟨w.heap.size,7,none⟩=some (.int .i64 x.num):=(hb3.cell (p:=⟨w.heap.size,7,none⟩) hl2).trans d7
   clear hb3
   refine wpAny_take (i:=10) (v:=.bool (decide (gr<=x.num))) rfl (by kernel_rfl) (by kernel_rfl) (by kernel_rfl) (fun _ _ _ h=>h) (Or.inl ⟨by kernel_rfl,by intro w; go_simp⟩) ?_
   refine wpAny_take (i:=11) (v:=.bool (decide (gr<=x.num))) rfl (by kernel_rfl) (by kernel_rfl) (by kernel_rfl) (fun _ _ _ h=>h) (Or.inl ⟨by kernel_rfl,by intro w; go_simp⟩) ?_
   refine wpAny_take (i:=12) (v:=.bool (decide (gr<=x.num))) rfl (by kernel_rfl) (by kernel_rfl) (by kernel_rfl) (fun _ _ _ h=>h) (Or.inl ⟨by kernel_rfl,by intro w; go_simp⟩) ?_
   refine wpAny_done (by kernel_rfl) ?_ _
   go_wp2_with fail
   go_ret
   exact ⟨ret_b' HE.out,H3.out⟩
end Go.Proofs.YtffajooegiempaaGreatDoor

namespace Go.Proofs.YtffajooegiempaaGreatDoor
open Go.RowKit
variable {w:World} {e0:Bool} {M:Nat->Int} {b:Nat}
theorem e_safe (x:Ds) (hx:DsG x) (hS:Sm M) :
  Calls Tryz.prog 82 #[dsv x,.agg (oc e0 M)] w fun e w'=>e=.returned (.bool (sfP e0 M x))/\Below w.heap.size w w':=by
 obtain ⟨w0,hw0⟩:∃ w0,w0=(w.alloc (.cells (dsCells x) tDs)).alloc (.cells (oc e0 M) tO):=⟨_,rfl⟩
 have H0:Hid (At w0 w.heap.size (dsCells x) tDs/\OAt w0 (w.heap.size+1) e0 M/\Below w.heap.size w w0/\w0.heap.size=w.heap.size+2):=by
  refine ⟨by rw [hw0]; exact At.allocH (At.new _ _ _) _,?_,by rw [hw0]; exact ((Below.refl _ _).alloc (Nat.le_refl _) _).alloc (by simp) _,by rw [hw0]; simp⟩
  have:=At.new (w.alloc (.cells (dsCells x) tDs)) (oc e0 M) tO
  rw [show (w.alloc (.cells (dsCells x) tDs)).heap.size=w.heap.size+1 by simp] at this
  rw [hw0]; exact this
 have z0:w0.cell? ⟨w.heap.size+1,0,none⟩=some (.bool e0):=by rw [At.cell H0.out.2.1]; exact oc_0 _ _
 have HB0:=H0.out.2.2.1
 have HA0:=H0.out.2.1
 cases e0 with
 | true =>
  have HE:Hid (sfP true M x=true):=rfl
  clear H0
  rw [hw0] at z0 HB0 HA0
  unfold dsCells at z0 HB0 HA0
  unfold dsv
  clear hw0
  go_enter Tryz.func82,Tryz.ntmps82
  go_wp2_with fail
  go_ret
  exact ⟨ret_b' HE.out,HB0⟩
 | false =>
 by_cases k0:x.kind=0
 ·have HE0:Hid (sfP false M x=(x.any || ftB M x.sg x.num)):=by show sfP false M x=_; unfold sfP; rw [if_neg (by decide),if_pos k0]
  cases ha:x.any with
  | true =>
   have HE:Hid (sfP false M x=true):=by show _=true; rw [HE0.out,ha]; rfl
   clear H0 HE0
   rw [hw0] at z0 HB0 HA0
   unfold dsCells at z0 HB0 HA0
   unfold dsv
   clear hw0
   rw [k0,ha] at z0 HB0 |-
   go_enter Tryz.func82,Tryz.ntmps82
   go_wp2_with fail
   go_ret
   exact ⟨ret_b' HE.out,HB0⟩
  | false =>
   have HE:Hid (sfP false M x=ftB M x.sg x.num):=by show _=ftB M x.sg x.num; rw [HE0.out,ha]; rfl
   obtain ⟨BW,hBW⟩:∃ BW:World->Prop,BW=fun w'=>Below w0.heap.size w0 w':=⟨_,rfl⟩
   have hf:Calls Tryz.prog 115 #[dsv x,.agg (oc false M)] w0 fun e w'=>e=.returned (.bool (ftB M x.sg x.num))/\BW w':=by rw [hBW]; exact e_fits x hx hS
   rw [hw0] at hf
   clear HE0 hS
   rw [hw0] at z0 HB0 HA0
   unfold dsCells at z0 HB0 HA0
   unfold dsv
   unfold dsv dsCells at hf
   generalize ftB M x.sg x.num=fb at *
   rw [k0,ha] at z0 HB0 HA0 hf |-
   go_enter Tryz.func82,Tryz.ntmps82
   go_wp2_with (refine wpList_load_ow (by first | rfl | simp [Region.wanted,yielded]) (.tmp 3) rfl rfl HA0 ?_)
   refine hf.mono ?_
   rintro e w1 ⟨rfl,hb1⟩
   rw [hBW] at hb1
   have H1:Hid (Below w.heap.size w w1):=H0.out.2.2.1.trans (hb1.mono H0.out.2.2.1.size)
   clear hb1 hBW hf HA0 HB0 z0 hw0
   go_wp2_with fail
   go_ret
   exact ⟨ret_b' HE.out,H1.out⟩
 by_cases k1:x.kind=1
 ·cases ha:x.any with
  | true=>exact e_safe_t x k1 ha
  | false=>exact e_safe_f x hx k1 ha hS
 ·have HE:Hid (sfP false M x=true):=by show sfP false M x=_; unfold sfP; rw [if_neg (by decide),if_neg k0,if_neg k1]
  have b0:(x.kind == 0)=false:=by simpa using k0
  have b1:(x.kind == 1)=false:=by simpa using k1
  clear H0
  rw [hw0] at z0 HB0 HA0
  unfold dsCells at z0 HB0 HA0
  unfold dsv
  clear hw0 k0 k1
  go_enter Tryz.func82,Tryz.ntmps82
  go_wp2_with fail
  go_ret
  exact ⟨ret_b' HE.out,HB0⟩
end Go.Proofs.YtffajooegiempaaGreatDoor

namespace Go.Proofs.YtffajooegiempaaGreatDoor
open Go.RowKit
variable {w w':World} {g cap:Nat} {F:List Ds}
theorem flat_get:∀ (F:List Ds) (j o:Nat) (x:Ds),F[j]?=some x->o < 10->(flat F)[j*10+o]?=(dsCells x).toList[o]?:=by
 intro F
 induction F with
 | nil=>intro j o x h; simp at h
 | cons y F ih =>
  intro j o x h ho
  have hl:(dsCells y).toList.length=10:=rfl
  show ((dsCells y).toList ++ flat F)[j*10+o]?=_
  cases j with
  | zero =>
   simp at h
   subst h
   rw [List.getElem?_append_left (by rw [hl]; omega)]
   congr 1; omega
  | succ j =>
   rw [List.getElem?_append_right (by rw [hl]; omega),hl]
   rw [show (j+1)*10+o - 10=j*10+o by omega]
   exact ih j o x (by simpa using h) ho
theorem prow_of {B n:Nat} (h:w.ownsRow B tDs 10 (.slice (some ⟨g,0,none⟩) n cap) n (flat F)) (hn:F.length=n) (hlt:g < w.heap.size):PRow w g F:=by
 refine ⟨hlt,fun j x hx=>?_⟩
 have hj:j < n:=by
  rw [<- hn]
  rcases Nat.lt_or_ge j F.length with h' | h'
  ·exact h'
  ·simp [List.getElem?_eq_none h'] at hx
 have hc:∀ o,o < 10->w.cell? ⟨g,j*10+o,none⟩=(dsCells x).toList[o]?:=fun o ho=>by
  rw [h.cellAt (j*10+o) (by omega),flat_get F j o x hx ho]
 exact ⟨hc 0 (by omega),hc 1 (by omega),hc 2 (by omega),hc 3 (by omega),hc 4 (by omega),hc 5 (by omega),hc 6 (by omega),hc 7 (by omega),hc 8 (by omega),hc 9 (by omega)⟩
end Go.Proofs.YtffajooegiempaaGreatDoor

