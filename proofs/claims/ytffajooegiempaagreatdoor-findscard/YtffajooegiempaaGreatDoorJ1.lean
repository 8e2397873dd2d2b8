import Derived.Test.YtffajooegiempaaGreatDoorJ0
import Derived.Laws.AppendOwn
import Derived.Laws.BytesArg
import Derived.Laws.Concat
set_option maxRecDepth 100000
set_option maxHeartbeats 6400000
namespace Go.Proofs.YtffajooegiempaaGreatDoor
open Go.RowKit
structure Onl (m:Nat) (w w':World):Prop where
 os:w'.os=w.os
 tape:w'.tape=w.tape
 output:w'.output=w.output
 size:w.heap.size<=w'.heap.size
 block:∀ k,k < w.heap.size->k ≠ m->w'.heap[k]?=w.heap[k]?
variable {m:Nat} {a b c w w':World}
theorem Onl.refl (m:Nat) (w:World):Onl m w w:=⟨rfl,rfl,rfl,Nat.le_refl _,fun _ _ _=>rfl⟩
theorem Onl.trans (h:Onl m a b) (k:Onl m b c):Onl m a c :=
 ⟨k.os.trans h.os,k.tape.trans h.tape,k.output.trans h.output,Nat.le_trans h.size k.size,fun i hi hn=>(k.block i (Nat.lt_of_lt_of_le hi h.size) hn).trans (h.block i hi hn)⟩
theorem Onl.of (h:Below w.heap.size w w') (m:Nat):Onl m w w':=⟨h.os,h.tape,h.output,h.size,fun k hk _=>h.block k hk⟩
theorem Onl.own (h:Onl m a b) {q:Nat} (hq:q=m \/ a.heap.size<=q) (o:Nat) (u:Value):Onl m a (b.setCell ⟨q,o,none⟩ u) :=
 ⟨h.os,h.tape,h.output,by have:=h.size; simpa [World.setCell] using this,fun k hk hn=>(Below.heap_setCell _ _ _ _ (by show k ≠ q; omega)).trans (h.block k hk hn)⟩
theorem Onl.setCell (h:Onl m a b) (o:Nat) (u:Value):Onl m a (b.setCell ⟨m,o,none⟩ u):=h.own (.inl rfl) o u
theorem Onl.alloc (h:Onl m a b) (o:Obj):Onl m a (b.alloc o):=h.trans (Onl.of ((Below.refl _ _).alloc (Nat.le_refl _) _) m)
theorem Onl.drewN (h:Onl m a b) (n:Nat):Onl m a (b.drewN n):=⟨h.os,h.tape,h.output,h.size,h.block⟩
theorem Onl.below (h:Onl m a b) {B:Nat} (h1:B<=m) (h2:B<=a.heap.size):Below B a b:=⟨h.os,h.tape,h.output,h.size,fun k hk=>h.block k (by omega) (by omega)⟩
theorem Onl.at_ {q:Nat} {c:Array Value} {t:TypeId} (h:Onl m w w') (ha:At w q c t) (hn:q ≠ m):At w' q c t:=ha.same (h.block q ha.lt hn)
theorem Onl.cell (h:Onl m w w') {q:Nat} (hq:q < w.heap.size) (hn:q ≠ m) (i:Nat):w'.cell? ⟨q,i,none⟩=w.cell? ⟨q,i,none⟩:=World.cell?_of_block (a:=⟨q,i,none⟩) (h.block q hq hn)
theorem At.keep {w w':World} {B b:Nat} {c:Array Value} {t:TypeId} (h:At w b c t) (hb:Below B w w') (hlt:b < B):At w' b c t:=h.same (hb.block b hlt)
theorem At.allocH {b:Nat} {c:Array Value} {t:TypeId} (h:At w b c t) (o:Obj):At (w.alloc o) b c t:=h.keep ((Below.refl _ _).alloc (Nat.le_refl _) _) h.lt
theorem At.new (w:World) (c:Array Value) (t:TypeId):At (w.alloc (.cells c t)) w.heap.size c t:=by
 show (w.heap.push _)[w.heap.size]?=_
 simp
end Go.Proofs.YtffajooegiempaaGreatDoor

namespace Go.Proofs.YtffajooegiempaaGreatDoor
open Go.RowKit
variable {w:World}
abbrev tBy:TypeId:=5
def byv (xs:List Int):List Value:=xs.map (Value.int .u8)
theorem byv_app (xs ys:List Int):byv (xs ++ ys)=byv xs ++ byv ys:=by simp [byv]
def BRow (w:World) (base:Nat) (v:Value) (xs:List Int):Prop:=w.ownsRow base tBy 1 v xs.length (byv xs)/\∃ g cap,v=.slice (some ⟨g,0,none⟩) xs.length cap
theorem ownsRow_below {w w':World} {base e size n:Nat} {v:Value} {xs:List Value} (h:w.ownsRow base e size v n xs) (hb:∀ k,v.ownBlock=some k->w'.heap[k]?=w.heap[k]?):w'.ownsRow base e size v n xs:=by
 obtain ⟨h1,h2⟩:=h
 refine ⟨h1,?_⟩
 rcases h2 with h2 | ⟨g,cap,c,hv,hg,hh,r⟩
 ·exact .inl h2
 ·exact .inr ⟨g,cap,c,hv,hg,by rw [hb g (by rw [hv]; rfl)]; exact hh,r⟩
theorem BRow.keep {w w':World} {base B:Nat} {v:Value} {xs:List Int} (h:BRow w base v xs) (hb:Below B w w') (hB:w.heap.size<=B):BRow w' base v xs :=
 ⟨ownsRow_below h.1 (fun k hk=>hb.block k (by have:=(h.1.lt k hk).2; omega)),h.2⟩
theorem BRow.cells {base:Nat} {g cap:Nat} {xs:List Int} (h:BRow w base (.slice (some ⟨g,0,none⟩) xs.length cap) xs):∀ i,i < xs.length->w.cell? ⟨g,i,none⟩=some (.int .u8 (xs.getD i 0)):=by
 intro i hi
 have:=h.1.cells (g:=g) rfl i (.int .u8 (xs.getD i 0)) (by simp [byv,List.getD,hi])
 have e1:(⟨g,0,none⟩:Addr).add i=⟨g,i,none⟩:=by unfold Addr.add; split <;> simp_all
 rwa [e1] at this
theorem BRow.new (w:World) (xs:List Int) (base:Nat) (hb:base<=w.heap.size) (hx:xs.length<=maxLen):BRow (w.alloc (.cells (byv xs).toArray tBy)) base (.slice (some ⟨w.heap.size,0,none⟩) xs.length xs.length) xs :=
 ⟨⟨by simp [byv],.inr ⟨w.heap.size,xs.length,(byv xs).toArray,rfl,hb,heap_alloc_new w _,Nat.le_refl _,hx,by simp [byv],List.take_of_length_le (by simp [byv])⟩⟩,_,_,rfl⟩
theorem wpList_append_b {base:Nat} {v:Value} {xs ys:List Int} {ops:Array Oper} {rest:List Oper} {o:Oper} {a:Act} {Q:Exit->Act->World->Prop} (hgd:o.guard=none) (s x:Operand)
  (ho:o.op=.call { callee:=.builtin .append,args:=#[s,x],argTypes:=#[130,130] })
  (hs:a.eval s=v) (hown:BRow w base v xs) (g c:Nat) (hx:a.eval x=.slice (some ⟨g,0,none⟩) ys.length c) (hnews:∀ i,i < ys.length->w.cell? ⟨g,i,none⟩=some (.int .u8 (ys.getD i 0)))
  (h63:xs.length+ys.length<=1000000) (hbase:base<=w.heap.size)
  (h:∀ v' w',BRow w' base v' (xs ++ ys)->w.grownBy w' v.ownBlock->wpList Tryz.prog ops Q rest (a.put o.dst v') w'):wpList Tryz.prog ops Q (o :: rest) a w:=by
 obtain ⟨i0,hi,hz0,hz1,hz2⟩:=info_parts (P:=Tryz.prog) (e:=tBy) (z:=.int .u8 0) (size:=1) (bytes:=1) (by kernel_rfl)
 obtain ⟨hrow,q,cap,rfl⟩:=hown
 refine wpList_append_own _ hgd s x 130 ho base tBy i0 _ 1 1 Tryz.underlying130 hi hz0 hz1 hz2 rfl (by decide) _ _ _ hs hrow ⟨g,0,none⟩ ys.length c (byv ys) hx (by simp [byv]) (by
  intro j u hj
  have hjl:j < ys.length:=by
   rcases Nat.lt_or_ge j ys.length with q | q
   ·exact q
   ·rw [List.getElem?_eq_none (by simp [byv]; omega)] at hj; cases hj
  have e1:(⟨g,0,none⟩:Addr).add j=⟨g,j,none⟩:=by unfold Addr.add; split <;> simp_all
  rw [e1,hnews j hjl]
  simpa [byv,List.getD,hjl] using hj) (by
  intro u hu
  obtain ⟨y,_,rfl⟩:=List.mem_map.1 hu
  rfl) (by unfold maxLen; omega) (by omega) hbase ?_
 intro v' w' h2 h3 h4
 refine h v' w' ⟨by rw [List.length_append,byv_app]; exact h2,?_⟩ h3
 rcases h2.2 with ⟨e,_⟩ | ⟨g',cap',cur,e,_⟩
 ·obtain ⟨e1,_⟩:=h4.1 e; cases e1
 ·exact ⟨g',cap',by rw [List.length_append]; exact e⟩
theorem c_countTold (p off cu:Nat) (l:List Int) (_hp:p < w.heap.size) (hc:∀ i,i < 32->w.cell? ⟨p,off+i,none⟩=some (.int .i64 (l.getD i 0))) :
  Calls Tryz.prog 122 #[.slice (some ⟨p,off,none⟩) 32 cu] w fun e w'=>e=.returned (.int .i64 ((ct l 32:Nat):Int))/\w'=w:=by
 have HC:Hid (∀ i,i < 32->w.cell? ⟨p,off+i,none⟩=some (.int .i64 (l.getD i 0))):=hc
 obtain ⟨C,hC⟩:∃ C,C=ct l:=⟨_,rfl⟩
 have HS:Hid (∀ f,C (f+1)=C f+(if l.getD f 0=1000000 then 0 else 1)):=by rw [hC]; exact ct_succ l
 have HL:Hid (∀ f,C f<=f):=by rw [hC]; exact ct_le l
 have HZ:Hid (C 0=0):=by rw [hC]; rfl
 rw [<- hC]
 clear hc hC
 go_enter Tryz.func122,Tryz.ntmps122
 go_wp2_with fail
 go_loopw [3,8] (fun t i wr=>∃ (f:Nat),f<=32/\i=.int .i64 f/\wr=w/\t=.int .i64 ((C f:Nat):Int)) (fun _ i _=>32 - (intOf i).toNat)
 case atStart=>exact ⟨0,by omega,rfl,rfl,by rw [HZ.out]; rfl⟩
 case round =>
  obtain ⟨f,hf,rfl,rfl,rfl⟩:=hrel
  have hcf:=HL.out f
  by_cases hlt:f < 32
  ·have hfi:(f:Int) < 32:=by omega
   have cx:=HC.out f hlt
   have HEq:=(show Hid (_=_) from HS.out f)
   generalize l.getD f 0=x at *
   generalize C f=cf at *
   by_cases e1:x=1000000
   ·have e1':(x != 1000000)=false:=by rw [e1]; rfl
    have HX:Hid (C (f+1)=cf):=by show _=_; rw [HEq.out,if_pos e1]; rfl
    go_wp2_with fail
    go_roundw
    case rel=>exact ⟨f+1,by omega,by go_num,by simp,by rw [HX.out]⟩
    case measure=>simp [intOf]; omega
   ·have e1':(x != 1000000)=true:=by rw [bne_iff_ne]; exact e1
    have HX:Hid (C (f+1)=cf+1):=by show _=_; rw [HEq.out,if_neg e1]
    go_wp2_with fail
    go_roundw
    case rel=>exact ⟨f+1,by omega,by go_num,by simp,by rw [HX.out]; go_num⟩
    case measure=>simp [intOf]; omega
  ·have hf32:f=32:=by omega
   subst hf32
   go_wp2_with fail
   go_ret
   exact ⟨rfl,rfl⟩
theorem c_quo (x:Int) (h0:0<=x):x.tdiv 256=x / 256:=Int.tdiv_eq_ediv_of_nonneg h0
theorem c_rem (x:Int) (h0:0<=x):x.tmod 256=x % 256:=Int.tmod_eq_emod_of_nonneg h0
end Go.Proofs.YtffajooegiempaaGreatDoor

namespace Go.Proofs.YtffajooegiempaaGreatDoor
open Go.RowKit
variable {w:World}
def BOut (w:World) (xs:List Int):Ending->World->Prop:=fun e w'=>∃ v,BRow w' w.heap.size v xs/\e=.returned v/\Below w.heap.size w w'
theorem c_toldBounds (p off cu:Nat) (l:List Int) (hp:p < w.heap.size) (hc:∀ i,i < 32->w.cell? ⟨p,off+i,none⟩=some (.int .i64 (l.getD i 0))) (hb:∀ f,f < 32->cBd (l.getD f 0)) :
  Calls Tryz.prog 88 #[.slice (some ⟨p,off,none⟩) 32 cu] w (BOut w (((ct l 32:Nat):Int) :: tl l 32)):=by
 have HC:Hid (∀ i,i < 32->w.cell? ⟨p,off+i,none⟩=some (.int .i64 (l.getD i 0))):=hc
 have HB:Hid (∀ f,f < 32->cBd (l.getD f 0)):=hb
 have hct:=c_countTold p off cu l hp hc
 have hcl:=ct_le l 32
 obtain ⟨T,hT⟩:∃ T,T=tl l:=⟨_,rfl⟩
 have HT:Hid (∀ f,T (f+1)=T f ++ (if l.getD f 0=1000000 then [] else b3 (f,l.getD f 0))):=by rw [hT]; exact tl_succ l
 have HTL:Hid (∀ f,f<=32->(T f).length<=96):=by
  rw [hT]; intro f hf; rw [tl_len]; have:=ct_le l f; omega
 have HZ:Hid (T 0=[]):=by rw [hT]; rfl
 rw [<- hT]
 generalize ct l 32=cc at *
 have HN:Hid (BRow (w.alloc (.cells #[.int .u8 ((cc:Nat):Int)] tBy)) w.heap.size (.slice (some ⟨w.heap.size,0,none⟩) 1 1) [((cc:Nat):Int)]):=BRow.new w [((cc:Nat):Int)] w.heap.size (Nat.le_refl _) (by simp [maxLen])
 have HB1:Hid (Below w.heap.size w (w.alloc (.cells #[.int .u8 ((cc:Nat):Int)] tBy))):=(Below.refl _ _).alloc (Nat.le_refl _) _
 clear hc hb hT
 go_enter Tryz.func88,Tryz.ntmps88
 go_wp2_with fail
 refine hct.mono ?_
 rintro e w1 ⟨rfl,rfl⟩
 clear hct
 go_wp2_with fail
 go_loopw [3,13] (fun sl i wr=>∃ (f g cap n:Nat),f<=32/\i=.int .i64 f/\sl=.slice (some ⟨g,0,none⟩) n cap/\n<=97/\Hid (BRow wr w1.heap.size (.slice (some ⟨g,0,none⟩) n cap) (((cc:Nat):Int) :: T f)/\Below w1.heap.size w1 wr)) (fun _ i _=>32 - (intOf i).toNat)
 case atStart=>exact ⟨0,_,_,_,by omega,rfl,rfl,by omega,by show _/\_; rw [HZ.out]; exact ⟨HN.out,HB1.out⟩⟩
 case round =>
  obtain ⟨f,g,cap,n,hf,rfl,rfl,hn,HR⟩:=hrel
  by_cases hlt:f < 32
  ·have hfi:(f:Int) < 32:=by omega
   have cx:wr.cell? ⟨p,off+f,none⟩=some (.int .i64 (l.getD f 0)):=(HR.out.2.cell (p:=⟨p,off+f,none⟩) hp).trans (HC.out f hlt)
   have hpr:p < wr.heap.size:=Nat.lt_of_lt_of_le hp HR.out.2.size
   have HEq:=(show Hid (_=_) from HT.out f)
   have HBf:=(show Hid (cBd _) from HB.out f hlt)
   have HL1:=(show Hid (_<=_) from HTL.out (f+1) (by omega))
   generalize l.getD f 0=x at *
   by_cases e1:x=1000000
   ·have e1':(x == 1000000)=true:=by rw [e1]; rfl
    have HX:Hid (T (f+1)=T f):=by show _=_; rw [HEq.out,if_pos e1,List.append_nil]
    go_wp2_with fail
    go_roundw
    case rel=>exact ⟨f+1,g,cap,n,by omega,by go_num,rfl,hn,by show _/\_; rw [HX.out]; exact HR.out⟩
    case measure=>simp [intOf]; omega
   ·have e1':(x == 1000000)=false:=by simpa using e1
    obtain ⟨x1,x2⟩:-4000<=x/\x<=4000:=HBf.out.resolve_left e1
    have HX:Hid (T (f+1)=T f ++ [(f:Int),(x+4000) / 256,(x+4000) % 256]):=by show _=_; rw [HEq.out,if_neg e1]; rfl
    have r1:=c_quo (x+4000) (by omega)
    have r2:=c_rem (x+4000) (by omega)
    have y1:0<=(x+4000) / 256:=by omega
    have y2:(x+4000) / 256<=255:=by omega
    have y3:0<=(x+4000) % 256:=by omega
    have y4:(x+4000) % 256<=255:=by omega
    generalize (x+4000) / 256=ya at *
    generalize (x+4000) % 256=yb at *
    have HLn:Hid ((((cc:Nat):Int) :: T f).length=n):=by
     obtain ⟨_,g',cap',e⟩:=HR.out.1
     injection e with _ e2 _; exact e2.symm
    have hln:n+3<=97:=by
     have h1:=HL1.out
     rw [HX.out] at h1
     have h2:=HLn.out
     simp at h1 h2; omega
    go_wp2_with (at_builtin; refine wpList_append_b (xs:=((cc:Nat):Int) :: T f) (ys:=[(f:Int),ya,yb]) rfl (.tmp 22) (.tmp 31) rfl rfl (HR.out.1.keep ((Below.refl _ _).alloc (Nat.le_refl _) _) (Nat.le_refl _)) wr.heap.size 3 rfl (by
      intro i hi
      match i,hi with
      | 0,_=>exact World.cell?_alloc_at _ _ _ _ rfl
      | 1,_=>exact World.cell?_alloc_at _ _ _ _ rfl
      | 2,_=>exact World.cell?_alloc_at _ _ _ _ rfl) (by rw [HLn.out]; simp; omega) (by have:=HR.out.2.size; simp; omega) ?_; intro v5 w5 hrow5 hgrow5)
    obtain ⟨hr5,g5,c5,rfl⟩:=id hrow5
    have H5:Hid (BRow w5 w1.heap.size (.slice (some ⟨g5,0,none⟩) (n+3) c5) (((cc:Nat):Int) :: T (f+1))/\Below w1.heap.size w1 w5):=by
     have e:(((cc:Nat):Int) :: T f ++ [(f:Int),ya,yb]).length=n+3:=by rw [List.length_append,HLn.out]; rfl
     rw [e] at hrow5
     refine ⟨by rw [HX.out]; exact hrow5,?_⟩
     exact ((HR.out.2.alloc HR.out.2.size _).grown hgrow5 (by have:=HR.out.2.size; simp; omega) (fun k hk=>(HR.out.1.1.lt k hk).1))
    have e:(((cc:Nat):Int) :: T f ++ [(f:Int),ya,yb]).length=n+3:=by rw [List.length_append,HLn.out]; rfl
    rw [e]
    clear hr5 hrow5 hgrow5
    go_roundw
    case rel=>exact ⟨f+1,g5,c5,n+3,by omega,by go_num,rfl,by omega,H5.out⟩
    case measure=>simp [intOf]; omega
  ·have hf32:f=32:=by omega
   subst hf32
   go_wp2_with fail
   go_ret
   exact ⟨_,HR.out.1,rfl,HR.out.2⟩
end Go.Proofs.YtffajooegiempaaGreatDoor

namespace Go.Proofs.YtffajooegiempaaGreatDoor
open Go.RowKit
variable {w:World}
def RdL (w:World) (v:Value):Option (List Int)->Prop
 | none=>v=.slice none 0 0
 | some l=>Reads w v l/\∃ a n c,v=.slice (some a) n c
def ReadsL (w:World) (v:Value) (L:List (Option (List Int))):Prop :=
 ∃ ao cap,v=.slice ao L.length cap/\L.length<=cap/\(L.length ≠ 0->∃ b off,ao=some ⟨b,off,none⟩/\b < w.heap.size/\∀ i,i < L.length->∃ x,w.cell? ⟨b,off+i,none⟩=some x/\RdL w x (L.getD i none))
theorem RdL.keep {w w':World} {v:Value} {r:Option (List Int)} (h:RdL w v r) (hb:Below w.heap.size w w'):RdL w' v r:=by
 cases r with
 | none=>exact h
 | some l=>exact ⟨h.1.keep hb,h.2⟩
theorem ReadsL.keep {w w':World} {v:Value} {L:List (Option (List Int))} (h:ReadsL w v L) (hb:Below w.heap.size w w'):ReadsL w' v L:=by
 obtain ⟨ao,cap,hv,hc,h0⟩:=h
 refine ⟨ao,cap,hv,hc,fun hn=>?_⟩
 obtain ⟨b,off,ha,hlt,hcell⟩:=h0 hn
 refine ⟨b,off,ha,Nat.lt_of_lt_of_le hlt hb.size,fun i hi=>?_⟩
 obtain ⟨x,h1,h2⟩:=hcell i hi
 exact ⟨x,(hb.cell (by exact hlt)).trans h1,h2.keep hb⟩
def gdO:Option (List Int)->Bool
 | none=>true
 | some l=>gdB l
def gdA (L:List (Option (List Int))):Nat->Bool
 | 0=>true
 | n+1=>gdA L n && gdO (L.getD n none)
def encR (L:List (Option (List Int))):List Int × Int :=
 if L.length < 1 \/ 21 < L.length then ([],4) else if gdA L L.length then (encB L,0) else ([],3)
def EOut (w:World) (L:List (Option (List Int))):Ending->World->Prop:=fun e w'=>e=.returned (.tuple #[.string (strOfNums (encR L).1),.int .i64 (encR L).2])/\Below w.heap.size w w'
theorem gdA_all {L:List (Option (List Int))}:∀ {n:Nat},gdA L n=true ↔ ∀ i,i < n->gdO (L.getD i none)=true:=by
 intro n
 induction n with
 | zero=>exact ⟨fun _ i hi=>absurd hi (by omega),fun _=>rfl⟩
 | succ n ih =>
  show (gdA L n && gdO (L.getD n none))=true ↔ _
  rw [Bool.and_eq_true,ih]
  constructor
  ·rintro ⟨h1,h2⟩ f hf
   rcases Nat.lt_or_eq_of_le (Nat.lt_succ_iff.1 hf) with q | q
   ·exact h1 f q
   ·rw [q]; exact h2
  ·intro h
   exact ⟨fun f hf=>h f (by omega),h n (by omega)⟩
theorem gdA_no {L:List (Option (List Int))} {n i:Nat} (hi:i < n) (h:gdO (L.getD i none)=false):gdA L n=false:=by
 cases e:gdA L n with
 | false=>rfl
 | true=>rw [gdA_all.1 e i hi] at h; cases h
theorem enc1_len (r:Option (List Int)):(enc1 r).length<=98:=by
 cases r with
 | none=>show 1<=98; omega
 | some l =>
  have e:(enc1 (some l)).length=(tl l 32).length+2:=rfl
  have:=ct_le l 32
  rw [e,tl_len]; omega
theorem encs_len (L:List (Option (List Int))):∀ n,(encs L n).length<=98*n
 | 0=>Nat.le_refl _
 | n+1=>by
  have h1:=encs_len L n
  have h2:=enc1_len (L.getD n none)
  show (encs L n ++ enc1 (L.getD n none)).length<=_
  rw [List.length_append]; omega
theorem Reads.good {v:Value} {l:List Int} (h:Reads w v l) (hg:gdB l=true):∃ p off cu,v=.slice (some ⟨p,off,none⟩) 32 cu/\p < w.heap.size/\(∀ i,i < 32->w.cell? ⟨p,off+i,none⟩=some (.int .i64 (l.getD i 0)))/\∀ f,f < 32->cBd (l.getD f 0):=by
 have hok:=gdB_ok.1 hg
 obtain ⟨ao,cap,rfl,hc,h0⟩:=h
 obtain ⟨p,off,rfl,hp,hcell⟩:=h0 (by rw [hok.1]; decide)
 rw [hok.1] at hcell |-
 exact ⟨p,off,cap,rfl,hp,hcell,fun f hf=>by have:=of_decide_eq_true (hok.2 f hf); exact this⟩
theorem cd_mid {w w2 w3 w5:World} {g m cap g3 c3 g5 c5:Nat} {xs ys part:List Int} {o:Obj} {G:Prop} (h1:BRow w2 w.heap.size (.slice (some ⟨g,0,none⟩) m cap) xs) (h2:Below w.heap.size w w2)
  (h3:BRow w3 w2.heap.size (.slice (some ⟨g3,0,none⟩) part.length c3) part) (h4:Below w2.heap.size w2 w3) (h5:BRow w5 w.heap.size (.slice (some ⟨g5,0,none⟩) (m+1) c5) ys) (h6:(w3.alloc o).grownBy w5 (Value.slice (some ⟨g,0,none⟩) m cap).ownBlock)
  (hG:Hid (BRow w5 w.heap.size (.slice (some ⟨g5,0,none⟩) (m+1) c5) ys/\Below w.heap.size w w5/\BRow w5 w2.heap.size (.slice (some ⟨g3,0,none⟩) part.length c3) part)->G):G:=by
 refine hG ?_
 have s1:=h2.size
 have s2:=h4.size
 refine ⟨h5,((h2.trans (h4.mono s1)).alloc (by omega) _).grown h6 (by simp; omega) (fun k hk=>(h1.1.lt k hk).1),?_⟩
 refine ⟨ownsRow_below h3.1 (fun k hk=>?_),h3.2⟩
 have hk3:=h3.1.lt k hk
 rw [h6.block k (by simp; omega) (fun e=>by have:=h1.1.lt k e.symm; omega)]
 exact heap_alloc_old _ _ hk3.2
theorem c_encode (v:Value) (L:List (Option (List Int))) (_hm:L.length<=maxLen) (hv:ReadsL w v L):Calls Tryz.prog 56 #[v] w (EOut w L):=by
 obtain ⟨ao,cap,rfl,hcap,h0⟩:=hv
 by_cases hbad:L.length < 1 \/ 21 < L.length
 ·have HE:Hid (encR L=([],4)):=by show encR L=_; unfold encR; rw [if_pos hbad]
  clear h0
  rcases hbad with hb | hb
  ·have hz:L.length=0:=by omega
   rw [hz]
   clear hz hb hcap
   go_enter Tryz.func56,Tryz.ntmps56
   go_wp2_with fail
   go_ret2
   exact ⟨by rw [HE.out]; rfl,Below.refl _ _⟩
  ·have hb1:((L.length:Int) == 0)=false:=by simp; intro e; rw [e] at hb; simp at hb
   have hb2:(21:Int) < (L.length:Int):=by omega
   clear hb
   go_enter Tryz.func56,Tryz.ntmps56
   go_wp2_with fail
   go_ret2
   exact ⟨by rw [HE.out]; rfl,Below.refl _ _⟩
 obtain ⟨n,hn⟩:∃ n,n=L.length:=⟨_,rfl⟩
 have n1:1<=n:=by omega
 have n2:n<=21:=by omega
 have HE:Hid (encR L=if gdA L n then ((n:Int) :: encs L n,0) else ([],3)):=by show encR L=_; unfold encR; rw [if_neg hbad,hn]; rfl
 obtain ⟨p,off,rfl,hp,hcell⟩:=h0 (by omega)
 rw [<- hn] at hcell hcap |-
 have HC:Hid (∀ i,i < n->∃ x,w.cell? ⟨p,off+i,none⟩=some x/\RdL w x (L.getD i none)):=hcell
 have hb1:((n:Int) == 0)=false:=by simp; omega
 have hb2:¬ (21:Int) < (n:Int):=by omega
 have HN:Hid (BRow (w.alloc (.cells #[.int .u8 (n:Int)] tBy)) w.heap.size (.slice (some ⟨w.heap.size,0,none⟩) 1 1) [(n:Int)]):=BRow.new w [(n:Int)] w.heap.size (Nat.le_refl _) (by simp [maxLen])
 have HB1:Hid (Below w.heap.size w (w.alloc (.cells #[.int .u8 (n:Int)] tBy))):=(Below.refl _ _).alloc (Nat.le_refl _) _
 have hq1:∀ (w:World) (a:Option Addr) (n c:Nat),(binOp .eql 32 (.slice a n c) (.slice none 0 0)).run Tryz.prog w=.ok (.bool a.isNone) w:=fun w a n c=>Lib.run_eql_slice_nil w 32 3 a n c 0 0 Tryz.underlying32
 have HStr:Hid (∀ (w:World) (b len cap:Nat) (xs:List Int),xs.length=len->(∀ i,i < len->w.cell? ⟨b,0+i,none⟩=some (.int .u8 (xs.getD i 0)))->(convert 130 9 (.slice (some ⟨b,0,none⟩) len cap)).run Tryz.prog w=.ok (.string (strOfNums xs)) w):=fun w b len cap xs h1 h2=>run_convert_bytes_arg (P:=Tryz.prog) w 130 tBy Tryz.underlying130 (by kernel_rfl) b 0 len cap xs h1 h2 9 (by kernel_rfl)
 clear hcell hcap h0 hbad _hm hn
 go_enter Tryz.func56,Tryz.ntmps56
 go_wp2_with fail
 go_loopw [4,22] (fun sl i wr=>∃ (f g cap m:Nat),f<=n/\i=.int .i64 f/\sl=.slice (some ⟨g,0,none⟩) m cap/\m<=1+98*f/\Hid (BRow wr w.heap.size (.slice (some ⟨g,0,none⟩) m cap) ((n:Int) :: encs L f)/\Below w.heap.size w wr/\gdA L f=true)) (fun _ i _=>n - (intOf i).toNat)
 case atStart=>exact ⟨0,_,_,_,by omega,rfl,rfl,by omega,HN.out,HB1.out,rfl⟩
 case round =>
  obtain ⟨f,g,cap1,m,hf,rfl,rfl,hm,HR⟩:=hrel
  have HLn:Hid (((n:Int) :: encs L f).length=m):=by
   obtain ⟨_,g',cap',e⟩:=HR.out.1
   injection e with _ e2 _; exact e2.symm
  by_cases hlt:f < n
  ·have hfi:(f:Int) < (n:Int):=by omega
   obtain ⟨x,hx,hrx⟩:=HC.out f hlt
   have cx:wr.cell? ⟨p,off+f,none⟩=some x:=(HR.out.2.1.cell (p:=⟨p,off+f,none⟩) hp).trans hx
   have HRx:Hid (RdL wr x (L.getD f none)):=hrx.keep HR.out.2.1
   have hpr:p < wr.heap.size:=Nat.lt_of_lt_of_le hp HR.out.2.1.size
   have HEq:Hid (encs L (f+1)=encs L f ++ enc1 (L.getD f none)):=rfl
   have HGd:Hid (gdA L (f+1)=(gdA L f && gdO (L.getD f none))):=rfl
   have HNo:Hid (gdO (L.getD f none)=false->gdA L n=false):=fun h=>gdA_no hlt h
   have HEl:=(show Hid (_<=_) from encs_len L (f+1))
   clear hx hrx
   generalize L.getD f none=r at *
   cases r with
   | none =>
    have hxe:x=.slice none 0 0:=HRx.out
    subst hxe
    go_wp2_with (at_builtin; refine wpList_append_b (xs:=(n:Int) :: encs L f) (ys:=[0]) rfl (.tmp 28) (.tmp 29) rfl rfl (HR.out.1.keep ((Below.refl _ _).alloc (Nat.le_refl _) _) (Nat.le_refl _)) wr.heap.size 1 rfl (by
      intro i hi
      match i,hi with
      | 0,_=>exact World.cell?_alloc_at _ _ _ _ rfl) (by rw [HLn.out]; simp; omega) (by have:=HR.out.2.1.size; simp; omega) ?_; intro v5 w5 hrow5 hgrow5)
    obtain ⟨hr5,g5,c5,rfl⟩:=id hrow5
    have e:((n:Int) :: encs L f ++ [0]).length=m+1:=by rw [List.length_append,HLn.out]; rfl
    have H5:Hid (BRow w5 w.heap.size (.slice (some ⟨g5,0,none⟩) (m+1) c5) ((n:Int) :: encs L (f+1))/\Below w.heap.size w w5/\gdA L (f+1)=true):=by
     rw [e] at hrow5
     refine ⟨by rw [HEq.out]; exact hrow5,?_,by rw [HGd.out,HR.out.2.2]; rfl⟩
     exact ((HR.out.2.1.alloc HR.out.2.1.size _).grown hgrow5 (by have:=HR.out.2.1.size; simp; omega) (fun k hk=>(HR.out.1.1.lt k hk).1))
    rw [e]
    clear hr5 hrow5 hgrow5
    go_roundw
    case rel=>exact ⟨f+1,g5,c5,m+1,by omega,by go_num,rfl,by omega,H5.out⟩
    case measure=>simp [intOf]; omega
   | some l =>
    have hil:=o_isList (w:=wr) x l HRx.out.1
    obtain ⟨a,xn,xc,rfl⟩:=HRx.out.2
    cases hg:gdB l with
    | false =>
     rw [hg] at hil
     have HF:Hid (encR L=([],3)):=by show encR L=_; rw [HE.out,HNo.out hg]; rfl
     clear hg
     go_wp2_with fail
     refine hil.mono ?_
     rintro e w2 ⟨rfl,rfl⟩
     go_wp2_with fail
     go_ret2
     exact ⟨by rw [HF.out]; rfl,HR.out.2.1⟩
    | true =>
     rw [hg] at hil
     obtain ⟨p2,off2,cu2,e2,hp2,hc2,hb2'⟩:=HRx.out.1.good hg
     injection e2 with e2 e3 e4
     injection e2 with e2
     subst e2 e3 e4
     have htb:=c_toldBounds p2 off2 xc l hp2 hc2 hb2'
     have HG1:Hid (gdO (some l)=true):=hg
     have HE1:Hid (enc1 (some l)=[1] ++ (((ct l 32:Nat):Int) :: tl l 32)):=rfl
     generalize ((ct l 32:Nat):Int) :: tl l 32=part at *
     clear hg hc2 hb2'
     go_wp2_with fail
     refine hil.mono ?_
     rintro e w2 ⟨rfl,rfl⟩
     go_wp2_with fail
     refine htb.mono ?_
     rintro e w3 ⟨v3,hrow3,rfl,hb3⟩
     obtain ⟨hr3,g3,c3,rfl⟩:=id hrow3
     have H3:Hid (BRow w3 w2.heap.size (.slice (some ⟨g3,0,none⟩) part.length c3) part/\Below w2.heap.size w2 w3/\BRow w3 w.heap.size (.slice (some ⟨g,0,none⟩) m cap1) ((n:Int) :: encs L f)):=⟨hrow3,hb3,HR.out.1.keep hb3 (Nat.le_refl _)⟩
     have HPl:Hid (part.length<=97):=by
      have h1:=enc1_len (some l)
      rw [HE1.out] at h1
      simp at h1; show part.length<=97; omega
     clear hr3 hrow3 hb3 htb hil
     have e:((n:Int) :: encs L f ++ [1]).length=m+1:=by rw [List.length_append,HLn.out]; rfl
     have HLe:Hid (((n:Int) :: encs L f ++ [1]).length=m+1):=e
     clear e
     go_wp2_with (at_builtin; first | (refine wpList_append_b (xs:=(n:Int) :: encs L f) (ys:=[1]) rfl (.tmp 36) (.tmp 37) rfl rfl (H3.out.2.2.keep ((Below.refl _ _).alloc (Nat.le_refl _) _) (Nat.le_refl _)) w3.heap.size 1 rfl (by
        intro i hi
        match i,hi with
        | 0,_=>exact World.cell?_alloc_at _ _ _ _ rfl) (by rw [HLn.out]; simp; omega) (by have:=HR.out.2.1.size; have:=H3.out.2.1.size; simp; omega) ?_; intro v5 w5 hrow5 hgrow5; obtain ⟨hr5,g5,c5,e5⟩:=id hrow5; rw [HLe.out] at e5; subst e5; refine cd_mid HR.out.1 HR.out.2.1 H3.out.1 H3.out.2.1 hrow5 hgrow5 (fun H5=>?_); clear hr5 hrow5 hgrow5) | (refine wpList_append_b (xs:=(n:Int) :: encs L f ++ [1]) (ys:=part) rfl (.tmp 39) (.tmp 40) rfl rfl H5.out.1 g3 c3 rfl H5.out.2.2.cells (by have:=HPl.out; rw [HLe.out]; omega) H5.out.2.1.size ?_; intro v6 w6 hrow6 hgrow6))
     obtain ⟨hr6,g6,c6,rfl⟩:=id hrow6
     have e':((n:Int) :: encs L f ++ [1] ++ part).length=m+1+part.length:=by rw [List.length_append,HLe.out]
     have H6:Hid (BRow w6 w.heap.size (.slice (some ⟨g6,0,none⟩) (m+1+part.length) c6) ((n:Int) :: encs L (f+1))/\Below w.heap.size w w6/\gdA L (f+1)=true):=by
      rw [e'] at hrow6
      refine ⟨by rw [HEq.out,HE1.out,<- List.append_assoc]; exact hrow6,H5.out.2.1.grown hgrow6 H5.out.2.1.size (fun k hk=>(H5.out.1.1.lt k hk).1),by rw [HGd.out,HR.out.2.2,HG1.out]; rfl⟩
     rw [e']
     have hpl:=HPl.out
     clear hr6 hrow6 hgrow6
     go_roundw
     case rel=>exact ⟨f+1,g6,c6,m+1+part.length,by omega,by go_num,rfl,by omega,H6.out⟩
     case measure=>simp [intOf]; omega
  ·have hfn:f=n:=by omega
   subst hfn
   have hs1:=HStr.out wr g m cap1 ((f:Int) :: encs L f) HLn.out (by
    intro i hi
    rw [Nat.zero_add]
    have:=HR.out.1
    rw [<- HLn.out] at this hi
    exact this.cells i hi)
   have HF:Hid (encR L=((f:Int) :: encs L f,0)):=by show encR L=_; rw [HE.out,HR.out.2.2]; rfl
   go_wp2_with fail
   go_ret2
   exact ⟨by rw [HF.out]; rfl,HR.out.2.1⟩
end Go.Proofs.YtffajooegiempaaGreatDoor

namespace Go.Proofs.YtffajooegiempaaGreatDoor
open Go.RowKit
variable {w:World}
theorem son_app (xs ys:List Int):strOfNums (xs ++ ys)=strOfNums xs ++ strOfNums ys:=by
 apply ByteArray.ext
 simp [strOfNums,ByteArray.data_append]
theorem run_str_new (w:World) (xs:List Int):(convert 130 9 (.slice (some ⟨w.heap.size,0,none⟩) xs.length xs.length)).run Tryz.prog (w.alloc (.cells (byv xs).toArray tBy))=.ok (.string (strOfNums xs)) (w.alloc (.cells (byv xs).toArray tBy)):=by
 refine run_convert_bytes_arg (P:=Tryz.prog) _ 130 tBy Tryz.underlying130 (by kernel_rfl) w.heap.size 0 xs.length xs.length xs rfl ?_ 9 (by kernel_rfl)
 intro i hi
 rw [Nat.zero_add]
 exact (World.cell?_alloc_at _ _ _ _ rfl).trans (show (byv xs).toArray[i]?=some (.int .u8 (xs.getD i 0)) by simp [byv,List.getD,hi])
theorem r_told (p off cu:Nat) (l:List Int) (hp:p < w.heap.size) (hc:∀ i,i < 32->w.cell? ⟨p,off+i,none⟩=some (.int .i64 (l.getD i 0))) (hb:∀ f,f < 32->cBd (l.getD f 0)) :
  Calls Tryz.prog 100 #[.slice (some ⟨p,off,none⟩) 32 cu] w fun e w'=>e=.returned (.string (strOfNums (enc1 (some l))))/\Below w.heap.size w w':=by
 have HC:Hid (∀ i,i < 32->w.cell? ⟨p,off+i,none⟩=some (.int .i64 (l.getD i 0))):=hc
 have HB:Hid (∀ f,f < 32->cBd (l.getD f 0)):=hb
 obtain ⟨T,hT⟩:∃ T,T=tl l:=⟨_,rfl⟩
 obtain ⟨C,hC⟩:∃ C,C=ct l:=⟨_,rfl⟩
 have HT:Hid (∀ f,T (f+1)=T f ++ (if l.getD f 0=1000000 then [] else b3 (f,l.getD f 0))):=by rw [hT]; exact tl_succ l
 have HS:Hid (∀ f,C (f+1)=C f+(if l.getD f 0=1000000 then 0 else 1)):=by rw [hC]; exact ct_succ l
 have HL:Hid (∀ f,C f<=f):=by rw [hC]; exact ct_le l
 have HTL:Hid (∀ f,(T f).length=3*C f):=by rw [hT,hC]; exact tl_len l
 have HZ:Hid (T 0=[]/\C 0=0):=by rw [hT,hC]; exact ⟨rfl,rfl⟩
 have HE:Hid (enc1 (some l)=[1,((C 32:Nat):Int)] ++ T 32):=by show _=_; rw [hT,hC,enc1_some]; simp only [List.cons_append,List.nil_append]
 have hs3:∀ (w:World) (x y z:Int),(convert 130 9 (.slice (some ⟨w.heap.size,0,none⟩) 3 3)).run Tryz.prog (w.alloc (.cells #[.int .u8 x,.int .u8 y,.int .u8 z] tBy))=.ok (.string (strOfNums [x,y,z])) (w.alloc (.cells #[.int .u8 x,.int .u8 y,.int .u8 z] tBy)):=fun w x y z=>run_str_new w [x,y,z]
 have hs2:∀ (w:World) (x y:Int),(convert 130 9 (.slice (some ⟨w.heap.size,0,none⟩) 2 2)).run Tryz.prog (w.alloc (.cells #[.int .u8 x,.int .u8 y] tBy))=.ok (.string (strOfNums [x,y])) (w.alloc (.cells #[.int .u8 x,.int .u8 y] tBy)):=fun w x y=>run_str_new w [x,y]
 have hz3:∀ x y z:Int,(strOfNums [x,y,z]).size=3:=fun _ _ _=>rfl
 have hz2:∀ x y:Int,(strOfNums [x,y]).size=2:=fun _ _=>rfl
 rw [HE.out]
 clear hc hb hT hC HE
 go_enter Tryz.func100,Tryz.ntmps100
 go_wp2_with fail
 go_loopw [3,4,5] (fun t s i wr=>∃ (f cf:Nat) (S:ByteArray),f<=32/\i=.int .i64 f/\t=.int .i64 (cf:Int)/\cf<=32/\s=.string S/\S.size<=96/\Hid (S=strOfNums (T f)/\cf=C f/\Below w.heap.size w wr)) (fun _ _ i _=>32 - (intOf i).toNat)
 case atStart=>exact ⟨0,0,_,by omega,rfl,rfl,by omega,rfl,by decide,by rw [HZ.out.1]; rfl,HZ.out.2.symm,Below.refl _ _⟩
 case round =>
  obtain ⟨f,cf,S,hf,rfl,rfl,hcf,rfl,hS,HR⟩:=hrel
  by_cases hlt:f < 32
  ·have hfi:(f:Int) < 32:=by omega
   have cx:wr.cell? ⟨p,off+f,none⟩=some (.int .i64 (l.getD f 0)):=(HR.out.2.2.cell (p:=⟨p,off+f,none⟩) hp).trans (HC.out f hlt)
   have hpr:p < wr.heap.size:=Nat.lt_of_lt_of_le hp HR.out.2.2.size
   have HEq:=(show Hid (_=_) from HT.out f)
   have HEc:=(show Hid (_=_) from HS.out f)
   have HBf:=(show Hid (cBd _) from HB.out f hlt)
   generalize l.getD f 0=x at *
   by_cases e1:x=1000000
   ·have e1':(x != 1000000)=false:=by rw [e1]; rfl
    have HX:Hid (T (f+1)=T f/\C (f+1)=C f):=⟨by rw [HEq.out,if_pos e1,List.append_nil],by rw [HEc.out,if_pos e1]; rfl⟩
    go_wp2_with fail
    go_roundw
    case rel=>exact ⟨f+1,cf,S,by omega,by go_num,rfl,hcf,rfl,hS,by rw [HX.out.1]; exact HR.out.1,by rw [HX.out.2]; exact HR.out.2.1,HR.out.2.2⟩
    case measure=>simp [intOf]; omega
   ·have e1':(x != 1000000)=true:=by rw [bne_iff_ne]; exact e1
    obtain ⟨x1,x2⟩:-4000<=x/\x<=4000:=HBf.out.resolve_left e1
    have HX:Hid (T (f+1)=T f ++ [(f:Int),(x+4000) / 256,(x+4000) % 256]/\C (f+1)=C f+1):=⟨by rw [HEq.out,if_neg e1]; rfl,by rw [HEc.out,if_neg e1]⟩
    have r1:=c_quo (x+4000) (by omega)
    have r2:=c_rem (x+4000) (by omega)
    have y1:0<=(x+4000) / 256:=by omega
    have y2:(x+4000) / 256<=255:=by omega
    have y3:0<=(x+4000) % 256:=by omega
    have y4:(x+4000) % 256<=255:=by omega
    generalize (x+4000) / 256=ya at *
    generalize (x+4000) % 256=yb at *
    have hc1:cf+1<=32:=by have:=HL.out f; have:=HR.out.2.1; omega
    have HS3:Hid ((S ++ strOfNums [(f:Int),ya,yb]).size<=96):=by
     show _<=_
     rw [ByteArray.size_append',hz3,HR.out.1,strOfNums_size,HTL.out,<- HR.out.2.1]; omega
    go_wp2_with fail
    go_roundw
    case rel=>exact ⟨f+1,cf+1,S ++ strOfNums [(f:Int),ya,yb],by omega,by go_num,by go_num,hc1,rfl,HS3.out,by rw [HX.out.1,son_app,<- HR.out.1],by rw [HX.out.2,HR.out.2.1],HR.out.2.2.alloc HR.out.2.2.size _⟩
    case measure=>simp [intOf]; omega
  ·have hf32:f=32:=by omega
   subst hf32
   go_wp2_with fail
   go_ret
   exact ⟨by rw [show (1 :: ((C 32:Nat):Int) :: T 32)=[1,((C 32:Nat):Int)] ++ T 32 from rfl,son_app,<- HR.out.1,<- HR.out.2.1]; rfl,HR.out.2.2.alloc HR.out.2.2.size _⟩
theorem r_encode (v:Value) (L:List (Option (List Int))) (_hm:L.length<=maxLen) (hlm:∀ i l,L.getD i none=some l->l.length<=1073741824) (hv:ReadsL w v L):Calls Tryz.prog 66 #[v] w (EOut w L):=by
 obtain ⟨ao,cap,rfl,hcap,h0⟩:=hv
 by_cases hbad:L.length < 1 \/ 21 < L.length
 ·have HE:Hid (encR L=([],4)):=by show encR L=_; unfold encR; rw [if_pos hbad]
  clear h0 hlm
  rcases hbad with hb | hb
  ·have hz:L.length=0:=by omega
   rw [hz]
   clear hz hb hcap
   go_enter Tryz.func66,Tryz.ntmps66
   go_wp2_with fail
   go_ret2
   exact ⟨by rw [HE.out]; rfl,Below.refl _ _⟩
  ·have hb1:¬ (L.length:Int) < 1:=by omega
   have hb2:(21:Int) < (L.length:Int):=by omega
   clear hb
   go_enter Tryz.func66,Tryz.ntmps66
   go_wp2_with fail
   go_ret2
   exact ⟨by rw [HE.out]; rfl,Below.refl _ _⟩
 obtain ⟨n,hn⟩:∃ n,n=L.length:=⟨_,rfl⟩
 have n1:1<=n:=by omega
 have n2:n<=21:=by omega
 have HE:Hid (encR L=if gdA L n then ((n:Int) :: encs L n,0) else ([],3)):=by show encR L=_; unfold encR; rw [if_neg hbad,hn]; rfl
 obtain ⟨p,off,rfl,hp,hcell⟩:=h0 (by omega)
 rw [<- hn] at hcell hcap |-
 have HC:Hid (∀ i,i < n->∃ x,w.cell? ⟨p,off+i,none⟩=some x/\RdL w x (L.getD i none)):=hcell
 have HLm:Hid (∀ i l,L.getD i none=some l->l.length<=1073741824):=hlm
 have hb1:¬ (n:Int) < 1:=by omega
 have hb2:¬ (21:Int) < (n:Int):=by omega
 have HB1:Hid (Below w.heap.size w (w.alloc (.cells #[.int .u8 (n:Int)] tBy))):=(Below.refl _ _).alloc (Nat.le_refl _) _
 have hq1:∀ (w:World) (a:Option Addr) (n c:Nat),(binOp .eql 32 (.slice a n c) (.slice none 0 0)).run Tryz.prog w=.ok (.bool a.isNone) w:=fun w a n c=>Lib.run_eql_slice_nil w 32 3 a n c 0 0 Tryz.underlying32
 have hs1:∀ (w:World) (x:Int),(convert 130 9 (.slice (some ⟨w.heap.size,0,none⟩) 1 1)).run Tryz.prog (w.alloc (.cells #[.int .u8 x] tBy))=.ok (.string (strOfNums [x])) (w.alloc (.cells #[.int .u8 x] tBy)):=fun w x=>run_str_new w [x]
 clear hcell hcap h0 hbad hlm _hm hn
 go_enter Tryz.func66,Tryz.ntmps66
 go_wp2_with fail
 go_loopw [4,5] (fun s i wr=>∃ (f:Nat) (S:ByteArray),f<=n/\i=.int .i64 f/\s=.string S/\S.size<=3000/\Hid (S=strOfNums ((n:Int) :: encs L f)/\Below w.heap.size w wr/\gdA L f=true)) (fun _ i _=>n - (intOf i).toNat)
 case atStart=>exact ⟨0,_,by omega,rfl,rfl,by rw [strOfNums_size]; simp,rfl,HB1.out,rfl⟩
 case round =>
  obtain ⟨f,S,hf,rfl,rfl,hS,HR⟩:=hrel
  by_cases hlt:f < n
  ·have hfi:(f:Int) < (n:Int):=by omega
   obtain ⟨x,hx,hrx⟩:=HC.out f hlt
   have cx:wr.cell? ⟨p,off+f,none⟩=some x:=(HR.out.2.1.cell (p:=⟨p,off+f,none⟩) hp).trans hx
   have HRx:Hid (RdL wr x (L.getD f none)):=hrx.keep HR.out.2.1
   have hpr:p < wr.heap.size:=Nat.lt_of_lt_of_le hp HR.out.2.1.size
   have HEq:Hid (encs L (f+1)=encs L f ++ enc1 (L.getD f none)):=rfl
   have HGd:Hid (gdA L (f+1)=(gdA L f && gdO (L.getD f none))):=rfl
   have HNo:Hid (gdO (L.getD f none)=false->gdA L n=false):=fun h=>gdA_no hlt h
   have HLf:Hid (∀ l,L.getD f none=some l->l.length<=1073741824):=HLm.out f
   have HEl:=(show Hid (_<=_) from encs_len L (f+1))
   have HSn:Hid (∀ y:List Int,enc1 (L.getD f none)=y->(S ++ strOfNums y).size<=3000/\S ++ strOfNums y=strOfNums ((n:Int) :: encs L (f+1))):=by
    intro y hy
    have e:S ++ strOfNums y=strOfNums ((n:Int) :: encs L (f+1)):=by rw [HEq.out,hy,HR.out.1,<- son_app]; rfl
    refine ⟨?_,e⟩
    have h1:=HEl.out
    rw [e,strOfNums_size]
    simp only [List.length_cons]
    omega
   clear hx hrx
   generalize L.getD f none=r at *
   cases r with
   | none =>
    have hxe:x=.slice none 0 0:=HRx.out
    subst hxe
    have HSn1:=(show Hid (_/\_) from HSn.out [0] rfl)
    go_wp2_with fail
    go_roundw
    case rel=>exact ⟨f+1,_,by omega,by go_num,rfl,HSn1.out.1,HSn1.out.2,HR.out.2.1,by rw [HGd.out,HR.out.2.2]; rfl⟩
    case measure=>simp [intOf]; omega
   | some l =>
    have hgd:=r_good (w:=wr) x l (HLf.out l rfl) HRx.out.1
    have HSn1:=(show Hid (_/\_) from HSn.out _ rfl)
    obtain ⟨a,xn,xc,rfl⟩:=HRx.out.2
    cases hg:gdB l with
    | false =>
     rw [hg] at hgd
     have HF:Hid (encR L=([],3)):=by show encR L=_; rw [HE.out,HNo.out hg]; rfl
     clear hg
     go_wp2_with fail
     refine hgd.mono ?_
     rintro e w2 ⟨rfl,rfl⟩
     go_wp2_with fail
     go_ret2
     exact ⟨by rw [HF.out]; rfl,HR.out.2.1⟩
    | true =>
     rw [hg] at hgd
     obtain ⟨p2,off2,cu2,e2,hp2,hc2,hb2'⟩:=HRx.out.1.good hg
     injection e2 with e2 e3 e4
     injection e2 with e2
     subst e2 e3 e4
     have htb:=r_told p2 off2 xc l hp2 hc2 hb2'
     have HG1:Hid (gdO (some l)=true):=hg
     have hel:=enc1_len (some l)
     have hes:(strOfNums (enc1 (some l))).size<=98:=by rw [strOfNums_size]; exact hel
     generalize strOfNums (enc1 (some l))=part at *
     clear hg hc2 hb2' hel
     go_wp2_with fail
     refine hgd.mono ?_
     rintro e w2 ⟨rfl,rfl⟩
     go_wp2_with fail
     refine htb.mono ?_
     rintro e w3 ⟨rfl,hb3⟩
     have H3:Hid (Below w.heap.size w w3):=HR.out.2.1.trans (hb3.mono HR.out.2.1.size)
     clear hb3 htb hgd
     go_wp2_with fail
     go_roundw
     case rel=>exact ⟨f+1,_,by omega,by go_num,rfl,HSn1.out.1,HSn1.out.2,H3.out,by rw [HGd.out,HR.out.2.2,HG1.out]; rfl⟩
     case measure=>simp [intOf]; omega
  ·have hfn:f=n:=by omega
   subst hfn
   have HF:Hid (encR L=((f:Int) :: encs L f,0)):=by show encR L=_; rw [HE.out,HR.out.2.2]; rfl
   go_wp2_with fail
   go_ret2
   exact ⟨by rw [HF.out,<- HR.out.1]; rfl,HR.out.2.1⟩
end Go.Proofs.YtffajooegiempaaGreatDoor

namespace Go.Proofs.YtffajooegiempaaGreatDoor
def bytesOf (s:ByteArray):List Int:=s.data.toList.map fun b=>(b.toNat:Int)
theorem bytesOf_len (s:ByteArray):(bytesOf s).length=s.size:=by simp [bytesOf]
theorem bytesOf_take (s:ByteArray) (k:Nat) (h:k < s.size):(bytesOf s).take (k+1)=(bytesOf s).take k ++ [((s[k]).toNat:Int)]:=by
 rw [List.take_succ_eq_append_getElem (by rw [bytesOf_len]; exact h)]
 simp [bytesOf]; rfl
theorem bytesOf_get (s:ByteArray) (k:Nat) (h:k < s.size):(bytesOf s)[k]?=some ((s[k]).toNat:Int):=by
 rw [List.getElem?_eq_getElem (by rw [bytesOf_len]; exact h)]
 simp [bytesOf]; rfl
end Go.Proofs.YtffajooegiempaaGreatDoor

namespace Go.Proofs.YtffajooegiempaaGreatDoor
open Go.RowKit
variable {w:World} {r:Nat} {s:ByteArray} {d:CSt}
abbrev tCr:TypeId:=155
def Cat (w:World) (r:Nat) (s:ByteArray) (d:CSt):Prop:=At w r #[.string s,.int .i64 d.1,.bool d.2] tCr
theorem Cat.cells (h:Cat w r s d):w.cell? ⟨r,0,none⟩=some (.string s)/\w.cell? ⟨r,1,none⟩=some (.int .i64 d.1)/\w.cell? ⟨r,2,none⟩=some (.bool d.2)/\∀ i,w.frozen? ⟨r,i,none⟩=false :=
 ⟨h.cell 0,h.cell 1,h.cell 2,h.free⟩
theorem Cat.drewN (h:Cat w r s d) (k:Nat):Cat (w.drewN k) r s d:=h
theorem Cat.step (h:Cat w r s d):Cat (w.setCell ⟨r,1,none⟩ (.int .i64 ((d.1:Int)+1))) r s (d.1+1,d.2):=by
 have:=At.put h 1 (.int .i64 ((d.1:Int)+1))
 exact this
theorem Cat.stick (h:Cat w r s d):Cat (w.setCell ⟨r,2,none⟩ (.bool true)) r s (d.1,true):=by
 have:=At.put h 2 (.bool true)
 exact this
theorem bys (s:ByteArray):Bys (bytesOf s):=by
 intro i hi
 rw [bytesOf_len] at hi
 rw [List.getD_eq_getElem?_getD,bytesOf_get s i hi]
 have:=(s[i]).toNat_lt
 simp only [Option.getD_some]
 omega
def COut (w:World) (r:Nat) (s:ByteArray) (d':CSt) (v:Value):Ending->World->Prop:=fun e w'=>e=.returned v/\Cat w' r s d'/\Onl r w w'
theorem c_peek (h:Cat w r s d) (_hs:s.size<=9223372036854775807) (hd:d.1<=s.size) :
  Calls Tryz.prog 143 #[.pointer (some ⟨r,0,none⟩)] w fun e w'=>e=.returned (.int .i64 (pkc (bytesOf s) d))/\∃ k,w'=w.drewN k:=by
 obtain ⟨c0,c1,c2,cf⟩:=h.cells
 obtain ⟨a,b⟩:=d
 simp only at c0 c1 c2 hd
 have a0:decide (((a:Nat):Int) < 0)=false:=decide_eq_false (by omega)
 by_cases hl:a < s.size
 ·have HP:Hid (pkc (bytesOf s) (a,b)=((s[a]).toNat:Int)):=by show pkc _ _=_; unfold pkc; rw [if_pos (by rw [bytesOf_len]; exact hl),List.getD_eq_getElem?_getD,bytesOf_get s a hl]; rfl
  have a1:decide (((s.size:Nat):Int)<=(a:Int))=false:=decide_eq_false (by omega)
  have i1:((a:Nat):Int) < ((s.size:Nat):Int):=by omega
  have hw:wrap64 ((s[a]).toNat:Int)=((s[a]).toNat:Int):=by have:=(s[a]).toNat_lt; unfold wrap64; omega
  clear h
  go_enter Tryz.func143,Tryz.ntmps143
  go_wp2
  go_quiet (fail)
  go_wp2
  go_quiet (fail)
  go_wp2
  go_ret
  exact ⟨by rw [HP.out]; show Ending.returned (.int .i64 (wrap64 _))=_; rw [hw],_,World.drewN_drewN _ _ _⟩
 ·have HP:Hid (pkc (bytesOf s) (a,b)=-1):=by show pkc _ _=_; unfold pkc; rw [if_neg (by rw [bytesOf_len]; exact hl)]
  have a1:decide (((s.size:Nat):Int)<=(a:Int))=true:=decide_eq_true (by omega)
  clear h
  go_enter Tryz.func143,Tryz.ntmps143
  go_wp2
  go_quiet (fail)
  go_wp2
  go_ret
  exact ⟨by rw [HP.out]; rfl,_,rfl⟩
theorem c_number (h:Cat w r s d) (hs:s.size<=9223372036854775807) (hd:d.1<=s.size) (lo hi:Int) (hlo:0<=lo) :
  Calls Tryz.prog 117 #[.pointer (some ⟨r,0,none⟩),.int .i64 lo,.int .i64 hi] w (COut w r s (numF (bytesOf s) lo hi d).2 (.int .i64 (numF (bytesOf s) lo hi d).1)):=by
 have hp:=c_peek h hs hd
 obtain ⟨c0,c1,c2,cf⟩:=h.cells
 have HC:Hid (Cat w r s d):=h
 have hr:=h.lt
 have HD:Hid (lo<=pkc (bytesOf s) d->d.1 < s.size):=by
  intro hh
  unfold pkc at hh
  rw [bytesOf_len] at hh
  by_cases q:d.1 < s.size
  ·exact q
  ·rw [if_neg q] at hh; omega
 have HN:Hid (numF (bytesOf s) lo hi d=if pkc (bytesOf s) d < lo \/ hi < pkc (bytesOf s) d then (0,(d.1,true)) else (pkc (bytesOf s) d,(d.1+1,d.2))):=rfl
 generalize pkc (bytesOf s) d=x at *
 by_cases hq:x < lo \/ hi < x
 ·have HX:Hid (numF (bytesOf s) lo hi d=(0,(d.1,true))):=HN.out.trans (if_pos hq)
  clear h hlo HN
  rcases Int.lt_or_le x lo with q | q
  ·have q':decide (x < lo)=true:=decide_eq_true q
   clear hq
   go_enter Tryz.func117,Tryz.ntmps117
   go_wp2_with (go_at_call 143; refine hp.mono ?_; rintro e w' ⟨rfl,k,rfl⟩)
   go_ret
   rw [HX.out]
   exact ⟨rfl,(HC.out.drewN k).stick,((Onl.refl _ _).drewN _).setCell _ _⟩
  ·have q':decide (x < lo)=false:=decide_eq_false (by omega)
   have q2:hi < x:=by omega
   clear hq
   go_enter Tryz.func117,Tryz.ntmps117
   go_wp2_with (go_at_call 143; refine hp.mono ?_; rintro e w' ⟨rfl,k,rfl⟩)
   go_ret
   rw [HX.out]
   exact ⟨rfl,(HC.out.drewN k).stick,((Onl.refl _ _).drewN _).setCell _ _⟩
 ·have HX:Hid (numF (bytesOf s) lo hi d=(x,(d.1+1,d.2))):=HN.out.trans (if_neg hq)
  have q':¬ x < lo:=by omega
  have q2:¬ hi < x:=by omega
  have hd1:=HD.out (by omega)
  clear h hlo HN hq HD
  go_enter Tryz.func117,Tryz.ntmps117
  go_wp2_with (go_at_call 143; refine hp.mono ?_; rintro e w' ⟨rfl,k,rfl⟩)
  go_ret
  rw [HX.out]
  exact ⟨rfl,(HC.out.drewN k).step,((Onl.refl _ _).drewN _).setCell _ _⟩
theorem num_at {lo hi:Int} (h0:0<=lo) (hd:d.1<=s.size):(numF (bytesOf s) lo hi d).2.1<=s.size:=by
 have:=(num_range (bys s) lo hi h0 d).2.2
 rw [bytesOf_len] at this
 omega
theorem c_bound (h:Cat w r s d) (hs:s.size<=9223372036854775807) (hd:d.1<=s.size) :
  Calls Tryz.prog 155 #[.pointer (some ⟨r,0,none⟩)] w (COut w r s (bdF (bytesOf s) d).2 (.int .i64 (bdF (bytesOf s) d).1)):=by
 have h1:=c_number h hs hd 0 255 (by omega)
 have HE:Hid (bdF (bytesOf s) d=((numF (bytesOf s) 0 255 d).1*256+(numF (bytesOf s) 0 255 (numF (bytesOf s) 0 255 d).2).1 - 4000,((numF (bytesOf s) 0 255 (numF (bytesOf s) 0 255 d).2).2.1,if 8000 < (numF (bytesOf s) 0 255 d).1*256+(numF (bytesOf s) 0 255 (numF (bytesOf s) 0 255 d).2).1 then true else (numF (bytesOf s) 0 255 (numF (bytesOf s) 0 255 d).2).2.2))):=rfl
 have r1:=num_range (bys s) 0 255 (by omega) d
 have r2:=num_range (bys s) 0 255 (by omega) (numF (bytesOf s) 0 255 d).2
 have hd1:=num_at (s:=s) (lo:=0) (hi:=255) (by omega) hd
 have H2:Hid (∀ w1,Cat w1 r s (numF (bytesOf s) 0 255 d).2->Calls Tryz.prog 117 #[.pointer (some ⟨r,0,none⟩),.int .i64 0,.int .i64 255] w1 (COut w1 r s (numF (bytesOf s) 0 255 (numF (bytesOf s) 0 255 d).2).2 (.int .i64 (numF (bytesOf s) 0 255 (numF (bytesOf s) 0 255 d).2).1))):=fun w1 hc=>c_number hc hs hd1 0 255 (by omega)
 rw [HE.out]
 clear h HE hd1
 generalize numF (bytesOf s) 0 255 d=x at *
 generalize numF (bytesOf s) 0 255 x.2=y at *
 obtain ⟨x1,x2⟩:=x
 obtain ⟨y1,y2⟩:=y
 simp only at r1 r2 |-
 obtain ⟨r1a,r1b,-⟩:=r1
 obtain ⟨r2a,r2b,-⟩:=r2
 by_cases hq:8000 < x1*256+y1
 ·rw [if_pos hq]
  go_enter Tryz.func155,Tryz.ntmps155
  go_wp2_with fail
  refine h1.mono ?_
  rintro e w1 ⟨rfl,hc1,ho1⟩
  have h2:=H2.out w1 hc1
  have HO1:Hid (Onl r w w1):=ho1
  clear hc1 ho1 h1 H2
  go_wp2_with fail
  refine h2.mono ?_
  rintro e w2 ⟨rfl,hc2,ho2⟩
  obtain ⟨c0,c1,c2,cf⟩:=hc2.cells
  have hr2:=hc2.lt
  have HC2:Hid (Cat w2 r s y2):=hc2
  have HO2:Hid (Onl r w w2):=HO1.out.trans ho2
  clear hc2 ho2 h2
  go_wp2_with fail
  go_ret
  exact ⟨rfl,HC2.out.stick,HO2.out.setCell _ _⟩
 ·rw [if_neg hq]
  go_enter Tryz.func155,Tryz.ntmps155
  go_wp2_with fail
  refine h1.mono ?_
  rintro e w1 ⟨rfl,hc1,ho1⟩
  have h2:=H2.out w1 hc1
  have HO1:Hid (Onl r w w1):=ho1
  clear hc1 ho1 h1 H2
  go_wp2_with fail
  refine h2.mono ?_
  rintro e w2 ⟨rfl,hc2,ho2⟩
  obtain ⟨c0,c1,c2,cf⟩:=hc2.cells
  have hr2:=hc2.lt
  have HC2:Hid (Cat w2 r s y2):=hc2
  have HO2:Hid (Onl r w w2):=HO1.out.trans ho2
  clear hc2 ho2 h2
  go_wp2_with fail
  go_ret
  exact ⟨rfl,HC2.out,HO2.out⟩
end Go.Proofs.YtffajooegiempaaGreatDoor

