import Derived.Test.YtffajooegiempaaGreatDoorRows
import Derived.WalkKit
import Derived.WalkSpells
import Derived.WalkLawsBesides
import Derived.BigQuiet
import Derived.Deep.QuietTactic
import Derived.Laws.CopyOwn
import Derived.Laws.MakeOwn
set_option maxRecDepth 100000
set_option maxHeartbeats 6400000
namespace Go.Proofs.YtffajooegiempaaGreatDoor
open Go.RowKit
def varOf (c:Int):Int:=if 97<=c/\c<=100 then c - 97 else -1
def At (w:World) (b:Nat) (c:Array Value) (t:TypeId):Prop:=w.heap[b]?=some (.cells c t (0,0))
theorem At.cell {w:World} {b:Nat} {c:Array Value} {t:TypeId} (h:At w b c t) (i:Nat):w.cell? ⟨b,i,none⟩=c[i]?:=by
 unfold At at h; simp [World.cell?,h]
theorem At.free {w:World} {b:Nat} {c:Array Value} {t:TypeId} (h:At w b c t) (i:Nat):w.frozen? ⟨b,i,none⟩=false:=by
 unfold At at h; simp [World.frozen?,h]
theorem At.lt {w:World} {b:Nat} {c:Array Value} {t:TypeId} (h:At w b c t):b < w.heap.size:=lt_of_block h
theorem At.ne {w:World} {a b:Nat} {c d:Array Value} {t u:TypeId} (h:At w a c t) (k:At w b d u) (hn:t ≠ u):a ≠ b:=by
 intro e; subst e; unfold At at h k; rw [h] at k; simp at k; exact hn k.2
theorem At.same {w w':World} {b:Nat} {c:Array Value} {t:TypeId} (h:At w b c t) (k:w'.heap[b]?=w.heap[b]?):At w' b c t:=by
 unfold At at *; rw [k]; exact h
theorem At.other {w:World} {b:Nat} {c:Array Value} {t:TypeId} (h:At w b c t) {a:Nat} (o:Nat) (u:Value) (hn:b ≠ a):At (w.setCell ⟨a,o,none⟩ u) b c t :=
 h.same (Below.heap_setCell _ _ _ _ hn)
theorem At.put {w:World} {b:Nat} {c:Array Value} {t:TypeId} (h:At w b c t) (o:Nat) (u:Value):At (w.setCell ⟨b,o,none⟩ u) b (c.setIfInBounds o u) t:=by
 have hlt:=h.lt
 unfold At at *
 have h':w.heap[b]=.cells c t (0,0):=by simpa [Array.getElem?_eq_getElem hlt] using h
 show (w.heap.modify b _)[b]?=_
 rw [Array.getElem?_eq_getElem (by simpa using hlt),Array.getElem_modify_self,h']
 rfl
theorem At.drewN {w:World} {b:Nat} {c:Array Value} {t:TypeId} (h:At w b c t) (k:Nat):At (w.drewN k) b c t:=h
theorem mul_wrap (a b:Int) (h0:-1<=a) (h1:a<=1) (h2:-99<=b) (h3:b<=99):wrap64 (a*b)=a*b:=by
 have:-99<=a*b/\a*b<=99:=by
  rcases (show a=-1 \/ a=0 \/ a=1 by omega) with rfl | rfl | rfl <;> omega
 unfold wrap64; omega
end Go.Proofs.YtffajooegiempaaGreatDoor

namespace Go.Proofs.YtffajooegiempaaGreatDoor
open Go.RowKit
def ic (l:List Int):Array Value:=(l.map (Value.int .i64)).toArray
theorem ic_get (l:List Int) (i:Nat) (h:i < l.length):(ic l)[i]?=some (.int .i64 (l.getD i 0)):=by
 simp [ic,List.getD,h]
theorem ic_set (l:List Int) (i:Nat) (x:Int):(ic l).setIfInBounds i (.int .i64 x)=ic (l.set i x):=by simp [ic,List.map_set]
def Reads (w:World) (v:Value) (l:List Int):Prop :=
 ∃ ao cap,v=.slice ao l.length cap/\l.length<=cap/\(l.length ≠ 0->∃ b off,ao=some ⟨b,off,none⟩/\b < w.heap.size/\∀ i,i < l.length->w.cell? ⟨b,off+i,none⟩=some (.int .i64 (l.getD i 0)))
theorem Reads.keep {w w':World} {v:Value} {l:List Int} (h:Reads w v l) (hb:Below w.heap.size w w'):Reads w' v l:=by
 obtain ⟨ao,cap,hv,hc,h0⟩:=h
 refine ⟨ao,cap,hv,hc,fun hn=>?_⟩
 obtain ⟨b,off,ha,hlt,hcell⟩:=h0 hn
 exact ⟨b,off,ha,Nat.lt_of_lt_of_le hlt hb.size,fun i hi=>(hb.cell (by exact hlt)).trans (hcell i hi)⟩
theorem Reads.at_ {w:World} {g n cap:Nat} {l:List Int} {c:Array Value} {t:TypeId} (h:At w g c t) (hn:l.length=n) (hcap:n<=cap) (hc:∀ i,i < n->c[i]?=some (.int .i64 (l.getD i 0))):Reads w (.slice (some ⟨g,0,none⟩) n cap) l:=by
 subst hn
 exact ⟨_,cap,rfl,hcap,fun _=>⟨g,0,rfl,h.lt,fun i hi=>by rw [Nat.zero_add,h.cell]; exact hc i hi⟩⟩
theorem drewN_two (w:World) (j k:Nat):(w.drewN j).drewN k=w.drewN (j+k):=by
 first | rfl | (induction k with | zero=>rfl | succ k ih=>rw [<- Nat.add_assoc]; show ((w.drewN j).drewN k).drew=_; rw [ih]; rfl) | simp [World.drewN,Nat.add_assoc]
end Go.Proofs.YtffajooegiempaaGreatDoor

namespace Go.Proofs.YtffajooegiempaaGreatDoor
open Go.RowKit
def tpC (l:List Int):Nat->List (Nat × Int)
 | 0=>[]
 | n+1=>tpC l n ++ (if l.getD n 0=1000000 then [] else [(n,l.getD n 0)])
def b3 (x:Nat × Int):List Int:=[(x.1:Int),(x.2+4000) / 256,(x.2+4000) % 256]
def tl (l:List Int) (n:Nat):List Int:=(tpC l n).flatMap b3
def ct (l:List Int) (n:Nat):Nat:=(tpC l n).length
theorem tl_succ (l:List Int) (n:Nat):tl l (n+1)=tl l n ++ (if l.getD n 0=1000000 then [] else b3 (n,l.getD n 0)):=by
 unfold tl
 show (tpC l n ++ _).flatMap b3=_
 split <;> simp
theorem ct_succ (l:List Int) (n:Nat):ct l (n+1)=ct l n+(if l.getD n 0=1000000 then 0 else 1):=by
 unfold ct
 show (tpC l n ++ _).length=_
 split <;> simp
theorem ct_le (l:List Int) (n:Nat):ct l n<=n:=by
 induction n with
 | zero=>exact Nat.le_refl _
 | succ n ih=>rw [ct_succ]; split <;> omega
theorem tl_len (l:List Int) (n:Nat):(tl l n).length=3*ct l n:=by
 induction n with
 | zero=>rfl
 | succ n ih=>rw [tl_succ,ct_succ,List.length_append,ih]; split <;> simp [b3] <;> omega
def enc1:Option (List Int)->List Int
 | none=>[0]
 | some l=>1 :: (ct l 32:Int) :: tl l 32
theorem enc1_some (l:List Int):enc1 (some l)=1 :: (ct l 32:Int) :: tl l 32:=rfl
def encs (L:List (Option (List Int))):Nat->List Int
 | 0=>[]
 | n+1=>encs L n ++ enc1 (L.getD n none)
def encB (L:List (Option (List Int))):List Int:=(L.length:Int) :: encs L L.length
def cBd (x:Int):Prop:=x=1000000 \/ (-4000<=x/\x<=4000)
def okp (r:Option (List Int)):Prop:=∀ l,r=some l->l.length=32/\∀ f,f < 32->cBd (l.getD f 0)
abbrev CSt:=Nat × Bool
def pkc (s:List Int) (d:CSt):Int:=if d.1 < s.length then s.getD d.1 0 else -1
def numF (s:List Int) (lo hi:Int) (d:CSt):Int × CSt :=
 if pkc s d < lo \/ hi < pkc s d then (0,(d.1,true)) else (pkc s d,(d.1+1,d.2))
def bdF (s:List Int) (d:CSt):Int × CSt :=
 let h:=numF s 0 255 d
 let k:=numF s 0 255 h.2
 (h.1*256+k.1 - 4000,(k.2.1,if 8000 < h.1*256+k.1 then true else k.2.2))
def fmF (s:List Int) (f:Nat) (x:Nat × CSt × List Int):Nat × CSt × List Int :=
 if 0 < x.1/\pkc s x.2.1=f then (x.1 - 1,(bdF s (x.2.1.1+1,x.2.1.2)).2,x.2.2 ++ [(bdF s (x.2.1.1+1,x.2.1.2)).1])
 else (x.1,x.2.1,x.2.2 ++ [1000000])
def fmsF (s:List Int) (x:Nat × CSt × List Int):Nat->Nat × CSt × List Int
 | 0=>x
 | n+1=>fmF s n (fmsF s x n)
def bsN (s:List Int) (N:Nat) (d:CSt):List Int × CSt :=
 let t:=numF s 0 32 d
 let y:=fmsF s (t.1.toNat,t.2,[]) N
 (y.2.2,(y.2.1.1,if 0 < y.1 then true else y.2.1.2))
def bsF (s:List Int) (d:CSt):List Int × CSt:=bsN s 32 d
def ptF (s:List Int) (d:CSt):Option (List Int) × CSt :=
 let c:=numF s 0 1 d
 if c.1=0 then (none,c.2) else (some (bsF s c.2).1,(bsF s c.2).2)
def ptsF (s:List Int) (x:CSt × List (Option (List Int))):Nat->CSt × List (Option (List Int))
 | 0=>x
 | n+1=>let y:=ptsF s x n; if y.1.2 then y else ((ptF s y.1).2,y.2 ++ [(ptF s y.1).1])
def decF (s:List Int):Option (List (Option (List Int))) :=
 let t:=numF s 1 21 (0,false)
 let y:=ptsF s (t.2,[]) t.1.toNat
 if y.1.2=true \/ y.1.1 ≠ s.length then none else some y.2
def Bys (s:List Int):Prop:=∀ i,i < s.length->0<=s.getD i 0/\s.getD i 0<=255
variable {s:List Int}
theorem drop_cons (s:List Int) (i:Nat) (h:i < s.length):s.drop i=s.getD i 0 :: s.drop (i+1):=by
 rw [List.drop_eq_getElem_cons h]
 simp [List.getD,h]
theorem at_drop {i:Nat} {x:Int} {r:List Int} (h:s.drop i=x :: r):i < s.length/\s.getD i 0=x/\s.drop (i+1)=r:=by
 have hi:i < s.length:=by
  rcases Nat.lt_or_ge i s.length with q | q
  ·exact q
  ·rw [List.drop_eq_nil_of_le q] at h; cases h
 rw [drop_cons s i hi] at h
 injection h with h1 h2
 exact ⟨hi,h1,h2⟩
theorem pkc_range (hB:Bys s) (d:CSt):-1<=pkc s d/\pkc s d<=255:=by
 unfold pkc
 split
 ·have:=hB d.1 (by assumption); omega
 ·omega
theorem num_range (hB:Bys s) (lo hi:Int) (h0:0<=lo) (d:CSt):0<=(numF s lo hi d).1/\(numF s lo hi d).1<=255/\((numF s lo hi d).2.1=d.1 \/ ((numF s lo hi d).2.1=d.1+1/\d.1 < s.length)):=by
 have hp:=pkc_range hB d
 unfold numF
 split
 ·exact ⟨Int.le_refl _,by omega,.inl rfl⟩
 ·refine ⟨by show 0<=pkc s d; omega,hp.2,.inr ⟨rfl,?_⟩⟩
  unfold pkc at *
  by_cases q:d.1 < s.length
  ·exact q
  ·rw [if_neg q] at *; omega
theorem num_ok {lo hi:Int} (h0:0<=lo) {d:CSt} (h:(numF s lo hi d).2.2=false):d.2=false/\d.1 < s.length/\(numF s lo hi d).1=s.getD d.1 0/\(numF s lo hi d).2.1=d.1+1/\lo<=s.getD d.1 0/\s.getD d.1 0<=hi:=by
 unfold numF at *
 by_cases q:pkc s d < lo \/ hi < pkc s d
 ·rw [if_pos q] at h; cases h
 ·rw [if_neg q] at h |-
  have q2:d.1 < s.length:=by
   rcases Nat.lt_or_ge d.1 s.length with q' | q'
   ·exact q'
   ·exfalso; unfold pkc at q; rw [if_neg (show ¬ d.1 < s.length by omega)] at q; omega
  have e:pkc s d=s.getD d.1 0:=by unfold pkc; rw [if_pos q2]
  rw [e] at q |-
  exact ⟨h,q2,rfl,rfl,by omega,by omega⟩
theorem num_yes {lo hi:Int} {i:Nat} {x:Int} {r:List Int} (h:s.drop i=x :: r) (h1:lo<=x) (h2:x<=hi):numF s lo hi (i,false)=(x,(i+1,false)):=by
 obtain ⟨a,b,_⟩:=at_drop h
 have e:pkc s (i,false)=x:=by show (if i < s.length then s.getD i 0 else -1)=x; rw [if_pos a,b]
 unfold numF
 rw [e,if_neg (by omega)]
theorem num_wrong {lo hi:Int} {d:CSt} (h:d.2=true):(numF s lo hi d).2.2=true:=by
 unfold numF; split
 ·rfl
 ·exact h
theorem bd_ok {d:CSt} (h:(bdF s d).2.2=false):d.2=false/\d.1+2<=s.length/\(bdF s d).2.1=d.1+2/\-4000<=(bdF s d).1/\(bdF s d).1<=4000 /\
  s.drop d.1=((bdF s d).1+4000) / 256 :: ((bdF s d).1+4000) % 256 :: s.drop (d.1+2):=by
 have h':(if 8000 < (numF s 0 255 d).1*256+(numF s 0 255 (numF s 0 255 d).2).1 then true else (numF s 0 255 (numF s 0 255 d).2).2.2)=false:=h
 by_cases q:8000 < (numF s 0 255 d).1*256+(numF s 0 255 (numF s 0 255 d).2).1
 ·rw [if_pos q] at h'; cases h'
 ·rw [if_neg q] at h'
  obtain ⟨a1,a2,a3,a4,a5,a6⟩:=num_ok (Int.le_refl 0) h'
  obtain ⟨b1,b2,b3,b4,b5,b6⟩:=num_ok (Int.le_refl 0) a1
  rw [b4] at a2 a3 a4 a5 a6
  have e:(bdF s d).1=s.getD d.1 0*256+s.getD (d.1+1) 0 - 4000:=by
   show (numF s 0 255 d).1*256+(numF s 0 255 (numF s 0 255 d).2).1 - 4000=_
   rw [a3,b3]
  rw [a3,b3] at q
  refine ⟨b1,by omega,a4,by omega,by omega,?_⟩
  rw [e,drop_cons s d.1 b2,drop_cons s (d.1+1) a2]
  congr 1
  ·omega
  ·congr 1
   omega
theorem bd_yes {i:Nat} {x:Int} {r:List Int} (h:s.drop i=(x+4000) / 256 :: (x+4000) % 256 :: r) (h1:-4000<=x) (h2:x<=4000):bdF s (i,false)=(x,(i+2,false)):=by
 have e1:=num_yes (lo:=0) (hi:=255) h (by omega) (by omega)
 have e2:=num_yes (lo:=0) (hi:=255) (at_drop h).2.2 (by omega) (by omega)
 unfold bdF
 simp only [e1,e2]
 rw [if_neg (by omega)]
 congr 1
 omega
theorem bd_wrong {d:CSt} (h:d.2=true):(bdF s d).2.2=true:=by
 show (if _ then true else (numF s 0 255 (numF s 0 255 d).2).2.2)=true
 split
 ·rfl
 ·exact num_wrong (num_wrong h)
theorem fm_wrong {f:Nat} {x:Nat × CSt × List Int} (h:x.2.1.2=true):(fmF s f x).2.1.2=true:=by
 unfold fmF; split
 ·exact bd_wrong h
 ·exact h
theorem fms_wrong {x:Nat × CSt × List Int} (h:x.2.1.2=true):∀ n,(fmsF s x n).2.1.2=true
 | 0=>h
 | n+1=>fm_wrong (fms_wrong h n)
theorem fms_len {x:Nat × CSt × List Int} (h:x.2.2=[]):∀ n,(fmsF s x n).2.2.length=n
 | 0=>by show x.2.2.length=0; rw [h]; rfl
 | n+1=>by
  have ih:=fms_len h n
  show (fmF s n (fmsF s x n)).2.2.length=n+1
  unfold fmF; split <;> simp [ih]
theorem tpC_app (l m:List Int):∀ n,n<=l.length->tpC (l ++ m) n=tpC l n
 | 0,_=>rfl
 | n+1,h=>by
  show tpC (l ++ m) n ++ _=tpC l n ++ _
  rw [tpC_app l m n (by omega)]
  have e:(l ++ m).getD n 0=l.getD n 0:=by simp [List.getD,List.getElem?_append_left (show n < l.length by omega)]
  rw [e]
theorem getD_snoc (l:List Int) (y:Int) (n:Nat) (h:l.length=n):(l ++ [y]).getD n 0=y:=by simp [List.getD,<- h]
theorem fms_ok (hB:Bys s) {i t:Nat}:∀ n,(fmsF s (t,(i,false),[]) n).2.1.2=false ->
  s.drop i=tl (fmsF s (t,(i,false),[]) n).2.2 n ++ s.drop (fmsF s (t,(i,false),[]) n).2.1.1/\t=(fmsF s (t,(i,false),[]) n).1+ct (fmsF s (t,(i,false),[]) n).2.2 n/\∀ f,f < n->cBd ((fmsF s (t,(i,false),[]) n).2.2.getD f 0)
 | 0,_=>⟨rfl,rfl,fun f hf=>absurd hf (by omega)⟩
 | n+1,h=>by
  have hl:(fmsF s (t,(i,false),[]) n).2.2.length=n:=fms_len rfl n
  have hf':(fmsF s (t,(i,false),[]) n).2.1.2=false:=by
   cases e:(fmsF s (t,(i,false),[]) n).2.1.2 with
   | false=>rfl
   | true=>rw [show (fmsF s (t,(i,false),[]) (n+1)).2.1.2=true from fm_wrong e] at h; cases h
  have ih:=fms_ok hB n hf'
  have hd:fmsF s (t,(i,false),[]) (n+1)=fmF s n (fmsF s (t,(i,false),[]) n):=rfl
  rw [hd] at h |-
  generalize fmsF s (t,(i,false),[]) n=x at *
  obtain ⟨t',⟨j,wr⟩,l⟩:=x
  simp only at ih hl hf' h |-
  obtain ⟨i1,i2,i3⟩:=ih
  unfold fmF at *
  by_cases q:0 < t'/\pkc s (j,wr)=n
  ·rw [if_pos q] at h |-
   simp only at h |-
   obtain ⟨b1,b2,b4,b5,b6,b7⟩:=bd_ok h
   simp only at b1 b2 b4 b7
   generalize (bdF s (j+1,wr)).1=y at *
   have hj:j < s.length:=by omega
   have hpk:s.getD j 0=n:=by have:=q.2; unfold pkc at this; rw [if_pos hj] at this; exact this
   refine ⟨?_,?_,?_⟩
   ·rw [tl_succ,getD_snoc l y n hl,if_neg (by omega)]
    unfold tl
    rw [tpC_app l [y] n (by omega),i1,b4,drop_cons s j hj,hpk,b7]
    unfold tl b3
    simp
   ·rw [ct_succ,getD_snoc l y n hl,if_neg (by omega)]
    unfold ct
    rw [tpC_app l [y] n (by omega),i2]
    unfold ct
    omega
   ·intro f hf
    by_cases e:f=n
    ·rw [e,getD_snoc l y n hl]; exact .inr ⟨b5,b6⟩
    ·have:=i3 f (by omega)
     simpa [List.getD,List.getElem?_append_left (show f < l.length by omega)] using this
  ·rw [if_neg q] at h |-
   simp only at h |-
   refine ⟨?_,?_,?_⟩
   ·rw [tl_succ,getD_snoc l _ n hl,if_pos rfl]
    unfold tl
    rw [tpC_app l _ n (by omega),i1]
    unfold tl
    simp
   ·rw [ct_succ,getD_snoc l _ n hl,if_pos rfl]
    unfold ct
    rw [tpC_app l _ n (by omega),i2]
    unfold ct
    omega
   ·intro f hf
    by_cases e:f=n
    ·rw [e,getD_snoc l _ n hl]; exact .inl rfl
    ·have:=i3 f (by omega)
     simpa [List.getD,List.getElem?_append_left (show f < l.length by omega)] using this
theorem bsN_ok (hB:Bys s) {N:Nat} {d:CSt} (h:(bsN s N d).2.2=false):d.2=false/\(bsN s N d).1.length=N/\(∀ f,f < N->cBd ((bsN s N d).1.getD f 0))/\s.drop d.1=((ct (bsN s N d).1 N:Nat):Int) :: tl (bsN s N d).1 N ++ s.drop (bsN s N d).2.1:=by
 have h':(if 0 < (fmsF s ((numF s 0 32 d).1.toNat,(numF s 0 32 d).2,[]) N).1 then true else (fmsF s ((numF s 0 32 d).1.toNat,(numF s 0 32 d).2,[]) N).2.1.2)=false:=h
 by_cases q:0 < (fmsF s ((numF s 0 32 d).1.toNat,(numF s 0 32 d).2,[]) N).1
 ·rw [if_pos q] at h'; cases h'
 rw [if_neg q] at h'
 have hn:(numF s 0 32 d).2.2=false:=by
  cases e:(numF s 0 32 d).2.2 with
  | false=>rfl
  | true=>rw [fms_wrong (x:=((numF s 0 32 d).1.toNat,(numF s 0 32 d).2,[])) e N] at h'; cases h'
 obtain ⟨a1,a2,a3,a4,a5,a6⟩:=num_ok (Int.le_refl 0) hn
 have e2:(numF s 0 32 d).2=(d.1+1,false):=Prod.ext a4 hn
 have hf:=fms_ok hB (i:=d.1+1) (t:=(numF s 0 32 d).1.toNat) N (by rw [<- e2]; exact h')
 have hl:=fms_len (s:=s) (x:=((numF s 0 32 d).1.toNat,(d.1+1,false),[])) rfl N
 have q1:(bsN s N d).1=(fmsF s ((numF s 0 32 d).1.toNat,(d.1+1,false),[]) N).2.2:=by rw [<- e2]; rfl
 have q2:(bsN s N d).2.1=(fmsF s ((numF s 0 32 d).1.toNat,(d.1+1,false),[]) N).2.1.1:=by rw [<- e2]; rfl
 rw [e2] at q
 rw [q1,q2]
 generalize fmsF s ((numF s 0 32 d).1.toNat,(d.1+1,false),[]) N=x at *
 refine ⟨a1,hl,hf.2.2,?_⟩
 rw [drop_cons s d.1 a2,hf.1,<- a3]
 have:=hf.2.1
 rw [List.cons_append]
 congr 1
 rw [a3] at *
 omega
theorem bs_ok (hB:Bys s) {d:CSt} (h:(bsF s d).2.2=false):d.2=false/\(bsF s d).1.length=32/\(∀ f,f < 32->cBd ((bsF s d).1.getD f 0))/\s.drop d.1=((ct (bsF s d).1 32:Nat):Int) :: tl (bsF s d).1 32 ++ s.drop (bsF s d).2.1:=bsN_ok hB h
theorem pt_ok (hB:Bys s) {d:CSt} (h:(ptF s d).2.2=false):d.2=false/\okp (ptF s d).1/\s.drop d.1=enc1 (ptF s d).1 ++ s.drop (ptF s d).2.1:=by
 unfold ptF at *
 simp only at *
 by_cases q:(numF s 0 1 d).1=0
 ·rw [if_pos q] at h |-
  obtain ⟨a1,a2,a3,a4,a5,a6⟩:=num_ok (Int.le_refl 0) h
  refine ⟨a1,(fun l e=>by cases e),?_⟩
  show s.drop d.1=[0] ++ s.drop (numF s 0 1 d).2.1
  rw [a4,drop_cons s d.1 a2,<- a3,q]; rfl
 ·rw [if_neg q] at h |-
  simp only at h |-
  obtain ⟨b1,b2,b3,b4⟩:=bs_ok hB h
  obtain ⟨a1,a2,a3,a4,a5,a6⟩:=num_ok (Int.le_refl 0) b1
  refine ⟨a1,(fun l e=>by injection e with e; subst e; exact ⟨b2,b3⟩),?_⟩
  rw [a4] at b4
  rw [drop_cons s d.1 a2,b4]
  show _=(1 :: ((ct _ 32:Nat):Int) :: tl _ 32) ++ _
  have:s.getD d.1 0=1:=by rw [a3] at q; omega
  rw [this]; rfl
theorem encs_app (L:List (Option (List Int))) (m:List (Option (List Int))):∀ n,n<=L.length->encs (L ++ m) n=encs L n
 | 0,_=>rfl
 | n+1,h=>by
  show encs (L ++ m) n ++ _=encs L n ++ _
  rw [encs_app L m n (by omega)]
  congr 2
  simp [List.getD,List.getElem?_append_left (show n < L.length by omega)]
theorem pts_ok (hB:Bys s) {i:Nat}:∀ n,(ptsF s ((i,false),[]) n).1.2=false ->
  (ptsF s ((i,false),[]) n).2.length=n/\(∀ r,r ∈ (ptsF s ((i,false),[]) n).2->okp r)/\s.drop i=encs (ptsF s ((i,false),[]) n).2 n ++ s.drop (ptsF s ((i,false),[]) n).1.1
 | 0,_=>⟨rfl,(fun r h=>by cases h),rfl⟩
 | n+1,h=>by
  have hd:ptsF s ((i,false),[]) (n+1)=if (ptsF s ((i,false),[]) n).1.2 then ptsF s ((i,false),[]) n else ((ptF s (ptsF s ((i,false),[]) n).1).2,(ptsF s ((i,false),[]) n).2 ++ [(ptF s (ptsF s ((i,false),[]) n).1).1]):=rfl
  cases e:(ptsF s ((i,false),[]) n).1.2 with
  | true=>rw [hd,e,if_pos rfl] at h; rw [e] at h; cases h
  | false =>
   obtain ⟨i1,i2,i3⟩:=pts_ok hB n e
   rw [hd,e,if_neg (by decide)] at h |-
   generalize ptsF s ((i,false),[]) n=x at *
   simp only at h |-
   obtain ⟨a1,a2,a3⟩:=pt_ok hB h
   refine ⟨by simp [i1],?_,?_⟩
   ·intro r hr
    rcases List.mem_append.1 hr with hr | hr
    ·exact i2 r hr
    ·rw [List.mem_singleton] at hr; rw [hr]; exact a2
   ·show _=(encs (x.2 ++ _) n ++ enc1 ((x.2 ++ _).getD n none)) ++ _
    rw [encs_app _ _ n (by omega),i3,a3]
    have e2:(x.2 ++ [(ptF s x.1).1]).getD n none=(ptF s x.1).1:=by simp [List.getD,<- i1]
    rw [e2,List.append_assoc]
theorem dec_ok (hB:Bys s) {L:List (Option (List Int))} (h:decF s=some L):s=encB L/\1<=L.length/\L.length<=21/\∀ r,r ∈ L->okp r:=by
 unfold decF at h
 simp only at h
 split at h
 ·cases h
 ·rename_i q
  injection h with h
  have q1:(ptsF s ((numF s 1 21 (0,false)).2,[]) (numF s 1 21 (0,false)).1.toNat).1.2=false:=by
   cases e:(ptsF s ((numF s 1 21 (0,false)).2,[]) (numF s 1 21 (0,false)).1.toNat).1.2 with
   | false=>rfl
   | true=>exact absurd (.inl e) q
  have q2:(ptsF s ((numF s 1 21 (0,false)).2,[]) (numF s 1 21 (0,false)).1.toNat).1.1=s.length:=by
   by_cases e:(ptsF s ((numF s 1 21 (0,false)).2,[]) (numF s 1 21 (0,false)).1.toNat).1.1=s.length
   ·exact e
   ·exact absurd (.inr e) q
  have hpw:∀ (x:CSt × List (Option (List Int))) (n:Nat),x.1.2=true->(ptsF s x n).1.2=true:=by
   intro x n hx
   induction n with
   | zero=>exact hx
   | succ n ih=>show (if (ptsF s x n).1.2 then ptsF s x n else _).1.2=true; rw [ih,if_pos rfl]; exact ih
  have hn:(numF s 1 21 (0,false)).2.2=false:=by
   cases e:(numF s 1 21 (0,false)).2.2 with
   | false=>rfl
   | true=>rw [hpw ((numF s 1 21 (0,false)).2,[]) _ e] at q1; cases q1
  obtain ⟨a1,a2,a3,a4,a5,a6⟩:=num_ok (by decide) hn
  have e2:(numF s 1 21 (0,false)).2=(1,false):=Prod.ext a4 hn
  rw [e2] at q1 q2 h
  obtain ⟨i1,i2,i3⟩:=pts_ok hB _ q1
  rw [h] at i1 i2 i3
  simp only at a2 a3 a5 a6
  rw [a3] at i1 i3 q2
  refine ⟨?_,by omega,by omega,i2⟩
  have e3:s=s.getD 0 0 :: s.drop 1:=by have:=drop_cons s 0 a2; simpa using this
  rw [e3]
  unfold encB
  rw [i3,q2,List.drop_length,List.append_nil,i1]
  congr 1
  omega
theorem tpC_split (l:List Int) (n:Nat):∀ k,∃ r,tpC l (n+k)=tpC l n ++ r/\∀ x,x ∈ r->n<=x.1/\x.1 < n+k
 | 0=>⟨[],by simp,fun x h=>by cases h⟩
 | k+1=>by
  obtain ⟨r,h1,h2⟩:=tpC_split l n k
  refine ⟨r ++ (if l.getD (n+k) 0=1000000 then [] else [(n+k,l.getD (n+k) 0)]),?_,?_⟩
  ·show tpC l (n+k) ++ (if l.getD (n+k) 0=1000000 then [] else [(n+k,l.getD (n+k) 0)])=_
   rw [h1,List.append_assoc]
  ·intro x hx
   rcases List.mem_append.1 hx with hx | hx
   ·have:=h2 x hx; omega
   ·split at hx
    ·cases hx
    ·rw [List.mem_singleton] at hx; subst hx; show n<=n+k/\n+k < n+(k+1); omega
theorem fms_yes {l:List Int} {N:Nat} (hl:l.length=N) (hb:∀ f,f < N->cBd (l.getD f 0)) {i:Nat} {rest:List Int} (h:s.drop i=tl l N ++ rest) :
  ∀ n,n<=N->fmsF s (ct l N,(i,false),[]) n=(ct l N - ct l n,(i+3*ct l n,false),l.take n)/\ct l n<=ct l N
 | 0,_=>⟨by show (ct l N,(i,false),[])=(ct l N - 0,(i+3*0,false),[]); rfl,Nat.zero_le _⟩
 | n+1,hn=>by
  obtain ⟨ih,hc⟩:=fms_yes hl hb h n (by omega)
  obtain ⟨r,hr,hr2⟩:=tpC_split l n (N - n)
  rw [show n+(N - n)=N by omega] at hr hr2
  have hct:ct l N=ct l n+r.length:=by unfold ct; rw [hr,List.length_append]
  have hdr:s.drop (i+3*ct l n)=r.flatMap b3 ++ rest:=by
   rw [<- List.drop_drop,h]
   have e:tl l N=tl l n ++ r.flatMap b3:=by unfold tl; rw [hr,List.flatMap_append]
   rw [e,List.append_assoc,<- tl_len l n,List.drop_append_of_le_length (Nat.le_refl _),List.drop_length,List.nil_append]
  obtain ⟨r',hr',hr2'⟩:=tpC_split l (n+1) (N - (n+1))
  rw [show n+1+(N - (n+1))=N by omega] at hr' hr2'
  have e1:tpC l (n+1)=tpC l n ++ (if l.getD n 0=1000000 then [] else [(n,l.getD n 0)]):=rfl
  rw [e1,List.append_assoc,hr] at hr'
  have hrr:r=(if l.getD n 0=1000000 then [] else [(n,l.getD n 0)]) ++ r':=List.append_cancel_left hr'
  have htake:l.take (n+1)=l.take n ++ [l.getD n 0]:=by
   rw [List.take_succ_eq_append_getElem (by omega)]
   simp [List.getD,show n < l.length by omega]
  show fmF s n (fmsF s (ct l N,(i,false),[]) n)=_/\_
  rw [ih]
  by_cases q:l.getD n 0=1000000
  ·rw [if_pos q,List.nil_append] at hrr
   have hcs:ct l (n+1)=ct l n:=by rw [ct_succ,if_pos q]; rfl
   unfold fmF
   rw [if_neg]
   ·rw [hcs,htake,q]; exact ⟨rfl,hc⟩
   ·rintro ⟨h1,h2⟩
    simp only at h1 h2
    cases hrc:r' with
    | nil=>rw [hrr,hrc] at hct; simp at hct; omega
    | cons x xs =>
     rw [hrr,hrc] at hdr
     have:=hr2' x (by rw [hrc]; exact List.mem_cons_self ..)
     have hx:s.drop (i+3*ct l n)=(x.1:Int) :: ((x.2+4000) / 256 :: (x.2+4000) % 256 :: (xs.flatMap b3 ++ rest)):=by rw [hdr]; rfl
     obtain ⟨c1,c2,_⟩:=at_drop hx
     unfold pkc at h2
     rw [if_pos c1,c2] at h2
     omega
  ·rw [if_neg q] at hrr
   have hcs:ct l (n+1)=ct l n+1:=by rw [ct_succ,if_neg q]
   have hx:s.drop (i+3*ct l n)=(n:Int) :: ((l.getD n 0+4000) / 256 :: (l.getD n 0+4000) % 256 :: (r'.flatMap b3 ++ rest)):=by rw [hdr,hrr]; rfl
   have hlen:r.length=1+r'.length:=by rw [hrr]; simp; omega
   have hbd:-4000<=l.getD n 0/\l.getD n 0<=4000:=by rcases hb n (by omega) with e | e; exact absurd e q; exact e
   obtain ⟨c1,c2,c3⟩:=at_drop hx
   have hy:=bd_yes c3 hbd.1 hbd.2
   unfold fmF
   rw [if_pos]
   ·simp only
    rw [hy,hcs,htake]
    refine ⟨?_,by omega⟩
    rw [show ct l N - ct l n - 1=ct l N - (ct l n+1) by omega,show i+3*ct l n+1+2=i+3*(ct l n+1) by omega]
   ·simp only
    refine ⟨by omega,?_⟩
    unfold pkc
    rw [if_pos c1,c2]
theorem bsN_yes {l:List Int} {N:Nat} (hN:N<=32) (hl:l.length=N) (hb:∀ f,f < N->cBd (l.getD f 0)) {i:Nat} {rest:List Int} (h:s.drop i=((ct l N:Nat):Int) :: (tl l N ++ rest)):bsN s N (i,false)=(l,(i+(1+(tl l N).length),false)):=by
 have hc:=ct_le l N
 have e2:=num_yes (lo:=0) (hi:=32) h (by omega) (by omega)
 obtain ⟨f1,_⟩:=fms_yes hl hb (at_drop h).2.2 N (Nat.le_refl _)
 unfold bsN
 simp only [e2,Int.toNat_natCast,f1]
 rw [List.take_of_length_le (by omega),Nat.sub_self,if_neg (by omega),tl_len]
 congr 2
 omega
theorem pt_yes {r:Option (List Int)} (hr:okp r) {i:Nat} {rest:List Int} (h:s.drop i=enc1 r ++ rest):ptF s (i,false)=(r,(i+(enc1 r).length,false)):=by
 cases r with
 | none =>
  have e:=num_yes (lo:=0) (hi:=1) (show s.drop i=0 :: rest from h) (by omega) (by omega)
  unfold ptF
  simp only [e]
  rfl
 | some l =>
  obtain ⟨hl,hb⟩:=hr l rfl
  have h':s.drop i=1 :: ((ct l 32:Nat):Int) :: (tl l 32 ++ rest):=h
  have e:=num_yes (lo:=0) (hi:=1) h' (by omega) (by omega)
  have e3:=bsN_yes (Nat.le_refl 32) hl hb (at_drop h').2.2
  have e4:(enc1 (some l)).length=(tl l 32).length+1+1:=rfl
  unfold ptF bsF
  simp only [e,e3,e4]
  generalize (tl l 32).length=z
  rw [if_neg (by omega),show i+1+(1+z)=i+(z+1+1) by omega]
theorem encs_from (L:List (Option (List Int))) (n:Nat):∀ k,∃ r,encs L (n+k)=encs L n ++ r
 | 0=>⟨[],by simp⟩
 | k+1=>by
  obtain ⟨r,h⟩:=encs_from L n k
  exact ⟨r ++ enc1 (L.getD (n+k) none),by show encs L (n+k) ++ enc1 (L.getD (n+k) none)=_; rw [h,List.append_assoc]⟩
theorem getD_ok {L:List (Option (List Int))} (h:∀ r,r ∈ L->okp r) (n:Nat):okp (L.getD n none):=by
 rcases Nat.lt_or_ge n L.length with q | q
 ·have:L.getD n none=L[n]:=by simp [List.getD,q]
  rw [this]; exact h _ (List.getElem_mem q)
 ·have:L.getD n none=none:=by simp [List.getD,List.getElem?_eq_none q]
  rw [this]; intro l e; cases e
theorem encs_at {L:List (Option (List Int))} {i:Nat} (h:s.drop i=encs L L.length) {n:Nat} (hn:n < L.length):∃ r,s.drop (i+(encs L n).length)=enc1 (L.getD n none) ++ r:=by
 obtain ⟨r,hr⟩:=encs_from L (n+1) (L.length - (n+1))
 rw [show n+1+(L.length - (n+1))=L.length by omega] at hr
 refine ⟨r,?_⟩
 rw [<- List.drop_drop,h,hr]
 show List.drop _ ((encs L n ++ enc1 (L.getD n none)) ++ r)=_
 rw [List.append_assoc,List.drop_append_of_le_length (Nat.le_refl _),List.drop_length,List.nil_append]
theorem pts_yes {L:List (Option (List Int))} (hL:∀ r,r ∈ L->okp r) {i:Nat} (h:s.drop i=encs L L.length):∀ n,n<=L.length ->
  ptsF s ((i,false),[]) n=((i+(encs L n).length,false),L.take n)
 | 0,_=>rfl
 | n+1,hn=>by
  have ih:=pts_yes hL h n (by omega)
  obtain ⟨r,hr⟩:=encs_at h (n:=n) (by omega)
  have hp:=pt_yes (getD_ok hL n) hr
  show (if (ptsF s ((i,false),[]) n).1.2 then ptsF s ((i,false),[]) n else _)=_
  rw [ih,if_neg Bool.false_ne_true]
  simp only
  rw [hp]
  have htake:L.take (n+1)=L.take n ++ [L.getD n none]:=by
   rw [List.take_succ_eq_append_getElem (by omega)]
   simp [List.getD,show n < L.length by omega]
  rw [htake]
  show ((_,_),_)=((i+(encs L n ++ enc1 (L.getD n none)).length,false),_)
  rw [List.length_append,Nat.add_assoc]
theorem dec_yes {L:List (Option (List Int))} (h1:1<=L.length) (h2:L.length<=21) (hL:∀ r,r ∈ L->okp r) (h:s=encB L):decF s=some L:=by
 have h':s.drop 0=(L.length:Int) :: encs L L.length:=by rw [h]; rfl
 have e:=num_yes (lo:=1) (hi:=21) h' (by omega) (by omega)
 have hp:=pts_yes hL (at_drop h').2.2 L.length (Nat.le_refl _)
 unfold decF
 simp only [e,Int.toNat_natCast]
 rw [hp,List.take_of_length_le (Nat.le_refl _)]
 rw [if_neg]
 rintro (q | q)
 ·cases q
 ·apply q
  rw [h]
  show 0+1+(encs L L.length).length=(encs L L.length).length+1
  omega
def inF (s:List Int):Nat->Nat->List Int->Option (Nat × List Int)
 | 0,i,o=>some (i,o)
 | k+1,i,o=>if i+3<=s.length/\s.getD i 0 < 32 then inF s k (i+3) (o.set (s.getD i 0).toNat (256*s.getD (i+1) 0+s.getD (i+2) 0 - 4000)) else none
def none32:List Int:=List.replicate 32 1000000
def lp1 (s:List Int) (i:Nat):Option (Nat × Option (List Int)) :=
 if i < s.length/\s.getD i 0=0 then some (i+1,none)
 else if s.length < i+2 then none
 else match inF s (s.getD (i+1) 0).toNat (i+2) none32 with
  | none=>none
  | some y=>some (y.1,some y.2)
def lpF (s:List Int):Nat->Nat->List (Option (List Int))->Option (List (Option (List Int)))
 | 0,_,L=>some L
 | k+1,i,L=>match lp1 s i with
  | none=>none
  | some y=>lpF s k y.1 (L ++ [y.2])
def looF (s:List Int):Option (List (Option (List Int))) :=
 if s.length < 1 \/ s.getD 0 0 < 1 \/ 21 < s.getD 0 0 then none else lpF s (s.getD 0 0).toNat 1 []
theorem in_yes {rest:List Int}:∀ (r:List (Nat × Int)) (i:Nat) (o:List Int),(∀ x,x ∈ r->x.1 < 32)->s.drop i=r.flatMap b3 ++ rest ->
  inF s r.length i o=some (i+3*r.length,r.foldl (fun o x=>o.set x.1 x.2) o)
 | [],i,o,_,_=>rfl
 | x :: xs,i,o,hx,h=>by
  have h':s.drop i=(x.1:Int) :: ((x.2+4000) / 256 :: (x.2+4000) % 256 :: (xs.flatMap b3 ++ rest)):=h
  obtain ⟨a1,a2,a3⟩:=at_drop h'
  obtain ⟨b1,b2,b3'⟩:=at_drop a3
  obtain ⟨c1,c2,c3⟩:=at_drop b3'
  have hlt:=hx x (List.mem_cons_self ..)
  show (if i+3<=s.length/\s.getD i 0 < 32 then inF s xs.length (i+3) (o.set (s.getD i 0).toNat (256*s.getD (i+1) 0+s.getD (i+2) 0 - 4000)) else none)=_
  rw [if_pos ⟨by omega,by omega⟩,a2,b2,show s.getD (i+2) 0=(x.2+4000) % 256 from c2,Int.toNat_natCast,show 256*((x.2+4000) / 256)+(x.2+4000) % 256 - 4000=x.2 by omega]
  rw [in_yes xs (i+3) _ (fun y hy=>hx y (List.mem_cons_of_mem _ hy)) c3]
  congr 2
  show i+3+3*xs.length=i+3*(xs.length+1)
  omega
theorem fold_tpC (l:List Int) (hl:l.length=32):∀ n,n<=32->(tpC l n).foldl (fun o x=>o.set x.1 x.2) none32=l.take n ++ List.replicate (32 - n) 1000000
 | 0,_=>rfl
 | n+1,hn=>by
  have ih:=fold_tpC l hl n (by omega)
  have htake:l.take (n+1)=l.take n ++ [l.getD n 0]:=by
   rw [List.take_succ_eq_append_getElem (by omega)]
   simp [List.getD,show n < l.length by omega]
  have hrep:List.replicate (32 - n) (1000000:Int)=1000000 :: List.replicate (32 - (n+1)) 1000000:=by
   rw [show 32 - n=(32 - (n+1))+1 by omega]; rfl
  show (tpC l n ++ (if l.getD n 0=1000000 then [] else [(n,l.getD n 0)])).foldl _ _=_
  rw [List.foldl_append,ih,hrep,htake]
  split
  ·rename_i q
   rw [q]; simp
  ·show (l.take n ++ 1000000 :: List.replicate (32 - (n+1)) 1000000).set n (l.getD n 0)=_
   have hln:(l.take n).length=n:=by rw [List.length_take]; omega
   rw [List.set_append_right n _ (by omega),hln,Nat.sub_self]
   simp
theorem inN_yes {l:List Int} {N:Nat} (hN:N<=32) (hl:l.length=32) {i:Nat} {rest:List Int} (h:s.drop i=tl l N ++ rest) (hNe:N=32:=by rfl):inF s (ct l N) i none32=some (i+3*ct l N,l):=by
 have hlt:∀ x,x ∈ tpC l N->x.1 < 32:=by
  obtain ⟨r,q1,q2⟩:=tpC_split l 0 N
  have:tpC l N=r:=by have:=q1; simpa [tpC] using this
  intro x hx; rw [this] at hx; have:=q2 x hx; omega
 have:=in_yes (tpC l N) i none32 hlt h
 rw [fold_tpC l hl N hN,List.take_of_length_le (by omega),hNe,Nat.sub_self,List.replicate_zero,List.append_nil,<- hNe] at this
 exact this
theorem lp1_yes {r:Option (List Int)} (hr:okp r) {i:Nat} {rest:List Int} (h:s.drop i=enc1 r ++ rest):lp1 s i=some (i+(enc1 r).length,r):=by
 cases r with
 | none =>
  obtain ⟨a1,a2,a3⟩:=at_drop (show s.drop i=0 :: rest from h)
  unfold lp1
  rw [if_pos ⟨a1,a2⟩]; rfl
 | some l =>
  obtain ⟨hl,hb⟩:=hr l rfl
  have h':s.drop i=1 :: ((ct l 32:Nat):Int) :: (tl l 32 ++ rest):=h
  obtain ⟨a1,a2,a3⟩:=at_drop h'
  obtain ⟨b1,b2,b3'⟩:=at_drop a3
  have e4:(enc1 (some l)).length=(tl l 32).length+1+1:=rfl
  have e5:=inN_yes (Nat.le_refl 32) hl b3'
  unfold lp1
  rw [if_neg (by omega),if_neg (by omega),b2,Int.toNat_natCast,e4,tl_len]
  rw [show i+2=i+1+1 from rfl,e5]
  simp only
  generalize ct l 32=z
  rw [show i+1+1+3*z=i+(3*z+1+1) by omega]
theorem lp_yes {L:List (Option (List Int))} (hL:∀ r,r ∈ L->okp r) {i:Nat} (h:s.drop i=encs L L.length):∀ k,k<=L.length->lpF s k (i+(encs L (L.length - k)).length) (L.take (L.length - k))=some L
 | 0,_=>by show some _=_; rw [Nat.sub_zero,List.take_of_length_le (Nat.le_refl _)]
 | k+1,hk=>by
  obtain ⟨r,hr⟩:=encs_at h (n:=L.length - (k+1)) (by omega)
  have hp:=lp1_yes (getD_ok hL _) hr
  have ih:=lp_yes hL h k (by omega)
  have htake:L.take (L.length - (k+1)) ++ [L.getD (L.length - (k+1)) none]=L.take (L.length - k):=by
   rw [show L.length - k=(L.length - (k+1))+1 by omega,List.take_succ_eq_append_getElem (by omega)]
   simp [List.getD,show L.length - (k+1) < L.length by omega]
  have hen:encs L (L.length - k)=encs L (L.length - (k+1)) ++ enc1 (L.getD (L.length - (k+1)) none):=by
   rw [show L.length - k=(L.length - (k+1))+1 by omega]; rfl
  show (match lp1 s _ with | none=>none | some y=>lpF s k y.1 (_ ++ [y.2]))=_
  rw [hp]
  simp only
  rw [htake,Nat.add_assoc,<- List.length_append,<- hen]
  exact ih
theorem loo_yes {L:List (Option (List Int))} (h1:1<=L.length) (h2:L.length<=21) (hL:∀ r,r ∈ L->okp r) (h:s=encB L):looF s=some L:=by
 have h':s.drop 0=(L.length:Int) :: encs L L.length:=by rw [h]; rfl
 obtain ⟨a1,a2,a3⟩:=at_drop h'
 have:=lp_yes hL a3 L.length (Nat.le_refl _)
 rw [Nat.sub_self] at this
 unfold looF
 rw [if_neg (by omega),a2,Int.toNat_natCast]
 exact this
end Go.Proofs.YtffajooegiempaaGreatDoor

namespace Go.Proofs.YtffajooegiempaaGreatDoor
def NB:Int:=1000000
def opp (i:Nat):Nat:=if i % 2=0 then i+1 else i - 1
def pl (a b:Int):Int:=if a=NB \/ b=NB then NB else a+b
def upd (M:Nat->Int) (k:Nat) (x:Int):Nat->Int:=fun a=>if a=k then x else M a
theorem opp_lt {i:Nat} (h:i < 8):opp i < 8:=by unfold opp; split <;> omega
theorem upd_same (M:Nat->Int) (k:Nat) (x:Int):upd M k x k=x:=if_pos rfl
theorem upd_other (M:Nat->Int) {k a:Nat} (x:Int) (h:a ≠ k):upd M k x a=M a:=if_neg h
def ch1 (s:Nat) (M:Nat->Int) (k:Nat):Nat->Int :=
 if pl (M (k / 8*8+opp s)) (M (s*8+k % 8)) < M k then upd M k (pl (M (k / 8*8+opp s)) (M (s*8+k % 8))) else M
def chF (s:Nat) (M:Nat->Int):Nat->Nat->Int
 | 0=>M
 | k+1=>ch1 s (chF s M k) k
def fw (M:Nat->Int):Nat->Nat->Int
 | 0=>M
 | s+1=>chF s (fw M s) 64
def rd1 (M:Nat->Int) (i:Nat):Nat->Int:=if M (i*8+i)=NB then M else upd M (i*8+i) (M (i*8+i) / 2*2)
def rdF (M:Nat->Int):Nat->Nat->Int
 | 0=>M
 | i+1=>rd1 (rdF M i) i
def ah1 (M:Nat->Int) (k:Nat):Nat->Int :=
 if pl (M (k / 8*8+k / 8)) (M (k % 8*8+k % 8)) ≠ NB/\(pl (M (k / 8*8+k / 8)) (M (k % 8*8+k % 8))).tdiv 2 < M k then upd M k ((pl (M (k / 8*8+k / 8)) (M (k % 8*8+k % 8))).tdiv 2) else M
def ahF (M:Nat->Int):Nat->Nat->Int
 | 0=>M
 | k+1=>ah1 (ahF M k) k
def sharp (M:Nat->Int):Nat->Int:=ahF (rdF (fw M 8) 8) 64
def conF (M:Nat->Int):Nat->Bool
 | 0=>false
 | i+1=>conF M i || decide (M (i*8+opp i) < 0)
theorem ch1_le (s:Nat) (M:Nat->Int) (k a:Nat):ch1 s M k a<=M a:=by
 unfold ch1
 split
 ·unfold upd
  split
  ·rename_i h e; subst e; exact Int.le_of_lt h
  ·exact Int.le_refl _
 ·exact Int.le_refl _
theorem chF_le (s:Nat) (M:Nat->Int):∀ k a,chF s M k a<=M a
 | 0,_=>Int.le_refl _
 | k+1,a=>Int.le_trans (ch1_le s _ k a) (chF_le s M k a)
theorem fw_le (M:Nat->Int):∀ s a,fw M s a<=M a
 | 0,_=>Int.le_refl _
 | s+1,a=>by rw [fw]; exact Int.le_trans (chF_le s _ 64 a) (fw_le M s a)
theorem rd1_le (M:Nat->Int) (i a:Nat):rd1 M i a<=M a:=by
 unfold rd1
 split
 ·exact Int.le_refl _
 ·unfold upd
  split
  ·rename_i e; subst e; omega
  ·exact Int.le_refl _
theorem rdF_le (M:Nat->Int):∀ i a,rdF M i a<=M a
 | 0,_=>Int.le_refl _
 | i+1,a=>Int.le_trans (rd1_le _ i a) (rdF_le M i a)
theorem ah1_le (M:Nat->Int) (k a:Nat):ah1 M k a<=M a:=by
 unfold ah1
 split
 ·unfold upd
  split
  ·rename_i h e; subst e; exact Int.le_of_lt h.2
  ·exact Int.le_refl _
 ·exact Int.le_refl _
theorem ahF_le (M:Nat->Int):∀ k a,ahF M k a<=M a
 | 0,_=>Int.le_refl _
 | k+1,a=>Int.le_trans (ah1_le _ k a) (ahF_le M k a)
theorem sharp_le (M:Nat->Int) (a:Nat):sharp M a<=M a:=Int.le_trans (ahF_le _ 64 a) (Int.le_trans (rdF_le _ 8 a) (fw_le M 8 a))
def Lo (L:Int) (M:Nat->Int):Prop:=∀ a,a < 64->-L<=M a
structure LoC (L:Int) (s:Nat) (M M':Nat->Int) (k:Nat):Prop where
 old:∀ a,k<=a->M' a=M a
 all:∀ a,a < 64->-(6*L)<=M' a
 col:∀ i,i < 8->-(3*L)<=M' (i*8+opp s)
 row:∀ j,j < 8->-(3*L)<=M' (s*8+j)
 cor:-(2*L)<=M' (s*8+opp s)
theorem pl_ge {a b x y:Int} (ha:-x<=a) (hb:-y<=b) (h:-1000000<=x+y):-(x+y)<=pl a b:=by
 unfold pl NB
 split
 ·omega
 ·omega
theorem chF_lo {L:Int} {s:Nat} {M:Nat->Int} (hL:0<=L) (hs:s < 8) (h:Lo L M):∀ k,k<=64->LoC L s M (chF s M k) k:=by
 have ho:=opp_lt hs
 intro k
 induction k with
 | zero =>
  intro _
  refine ⟨fun _ _=>rfl,fun a ha=>?_,fun i hi=>?_,fun j hj=>?_,?_⟩
  ·have:=h a ha; show _<=M a; omega
  ·have:=h (i*8+opp s) (by omega); show _<=M _; omega
  ·have:=h (s*8+j) (by omega); show _<=M _; omega
  ·have:=h (s*8+opp s) (by omega); show _<=M _; omega
 | succ k ih =>
  intro hk
  have hc:=ih (by omega)
  have hi:k / 8 < 8:=by omega
  have hj:k % 8 < 8:=by omega
  have hkk:k / 8*8+k % 8=k:=by omega
  have hkM:chF s M k k=M k:=hc.old k (Nat.le_refl _)
  have hMk:-L<=M k:=h k (by omega)
  have c1:=hc.col _ hi
  have c2:=hc.row _ hj
  have c3:=hc.cor
  show LoC L s M (ch1 s (chF s M k) k) (k+1)
  unfold ch1
  split
  ·have g6:-(6*L)<=pl (chF s M k (k / 8*8+opp s)) (chF s M k (s*8+k % 8)):=by
    have:=pl_ge c1 c2 (by omega); omega
   refine ⟨fun a ha=>?_,fun a ha=>?_,fun i hi'=>?_,fun j hj'=>?_,?_⟩
   ·rw [upd_other _ _ (by omega)]; exact hc.old a (by omega)
   ·unfold upd; split
    ·exact g6
    ·exact hc.all a ha
   ·unfold upd; split
    ·rename_i e
     have e1:k / 8=i:=by omega
     have e2:k % 8=opp s:=by omega
     have:chF s M k (k / 8*8+opp s)=M k:=by rw [show k / 8*8+opp s=k by omega]; exact hkM
     rw [this,e2]
     have:=pl_ge (x:=L) (y:=2*L) hMk c3 (by omega)
     omega
    ·exact hc.col i hi'
   ·unfold upd; split
    ·rename_i e
     have e1:k / 8=s:=by omega
     have e2:k % 8=j:=by omega
     have:chF s M k (s*8+k % 8)=M k:=by rw [show s*8+k % 8=k by omega]; exact hkM
     rw [this,e1]
     have:=pl_ge (x:=2*L) (y:=L) c3 hMk (by omega)
     omega
    ·exact hc.row j hj'
   ·unfold upd; split
    ·rename_i e
     have e1:k / 8=s:=by omega
     have e2:k % 8=opp s:=by omega
     have:chF s M k (s*8+opp s)=M k:=by rw [e]; exact hkM
     rw [e1,e2,this]
     have:=pl_ge (x:=L) (y:=L) hMk hMk (by omega)
     omega
    ·exact hc.cor
  ·exact ⟨fun a ha=>hc.old a (by omega),hc.all,hc.col,hc.row,hc.cor⟩
theorem fw_lo {M:Nat->Int} {L:Int} (hL:0<=L) (h:Lo L M):∀ s,s<=8->Lo (L*6 ^ s) (fw M s):=by
 intro s
 induction s with
 | zero=>intro _; simpa [fw] using h
 | succ s ih =>
  intro hs
  have h1:=ih (by omega)
  have hp:0<=L*6 ^ s:=Int.mul_nonneg hL (Int.le_of_lt (Int.pow_pos (by decide)))
  have h2:=(chF_lo (s:=s) hp (by omega) h1 64 (Nat.le_refl _)).all
  intro a ha
  have:=h2 a ha
  rw [fw,Int.pow_succ]
  have e:L*(6 ^ s*6)=6*(L*6 ^ s):=by rw [<- Int.mul_assoc,Int.mul_comm]
  rw [e]; exact this
end Go.Proofs.YtffajooegiempaaGreatDoor

namespace Go.Proofs.YtffajooegiempaaGreatDoor
open Go.RowKit
end Go.Proofs.YtffajooegiempaaGreatDoor

namespace Go.Proofs.YtffajooegiempaaGreatDoor
open Go.RowKit
variable {w:World}
def isB (n:Int):Bool:=decide (n=NB \/ (-4000<=n/\n<=4000))
def okL (l:List Int):Prop:=l.length=32/\∀ i,i < 32->isB (l.getD i 0)=true
theorem o_isBound (n:Int):Calls Tryz.prog 121 #[.int .i64 n] w fun e w'=>e=.returned (.bool (isB n))/\w'=w:=by
 by_cases h1:n=1000000
 ·subst h1
  go_enter Tryz.func121,Tryz.ntmps121
  go_wp2_with fail
  go_ret
  exact ⟨rfl,rfl⟩
 have q1:(n == 1000000)=false:=by simpa using h1
 by_cases h2:-4000<=n
 ·by_cases h3:n<=4000
  ·have HE:Hid (isB n=true):=by show isB n=true; unfold isB; exact decide_eq_true (.inr ⟨h2,h3⟩)
   clear h1
   go_enter Tryz.func121,Tryz.ntmps121
   go_wp2_with fail
   go_ret
   exact ⟨by rw [HE.out]; rfl,rfl⟩
  ·have HE:Hid (isB n=false):=by show isB n=false; unfold isB; exact decide_eq_false (fun e=>e.elim h1 (fun e=>h3 e.2))
   clear h1
   go_enter Tryz.func121,Tryz.ntmps121
   go_wp2_with fail
   go_ret
   exact ⟨by rw [HE.out]; rfl,rfl⟩
 ·have HE:Hid (isB n=false):=by show isB n=false; unfold isB; exact decide_eq_false (fun e=>e.elim h1 (fun e=>h2 e.1))
  clear h1
  go_enter Tryz.func121,Tryz.ntmps121
  go_wp2_with fail
  go_ret
  exact ⟨by rw [HE.out]; rfl,rfl⟩
def gdF (l:List Int):Nat->Bool
 | 0=>true
 | f+1=>gdF l f && isB (l.getD f 0)
def gdB (l:List Int):Bool:=decide (l.length=32) && gdF l 32
theorem gdF_all {l:List Int}:∀ {n:Nat},gdF l n=true ↔ ∀ f,f < n->isB (l.getD f 0)=true:=by
 intro n
 induction n with
 | zero=>exact ⟨fun _ f hf=>absurd hf (by omega),fun _=>rfl⟩
 | succ n ih =>
  show (gdF l n && isB (l.getD n 0))=true ↔ _
  rw [Bool.and_eq_true,ih]
  constructor
  ·rintro ⟨h1,h2⟩ f hf
   rcases Nat.lt_or_eq_of_le (Nat.lt_succ_iff.1 hf) with q | q
   ·exact h1 f q
   ·rw [q]; exact h2
  ·intro h
   exact ⟨fun f hf=>h f (by omega),h n (by omega)⟩
theorem gdB_ok {l:List Int}:gdB l=true ↔ okL l:=by
 unfold gdB okL
 rw [Bool.and_eq_true,decide_eq_true_eq,gdF_all]
theorem gdF_no {l:List Int} {f:Nat} (hf:f < 32) (h:isB (l.getD f 0)=false):gdF l 32=false:=by
 cases e:gdF l 32 with
 | false=>rfl
 | true=>rw [gdF_all.1 e f hf] at h; cases h
theorem r_good (u:Value) (l:List Int) (_hm:l.length<=1073741824) (hu:Reads w u l) :
  Calls Tryz.prog 75 #[u] w fun e w'=>e=.returned (.bool (gdB l))/\w'=w:=by
 obtain ⟨au,cu,rfl,hcu,h0⟩:=hu
 by_cases h32:l.length=32
 ·have HE:Hid (gdB l=gdF l 32):=by show gdB l=_; unfold gdB; rw [decide_eq_true h32]; rfl
  obtain ⟨p,off,rfl,hp,hcell⟩:=h0 (by omega)
  have HC:Hid (∀ i,i < 32->w.cell? ⟨p,off+i,none⟩=some (.int .i64 (l.getD i 0))):=fun i hi=>hcell i (by omega)
  rw [h32]
  clear h0 hcell hcu h32 _hm
  go_enter Tryz.func75,Tryz.ntmps75
  go_wp2_with fail
  go_loopw [3] (fun i wr=>∃ (f:Nat),f<=32/\i=.int .i64 f/\wr=w/\Hid (gdF l f=true)) (fun i _=>32 - (intOf i).toNat)
  case atStart=>exact ⟨0,by omega,rfl,rfl,rfl⟩
  case round =>
   obtain ⟨f,hf,rfl,rfl,HR⟩:=hrel
   by_cases hlt:f < 32
   ·have hfi:(f:Int) < 32:=by omega
    have HEq:Hid (gdF l (f+1)=(gdF l f && isB (l.getD f 0))):=rfl
    have cx:=HC.out f hlt
    have HNo:Hid (¬ (l.getD f 0=1000000 \/ (-4000<=l.getD f 0/\l.getD f 0<=4000))->gdF l 32=false):=fun h=>gdF_no hlt (decide_eq_false h)
    generalize l.getD f 0=x at *
    by_cases e1:x=1000000
    ·have HY:Hid (isB x=true):=decide_eq_true (.inl e1)
     have e1':(x != 1000000)=false:=by rw [e1]; rfl
     go_wp2_with fail
     go_roundw
     case rel=>exact ⟨f+1,by omega,by go_num,by simp,by show gdF l (f+1)=true; rw [HEq.out,HR.out,HY.out]; rfl⟩
     case measure=>simp [intOf]; omega
    ·have e1':(x != 1000000)=true:=by rw [bne_iff_ne]; exact e1
     by_cases e2:x < -4000
     ·have HF:Hid (gdF l 32=false):=HNo.out (by omega)
      go_wp2_with fail
      go_ret
      exact ⟨by rw [HE.out,HF.out]; rfl,rfl⟩
     ·by_cases e3:4000 < x
      ·have HF:Hid (gdF l 32=false):=HNo.out (by omega)
       go_wp2_with fail
       go_ret
       exact ⟨by rw [HE.out,HF.out]; rfl,rfl⟩
      ·have HY:Hid (isB x=true):=decide_eq_true (by exact .inr ⟨by omega,by omega⟩)
       go_wp2_with fail
       go_roundw
       case rel=>exact ⟨f+1,by omega,by go_num,by simp,by show gdF l (f+1)=true; rw [HEq.out,HR.out,HY.out]; rfl⟩
       case measure=>simp [intOf]; omega
   ·have hf32:f=32:=by omega
    subst hf32
    go_wp2_with fail
    go_ret
    exact ⟨by rw [HE.out,HR.out]; rfl,rfl⟩
 ·have HE:Hid (gdB l=false):=by show gdB l=_; unfold gdB; rw [decide_eq_false h32]; rfl
  have hb:((l.length:Int) != 32)=true:=by rw [bne_iff_ne]; omega
  clear h0 h32
  go_enter Tryz.func75,Tryz.ntmps75
  go_wp2_with fail
  go_ret
  exact ⟨by rw [HE.out]; rfl,rfl⟩
theorem o_isList (u:Value) (l:List Int) (hu:Reads w u l) :
  Calls Tryz.prog 87 #[u] w fun e w'=>e=.returned (.bool (gdB l))/\w'=w:=by
 obtain ⟨au,cu,rfl,hcu,h0⟩:=hu
 have kb:=fun (n:Int)=>o_isBound (w:=w) n
 by_cases h32:l.length=32
 ·have HE:Hid (gdB l=gdF l 32):=by show gdB l=_; unfold gdB; rw [decide_eq_true h32]; rfl
  obtain ⟨p,off,rfl,hp,hcell⟩:=h0 (by omega)
  have HC:Hid (∀ i,i < 32->w.cell? ⟨p,off+i,none⟩=some (.int .i64 (l.getD i 0))):=fun i hi=>hcell i (by omega)
  rw [h32]
  clear h0 hcell hcu h32
  go_enter Tryz.func87,Tryz.ntmps87
  go_wp2_with fail
  go_loopw [10] (fun i wr=>∃ (f:Nat),f<=32/\i=.int .i64 f/\wr=w/\Hid (gdF l f=true)) (fun i _=>32 - (intOf i).toNat)
  case atStart=>exact ⟨0,by omega,rfl,rfl,rfl⟩
  case round =>
   obtain ⟨f,hf,rfl,rfl,HR⟩:=hrel
   by_cases hlt:f < 32
   ·have hfi:(f:Int) < 32:=by omega
    have HEq:Hid (gdF l (f+1)=(gdF l f && isB (l.getD f 0))):=rfl
    have cx:=HC.out f hlt
    have HNo:Hid (isB (l.getD f 0)=false->gdF l 32=false):=fun h=>gdF_no hlt h
    generalize l.getD f 0=x at *
    cases hb:isB x with
    | true =>
     have kx:=kb x
     rw [hb] at kx
     have HY:Hid (isB x=true):=hb
     clear hb kb
     go_wp2_with fail
     refine kx.mono ?_
     rintro e w2 ⟨rfl,rfl⟩
     go_wp2_with fail
     go_roundw
     case rel=>exact ⟨f+1,by omega,by go_num,by simp,by show gdF l (f+1)=true; rw [HEq.out,HR.out,HY.out]; rfl⟩
     case measure=>simp [intOf]; omega
    | false =>
     have kx:=kb x
     rw [hb] at kx
     have HF:Hid (gdF l 32=false):=HNo.out hb
     clear hb kb
     go_wp2_with fail
     refine kx.mono ?_
     rintro e w2 ⟨rfl,rfl⟩
     go_wp2_with fail
     go_ret
     exact ⟨by rw [HE.out,HF.out]; rfl,rfl⟩
   ·have hf32:f=32:=by omega
    subst hf32
    go_wp2_with fail
    go_ret
    exact ⟨by rw [HE.out,HR.out]; rfl,rfl⟩
 ·have HE:Hid (gdB l=false):=by show gdB l=_; unfold gdB; rw [decide_eq_false h32]; rfl
  have hb:((l.length:Int) != 32)=true:=by rw [bne_iff_ne]; omega
  clear h0 h32
  go_enter Tryz.func87,Tryz.ntmps87
  go_wp2_with fail
  go_ret
  exact ⟨by rw [HE.out]; rfl,rfl⟩
end Go.Proofs.YtffajooegiempaaGreatDoor

