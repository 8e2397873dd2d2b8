import Derived.Test.YtffajooegiempaaGreatDoorJ30
import Derived.Great.BuildSlice
set_option maxRecDepth 100000
set_option maxHeartbeats 6400000
namespace Go.Proofs.YtffajooegiempaaGreatDoor
open Go.RowKit
variable {w:World}
theorem wpList_built {P:Program} {ops:Array Oper} {rest:List Oper} {o:Oper} {a:Act} {Q:Exit->Act->World->Prop} (hg:o.guard=none) (t:TypeId) (parts:Array (Nat × Operand)) (ho:o.op=.build t parts) (cells:Array Value)
  (hc:P.built t (parts.map fun (i,x)=>(i,a.eval x)).toList=some cells) (h:wpList P ops Q rest (a.put o.dst (.agg cells)) w):wpList P ops Q (o :: rest) a w :=
 wpList_build hg t parts ho (by rw [hc]; rfl) (by rw [hc]; exact h)
theorem nc_oct:Tryz.prog.built 90 [(0,.bool true)]=some (oc true fun _=>0):=by kernel_rfl
theorem nc_pl:Tryz.prog.built 128 [(0,.agg (oc true fun _=>0))]=some (plA p0):=by kernel_rfl
theorem nc_fill:Instr.fill (fun i=>some (i*66,66)) ((Array.range (1*66)).map ((Value.agg (plA ⟨false,fun _=>0,false⟩)).cells[· % (Value.agg (plA ⟨false,fun _=>0,false⟩)).cells.size]!)) [(0,.agg (plA p0))]=some (plA p0):=by kernel_rfl
theorem pl_parts:∃ i0,Tryz.prog.info? 128=some i0/\i0.zero=some (.agg (plA ⟨false,fun _=>0,false⟩))/\i0.size=66/\i0.bytes=528:=info_parts (P:=Tryz.prog) (e:=128) (z:=.agg (plA ⟨false,fun _=>0,false⟩)) (size:=66) (bytes:=528) (by kernel_rfl)
theorem wpList_onep {ops:Array Oper} {rest:List Oper} {o:Oper} {a:Act} {Q:Exit->Act->World->Prop} (hg:o.guard=none) (x:Operand) (ho:o.op=.buildSlice 83 1 #[(0,x)]) (hx:a.eval x=.agg (plA p0))
  (h:wpList Tryz.prog ops Q rest (a.put o.dst (.slice (some ⟨w.heap.size,0,none⟩) 1 1)) (w.alloc (.cells (plA p0) 128))):wpList Tryz.prog ops Q (o :: rest) a w:=by
 obtain ⟨i0,hi,hz0,hz1,hz2⟩:=pl_parts
 refine wpList_buildSlice hg 83 128 1 _ ho (plA p0) i0 _ Tryz.underlying83 hi hz0 (by rw [hz1]; decide) (by rw [hz1]; decide) ?_ h
 rw [hz1]
 have:=nc_fill
 simpa [hx] using this
theorem mk_places:∃ zs:Array Value,zs.size=21*66/\∀ w,(Instr.makeSlice 83 (.int .i64 0) (.int .i64 21)).run Tryz.prog w=.ok (.slice (some ⟨w.heap.size,0,none⟩) 0 21) (w.alloc (.cells zs 128)):=by
 obtain ⟨i0,hi,hz0,hz1,hz2⟩:=pl_parts
 refine ⟨madeCells (Value.agg (plA ⟨false,fun _=>0,false⟩)).cells (21*66),by rw [size_madeCells],fun w=>?_⟩
 have:=run_make (P:=Tryz.prog) w 83 128 i0 _ Tryz.underlying83 hi hz0 .i64 .i64 0 21 (by omega) (by omega) (by rw [hz2]; omega) (by omega)
 rw [this,hz1]
 rfl
def flatZ (n:Nat):List Value:=(List.replicate n (plc p0)).flatten
theorem flatZ_len (n:Nat):(flatZ n).length=n*66:=by
 induction n with
 | zero=>rfl
 | succ n ih=>simp only [flatZ,List.replicate_succ,List.flatten_cons,List.length_append] at ih |-; rw [ih,plc_len]; omega
theorem flatZ_succ (n:Nat):flatZ (n+1)=flatZ n ++ plc p0:=by
 simp [flatZ,List.replicate_succ']
theorem flatZ_get (n i k:Nat) (hi:i < n) (hk:k < 66):(flatZ n)[i*66+k]?=(plc p0)[k]?:=by
 induction n with
 | zero=>cases hi
 | succ n ih =>
  rw [flatZ_succ]
  rcases Nat.lt_or_ge i n with q | q
  ·rw [List.getElem?_append_left (by rw [flatZ_len]; omega)]
   exact ih q
  ·rw [List.getElem?_append_right (by rw [flatZ_len]; omega),flatZ_len]
   congr 1
   omega
def Pls (w:World) (g n:Nat):Prop:=(∃ C,At w g C tPl/\n*66<=C.size)/\∀ i k,i < n->k < 66->w.cell? ⟨g,i*66+k,none⟩=(plc p0)[k]?
theorem pls_of {base g n:Nat} (hn:1<=n) (h:w.ownsRow base 128 66 (.slice (some ⟨g,0,none⟩) n 21) n (flatZ n)):Pls w g n:=by
 refine ⟨?_,fun i k hi hk=>?_⟩
 ·rcases h.2 with ⟨e,_⟩ | ⟨g',cap,cur,e,_,hh,hn4,hc4,hsz,htk⟩
  ·cases e
  ·cases e
   refine ⟨cur,hh,?_⟩
   have h2:=congrArg List.length htk
   rw [flatZ_len] at h2
   simp at h2
   omega
 ·have e:=flatZ_get n i k hi hk
  have hs:k < (plc p0).length:=by rw [plc_len]; exact hk
  rw [List.getElem?_eq_getElem hs] at e |-
  have:=h.cells (g:=g) rfl (i*66+k) _ e
  rw [addr_add] at this
  exact this
theorem s_noClaims (ao:Option Addr) (n cap:Nat) (hn:n<=20):Calls Tryz.prog 51 #[.agg #[.slice ao n cap]] w fun x w'=>∃ g,x=.returned (.slice (some ⟨g,0,none⟩) (n+1) 21)/\w.heap.size<=g/\Pls w' g (n+1)/\Below w.heap.size w w':=by
 obtain ⟨A1,hA1⟩:∃ A1,A1=oc true fun _=>0:=⟨_,rfl⟩
 obtain ⟨A2,hA2⟩:∃ A2,A2=plA p0:=⟨_,rfl⟩
 obtain ⟨c2,hc2⟩:∃ c2,c2=plc p0:=⟨_,rfl⟩
 have HB1:Hid (Tryz.prog.built 90 [(0,.bool true)]=some A1):=by rw [hA1]; exact nc_oct
 have HB2:Hid (Tryz.prog.built 128 [(0,.agg A1)]=some A2):=by rw [hA1,hA2]; exact nc_pl
 have z1:Tryz.zeroCells90.setIfInBounds 0 (.bool true)=A1:=by rw [hA1]; kernel_rfl
 have z2:Array.foldl (fun cs (x:Value × Nat)=>cs.setIfInBounds x.snd x.fst) Tryz.zeroCells128 A1.zipIdx 0 65=A2:=by rw [hA1,hA2]; kernel_rfl
 have z3:A1.size=65:=by rw [hA1]; exact oc_size _ _
 have z4:A2.size=66:=by rw [hA2]; exact plA_size _
 have HOne:Hid (∀ {w:World} {ops:Array Oper} {rest:List Oper} {o:Oper} {a:Act} {Q:Exit->Act->World->Prop} (_:o.guard=none) (x:Operand) (_:o.op=.buildSlice 83 1 #[(0,x)]) (_:a.eval x=.agg A2)
  (_:wpList Tryz.prog ops Q rest (a.put o.dst (.slice (some ⟨w.heap.size,0,none⟩) 1 1)) (w.alloc (.cells A2 128))),wpList Tryz.prog ops Q (o :: rest) a w):=by rw [hA2]; exact fun hg x ho hx h=>wpList_onep hg x ho hx h
 have HA2:Hid (A2.toList=c2/\c2.length=66/\∀ u ∈ c2,u.oneCell'=true):=⟨by rw [hA2,hc2]; simp [plA],by rw [hc2]; exact plc_len _,by rw [hc2]; exact plc_one p0⟩
 have HZ:Hid (∀ i,flatZ (i+1)=flatZ i ++ c2):=by rw [hc2]; exact flatZ_succ
 clear hA1 hA2 hc2
 obtain ⟨i0,hi,hz0,hz1,hz2⟩:=pl_parts
 clear hz0 hz2
 obtain ⟨zs,hzs,hmk⟩:=mk_places
 have HEnd:Hid (∀ w1,Calls Tryz.prog 67 #[.agg #[.slice ao n cap]] w1 fun e w'=>e=.returned (.int .i64 (n:Int))/\Below w1.heap.size w1 w'):=fun w1=>(d_end ao n cap w1 hn).mono fun e w' ⟨h1,o,h2⟩=>⟨h1,by rw [h2]; exact (Below.refl _ _).alloc (Nat.le_refl _) _⟩
 obtain ⟨pv,hpv⟩:∃ pv,pv=Value.slice ao n cap:=⟨_,rfl⟩
 rw [<- hpv] at HEnd |-
 clear hpv
 have H0:Hid (At (w.alloc (.cells #[pv] tPr)) w.heap.size #[pv] tPr/\Below w.heap.size w (w.alloc (.cells #[pv] tPr))):=⟨At.new _ _ _,(Below.refl _ _).alloc (Nat.le_refl _) _⟩
 have HR0:Hid (((w.alloc (.cells #[pv] tPr)).alloc (.cells zs 128)).ownsRow (w.heap.size+1) 128 66 (.slice (some ⟨w.heap.size+1,0,none⟩) 0 21) 0 []):=by
  have:=World.ownsRow_made (e:=128) (w.alloc (.cells #[pv] tPr)) zs 21 (Nat.le_refl _) (by decide) hzs
  show World.ownsRow _ _ _ _ _ _ _
  simpa using this
 have H1:Hid (At ((w.alloc (.cells #[pv] tPr)).alloc (.cells zs 128)) w.heap.size #[pv] tPr/\Below w.heap.size w ((w.alloc (.cells #[pv] tPr)).alloc (.cells zs 128))):=⟨At.allocH H0.out.1 _,H0.out.2.alloc (by simp) _⟩
 clear hzs
 go_enter Tryz.func51,Tryz.ntmps51
 go_wp2_with fail
 go_loopw [3,4] (fun cv iv wr=>∃ i:Nat,i<=n+1/\iv=.int .i64 (i:Int)/\cv=.slice (some ⟨w.heap.size+1,0,none⟩) i 21/\Hid (wr.ownsRow (w.heap.size+1) 128 66 (.slice (some ⟨w.heap.size+1,0,none⟩) i 21) i (flatZ i)/\At wr w.heap.size #[pv] tPr/\Below w.heap.size w wr)) (fun _ iv _=>n+1 - (intOf iv).toNat)
 case atStart=>exact ⟨0,by omega,rfl,rfl,HR0.out,H1.out⟩
 case round =>
  obtain ⟨i,hile,rfl,rfl,HR⟩:=hrel
  have c0:wr.cell? ⟨w.heap.size,0,none⟩=some pv:=HR.out.2.1.cell 0
  go_wp2_with fail
  refine (HEnd.out wr).mono ?_
  rintro x w2 ⟨rfl,hb2⟩
  have H2:Hid (w2.ownsRow (w.heap.size+1) 128 66 (.slice (some ⟨w.heap.size+1,0,none⟩) i 21) i (flatZ i)/\At w2 w.heap.size #[pv] tPr/\Below w.heap.size w w2):=⟨ownsRow_below HR.out.1 (fun k hk=>hb2.block k (HR.out.1.lt k hk).2),HR.out.2.1.keep hb2 HR.out.2.1.lt,HR.out.2.2.trans (hb2.mono HR.out.2.2.size)⟩
  clear hb2 c0
  have hs2:w.heap.size+1 < w2.heap.size:=(H2.out.1.lt (w.heap.size+1) rfl).2
  by_cases hin:i<=n
  ·have hii:(i:Int)<=(n:Int):=by omega
   go_wp2_with (first | refine wpList_built rfl 90 _ rfl A1 HB1.out ?_ | refine wpList_built rfl 128 _ rfl A2 HB2.out ?_ | refine HOne.out rfl (.tmp 14) rfl rfl ?_ | (at_builtin; refine wpList_append_fits _ rfl (.tmp 12) (.tmp 15) 83 rfl (w.heap.size+1) 128 i0 66 Tryz.underlying83 hi hz1 (w.heap.size+1) i 21 _ rfl (H2.out.1.alloc _) ⟨w2.heap.size,0,none⟩ 1 1 c2 rfl (by rw [HA2.out.2.1]) (by intro t u ht; rw [addr_add]; exact (World.cell?_alloc_at _ _ _ _ rfl).trans (by rw [<- Array.getElem?_toList,HA2.out.1]; exact ht)) HA2.out.2.2 (by omega) ?_; intro w5 hown5 hgrow5))
   go_roundw
   case rel =>
    refine ⟨i+1,by omega,by go_num,rfl,by rw [HZ.out]; exact hown5,?_,(H2.out.2.2.alloc H2.out.2.2.size _).grown hgrow5 (by simp; omega) (fun k hk=>by cases hk; omega)⟩
    have hb5:=((Below.refl (w.heap.size+1) w2).alloc (by omega) (.cells A2 128)).grown hgrow5 (by simp; omega) (fun k hk=>by cases hk; exact Nat.le_refl _)
    exact H2.out.2.1.keep hb5 (by omega)
   case measure=>simp [intOf]; omega
  ·have hie:i=n+1:=by omega
   subst hie
   have hii:¬ ((n+1:Nat):Int)<=(n:Int):=by omega
   go_wp2_with fail
   go_ret
   exact ⟨_,rfl,by omega,pls_of (by omega) H2.out.1,H2.out.2.2⟩
end Go.Proofs.YtffajooegiempaaGreatDoor

namespace Go.Proofs.YtffajooegiempaaGreatDoor
open Go.RowKit
variable {s g:Nat} {w w':World} {pv:Value} {P:SS} {F:List Ds}
def lsP (p:Pl):Option (List Int):=if p.e=true then none else some (bdL p.M)
theorem lls_readsL {base gl n:Nat} {X:List Value} {L:List (Option (List Int))} (hn:L.length=n) (hr:w.ownsRow base 32 1 (.slice (some ⟨gl,0,none⟩) n 21) n X) (h:LLs w (gl+1) gl X L) (h21:n<=21):ReadsL w (.slice (some ⟨gl,0,none⟩) n 21) L:=by
 subst hn
 refine ⟨_,21,rfl,h21,fun _=>⟨gl,0,rfl,(hr.lt gl rfl).2,fun i hi=>?_⟩⟩
 have hXi:X[i]?=some (X.getD i (.bool false)):=by simp [List.getD,show i < X.length by rw [h.len]; exact hi]
 have hc:=hr.cells (g:=gl) rfl i _ hXi
 rw [addr_add] at hc
 refine ⟨_,by rw [Nat.zero_add]; exact hc,?_⟩
 have hp:=h.each i hi
 cases e:L.getD i none with
 | none=>rw [e] at hp; exact hp
 | some l =>
  rw [e] at hp
  obtain ⟨q,hq,hv,ha,hl⟩:=hp
  rw [hv]
  exact ⟨Reads.at_ ha hl (Nat.le_refl _) (fun j hj=>ic_get _ _ (by omega)),_,_,_,rfl⟩
theorem s_lists (hG:Glob w) (h:SSt w s g pv P) (h21:P.1.length<=21) (hR:∀ k,k < P.1.length->Sm (P.1.getD k p0).M) :
  Calls Tryz.prog 55 #[.pointer (some ⟨s,0,none⟩)] w fun x w'=>∃ ao cap,x=.returned (.slice ao P.1.length cap)/\ReadsL w' (.slice ao P.1.length cap) (P.1.map lsP)/\Below w.heap.size w w':=by
 obtain ⟨z0,hz0⟩:∃ z0:Pl,z0=⟨false,fun _=>0,false⟩:=⟨_,rfl⟩
 have hz:∀ w,(zeroValue 128).run Tryz.prog w=.ok (.agg (plA z0)) w:=by rw [hz0]; exact pl_zero
 have HFr:Hid (∀ (w1:World) (p:Pl),∃ w2,(storeCells ⟨w1.heap.size,0,none⟩ (plc p)).run Tryz.prog (w1.alloc (.cells (plA z0) 128))=.ok () w2/\At w2 w1.heap.size (plA p) tPl/\Below w1.heap.size w1 w2/\w1.heap.size < w2.heap.size):=by rw [hz0]; exact pl_fresh
 have hz3:(plA z0).size=66:=plA_size z0
 have hz4:¬ plA z0=#[]:=fun h=>by have:=congrArg Array.size h; rw [plA_size] at this; simp at this
 clear hz0
 have hmk:∀ w,(Instr.makeSlice 54 (.int .i64 0) (.int .i64 21)).run Tryz.prog w=.ok (.slice (some ⟨w.heap.size,0,none⟩) 0 21) (w.alloc (.cells (List.replicate 21 (Value.slice none 0 0)).toArray 32)):=fun _=>by kernel_rfl
 obtain ⟨i0,hi0,-,hz1,-⟩:=info_parts (P:=Tryz.prog) (e:=32) (z:=.slice none 0 0) (size:=1) (bytes:=24) (by kernel_rfl)
 have HOw:Hid ((w.alloc (.cells (List.replicate 21 (Value.slice none 0 0)).toArray 32)).ownsRow w.heap.size 32 1 (.slice (some ⟨w.heap.size,0,none⟩) 0 21) 0 []):=World.ownsRow_made w _ 21 (Nat.le_refl _) (by decide) rfl
 generalize (List.replicate 21 (Value.slice none 0 0)).toArray=zs at *
 have HB1:Hid (Below w.heap.size w (w.alloc (.cells zs 32))):=(Below.refl _ _).alloc (Nat.le_refl _) _
 have HLi:Hid (∀ w1 k,Below w.heap.size w w1->k < P.1.length->Calls Tryz.prog 74 #[.agg (oc (P.1.getD k p0).e (P.1.getD k p0).M)] w1 (LSays w1 (P.1.getD k p0).e (P.1.getD k p0).M)):=fun w1 k hb hk=>o_list (hG.keep hb hG.size) (hR k hk)
 have HSt:Hid (SSt w s g pv P):=h
 have HTk:Hid (∀ i,i < P.1.length->(P.1.map lsP).take (i+1)=(P.1.map lsP).take i ++ [lsP (P.1.getD i p0)]):=fun i hi=>by
  rw [List.take_add_one]
  congr 1
  simp [List.getD,hi]
 have HLt:Hid (∀ i,i<=P.1.length->((P.1.map lsP).take i).length=i):=fun i hi=>by simp; omega
 have HAll:Hid ((P.1.map lsP).take P.1.length=P.1.map lsP):=List.take_of_length_le (by simp)
 have hsl:=h.sa.lt
 have hgl:=h.glt
 have c1:(w.alloc (.cells zs 32)).cell? ⟨s,1,none⟩=some (.slice (some ⟨g,0,none⟩) P.1.length 21):=(HSt.out.keep HB1.out).sa.cell 1
 have HRw:Hid (∀ w1 k,Below w.heap.size w w1->k < P.1.length->w1.rangeAt g (k*66) (plc (P.1.getD k p0))):=fun w1 k hb hk=>(HSt.out.keep hb).row hk
 clear h hG hR
 generalize P.1.map lsP=LL at *
 go_enter Tryz.func55,Tryz.ntmps55
 go_wp2_with fail
 go_loopw [3,13] (fun cv iv wr=>∃ (i:Nat) (X:List Value),i<=P.1.length/\iv=.int .i64 (i:Int)/\cv=.slice (some ⟨w.heap.size,0,none⟩) i 21/\Hid (wr.ownsRow w.heap.size 32 1 (.slice (some ⟨w.heap.size,0,none⟩) i 21) i X/\Below w.heap.size w wr/\w.heap.size < wr.heap.size/\LLs wr (w.heap.size+1) w.heap.size X (LL.take i))) (fun _ iv _=>P.1.length - (intOf iv).toNat)
 case atStart=>exact ⟨0,[],by omega,rfl,rfl,HOw.out,HB1.out,by simp,⟨rfl,fun i hi=>absurd hi (by simp),fun i hi=>absurd hi (by simp),fun i j a hi=>absurd hi (by simp)⟩⟩
 case round =>
  obtain ⟨i,X,hile,rfl,rfl,HR⟩:=hrel
  have hzr:=HR.out.2.2.1
  by_cases hlt:i < P.1.length
  ·have hii:(i:Int) < (P.1.length:Int):=by omega
   have hi00:(0:Int)<=(i:Int):=Int.natCast_nonneg _
   have HRow:Hid (wr.rangeAt g (i*66) (plc (P.1.getD i p0))):=HRw.out wr i HR.out.2.1 hlt
   have HTi:Hid (LL.take (i+1)=LL.take i ++ [lsP (P.1.getD i p0)]):=HTk.out i hlt
   have HLi2:Hid (∀ w1,Below w.heap.size w w1->Calls Tryz.prog 74 #[.agg (oc (P.1.getD i p0).e (P.1.getD i p0).M)] w1 (LSays w1 (P.1.getD i p0).e (P.1.getD i p0).M)):=fun w1 hb=>HLi.out w1 i hb hlt
   have hll:=HLt.out i hile
   generalize P.1.getD i p0=p at *
   have hps:=pl_size p
   obtain ⟨w2,hst2,hat2,hb2,hs2⟩:=HFr.out wr p
   have H2:Hid (At w2 wr.heap.size (plA p) tPl/\Below wr.heap.size wr w2):=⟨hat2,hb2⟩
   have HOc:Hid (w2.rangeAt wr.heap.size 0 (oc p.e p.M).toList):=fun j v hv=>by
    have hj:j < 65:=by
     rcases Nat.lt_or_ge j 65 with q | q
     ·exact q
     ·rw [List.getElem?_eq_none (by simp [oc_size]; omega)] at hv; cases hv
    rw [Nat.zero_add,hat2.cell]
    show (plc p).toArray[j]?=_
    rw [List.getElem?_toArray,plc_oc p hj,<- Array.getElem?_toList]
    exact hv
   have hlo:(Tryz.prog.info? 90).map (·.size)=some (oc p.e p.M).toList.length:=by
    obtain ⟨i0,hi,hz1⟩:=o_info
    have hi':Tryz.prog.info? 90=some i0:=hi
    simp [hi',hz1,oc_size]
   have hli:=HLi2.out w2 (HR.out.2.1.trans (hb2.mono (by omega)))
   clear hat2 hb2
   go_wp2_with (first | refine wpList_load_mid rfl 128 (.tmp 15) rfl g (i*66) rfl (plc p) _ HRow.out Tryz.underlying128 rfl hps ?_ | refine wpList_load_mid rfl 90 (.tmp 17) rfl wr.heap.size 0 rfl (oc p.e p.M).toList _ HOc.out Tryz.underlying90 rfl hlo ?_)
   refine hli.mono ?_
   intro y w4 hy
   have HPV:∃ v4,y=.returned v4/\PV w4 w2.heap.size v4 (lsP p):=by
    rcases hy.2 with ⟨he,hv⟩ | ⟨he,gq,hv,hgq,ha⟩
    ·exact ⟨_,hv,by unfold lsP; rw [if_pos he]; exact (rfl:_=_)⟩
    ·exact ⟨_,hv,by unfold lsP; rw [if_neg (by rw [he]; decide)]; exact ⟨gq,hgq,rfl,ha,bdL_len _⟩⟩
   obtain ⟨v4,rfl,hv4⟩:=HPV
   have hb24:Below wr.heap.size wr w4:=H2.out.2.trans (hy.1.mono (by omega))
   have hz4':w2.heap.size<=w4.heap.size:=hy.1.size
   have H4:Hid (w4.ownsRow w.heap.size 32 1 (.slice (some ⟨w.heap.size,0,none⟩) i 21) i X/\Below w.heap.size w w4/\LLs w4 (w.heap.size+1) w.heap.size (X ++ [v4]) (LL.take i ++ [lsP p])):=by
    have hL:=HR.out.2.2.2
    refine ⟨ownsRow_below HR.out.1 (fun k hk=>hb24.block k (HR.out.1.lt k hk).2),HR.out.2.1.trans (hb24.mono (by omega)),?_⟩
    exact (hL.same (w':=w4) (fun k hk _ _=>hb24.block k hk)).snoc hv4 (by omega) (by omega) (fun j hj k hk=>by have:=((hL.each j hj).lt k hk).2; omega)
   have HF1:Hid (∀ w5,(w4.alloc (.cells #[v4] 32)).grownBy w5 (some w.heap.size)->w5.ownsRow w.heap.size 32 1 (.slice (some ⟨w.heap.size,0,none⟩) (i+1) 21) (i+1) (X ++ [v4]) ->
     w5.ownsRow w.heap.size 32 1 (.slice (some ⟨w.heap.size,0,none⟩) (i+1) 21) (i+1) (X ++ [v4])/\Below w.heap.size w w5/\w.heap.size < w5.heap.size/\LLs w5 (w.heap.size+1) w.heap.size (X ++ [v4]) (LL.take (i+1))):=by
    intro w5 hg ho
    have hbk:∀ k,k < w4.heap.size->k ≠ w.heap.size->w5.heap[k]?=w4.heap[k]?:=fun k hk hne=>(hg.block k (by simp; omega) (by intro e; have:=Option.some.inj e; omega)).trans (heap_alloc_old _ _ hk)
    have hs5:=hg.size
    rw [HTi.out]
    refine ⟨ho,(H4.out.2.1.alloc H4.out.2.1.size _).grown hg (by simp; omega) (fun k hk=>by cases hk; exact Nat.le_refl _),by simp at hs5; omega,H4.out.2.2.same (fun k hk _ hne=>hbk k hk hne)⟩
   have HV:Hid (PV w4 w2.heap.size v4 (lsP p)):=hv4
   clear hv4 hy hli hb24
   generalize lsP p=oo at *
   cases oo with
   | none =>
    have hv:v4=.slice none 0 0:=HV.out
    subst hv
    go_wp2_with (at_builtin; refine wpList_append_fits _ rfl (.tmp 20) (.tmp 22) 54 rfl w.heap.size 32 i0 1 Tryz.underlying54 hi0 hz1 w.heap.size i 21 _ rfl (H4.out.1.alloc _) ⟨w4.heap.size,0,none⟩ 1 1 [Value.slice none 0 0] rfl rfl (by intro t u ht; match t,ht with | 0,ht=>simp at ht; subst ht; exact World.cell?_alloc_at _ _ _ _ rfl) (by intro u hu; simp at hu; subst hu; rfl) (by omega) ?_; intro w5 hown5 hgrow5)
    go_roundw
    case rel=>exact ⟨i+1,X ++ [Value.slice none 0 0],by omega,by go_num,rfl,HF1.out w5 hgrow5 hown5⟩
    case measure=>simp [intOf]; omega
   | some l =>
    obtain ⟨g3,hg3,hv,-,-⟩:=HV.out
    subst hv
    go_wp2_with (at_builtin; refine wpList_append_fits _ rfl (.tmp 20) (.tmp 22) 54 rfl w.heap.size 32 i0 1 Tryz.underlying54 hi0 hz1 w.heap.size i 21 _ rfl (H4.out.1.alloc _) ⟨w4.heap.size,0,none⟩ 1 1 [Value.slice (some ⟨g3,0,none⟩) 32 32] rfl rfl (by intro t u ht; match t,ht with | 0,ht=>simp at ht; subst ht; exact World.cell?_alloc_at _ _ _ _ rfl) (by intro u hu; simp at hu; subst hu; rfl) (by omega) ?_; intro w5 hown5 hgrow5)
    go_roundw
    case rel=>exact ⟨i+1,X ++ [Value.slice (some ⟨g3,0,none⟩) 32 32],by omega,by go_num,rfl,HF1.out w5 hgrow5 hown5⟩
    case measure=>simp [intOf]; omega
  ·have hie:i=P.1.length:=by omega
   subst hie
   have HFin:Hid (ReadsL wr (.slice (some ⟨w.heap.size,0,none⟩) P.1.length 21) LL):=by
    have hL:=HR.out.2.2.2
    have hl2:=HLt.out P.1.length (Nat.le_refl _)
    rw [HAll.out] at hL hl2
    exact lls_readsL hl2 HR.out.1 hL h21
   go_wp2_with fail
   go_ret
   exact ⟨_,_,rfl,HFin.out,HR.out.2.1⟩
end Go.Proofs.YtffajooegiempaaGreatDoor

namespace Go.Proofs.YtffajooegiempaaGreatDoor
structure Ms where
 used:Nat
 st:Int
 pt:Int
 v:List Int
variable {F:List Ds} {L:List Int} {s:Ms} {x:Ds}
end Go.Proofs.YtffajooegiempaaGreatDoor

namespace Go.Proofs.YtffajooegiempaaGreatDoor
variable {F:List Ds} {L:List Int} {s:Ms} {x:Ds}
theorem firstGo_in (p b fr:Int):∀ (l:List Ds) (i:Nat),firstGo p b fr l i=-1 \/ ((i:Int)<=firstGo p b fr l i/\firstGo p b fr l i < ((i+l.length:Nat):Int)):=by
 intro l
 induction l with
 | nil=>intro i; exact .inl rfl
 | cons y l ih =>
  intro i
  rw [firstGo]
  split
  ·right; simp only [List.length_cons]; omega
  ·rcases ih (i+1) with h | h
   ·exact .inl h
   ·right; simp only [List.length_cons]; omega
theorem firstP_in (p b fr:Int) (h:firstP F p b fr ≠ -1):0<=firstP F p b fr/\firstP F p b fr < F.length:=by
 rcases firstGo_in p b fr F 0 with e | e
 ·exact absurd e h
 ·unfold firstP; omega
theorem followP_in:∀ (n:Nat) (pt:Int),0<=followP F n pt/\followP F n pt<=F.length:=by
 intro n
 induction n with
 | zero=>intro pt; unfold followP; omega
 | succ n ih =>
  intro pt
  rw [followP]
  split
  ·omega
  split
  ·rename_i h
   have:=firstP_in _ _ _ h
   omega
  split
  ·rename_i h
   unfold isRepP at h
   simp only [Bool.and_eq_true,decide_eq_true_eq] at h
   omega
  ·exact ih _
theorem nextP_in (pt way:Int) (h:(nextP F pt way).2=0):0<=(nextP F pt way).1/\(nextP F pt way).1<=F.length:=by
 unfold nextP at h |-
 by_cases h1:pt < 0 \/ (F.length:Int)<=pt
 ·rw [if_pos h1] at h; simp at h
 rw [if_neg h1] at h |-
 by_cases h2:way < 0 \/ waysP (F.getD pt.toNat (newDs 0 0)).kind<=way
 ·rw [if_pos h2] at h; simp at h
 rw [if_neg h2] at h |-
 split
 ·exact followP_in _ _
 split
 ·rename_i h3
  have:=firstP_in _ _ _ h3
  simp only; omega
 split
 ·simp only; omega
 ·exact followP_in _ _
end Go.Proofs.YtffajooegiempaaGreatDoor

namespace Go.Proofs.YtffajooegiempaaGreatDoor
structure DQ (x:Ds):Prop where
 g:DsG x
 len:x.sg.length=4
 tg:0<=x.target/\x.target < 4
 kd:x.kind=0 \/ x.kind=1 \/ x.kind=2 \/ x.kind=3
 nz2:nz x.sg<=2
 fa:x.kind=0->nz x.sg<=1
 fc:x.kind ≠ 0->x.any=true \/ 1<=nz x.sg
theorem dq_of {l:List Int} {m:Rd} {F:List Ds} (hp:progOf l=some m) (hW:Whole F m.st) {k:Nat} (hk:k < F.length):DQ (F.getD k (newDs 0 0)):=by
 have hD:=dsg_of hp hW hk
 have hq:=stq_of hp (show k < m.st.length by have:=hW.1.len; omega)
 have hk0:=kind_0 hD.2
 obtain ⟨-,c1,c2,c3,c4⟩:=id hD.2
 refine ⟨hD.1,by rw [<- c3]; exact hq.g.len,by rw [<- c1]; exact ⟨hq.var.1,by have:=hq.var.2; omega⟩,?_,by rw [<- c3]; exact hq.g.nz,fun h=>by rw [<- c3]; exact hq.fq.1 (hk0.1 h),fun h=>by rw [<- c3,<- c2]; exact hq.fq.2 (fun z=>h (hk0.2 z))⟩
 obtain ⟨x,u,a0,c0,g,hx,hu,hcor,ha,hif,hfc,hC,hs,hr,hkk⟩:=hW.at_ k hk
 rw [getD_some hx]
 obtain ⟨x',u',hx',hu',_,_,_,_,hkd⟩:=hs
 rw [hx] at hx'
 cases hx'
 rcases hkd with ⟨hk01,_⟩ | ⟨hk3,_⟩ | ⟨hk2,_⟩
 ·rcases hk01 with e | e
  ·exact .inl e
  ·exact .inr (.inl e)
 ·exact .inr (.inr (.inr hk3))
 ·exact .inr (.inr (.inl hk2))
def coS (s i:Nat):Int:=if s / 2=i then (if s % 2=0 then 1 else -1) else 0
def tabC (l:List Int):Bool:=decide (2 < nz l) || ((List.range 4).all fun i=>decide (gAt l i=if sd1 l=sd2 l then coS (sd1 l) i else coS (sd1 l) i+coS (sd2 l) i)) && (decide (1 < nz l) || decide (sd1 l=sd2 l) || decide (sd1 l=opp (sd2 l)))
theorem tabC_all:(sg3.all fun a=>sg3.all fun b=>sg3.all fun c=>sg3.all fun d=>tabC [a,b,c,d])=true:=by decide +kernel
theorem tabC_of {l:List Int} (hl:l.length=4) (h:∀ i,-1<=gAt l i/\gAt l i<=1):tabC l=true:=by
 obtain ⟨a,b,c,d,rfl⟩:=four_of hl
 have t:=tabC_all
 simp only [List.all_eq_true] at t
 exact t a (mem_sg3 (h 0)) b (mem_sg3 (h 1)) c (mem_sg3 (h 2)) d (mem_sg3 (h 3))
theorem one_sd {l:List Int} (hl:l.length=4) (h:∀ i,-1<=gAt l i/\gAt l i<=1) (h1:nz l<=1):sd1 l=sd2 l \/ sd1 l=opp (sd2 l):=by
 have t:=tabC_of hl h
 unfold tabC at t
 rw [decide_eq_false (by omega:¬ 2 < nz l),Bool.false_or,Bool.and_eq_true,decide_eq_false (by omega:¬ 1 < nz l),Bool.false_or,Bool.or_eq_true] at t
 exact t.2.imp of_decide_eq_true of_decide_eq_true
variable {M:Nat->Int} {v:List Int}
end Go.Proofs.YtffajooegiempaaGreatDoor

namespace Go.Proofs.YtffajooegiempaaGreatDoor
open Go.RowKit
variable {w:World} {s:ByteArray}
def CkSays (f:Nat->Int) (n:Nat) (r:Int × Int):Prop:=((∀ j,j < n->f j=0)/\r=(0,0)) \/ ∃ k,k < n/\(∀ j,j < k->f j=0)/\f k ≠ 0/\r=(f k,(k:Int))
theorem CkSays.one {f:Nat->Int} {n:Nat} {r r':Int × Int} (h:CkSays f n r) (h':CkSays f n r'):r=r':=by
 rcases h with ⟨h,rfl⟩ | ⟨k,hk,h1,h2,rfl⟩ <;> rcases h' with ⟨h',rfl⟩ | ⟨k',hk',h1',h2',rfl⟩
 ·rfl
 ·exact absurd (h k' hk') h2'
 ·exact absurd (h' k hk) h2
 ·have:k=k':=by
   rcases Nat.lt_trichotomy k k' with q | q | q
   ·exact absurd (h1' k q) h2
   ·exact q
   ·exact absurd (h1 k' q) h2'
  rw [this]
def CertSays (F:List Ds) (b:List Int) (r:Int × Int):Prop :=
 match decF b with
 | none=>r=(4,0)
 | some L=>if L.length ≠ F.length+1 then r=(4,0) else if wiB false (cE (atL L 0)) (fun _=>0) (cM (atL L 0))=false then r=(5,0) else CkSays (chkP F L) F.length r
theorem o_origin:Calls Tryz.prog 52 #[] w fun e w'=>e=.returned (.agg (oc false fun _=>0))/\Below w.heap.size w w':=by
 obtain ⟨M0,hM0⟩:∃ M0:Nat->Int,M0=fun _=>0:=⟨_,rfl⟩
 have hz:∀ w,(zeroValue tO).run Tryz.prog w=.ok (.agg (oc false M0)) w:=by rw [hM0]; exact o_zero
 have HFr:Hid (∃ w2,(storeCells ⟨w.heap.size,0,none⟩ (oc false M0).toList).run Tryz.prog (w.alloc (.cells (oc false M0) tO))=.ok () w2/\OAt w2 w.heap.size false M0/\Below w.heap.size w w2/\w.heap.size < w2.heap.size):=by rw [hM0]; exact o_fresh w false _
 have ho3:(oc false M0).size=65:=oc_size _ _
 have ho4:¬ oc false M0=#[]:=fun h=>by have:=congrArg Array.size h; rw [oc_size] at this; simp at this
 rw [<- hM0]
 clear hM0
 obtain ⟨w3,hst3,hat3,hb3,hs3⟩:=HFr.out
 have H3:Hid (OAt w3 w.heap.size false M0/\Below w.heap.size w w3):=⟨hat3,hb3⟩
 clear hat3 hb3
 go_enter Tryz.func52,Tryz.ntmps52
 go_wp2_with fail
 try simp only [Exit.inBlock,Exit.then]
 refine bodyPost_ret (results_o rfl _ rfl H3.out.1) rfl ?_
 exact ⟨rfl,H3.out.2⟩
def KB (w wr:World) (g:Nat) (L:List (Option (List Int))) (pv:Value):Prop:=At wr w.heap.size #[pv] tPr/\ORow wr g L/\Below w.heap.size w wr
theorem KB.keep {wr w':World} {g:Nat} {L:List (Option (List Int))} {pv:Value} (h:KB w wr g L pv) (hb:Below wr.heap.size wr w'):KB w w' g L pv :=
 ⟨h.1.keep hb h.1.lt,h.2.1.keep hb,h.2.2.trans (hb.mono h.2.2.size)⟩
theorem c_check {cap:Nat} {ao:Option Addr} {F:List Ds} (hG:Glob w) (hs:s.size<=9223372036854775807) (hl:F.length<=20)
  (hp:∀ w1,Below w.heap.size w w1->∀ g L,ORow w1 g L->(∀ r,r ∈ L->okp r)->∀ k,k < F.length->Calls Tryz.prog 91 #[.agg #[.slice ao F.length cap],.slice (some ⟨g,0,none⟩) L.length 21,.int .i64 (k:Int)] w1 fun e w'=>e=.returned (.int .i64 (chkP F L k))/\Below w1.heap.size w1 w') :
  Calls Tryz.prog 57 #[.agg #[.slice ao F.length cap],.string s] w fun e w'=>∃ a b,e=.returned (.tuple #[.int .i64 a,.int .i64 b])/\CertSays F (bytesOf s) (a,b)/\Below w.heap.size w w':=by
 obtain ⟨M0,hM0⟩:∃ M0:Nat->Int,M0=fun _=>0:=⟨_,rfl⟩
 have hz:∀ w,(zeroValue tO).run Tryz.prog w=.ok (.agg (oc false M0)) w:=by rw [hM0]; exact o_zero
 have HFr:Hid (∀ (w1:World) e M,∃ w2,(storeCells ⟨w1.heap.size,0,none⟩ (oc e M).toList).run Tryz.prog (w1.alloc (.cells (oc false M0) tO))=.ok () w2/\OAt w2 w1.heap.size e M/\Below w1.heap.size w1 w2/\w1.heap.size < w2.heap.size):=by rw [hM0]; exact fun w1 e M=>o_fresh w1 e M
 have HOr:Hid (∀ w1,Calls Tryz.prog 52 #[] w1 fun e w'=>e=.returned (.agg (oc false M0))/\Below w1.heap.size w1 w'):=by rw [hM0]; exact fun w1=>o_origin
 have HM0:Hid (M0=fun _=>0):=hM0
 have ho3:(oc false M0).size=65:=oc_size _ _
 have ho4:¬ oc false M0=#[]:=fun h=>by have:=congrArg Array.size h; rw [oc_size] at this; simp at this
 clear hM0
 have HRc:Hid (∀ w1,Below w.heap.size w w1->Calls Tryz.prog 89 #[.string s] w1 (CLOut w1 s)):=fun w1 hb=>c_readClaims (hG.keep hb hG.size) hs
 have HP:Hid (∀ w1,Below w.heap.size w w1->∀ g L,ORow w1 g L->(∀ r,r ∈ L->okp r)->∀ k,k < F.length->Calls Tryz.prog 91 #[.agg #[.slice ao F.length cap],.slice (some ⟨g,0,none⟩) L.length 21,.int .i64 (k:Int)] w1 fun e w'=>e=.returned (.int .i64 (chkP F L k))/\Below w1.heap.size w1 w'):=hp
 obtain ⟨n,hn⟩:∃ n,n=F.length:=⟨_,rfl⟩
 have HN:Hid (n=F.length):=hn
 have hln:n<=20:=by omega
 rw [<- hn]
 clear hp hG hn
 go_enter Tryz.func57,Tryz.ntmps57
 go_wp2_with fail
 refine (HRc.out _ ((Below.refl _ _).alloc (Nat.le_refl _) _)).mono ?_
 rintro e w1 ⟨hb1,⟨hd,rfl⟩ | ⟨L,g,hd,rfl,hg,hrow⟩⟩
 ·have HB:Hid (Below w.heap.size w w1):=((Below.refl _ _).alloc (Nat.le_refl _) _).trans (hb1.mono (by simp))
  have HR:Hid (CertSays F (bytesOf s) (4,0)):=by show CertSays _ _ _; unfold CertSays; rw [hd]
  clear hb1 hd
  go_wp2_with fail
  go_ret2
  exact ⟨_,_,rfl,HR.out,HB.out⟩
 ·have HOk:Hid (∀ r,r ∈ L->okp r):=(dec_ok (bys s) hd).2.2.2
  have hL21:=(dec_ok (bys s) hd).2.2.1
  have H1:Hid (KB w w1 g L (.slice ao n cap)):=⟨At.keep (At.new w _ _) hb1 (by simp),hrow,((Below.refl _ _).alloc (Nat.le_refl _) _).trans (hb1.mono (by simp))⟩
  have HS:Hid (∀ r,(L.length ≠ n+1->r=(4,0))->(L.length=n+1->if wiB false (cE (atL L 0)) M0 (cM (atL L 0))=false then r=(5,0) else CkSays (chkP F L) n r)->CertSays F (bytesOf s) r):=by
   intro r h1 h2
   rw [HM0.out] at h2
   unfold CertSays
   rw [hd,<- HN.out]
   show if _ then _ else _
   split
   ·rename_i q; exact h1 q
   ·rename_i q; exact h2 (by simpa using q)
  have HEnd:Hid (∀ w1,Calls Tryz.prog 67 #[.agg #[.slice ao n cap]] w1 fun e w'=>e=.returned (.int .i64 (n:Int))/\Below w1.heap.size w1 w'):=fun w1=>(d_end ao n cap w1 hln).mono fun e w' ⟨h1,o,h2⟩=>⟨h1,by rw [h2]; exact (Below.refl _ _).alloc (Nat.le_refl _) _⟩
  have c0:w1.cell? ⟨w.heap.size,0,none⟩=some (.slice ao n cap):=H1.out.1.cell 0
  clear hb1 hd hrow hg HRc
  go_wp2_with fail
  refine (HEnd.out w1).mono ?_
  rintro e w2 ⟨rfl,hb2⟩
  have H2:Hid (KB w w2 g L (.slice ao n cap)):=H1.out.keep hb2
  clear hb2 c0 H1
  by_cases hlen:L.length=n+1
  ·have hli:(L.length:Int)=(n:Int)+1:=by omega
   have HS2:Hid (∀ r,(if wiB false (cE (atL L 0)) M0 (cM (atL L 0))=false then r=(5,0) else CkSays (chkP F L) n r)->CertSays F (bytesOf s) r):=fun r h=>HS.out r (fun q=>absurd hlen q) (fun _=>h)
   have HCl:=fun w3 (h:KB w w3 g L (.slice ao n cap))=>c_claimAt h.2.1 (0:Int)
   have HCl:Hid (∀ w3,KB w w3 g L (.slice ao n cap)->Calls Tryz.prog 90 #[.slice (some ⟨g,0,none⟩) L.length 21,.int .i64 0] w3 fun e w'=>e=.returned (.agg (oc (cE (atL L 0)) (cM (atL L 0))))/\Below w3.heap.size w3 w'):=HCl
   have HPt:Hid (∀ w3,KB w w3 g L (.slice ao n cap)->∀ k,k < n->Calls Tryz.prog 91 #[.agg #[.slice ao n cap],.slice (some ⟨g,0,none⟩) L.length 21,.int .i64 (k:Int)] w3 fun e w'=>e=.returned (.int .i64 (chkP F L k))/\Below w3.heap.size w3 w'):=fun w3 h k hk=>by
    have:=HP.out w3 h.2.2 g L h.2.1 HOk.out k (by rw [<- HN.out]; exact hk)
    rw [<- HN.out] at this
    exact this
   clear HP HS HOk hli
   generalize L.length=m at *
   subst hlen
   generalize cE (atL L 0)=e1 at *
   generalize cM (atL L 0)=M1 at *
   generalize chkP F L=f at *
   go_wp2_with fail
   refine (HCl.out w2 H2.out).mono ?_
   rintro e w3 ⟨rfl,hb3⟩
   obtain ⟨w4,hst4,hat4,hb4,hs4⟩:=HFr.out w3 e1 M1
   have H4:Hid (OAt w4 w3.heap.size e1 M1/\KB w w4 g L (.slice ao n cap)):=⟨hat4,(H2.out.keep hb3).keep hb4⟩
   clear hb3 hat4 hb4
   go_wp2_with fail
   refine (HOr.out w4).mono ?_
   rintro e w5 ⟨rfl,hb5⟩
   obtain ⟨w6,hst6,hat6,hb6,hs6⟩:=HFr.out w5 false M0
   have H6:Hid (OAt w6 w5.heap.size false M0/\OAt w6 w3.heap.size e1 M1/\KB w w6 g L (.slice ao n cap)):=by
    have h9:OAt w5 w3.heap.size e1 M1:=At.keep H4.out.1 hb5 (At.lt H4.out.1)
    exact ⟨hat6,At.keep h9 hb6 (At.lt h9),(H4.out.2.keep hb5).keep hb6⟩
   clear hb5 hat6 hb6
   go_wp2_with (first | refine wpList_load_o rfl (.tmp 9) rfl rfl H6.out.1 ?_ | refine wpList_load_o rfl (.tmp 8) rfl rfl H6.out.2.1 ?_)
   refine (o_within (w:=w6) (e1:=false) (e2:=e1) (M:=M0) (N:=M1)).mono ?_
   rintro e w7 ⟨rfl,hb7⟩
   have H7:Hid (KB w w7 g L (.slice ao n cap)):=H6.out.2.2.keep hb7
   clear hb7 H6
   cases hwi:wiB false e1 M0 M1 with
   | false =>
    have HR:Hid (CertSays F (bytesOf s) (5,0)):=HS2.out _ (by rw [if_pos hwi])
    clear hwi
    go_wp2_with fail
    go_ret2
    exact ⟨_,_,rfl,HR.out,H7.out.2.2⟩
   | true =>
    have HS3:Hid (∀ r,CkSays f n r->CertSays F (bytesOf s) r):=fun r h=>HS2.out r (by rw [if_neg (by rw [hwi]; decide)]; exact h)
    clear hwi HS2
    go_wp2_with fail
    go_loopw [7,10] (fun _ iv wr=>∃ i:Nat,i<=n/\iv=.int .i64 (i:Int)/\Hid ((∀ j,j < i->f j=0)/\KB w wr g L (.slice ao n cap))) (fun _ iv _=>n - (intOf iv).toNat)
    case atStart=>exact ⟨0,by omega,rfl,fun j hj=>by omega,H7.out⟩
    case round =>
     obtain ⟨i,hi,rfl,HR⟩:=hrel
     have c0:wr.cell? ⟨w.heap.size,0,none⟩=some (.slice ao n cap):=HR.out.2.1.cell 0
     go_wp2_with fail
     refine (HEnd.out wr).mono ?_
     rintro e w8 ⟨rfl,hb8⟩
     have H8:Hid (KB w w8 g L (.slice ao n cap)):=HR.out.2.keep hb8
     clear hb8 c0
     by_cases hin:i < n
     ·have hii:(i:Int) < (n:Int):=by omega
      have c0:w8.cell? ⟨w.heap.size,0,none⟩=some (.slice ao n cap):=H8.out.1.cell 0
      have hpt:=HPt.out w8 H8.out i hin
      go_wp2_with fail
      refine hpt.mono ?_
      rintro e w9 ⟨rfl,hb9⟩
      have H9:Hid (KB w w9 g L (.slice ao n cap)):=H8.out.keep hb9
      clear hb9 c0 hpt
      by_cases h0:f i=0
      ·have HA:Hid (∀ j,j < i+1->f j=0):=fun j hj=>by
        rcases Nat.lt_or_ge j i with q | q
        ·exact HR.out.1 j q
        ·rw [show j=i by omega]; exact h0
       rw [h0]
       clear h0
       go_wp2_with fail
       go_roundw
       case rel=>exact ⟨i+1,by omega,by go_num,HA.out,H9.out⟩
       case measure=>simp [intOf]; omega
      ·have HA:Hid (CertSays F (bytesOf s) (f i,(i:Int))):=HS3.out _ (.inr ⟨i,hin,HR.out.1,h0,rfl⟩)
       go_wp2_with fail
       go_ret2
       exact ⟨_,_,rfl,HA.out,H9.out.2.2⟩
     ·have hie:i=n:=by omega
      subst hie
      have HA:Hid (CertSays F (bytesOf s) (0,0)):=HS3.out _ (.inl ⟨HR.out.1,rfl⟩)
      go_wp2_with fail
      go_ret2
      exact ⟨_,_,rfl,HA.out,H8.out.2.2⟩
  ·have hli:¬ (L.length:Int)=(n:Int)+1:=by omega
   have HR:Hid (CertSays F (bytesOf s) (4,0)):=HS.out _ (fun _=>rfl) (fun q=>absurd q hlen)
   clear hlen
   go_wp2_with fail
   go_ret2
   exact ⟨_,_,rfl,HR.out,H2.out.2.2⟩
end Go.Proofs.YtffajooegiempaaGreatDoor

namespace Go.Proofs.YtffajooegiempaaGreatDoor
open Go.RowKit
variable {w:World} {s:ByteArray}
theorem c_rng {r:Option (List Int)} (h:okp r):∀ j,j < 64->-20000000000<=cM r j/\cM r j<=1000000:=by
 cases r with
 | none=>intro j _; show -20000000000<=(0:Int)/\(0:Int)<=1000000; omega
 | some l=>exact ov_rng (okp_ok h)
theorem c_sh {r:Option (List Int)} (h:okp r) (he:cE r=false):Sh (cM r):=by
 cases r with
 | none=>cases he
 | some l=>exact (ov_tq (okp_ok h) he).sh
theorem atL_ok {L:List (Option (List Int))} (h:∀ r,r ∈ L->okp r) (pt:Int):okp (atL L pt):=by
 unfold atL
 split
 ·intro l e; cases e
 ·exact getD_ok h _
theorem c_checkPoint_of {l:List Int} {m:Rd} {F:List Ds} {g0 cap:Nat} (hp:progOf l=some m) (hW:Whole F m.st) (hl:F.length<=20) (hpar:∀ (k:Nat) (x:Ds),F[k]?=some x->-1<=x.parent/\x.parent < (k:Int)) (hP:PRow w g0 F) {g:Nat} {L:List (Option (List Int))} (hO:ORow w g L) (hok:∀ r,r ∈ L->okp r) {k:Nat} (hk:k < F.length) :
  Calls Tryz.prog 91 #[.agg #[.slice (some ⟨g0,0,none⟩) F.length cap],.slice (some ⟨g,0,none⟩) L.length 21,.int .i64 (k:Int)] w fun e w'=>e=.returned (.int .i64 (chkP F L k))/\Below w.heap.size w w':=by
 have hD:=dsg_of hp hW hk
 have hq:=stq_of hp (show k < m.st.length by have:=hW.1.len; omega)
 exact c_checkPoint hP hl hpar hk hO hD.1 (by rw [<- hD.2.2.1]; exact ⟨hq.var.1,by have:=hq.var.2; omega⟩) (c_rng (atL_ok hok _)) (c_sh (atL_ok hok _))
end Go.Proofs.YtffajooegiempaaGreatDoor

namespace Go.Proofs.YtffajooegiempaaGreatDoor
open Go.RowKit
variable {w:World} {C:Nat->Int}
theorem at_tc (h:TQ C) {l:List Int} (hl:l.length=4) (hv:∀ i,-1<=gAt l i/\gAt l i<=1) (h1:1<=nz l) (h2:nz l<=2) {n:Int} (hn:n<=1000) (he:atE false C l n=false):TC (atM false C l n):=by
 obtain ⟨f,hf,hnf,hgr,hs1,hs2⟩:=grP_form h.tc hl hv h1 h2
 unfold atE at he
 unfold atM
 by_cases q:atS false C l n=true
 ·rw [if_pos q]; exact h.tc
 ·rw [if_neg q] at he |-
  have e:lm C (sd1 l) (sd2 l) n=sb C f n:=by rw [hs1,hs2]; rfl
  rw [e] at he |-
  exact (sb_raw h.tc (h.top.mono (by decide)) hf hn).tc he
theorem po_tc (h:TQ C) {x:Ds} {u:St} (hx:DsG x) (hu:StQ u) (hc:Cor x u) (way:Int) (he:poE false C x way=false):TC (poM false C x way):=by
 have hk0:=kind_0 hc
 obtain ⟨-,c1,c2,c3,c4⟩:=id hc
 have n:=hx.num
 have ht:0<=x.target/\x.target < 4:=by rw [<- c1]; exact ⟨hu.var.1,by have:=hu.var.2; omega⟩
 unfold poE at he
 unfold poM
 rw [if_neg (by decide)] at he |-
 by_cases k0:x.kind=0
 ·rw [if_pos k0]
  unfold asM
  split
  ·exact (bt_tc h.tc h.top (by omega) ⟨by omega,by omega⟩ ⟨by omega,by omega⟩ (by omega)).1
  ·split
   ·exact (bt_tc h.tc h.top (by omega) ⟨by omega,by omega⟩ ⟨by omega,by omega⟩ (Int.le_refl _)).1
   ·exact (ss_tc h.tc h.top (by omega) (sdS_lt x.sg 4 (Nat.le_refl _)).1 ⟨by omega,by omega⟩).1
 ·rw [if_neg k0] at he |-
  have k61:¬ u.kind=61:=fun z=>k0 (hk0.2 z)
  cases ha:x.any with
  | true=>rw [if_pos rfl]; exact h.tc
  | false =>
   rw [ha,if_neg (by decide)] at he
   rw [if_neg (by decide)]
   have hz1:1<=nz u.sg:=(hu.fq.2 k61).resolve_left (by rw [c2,ha]; decide)
   rw [c3] at hz1
   have g1:x.sg.length=4:=by rw [<- c3]; exact hu.g.len
   have g2:nz x.sg<=2:=by rw [<- c3]; exact hu.g.nz
   by_cases w0:way=0
   ·rw [if_pos w0] at he |-
    exact at_tc h g1 hx.sg hz1 g2 (by omega) he
   ·rw [if_neg w0] at he |-
    exact at_tc h (ngL_len _) (ngL_rng hx.sg) (by rw [nz_ngL g1]; exact hz1) (by rw [nz_ngL g1]; exact g2) (by omega) he
theorem c_tq {r:Option (List Int)} (h:okp r) (he:cE r=false):TQ (cM r):=by
 cases r with
 | none=>cases he
 | some l=>exact ov_tq (okp_ok h) he
def insB (e:Bool) (M:Nat->Int):Option (List Int)->Bool
 | none=>e
 | some p=>e || leF (bd M) (fun f=>p.getD f 0) 32
theorem ins_same {e:Bool} {M:Nat->Int} (hT:e=false->TC M) {r:Option (List Int)} (hr:okp r):wiB e (cE r) M (cM r)=insB e M r:=by
 cases r with
 | none=>cases e <;> rfl
 | some p =>
  have hp:=okp_ok hr
  unfold insB wiB
  show (if (e || ovE p)=true then e else leF M (ovM p) 64)=_
  cases e with
  | true=>rfl
  | false =>
   have hC:=hT rfl
   have up:leF (bd M) (fun f=>p.getD f 0) 32=true->Le M (ovM p):=fun h=>hC.below_sharp (lay_above hC hp (leF_iff.1 h)) (lay_top hp)
   have dn:Le M (ovM p)->leF (bd M) (fun f=>p.getD f 0) 32=true:=fun h=>leF_iff.2 (bd_below hp (fun a ha=>Int.le_trans (h a ha) (sharp_le _ a)))
   cases hq:ovE p with
   | true =>
    show false=(false || leF (bd M) (fun f=>p.getD f 0) 32)
    cases hl:leF (bd M) (fun f=>p.getD f 0) 32 with
    | false=>rfl
    | true =>
     exfalso
     have h:=up hl
     have:conF (ovM p) 8=false:=conF_no (fun i hi=>by
      have a:=h (i*8+opp i) (by have:=opp_lt hi; omega)
      rw [hC.zero i hi] at a
      exact a)
     rw [show conF (ovM p) 8=ovE p from rfl,hq] at this
     cases this
   | false =>
    show leF M (ovM p) 64=(false || leF (bd M) (fun f=>p.getD f 0) 32)
    cases hl:leF (bd M) (fun f=>p.getD f 0) 32 with
    | true=>exact leF_iff.2 (up hl)
    | false =>
     cases hm:leF M (ovM p) 64 with
     | false=>rfl
     | true=>rw [dn (leF_iff.1 hm)] at hl; cases hl
theorem tc_zero:TC (fun _=>0):=by
 refine ⟨?_,fun _ _=>rfl,fun _ _=>.inr rfl,fun _ _ _ _ _ _=>⟨by unfold NB; decide,by decide⟩,fun _ _ _ _=>rfl,fun _ _=>.inr (by decide)⟩
 intro k _ i j _ _
 exact .inr (.inr ⟨show (0:Int) ≠ NB by decide,show (0:Int)<=0+0 by decide⟩)
theorem bd_zero (f:Nat):bd (fun _=>0) f=0:=by
 unfold bd
 split <;> rfl
def staB:Option (List Int)->Bool
 | none=>false
 | some p=>leF (fun _=>0) (fun f=>p.getD f 0) 32
theorem sta_same {r:Option (List Int)} (hr:okp r):wiB false (cE r) (fun _=>0) (cM r)=staB r:=by
 rw [ins_same (fun _=>tc_zero) hr]
 cases r with
 | none=>rfl
 | some p =>
  show (false || leF (bd fun _=>0) (fun f=>p.getD f 0) 32)=_
  rw [show bd (fun _=>0)=fun _=>0 from funext bd_zero]
  rfl
end Go.Proofs.YtffajooegiempaaGreatDoor

