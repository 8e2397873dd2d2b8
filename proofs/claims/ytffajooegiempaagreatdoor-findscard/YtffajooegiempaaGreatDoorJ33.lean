import Derived.Test.YtffajooegiempaaGreatDoorJ32
import Derived.Test.YtffajooegiempaaGreatDoorTie
import Derived.Test.YtffajooegiempaaGreatDoorCards
import Derived.ProofKit
import Derived.LaidMore
import Derived.OpenShut
import Derived.Stop.Joined
import Derived.ChangeSlices
import Derived.Carry
set_option maxRecDepth 100000
set_option maxHeartbeats 6400000
namespace Go.Proofs.YtffajooegiempaaGreatDoor
open Go.RowKit
variable {w:World}
abbrev LF:TypeId:=32
theorem YR:Gc≠LF:=by decide
def L8(w:World)(b:Nat)(K:Kl):Prop:=∃cs:Array Value,At w b cs LF/\∀i,i<K.length->∃u,cs[i]?=some u/\KV w (K.getD i none) u
theorem L8.lt{b:Nat}{K:Kl}(h:L8 w b K):b<w.heap.size:=by obtain⟨cs,h1,_⟩:=h;exact h1.lt
theorem L8.keep{w w':World}{b:Nat}{K:Kl}(h:L8 w b K)(hb:Below w.heap.size w w'):L8 w' b K:=by
 obtain⟨cs,h1,h2⟩:=h;refine⟨cs,h1.keep hb h1.lt,λi hi=>?_⟩;obtain⟨u,e,k⟩:=h2 i hi;exact⟨u,e,k.keep hb⟩
theorem L8.cell{b:Nat}{K:Kl}(h:L8 w b K){i:Nat}(hi:i<K.length):∃u,w.cell? ⟨b,i,none⟩=some u/\KV w (K.getD i none) u:=by
 obtain⟨cs,h1,h2⟩:=h;obtain⟨u,e,k⟩:=h2 i hi;exact⟨u,by rw[h1.cell];exact e,k⟩
theorem KV.other{b q:Nat}{v:Value}{cs:Array Value}(hb:At w b cs LF){o:Option (Nat->Int)}{u:Value}(h:KV w o u):KV (w.setCell ⟨b,q,none⟩ v) o u:=by
 cases o with
 |none=>exact h
 |some M=>obtain⟨g,e,ha⟩:=h;exact⟨g,e,ha.other q v (ha.ne hb YR)⟩
theorem L8.put{b q:Nat}{K:Kl}(h:L8 w b K)(hq:q<K.length){o:Option (Nat->Int)}{v:Value}(hv:KV w o v):L8 (w.setCell ⟨b,q,none⟩ v) b (K.set q o):=by
 obtain⟨cs,h1,h2⟩:=h;refine⟨_,h1.put q v,λi hi=>?_⟩;rw[List.length_set]at hi;rw[Jc,Array.getElem?_setIfInBounds];obtain⟨u,e,k⟩:=h2 i hi;by_cases c:q=i
 ·subst c;have:q<cs.size:=by
   rcases Nat.lt_or_ge q cs.size with z|z
   ·exact z
   ·rw[Array.getElem?_eq_none z]at e;cases e
  rw[if_pos rfl,if_pos this,if_pos ⟨rfl,hq⟩];exact⟨v,rfl,hv.other h1⟩
 ·rw[if_neg c,if_neg (λz=>c z.1)];exact⟨u,e,k.other h1⟩
theorem T9{o:Option (Nat->Int)}{u v:Value}{e:Bool}{M:Nat->Int}(ho:∀A,o=some A->∀a,a<64->A a<=NB)(hM:e=false->∀a,a<64->M a<=NB)(hu:KV w o u)(hv:LV w e M v):
  Calls Tryz.prog 24 #[u,v] w λx w'=>∃a n c,x=.returned (.slice a n c)/\KV w' (Yi o e M) (.slice a n c)/\Below w.heap.size w w':=by
 cases o with
 |none=>
  obtain rfl:u=.slice none 0 0:=hu;rcases hv with⟨rfl,rfl⟩|⟨rfl,g,rfl,ha⟩
  ·refine(F1 none 0 0).mono ?_;rintro x w3 ⟨rfl,rfl⟩;exact⟨_,_,_,rfl,rfl,Below.refl _ _⟩
  ·refine(F1 (some ⟨g,0,none⟩) 32 32).mono ?_;rintro x w3 ⟨rfl,rfl⟩;exact⟨_,_,_,rfl,⟨g,rfl,ha⟩,Below.refl _ _⟩
 |some A=>
  obtain⟨g,rfl,ha⟩:=hu;rcases hv with⟨rfl,rfl⟩|⟨rfl,q,rfl,hq⟩
  ·refine(KT ⟨g,0,none⟩ 32 32).mono ?_;rintro x w3 ⟨rfl,rfl⟩;exact⟨_,_,_,rfl,⟨g,rfl,ha⟩,Below.refl _ _⟩
  ·refine(JN g q (bd A) (bd M) ha hq).mono ?_;rintro x w3 ⟨rfl,ha3,hb3⟩;refine⟨_,_,_,rfl,⟨_,rfl,?_⟩,hb3⟩;have:rl (Tj (bd A) (bd M))=Bl (jF A M 64):=It λf hf=>(W2 (ho A rfl) (hM rfl) hf).symm;rw[<-this];exact ha3
theorem ZB{n b g:Nat}(hb:At w b (((List.replicate (n+1) (Value.slice none 0 0)).toArray).setIfInBounds 0 (.slice (some ⟨g,0,none⟩) 32 32)) LF)(hg:At w g ((List.replicate 32 (Value.int .i64 0)).toArray) Gc):L8 w b (some (λ_=>0)::List.replicate n none):=by
 have hz:Bl (λ_=>0)=List.replicate 32 0:=by unfold Bl;rw[show bd (λ_=>0)=λ_=>0 from funext MC];rfl
 refine⟨_,hb,λi hi=>?_⟩;rw[List.length_cons,List.length_replicate]at hi;rw[Array.getElem?_setIfInBounds];cases i with
 |zero=>
  rw[if_pos rfl,if_pos (by simp)];exact⟨_,rfl,g,rfl,by rw[hz,<-Qd];exact hg⟩
 |succ i=>
  rw[if_neg (by omega)];refine⟨.slice none 0 0,by simp[hi],?_⟩;rw[List.getD_cons_succ,List.getD_eq_getElem?_getD,List.getElem?_replicate];split<;>rfl
def SR(w:World)(F:List Ds):Ending->World->Prop:=λe w'=>∃a b,e=.returned (.tuple #[.bool a,.bool b])/\(a=true->∃L,Bt F L)/\Below w.heap.size w w'
theorem Mm(s:ByteArray)(hm:s.size<=maxLen){m:Rd}(hp:AV (AA s)=some m):Calls Tryz.prog 7 #[.string s] w (SR w (AI s).2):=by
 have hs:=Ey s w hm;have hq1:∀(w:World)(a:Option Addr)(n c:Nat),(binOp .neq 32 (.slice a n c) (.slice none 0 0)).run Tryz.prog w=.ok (.bool (!a.isNone)) w:=λw a n c=>by
  simp only[binOp];simp[Op.equal,Op.maxDepth,Lib.run_equalIn_slice_nil w 9999 32 tN a n c 0 0 Tryz.underlying32]
 have hmk:∀w,(Instr.makeSlice 32 (.int .i64 32) (.int .i64 32)).run Tryz.prog w=.ok (.slice (some ⟨w.heap.size,0,none⟩) 32 32) (w.alloc (.cells (List.replicate 32 (Value.int .i64 0)).toArray Gc)):=λ_=>by kernel_rfl
 have hsz:(AA s).length<=160:=(Au hp).1;have hl:=AR s;rw[(Au hp).2.2.2]at hs;simp only[FK]at hs;have hW:Bj (AI s).2 m.st:=by
  rcases BU s (by omega)with⟨_,hn⟩|⟨m',_,hp',hW⟩
  ·rw[hp]at hn;cases hn
  ·rw[hp]at hp';cases hp';exact hW
 have hlen:(AI s).2.length<=20:=(A_ s 22 (-1) 0 0 ((0,false),[]) ⟨Nat.zero_le _,Nat.zero_le _⟩).ok.len;have hSl:(AI s).2.length=m.st.length:=hW.1.len;have HR:Hid (∀w1,Calls Tryz.prog 20 #[.string s] w1 λe w'=>∃n:Nat,e=.returned (.tuple #[.pointer (some ⟨w1.heap.size,0,none⟩),.int .i64 n,.bool true])/\Below w1.heap.size w1 w'/\m.st.length<=20/\∃vs vo P Q O,AZ w1.heap.size w' w1.heap.size m vs vo P Q O):=λw1=>Gx hp w1;generalize(AI s).2=F at *;have hD:∀k,k<F.length->DQ (F.getD k (AC 0 0)):=λk hk=>JI hp hW hk;have hmk2:∀w,(Instr.makeSlice 54 (.int .i64 ((F.length:Int)+1)) (.int .i64 ((F.length:Int)+1))).run Tryz.prog w=.ok (.slice (some ⟨w.heap.size,0,none⟩) (F.length+1) (F.length+1)) (w.alloc (.cells (List.replicate (F.length+1) (Value.slice none 0 0)).toArray LF)):=by
  intro w;obtain⟨i0,hi,hz0,hz1,hz2⟩:=info_parts (P:=Tryz.prog) (e:=LF) (z:=.slice none 0 0) (size:=1) (bytes:=24) (by kernel_rfl);have:=run_make (P:=Tryz.prog) w 54 LF i0 (.slice none 0 0) Tryz.underlying54 hi hz0 .i64 .i64 ((F.length:Int)+1) ((F.length:Int)+1) (by omega) (Int.le_refl _) (by rw[hz2];omega) (by omega);rw[this];have e1:((F.length:Int)+1).toNat=F.length+1:=by omega
  rw[e1,hz1]
  congr 2
  congr 1
  apply Array.ext
  ·simp[size_madeCells]
  ·intro i h1 h2;simp[madeCells,Value.cells,Nat.mod_one]
 have HSt:Hid (∀{B r:Nat}{w1:World}{vs vo:Value}{P Q O:Nat->Nat},AZ B w1 r m vs vo P Q O->(∃sa sc,w1.cell? ⟨r,1,none⟩=some (.slice sa F.length sc))/\∀k,k<F.length->Zp w1 r k (m.st.getD k AY) F.length):=λh=>by
  refine⟨?_,λk hk=>by rw[hSl];exact h.stw (by omega)⟩;obtain⟨sa,sc,hvs⟩:=h.slen';obtain⟨_,r1,_⟩:=h.rdc;rw[hvs,<-hSl]at r1;exact⟨sa,sc,r1⟩
 have HWy:Hid (∀{B r:Nat}{w1:World}{vs vo:Value}{P Q O:Nat->Nat},AZ B w1 r m vs vo P Q O->∀k:Nat,k<F.length->Calls Tryz.prog 21 #[.pointer (some ⟨r,0,none⟩),.int .i64 (k:Int)] w1 λe w'=>e=.returned (.int .i64 (Ae (F.getD k (AC 0 0)).kind))/\w'=w1):=λh k hk=>by
  have:=h.ways (k:Int);rw[if_neg (by omega),Int.toNat_natCast,<-EG hW hk]at this;exact this
 have HAf:Hid (∀{B r:Nat}{w1:World}{vs vo:Value}{P Q O:Nat->Nat},AZ B w1 r m vs vo P Q O->∀k:Nat,k<F.length->∀(o:Nat->Int) a nn c (way:Nat),Wv 8000 o->KV w1 (some o) (.slice a nn c)->Calls Tryz.prog 22 #[.pointer (some ⟨r,0,none⟩),.int .i64 (k:Int),.int .i64 (way:Int),.slice a nn c] w1 λe w'=>∃a' n' c',e=.returned (.slice a' n' c')/\Below w1.heap.size w1 w'/\LV w' (CA false o (F.getD k (AC 0 0)) way) (CE false o (F.getD k (AC 0 0)) way) (.slice a' n' c')):=λh k hk o a nn c way hv hrd=>by
  obtain⟨g,e,ha⟩:=hrd;cases e
  refine(Jm h k (by omega) (Gb hp (by omega)) (EV hp hW hk).2 way _ false ⟨_,_,_,rfl⟩ (F2 hv.tc (hv.sm (by decide)) _ ha.reads) (λ_=>hv.tq (by decide))).mono ?_;rintro e w' ⟨hb',⟨h1,rfl⟩|⟨h1,g,rfl,hg,ha⟩⟩
  ·exact⟨_,_,_,rfl,hb',.inl ⟨h1,rfl⟩⟩
  ·exact⟨_,_,_,rfl,hb',.inr ⟨h1,g,rfl,ha⟩⟩
 have HNx:Hid (∀{B r:Nat}{w1:World}{vs vo:Value}{P Q O:Nat->Nat},AZ B w1 r m vs vo P Q O->∀(k way:Nat),k<F.length->(way:Int)<Ae (F.getD k (AC 0 0)).kind->∃qn:Nat,qn<F.length+1/\Calls Tryz.prog 23 #[.pointer (some ⟨r,0,none⟩),.int .i64 (k:Int),.int .i64 (way:Int)] w1 λe w'=>e=.returned (.int .i64 (qn:Int))/\Below w1.heap.size w1 w'):=λ{B r w1 vs vo P Q O} h k way hk hw=>by
  have hz:=Du (F:=F) k way (Fv F k hk way hw);have e:=FX hW hlen k hk way;rw[if_neg (by rw[<-EG hW hk];omega)]at e;have c:Calls Tryz.prog 23 #[.pointer (some ⟨r,0,none⟩),.int .i64 (k:Int),.int .i64 (way:Int)] w1 λe w'=>e=.returned (.int .i64 (Ap F k way).1)/\Below w1.heap.size w1 w':=by
   rw[e];exact(h.next (by omega) k (by omega) way).mono λe w' ⟨h1,j,h2⟩=>⟨h1,by rw[h2];exact below_drewN (Below.refl _ _) j⟩
  refine⟨(Ap F k way).1.toNat,by omega,?_⟩;rw[Int.toNat_of_nonneg hz.1];exact c
 have HCk:Hid (∀{B r b:Nat}{w1:World}{vs vo:Value}{P Q O:Nat->Nat}{K:Kl}{t:Nat},AZ B w1 r m vs vo P Q O->Od F t K->t<=40->L8 w1 b K->Calls Tryz.prog 25 #[.pointer (some ⟨r,0,none⟩),.slice (some ⟨b,0,none⟩) (F.length+1) (F.length+1)] w1 λe w'=>∃a b,e=.returned (.tuple #[.int .i64 a,.int .i64 b])/\(a=0->∃L,Bt F L)/\Below w1.heap.size w1 w'):=λ{B r b w1 vs vo P Q O K t} h hB ht hk=>by
  refine(OE h hp hW hlen hk.lt (λi hi=>hk.cell (by rw[hB.len];exact hi)) (λi A hA=>(hB.wv hD ht i A hA).mono (by omega))).mono ?_;rintro e w' ⟨a,b,rfl,h1,h2⟩;exact⟨a,b,rfl,λz=>⟨_,hB.cert hD ht (h1 z)⟩,h2⟩
 have HWr:Hid (∀k,1<=Ae (F.getD k (AC 0 0)).kind/\Ae (F.getD k (AC 0 0)).kind<=2):=λk=>D1 _;have HDq:Hid (∀k,k<F.length->DQ (F.getD k (AC 0 0))):=hD;rw[<-hSl]at hs;clear hm hp hl hsz hW hD hSl;obtain⟨l1,hl1⟩:∃l1,l1=(List.replicate 32 (Value.int .i64 0)).toArray:=⟨_,rfl⟩
 obtain⟨l2,hl2⟩:∃l2,l2=(List.replicate (F.length+1) (Value.slice none 0 0)).toArray:=⟨_,rfl⟩
 rw[<-hl1]at hmk;rw[<-hl2]at hmk2;have HBg:Hid (∀(w:World) b g,At w b (l2.setIfInBounds 0 (.slice (some ⟨g,0,none⟩) 32 32)) LF->At w g l1 Gc->L8 w b (some (λ_=>0)::List.replicate F.length none)):=by rw[hl1,hl2];exact λw b g h1 h2=>ZB h1 h2
 have hs2:l2[0]?=some (.slice none 0 0):=by rw[hl2];simp
 have hz2:l2.size=F.length+1:=by rw[hl2];simp
 clear hl1 hl2;go_enter Tryz.func7,Tryz.ntmps7;go_wp2_with fail;refine hs.mono ?_;rintro e w1 ⟨rfl,hb1⟩;have H1:Hid (Below w.heap.size w w1):=hb1;clear hb1 hs;go_wp2_with fail;refine(HR.out w1).mono ?_;rintro e w2 ⟨n3,rfl,hb2,_,vs,vo,P,Q,O,hrep⟩;have H2:Hid (Below w.heap.size w w2/\∀w3,Below w2.heap.size w2 w3->AZ w1.heap.size w3 w1.heap.size m vs vo P Q O):=⟨H1.out.trans (hb2.mono H1.out.size),λw3 h=>hrep.keep h⟩
 obtain⟨⟨sa,sc,cl⟩, -⟩:=HSt.out hrep;have hrl:w1.heap.size<w2.heap.size:=hrep.rd.lt;generalize w1.heap.size=r at *;clear hb2 hrep H1 HR;generalize hnn:F.length=n at *;have H3:Hid (Below w2.heap.size w2 ((w2.alloc (.cells l2 LF)).alloc (.cells l1 Gc))/\At ((w2.alloc (.cells l2 LF)).alloc (.cells l1 Gc)) w2.heap.size l2 LF/\At ((w2.alloc (.cells l2 LF)).alloc (.cells l1 Gc)) (w2.alloc (.cells l2 LF)).heap.size l1 Gc):=by
  have a:=(Below.refl w2.heap.size w2).alloc (Nat.le_refl _) (.cells l2 LF);exact⟨a.alloc (by simp) _,(At.new _ _ _).allocH _,At.new _ _ _⟩
 have c0:((w2.alloc (.cells l2 LF)).alloc (.cells l1 Gc)).cell? ⟨w2.heap.size,0,none⟩=some (.slice none 0 0):=by rw[H3.out.2.1.cell];exact hs2
 have f0:=H3.out.2.1.free 0;have hn0:(0:Int)<((n+1:Nat):Int):=by omega
 have hn1:(0:Int)<=(n:Int)+1:=by omega
 have HK0:Hid (∀w3,w3=(w2.alloc (.cells (l2.setIfInBounds 0 (.slice (some ⟨w2.heap.size+1,0,none⟩) 32 32)) LF)).alloc (.cells l1 Gc)->Below w2.heap.size w2 w3/\Od F 0 (some (λ_=>0)::List.replicate n none)/\L8 w3 w2.heap.size (some (λ_=>0)::List.replicate n none)):=λw3 e=>by
  rw[e];obtain⟨l3,hl3⟩:∃l3,l3=l2.setIfInBounds 0 (.slice (some ⟨w2.heap.size+1,0,none⟩) 32 32):=⟨_,rfl⟩
  have hz:(w2.alloc (.cells l3 LF)).heap.size=w2.heap.size+1:=by simp
  have a:=(Below.refl w2.heap.size w2).alloc (Nat.le_refl _) (.cells l3 LF);have b1:At ((w2.alloc (.cells l3 LF)).alloc (.cells l1 Gc)) w2.heap.size l3 LF:=(At.new _ _ _).allocH _;have b2:At ((w2.alloc (.cells l3 LF)).alloc (.cells l1 Gc)) (w2.heap.size+1) l1 Gc:=by rw[<-hz];exact At.new _ _ _
  rw[<-hl3];refine⟨a.alloc (by simp) _,by rw[<-hnn];exact .beg,?_⟩;rw[hl3]at b1 b2|-;exact HBg.out _ _ _ b1 b2
 go_wp2_with fail;go_loopw [11] (λpv wr=>∃(i t:Nat)(K:Kl),i<=n/\pv=.int .i64 (i:Int)/\Hid (Below w2.heap.size w2 wr/\Od F t K/\t<=2*i/\L8 wr w2.heap.size K)) (λpv _=>n-(intOf pv).toNat);case atStart=>
  have:=HK0.out _ rfl;exact⟨0,0,_,by omega,rfl,this.1,this.2.1,by omega,this.2.2⟩
 case round=>
  obtain⟨i,t,K,hi,rfl,HQ⟩:=hrel;have hrep:=H2.out.2 wr HQ.out.1;obtain⟨⟨sa',sc',cl'⟩,hst⟩:=HSt.out hrep;by_cases hin:i<n
  ·have hii:(i:Int)<(n:Int):=by omega
   obtain⟨g,cap,pp,q,x1,x2,x3, -, -, -, -,hpl,hgl,hrl'⟩:=(hst i (by omega)).ex;have hwy:=HWy.out hrep i (by omega);clear hst hrep cl';by_cases k64:(m.st.getD i AY).kind=64
   ·rw[k64]at x3;clear hwy;go_wp2_with fail
    go_ret2
    exact⟨false,false,rfl,λz=>absurd z (by decide),H2.out.1.trans (HQ.out.1.mono H2.out.1.size)⟩
   ·have b64:((m.st.getD i AY).kind==64)=false:=by simpa using k64
    have hwr:=HWr.out i;obtain⟨kn,hkn⟩:∃kn:Nat,Ae (F.getD i (AC 0 0)).kind=(kn:Int):=⟨(Ae (F.getD i (AC 0 0)).kind).toNat,by omega⟩
    have HNi:Hid (∀w3,Below w2.heap.size w2 w3->∀y:Nat,y<kn->∃qn:Nat,qn<n+1/\Calls Tryz.prog 23 #[.pointer (some ⟨r,0,none⟩),.int .i64 (i:Int),.int .i64 (y:Int)] w3 λe w'=>e=.returned (.int .i64 (qn:Int))/\Below w3.heap.size w3 w'):=λw3 hb y hy=>by
     have:=HNx.out (H2.out.2 w3 hb) i y (by omega) (by rw[hkn];omega);exact this
    rw[hkn]at hwy hwr;clear hkn;generalize(m.st.getD i AY).kind=kd at *;go_wp2_with fail;refine hwy.mono ?_;rintro e w3 ⟨rfl,rfl⟩;clear hwy x1 x2 x3 k64 b64 hpl hgl hrl';go_wp2_with fail;go_loopw [13] (λyv wq=>∃(y t':Nat)(K':Kl),y<=kn/\yv=.int .i64 (y:Int)/\Hid (Below w2.heap.size w2 wq/\Od F t' K'/\t'<=2*i+y/\L8 wq w2.heap.size K')) (λyv _=>kn-(intOf yv).toNat);case atStart=>exact⟨0,t,K,by omega,rfl,HQ.out.1,HQ.out.2.1,by have:=HQ.out.2.2.1;omega,HQ.out.2.2.2⟩
    case round=>
     obtain⟨y,t',K',hy,rfl,HY⟩:=hrel;by_cases hyn:y<kn
     ·have hyi:(y:Int)<(kn:Int):=by omega
      have hii1:(i:Int)<((n+1:Nat):Int):=by omega
      obtain⟨u,cu,ku⟩:=HY.out.2.2.2.cell (i:=i) (by rw[HY.out.2.1.len];omega);cases hr:K'.getD i none with
      |none=>
       rw[hr]at ku;obtain rfl:u=.slice none 0 0:=ku;clear hr;go_wp2_with fail;go_roundw;case rel=>exact⟨i+1,t',K',by omega,by go_num,HY.out.1,HY.out.2.1,by have:=HY.out.2.2.1;omega,HY.out.2.2.2⟩
       case measure=>simp[intOf];omega
      |some o=>
       rw[hr]at ku;obtain⟨gu,rfl,hgu⟩:=id ku;have hwv:=(HY.out.2.1.wv (F:=F) (λk hk=>HDq.out k (by omega)) (by have:=HY.out.2.2.1;omega) i o hr).mono (d:=8000) (by have:=HY.out.2.2.1;omega);have haf:=HAf.out (H2.out.2 _ HY.out.1) i (by omega) o _ _ _ y hwv ku;have HHr:Hid (K'.getD i none=some o/\Wv 8000 o):=⟨hr,hwv⟩
       clear ku hgu hr hwv;go_wp2_with fail;refine haf.mono ?_;rintro e w4 ⟨ua,un,uc,rfl,hb4,hu4⟩;have H4:Hid (Below w2.heap.size w2 w4/\L8 w4 w2.heap.size K'/\LV w4 (CA false o (F.getD i (AC 0 0)) y) (CE false o (F.getD i (AC 0 0)) y) (.slice ua un uc)):=⟨HY.out.1.trans (hb4.mono HY.out.1.size),HY.out.2.2.2.keep hb4,hu4⟩
       clear hb4 hu4 haf cu;obtain⟨qn,hqn,hnx⟩:=HNi.out w4 H4.out.1 y hyn;go_wp2_with fail;refine hnx.mono ?_;rintro e w5 ⟨rfl,hb5⟩;have H5:Hid (Below w2.heap.size w2 w5/\L8 w5 w2.heap.size K'/\LV w5 (CA false o (F.getD i (AC 0 0)) y) (CE false o (F.getD i (AC 0 0)) y) (.slice ua un uc)):=⟨H4.out.1.trans (hb5.mono H4.out.1.size),H4.out.2.1.keep hb5,H4.out.2.2.keep hb5⟩
       clear hb5 hnx H4;have hqi:(qn:Int)<((n+1:Nat):Int):=by omega
       obtain⟨v5,c5,k5⟩:=H5.out.2.1.cell (i:=qn) (by rw[HY.out.2.1.len];omega);have hbo:=T9 (λA hA=>(HY.out.2.1.wv (F:=F) (λk hk=>HDq.out k (by omega)) (by have:=HY.out.2.2.1;omega) qn A hA).tc.hi) (λhe=>(M8 HHr.out.2 (by decide) (by decide) (HDq.out i (by omega)) y he).tc.hi) k5 H5.out.2.2;obtain⟨a5,n5,d5,rfl⟩:=k5.isSlice;clear k5;go_wp2_with fail;refine hbo.mono ?_;rintro e w6 ⟨a6,n6,d6,rfl,k6,hb6⟩;have H6:Hid (Below w2.heap.size w2 w6/\L8 w6 w2.heap.size K'/\KV w6 (Yi (K'.getD qn none) (CA false o (F.getD i (AC 0 0)) y) (CE false o (F.getD i (AC 0 0)) y)) (.slice a6 n6 d6)):=⟨H5.out.1.trans (hb6.mono H5.out.1.size),H5.out.2.1.keep hb6,k6⟩
       clear hb6 k6 hbo c5 H5;obtain⟨v6,c6, -⟩:=H6.out.2.1.cell (i:=qn) (by rw[HY.out.2.1.len];omega);have f6:w6.frozen? ⟨w2.heap.size,qn,none⟩=false:=by obtain⟨cs,h1, -⟩:=H6.out.2.1;exact h1.free qn
       go_wp2_with fail;go_roundw;case rel=>
        refine⟨y+1,t'+1,K'.set qn (Yi (K'.getD qn none) (CA false o (F.getD i (AC 0 0)) y) (CE false o (F.getD i (AC 0 0)) y)),by omega,by go_num,H6.out.1.setCell (Nat.le_refl _) _,.stp qn y HY.out.2.1 (by omega) HHr.out.1,by have:=HY.out.2.2.1;omega,H6.out.2.1.put (by rw[HY.out.2.1.len];omega) H6.out.2.2⟩
       case measure=>simp[intOf];omega
     ·have hye:y=kn:=by omega
      subst hye;go_wp2_with fail;go_roundw;case rel=>exact⟨i+1,t',K',by omega,by go_num,HY.out.1,HY.out.2.1,by have:=HY.out.2.2.1;omega,HY.out.2.2.2⟩
      case measure=>simp[intOf];omega
  ·have hie:i=n:=by omega
   subst hie;have hck:=HCk.out hrep HQ.out.2.1 (by have:=HQ.out.2.2.1;omega) HQ.out.2.2.2;clear hst hrep;go_wp2_with fail;refine hck.mono ?_;rintro e w4 ⟨a,b,rfl,h4,hb4⟩;have H4:Hid (Below w.heap.size w w4/\(a=0->∃L,Bt F L)):=⟨(H2.out.1.trans (HQ.out.1.mono H2.out.1.size)).trans (hb4.mono (Nat.le_trans H2.out.1.size HQ.out.1.size)),h4⟩
   clear hb4 h4 hck;go_wp2_with fail
   go_ret2
   exact⟨_,_,rfl,λz=>H4.out.2 (by simpa using z),H4.out.1⟩
theorem O2(hG:Cr w)(s:ByteArray)(hm:s.size<=maxLen):
  Calls Tryz.prog 3 #[.string s] w λe w'=>e=.returned (.bool true)/\Below w.heap.size w w':=by
 have h1:=L3 hG s hm;have H2:Hid (∀w1,Calls Tryz.prog 6 #[.string s] w1 λe w'=>e=FK (Bv (AA s))/\Below w1.heap.size w1 w'):=λw1=>Ey s w1 hm;cases hp:AV (AA s)with
 |none=>
  have h2:=EQ hp;generalize Bv (AA s)=x at *;obtain⟨a,b,d⟩:=x;have h3:b=1:=h2;subst h3;clear hm h2
  have h1':Calls Tryz.prog 5 #[.string s] w λe w'=>e=.returned (.tuple #[.string ⟨#[]⟩,.int .i64 1])/\Below w.heap.size w w':=h1.mono (by
   rintro e w' ⟨hb,⟨-,rfl⟩|⟨h, -⟩⟩
   ·exact⟨rfl,hb⟩
   ·exact absurd hp h)
  clear hp h1;go_enter Tryz.func3,Tryz.ntmps3;go_wp2_with fail;refine h1'.mono ?_;rintro e w1 ⟨rfl,hb1⟩;have HB1:Hid (Below w.heap.size w w1):=hb1;have h2:=H2.out w1;simp only[FK]at h2;clear hb1 h1';go_wp2_with fail;refine h2.mono ?_;rintro e w2 ⟨rfl,hb2⟩;have HB2:Hid (Below w.heap.size w w2):=HB1.out.trans (hb2.mono HB1.out.size);clear hb2 h2;go_wp2_with fail;go_ret;exact⟨rfl,HB2.out⟩
 |some m=>
  have hne:AV (AA s)≠none:=by rw[hp];exact λh=>by cases h
  have h160:=(Au hp).1;have hbl:=AR s;have hlen:(AI s).2.length<=20:=(A_ s 22 (-1) 0 0 ((0,false),[]) ⟨Nat.zero_le _,Nat.zero_le _⟩).ok.len;have hW:Bj (AI s).2 m.st:=by
   rcases BU s (by omega)with⟨_,hn⟩|⟨m',_,hp',hW⟩
   ·rw[hp]at hn;cases hn
   ·rw[hp]at hp';cases hp';exact hW
  have HCo:Hid (∀L r,Bt (AI s).2 L->Ad (AI s).2 (AA (D3 (AI s).2)) r->r=(0,0)):=λL r h hr=>S2 h (λk hk=>JI hp hW hk) hlen r hr;have HSt:Hid (∀w1,Calls Tryz.prog 7 #[.string s] w1 (SR w1 (AI s).2)):=λw1=>Mm s hm hp
  have HCk:Hid (∀w1,Calls Tryz.prog 8 #[.string s,.string (D3 (AI s).2)] w1 λe w'=>∃a b,e=.returned (.tuple #[.int .i64 a,.int .i64 b])/\Ad (AI s).2 (AA (D3 (AI s).2)) (a,b)/\Below w1.heap.size w1 w'):=λw1=>(Lt s _ hm (Xb hne)).mono (by
   rintro e w' ⟨a,b,rfl,h,hb⟩;refine⟨a,b,rfl,?_,hb⟩;unfold BI at h;rw[hp]at h
   exact h)
  rw[(Au hp).2.2.2]at H2
  have h1':Calls Tryz.prog 5 #[.string s] w λe w'=>Below w.heap.size w w'/\∃a b,Ad (AI s).2 (AA (D3 (AI s).2)) (a,b)/\((a=0/\e=.returned (.tuple #[.string (D3 (AI s).2),.int .i64 0]))\/(a≠0/\e=.returned (.tuple #[.string ⟨#[]⟩,.int .i64 8]))):=h1.mono (by
   rintro e w' ⟨hb,⟨h, -⟩|⟨-,h⟩⟩
   ·exact absurd h hne
   ·exact⟨hb,h⟩)
  clear h1 hp hne h160 hbl hlen hW hm;generalize D3 (AI s).2=ct at *;generalize(AI s).2=F at *;go_enter Tryz.func3,Tryz.ntmps3;go_wp2_with fail;refine h1'.mono ?_;rintro e w1 ⟨hb1,a,b,hs1,⟨rfl,rfl⟩|⟨ha,rfl⟩⟩
  ·have HB1:Hid (Below w.heap.size w w1/\Ad F (AA ct) (0,b)):=⟨hb1,hs1⟩
   have h2:=H2.out w1;simp only[FK]at h2;clear hb1 hs1 h1';go_wp2_with fail;refine h2.mono ?_;rintro e w2 ⟨rfl,hb2⟩;have HB2:Hid (Below w.heap.size w w2):=HB1.out.1.trans (hb2.mono HB1.out.1.size);clear hb2 h2;go_wp2_with fail;refine(HSt.out w2).mono ?_;rintro e w3 ⟨x,y,rfl, -,hb3⟩;have HB3:Hid (Below w.heap.size w w3):=HB2.out.trans (hb3.mono HB2.out.size);clear hb3;go_wp2_with fail;refine(HCk.out w3).mono ?_;rintro e w4 ⟨a4,b4,rfl,hs4,hb4⟩;have hone:=HB1.out.2.one hs4;cases hone
   have HB4:Hid (Below w.heap.size w w4):=HB3.out.trans (hb4.mono HB3.out.size);clear hb4 hs4;go_wp2_with fail;go_ret;exact⟨rfl,HB4.out⟩
  ·have HB1:Hid (Below w.heap.size w w1/\∀L,¬Bt F L):=⟨hb1,λL h=>ha (congrArg Prod.fst (HCo.out L _ h hs1))⟩
   have h2:=H2.out w1;simp only[FK]at h2;clear hb1 hs1 h1' ha;go_wp2_with fail;refine h2.mono ?_;rintro e w2 ⟨rfl,hb2⟩;have HB2:Hid (Below w.heap.size w w2):=HB1.out.1.trans (hb2.mono HB1.out.1.size);clear hb2 h2;go_wp2_with fail;refine(HSt.out w2).mono ?_;rintro e w3 ⟨x,y,rfl,hx,hb3⟩;have HB3:Hid (Below w.heap.size w w3):=HB2.out.trans (hb3.mono HB2.out.size);have hxf:x=false:=by
    cases x with
    |false=>rfl
    |true=>obtain⟨L,hL⟩:=hx rfl;exact absurd hL (HB1.out.2 L)
   subst hxf;clear hb3 hx;cases y with
   |false=>
    go_wp2_with fail;go_ret;exact⟨rfl,HB3.out⟩
   |true=>
    go_wp2_with fail;go_ret;exact⟨rfl,HB3.out⟩
end Go.Proofs.YtffajooegiempaaGreatDoor
namespace Go.Proofs.YtffajooegiempaaGreatDoor
open Go.ChangeShapes Go.WideShapes Go.ChangeAt Go.WideMaps Go.WideElems Go.RowKit
theorem Tryz.ownD:ownKnob Tryz.prog.godebug=none:=by kernel_rfl
theorem Xn:Tryz.prog.globalNamed "witness/octagon.firstSide" =some 0:=by kernel_rfl
theorem Vp:Tryz.prog.globalNamed "witness/octagon.secondSide" =some 1:=by kernel_rfl
theorem YQ:(Tryz.prog.globals[0]?).map (·.type)=some 169:=by kernel_rfl
theorem WM:(Tryz.prog.globals[1]?).map (·.type)=some 169:=by kernel_rfl
def Nv:List (String×DataW Unit):=[("witness/octagon.firstSide",Rows.laid_witness_octagon_firstSide),("witness/octagon.secondSide",Rows.laid_witness_octagon_secondSide)]
theorem S5(os:Os)(args:Array Value):laidMetH Tryz.prog Nv ((World.doorLaid Tryz.prog 4000 os).forCall (λ_ _=>0) ⟨#[],args,[]⟩).memory:=
 laidMetH_of_parts3 (fuel:=8) (laidMet_of_run' 8 (by kernel_rfl) (by kernel_rfl)) (by kernel_rfl) (by kernel_rfl)
theorem L0{H:Type}{enc:TypeId×Value->H}{w:World}{base:Nat}{sp:Nat->Bool}{held:Bool}{fuel:Nat}{cs:Array Value}{L:List Nat}{ps:List MemPlace}
  (hL:L.length=32) (h:DataW.trod enc Tryz.prog w base sp held fuel 169 cs.toList=some (.agg (L.map λn=>.lit (.int .i64 ((n:Nat):Int))),ps)):∀i,i<32->cs[i]?=some (.int .i64 ((L.getD i 0:Nat):Int)):=by
 obtain⟨xs,m1,rfl,hx1,hlen,hn3,hel⟩:=DataW.trod_array Tryz.underlying169 h;have c3:Tryz.prog.cellsOf 3=1:=by kernel_rfl
 simp only[Prod.mk.injEq,DataW.agg.injEq]at hx1;intro i hi;have h0:=hel i hi;rw[c3,Nat.mul_one,List.getElem?_eq_getElem (by omega)]at h0;obtain⟨k,e1,e2,_⟩:=DataW.trod_int Tryz.underlying3 h0;have e3:(L.map λn=>(DataW.lit (.int .i64 ((n:Nat):Int)):DataW H))[i]?=(xs.map (·.1))[i]?:=by rw[hx1.1]
 rw[List.getElem?_map,List.getElem?_map,List.getElem?_eq_getElem (by omega),List.getElem?_eq_getElem (show i<xs.length by omega)]at e3;simp only[Option.map_some,Option.some.injEq]at e3;rw[e2]at e3;simp only[DataW.lit.injEq,Lit.int.injEq,true_and]at e3;have e4:cs.toList[i]?=some (.int .i64 k):=by
  have:=congrArg (λl:List Value=>l[0]?) e1;simpa[List.getElem?_take,List.getElem?_drop]using this
 rw[<-Array.getElem?_toList,e4,<-e3];simp[List.getD,show i<L.length by omega]
theorem V7{W:World}(h:laidMetH Tryz.prog Nv W):Cr W:=by
 rw[MakeChecks.laidMetH_plain _ _ _ (by kernel_rfl)]at h;obtain⟨ps,⟨g0,t0,cs0,f0,p0,q0,hg0,ht0,hv0,hd0,⟨g1,t1,cs1,f1,p1,q1,hg1,ht1,hv1,hd1,_,_⟩,_⟩,_,_⟩:=h;obtain rfl:=Option.some.inj (Xn.symm.trans hg0);obtain rfl:=Option.some.inj (Vp.symm.trans hg1);obtain rfl:=Option.some.inj (YQ.symm.trans ht0);obtain rfl:=Option.some.inj (WM.symm.trans ht1);have a:=L0 (L:=Z8) rfl hd0;have b:=L0 (L:=Z_) rfl hd1;have c1:∀f,f<32->W.cell? ⟨0,f,none⟩=some (.int .i64 ((fs f:Nat):Int)):=λf hf=>(World.var?_cell hg0 hv0 f).trans (a f hf);have c2:∀f,f<32->W.cell? ⟨1,f,none⟩=some (.int .i64 ((ss f:Nat):Int)):=λf hf=>(World.var?_cell hg1 hv1 f).trans (b f hf);have:=World.block_lt_of_cell? W _ (c2 0 (by omega));exact⟨c1,c2,by have h':1<W.heap.size:=this;omega⟩
end Go.Proofs.YtffajooegiempaaGreatDoor
