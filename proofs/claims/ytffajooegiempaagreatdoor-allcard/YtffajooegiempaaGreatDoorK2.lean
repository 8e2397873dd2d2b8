import Derived.Test.YtffajooegiempaaGreatDoorK1
import Derived.Laws.AppendOwn
import Derived.Laws.OwnMore
import Derived.ArgAppend
set_option maxRecDepth 100000
set_option maxHeartbeats 6400000
namespace Go.Proofs.YtffajooegiempaaGreatDoor
open Go.RowKit Go.Proofs.Tryz
variable {w:World}{r:Nat}{s:ByteArray}{d:ES}
theorem Ys(K:d.1<=s.size):(JW (AA s) d).2.1<=s.size:=GR (by omega) (GR (by omega) K)
theorem Se(s:ByteArray)(d:ES): -4000<=(JW (AA s) d).1/\(JW (AA s) d).1<=70000:=by
 have r1:=EC (Om s) 0 255 (by omega) d;have r2:=EC (Om s) 0 255 (by omega) (Ai (AA s) 0 255 d).2;show -4000<=(Ai (AA s) 0 255 d).1*256+(Ai (AA s) 0 255 (Ai (AA s) 0 255 d).2).1-4000/\_;constructor
 .omega
 .show(Ai (AA s) 0 255 d).1*256+(Ai (AA s) 0 255 (Ai (AA s) 0 255 d).2).1-4000<=70000;omega
def iv(xs:List Int):List Value:=xs.map (Value.int .i64)
def SN(w:World)(base:Nat)(v:Value)(xs:List Int):Prop:=∃g,base<=g/\v=.slice (some ⟨g,0,none⟩) xs.length 32/\w.ownsRow base 3 1 (.slice (some ⟨g,0,none⟩) xs.length 32) xs.length (iv xs)
theorem TH{t:Nat}{i:ES}:∀n,(DT (AA s) (t,i,[]) n).1<=t
 |0=>bB _
 |n+1=>by
  have:=TH (t:=t) (i:=i) n;show(Ni _ _ (DT (AA s) (t,i,[]) n)).1<=t;unfold Ni;split
  .show _-1<=t;omega
  .exact this
theorem O5{t:Nat}{i:ES}(hi:i.1<=s.size):∀n,(DT (AA s) (t,i,[]) n).2.1.1<=s.size
 |0=>hi
 |n+1=>by
  have:=O5 (t:=t) hi n;show(Ni _ _ (DT (AA s) (t,i,[]) n)).2.1.1<=_;generalize DT (AA s) (t,i,[]) n=x at *;unfold Ni;split
  .rename_i q;refine Ys ?_;have q2:=q.2;unfold Fi at q2;rw[AR]at q2;show x.2.1.1+1<=s.size;by_cases e:x.2.1.1<s.size
   .omega
   .rw[a_ e]at q2;omega
  .exact this
theorem Ha{w:World}{base G e size n:Nat}{v:Value}{xs:List Value}(h:w.ownsRow base e size v n xs)(hb:G<=base):w.ownsRow G e size v n xs:=by
 obtain⟨h1,h2⟩:=h;refine⟨h1,?_⟩;rcases h2 with h2|⟨g,cap,c,hv,O,ao⟩
 .exact .inl h2
 .exact .inr ⟨g,cap,c,hv,by omega,ao⟩
theorem Sq(h:Eh w r s d)(hs:s.size<=9223372036854775807)(K:d.1<=s.size):
  Calls prog 144 #[.pointer (some ⟨r,0,none⟩)] w λe w'=>∃v,e=.returned v/\SN w' w.heap.size v (Kx (AA s) d).1/\Eh w' r s (Kx (AA s) d).2/\BC r w w':=by
 have h1:=GL h hs K 0 32 (by omega);have r1:=EC (Om s) 0 32 (by omega) d;have ah:=GR (s:=s) (lo:=0) (hi:=32) (by omega) K;have aL:=h.lt;obtain⟨F,R⟩:∃F,F=DT (AA s) ((Ai (AA s) 0 32 d).1.toNat,(Ai (AA s) 0 32 d).2,[]):=⟨_,rfl⟩
 have HE:Hid (Kx (AA s) d=((F 32).2.2,((F 32).2.1.1,if 0<(F 32).1 then true else(F 32).2.1.2))):=by rw[R];rfl
 have HF:Hid (∀n,F (n+1)=Ni (AA s) n (F n)):=by rw[R];intro n;rfl
 have Z:Hid (∀n,(F n).2.2.length=n):=by rw[R];exact IQ rfl
 have av:Hid (∀n,(F n).2.1.1<=s.size):=by rw[R];exact O5 ah
 have ax:Hid (∀n,(F n).1<=(Ai (AA s) 0 32 d).1.toNat):=by rw[R];exact TH
 have J:Hid (F 0=((Ai (AA s) 0 32 d).1.toNat,(Ai (AA s) 0 32 d).2,[])):=by rw[R];rfl
 have aJ:∀w,(Instr.makeSlice 32 (.int .i64 0) (.int .i64 32)).run prog w=.ok (.slice (some ⟨w.heap.size,0,none⟩) 0 32) (w.alloc (.cells (ic (List.replicate 32 0)) 3)):=λ_=>by kernel_rfl
 obtain⟨i0,U,aQ,W,aR⟩:=c_ (P:=prog) (e:=3) (z:=.int .i64 0) (size:=1) (bytes:=8) (by kernel_rfl);have az:Hid (∀(a:World),(a.alloc (.cells (ic (List.replicate 32 0)) 3)).ownsRow a.heap.size 3 1 (.slice (some ⟨a.heap.size,0,none⟩) 0 32) 0 []):=λa=>World.ownsRow_made a (ic (List.replicate 32 0)) 32 (bB _) (by decide) rfl;obtain⟨I,hI⟩:∃I,I=(if 0<(F 32).1 then true else(F 32).2.1.2):=⟨_,rfl⟩
 rw[HE.out,<-hI];have ac:Hid (I=(if 0<(F 32).1 then true else(F 32).2.1.2)):=hI;clear hI;generalize Ai (AA s) 0 32 d=x at *;obtain⟨x1,x2⟩:=x;simp only at r1 ah h1;have aO:0<=x1:=r1.1;have aP:x1<=255:=r1.2.1;obtain⟨k,rfl⟩:∃k:Nat,x1=(k:Int):=⟨x1.toNat,by omega⟩
 rw[bK]at ax J;have HP:Hid (∀(a:World)(d:ES),Eh a r s d->d.1<=s.size->Calls prog 143 #[.pointer (some ⟨r,0,none⟩)] a λe w'=>e=.returned (.int .i64 (Fi (AA s) d))/\∃k,w'=a.drewN k):=λa d hc K=>Ss hc hs K;have aq:Hid (∀(a:World)(d:ES),Eh a r s d->d.1<=s.size->Calls prog 155 #[.pointer (some ⟨r,0,none⟩)] a (VH a r s (JW (AA s) d).2 (.int .i64 (JW (AA s) d).1))):=λa d hc K=>Ve hc hs K;have aA:Hid (∀d:ES,0<=Fi (AA s) d->d.1<s.size):=by
  intro d T;unfold Fi at T;rw[AR]at T;by_cases q:d.1<s.size
  .exact q
  .rw[a_ q]at T;omega
 clear h R r1 HE K;generalize ic (List.replicate 32 0)=zs at *;go_enter func144,ntmps144;go_wp2_with fail;refine h1.mono ?_;rintro e a ⟨rfl,S,V⟩;have am:=V.size;have H1:Hid (Eh (a.alloc (.cells zs 3)) r s x2/\BC r w (a.alloc (.cells zs 3))/\(a.alloc (.cells zs 3)).ownsRow a.heap.size 3 1 (.slice (some ⟨a.heap.size,0,none⟩) 0 32) 0 []):=⟨At.allocH S _,V.alloc _,az.out a⟩
 have aM:=S.lt;clear S V h1;go_wp2_with fail;go_loopw [3,4,5] (λt sl i wr=>∃(q:Nat)(m:Nat),q<=32/\i=.int .i64 q/\t=.int .i64 (m:Int)/\m<=255/\sl=.slice (some ⟨a.heap.size,0,none⟩) q 32/\Hid (m=(F q).1/\wr.ownsRow a.heap.size 3 1 (.slice (some ⟨a.heap.size,0,none⟩) q 32) q (iv (F q).2.2)/\Eh wr r s (F q).2.1/\BC r w wr/\a.heap.size<wr.heap.size)) (λ_ _ i _=>32-(intOf i).toNat);case atStart=>exact⟨0,k,by omega,rfl,rfl,by omega,rfl,by rw[J.out],by rw[J.out];exact H1.out.2.2,by rw[J.out];exact H1.out.1,H1.out.2.1,by simp⟩
 case round=>
  obtain⟨q,m,hq,rfl,rfl,hm,rfl,A⟩:=hrel;by_cases aI:q<32
  .have aK:(q:Int)<32:=by omega
   have ab:=(show Hid (_=_)from HF.out q)
   have af:=av.out q
   have E:Hid (∀(b w6:World)(y:Int)(dd:ES)(mm:Nat),F (q+1)=(mm,dd,(F q).2.2++[y])->b.ownsRow a.heap.size 3 1 (.slice (some ⟨a.heap.size,0,none⟩) (q+1) 32) (q+1) (iv (F q).2.2++[.int .i64 y])->w6.grownBy b (some a.heap.size)->Eh w6 r s dd->BC r w w6->a.heap.size<w6.heap.size->
     mm=(F (q+1)).1/\b.ownsRow a.heap.size 3 1 (.slice (some ⟨a.heap.size,0,none⟩) (q+1) 32) (q+1) (iv (F (q+1)).2.2)/\Eh b r s (F (q+1)).2.1/\BC r w b/\a.heap.size<b.heap.size):=by
    intro b w6 y dd mm e M O hc hn hz;rw[e];refine⟨rfl,by simpa[iv]using M,At.same hc (O.block r hc.lt (by intro e;have:=bV e;omega)),?_,bM hz O.size⟩;refine⟨O.os.trans hn.os,O.tape.trans hn.tape,O.output.trans hn.output,cN hn.size O.size,λk hk aF=>(O.block k (bM hk hn.size) (by intro e;have:=bV e;omega)).trans (hn.block k hk aF)⟩
   have H:∀{b w6:World},wr.ownsRow a.heap.size 3 1 (.slice (some ⟨a.heap.size,0,none⟩) q 32) q (iv (F q).2.2)->BC r wr b->b.ownsRow a.heap.size 3 1 (.slice (some ⟨a.heap.size,0,none⟩) q 32) q (iv (F q).2.2):=λ{b w6} h M=>Bm h (λk hk=>M.block k (h.lt k hk).2 (by cases hk;show a.heap.size≠r;omega));have p:Hid (∀{b:World},BC r wr b->b.ownsRow a.heap.size 3 1 (.slice (some ⟨a.heap.size,0,none⟩) q 32) q (iv (F q).2.2)):=λ{b} M=>H (w6:=b) A.out.2.1 M;clear H;have HL:Hid ((F q).2.2.length=q):=Z.out q;have ak:=HP.out wr (F q).2.1 A.out.2.2.1 af;have ar:=(show Hid (_->_)from λ(h:(F q).2.1.1<s.size) (w2:World) (hc:Eh w2 r s ((F q).2.1.1+1,(F q).2.1.2))=>aq.out w2 ((F q).2.1.1+1,(F q).2.1.2) hc h)
   have aB:=(show Hid (_->_)from aA.out (F q).2.1)
   have aC:=Se s ((F q).2.1.1+1,(F q).2.1.2);have HM:Hid (m=(F q).1):=A.out.1;have aw:Hid (0<m/\Fi (AA s) (F q).2.1=q->F (q+1)=(m-1,(JW (AA s) ((F q).2.1.1+1,(F q).2.1.2)).2,(F q).2.2++[(JW (AA s) ((F q).2.1.1+1,(F q).2.1.2)).1])):=by
    intro T;rw[ab.out];unfold Ni;rw[<-HM.out,bA T]
   have aa:Hid (¬(0<m/\Fi (AA s) (F q).2.1=q)->F (q+1)=(m,(F q).2.1,(F q).2.2++[1000000])):=by
    intro T;rw[ab.out];unfold Ni;rw[<-HM.out,a_ T]
   have o:Hid (Eh wr r s (F q).2.1):=A.out.2.2.1;obtain⟨c0,c1,c2,cf⟩:=o.out.cells;have aG:=o.out.lt;generalize JW (AA s) ((F q).2.1.1+1,(F q).2.1.2)=bd at *;generalize Fi (AA s) (F q).2.1=x at *;generalize(F q).2.1=dq at *;obtain⟨b1,b2⟩:=bd;obtain⟨da,X⟩:=dq;simp only at c1 c2 af aC;by_cases L:0<m
   .have ai:(0:Int)<(m:Int):=by omega
    by_cases hx:x=q
    .subst hx;have aD:da<s.size:=aB.out (by omega);have HX:=(show Hid (_=_)from aw.out ⟨L,rfl⟩)
     have aH:(da:Int)+1<=9223372036854775807:=by omega
     have au:Hid (∀k2,Eh ((wr.drewN k2).setCell ⟨r,1,none⟩ (.int .i64 ((da:Int)+1))) r s (da+1,X)):=λk2=>(o.out.drewN k2).step;have ay:Hid (∀k2,BC r wr ((wr.drewN k2).setCell ⟨r,1,none⟩ (.int .i64 ((da:Int)+1)))):=λk2=>((BC.refl _ _).drewN k2).setCell _ _;go_wp2_with (go_at_call 143;refine ak.mono ?_;rintro e w2 ⟨rfl,k2,rfl⟩);refine(ar.out aD _ (au.out k2)).mono ?_;rintro e l ⟨rfl,ag,aj⟩;have B:Hid (Eh l r s b2/\BC r wr l):=⟨ag,(ay.out k2).trans aj⟩
     clear ag aj;have Y:Hid (l.ownsRow a.heap.size 3 1 (.slice (some ⟨a.heap.size,0,none⟩) q 32) q (iv (F q).2.2)):=p.out B.out.2;have an:a.heap.size<l.heap.size:=bM A.out.2.2.2.2 B.out.2.size;go_wp2_with (at_builtin;refine cj _ rfl (.tmp 33) (.tmp 35) 32 rfl a.heap.size 3 i0 1 underlying32 U W a.heap.size q 32 _ rfl (Y.out.alloc _) ⟨l.heap.size,0,none⟩ 1 1 [.int .i64 (b1)] rfl rfl (by intro t u C;match t,C with|0,C=>simp at C;subst C;exact bL _ _ _ _ rfl) (by intro u Q;simp at Q;subst Q;rfl) (by omega) ?_;intro b j f);go_roundw;case rel=>
      exact⟨q+1,(m-1),by omega,by go_num,by first|rfl|go_num,by omega,rfl,E.out b (l.alloc (.cells #[.int .i64 (b1)] 3)) (b1) b2 ((m-1)) HX.out j f (At.allocH B.out.1 _) ((A.out.2.2.2.1.trans B.out.2).alloc _) (by simp;omega)⟩
     case measure=>simp[intOf];omega
    .have aN:(x==(q:Int))=false:=by simpa using hx
     have HX:=(show Hid (_=_)from aa.out (by omega))
     have ap:Hid (∀k,Eh (wr.drewN k) r s (da,X)/\BC r wr (wr.drewN k)):=λk=>⟨o.out.drewN k,(BC.refl _ _).drewN k⟩
     go_wp2_with fail;refine ak.mono ?_;rintro e l ⟨rfl,k2,D⟩;have B:Hid (Eh l r s (da,X)/\BC r wr l):=by show _/\_;rw[D];exact ap.out k2
     clear D;have Y:Hid (l.ownsRow a.heap.size 3 1 (.slice (some ⟨a.heap.size,0,none⟩) q 32) q (iv (F q).2.2)):=p.out B.out.2;have an:a.heap.size<l.heap.size:=bM A.out.2.2.2.2 B.out.2.size;go_wp2_with (at_builtin;refine cj _ rfl (.tmp 33) (.tmp 35) 32 rfl a.heap.size 3 i0 1 underlying32 U W a.heap.size q 32 _ rfl (Y.out.alloc _) ⟨l.heap.size,0,none⟩ 1 1 [.int .i64 (1000000)] rfl rfl (by intro t u C;match t,C with|0,C=>simp at C;subst C;exact bL _ _ _ _ rfl) (by intro u Q;simp at Q;subst Q;rfl) (by omega) ?_;intro b j f);go_roundw;case rel=>
      exact⟨q+1,m,by omega,by go_num,by first|rfl|go_num,by omega,rfl,E.out b (l.alloc (.cells #[.int .i64 (1000000)] 3)) (1000000) (da,X) (m) HX.out j f (At.allocH B.out.1 _) ((A.out.2.2.2.1.trans B.out.2).alloc _) (by simp;omega)⟩
     case measure=>simp[intOf];omega
   .have aE:m=0:=by omega
    subst aE;have HX:=(show Hid (_=_)from aa.out (by omega))
    obtain⟨l,D⟩:∃l,l=wr:=⟨_,rfl⟩
    have B:Hid (Eh l r s (da,X)/\BC r wr l):=by show _/\_;rw[D];exact⟨o.out,BC.refl _ _⟩
    rw[<-D];clear D;have Y:Hid (l.ownsRow a.heap.size 3 1 (.slice (some ⟨a.heap.size,0,none⟩) q 32) q (iv (F q).2.2)):=p.out B.out.2;have an:a.heap.size<l.heap.size:=bM A.out.2.2.2.2 B.out.2.size;go_wp2_with (at_builtin;refine cj _ rfl (.tmp 33) (.tmp 35) 32 rfl a.heap.size 3 i0 1 underlying32 U W a.heap.size q 32 _ rfl (Y.out.alloc _) ⟨l.heap.size,0,none⟩ 1 1 [.int .i64 (1000000)] rfl rfl (by intro t u C;match t,C with|0,C=>simp at C;subst C;exact bL _ _ _ _ rfl) (by intro u Q;simp at Q;subst Q;rfl) (by omega) ?_;intro b j f);go_roundw;case rel=>
     exact⟨q+1,0,by omega,by go_num,by first|rfl|go_num,by omega,rfl,E.out b (l.alloc (.cells #[.int .i64 (1000000)] 3)) (1000000) (da,X) (0) HX.out j f (At.allocH B.out.1 _) ((A.out.2.2.2.1.trans B.out.2).alloc _) (by simp;omega)⟩
    case measure=>simp[intOf];omega
  .have al:q=32:=by omega
   subst al;have HL:Hid ((F 32).2.2.length=32):=Z.out 32;have ae:Hid (∀{b:World},BC r wr b->b.ownsRow a.heap.size 3 1 (.slice (some ⟨a.heap.size,0,none⟩) 32 32) 32 (iv (F 32).2.2)):=λ{b} M=>Bm A.out.2.1 (λk hk=>M.block k (A.out.2.1.lt k hk).2 (by cases hk;show a.heap.size≠r;omega));have N:Hid (∀{b:World},BC r wr b->SN b w.heap.size (.slice (some ⟨a.heap.size,0,none⟩) 32 32) (F 32).2.2):=λ{b} M=>⟨a.heap.size,am,by rw[HL.out],by rw[HL.out];exact Ha (ae.out M) am⟩
   have o:Hid (Eh wr r s (F 32).2.1):=A.out.2.2.1;have ad:Hid (BC r w wr):=A.out.2.2.2.1;obtain⟨c0,c1,c2,cf⟩:=o.out.cells;have aG:=o.out.lt;have HM:Hid (m=(F 32).1):=A.out.1;by_cases L:0<m
   .have ai:(0:Int)<(m:Int):=by omega
    have HI:Hid (I=true):=ac.out.trans (bA (by rw[<-HM.out];exact L));go_wp2_with fail;go_ret;refine⟨_,rfl,N.out ((BC.refl _ _).setCell _ _),?_,ad.out.setCell _ _⟩;rw[HI.out];exact o.out.stick
   .have ai:¬(0:Int)<(m:Int):=by omega
    have HI:Hid (I=(F 32).2.1.2):=ac.out.trans (a_ (by rw[<-HM.out];exact L));go_wp2_with fail;go_ret;refine⟨_,rfl,N.out (BC.refl _ _),?_,ad.out⟩;rw[HI.out];exact o.out
def PV(w:World)(base:Nat)(v:Value):Option (List Int)->Prop
 |none=>v=.slice none 0 0
 |some l=>∃g,base<=g/\v=.slice (some ⟨g,0,none⟩) 32 32/\At w g (ic l) 3/\l.length=32
theorem SN.at_{base:Nat}{v:Value}{l:List Int}(h:SN w base v l)(C:l.length=32):PV w base v (some l):=by
 obtain⟨g,B,rfl,S⟩:=h;rw[C]at S|-;refine⟨g,B,rfl,?_,C⟩;rcases S.2 with⟨e,_⟩|⟨g',cap,cur,e,_,hh,ab,aa,ad,O⟩
 .cases e
 .cases e
  have:cur=ic l:=by
   apply Array.toList_inj.1;rw[<-cG (l:=cur.toList) (i:=32*1) (by simp;omega),O];simp[ic,iv]
  rw[<-this];exact hh
theorem VW(d:ES)(N:Nat):(QH (AA s) N d).1.length=N:=IQ rfl N
theorem XP(z:d.1<=s.size)(N:Nat):(QH (AA s) N d).2.1<=s.size:=O5 (GR (by omega) z) N
theorem XR(d:ES):(Kx (AA s) d).1.length=32:=VW d 32
theorem Yu(z:d.1<=s.size):(Kx (AA s) d).2.1<=s.size:=XP z 32
theorem ZH(z:d.1<=s.size):(I8 (AA s) d).2.1<=s.size:=by
 have h1:=GR (s:=s) (d:=d) (lo:=0) (hi:=1) (by omega) z;have h2:=Yu h1;unfold I8;simp only;generalize Kx (AA s) (Ai (AA s) 0 1 d).2=b at *;split
 .exact h1
 .exact h2
def XE(w:World)(r:Nat)(s:ByteArray)(d:ES):Ending->World->Prop:=λe w'=>∃v,e=.returned v/\PV w' w.heap.size v (I8 (AA s) d).1/\Eh w' r s (I8 (AA s) d).2/\BC r w w'
theorem Vf(h:Eh w r s d)(hs:s.size<=9223372036854775807)(z:d.1<=s.size):
  Calls prog 118 #[.pointer (some ⟨r,0,none⟩)] w (XE w r s d):=by
 have h1:=GL h hs z 0 1 (by omega);have F:=GR (s:=s) (lo:=0) (hi:=1) (by omega) z;have W:Hid (∀p,Eh p r s (Ai (AA s) 0 1 d).2->Calls prog 144 #[.pointer (some ⟨r,0,none⟩)] p λe w'=>∃v,e=.returned v/\SN w' p.heap.size v (Kx (AA s) (Ai (AA s) 0 1 d).2).1/\Eh w' r s (Kx (AA s) (Ai (AA s) 0 1 d).2).2/\BC r p w'):=λp hc=>Sq hc hs F;have I:Hid (I8 (AA s) d=if(Ai (AA s) 0 1 d).1=0 then(none,(Ai (AA s) 0 1 d).2)else(some (Kx (AA s) (Ai (AA s) 0 1 d).2).1,(Kx (AA s) (Ai (AA s) 0 1 d).2).2)):=rfl;have Y:Hid ((Kx (AA s) (Ai (AA s) 0 1 d).2).1.length=32):=XR _;clear h F;generalize Ai (AA s) 0 1 d=x at *;obtain⟨U,V⟩:=x;generalize Kx (AA s) V=b at *;by_cases hx:U=0
 .subst hx;go_enter func118,ntmps118;go_wp2_with fail;refine h1.mono ?_;rintro e p ⟨rfl,m,f⟩;have Q:Hid (Eh p r s V/\BC r w p):=⟨m,f⟩
  clear m f h1;go_wp2_with fail;go_ret;exact⟨_,rfl,by rw[I.out];rfl,by rw[I.out];exact Q.out.1,Q.out.2⟩
 .have ae:(U==0)=false:=by simpa using hx
  have R:Hid (I8 (AA s) d=(some b.1,b.2)):=I.out.trans (a_ hx);go_enter func118,ntmps118;go_wp2_with fail;refine h1.mono ?_;rintro e p ⟨rfl,m,f⟩;have hb:=W.out p m;have Z:Hid (BC r w p):=f;have ac:=f.size;clear m f h1;go_wp2_with fail;refine hb.mono ?_;rintro e P ⟨v,rfl,T,E,G⟩;have H:Hid (PV P w.heap.size v (some b.1)/\Eh P r s b.2/\BC r w P):=by
   obtain⟨g,B,q⟩:=T.at_ Y.out;exact⟨⟨g,by omega,q⟩,E,Z.out.trans G⟩
  clear T E G hb;go_wp2_with fail;go_ret;exact⟨_,rfl,by rw[R.out];exact H.out.1,by rw[R.out];exact H.out.2.1,H.out.2.2⟩
structure NA(w:World)(base g:Nat)(X:List Value)(L:List (Option (List Int))):Prop where
 len:X.length=L.length
 each:∀i,i<L.length->PV w base (X.getD i (.bool false)) (L.getD i none)
 away:∀i,i<L.length->(X.getD i (.bool false)).ownBlock≠some g
 apart:∀i j a,i<L.length->j<L.length->i≠j->(X.getD i (.bool false)).ownBlock=some a->(X.getD j (.bool false)).ownBlock≠some a
theorem PV.lt{base:Nat}{v:Value}{o:Option (List Int)}(h:PV w base v o):∀k,v.ownBlock=some k->base<=k/\k<w.heap.size:=by
 intro k hk;cases o with
 |none=>rw[show v=.slice none 0 0 from h]at hk;cases hk
 |some l=>obtain⟨g,B,rfl,y,_⟩:=h;cases hk;exact⟨B,y.lt⟩
theorem PV.same{w w':World}{base:Nat}{v:Value}{o:Option (List Int)}(h:PV w base v o)(hb:∀k,v.ownBlock=some k->w'.heap[k]?=w.heap[k]?):PV w' base v o:=by
 cases o with
 |none=>exact h
 |some l=>obtain⟨g,B,rfl,y,C⟩:=h;exact⟨g,B,rfl,y.same (hb g rfl),C⟩
theorem NA.same{w w':World}{base g:Nat}{X:List Value}{L:List (Option (List Int))}(h:NA w base g X L)(hb:∀k,k<w.heap.size->base<=k->k≠g->w'.heap[k]?=w.heap[k]?):NA w' base g X L:=
 ⟨h.len,λi hi=>(h.each i hi).same (λk hk=>by have:=(h.each i hi).lt k hk;exact hb k this.2 this.1 (λe=>h.away i hi (by rw[hk,e]))),h.away,h.apart⟩
theorem Fo(X:List Value)(x u:Value)(i:Nat):(X++[x]).getD i u=if i<X.length then X.getD i u else if i=X.length then x else u:=by
 by_cases h:i<X.length
 .rw[bA h];simp[List.getD,bU h]
 .rw[a_ h];by_cases e:i=X.length
  .rw[bA e];simp[List.getD,e]
  .rw[a_ e];have:(X++[x])[i]?=none:=bO (by simp;omega);simp[List.getD,this]
theorem NA.snoc{base c g:Nat}{X:List Value}{L:List (Option (List Int))}{x:Value}{o:Option (List Int)}(h:NA w base g X L)(hx:PV w c x o)(hb:base<=c)(B:g<c)(A:∀i,i<L.length->∀k,(X.getD i (.bool false)).ownBlock=some k->k<c):NA w base g (X++[x]) (L++[o]):=by
 have C:=h.len;have D:∀i,i<L.length->(X++[x]).getD i (.bool false)=X.getD i (.bool false):=λi hi=>by rw[Fo,bA (by omega)]
 have t:(X++[x]).getD L.length (.bool false)=x:=by rw[Fo,a_ (by omega),bA C.symm]
 have hL:∀i,i<L.length->(L++[o]).getD i none=L.getD i none:=λi hi=>by simp[List.getD,bU hi]
 have J:(L++[o]).getD L.length none=o:=by simp[List.getD]
 have n:(L++[o]).length=L.length+1:=by simp
 refine⟨by simp[C],λi hi=>?_,λi hi=>?_,λi j a hi M K y=>?_⟩
 .rw[n]at hi;rcases bX (ch.1 hi)with q|q
  .rw[D i q,hL i q];exact h.each i q
  .rw[q,t,J];cases o with
   |none=>exact hx
   |some l=>obtain⟨a,h1,h2⟩:=hx;exact⟨a,by omega,h2⟩
 .rw[n]at hi;rcases bX (ch.1 hi)with q|q
  .rw[D i q];exact h.away i q
  .rw[q,t];intro e;have:=hx.lt g e;omega
 .rw[n]at hi M;rcases bX (ch.1 hi)with q|q
  .rw[D i q]at y;rcases bX (ch.1 M)with q'|q'
   .rw[D j q'];exact h.apart i j a q q' K y
   .rw[q',t];intro e;have:=hx.lt a e;have:=A i q a y;omega
  .rw[q,t]at y;rcases bX (ch.1 M)with q'|q'
   .rw[D j q'];intro e;have:=hx.lt a y;have:=A j q' a e;omega
   .omega
def Yl(w:World)(s:ByteArray):Ending->World->Prop:=λe w'=>dc w w'/\
 ((DS (AA s)=none/\e=.returned (.tuple #[.slice none 0 0,.int .i64 4]))\/
  ∃L g X,DS (AA s)=some L/\e=.returned (.tuple #[.slice (some ⟨g,0,none⟩) L.length 21,.int .i64 0])/\w.heap.size<=g/\w'.ownsRow w.heap.size 32 1 (.slice (some ⟨g,0,none⟩) L.length 21) L.length X/\NA w' w.heap.size g X L)
theorem T2{i:ES}(hi:i.1<=s.size):∀n,(Cw (AA s) (i,[]) n).1.1<=s.size
 |0=>hi
 |n+1=>by
  have:=T2 hi n;show(if(Cw (AA s) (i,[]) n).1.2 then Cw (AA s) (i,[]) n else _).1.1<=_;split
  .exact this
  .exact ZH this
theorem Q0{i:ES}:∀n,(Cw (AA s) (i,[]) n).2.length<=n
 |0=>bB _
 |n+1=>by
  have:=Q0 (i:=i) n;show(if(Cw (AA s) (i,[]) n).1.2 then Cw (AA s) (i,[]) n else _).2.length<=_;split
  .omega
  .simp;omega
theorem N8{x:ES×List (Option (List Int))}{n:Nat}(h:(Cw (AA s) x n).1.2=true):∀k,Cw (AA s) x (n+k)=Cw (AA s) x n
 |0=>rfl
 |k+1=>by
  have:=N8 h k;show(if(Cw (AA s) x (n+k)).1.2 then Cw (AA s) x (n+k)else _)=_;rw[this,bA h]
theorem NX(hs:s.size<=9223372036854775807):Calls prog 83 #[.string s] w (Yl w s):=by
 obtain⟨wa,o⟩:∃wa,wa=w.alloc (.cells #[.string s,.int .i64 0,.bool false] aA):=⟨_,rfl⟩
 have T:Eh wa w.heap.size s (0,false):=by rw[o];exact At.new _ _ _
 have h1:=GL T hs (by show 0<=s.size;omega) 1 21 (by omega);have aw:wa.heap.size=w.heap.size+1:=by rw[o];simp
 have r1:=EC (Om s) 1 21 (by omega) (0,false);have V:=GR (s:=s) (lo:=1) (hi:=21) (d:=(0,false)) (by omega) (by show 0<=s.size;omega);have ab:Hid (dc w wa):=by rw[o];exact(bC _ _).alloc (bB _) _
 obtain⟨F,E⟩:∃F,F=Cw (AA s) ((Ai (AA s) 1 21 (0,false)).2,[]):=⟨_,rfl⟩
 have ah:(Ai (AA s) 1 21 (0,false)).1<=21:=by
  unfold Ai;split
  .show(0:Int)<=21;omega
  .rename_i q;show Fi _ _<=21;omega
 have N:Hid (DS (AA s)=if(F (Ai (AA s) 1 21 (0,false)).1.toNat).1.2=true\/(F (Ai (AA s) 1 21 (0,false)).1.toNat).1.1≠(AA s).length then none else some (F (Ai (AA s) 1 21 (0,false)).1.toNat).2):=by rw[E];rfl
 have HF:Hid (∀n,F (n+1)=if(F n).1.2 then F n else((I8 (AA s) (F n).1).2,(F n).2++[(I8 (AA s) (F n).1).1])):=by rw[E];intro n;rfl
 have ac:Hid (∀n,(F n).1.1<=s.size):=by rw[E];exact T2 V
 have ae:Hid (∀n k,(F n).1.2=true->F (n+k)=F n):=by rw[E];exact λn k h=>N8 h k
 have am:Hid (∀n,(F n).2.length<=n):=by rw[E];exact Q0
 have C:Hid (F 0=((Ai (AA s) 1 21 (0,false)).2,[])):=by rw[E];rfl
 have aq:∀w,(Instr.makeSlice 54 (.int .i64 0) (.int .i64 21)).run prog w=.ok (.slice (some ⟨w.heap.size,0,none⟩) 0 21) (w.alloc (.cells (List.replicate 21 (Value.slice none 0 0)).toArray 32)):=λ_=>by kernel_rfl
 obtain⟨i0,W,ay,aa,az⟩:=c_ (P:=prog) (e:=32) (z:=.slice none 0 0) (size:=1) (bytes:=24) (by kernel_rfl);have af:Hid (∀(b:World),(b.alloc (.cells (List.replicate 21 (Value.slice none 0 0)).toArray 32)).ownsRow b.heap.size 32 1 (.slice (some ⟨b.heap.size,0,none⟩) 0 21) 0 []):=λb=>World.ownsRow_made b _ 21 (bB _) (by decide) rfl;have ag:Hid (∀(b:World)(d:ES),Eh b w.heap.size s d->d.1<=s.size->Calls prog 118 #[.pointer (some ⟨w.heap.size,0,none⟩)] b (XE b w.heap.size s d)):=λb d hc hd=>Vf hc hs hd;have R:Hid ((AA s).length=s.size):=AR s;generalize Ai (AA s) 1 21 (0,false)=x at *;obtain⟨x1,x2⟩:=x;simp only at r1 V h1 ah N;have ax:0<=x1:=r1.1;obtain⟨k,rfl⟩:∃k:Nat,x1=(k:Int):=⟨x1.toNat,by omega⟩
 rw[bK]at N;generalize(List.replicate 21 (Value.slice none 0 0)).toArray=zs at *;rw[o]at h1;clear E r1 T;go_enter func83,ntmps83;go_wp2_with fail;rw[<-o]at h1|-;refine h1.mono ?_;rintro e b ⟨rfl,H,I⟩;have av:=I.size;have ar:=H.lt;have H1:Hid (Eh (b.alloc (.cells zs 32)) w.heap.size s x2/\dc w (b.alloc (.cells zs 32))/\(b.alloc (.cells zs 32)).ownsRow b.heap.size 32 1 (.slice (some ⟨b.heap.size,0,none⟩) 0 21) 0 []):=⟨At.allocH H _,(ab.out.trans (I.below (bB _) (by omega))).alloc (by omega) _,af.out b⟩
 clear H I h1 o;go_wp2_with fail;go_loopw [6,7] (λsl i wr=>∃(q n:Nat)(X:List Value),q<=k/\i=.int .i64 q/\n<=q/\sl=.slice (some ⟨b.heap.size,0,none⟩) n 21/\Hid (n=(F q).2.length/\wr.ownsRow b.heap.size 32 1 (.slice (some ⟨b.heap.size,0,none⟩) n 21) n X/\Eh wr w.heap.size s (F q).1/\dc w wr/\b.heap.size<wr.heap.size/\NA wr (b.heap.size+1) b.heap.size X (F q).2)) (λ_ i _=>k-(intOf i).toNat);case atStart=>exact⟨0,0,[],by omega,rfl,by omega,rfl,by rw[C.out];rfl,H1.out.2.2,by rw[C.out];exact H1.out.1,H1.out.2.1,by simp,by rw[C.out];exact⟨rfl,λi hi=>absurd hi (by simp),λi hi=>absurd hi (by simp),λi j a hi=>absurd hi (by simp)⟩⟩
 case round=>
  obtain⟨q,n,X,hq,rfl,hn,rfl,f⟩:=hrel;have ai:=ac.out q;have B:Hid (Eh wr w.heap.size s (F q).1):=f.out.2.2.1;obtain⟨c0,c1,c2,cf⟩:=B.out.cells;have au:=B.out.lt;have aC:=f.out.2.2.2.2.1;have ad:=(show Hid (_=_)from HF.out q)
  have D:Hid ((F q).1.2=true->F k=F q):=λh=>by have:=ae.out q (k-q) h;rwa[show q+(k-q)=k by omega]at this
  by_cases ap:q<k
  .have aj:(q:Int)<(k:Int):=by omega
   cases m:(F q).1.2 with
   |true=>
    rw[m]at c2;have y:Hid (DS (AA s)=none):=by show _=_;rw[N.out,D.out m,bA (.inl m)]
    clear m;go_wp2_with fail
    go_ret2
    exact⟨f.out.2.2.2.1,.inl ⟨y.out,rfl⟩⟩
   |false=>
    rw[m]at c2;have J:=ag.out wr (F q).1 B.out ai;unfold XE at J;have y:Hid (F (q+1)=((I8 (AA s) (F q).1).2,(F q).2++[(I8 (AA s) (F q).1).1])):=by show _=_;rw[ad.out,m];rfl
    clear m;generalize I8 (AA s) (F q).1=pp at *;go_wp2_with fail;refine J.mono ?_;rintro e r ⟨L,rfl,K,U,v⟩;have aB:wr.heap.size<=r.heap.size:=v.size;have M:Hid (Eh r w.heap.size s pp.2/\dc w r/\r.ownsRow b.heap.size 32 1 (.slice (some ⟨b.heap.size,0,none⟩) n 21) n X/\NA r (b.heap.size+1) b.heap.size (X++[L]) ((F q).2++[pp.1])):=by
     refine⟨U,f.out.2.2.2.1.trans (v.below (bB _) (by omega)),Bm f.out.2.1 (λk hk=>v.block k (f.out.2.1.lt k hk).2 (by cases hk;show b.heap.size≠w.heap.size;omega)),?_⟩;have G:=f.out.2.2.2.2.2;refine(G.same (w':=r) (λk hk hb _=>v.block k hk (by omega))).snoc K (by omega) (by omega) (λi hi k hk=>((G.each i hi).lt k hk).2)
    have O:Hid (∀p,(r.alloc (.cells #[L] 32)).grownBy p (some b.heap.size)->p.ownsRow b.heap.size 32 1 (.slice (some ⟨b.heap.size,0,none⟩) (n+1) 21) (n+1) (X++[L])->
      n+1=(F (q+1)).2.length/\p.ownsRow b.heap.size 32 1 (.slice (some ⟨b.heap.size,0,none⟩) (n+1) 21) (n+1) (X++[L])/\Eh p w.heap.size s (F (q+1)).1/\dc w p/\b.heap.size<p.heap.size/\NA p (b.heap.size+1) b.heap.size (X++[L]) (F (q+1)).2):=by
     intro p hg ho;have S:∀k,k<r.heap.size->k≠b.heap.size->p.heap[k]?=r.heap[k]?:=λk hk Z=>(hg.block k (by simp;omega) (by intro e;have:=bV e;omega)).trans (heap_alloc_old _ _ hk);have al:=hg.size;rw[y.out];refine⟨by simp[f.out.1],ho,At.same M.out.1 (S _ (by omega) (by omega)),?_,by simp at al;omega,M.out.2.2.2.same (λk hk _ Z=>S k hk Z)⟩;exact(M.out.2.1.alloc M.out.2.1.size _).grown hg (by simp;omega) (λk hk=>by cases hk;omega)
    have HV:Hid (PV r wr.heap.size L pp.1):=K;clear K U v J y;generalize pp.1=oo at *;cases oo with
    |none=>
     have hv:L=.slice none 0 0:=HV.out;subst hv;go_wp2_with (at_builtin;refine cj _ rfl (.tmp 24) (.tmp 26) 54 rfl b.heap.size 32 i0 1 underlying54 W aa b.heap.size n 21 _ rfl (M.out.2.2.1.alloc _) ⟨r.heap.size,0,none⟩ 1 1 [Value.slice none 0 0] rfl rfl (by intro t u A;match t,A with|0,A=>simp at A;subst A;exact bL _ _ _ _ rfl) (by intro u hu;simp at hu;subst hu;rfl) (by omega) ?_;intro p g c);go_roundw;case rel=>exact⟨q+1,n+1,X++[Value.slice none 0 0],by omega,by go_num,by omega,rfl,O.out p c g⟩
     case measure=>simp[intOf];omega
    |some l=>
     obtain⟨g3,an,hv, -, -⟩:=HV.out;subst hv;go_wp2_with (at_builtin;refine cj _ rfl (.tmp 24) (.tmp 26) 54 rfl b.heap.size 32 i0 1 underlying54 W aa b.heap.size n 21 _ rfl (M.out.2.2.1.alloc _) ⟨r.heap.size,0,none⟩ 1 1 [Value.slice (some ⟨g3,0,none⟩) 32 32] rfl rfl (by intro t u A;match t,A with|0,A=>simp at A;subst A;exact bL _ _ _ _ rfl) (by intro u hu;simp at hu;subst hu;rfl) (by omega) ?_;intro p g c);go_roundw;case rel=>exact⟨q+1,n+1,X++[Value.slice (some ⟨g3,0,none⟩) 32 32],by omega,by go_num,by omega,rfl,O.out p c g⟩
     case measure=>simp[intOf];omega
  .have ak:q=k:=by omega
   subst ak;have aj:¬(q:Int)<(q:Int):=by omega
   have Q:Hid (∀aD:World,w.heap.size<=b.heap.size->wr.ownsRow b.heap.size 32 1 (.slice (some ⟨b.heap.size,0,none⟩) n 21) n X->n=(F q).2.length->wr.ownsRow w.heap.size 32 1 (.slice (some ⟨b.heap.size,0,none⟩) (F q).2.length 21) (F q).2.length X/\NA wr w.heap.size b.heap.size X (F q).2):=by
    intro _ hb ho hn;rw[<-hn];refine⟨Ha ho hb,?_⟩;have G:=f.out.2.2.2.2.2;refine⟨G.len,λi hi=>?_,G.away,G.apart⟩;have:=G.each i hi;cases e:(F q).2.getD i none with
    |none=>rw[e]at this;exact this
    |some l=>rw[e]at this;obtain⟨a,h1,h2⟩:=this;exact⟨a,by omega,h2⟩
   cases m:(F q).1.2 with
   |true=>
    rw[m]at c2;have y:Hid (DS (AA s)=none):=by show _=_;rw[N.out,bA (.inl m)]
    clear m;go_wp2_with fail
    go_ret2
    exact⟨f.out.2.2.2.1,.inl ⟨y.out,rfl⟩⟩
   |false=>
    rw[m]at c2;by_cases Y:(F q).1.1=s.size
    .have y:Hid (DS (AA s)=some (F q).2):=by show _=_;rw[N.out,a_ (by rw[m,R.out];simp[Y])]
     rw[Y]at c1;have HN:=(show Hid (_=_)from f.out.1)
     clear m Y;go_wp2_with fail
     go_ret2
     have hf:=Q.out wr (by omega) f.out.2.1 f.out.1;refine⟨f.out.2.2.2.1,.inr ⟨(F q).2,b.heap.size,X,y.out,?_,by omega,hf.1,hf.2⟩⟩;rw[<-HN.out];rfl
    .have y:Hid (DS (AA s)=none):=by show _=_;rw[N.out,bA (.inr (by rw[R.out];exact Y))]
     have ao:(((F q).1.1:Int) != (s.size:Int))=true:=by rw[cI];omega
     clear m Y;go_wp2_with fail
     go_ret2
     exact⟨f.out.2.2.2.1,.inl ⟨y.out,rfl⟩⟩
theorem R8(s:ByteArray):strOfNums (AA s)=s:=by
 apply ByteArray.ext;apply Array.toList_inj.1;simp only[strOfNums,AA,List.map_map]
 conv=>rhs;rw[<-List.map_id s.data.toList]
 apply cW;intro b _;show UInt8.ofNat (Int.toNat ((b.toNat:Nat):Int))=b;rw[bK];exact UInt8.ofNat_toNat
theorem LO{xs:List Int}(h:∀x,x∈xs->0<=x/\x<=255):AA (strOfNums xs)=xs:=by
 simp only[strOfNums,AA,List.map_map]
 conv=>rhs;rw[<-List.map_id xs]
 apply cW;intro x hx;have:=h x hx;show(((UInt8.ofNat x.toNat).toNat:Nat):Int)=x;rw[UInt8.toNat_ofNat'];omega
theorem Ut{l:List Int}:∀n x,x∈Kr l n->x.1<n/\x.2=l.getD x.1 0/\x.2≠1000000
 |0,x,h=>by cases h
 |n+1,x,h=>by
  have d:x∈Kr l n++(if l.getD n 0=1000000 then[]else[(n,l.getD n 0)]):=h;rcases cY.1 d with q|q
  .have:=Ut n x q;exact⟨by omega,this.2⟩
  .split at q
   .cases q
   .rename_i e;rw[List.mem_singleton]at q;subst q;exact⟨by show n<n+1;omega,rfl,e⟩
theorem WT{l:List Int}(hb:∀f,f<32->On (l.getD f 0)){N:Nat}(hN:N<=32):∀x,x∈tl l N->0<=x/\x<=255:=by
 intro x hx;unfold tl at hx;obtain⟨y,t,a⟩:=List.mem_flatMap.1 hx;obtain⟨h1,h2,h3⟩:=Ut N y t;have:=(hb y.1 (by omega)).resolve_left (by rw[<-h2];exact h3);rw[<-h2]at this;unfold b3 at a;simp only[List.mem_cons,List.not_mem_nil,or_false]at a;rcases a with e|e|e<;>omega
theorem RT{r:Option (List Int)}(hr:F_ r):∀x,x∈Dk r->0<=x/\x<=255:=by
 cases r with
 |none=>intro x hx;rw[show Dk none=[0]from rfl,List.mem_singleton]at hx;omega
 |some l=>
  intro x hx;rw[LY]at hx;have hc:=J6 l 32;have p:=WT (hr l rfl).2 (bB 32) x;generalize tl l 32=T at *;generalize ct l 32=C at *;rcases List.mem_cons.1 hx with e|hx
  .omega
  .rcases List.mem_cons.1 hx with e|hx
   .omega
   .exact p hx
theorem La{L:List (Option (List Int))}(c:∀r,r∈L->F_ r):∀n x,x∈Br L n->0<=x/\x<=255
 |0,x,h=>by cases h
 |n+1,x,h=>by
  have d:x∈Br L n++Dk (L.getD n none):=h;rcases cY.1 d with q|q
  .exact La c n x q
  .exact RT (Da c n) x q
theorem LZ{L:List (Option (List Int))}(c:∀r,r∈L->F_ r)(aa:L.length<=21):∀x,x∈IM L->0<=x/\x<=255:=by
 intro x hx;rcases List.mem_cons.1 hx with e|hx
 .omega
 .exact La c _ x hx
theorem Ma{r:Option (List Int)}:F_ r↔TP r=true:=by
 cases r with
 |none=>exact⟨λ_=>rfl,λ_ l e=>by cases e⟩
 |some l=>
  show _↔FM l=true;rw[CG];constructor
  .intro h;obtain⟨h1,h2⟩:=h l rfl;exact⟨h1,λi hi=>cC (h2 i hi)⟩
  .rintro⟨h1,h2⟩ l' e;injection e with e
   subst e;exact⟨h1,λf m=>by have:=ce (h2 f m);exact this⟩
theorem QY{L:List (Option (List Int))}:Lf L L.length=true↔∀r,r∈L->F_ r:=by
 rw[MQ];constructor
 .intro h r hr;obtain⟨i,hi,e⟩:=List.getElem_of_mem hr;have:=h i hi;rw[show L.getD i none=r by simp[List.getD,hi,e]]at this;exact Ma.2 this
 .intro h i _;exact Ma.1 (Da h i)
def GD(s:ByteArray):Option (List (Option (List Int))):=
 match Nx (AA s)with
 |none=>none
 |some L=>if(DH L).2=0/\strOfNums (DH L).1=s then some L else none
theorem MN(s:ByteArray):GD s=DS (AA s):=by
 cases e:DS (AA s)with
 |some L=>
  obtain⟨h1,h2,h3,h4⟩:=GM (Om s) e;have o:=Vu h2 h3 h4 h1;have k:DH L=(IM L,0):=by unfold DH;rw[a_ (by omega),bA (QY.2 h4)]
  unfold GD;rw[o];simp only;rw[k,bA ⟨rfl,by rw[<-h1,R8]⟩]
 |none=>
  unfold GD;cases q:Nx (AA s)with
  |none=>rfl
  |some L=>
   simp only;rw[a_];rintro⟨h1,h2⟩;unfold DH at h1 h2;by_cases j:L.length<1\/21<L.length
   .rw[bA j]at h1;cases h1
   .rw[a_ j]at h1 h2;by_cases g:Lf L L.length=true
    .rw[bA g]at h2;have h4:=QY.1 g;have hb:AA s=IM L:=by
      rw[<-show strOfNums (IM L)=s from h2];exact LO (LZ h4 (by omega))
     rw[QQ (by omega) (by omega) h4 hb]at e;cases e
    .rw[a_ g]at h1;cases h1
theorem Ic{w:World}{B B':Nat}{e:TypeId}{size:Nat}{v:Value}{n:Nat}{xs:List Value}(h:w.ownsRow B e size v n xs)(hB:B'<=B):w.ownsRow B' e size v n xs:=by
 obtain⟨h1,h2⟩:=h;refine⟨h1,?_⟩;rcases h2 with h2|⟨g,cap,c,C,l,d⟩
 .exact .inl h2
 .exact .inr ⟨g,cap,c,C,by omega,d⟩
theorem GB{P:Program}(w:World)(base:Nat)(t r e:TypeId)(i:TypeInfo)(z:Value)(size bytes:Nat)(p:P.underlying t=some (.slice e))(hi:P.info? e=some i)(hz:i.zero=some z)
  (hsize:i.size=size) (hby:i.bytes=bytes) (hzs:z.cells.size=size) (hsz:0<size)
  (v:Value) (n:Nat) (xs:List Value) (hown:w.ownsRow base e size v n xs)
  (a:Addr) (m c:Nat) (news:List Value) (hl:news.length=m*size) (hnews:∀j u,news[j]?=some u->w.cell? (a.add j)=some u) (h1:∀u∈news,u.oneCell'=true)
  (h63:n+m<=maxLen) (hbytes:(n+m)*bytes<=140737488355328) (hbase:base<=w.heap.size):
  ∃b w',(Builtin.append_ #[t,t] r #[v,.slice (some a) m c]).run P w=.ok b w'/\w'.ownsRow base e size b (n+m) (xs++news)/\w.grownBy w' v.ownBlock/\
   (b.ownBlock=v.ownBlock\/∀g,b.ownBlock=some g->w.heap.size<=g):=by
 rcases hown.2 with⟨rfl,rfl⟩|⟨g,cap,cur,rfl,ab,l,af,ac,ae,aa⟩
 .have hx:xs=[]:=List.eq_nil_of_length_eq_zero (by simpa using hown.1);subst hx;obtain⟨b,w',h2,h3,h4,_⟩:=run_append_own (P:=P) w w.heap.size t r e i z size bytes p hi hz hsize hby hzs hsz (.slice none 0 0) 0 [] (World.ownsRow_nil w _ e size) a m c news hl hnews h1 h63 hbytes (bB _);exact⟨b,w',h2,Ic h3 hbase,h4,.inr λg l=>(h3.lt g l).1⟩
 .by_cases f:n+m<=cap
  .obtain⟨w',h2,h3,h4⟩:=run_append_fits (P:=P) w base t r e i size p hi hsize g n cap xs hown a m c news hl hnews h1 f;exact⟨_,w',h2,h3,h4,.inl rfl⟩
  .obtain⟨b,w',h2,h3,h4⟩:=run_append_arg_grows (P:=P) w t r e i z size bytes p hi hz hsize hby hzs hsz ⟨g,0,none⟩ n cap xs hown.1 (hown.cells (g:=g) rfl) a m c news hl hnews (by omega) h63 hbytes;exact⟨b,w',h2,Ic h3 hbase,⟨h4.os,h4.tape,h4.output,h4.size,λk hk _=>h4.block k hk (by simp)⟩,.inr λg l=>(h3.lt g l).1⟩
theorem E0{P:Program}{w:World}{q:Array Oper}{d:List Oper}{o:Oper}{a:Act}{Q:Exit->Act->World->Prop}(y:o.guard=none)(s x:Operand)(t:TypeId)
  (ho:o.op=.call {callee:=.builtin .append,args:=#[s,x],argTypes:=#[t,t]})
  (base:Nat) (e:TypeId) (i:TypeInfo) (z:Value) (size bytes:Nat) (p:P.underlying t=some (.slice e)) (hi:P.info? e=some i) (hz:i.zero=some z)
  (hsize:i.size=size) (hby:i.bytes=bytes) (hzs:z.cells.size=size) (hsz:0<size)
  (v:Value) (n:Nat) (xs:List Value) (hs:a.eval s=v) (hown:w.ownsRow base e size v n xs)
  (ad:Addr) (m c:Nat) (news:List Value) (hx:a.eval x=.slice (some ad) m c) (hl:news.length=m*size) (hnews:∀j u,news[j]?=some u->w.cell? (ad.add j)=some u) (h1:∀u∈news,u.oneCell'=true)
  (h63:n+m<=maxLen) (hbytes:(n+m)*bytes<=140737488355328) (hbase:base<=w.heap.size)
  (h:∀b w',w'.ownsRow base e size b (n+m) (xs++news)->w.grownBy w' v.ownBlock->(b.ownBlock=v.ownBlock\/∀g,b.ownBlock=some g->w.heap.size<=g)->wpList P q Q d (a.put o.dst b) w'):wpList P q Q (o::d) a w:=by
 refine wpList_plain y λ_ A=>?_;obtain⟨b,w',hr,h2,h3,h4⟩:=GB (P:=P) w base t o.type e i z size bytes p hi hz hsize hby hzs hsz v n xs hown ad m c news hl hnews h1 h63 hbytes hbase;unfold Oper.wp execOp;simp only[ho,resolve,invoke,builtin,Sem.run_bind,Sem.run_pure,Result.andThen_ok,List.map_toArray,List.map_cons,List.map_nil,hs,hx,hr];exact A _ _ (h b w' h2 h3 h4)
theorem Dn(g i:Nat):(⟨g,0,none⟩:Addr).add i=⟨g,i,none⟩:=by unfold Addr.add;split<;>simp_all
structure L9(w:World)(base:Nat)(v:Value)(X:List Value)(L:List (Option (List Int))):Prop where
 row:w.ownsRow base 32 1 v L.length X
 each:∀i,i<L.length->PV w base (X.getD i (.bool false)) (L.getD i none)
 away:∀i k,i<L.length->(X.getD i (.bool false)).ownBlock=some k->v.ownBlock≠some k
theorem L9.len{base:Nat}{v:Value}{X:List Value}{L:List (Option (List Int))}(h:L9 w base v X L):X.length=L.length:=by have:=h.row.1;simpa using this
theorem L9.keep{w w':World}{base B:Nat}{v:Value}{X:List Value}{L:List (Option (List Int))}(h:L9 w base v X L)(hb:Below B w w')(hB:w.heap.size<=B):L9 w' base v X L:=
 ⟨Bm h.row (λk hk=>hb.block k (by have:=(h.row.lt k hk).2;omega)),λi hi=>(h.each i hi).same (λk hk=>hb.block k (by have:=((h.each i hi).lt k hk).2;omega)),h.away⟩
theorem L9.snoc{w w':World}{base:Nat}{v p x:Value}{X:List Value}{L:List (Option (List Int))}{o:Option (List Int)}(h:L9 w base v X L)(hx:PV w base x o)(E:∀k,x.ownBlock=some k->v.ownBlock≠some k)
  (hrow:w'.ownsRow base 32 1 p (L.length+1) (X++[x])) (G:w.grownBy w' v.ownBlock) (D:p.ownBlock=v.ownBlock\/∀g,p.ownBlock=some g->w.heap.size<=g):L9 w' base p (X++[x]) (L++[o]):=by
 have C:=h.len;have K:∀i,i<L.length->(X++[x]).getD i (.bool false)=X.getD i (.bool false):=λi hi=>by rw[Fo,bA (by omega)]
 have z:(X++[x]).getD L.length (.bool false)=x:=by rw[Fo,a_ (by omega),bA C.symm]
 have J:∀i,i<L.length->(L++[o]).getD i none=L.getD i none:=λi hi=>by simp[List.getD,bU hi]
 have u:(L++[o]).getD L.length none=o:=by simp[List.getD]
 have d:(L++[o]).length=L.length+1:=by simp
 have F:∀i,i<L.length+1->PV w base ((X++[x]).getD i (.bool false)) ((L++[o]).getD i none)/\∀k,((X++[x]).getD i (.bool false)).ownBlock=some k->v.ownBlock≠some k:=by
  intro i hi;rcases bX (ch.1 hi)with q|q
  .rw[K i q,J i q];exact⟨h.each i q,λk hk=>h.away i k q hk⟩
  .rw[q,z,u];exact⟨hx,E⟩
 refine⟨by rw[d];exact hrow,λi hi=>?_,λi k hi hk=>?_⟩
 .rw[d]at hi;obtain⟨h1,h2⟩:=F i hi;exact h1.same (λk hk=>G.block k (h1.lt k hk).2 (λe=>h2 k hk e.symm))
 .rw[d]at hi;obtain⟨h1,h2⟩:=F i hi;rcases D with e|e
  .rw[e];exact h2 k hk
  .intro H;have:=e k H;have:=(h1.lt k hk).2;omega
theorem L9.reads{base:Nat}{v:Value}{X:List Value}{L:List (Option (List Int))}(h:L9 w base v X L)(hn:1<=L.length):CX w v L/\∃a n c,v=.slice (some a) n c:=by
 rcases h.row.2 with⟨_,e⟩|⟨g,cap,cur,rfl,G,hh,f,_,aa,ab⟩
 .omega
 .refine⟨⟨some ⟨g,0,none⟩,cap,rfl,f,λ_=>⟨g,0,rfl,(h.row.lt g rfl).2,λi hi=>?_⟩⟩,_,_,_,rfl⟩;have y:X[i]?=some (X.getD i (.bool false)):=by simp[List.getD,show i<X.length by rw[h.len];exact hi]
  have hc:=h.row.cells (g:=g) rfl i _ y;rw[Dn]at hc;refine⟨_,by rw[cU];exact hc,?_⟩;have m:=h.each i hi;cases e:L.getD i none with
  |none=>rw[e]at m;exact m
  |some l=>
   rw[e]at m;obtain⟨a,_,D,A,C⟩:=m;rw[D];exact⟨AQ.at_ A C (bB _) (λj hj=>Aa _ _ (by omega)),_,_,_,rfl⟩
theorem JX(s:ByteArray)(k:Nat)(h:k<s.size):(AA s).getD k 0=((s[k]).toNat:Int):=by rw[bG,Ck s k h];rfl
def VM(w:World)(s:ByteArray):Ending->World->Prop:=λe w'=>dc w w'/\
 ((GD s=none/\e=.returned (.tuple #[.slice none 0 0,.int .i64 4]))\/
  ∃L v,GD s=some L/\e=.returned (.tuple #[v,.int .i64 0])/\CX w' v L/\∃a n c,v=.slice (some a) n c)
theorem Mi(_hs:s.size<=9223372036854775807)(b:s.size<1\/(AA s).getD 0 0<1\/21<(AA s).getD 0 0):Calls prog 26 #[.string s] w (VM w s):=by
 have r:Hid (GD s=none):=by
  show _=_;unfold GD Nx;rw[AR,bA b]
 by_cases I:s.size<1
 .have hz:s.size=0:=by omega
  have h1:(s.size:Int)<1:=by omega
  clear b;go_enter func26,ntmps26;go_wp2_with fail
  go_ret2
  exact⟨bC _ _,.inl ⟨r.out,rfl⟩⟩
 .have h1:¬(s.size:Int)<1:=by omega
  have t:0<s.size:=by omega
  rw[JX s 0 t]at b;have hb:=b.resolve_left I;by_cases h2:((s[0]).toNat:Int)<1
  .clear b hb;go_enter func26,ntmps26;go_wp2_with fail
   go_ret2
   exact⟨bC _ _,.inl ⟨r.out,rfl⟩⟩
  .have h3:(21:Int)<((s[0]).toNat:Int):=by omega
   clear b hb;go_enter func26,ntmps26;go_wp2_with fail
   go_ret2
   exact⟨bC _ _,.inl ⟨r.out,rfl⟩⟩
theorem ER(x:Int):(0<=x->x.tdiv 2=x/2)/\(x<0->x.tdiv 2= -((-x)/2)):=by
 constructor
 .intro h;exact Int.tdiv_eq_ediv_of_nonneg h
 .intro h;have:x.tdiv 2= -((-x).tdiv 2):=by rw[Int.neg_tdiv,Int.neg_neg]
  rw[this,Int.tdiv_eq_ediv_of_nonneg (by omega)]
theorem AW(x:Int):x.tdiv 2*2<=x+1/\x-1<=x.tdiv 2*2:=by
 have h:=ER x;rcases cR x 0 with e|e
 .rw[h.2 e];omega
 .rw[h.1 e];omega
theorem KX(M:Nat->Int):∀n a,Ef M n a=if a%9=0/\a/9<n/\M a≠NB then M a/2*2 else M a:=by
 intro n;induction n with
 |zero=>intro a;rw[Ef,a_ (by omega)]
 |succ n ih=>
  intro a;rw[Ef];unfold Zl;have hn:Ef M n (n*8+n)=M (n*8+n):=by rw[ih,a_ (by omega)]
  rw[hn];by_cases e:a=n*8+n
  .subst e;split
   .rename_i h;rw[hn,a_ (λq=>q.2.2 h)]
   .rename_i h;rw[CV,bA ⟨by omega,by omega,h⟩]
  .have aa:¬(a%9=0/\a/9=n):=by omega
   have:(if M (n*8+n)=NB then Ef M n else Bw (Ef M n) (n*8+n) (M (n*8+n)/2*2)) a=Ef M n a:=by
    split
    .rfl
    .exact BO _ _ e
   rw[this,ih];by_cases q:a%9=0/\a/9<n/\M a≠NB
   .rw[bA q,bA ⟨q.1,by omega,q.2.2⟩]
   .rw[a_ q,a_ (λp=>q ⟨p.1,by omega,p.2.2⟩)]
theorem Mk{L:Int}{M:Nat->Int}(h:Lo L M)(n:Nat):Lo (L+1) (Ef M n):=by
 intro a d;have:=h a d;rw[KX];split<;>omega
theorem XL{L:Int}{M:Nat->Int}(m:0<=L)(h:Lo L M){k:Nat}(hk:k<64):Lo L (SZ M k):=by
 intro a d;have h1:=h (k/8*8+k/8) (by omega);have h2:=h (k%8*8+k%8) (by omega);have h3:=h a d;have:=N5 h1 h2 (by omega);unfold SZ;split
 .unfold Bw;split
  .have:=AW (pl (M (k/8*8+k/8)) (M (k%8*8+k%8)));omega
  .exact h3
 .exact h3
theorem Oi{L:Int}{M:Nat->Int}(m:0<=L)(h:Lo L M):∀k,k<=64->Lo L (Ea M k):=by
 intro k;induction k with
 |zero=>intro _;exact h
 |succ k ih=>intro hk;rw[Ea];exact XL m (ih (by omega)) (by omega)
def sd(v:Nat->Int)(i:Nat):Int:=if i%2=0 then v (i/2)else -v (i/2)
theorem FR(v:Nat->Int)(i:Nat):sd v (opp i)= -sd v i:=by
 unfold sd opp;by_cases h:i%2=0
 .rw[bA h,bA h,a_ (by omega),show(i+1)/2=i/2 by omega]
 .rw[a_ h,a_ h,bA (by omega),show(i-1)/2=i/2 by omega,Int.neg_neg]
def Ej(v:Nat->Int)(M:Nat->Int):Prop:=∀i j,i<8->j<8->M (i*8+j)=NB\/sd v i+sd v j<=M (i*8+j)
theorem GU{a b:Int}(h:pl a b≠NB):a≠NB/\b≠NB/\pl a b=a+b:=by
 unfold pl at h|-;by_cases q:a=NB\/b=NB
 .rw[bA q]at h;exact absurd rfl h
 .rw[a_ q];exact⟨λe=>q (.inl e),λe=>q (.inr e),rfl⟩
theorem Ej.ch1{v M:Nat->Int}(h:Ej v M){s k:Nat}(hs:s<8)(_hk:k<64):Ej v (Sv s M k):=by
 intro i j hi c;unfold Sv;split
 .unfold Bw;split
  .rename_i e;have e1:k/8=i:=by omega
   have e2:k%8=j:=by omega
   rw[e1,e2];by_cases q:pl (M (i*8+opp s)) (M (s*8+j))=NB
   .exact .inl q
   .obtain⟨f,g,o⟩:=GU q
    right
    rw[o];have l:=(h i (opp s) hi (Ah hs)).resolve_left f;have r:=(h s j hs c).resolve_left g;rw[FR]at l;omega
  .exact h i j hi c
 .exact h i j hi c
theorem Ej.chF{v M:Nat->Int}(h:Ej v M){s:Nat}(hs:s<8):∀k,k<=64->Ej v (E6 s M k):=by
 intro k;induction k with
 |zero=>intro _;exact h
 |succ k ih=>intro hk;rw[E6];exact(ih (by omega)).ch1 hs (by omega)
theorem Ej.fw{v M:Nat->Int}(h:Ej v M):∀s,s<=8->Ej v (fw M s):=by
 intro s;induction s with
 |zero=>intro _;exact h
 |succ s ih=>intro hs;rw[Go.Proofs.YtffajooegiempaaGreatDoor.fw];exact(ih (by omega)).chF (by omega) 64 (bB _)
theorem Ej.rdF{v M:Nat->Int}(h:Ej v M)(n:Nat):Ej v (Ef M n):=by
 intro i j hi c;rw[KX];split
 .rename_i q;have e:i=j:=by omega
  subst e;have:=(h i i hi hi).resolve_left q.2.2
  right
  omega
 .exact h i j hi c
theorem Ej.ah1{v M:Nat->Int}(h:Ej v M){k:Nat}(_hk:k<64):Ej v (SZ M k):=by
 intro i j hi c;unfold SZ;split
 .rename_i q;unfold Bw;split
  .rename_i e;have e1:k/8=i:=by omega
   have e2:k%8=j:=by omega
   rw[e1,e2]at q|-;obtain⟨f,g,o⟩:=GU q.1;have l:=(h i i hi hi).resolve_left f;have r:=(h j j c c).resolve_left g;have:=ER (pl (M (i*8+i)) (M (j*8+j)))
   right
   rcases cR (pl (M (i*8+i)) (M (j*8+j))) 0 with e|e
   .rw[this.2 e];omega
   .rw[this.1 e];omega
  .exact h i j hi c
 .exact h i j hi c
theorem Ej.ahF{v M:Nat->Int}(h:Ej v M):∀k,k<=64->Ej v (Ea M k):=by
 intro k;induction k with
 |zero=>intro _;exact h
 |succ k ih=>intro hk;rw[Ea];exact(ih (by omega)).ah1 (by omega)
theorem Ej.sharp{v M:Nat->Int}(h:Ej v M):Ej v (Aj M):=((h.fw 8 (bB _)).rdF 8).ahF 64 (bB _)
theorem Gi{M:Nat->Int}:∀{n:Nat},By M n=true->∃i,i<n/\M (i*8+opp i)<0:=by
 intro n;induction n with
 |zero=>intro h;cases h
 |succ n ih=>
  intro h;rw[By,cV]at h;rcases h with h|h
  .obtain⟨i,hi,h⟩:=ih h;exact⟨i,by omega,h⟩
  .exact⟨n,by omega,ce h⟩
theorem Ej.some{v M:Nat->Int}(h:Ej v M):By M 8=false:=by
 cases e:By M 8 with
 |false=>rfl
 |true=>
  obtain⟨i,hi,h1⟩:=Gi e;rcases h i (opp i) hi (Ah hi)with q|q
  .rw[q]at h1;exact absurd h1 (by decide)
  .rw[FR]at q;omega
theorem Kc{M:Nat->Int}(h:Lo 8000 M):Lo (8000*6^8+1) (Aj M):=Oi (by decide) (Mk (QW (by decide) h 8 (bB _)) 8) 64 (bB _)
end Go.Proofs.YtffajooegiempaaGreatDoor
