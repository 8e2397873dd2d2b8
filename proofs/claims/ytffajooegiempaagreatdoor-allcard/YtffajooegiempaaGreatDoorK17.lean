import Derived.Test.YtffajooegiempaaGreatDoorK16
set_option maxRecDepth 100000
set_option maxHeartbeats 6400000
namespace Go.Proofs.YtffajooegiempaaGreatDoor
open Go.RowKit Go.Proofs.Tryz
variable {w:World}{e0:Bool}{M:Nat->Int}{b:Nat}
theorem S7(x:Ds)(hx:OY x)(C:x.kind=1)(z:x.any=false)(D:Sm M):
  Calls prog 82 #[B0 x,.agg (oc false M)] w λe w'=>e=.returned (.bool (DF false M x))/\dc w w':=by
 obtain⟨e0,y⟩:∃e0:Bool,e0=false:=⟨_,rfl⟩
 rw[<-y];obtain⟨j,g⟩:∃j,j=(w.alloc (.cells (AD x) BB)).alloc (.cells (oc e0 M) tO):=⟨_,rfl⟩
 have n:Hid (At j w.heap.size (AD x) BB/\AL j (w.heap.size+1) e0 M/\dc w j/\j.heap.size=w.heap.size+2):=by
  refine⟨by rw[g];exact At.allocH (At.new _ _ _) _,?_,by rw[g];exact((bC _ _).alloc (bB _) _).alloc (by simp) _,by rw[g];simp⟩;have:=At.new (w.alloc (.cells (AD x) BB)) (oc e0 M) tO;rw[show(w.alloc (.cells (AD x) BB)).heap.size=w.heap.size+1 by simp]at this;rw[g];exact this
 have B:j.cell? ⟨w.heap.size+1,0,none⟩=some (.bool e0):=by rw[At.cell n.out.2.1];exact Ib _ _
 have o:=n.out.2.2.1;have s:=n.out.2.1;subst y;have u:Hid (DF false M x=(!x.any&&decide (FC M x.sg<=x.num))):=by show DF false M x=_;unfold DF;rw[a_ (by decide),a_ (by omega),bA C]
 have q:Hid (DF false M x=decide (FC M x.sg<=x.num)):=by show _=decide (FC M x.sg<=x.num);rw[u.out,z];rfl
 have k:Hid (∀A,Calls prog 116 #[.agg (oc false M),v4 x.sg] A λe w'=>e=.returned (.int .i64 (FC M x.sg))/\dc A w'):=λA=>Fw x.sg hx.sg D;have f:Hid (At j.drew w.heap.size (AD x) BB/\AL j.drew (w.heap.size+1) false M/\dc w j.drew):=⟨n.out.1,n.out.2.1,n.out.2.2.1.drew⟩
 have d2:j.drew.cell? ⟨w.heap.size,2,none⟩=some (.bool false):=by rw[<-z];exact n.out.1.cell 2
 have d3:j.drew.cell? ⟨w.heap.size,3,none⟩=some (.int .i64 (AK x.sg 0)):=n.out.1.cell 3;have d4:j.drew.cell? ⟨w.heap.size,4,none⟩=some (.int .i64 (AK x.sg 1)):=n.out.1.cell 4;have d5:j.drew.cell? ⟨w.heap.size,5,none⟩=some (.int .i64 (AK x.sg 2)):=n.out.1.cell 5;have d6:j.drew.cell? ⟨w.heap.size,6,none⟩=some (.int .i64 (AK x.sg 3)):=n.out.1.cell 6;have r:j.drew.cell? ⟨w.heap.size,7,none⟩=some (.int .i64 x.num):=n.out.1.cell 7;have l:w.heap.size<j.drew.heap.size:=by have:=n.out.1.lt;exact this
 clear n u D;rw[g]at B o s;unfold AD at B o s;unfold B0;rw[C,z]at B o|-;unfold AD at g;rw[C,z]at g;generalize FC M x.sg=gr at *;go_enter func82,ntmps82;go_wp2_with fail;refine wp_region_any (by kernel_rfl) ?_;change wpAny _ _ _ _ _ _ _ (World.drew _);rw[<-g];clear g B o s;generalize j.drew=w2 at *;refine bQ (i:=0) (v:=.pointer (some ⟨w.heap.size,2,none⟩)) rfl (by kernel_rfl) (by kernel_rfl) (by kernel_rfl) (λ_ _ _ h=>h) (b_ ⟨by kernel_rfl,by intro w;go_simp⟩) ?_;refine bI (rs:=[1]) (by kernel_rfl) (by simp) ?_;refine bE rfl (λK c=>?_) bF;go_simp;refine c _ _ ?_;clear c K;refine bQ (i:=2) (v:=.bool true) rfl (by kernel_rfl) (by kernel_rfl) (by kernel_rfl) (λ_ _ _ h=>h) (b_ ⟨by kernel_rfl,by intro w;go_simp⟩) ?_;refine bQ (i:=3) (v:=.bool true) rfl (by kernel_rfl) (by kernel_rfl) (by kernel_rfl) (λ_ _ _ h=>h) (b_ ⟨by kernel_rfl,by intro w;go_simp⟩) ?_;refine bQ (i:=5) (v:=.pointer (some ⟨w.heap.size,3,none⟩)) rfl (by kernel_rfl) (by kernel_rfl) (by kernel_rfl) (λ_ _ _ h=>h) (b_ ⟨by kernel_rfl,by intro w;go_simp⟩) ?_;refine bQ (i:=8) (v:=.pointer (some ⟨w.heap.size,7,none⟩)) rfl (by kernel_rfl) (by kernel_rfl) (by kernel_rfl) (λ_ _ _ h=>h) (b_ ⟨by kernel_rfl,by intro w;go_simp⟩) ?_;refine bI (rs:=[4,6,9]) (by kernel_rfl) (by simp) ?_;refine bE rfl (λK c=>?_) (bE rfl (λK c=>?_) (bE rfl (λK c=>?_) bF))
 .refine Dy (by first|rfl|simp[Region.wanted,yielded]) (.tmp 3) rfl rfl f.out.2.1 ?_;refine c _ _ ?_;clear c K;refine bI (rs:=[6,9]) (by kernel_rfl) (by simp) ?_;refine bE rfl (λK c=>?_) (bE rfl (λK c=>?_) bF)
  .go_simp;refine c _ _ ?_;clear c K;refine bI (rs:=[7,9]) (by kernel_rfl) (by simp) ?_;refine bE rfl (λK c=>?_) (bE rfl (λK c=>?_) bF)
   .go_simp;go_wp2_with (go_at_call 116;refine(k.out _).mono ?_;rintro e d ⟨rfl,a⟩);have m:Hid (dc w d):=f.out.2.2.trans (a.mono f.out.2.2.size);have t:d.cell? ⟨w.heap.size,7,none⟩=some (.int .i64 x.num):=(a.cell (p:=⟨w.heap.size,7,none⟩) l).trans r;clear a;refine bI (rs:=[9]) (by kernel_rfl) (by simp) ?_;refine bE rfl (λK c=>?_) bF;go_simp;refine c _ _ ?_;clear c K;refine bQ (i:=10) (v:=.bool (decide (gr<=x.num))) rfl (by kernel_rfl) (by kernel_rfl) (by kernel_rfl) (λ_ _ _ h=>h) (b_ ⟨by kernel_rfl,by intro w;go_simp⟩) ?_;refine bQ (i:=11) (v:=.bool (decide (gr<=x.num))) rfl (by kernel_rfl) (by kernel_rfl) (by kernel_rfl) (λ_ _ _ h=>h) (b_ ⟨by kernel_rfl,by intro w;go_simp⟩) ?_;refine bQ (i:=12) (v:=.bool (decide (gr<=x.num))) rfl (by kernel_rfl) (by kernel_rfl) (by kernel_rfl) (λ_ _ _ h=>h) (b_ ⟨by kernel_rfl,by intro w;go_simp⟩) ?_;refine cr (by kernel_rfl) ?_ _;go_wp2_with fail;go_ret;exact⟨BM q.out,m.out⟩
   .go_simp;refine c _ _ ?_;clear c K;refine bI (rs:=[7]) (by kernel_rfl) (by simp) ?_;refine bE rfl (λK c=>?_) bF;go_simp;go_wp2_with (go_at_call 116;refine(k.out _).mono ?_;rintro e d ⟨rfl,a⟩);have m:Hid (dc w d):=f.out.2.2.trans (a.mono f.out.2.2.size);have t:d.cell? ⟨w.heap.size,7,none⟩=some (.int .i64 x.num):=(a.cell (p:=⟨w.heap.size,7,none⟩) l).trans r;clear a;refine bQ (i:=10) (v:=.bool (decide (gr<=x.num))) rfl (by kernel_rfl) (by kernel_rfl) (by kernel_rfl) (λ_ _ _ h=>h) (b_ ⟨by kernel_rfl,by intro w;go_simp⟩) ?_;refine bQ (i:=11) (v:=.bool (decide (gr<=x.num))) rfl (by kernel_rfl) (by kernel_rfl) (by kernel_rfl) (λ_ _ _ h=>h) (b_ ⟨by kernel_rfl,by intro w;go_simp⟩) ?_;refine bQ (i:=12) (v:=.bool (decide (gr<=x.num))) rfl (by kernel_rfl) (by kernel_rfl) (by kernel_rfl) (λ_ _ _ h=>h) (b_ ⟨by kernel_rfl,by intro w;go_simp⟩) ?_;refine cr (by kernel_rfl) ?_ _;go_wp2_with fail;go_ret;exact⟨BM q.out,m.out⟩
  .go_simp;refine c _ _ ?_;clear c K;refine bI (rs:=[6]) (by kernel_rfl) (by simp) ?_;refine bE rfl (λK c=>?_) bF;go_simp;refine c _ _ ?_;clear c K;refine bI (rs:=[7]) (by kernel_rfl) (by simp) ?_;refine bE rfl (λK c=>?_) bF;go_simp;go_wp2_with (go_at_call 116;refine(k.out _).mono ?_;rintro e d ⟨rfl,a⟩);have m:Hid (dc w d):=f.out.2.2.trans (a.mono f.out.2.2.size);have t:d.cell? ⟨w.heap.size,7,none⟩=some (.int .i64 x.num):=(a.cell (p:=⟨w.heap.size,7,none⟩) l).trans r;clear a;refine bQ (i:=10) (v:=.bool (decide (gr<=x.num))) rfl (by kernel_rfl) (by kernel_rfl) (by kernel_rfl) (λ_ _ _ h=>h) (b_ ⟨by kernel_rfl,by intro w;go_simp⟩) ?_;refine bQ (i:=11) (v:=.bool (decide (gr<=x.num))) rfl (by kernel_rfl) (by kernel_rfl) (by kernel_rfl) (λ_ _ _ h=>h) (b_ ⟨by kernel_rfl,by intro w;go_simp⟩) ?_;refine bQ (i:=12) (v:=.bool (decide (gr<=x.num))) rfl (by kernel_rfl) (by kernel_rfl) (by kernel_rfl) (λ_ _ _ h=>h) (b_ ⟨by kernel_rfl,by intro w;go_simp⟩) ?_;refine cr (by kernel_rfl) ?_ _;go_wp2_with fail;go_ret;exact⟨BM q.out,m.out⟩
 .go_simp;refine c _ _ ?_;clear c K;refine bI (rs:=[4,9]) (by kernel_rfl) (by simp) ?_;refine bE rfl (λK c=>?_) (bE rfl (λK c=>?_) bF)
  .refine Dy (by first|rfl|simp[Region.wanted,yielded]) (.tmp 3) rfl rfl f.out.2.1 ?_;refine c _ _ ?_;clear c K;refine bI (rs:=[7,9]) (by kernel_rfl) (by simp) ?_;refine bE rfl (λK c=>?_) (bE rfl (λK c=>?_) bF)
   .go_simp;go_wp2_with (go_at_call 116;refine(k.out _).mono ?_;rintro e d ⟨rfl,a⟩);have m:Hid (dc w d):=f.out.2.2.trans (a.mono f.out.2.2.size);have t:d.cell? ⟨w.heap.size,7,none⟩=some (.int .i64 x.num):=(a.cell (p:=⟨w.heap.size,7,none⟩) l).trans r;clear a;refine bI (rs:=[9]) (by kernel_rfl) (by simp) ?_;refine bE rfl (λK c=>?_) bF;go_simp;refine c _ _ ?_;clear c K;refine bQ (i:=10) (v:=.bool (decide (gr<=x.num))) rfl (by kernel_rfl) (by kernel_rfl) (by kernel_rfl) (λ_ _ _ h=>h) (b_ ⟨by kernel_rfl,by intro w;go_simp⟩) ?_;refine bQ (i:=11) (v:=.bool (decide (gr<=x.num))) rfl (by kernel_rfl) (by kernel_rfl) (by kernel_rfl) (λ_ _ _ h=>h) (b_ ⟨by kernel_rfl,by intro w;go_simp⟩) ?_;refine bQ (i:=12) (v:=.bool (decide (gr<=x.num))) rfl (by kernel_rfl) (by kernel_rfl) (by kernel_rfl) (λ_ _ _ h=>h) (b_ ⟨by kernel_rfl,by intro w;go_simp⟩) ?_;refine cr (by kernel_rfl) ?_ _;go_wp2_with fail;go_ret;exact⟨BM q.out,m.out⟩
   .go_simp;refine c _ _ ?_;clear c K;refine bI (rs:=[7]) (by kernel_rfl) (by simp) ?_;refine bE rfl (λK c=>?_) bF;go_simp;go_wp2_with (go_at_call 116;refine(k.out _).mono ?_;rintro e d ⟨rfl,a⟩);have m:Hid (dc w d):=f.out.2.2.trans (a.mono f.out.2.2.size);have t:d.cell? ⟨w.heap.size,7,none⟩=some (.int .i64 x.num):=(a.cell (p:=⟨w.heap.size,7,none⟩) l).trans r;clear a;refine bQ (i:=10) (v:=.bool (decide (gr<=x.num))) rfl (by kernel_rfl) (by kernel_rfl) (by kernel_rfl) (λ_ _ _ h=>h) (b_ ⟨by kernel_rfl,by intro w;go_simp⟩) ?_;refine bQ (i:=11) (v:=.bool (decide (gr<=x.num))) rfl (by kernel_rfl) (by kernel_rfl) (by kernel_rfl) (λ_ _ _ h=>h) (b_ ⟨by kernel_rfl,by intro w;go_simp⟩) ?_;refine bQ (i:=12) (v:=.bool (decide (gr<=x.num))) rfl (by kernel_rfl) (by kernel_rfl) (by kernel_rfl) (λ_ _ _ h=>h) (b_ ⟨by kernel_rfl,by intro w;go_simp⟩) ?_;refine cr (by kernel_rfl) ?_ _;go_wp2_with fail;go_ret;exact⟨BM q.out,m.out⟩
  .go_simp;refine c _ _ ?_;clear c K;refine bI (rs:=[4]) (by kernel_rfl) (by simp) ?_;refine bE rfl (λK c=>?_) bF;refine Dy (by first|rfl|simp[Region.wanted,yielded]) (.tmp 3) rfl rfl f.out.2.1 ?_;refine c _ _ ?_;clear c K;refine bI (rs:=[7]) (by kernel_rfl) (by simp) ?_;refine bE rfl (λK c=>?_) bF;go_simp;go_wp2_with (go_at_call 116;refine(k.out _).mono ?_;rintro e d ⟨rfl,a⟩);have m:Hid (dc w d):=f.out.2.2.trans (a.mono f.out.2.2.size);have t:d.cell? ⟨w.heap.size,7,none⟩=some (.int .i64 x.num):=(a.cell (p:=⟨w.heap.size,7,none⟩) l).trans r;clear a;refine bQ (i:=10) (v:=.bool (decide (gr<=x.num))) rfl (by kernel_rfl) (by kernel_rfl) (by kernel_rfl) (λ_ _ _ h=>h) (b_ ⟨by kernel_rfl,by intro w;go_simp⟩) ?_;refine bQ (i:=11) (v:=.bool (decide (gr<=x.num))) rfl (by kernel_rfl) (by kernel_rfl) (by kernel_rfl) (λ_ _ _ h=>h) (b_ ⟨by kernel_rfl,by intro w;go_simp⟩) ?_;refine bQ (i:=12) (v:=.bool (decide (gr<=x.num))) rfl (by kernel_rfl) (by kernel_rfl) (by kernel_rfl) (λ_ _ _ h=>h) (b_ ⟨by kernel_rfl,by intro w;go_simp⟩) ?_;refine cr (by kernel_rfl) ?_ _;go_wp2_with fail;go_ret;exact⟨BM q.out,m.out⟩
 .go_simp;refine c _ _ ?_;clear c K;refine bI (rs:=[4,6]) (by kernel_rfl) (by simp) ?_;refine bE rfl (λK c=>?_) (bE rfl (λK c=>?_) bF)
  .refine Dy (by first|rfl|simp[Region.wanted,yielded]) (.tmp 3) rfl rfl f.out.2.1 ?_;refine c _ _ ?_;clear c K;refine bI (rs:=[6]) (by kernel_rfl) (by simp) ?_;refine bE rfl (λK c=>?_) bF;go_simp;refine c _ _ ?_;clear c K;refine bI (rs:=[7]) (by kernel_rfl) (by simp) ?_;refine bE rfl (λK c=>?_) bF;go_simp;go_wp2_with (go_at_call 116;refine(k.out _).mono ?_;rintro e d ⟨rfl,a⟩);have m:Hid (dc w d):=f.out.2.2.trans (a.mono f.out.2.2.size);have t:d.cell? ⟨w.heap.size,7,none⟩=some (.int .i64 x.num):=(a.cell (p:=⟨w.heap.size,7,none⟩) l).trans r;clear a;refine bQ (i:=10) (v:=.bool (decide (gr<=x.num))) rfl (by kernel_rfl) (by kernel_rfl) (by kernel_rfl) (λ_ _ _ h=>h) (b_ ⟨by kernel_rfl,by intro w;go_simp⟩) ?_;refine bQ (i:=11) (v:=.bool (decide (gr<=x.num))) rfl (by kernel_rfl) (by kernel_rfl) (by kernel_rfl) (λ_ _ _ h=>h) (b_ ⟨by kernel_rfl,by intro w;go_simp⟩) ?_;refine bQ (i:=12) (v:=.bool (decide (gr<=x.num))) rfl (by kernel_rfl) (by kernel_rfl) (by kernel_rfl) (λ_ _ _ h=>h) (b_ ⟨by kernel_rfl,by intro w;go_simp⟩) ?_;refine cr (by kernel_rfl) ?_ _;go_wp2_with fail;go_ret;exact⟨BM q.out,m.out⟩
  .go_simp;refine c _ _ ?_;clear c K;refine bI (rs:=[4]) (by kernel_rfl) (by simp) ?_;refine bE rfl (λK c=>?_) bF;refine Dy (by first|rfl|simp[Region.wanted,yielded]) (.tmp 3) rfl rfl f.out.2.1 ?_;refine c _ _ ?_;clear c K;refine bI (rs:=[7]) (by kernel_rfl) (by simp) ?_;refine bE rfl (λK c=>?_) bF;go_simp;go_wp2_with (go_at_call 116;refine(k.out _).mono ?_;rintro e d ⟨rfl,a⟩);have m:Hid (dc w d):=f.out.2.2.trans (a.mono f.out.2.2.size);have t:d.cell? ⟨w.heap.size,7,none⟩=some (.int .i64 x.num):=(a.cell (p:=⟨w.heap.size,7,none⟩) l).trans r;clear a;refine bQ (i:=10) (v:=.bool (decide (gr<=x.num))) rfl (by kernel_rfl) (by kernel_rfl) (by kernel_rfl) (λ_ _ _ h=>h) (b_ ⟨by kernel_rfl,by intro w;go_simp⟩) ?_;refine bQ (i:=11) (v:=.bool (decide (gr<=x.num))) rfl (by kernel_rfl) (by kernel_rfl) (by kernel_rfl) (λ_ _ _ h=>h) (b_ ⟨by kernel_rfl,by intro w;go_simp⟩) ?_;refine bQ (i:=12) (v:=.bool (decide (gr<=x.num))) rfl (by kernel_rfl) (by kernel_rfl) (by kernel_rfl) (λ_ _ _ h=>h) (b_ ⟨by kernel_rfl,by intro w;go_simp⟩) ?_;refine cr (by kernel_rfl) ?_ _;go_wp2_with fail;go_ret;exact⟨BM q.out,m.out⟩
theorem O1(x:Ds)(hx:OY x)(r:Sm M):
  Calls prog 82 #[B0 x,.agg (oc e0 M)] w λe w'=>e=.returned (.bool (DF e0 M x))/\dc w w':=by
 obtain⟨g,c⟩:∃g,g=(w.alloc (.cells (AD x) BB)).alloc (.cells (oc e0 M) tO):=⟨_,rfl⟩
 have i:Hid (At g w.heap.size (AD x) BB/\AL g (w.heap.size+1) e0 M/\dc w g/\g.heap.size=w.heap.size+2):=by
  refine⟨by rw[c];exact At.allocH (At.new _ _ _) _,?_,by rw[c];exact((bC _ _).alloc (bB _) _).alloc (by simp) _,by rw[c];simp⟩;have:=At.new (w.alloc (.cells (AD x) BB)) (oc e0 M) tO;rw[show(w.alloc (.cells (AD x) BB)).heap.size=w.heap.size+1 by simp]at this;rw[c];exact this
 have f:g.cell? ⟨w.heap.size+1,0,none⟩=some (.bool e0):=by rw[At.cell i.out.2.1];exact Ib _ _
 have a:=i.out.2.2.1;have d:=i.out.2.1;cases e0 with
 |true=>
  have j:Hid (DF true M x=true):=rfl;clear i;rw[c]at f a d;unfold AD at f a d;unfold B0;clear c;go_enter func82,ntmps82;go_wp2_with fail;go_ret;exact⟨BM j.out,a⟩
 |false=>
 by_cases n:x.kind=0
 .have h:Hid (DF false M x=(x.any||ftB M x.sg x.num)):=by show DF false M x=_;unfold DF;rw[a_ (by decide),bA n]
  cases l:x.any with
  |true=>
   have j:Hid (DF false M x=true):=by show _=true;rw[h.out,l];rfl
   clear i h;rw[c]at f a d;unfold AD at f a d;unfold B0;clear c;rw[n,l]at f a|-;go_enter func82,ntmps82;go_wp2_with fail;go_ret;exact⟨BM j.out,a⟩
  |false=>
   have j:Hid (DF false M x=ftB M x.sg x.num):=by show _=ftB M x.sg x.num;rw[h.out,l];rfl
   obtain⟨q,k⟩:∃q:World->Prop,q=λw'=>dc g w':=⟨_,rfl⟩
   have o:Calls prog 115 #[B0 x,.agg (oc false M)] g λe w'=>e=.returned (.bool (ftB M x.sg x.num))/\q w':=by rw[k];exact Xf x hx r
   rw[c]at o;clear h r;rw[c]at f a d;unfold AD at f a d;unfold B0;unfold B0 AD at o;generalize ftB M x.sg x.num=fb at *;rw[n,l]at f a d o|-;go_enter func82,ntmps82;go_wp2_with (refine Gg (by first|rfl|simp[Region.wanted,yielded]) (.tmp 3) rfl rfl d ?_);refine o.mono ?_;rintro e t ⟨rfl,m⟩;rw[k]at m;have s:Hid (dc w t):=i.out.2.2.1.trans (m.mono i.out.2.2.1.size);clear m k o d a f c;go_wp2_with fail;go_ret;exact⟨BM j.out,s.out⟩
 by_cases p:x.kind=1
 .cases l:x.any with
  |true=>exact S8 x p l
  |false=>exact S7 x hx p l r
 .have j:Hid (DF false M x=true):=by show DF false M x=_;unfold DF;rw[a_ (by decide),a_ n,a_ p]
  have b0:(x.kind==0)=false:=by simpa using n
  have b1:(x.kind==1)=false:=by simpa using p
  clear i;rw[c]at f a d;unfold AD at f a d;unfold B0;clear c n p;go_enter func82,ntmps82;go_wp2_with fail;go_ret;exact⟨BM j.out,a⟩
variable {w':World}{g cap:Nat}{F:List Ds}
theorem TE:∀(F:List Ds)(j o:Nat)(x:Ds),F[j]?=some x->o<10->(GE F)[j*10+o]?=(AD x).toList[o]?:=by
 intro F;induction F with
 |nil=>intro j o x h;simp at h
 |cons y F ih=>
  intro j o x h d;have b:(AD y).toList.length=10:=rfl;show((AD y).toList++GE F)[j*10+o]?=_;cases j with
  |zero=>
   simp at h;subst h;rw[bU (by rw[b];omega)]
   congr 1;omega
  |succ j=>
   rw[List.getElem?_append_right (by rw[b];omega),b];rw[show(j+1)*10+o-10=j*10+o by omega];exact ih j o x (by simpa using h) d
theorem Ee{B n:Nat}(h:w.ownsRow B BB 10 (.slice (some ⟨g,0,none⟩) n cap) n (GE F))(hn:F.length=n)(c:g<w.heap.size):Cc w g F:=by
 refine⟨c,λj x hx=>?_⟩;have hj:j<n:=by
  rw[<-hn];rcases bW j F.length with a|a
  .exact a
  .simp[bO a]at hx
 have hc:∀o,o<10->w.cell? ⟨g,j*10+o,none⟩=(AD x).toList[o]?:=λo d=>by
  rw[h.cellAt (j*10+o) (by omega),TE F j o x hx d]
 exact⟨hc 0 (by omega),hc 1 (by omega),hc 2 (by omega),hc 3 (by omega),hc 4 (by omega),hc 5 (by omega),hc 6 (by omega),hc 7 (by omega),hc 8 (by omega),hc 9 (by omega)⟩
variable {s:ByteArray}{d:Nat×Bool}{m m':Rd}
structure Cl(s:ByteArray)(d:Nat×Bool)(m:Rd):Prop where
 ns:d.2=false
 le:d.1<=s.size
 fd:En CY ((AA s).take d.1)=some m
structure B8(s:ByteArray)(d:Nat×Bool):Prop where
 st:d.2=true
 ex:∃m,En CY ((AA s).take d.1)=some m/\d.1<=s.size/\(d.1<s.size->AM m ((AA s).getD d.1 0)=none)/\(d.1=s.size->BS m=false)
def JV(s:ByteArray)(d:Nat×Bool)(Q:Rd->Prop):Prop:=B8 s d\/∃m',Cl s d m'/\Q m'
theorem JV.mono{Q R:Rd->Prop}(h:JV s d Q)(k:∀m',Cl s d m'->Q m'->R m'):JV s d R:=by
 rcases h with h|⟨m',h,q⟩
 .exact .inl h
 .exact .inr ⟨m',h,k m' h q⟩
theorem Cl.aok(h:Cl s d m):Ok m:=Ok.init.feed h.fd
theorem Cl.apk(h:Cl s d m):pk s d=(AA s).getD d.1 0:=by unfold pk;rw[h.ns];rfl
theorem B8.dpk(h:B8 s d):pk s d=0:=by unfold pk;rw[h.st];rfl
theorem B8.dstk(h:B8 s d):Ez d=d:=by unfold Ez;rw[<-h.st]
theorem Cl.aadv(h:Cl s d m)(z:pk s d≠0)(hb:AM m (pk s d)=some m'):Cl s (BA d) m':=by
 have r:=(DA rfl z).1;refine⟨h.ns,by show d.1+1<=_;omega,?_⟩;show En CY ((AA s).take (d.1+1))=some m';rw[h.apk,bG,Ck s d.1 r]at hb;rw[IG s d.1 r,Lc,h.fd];exact hb
theorem Cl.adead(h:Cl s d m)(hb:AM m (pk s d)=none)(j:d.1=s.size->BS m=false):B8 s (Ez d):=
 ⟨rfl,m,h.fd,h.le,λ_=>by rw[h.apk]at hb;exact hb,j⟩
theorem B8.dnd(h:B8 s d){c:Int}(hc:c≠0):nd s d c=d:=by
 unfold nd;rw[a_ (by rw[h.dpk];exact λe=>hc e.symm)];exact h.dstk
theorem B8.dSign(h:B8 s d):BE s d=(1,d):=by unfold BE;rw[a_ (by rw[h.dpk];decide)]
theorem Ki:CJ 0= -1:=by decide
theorem B8.dVar(h:B8 s d)(x:Int):Bq s d x=(0,d):=by unfold Bq;rw[bA (.inl (by rw[h.dpk];exact Ki)),h.dstk]
theorem B8.dNum(h:B8 s d)(x:Int):Bh s d x=(0,d):=by unfold Bh;rw[a_ (by rw[h.dpk];simp),bA (by rw[h.dpk];decide),h.dstk]
theorem B8.dValue(h:B8 s d)(x:Ds):(Ao s d x).2=d:=by
 unfold Ao;rw[a_ (by rw[h.dpk];decide),h.dSign,bA (by show CJ (pk s d)= -1;rw[h.dpk];exact Ki)];show(Bh s d 1).2=d;rw[h.dNum]
theorem B8.dSecond(h:B8 s d)(x:Ds)(f:Int):(Aw s d x f).2=d:=by unfold Aw;rw[a_ (by rw[h.dpk];decide)]
theorem B8.dCond(h:B8 s d)(x:Ds):(BR s d x).2=d:=by
 unfold BR;rw[a_ (by rw[h.dpk];decide),h.dSign];simp only;rw[h.dVar];simp only;rw[h.dSecond,h.dnd (by decide),h.dnd (by decide),h.dSign];simp only;rw[h.dNum]
theorem Cl.aneed(h:Cl s d m){c:Int}(hc:c≠0)(D:pk s d=c->AM m c=some m')(hn:pk s d≠c->AM m (pk s d)=none)(j:BS m=false):JV s (nd s d c) (λx=>x=m'):=by
 by_cases e:pk s d=c
 .have:nd s d c=BA d:=bA e;rw[this];exact .inr ⟨m',h.aadv (by rw[e];exact hc) (by rw[e];exact D e),rfl⟩
 .have:nd s d c=Ez d:=a_ e;rw[this];exact .inl (h.adead (hn e) (λ_=>j))
theorem CT(h:m.state≠115):BS m=false:=by unfold BS;simp[h]
theorem J1(h:m.state=110)(c:Int):AM m c=if c=59 then some (CW m)else AT m c false 110:=by
 unfold AM AO;rw[h,a_ (by decide),a_ (by decide),bA (by decide),a_ (by decide),a_ (by decide),a_ (by decide),a_ (by decide)]
theorem Cl.valEnd(h:Cl s d m)(hs:m.state=110)(aa:¬(48<=pk s d/\pk s d<=57)\/m.dig=2\/(m.dig=1/\(cur m).num=0)):JV s (nd s d 59) (λx=>x=CW m):=by
 refine h.aneed (by decide) (λ_=>by rw[J1 hs,bA rfl]) (λe=>?_) (CT (by rw[hs];decide));rw[J1 hs,a_ e];simp only[AT];rw[bA hs,bA hs,bA];omega
theorem Gm{c x:Int}{pos:Bool}(hs:m.state≠x)(hc:48<=c/\c<=57)(A:¬(pos=true/\c=48)):AT m c pos x=some {AE m {cur m with num:=c-48}with dig:=1,state:=x}:=by
 simp only[AT]
 rw[a_ hs,a_ hs,a_ (by
  rintro(a|a|a|a|a)
  .omega
  .omega
  .omega
  .omega
  .exact A a)]
 have:(10:Int)*0+(c-48)=c-48:=by omega
 rw[this];rfl
theorem J9{c x u:Int}(hs:m.state=x)(v:m.dig=1)(C:(cur m).num=u)(ab:u≠0)(hc:48<=c/\c<=57):AT m c false x=some {AE m {cur m with num:=10*u+(c-48)}with dig:=2,state:=x}:=by
 simp only[AT]
 rw[bA hs,bA hs,v,C,a_ (by
  rintro(a|a|a|a|a)
  .omega
  .omega
  .omega
  .omega
  .simp at a)]
 rfl
theorem LW{c x:Int}{pos:Bool}(hc:c<48\/57<c\/(pos=true/\c=48)):AT m c pos x=none:=by
 simp only[AT];rw[bA];rcases hc with a|a|a
 .exact .inl a
 .exact .inr (.inl a)
 .exact .inr (.inr (.inr (.inr a)))
theorem Bz(m:Rd)(a b:St):(AE (AE m a) b).st=(AE m b).st:=by simp[AE]
theorem Cl.numVal(h:Cl s d m){m0:Rd}{pos:Bool}{sg:Int}(hb:AM m (pk s d)=AT m0 (pk s d) pos 110)(hs:m0.state≠110)(hn:0<m0.st.length)(l:(sg=1/\pos=false)\/(sg= -1/\pos=true))(j:BS m=false):
  JV s (nd s (Bh s d sg).2 59) (λx=>x.state=115/\x.op=m0.op/\x.st=(AE m0 {cur m0 with num:=m0.sign*(sg*(Bh s d sg).1)}).st):=by
 have t:∀n:Int,sg*(sg*n)=n:=by
  intro n;rcases l with⟨rfl,_⟩|⟨rfl,_⟩<;>omega
 have i:=CD hn;by_cases hz:pk s d=48/\0<sg
 .have e:Bh s d sg=(0,BA d):=bA hz;rw[e];have A:pos=false:=by
   rcases l with h|h
   .exact h.2
   .omega
  rw[Gm hs (by omega) (by rw[A];simp)]at hb;have h1:=h.aadv (by omega) hb;refine(h1.valEnd rfl (.inr (.inr ⟨rfl,?_⟩))).mono ?_
  .show(cur (AE m0 _)).num=0;rw[i];show pk s d-48=0;omega
  .rintro m'-rfl;refine⟨rfl,rfl,?_⟩;show(AE (AE m0 _) _).st=_;rw[Bz];show(AE m0 {cur (AE m0 _)with num:=m0.sign*(cur (AE m0 _)).num}).st=_;rw[i];have:pk s d-48=0:=by omega
   simp only[this];simp
 by_cases g:pk s d<49\/57<pk s d
 .have e:Bh s d sg=(0,Ez d):=by unfold Bh;rw[a_ hz,bA g]
  rw[e];have v:B8 s (Ez d):=by
   refine h.adead ?_ (λ_=>j);rw[hb];refine LW ?_;by_cases o:pk s d=48
   .refine .inr (.inr ⟨?_,o⟩);rcases l with B|B
    .exact absurd ⟨o,by omega⟩ hz
    .exact B.2
   .omega
  show JV s (nd s (Ez d) 59) _;rw[v.dnd (by decide)];exact .inl v
 rw[Gm hs (by omega) (by omega)]at hb;have h1:=h.aadv (by omega) hb;have y:(cur {AE m0 {cur m0 with num:=pk s d-48}with dig:=1,state:=110}).num=pk s d-48:=by
  show(cur (AE m0 _)).num=_;rw[i]
 by_cases h2:48<=pk s (BA d)/\pk s (BA d)<=57
 .have e:Bh s d sg=(sg*(10*(pk s d-48)+(pk s (BA d)-48)),BA (BA d)):=by unfold Bh;rw[a_ hz,a_ g,bA h2]
  rw[e];have p:=J1 (m:={AE m0 {cur m0 with num:=pk s d-48}with dig:=1,state:=110}) rfl (pk s (BA d));rw[a_ (by omega),J9 rfl rfl y (by omega) h2]at p;have h3:=h1.aadv (by omega) p;refine(h3.valEnd rfl (.inr (.inl rfl))).mono ?_;rintro m'-rfl;refine⟨rfl,rfl,?_⟩;have w:0<(AE m0 {cur m0 with num:=pk s d-48}).st.length:=by rw[BV];exact hn
  show(AE (AE (AE m0 _) _) {cur (AE (AE m0 _) _)with num:=m0.sign*(cur (AE (AE m0 _) _)).num}).st=_;rw[Bz,Bz,CD w];show(AE m0 {cur (AE m0 {cur m0 with num:=pk s d-48})with num:=m0.sign*(10*(pk s d-48)+(pk s (BA d)-48))}).st=_;rw[i,t]
 .have e:Bh s d sg=(sg*(pk s d-48),BA d):=by unfold Bh;rw[a_ hz,a_ g,a_ h2]
  rw[e];refine(h1.valEnd rfl (.inl h2)).mono ?_;rintro m'-rfl;refine⟨rfl,rfl,?_⟩;show(AE (AE m0 _) {cur (AE m0 _)with num:=m0.sign*(cur (AE m0 _)).num}).st=_;rw[Bz,i,t]
theorem QJ(h:m.state=59)(c:Int):AM m c=if c=59 then some {m with state:=115}else none:=by
 rw[Hh (.inl h)];unfold Ac;rw[bA h]
theorem Sn(h:m.state=118)(c:Int):AM m c=if c=42 then some {AE m {cur m with star:=true}with state:=59}else if c=45 then some {m with sign:= -1,state:=86}else if 97<=c/\c<=100 then some (Bp m (c-97).toNat 1 120)else AT {m with sign:=1} c false 110:=by
 rw[El (.inl h)];unfold AO;rw[bA h]
theorem Va(h:m.state=86)(c:Int):AM m c=if 97<=c/\c<=100 then some (Bp m (c-97).toNat m.sign 120)else AT m c true 110:=by
 rw[El (.inr (.inl h))];unfold AO;rw[h,a_ (by decide),bA rfl]
theorem So(h:m.state=120)(c:Int):AM m c=if c=43 then some {m with sign:=1,state:=121}else if c=45 then some {m with sign:= -1,state:=121}else if c=59 then some (CW m)else none:=by
 rw[El (.inr (.inr (.inl h)))];unfold AO;rw[h,a_ (by decide),a_ (by decide),bA rfl]
theorem NV(h:m.state=121)(c:Int):AM m c=AT m c false 110:=by
 rw[El (.inr (.inr (.inr (.inl h))))];unfold AO;rw[h,a_ (by decide),a_ (by decide),a_ (by decide),bA rfl]
theorem QL(h:m.state=61)(c:Int):AM m c=if c=61 then some {m with state:=118}else none:=by
 unfold AM;rw[h,a_ (by decide),bA rfl]
theorem Dj{c:Int}(h:97<=c/\c<=100):CJ c=c-97:=bA h
theorem Ff{c:Int}(h:¬(97<=c/\c<=100)):CJ c= -1:=a_ h
theorem Ik{a b:Rd}(h:a.st=b.st)(u:St):(AE a u).st=(AE b u).st:=by unfold AE;simp only;rw[h]
theorem S3{a b:Rd}(h:a.st=b.st):cur a=cur b:=by unfold cur;rw[h]
theorem Cl.summand(h:Cl s d m)(hs:m.state=120)(hz:(cur m).num=0):
  JV s (nd s (Az s d).2 59) (λx=>x.state=115/\x.op=m.op/\x.st=(AE m {cur m with num:=(Az s d).1}).st):=by
 have hn:0<m.st.length:=h.aok.some_ (by rw[hs];decide);have hb:=So hs (pk s d);have p:=CT (m:=m) (by rw[hs];decide);by_cases i:pk s d=43
 .have e:Az s d=Bh s (BA d) 1:=bA i;rw[e];rw[bA i]at hb;have h1:=h.aadv (by omega) hb;refine(h1.numVal (m0:={m with sign:=1,state:=121}) (pos:=false) (sg:=1) (NV rfl _) (by decide:(121:Int)≠110) hn (.inl ⟨rfl,rfl⟩) (CT (by decide:(121:Int)≠115))).mono ?_;rintro x-⟨a,b,c⟩;refine⟨a,b,c.trans ?_⟩;show(AE m {cur m with num:=1*(1*_)}).st=_;rw[Int.one_mul,Int.one_mul]
 by_cases f:pk s d=45
 .have e:Az s d=(-(Bh s (BA d) 1).1,(Bh s (BA d) 1).2):=by unfold Az;rw[a_ i,bA f]
  rw[e];rw[a_ i,bA f]at hb;have h1:=h.aadv (by omega) hb;refine(h1.numVal (m0:={m with sign:= -1,state:=121}) (pos:=false) (sg:=1) (NV rfl _) (by decide:(121:Int)≠110) hn (.inl ⟨rfl,rfl⟩) (CT (by decide:(121:Int)≠115))).mono ?_;rintro x-⟨a,b,c⟩;refine⟨a,b,c.trans ?_⟩;show(AE m {cur m with num:= -1*(1*_)}).st=_;rw[Int.one_mul,Int.neg_mul,Int.one_mul]
 .have e:Az s d=(0,d):=by unfold Az;rw[a_ i,a_ f]
  rw[e];rw[a_ i,a_ f]at hb;refine(h.aneed (m':=CW m) (by decide) (λe=>by rw[e,bA rfl]at hb;exact hb) (λe=>by rw[a_ e]at hb;exact hb) p).mono ?_;rintro x-rfl;refine⟨rfl,rfl,?_⟩;show(AE m {cur m with num:=m.sign*(cur m).num}).st=_;rw[hz,Int.mul_zero]
theorem Cl.value(h:Cl s d m)(hs:m.state=118)(hz:(cur m).num=0)(x:Ds)(hx:x.any=false/\x.sg=(cur m).sg/\x.num=0/\(cur m).star=false):
  JV s (nd s (Ao s d x).2 59) (λy=>y.state=115/\y.op=m.op/\y.st=(AE m {cur m with star:=(Ao s d x).1.any,sg:=(Ao s d x).1.sg,num:=(Ao s d x).1.num}).st):=by
 have hn:0<m.st.length:=h.aok.some_ (by rw[hs];decide);have hb:=Sn hs (pk s d);have p:=CT (m:=m) (by rw[hs];decide);obtain⟨aa,k,r,o⟩:=hx;have n:=CD hn;by_cases g:pk s d=42
 .have e:Ao s d x=({x with any:=true},BA d):=bA g;rw[e];rw[bA g]at hb;have h1:=h.aadv (by omega) hb;refine(h1.aneed (c:=59) (m':={AE m {cur m with star:=true}with state:=115}) (by decide) (λe=>by rw[QJ rfl,bA rfl]) (λe=>by rw[QJ rfl,a_ e]) (CT (by decide:(59:Int)≠115))).mono ?_;rintro y-rfl;refine⟨rfl,rfl,?_⟩;show(AE m {cur m with star:=true}).st=(AE m {cur m with star:=true,sg:=x.sg,num:=x.num}).st;rw[k,r,<-hz]
 rw[a_ g]at hb;by_cases f:pk s d=45
 .rw[bA f]at hb;have h1:=h.aadv (by omega) hb;have q:BE s d=(-1,BA d):=bA f;have l:=Va (m:={m with sign:= -1,state:=86}) rfl (pk s (BA d));by_cases j:97<=pk s (BA d)/\pk s (BA d)<=100
  .have ev:Bq s (BA d) (-1)=(pk s (BA d)-97,BA (BA d)):=by unfold Bq;rw[Dj j,a_ (by omega)]
   have e:Ao s d x=({x with any:=false,sg:=x.sg.set (pk s (BA d)-97).toNat (-1),num:=(Az s (BA (BA d))).1},(Az s (BA (BA d))).2):=by
    unfold Ao;rw[a_ g,q,a_ (by show CJ (pk s (BA d))≠ -1;rw[Dj j];omega)];simp only;rw[ev]
   rw[e];rw[bA j]at l;have h2:=h1.aadv (by omega) l;refine(h2.summand rfl (by show(cur (AE m _)).num=0;rw[n];exact hz)).mono ?_;rintro y-⟨a,b,c⟩;refine⟨a,b,c.trans ?_⟩;show(AE (AE m _) {cur (AE m _)with num:=_}).st=_;rw[Bz,n];show(AE m {cur m with sg:=(cur m).sg.set _ (-1),num:=_}).st=(AE m {cur m with star:=false,sg:=x.sg.set _ (-1),num:=_}).st;rw[k,<-o]
  .have e:Ao s d x=({x with any:=false,num:=(Bh s (BA d) (-1)).1},(Bh s (BA d) (-1)).2):=by
    unfold Ao;rw[a_ g,q,bA (Ff j)]
   rw[e];rw[a_ j]at l;refine(h1.numVal (m0:={m with sign:= -1,state:=86}) (pos:=true) (sg:= -1) l (by decide:(86:Int)≠110) hn (.inr ⟨rfl,rfl⟩) (CT (by decide:(86:Int)≠115))).mono ?_;rintro y-⟨a,b,c⟩;refine⟨a,b,c.trans ?_⟩;show(AE m {cur m with num:= -1*(-1*_)}).st=(AE m {cur m with star:=false,sg:=x.sg,num:=_}).st;rw[k,<-o,Int.neg_mul,Int.neg_mul,Int.one_mul,Int.one_mul,Int.neg_neg]
 .rw[a_ f]at hb;have q:BE s d=(1,d):=a_ f;by_cases j:97<=pk s d/\pk s d<=100
  .have ev:Bq s d (-1)=(pk s d-97,BA d):=by unfold Bq;rw[Dj j,a_ (by omega)]
   have e:Ao s d x=({x with any:=false,sg:=x.sg.set (pk s d-97).toNat 1,num:=(Az s (BA d)).1},(Az s (BA d)).2):=by
    unfold Ao;rw[a_ g,q,a_ (by show CJ (pk s d)≠ -1;rw[Dj j];omega)];simp only;rw[ev]
   rw[e];rw[bA j]at hb;have h2:=h.aadv (by omega) hb;refine(h2.summand rfl (by show(cur (AE m _)).num=0;rw[n];exact hz)).mono ?_;rintro y-⟨a,b,c⟩;refine⟨a,b,c.trans ?_⟩;show(AE (AE m _) {cur (AE m _)with num:=_}).st=_;rw[Bz,n];show(AE m {cur m with sg:=(cur m).sg.set _ 1,num:=_}).st=(AE m {cur m with star:=false,sg:=x.sg.set _ 1,num:=_}).st;rw[k,<-o]
  .have e:Ao s d x=({x with any:=false,num:=(Bh s d 1).1},(Bh s d 1).2):=by
    unfold Ao;rw[a_ g,q,bA (Ff j)]
   rw[e];rw[a_ j]at hb;refine(h.numVal (m0:={m with sign:=1}) (pos:=false) (sg:=1) hb (by show m.state≠110;rw[hs];decide) hn (.inl ⟨rfl,rfl⟩) p).mono ?_;rintro y-⟨a,b,c⟩;refine⟨a,b,c.trans ?_⟩;show(AE m {cur m with num:=1*(1*_)}).st=(AE m {cur m with star:=false,sg:=x.sg,num:=_}).st;rw[k,<-o,Int.one_mul,Int.one_mul]
def D6(m:Rd):List Bk:=if(cur m).kind=33 then m.op else m.op++[⟨m.st.length-1,false⟩]
theorem DG(m:Rd):AG m≠0/\AG m≠115:=by
 rcases Dh m with e|e<;>rw[e]<;>decide
theorem Lm{a:Rd}(hs:a.state=AG m)(hk:(cur m).kind=33\/a.op.length≠4):∃y,Ac a (AG m)=some y/\y.state=115/\y.st=a.st/\y.op=(if(cur m).kind=33 then a.op else a.op++[⟨a.st.length-1,false⟩]):=by
 unfold Ac;by_cases e:(cur m).kind=33
 .have j:AG m=59:=bA e;rw[bA (by rw[hs,j]),bA j];exact⟨_,rfl,rfl,rfl,by rw[bA e]⟩
 .have j:AG m=123:=a_ e;rw[a_ (by rw[hs,j];decide),a_ (by rw[j];exact λh=>h.elim (λh=>h rfl) (λh=>hk.elim e (λk=>k h)))];exact⟨_,rfl,rfl,rfl,by rw[a_ e]⟩
theorem N7{a:Rd}(hs:a.state=AG m){c:Int}(hc:c≠AG m):Ac a c=none:=by
 unfold Ac;rcases Dh m with e|e
 .rw[bA (by rw[hs,e]),a_ (by rw[<-e];exact hc)]
 .rw[a_ (by rw[hs,e];decide),bA (.inl (by rw[<-e];exact hc))]
def PH(m:Rd):Int:=if m.neg then -(cur m).num else(cur m).num
theorem NU(h:m.state=109)(c:Int):AM m c=if c=59\/c=123 then Ac {AE m {cur m with num:=PH m}with state:=AG m} c else AT m c false 109:=by
 rw[Cd (by rw[h];decide)];unfold AF;rw[h,a_ (by decide),a_ (by decide),a_ (by decide),a_ (by decide),a_ (by decide),a_ (by decide),a_ (by decide),a_ (by decide),bA rfl];rfl
theorem Cl.condEnd(h:Cl s d m)(hs:m.state=109)(hk:(cur m).kind=33\/m.op.length≠4)(aa:¬(48<=pk s d/\pk s d<=57)\/m.dig=2\/(m.dig=1/\(cur m).num=0)):
  JV s (nd s d (AG m)) (λx=>x.state=115/\x.st=(AE m {cur m with num:=PH m}).st/\x.op=D6 m):=by
 have hn:0<m.st.length:=h.aok.some_ (by rw[hs];decide);have hb:=NU hs (pk s d);obtain⟨y,E,F,G,H⟩:=Lm (m:=m) (a:={AE m {cur m with num:=PH m}with state:=AG m}) rfl hk;refine(h.aneed (m':=y) (DG m).1 (λe=>?_) (λe=>?_) (CT (by rw[hs];decide))).mono ?_
 .rw[e,bA (Dh m),E]at hb;exact hb
 .rw[hb];by_cases e2:pk s d=59\/pk s d=123
  .rw[bA e2];exact N7 rfl e
  .rw[a_ e2];simp only[AT];rw[bA hs,bA hs,bA];omega
 .rintro x-rfl;refine⟨F,G,?_⟩;rw[H];unfold D6;show(if(cur m).kind=33 then m.op else m.op++[⟨(AE m _).st.length-1,false⟩])=_;rw[BV]
theorem Cl.numCond(h:Cl s d m){pos:Bool}{sg:Int}(hb:AM m (pk s d)=AT m (pk s d) pos 109)(hs:m.state≠109/\m.state≠115)(hk:(cur m).kind=33\/m.op.length≠4)(l:(sg=1/\pos=false/\m.neg=false)\/(sg= -1/\pos=true/\m.neg=true)):
  JV s (nd s (Bh s d sg).2 (AG m)) (λx=>x.state=115/\x.st=(AE m {cur m with num:=(Bh s d sg).1}).st/\x.op=D6 m):=by
 have hn:0<m.st.length:=h.aok.some_ hs.2;have i:∀n:Int,(if m.neg then -n else n)=sg*n:=by
  intro n;rcases l with⟨rfl,_,e⟩|⟨rfl,_,e⟩<;>rw[e]<;>simp
 have f:=CD hn;have q:∀u:St,u.kind=(cur m).kind->AG (AE m u)=AG m:=λu A=>by unfold AG;rw[f,A]
 have r:∀u:St,u.kind=(cur m).kind->D6 (AE m u)=D6 m:=λu A=>by unfold D6;rw[f,A,BV];rfl
 by_cases hz:pk s d=48/\0<sg
 .have e:Bh s d sg=(0,BA d):=bA hz;rw[e];have D:pos=false:=by
   rcases l with h|h
   .exact h.2.1
   .omega
  rw[Gm hs.1 (by omega) (by rw[D];simp)]at hb;have h1:=h.aadv (by omega) hb;have e0:pk s d-48=0:=by omega
  have h2:=h1.condEnd rfl (by show(cur (AE m _)).kind=33\/_;rw[f];exact hk) (.inr (.inr ⟨rfl,by show(cur (AE m _)).num=0;rw[f];exact e0⟩));have j:AG {AE m {cur m with num:=pk s d-48}with dig:=1,state:=109}=AG m:=q {cur m with num:=pk s d-48} rfl;rw[j]at h2;refine h2.mono ?_;rintro x-⟨a,b,c⟩;refine⟨a,b.trans ?_,c.trans (r {cur m with num:=pk s d-48} rfl)⟩;show(AE (AE m _) {cur (AE m _)with num:=if m.neg then -(cur (AE m _)).num else(cur (AE m _)).num}).st=_;rw[Bz,f,i,e0,Int.mul_zero]
 by_cases g:pk s d<49\/57<pk s d
 .have e:Bh s d sg=(0,Ez d):=by unfold Bh;rw[a_ hz,bA g]
  rw[e];have C:B8 s (Ez d):=by
   refine h.adead ?_ (λ_=>CT hs.2);rw[hb];refine LW ?_;by_cases o:pk s d=48
   .refine .inr (.inr ⟨?_,o⟩);rcases l with B|B
    .exact absurd ⟨o,by omega⟩ hz
    .exact B.2.1
   .omega
  show JV s (nd s (Ez d) _) _;rw[C.dnd (DG m).1];exact .inl C
 rw[Gm hs.1 (by omega) (by omega)]at hb;have h1:=h.aadv (by omega) hb;have j:AG {AE m {cur m with num:=pk s d-48}with dig:=1,state:=109}=AG m:=q {cur m with num:=pk s d-48} rfl;by_cases h2:48<=pk s (BA d)/\pk s (BA d)<=57
 .have e:Bh s d sg=(sg*(10*(pk s d-48)+(pk s (BA d)-48)),BA (BA d)):=by unfold Bh;rw[a_ hz,a_ g,bA h2]
  rw[e];have z:(cur {AE m {cur m with num:=pk s d-48}with dig:=1,state:=109}).num=pk s d-48:=by
   show(cur (AE m _)).num=_;rw[f]
  have p:=NU (m:={AE m {cur m with num:=pk s d-48}with dig:=1,state:=109}) rfl (pk s (BA d));rw[a_ (by omega),J9 rfl rfl z (by omega) h2]at p;have h3:=h1.aadv (by omega) p;have w:0<(AE m {cur m with num:=pk s d-48}).st.length:=by rw[BV];exact hn
  have t:cur (AE (AE m {cur m with num:=pk s d-48}) {cur (AE m {cur m with num:=pk s d-48})with num:=10*(pk s d-48)+(pk s (BA d)-48)})={cur m with num:=10*(pk s d-48)+(pk s (BA d)-48)}:=by
   rw[CD w,f]
  have h4:=h3.condEnd rfl (by show(cur (AE (AE m {cur m with num:=pk s d-48}) {cur (AE m {cur m with num:=pk s d-48})with num:=_})).kind=33\/_;rw[t];exact hk) (.inr (.inl rfl));have v:AG {AE {AE m {cur m with num:=pk s d-48}with dig:=1,state:=109} {cur {AE m {cur m with num:=pk s d-48}with dig:=1,state:=109}with num:=10*(pk s d-48)+(pk s (BA d)-48)}with dig:=2,state:=109}=AG m:=by
   show AG (AE (AE m _) {cur (AE m _)with num:=_})=_;unfold AG;rw[t]
  rw[v]at h4;refine h4.mono ?_;rintro x-⟨a,b,c⟩;refine⟨a,b.trans ?_,c.trans ?_⟩
  .show(AE (AE (AE m _) {cur (AE m _)with num:=_}) {cur (AE (AE m _) {cur (AE m _)with num:=_})with num:=if m.neg then -(cur (AE (AE m _) {cur (AE m _)with num:=_})).num else(cur (AE (AE m _) {cur (AE m _)with num:=_})).num}).st=_;rw[Bz,Bz,t,i]
  .show D6 (AE (AE m _) {cur (AE m _)with num:=_})=_;unfold D6;rw[t,BV,BV];rfl
 .have e:Bh s d sg=(sg*(pk s d-48),BA d):=by unfold Bh;rw[a_ hz,a_ g,a_ h2]
  rw[e];have h3:=h1.condEnd rfl (by show(cur (AE m _)).kind=33\/_;rw[f];exact hk) (.inl h2);rw[j]at h3;refine h3.mono ?_;rintro x-⟨a,b,c⟩;refine⟨a,b.trans ?_,c.trans (r {cur m with num:=pk s d-48} rfl)⟩;show(AE (AE m _) {cur (AE m _)with num:=if m.neg then -(cur (AE m _)).num else(cur (AE m _)).num}).st=_;rw[Bz,f,i]
end Go.Proofs.YtffajooegiempaaGreatDoor
