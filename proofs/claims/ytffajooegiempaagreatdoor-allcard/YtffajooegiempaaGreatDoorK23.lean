import Derived.Test.YtffajooegiempaaGreatDoorK22
set_option maxRecDepth 100000
set_option maxHeartbeats 6400000
namespace Go.Proofs.YtffajooegiempaaGreatDoor
open Go.RowKit Go.Proofs.Tryz
variable {w:World}{e0:Bool}{M:Nat->Int}
theorem S6(x:Ds)(hx:OY x)(J:¬x.kind=0)(Q:x.any=false)(s:Int)(U:¬s=0)(S:∀k,k<64-> -20000000000<=M k/\M k<=1000000):
  Calls prog 80 #[B0 x,.int .i64 s,.agg (oc false M)] w λe w'=>e=.returned (.agg (oc (CA false M x s) (CE false M x s)))/\dc w w':=by
 have hz:=Bn;obtain⟨e0,aa⟩:∃e0:Bool,e0=false:=⟨_,rfl⟩
 rw[<-aa];obtain⟨A,n⟩:∃A,A=((w.alloc (.cells (AD x) BB)).alloc (.cells (oc e0 M) tO)).alloc (.cells (oc false λ_=>0) tO):=⟨_,rfl⟩
 have B:Hid (At A w.heap.size (AD x) BB/\AL A (w.heap.size+1) e0 M/\AL A (w.heap.size+2) false (λ_=>0)/\dc w A/\A.heap.size=w.heap.size+3):=by
  refine⟨by rw[n];exact At.allocH (At.allocH (At.new _ _ _) _) _,?_,?_,by rw[n];exact(((bC _ _).alloc (bB _) _).alloc (by simp) _).alloc (by simp;omega) _,by rw[n];simp⟩
  .have:=At.allocH (At.new (w.alloc (.cells (AD x) BB)) (oc e0 M) tO) (.cells (oc false λ_=>0) tO);rw[show(w.alloc (.cells (AD x) BB)).heap.size=w.heap.size+1 by simp]at this;rw[n];exact this
  .have:=At.new ((w.alloc (.cells (AD x) BB)).alloc (.cells (oc e0 M) tO)) (oc false λ_=>0) tO;rw[show((w.alloc (.cells (AD x) BB)).alloc (.cells (oc e0 M) tO)).heap.size=w.heap.size+2 by simp]at this;rw[n];exact this
 have y:=B.out.2.1;have L:A.cell? ⟨w.heap.size+1,0,none⟩=some (.bool e0):=by rw[At.cell B.out.2.1];exact Ib _ _
 subst aa;obtain⟨n1,n2⟩:=hx.num;have ab:=hx.sg;have F:Hid (∀O,Calls prog 114 #[v4 x.sg] O λe w'=>e=.returned (v4 (Dv x.sg))/\dc O w'):=λO=>Ng x.sg hx.sg;have Z:Hid (CA false M x s=GJ false M (Dv x.sg) (-x.num-1)/\CE false M x s=E5 false M (Dv x.sg) (-x.num-1)):=by
  refine⟨?_,?_⟩
  .unfold CA;rw[a_ (by decide),a_ J,Q,a_ (by decide),a_ U]
  .unfold CE;rw[a_ (by decide),a_ J,Q,a_ (by decide),a_ U]
 obtain⟨C,Y⟩:∃C,C=GJ false M (Dv x.sg) (-x.num-1):=⟨_,rfl⟩
 obtain⟨D,X⟩:∃D,D=E5 false M (Dv x.sg) (-x.num-1):=⟨_,rfl⟩
 have u:Hid (CA false M x s=C/\CE false M x s=D):=by rw[Y,X];exact Z.out
 have E:Hid (∀O,Calls prog 113 #[.agg (oc false M),v4 (Dv x.sg),.int .i64 (-x.num-1)] O λe w'=>e=.returned (.agg (oc C D))/\dc O w'):=λO=>by
  rw[Y,X];exact N0 S (Dv x.sg) (DJ hx.sg) (-x.num-1) ⟨by omega,by omega⟩
 have g:Hid (At A.drew w.heap.size (AD x) BB/\AL A.drew (w.heap.size+1) false M/\AL A.drew (w.heap.size+2) false (λ_=>0)/\dc w A.drew):=⟨B.out.1,B.out.2.1,B.out.2.2.1,B.out.2.2.2.1.drew⟩
 have d3:A.drew.cell? ⟨w.heap.size,3,none⟩=some (.int .i64 (AK x.sg 0)):=B.out.1.cell 3;have d4:A.drew.cell? ⟨w.heap.size,4,none⟩=some (.int .i64 (AK x.sg 1)):=B.out.1.cell 4;have d5:A.drew.cell? ⟨w.heap.size,5,none⟩=some (.int .i64 (AK x.sg 2)):=B.out.1.cell 5;have d6:A.drew.cell? ⟨w.heap.size,6,none⟩=some (.int .i64 (AK x.sg 3)):=B.out.1.cell 6;have P:A.drew.cell? ⟨w.heap.size,7,none⟩=some (.int .i64 x.num):=B.out.1.cell 7;have t:w.heap.size<A.drew.heap.size:=by have:=B.out.1.lt;exact this
 have ac:IntKind.i64.wrap (-x.num)= -x.num:=by rw[cS];omega
 have ad:IntKind.i64.wrap (-x.num-1)= -x.num-1:=by rw[cS];omega
 have b0:(x.kind==0)=false:=by simpa using J
 have b1:(s==0)=false:=by simpa using U
 rw[n]at L;unfold AD at L n;unfold B0;rw[Q]at L n|-;clear Z S Y X B J U y hx ab;go_enter func80,ntmps80;go_wp2_with fail;refine wp_region_any (by kernel_rfl) ?_;change wpAny _ _ _ _ _ _ _ (World.drew _);rw[<-n];clear n L;generalize A.drew=w2 at *;refine bQ (i:=1) (v:=.pointer (some ⟨w.heap.size,3,none⟩)) rfl (by kernel_rfl) (by kernel_rfl) (by kernel_rfl) (λ_ _ _ h=>h) (b_ ⟨by kernel_rfl,by intro w;go_simp⟩) ?_;refine bQ (i:=4) (v:=.pointer (some ⟨w.heap.size,7,none⟩)) rfl (by kernel_rfl) (by kernel_rfl) (by kernel_rfl) (λ_ _ _ h=>h) (b_ ⟨by kernel_rfl,by intro w;go_simp⟩) ?_;refine bI (rs:=[0,2,5]) (by kernel_rfl) (by simp) ?_;refine bE rfl (λK c=>?_) (bE rfl (λK c=>?_) (bE rfl (λK c=>?_) bF))
 .refine AX rfl (.tmp 5) rfl rfl g.out.2.1 ?_;refine c _ _ ?_;clear c K;refine bI (rs:=[2,5]) (by kernel_rfl) (by simp) ?_;refine bE rfl (λK c=>?_) (bE rfl (λK c=>?_) bF)
  .go_simp;refine c _ _ ?_;clear c K;refine bI (rs:=[3,5]) (by kernel_rfl) (by simp) ?_;refine bE rfl (λK c=>?_) (bE rfl (λK c=>?_) bF)
   .go_simp;go_wp2_with (go_at_call 114;refine(F.out _).mono ?_;rintro e j ⟨rfl,a⟩);have l:Hid (AL j (w.heap.size+1) false M/\AL j (w.heap.size+2) false (λ_=>0)/\dc w j):=⟨At.keep g.out.2.1 a (At.lt g.out.2.1),At.keep g.out.2.2.1 a (At.lt g.out.2.2.1),g.out.2.2.2.trans (a.mono g.out.2.2.2.size)⟩
    have R:j.cell? ⟨w.heap.size,7,none⟩=some (.int .i64 x.num):=(a.cell (p:=⟨w.heap.size,7,none⟩) t).trans P;have H:w.heap.size<j.heap.size:=bM t a.size;clear a;refine bI (rs:=[5]) (by kernel_rfl) (by simp) ?_;refine bE rfl (λK c=>?_) bF;go_simp;refine c _ _ ?_;clear c K;refine bQ (i:=6) (v:=.int .i64 (-x.num)) rfl (by kernel_rfl) (by kernel_rfl) (by kernel_rfl) (λ_ _ _ h=>h) (b_ ⟨by kernel_rfl,by intro w;go_simp⟩) ?_;refine bQ (i:=7) (v:=.int .i64 (-x.num-1)) rfl (by kernel_rfl) (by kernel_rfl) (by kernel_rfl) (λ_ _ _ h=>h) (b_ ⟨by kernel_rfl,by intro w;go_simp⟩) ?_;refine bI (rs:=[8]) (by kernel_rfl) (by simp) ?_;refine bE rfl (λK c=>?_) bF;go_simp;go_wp2_with (go_at_call 113;refine(E.out _).mono ?_;rintro e z ⟨rfl,d⟩);have o:Hid (AL z (w.heap.size+2) false (λ_=>0)/\dc w z):=⟨At.keep l.out.2.1 d (At.lt l.out.2.1),l.out.2.2.trans (d.mono l.out.2.2.size)⟩
    clear d;obtain⟨r,m,b,f⟩:=Al o.out.1 C D;have q:Hid (AL r (w.heap.size+2) C D/\dc w r):=⟨b,o.out.2.trans (f.below (by omega) o.out.2.size)⟩
    clear b f;refine bI (rs:=[9]) (by kernel_rfl) (by simp) ?_;refine bE rfl (λK c=>?_) bF;go_simp;refine c _ _ ?_;clear c K;refine cr (by kernel_rfl) ?_ _;go_wp2_with fail;try simp only[Exit.inBlock,Exit.then]
    refine bJ (Ag rfl _ rfl q.out.1) rfl ?_;exact⟨by rw[u.out.1,u.out.2],q.out.2⟩
   .go_simp;refine c _ _ ?_;clear c K;refine bQ (i:=6) (v:=.int .i64 (-x.num)) rfl (by kernel_rfl) (by kernel_rfl) (by kernel_rfl) (λ_ _ _ h=>h) (b_ ⟨by kernel_rfl,by intro w;go_simp⟩) ?_;refine bQ (i:=7) (v:=.int .i64 (-x.num-1)) rfl (by kernel_rfl) (by kernel_rfl) (by kernel_rfl) (λ_ _ _ h=>h) (b_ ⟨by kernel_rfl,by intro w;go_simp⟩) ?_;refine bI (rs:=[3]) (by kernel_rfl) (by simp) ?_;refine bE rfl (λK c=>?_) bF;go_simp;go_wp2_with (go_at_call 114;refine(F.out _).mono ?_;rintro e j ⟨rfl,a⟩);have l:Hid (AL j (w.heap.size+1) false M/\AL j (w.heap.size+2) false (λ_=>0)/\dc w j):=⟨At.keep g.out.2.1 a (At.lt g.out.2.1),At.keep g.out.2.2.1 a (At.lt g.out.2.2.1),g.out.2.2.2.trans (a.mono g.out.2.2.2.size)⟩
    have R:j.cell? ⟨w.heap.size,7,none⟩=some (.int .i64 x.num):=(a.cell (p:=⟨w.heap.size,7,none⟩) t).trans P;have H:w.heap.size<j.heap.size:=bM t a.size;clear a;refine bI (rs:=[8]) (by kernel_rfl) (by simp) ?_;refine bE rfl (λK c=>?_) bF;go_simp;go_wp2_with (go_at_call 113;refine(E.out _).mono ?_;rintro e z ⟨rfl,d⟩);have o:Hid (AL z (w.heap.size+2) false (λ_=>0)/\dc w z):=⟨At.keep l.out.2.1 d (At.lt l.out.2.1),l.out.2.2.trans (d.mono l.out.2.2.size)⟩
    clear d;obtain⟨r,m,b,f⟩:=Al o.out.1 C D;have q:Hid (AL r (w.heap.size+2) C D/\dc w r):=⟨b,o.out.2.trans (f.below (by omega) o.out.2.size)⟩
    clear b f;refine bI (rs:=[9]) (by kernel_rfl) (by simp) ?_;refine bE rfl (λK c=>?_) bF;go_simp;refine c _ _ ?_;clear c K;refine cr (by kernel_rfl) ?_ _;go_wp2_with fail;try simp only[Exit.inBlock,Exit.then]
    refine bJ (Ag rfl _ rfl q.out.1) rfl ?_;exact⟨by rw[u.out.1,u.out.2],q.out.2⟩
  .go_simp;refine c _ _ ?_;clear c K;refine bQ (i:=6) (v:=.int .i64 (-x.num)) rfl (by kernel_rfl) (by kernel_rfl) (by kernel_rfl) (λ_ _ _ h=>h) (b_ ⟨by kernel_rfl,by intro w;go_simp⟩) ?_;refine bQ (i:=7) (v:=.int .i64 (-x.num-1)) rfl (by kernel_rfl) (by kernel_rfl) (by kernel_rfl) (λ_ _ _ h=>h) (b_ ⟨by kernel_rfl,by intro w;go_simp⟩) ?_;refine bI (rs:=[2]) (by kernel_rfl) (by simp) ?_;refine bE rfl (λK c=>?_) bF;go_simp;refine c _ _ ?_;clear c K;refine bI (rs:=[3]) (by kernel_rfl) (by simp) ?_;refine bE rfl (λK c=>?_) bF;go_simp;go_wp2_with (go_at_call 114;refine(F.out _).mono ?_;rintro e j ⟨rfl,a⟩);have l:Hid (AL j (w.heap.size+1) false M/\AL j (w.heap.size+2) false (λ_=>0)/\dc w j):=⟨At.keep g.out.2.1 a (At.lt g.out.2.1),At.keep g.out.2.2.1 a (At.lt g.out.2.2.1),g.out.2.2.2.trans (a.mono g.out.2.2.2.size)⟩
   have R:j.cell? ⟨w.heap.size,7,none⟩=some (.int .i64 x.num):=(a.cell (p:=⟨w.heap.size,7,none⟩) t).trans P;have H:w.heap.size<j.heap.size:=bM t a.size;clear a;refine bI (rs:=[8]) (by kernel_rfl) (by simp) ?_;refine bE rfl (λK c=>?_) bF;go_simp;go_wp2_with (go_at_call 113;refine(E.out _).mono ?_;rintro e z ⟨rfl,d⟩);have o:Hid (AL z (w.heap.size+2) false (λ_=>0)/\dc w z):=⟨At.keep l.out.2.1 d (At.lt l.out.2.1),l.out.2.2.trans (d.mono l.out.2.2.size)⟩
   clear d;obtain⟨r,m,b,f⟩:=Al o.out.1 C D;have q:Hid (AL r (w.heap.size+2) C D/\dc w r):=⟨b,o.out.2.trans (f.below (by omega) o.out.2.size)⟩
   clear b f;refine bI (rs:=[9]) (by kernel_rfl) (by simp) ?_;refine bE rfl (λK c=>?_) bF;go_simp;refine c _ _ ?_;clear c K;refine cr (by kernel_rfl) ?_ _;go_wp2_with fail;try simp only[Exit.inBlock,Exit.then]
   refine bJ (Ag rfl _ rfl q.out.1) rfl ?_;exact⟨by rw[u.out.1,u.out.2],q.out.2⟩
 .go_simp;refine c _ _ ?_;clear c K;refine bI (rs:=[0,3,5]) (by kernel_rfl) (by simp) ?_;refine bE rfl (λK c=>?_) (bE rfl (λK c=>?_) (bE rfl (λK c=>?_) bF))
  .refine AX rfl (.tmp 5) rfl rfl g.out.2.1 ?_;refine c _ _ ?_;clear c K;refine bI (rs:=[3,5]) (by kernel_rfl) (by simp) ?_;refine bE rfl (λK c=>?_) (bE rfl (λK c=>?_) bF)
   .go_simp;go_wp2_with (go_at_call 114;refine(F.out _).mono ?_;rintro e j ⟨rfl,a⟩);have l:Hid (AL j (w.heap.size+1) false M/\AL j (w.heap.size+2) false (λ_=>0)/\dc w j):=⟨At.keep g.out.2.1 a (At.lt g.out.2.1),At.keep g.out.2.2.1 a (At.lt g.out.2.2.1),g.out.2.2.2.trans (a.mono g.out.2.2.2.size)⟩
    have R:j.cell? ⟨w.heap.size,7,none⟩=some (.int .i64 x.num):=(a.cell (p:=⟨w.heap.size,7,none⟩) t).trans P;have H:w.heap.size<j.heap.size:=bM t a.size;clear a;refine bI (rs:=[5]) (by kernel_rfl) (by simp) ?_;refine bE rfl (λK c=>?_) bF;go_simp;refine c _ _ ?_;clear c K;refine bQ (i:=6) (v:=.int .i64 (-x.num)) rfl (by kernel_rfl) (by kernel_rfl) (by kernel_rfl) (λ_ _ _ h=>h) (b_ ⟨by kernel_rfl,by intro w;go_simp⟩) ?_;refine bQ (i:=7) (v:=.int .i64 (-x.num-1)) rfl (by kernel_rfl) (by kernel_rfl) (by kernel_rfl) (λ_ _ _ h=>h) (b_ ⟨by kernel_rfl,by intro w;go_simp⟩) ?_;refine bI (rs:=[8]) (by kernel_rfl) (by simp) ?_;refine bE rfl (λK c=>?_) bF;go_simp;go_wp2_with (go_at_call 113;refine(E.out _).mono ?_;rintro e z ⟨rfl,d⟩);have o:Hid (AL z (w.heap.size+2) false (λ_=>0)/\dc w z):=⟨At.keep l.out.2.1 d (At.lt l.out.2.1),l.out.2.2.trans (d.mono l.out.2.2.size)⟩
    clear d;obtain⟨r,m,b,f⟩:=Al o.out.1 C D;have q:Hid (AL r (w.heap.size+2) C D/\dc w r):=⟨b,o.out.2.trans (f.below (by omega) o.out.2.size)⟩
    clear b f;refine bI (rs:=[9]) (by kernel_rfl) (by simp) ?_;refine bE rfl (λK c=>?_) bF;go_simp;refine c _ _ ?_;clear c K;refine cr (by kernel_rfl) ?_ _;go_wp2_with fail;try simp only[Exit.inBlock,Exit.then]
    refine bJ (Ag rfl _ rfl q.out.1) rfl ?_;exact⟨by rw[u.out.1,u.out.2],q.out.2⟩
   .go_simp;refine c _ _ ?_;clear c K;refine bQ (i:=6) (v:=.int .i64 (-x.num)) rfl (by kernel_rfl) (by kernel_rfl) (by kernel_rfl) (λ_ _ _ h=>h) (b_ ⟨by kernel_rfl,by intro w;go_simp⟩) ?_;refine bQ (i:=7) (v:=.int .i64 (-x.num-1)) rfl (by kernel_rfl) (by kernel_rfl) (by kernel_rfl) (λ_ _ _ h=>h) (b_ ⟨by kernel_rfl,by intro w;go_simp⟩) ?_;refine bI (rs:=[3]) (by kernel_rfl) (by simp) ?_;refine bE rfl (λK c=>?_) bF;go_simp;go_wp2_with (go_at_call 114;refine(F.out _).mono ?_;rintro e j ⟨rfl,a⟩);have l:Hid (AL j (w.heap.size+1) false M/\AL j (w.heap.size+2) false (λ_=>0)/\dc w j):=⟨At.keep g.out.2.1 a (At.lt g.out.2.1),At.keep g.out.2.2.1 a (At.lt g.out.2.2.1),g.out.2.2.2.trans (a.mono g.out.2.2.2.size)⟩
    have R:j.cell? ⟨w.heap.size,7,none⟩=some (.int .i64 x.num):=(a.cell (p:=⟨w.heap.size,7,none⟩) t).trans P;have H:w.heap.size<j.heap.size:=bM t a.size;clear a;refine bI (rs:=[8]) (by kernel_rfl) (by simp) ?_;refine bE rfl (λK c=>?_) bF;go_simp;go_wp2_with (go_at_call 113;refine(E.out _).mono ?_;rintro e z ⟨rfl,d⟩);have o:Hid (AL z (w.heap.size+2) false (λ_=>0)/\dc w z):=⟨At.keep l.out.2.1 d (At.lt l.out.2.1),l.out.2.2.trans (d.mono l.out.2.2.size)⟩
    clear d;obtain⟨r,m,b,f⟩:=Al o.out.1 C D;have q:Hid (AL r (w.heap.size+2) C D/\dc w r):=⟨b,o.out.2.trans (f.below (by omega) o.out.2.size)⟩
    clear b f;refine bI (rs:=[9]) (by kernel_rfl) (by simp) ?_;refine bE rfl (λK c=>?_) bF;go_simp;refine c _ _ ?_;clear c K;refine cr (by kernel_rfl) ?_ _;go_wp2_with fail;try simp only[Exit.inBlock,Exit.then]
    refine bJ (Ag rfl _ rfl q.out.1) rfl ?_;exact⟨by rw[u.out.1,u.out.2],q.out.2⟩
  .go_simp;go_wp2_with (go_at_call 114;refine(F.out _).mono ?_;rintro e j ⟨rfl,a⟩);have l:Hid (AL j (w.heap.size+1) false M/\AL j (w.heap.size+2) false (λ_=>0)/\dc w j):=⟨At.keep g.out.2.1 a (At.lt g.out.2.1),At.keep g.out.2.2.1 a (At.lt g.out.2.2.1),g.out.2.2.2.trans (a.mono g.out.2.2.2.size)⟩
   have R:j.cell? ⟨w.heap.size,7,none⟩=some (.int .i64 x.num):=(a.cell (p:=⟨w.heap.size,7,none⟩) t).trans P;have H:w.heap.size<j.heap.size:=bM t a.size;clear a;refine bI (rs:=[0,5]) (by kernel_rfl) (by simp) ?_;refine bE rfl (λK c=>?_) (bE rfl (λK c=>?_) bF)
   .refine AX rfl (.tmp 5) rfl rfl l.out.1 ?_;refine c _ _ ?_;clear c K;refine bI (rs:=[5]) (by kernel_rfl) (by simp) ?_;refine bE rfl (λK c=>?_) bF;go_simp;refine c _ _ ?_;clear c K;refine bQ (i:=6) (v:=.int .i64 (-x.num)) rfl (by kernel_rfl) (by kernel_rfl) (by kernel_rfl) (λ_ _ _ h=>h) (b_ ⟨by kernel_rfl,by intro w;go_simp⟩) ?_;refine bQ (i:=7) (v:=.int .i64 (-x.num-1)) rfl (by kernel_rfl) (by kernel_rfl) (by kernel_rfl) (λ_ _ _ h=>h) (b_ ⟨by kernel_rfl,by intro w;go_simp⟩) ?_;refine bI (rs:=[8]) (by kernel_rfl) (by simp) ?_;refine bE rfl (λK c=>?_) bF;go_simp;go_wp2_with (go_at_call 113;refine(E.out _).mono ?_;rintro e z ⟨rfl,d⟩);have o:Hid (AL z (w.heap.size+2) false (λ_=>0)/\dc w z):=⟨At.keep l.out.2.1 d (At.lt l.out.2.1),l.out.2.2.trans (d.mono l.out.2.2.size)⟩
    clear d;obtain⟨r,m,b,f⟩:=Al o.out.1 C D;have q:Hid (AL r (w.heap.size+2) C D/\dc w r):=⟨b,o.out.2.trans (f.below (by omega) o.out.2.size)⟩
    clear b f;refine bI (rs:=[9]) (by kernel_rfl) (by simp) ?_;refine bE rfl (λK c=>?_) bF;go_simp;refine c _ _ ?_;clear c K;refine cr (by kernel_rfl) ?_ _;go_wp2_with fail;try simp only[Exit.inBlock,Exit.then]
    refine bJ (Ag rfl _ rfl q.out.1) rfl ?_;exact⟨by rw[u.out.1,u.out.2],q.out.2⟩
   .go_simp;refine c _ _ ?_;clear c K;refine bQ (i:=6) (v:=.int .i64 (-x.num)) rfl (by kernel_rfl) (by kernel_rfl) (by kernel_rfl) (λ_ _ _ h=>h) (b_ ⟨by kernel_rfl,by intro w;go_simp⟩) ?_;refine bQ (i:=7) (v:=.int .i64 (-x.num-1)) rfl (by kernel_rfl) (by kernel_rfl) (by kernel_rfl) (λ_ _ _ h=>h) (b_ ⟨by kernel_rfl,by intro w;go_simp⟩) ?_;refine bI (rs:=[0]) (by kernel_rfl) (by simp) ?_;refine bE rfl (λK c=>?_) bF;refine AX rfl (.tmp 5) rfl rfl l.out.1 ?_;refine c _ _ ?_;clear c K;refine bI (rs:=[8]) (by kernel_rfl) (by simp) ?_;refine bE rfl (λK c=>?_) bF;go_simp;go_wp2_with (go_at_call 113;refine(E.out _).mono ?_;rintro e z ⟨rfl,d⟩);have o:Hid (AL z (w.heap.size+2) false (λ_=>0)/\dc w z):=⟨At.keep l.out.2.1 d (At.lt l.out.2.1),l.out.2.2.trans (d.mono l.out.2.2.size)⟩
    clear d;obtain⟨r,m,b,f⟩:=Al o.out.1 C D;have q:Hid (AL r (w.heap.size+2) C D/\dc w r):=⟨b,o.out.2.trans (f.below (by omega) o.out.2.size)⟩
    clear b f;refine bI (rs:=[9]) (by kernel_rfl) (by simp) ?_;refine bE rfl (λK c=>?_) bF;go_simp;refine c _ _ ?_;clear c K;refine cr (by kernel_rfl) ?_ _;go_wp2_with fail;try simp only[Exit.inBlock,Exit.then]
    refine bJ (Ag rfl _ rfl q.out.1) rfl ?_;exact⟨by rw[u.out.1,u.out.2],q.out.2⟩
  .go_simp;refine c _ _ ?_;clear c K;refine bQ (i:=6) (v:=.int .i64 (-x.num)) rfl (by kernel_rfl) (by kernel_rfl) (by kernel_rfl) (λ_ _ _ h=>h) (b_ ⟨by kernel_rfl,by intro w;go_simp⟩) ?_;refine bQ (i:=7) (v:=.int .i64 (-x.num-1)) rfl (by kernel_rfl) (by kernel_rfl) (by kernel_rfl) (λ_ _ _ h=>h) (b_ ⟨by kernel_rfl,by intro w;go_simp⟩) ?_;refine bI (rs:=[0,3]) (by kernel_rfl) (by simp) ?_;refine bE rfl (λK c=>?_) (bE rfl (λK c=>?_) bF)
   .refine AX rfl (.tmp 5) rfl rfl g.out.2.1 ?_;refine c _ _ ?_;clear c K;refine bI (rs:=[3]) (by kernel_rfl) (by simp) ?_;refine bE rfl (λK c=>?_) bF;go_simp;go_wp2_with (go_at_call 114;refine(F.out _).mono ?_;rintro e j ⟨rfl,a⟩);have l:Hid (AL j (w.heap.size+1) false M/\AL j (w.heap.size+2) false (λ_=>0)/\dc w j):=⟨At.keep g.out.2.1 a (At.lt g.out.2.1),At.keep g.out.2.2.1 a (At.lt g.out.2.2.1),g.out.2.2.2.trans (a.mono g.out.2.2.2.size)⟩
    have R:j.cell? ⟨w.heap.size,7,none⟩=some (.int .i64 x.num):=(a.cell (p:=⟨w.heap.size,7,none⟩) t).trans P;have H:w.heap.size<j.heap.size:=bM t a.size;clear a;refine bI (rs:=[8]) (by kernel_rfl) (by simp) ?_;refine bE rfl (λK c=>?_) bF;go_simp;go_wp2_with (go_at_call 113;refine(E.out _).mono ?_;rintro e z ⟨rfl,d⟩);have o:Hid (AL z (w.heap.size+2) false (λ_=>0)/\dc w z):=⟨At.keep l.out.2.1 d (At.lt l.out.2.1),l.out.2.2.trans (d.mono l.out.2.2.size)⟩
    clear d;obtain⟨r,m,b,f⟩:=Al o.out.1 C D;have q:Hid (AL r (w.heap.size+2) C D/\dc w r):=⟨b,o.out.2.trans (f.below (by omega) o.out.2.size)⟩
    clear b f;refine bI (rs:=[9]) (by kernel_rfl) (by simp) ?_;refine bE rfl (λK c=>?_) bF;go_simp;refine c _ _ ?_;clear c K;refine cr (by kernel_rfl) ?_ _;go_wp2_with fail;try simp only[Exit.inBlock,Exit.then]
    refine bJ (Ag rfl _ rfl q.out.1) rfl ?_;exact⟨by rw[u.out.1,u.out.2],q.out.2⟩
   .go_simp;go_wp2_with (go_at_call 114;refine(F.out _).mono ?_;rintro e j ⟨rfl,a⟩);have l:Hid (AL j (w.heap.size+1) false M/\AL j (w.heap.size+2) false (λ_=>0)/\dc w j):=⟨At.keep g.out.2.1 a (At.lt g.out.2.1),At.keep g.out.2.2.1 a (At.lt g.out.2.2.1),g.out.2.2.2.trans (a.mono g.out.2.2.2.size)⟩
    have R:j.cell? ⟨w.heap.size,7,none⟩=some (.int .i64 x.num):=(a.cell (p:=⟨w.heap.size,7,none⟩) t).trans P;have H:w.heap.size<j.heap.size:=bM t a.size;clear a;refine bI (rs:=[0]) (by kernel_rfl) (by simp) ?_;refine bE rfl (λK c=>?_) bF;refine AX rfl (.tmp 5) rfl rfl l.out.1 ?_;refine c _ _ ?_;clear c K;refine bI (rs:=[8]) (by kernel_rfl) (by simp) ?_;refine bE rfl (λK c=>?_) bF;go_simp;go_wp2_with (go_at_call 113;refine(E.out _).mono ?_;rintro e z ⟨rfl,d⟩);have o:Hid (AL z (w.heap.size+2) false (λ_=>0)/\dc w z):=⟨At.keep l.out.2.1 d (At.lt l.out.2.1),l.out.2.2.trans (d.mono l.out.2.2.size)⟩
    clear d;obtain⟨r,m,b,f⟩:=Al o.out.1 C D;have q:Hid (AL r (w.heap.size+2) C D/\dc w r):=⟨b,o.out.2.trans (f.below (by omega) o.out.2.size)⟩
    clear b f;refine bI (rs:=[9]) (by kernel_rfl) (by simp) ?_;refine bE rfl (λK c=>?_) bF;go_simp;refine c _ _ ?_;clear c K;refine cr (by kernel_rfl) ?_ _;go_wp2_with fail;try simp only[Exit.inBlock,Exit.then]
    refine bJ (Ag rfl _ rfl q.out.1) rfl ?_;exact⟨by rw[u.out.1,u.out.2],q.out.2⟩
 .go_simp;refine c _ _ ?_;clear c K;refine bQ (i:=6) (v:=.int .i64 (-x.num)) rfl (by kernel_rfl) (by kernel_rfl) (by kernel_rfl) (λ_ _ _ h=>h) (b_ ⟨by kernel_rfl,by intro w;go_simp⟩) ?_;refine bQ (i:=7) (v:=.int .i64 (-x.num-1)) rfl (by kernel_rfl) (by kernel_rfl) (by kernel_rfl) (λ_ _ _ h=>h) (b_ ⟨by kernel_rfl,by intro w;go_simp⟩) ?_;refine bI (rs:=[0,2]) (by kernel_rfl) (by simp) ?_;refine bE rfl (λK c=>?_) (bE rfl (λK c=>?_) bF)
  .refine AX rfl (.tmp 5) rfl rfl g.out.2.1 ?_;refine c _ _ ?_;clear c K;refine bI (rs:=[2]) (by kernel_rfl) (by simp) ?_;refine bE rfl (λK c=>?_) bF;go_simp;refine c _ _ ?_;clear c K;refine bI (rs:=[3]) (by kernel_rfl) (by simp) ?_;refine bE rfl (λK c=>?_) bF;go_simp;go_wp2_with (go_at_call 114;refine(F.out _).mono ?_;rintro e j ⟨rfl,a⟩);have l:Hid (AL j (w.heap.size+1) false M/\AL j (w.heap.size+2) false (λ_=>0)/\dc w j):=⟨At.keep g.out.2.1 a (At.lt g.out.2.1),At.keep g.out.2.2.1 a (At.lt g.out.2.2.1),g.out.2.2.2.trans (a.mono g.out.2.2.2.size)⟩
   have R:j.cell? ⟨w.heap.size,7,none⟩=some (.int .i64 x.num):=(a.cell (p:=⟨w.heap.size,7,none⟩) t).trans P;have H:w.heap.size<j.heap.size:=bM t a.size;clear a;refine bI (rs:=[8]) (by kernel_rfl) (by simp) ?_;refine bE rfl (λK c=>?_) bF;go_simp;go_wp2_with (go_at_call 113;refine(E.out _).mono ?_;rintro e z ⟨rfl,d⟩);have o:Hid (AL z (w.heap.size+2) false (λ_=>0)/\dc w z):=⟨At.keep l.out.2.1 d (At.lt l.out.2.1),l.out.2.2.trans (d.mono l.out.2.2.size)⟩
   clear d;obtain⟨r,m,b,f⟩:=Al o.out.1 C D;have q:Hid (AL r (w.heap.size+2) C D/\dc w r):=⟨b,o.out.2.trans (f.below (by omega) o.out.2.size)⟩
   clear b f;refine bI (rs:=[9]) (by kernel_rfl) (by simp) ?_;refine bE rfl (λK c=>?_) bF;go_simp;refine c _ _ ?_;clear c K;refine cr (by kernel_rfl) ?_ _;go_wp2_with fail;try simp only[Exit.inBlock,Exit.then]
   refine bJ (Ag rfl _ rfl q.out.1) rfl ?_;exact⟨by rw[u.out.1,u.out.2],q.out.2⟩
  .go_simp;refine c _ _ ?_;clear c K;refine bI (rs:=[0,3]) (by kernel_rfl) (by simp) ?_;refine bE rfl (λK c=>?_) (bE rfl (λK c=>?_) bF)
   .refine AX rfl (.tmp 5) rfl rfl g.out.2.1 ?_;refine c _ _ ?_;clear c K;refine bI (rs:=[3]) (by kernel_rfl) (by simp) ?_;refine bE rfl (λK c=>?_) bF;go_simp;go_wp2_with (go_at_call 114;refine(F.out _).mono ?_;rintro e j ⟨rfl,a⟩);have l:Hid (AL j (w.heap.size+1) false M/\AL j (w.heap.size+2) false (λ_=>0)/\dc w j):=⟨At.keep g.out.2.1 a (At.lt g.out.2.1),At.keep g.out.2.2.1 a (At.lt g.out.2.2.1),g.out.2.2.2.trans (a.mono g.out.2.2.2.size)⟩
    have R:j.cell? ⟨w.heap.size,7,none⟩=some (.int .i64 x.num):=(a.cell (p:=⟨w.heap.size,7,none⟩) t).trans P;have H:w.heap.size<j.heap.size:=bM t a.size;clear a;refine bI (rs:=[8]) (by kernel_rfl) (by simp) ?_;refine bE rfl (λK c=>?_) bF;go_simp;go_wp2_with (go_at_call 113;refine(E.out _).mono ?_;rintro e z ⟨rfl,d⟩);have o:Hid (AL z (w.heap.size+2) false (λ_=>0)/\dc w z):=⟨At.keep l.out.2.1 d (At.lt l.out.2.1),l.out.2.2.trans (d.mono l.out.2.2.size)⟩
    clear d;obtain⟨r,m,b,f⟩:=Al o.out.1 C D;have q:Hid (AL r (w.heap.size+2) C D/\dc w r):=⟨b,o.out.2.trans (f.below (by omega) o.out.2.size)⟩
    clear b f;refine bI (rs:=[9]) (by kernel_rfl) (by simp) ?_;refine bE rfl (λK c=>?_) bF;go_simp;refine c _ _ ?_;clear c K;refine cr (by kernel_rfl) ?_ _;go_wp2_with fail;try simp only[Exit.inBlock,Exit.then]
    refine bJ (Ag rfl _ rfl q.out.1) rfl ?_;exact⟨by rw[u.out.1,u.out.2],q.out.2⟩
   .go_simp;go_wp2_with (go_at_call 114;refine(F.out _).mono ?_;rintro e j ⟨rfl,a⟩);have l:Hid (AL j (w.heap.size+1) false M/\AL j (w.heap.size+2) false (λ_=>0)/\dc w j):=⟨At.keep g.out.2.1 a (At.lt g.out.2.1),At.keep g.out.2.2.1 a (At.lt g.out.2.2.1),g.out.2.2.2.trans (a.mono g.out.2.2.2.size)⟩
    have R:j.cell? ⟨w.heap.size,7,none⟩=some (.int .i64 x.num):=(a.cell (p:=⟨w.heap.size,7,none⟩) t).trans P;have H:w.heap.size<j.heap.size:=bM t a.size;clear a;refine bI (rs:=[0]) (by kernel_rfl) (by simp) ?_;refine bE rfl (λK c=>?_) bF;refine AX rfl (.tmp 5) rfl rfl l.out.1 ?_;refine c _ _ ?_;clear c K;refine bI (rs:=[8]) (by kernel_rfl) (by simp) ?_;refine bE rfl (λK c=>?_) bF;go_simp;go_wp2_with (go_at_call 113;refine(E.out _).mono ?_;rintro e z ⟨rfl,d⟩);have o:Hid (AL z (w.heap.size+2) false (λ_=>0)/\dc w z):=⟨At.keep l.out.2.1 d (At.lt l.out.2.1),l.out.2.2.trans (d.mono l.out.2.2.size)⟩
    clear d;obtain⟨r,m,b,f⟩:=Al o.out.1 C D;have q:Hid (AL r (w.heap.size+2) C D/\dc w r):=⟨b,o.out.2.trans (f.below (by omega) o.out.2.size)⟩
    clear b f;refine bI (rs:=[9]) (by kernel_rfl) (by simp) ?_;refine bE rfl (λK c=>?_) bF;go_simp;refine c _ _ ?_;clear c K;refine cr (by kernel_rfl) ?_ _;go_wp2_with fail;try simp only[Exit.inBlock,Exit.then]
    refine bJ (Ag rfl _ rfl q.out.1) rfl ?_;exact⟨by rw[u.out.1,u.out.2],q.out.2⟩
theorem O0(x:Ds)(hx:OY x)(ht:0<=x.target/\x.target<4)(s:Int)(S:∀k,k<64-> -20000000000<=M k/\M k<=1000000)(hS:e0=false->Sh M):
  Calls prog 80 #[B0 x,.int .i64 s,.agg (oc e0 M)] w λe w'=>e=.returned (.agg (oc (CA e0 M x s) (CE e0 M x s)))/\dc w w':=by
 have hz:=Bn;obtain⟨A,n⟩:∃A,A=((w.alloc (.cells (AD x) BB)).alloc (.cells (oc e0 M) tO)).alloc (.cells (oc false λ_=>0) tO):=⟨_,rfl⟩
 have B:Hid (At A w.heap.size (AD x) BB/\AL A (w.heap.size+1) e0 M/\AL A (w.heap.size+2) false (λ_=>0)/\dc w A/\A.heap.size=w.heap.size+3):=by
  refine⟨by rw[n];exact At.allocH (At.allocH (At.new _ _ _) _) _,?_,?_,by rw[n];exact(((bC _ _).alloc (bB _) _).alloc (by simp) _).alloc (by simp;omega) _,by rw[n];simp⟩
  .have:=At.allocH (At.new (w.alloc (.cells (AD x) BB)) (oc e0 M) tO) (.cells (oc false λ_=>0) tO);rw[show(w.alloc (.cells (AD x) BB)).heap.size=w.heap.size+1 by simp]at this;rw[n];exact this
  .have:=At.new ((w.alloc (.cells (AD x) BB)).alloc (.cells (oc e0 M) tO)) (oc false λ_=>0) tO;rw[show((w.alloc (.cells (AD x) BB)).alloc (.cells (oc e0 M) tO)).heap.size=w.heap.size+2 by simp]at this;rw[n];exact this
 have y:=B.out.2.1;have L:A.cell? ⟨w.heap.size+1,0,none⟩=some (.bool e0):=by rw[At.cell B.out.2.1];exact Ib _ _
 cases e0 with
 |true=>
  have u:Hid (CA true M x s=true/\CE true M x s=M):=⟨rfl,rfl⟩
  obtain⟨r,m,b,f⟩:=Al B.out.2.2.1 true M;have q:Hid (AL r (w.heap.size+2) true M/\dc w r):=⟨b,B.out.2.2.2.1.trans (f.below (by omega) B.out.2.2.2.1.size)⟩
  clear b f;rw[n]at m y L;unfold AD at m y L;unfold B0;clear B n S hS hx ht;go_enter func80,ntmps80;go_wp2_with (refine AH rfl (.tmp 5) rfl rfl y ?_);try simp only[Exit.inBlock,Exit.then]
  refine bJ (Ag rfl _ rfl q.out.1) rfl ?_;exact⟨by rw[u.out.1,u.out.2],q.out.2⟩
 |false=>
 by_cases J:x.kind=0
 .have u:Hid (CA false M x s=false/\CE false M x s=JF M x):=by
   refine⟨?_,?_⟩
   .unfold CA;rw[a_ (by decide),bA J]
   .unfold CE;rw[a_ (by decide),bA J]
  obtain⟨V,N⟩:∃V:World->Prop,V=λw'=>dc A w':=⟨_,rfl⟩
  have G:Calls prog 112 #[B0 x,.agg (oc false M)] A λe w'=>e=.returned (.agg (oc false (JF M x)))/\V w':=by rw[N];exact Oz x hx ht (hS rfl)
  rw[n]at G y L;unfold AD at G y L;unfold B0 at G|-;generalize JF M x=T at *;rw[J]at G y L|-;clear n S hS hx ht;go_enter func80,ntmps80;go_wp2_with (refine AH rfl (.tmp 5) rfl rfl y ?_);refine G.mono ?_;rintro e O ⟨rfl,I⟩;rw[N]at I;have W:Hid (AL O (w.heap.size+2) false (λ_=>0)/\dc w O):=by
   have s0:=B.out.2.2.2.2;exact⟨At.keep B.out.2.2.1 I (by omega),B.out.2.2.2.1.trans (I.mono (by omega))⟩
  clear I N B;obtain⟨r,m,b,f⟩:=Al W.out.1 false T;have q:Hid (AL r (w.heap.size+2) false T/\dc w r):=⟨b,W.out.2.trans (f.below (by omega) W.out.2.size)⟩
  clear b f;go_wp2_with fail;try simp only[Exit.inBlock,Exit.then]
  refine bJ (Ag rfl _ rfl q.out.1) rfl ?_;exact⟨by rw[u.out.1,u.out.2],q.out.2⟩
 have b0:(x.kind==0)=false:=by simpa using J
 cases Q:x.any with
 |true=>
  have u:Hid (CA false M x s=false/\CE false M x s=M):=by
   refine⟨?_,?_⟩
   .unfold CA;rw[a_ (by decide),a_ J,bA Q]
   .unfold CE;rw[a_ (by decide),a_ J,bA Q]
  clear J;obtain⟨r,m,b,f⟩:=Al B.out.2.2.1 false M;have q:Hid (AL r (w.heap.size+2) false M/\dc w r):=⟨b,B.out.2.2.2.1.trans (f.below (by omega) B.out.2.2.2.1.size)⟩
  clear b f;rw[n]at m y L;unfold AD at m y L;unfold B0;rw[Q]at m y L|-;clear B n S hS hx ht;go_enter func80,ntmps80;go_wp2_with (refine AH rfl (.tmp 5) rfl rfl y ?_);try simp only[Exit.inBlock,Exit.then]
  refine bJ (Ag rfl _ rfl q.out.1) rfl ?_;exact⟨by rw[u.out.1,u.out.2],q.out.2⟩
 |false=>
 by_cases U:s=0
 .have u:Hid (CA false M x s=GJ false M x.sg x.num/\CE false M x s=E5 false M x.sg x.num):=by
   refine⟨?_,?_⟩
   .unfold CA;rw[a_ (by decide),a_ J,Q,a_ (by decide),bA U]
   .unfold CE;rw[a_ (by decide),a_ J,Q,a_ (by decide),bA U]
  obtain⟨V,N⟩:∃V:World->Prop,V=λw'=>dc A w':=⟨_,rfl⟩
  have G:Calls prog 113 #[.agg (oc false M),v4 x.sg,.int .i64 x.num] A λe w'=>e=.returned (.agg (oc (GJ false M x.sg x.num) (E5 false M x.sg x.num)))/\V w':=by rw[N];exact N0 S x.sg hx.sg x.num ⟨by have:=hx.num;omega,by have:=hx.num;omega⟩
  rw[n]at G y L;unfold AD at G y L;unfold v4 at G;unfold B0;generalize GJ false M x.sg x.num=C at *;generalize E5 false M x.sg x.num=T at *;rw[Q]at G y L|-;subst U;clear n S hS hx ht J;go_enter func80,ntmps80;go_wp2_with (refine AH rfl (.tmp 5) rfl rfl y ?_);refine G.mono ?_;rintro e O ⟨rfl,I⟩;rw[N]at I;have W:Hid (AL O (w.heap.size+2) false (λ_=>0)/\dc w O):=by
   have s0:=B.out.2.2.2.2;exact⟨At.keep B.out.2.2.1 I (by omega),B.out.2.2.2.1.trans (I.mono (by omega))⟩
  clear I N B;obtain⟨r,m,b,f⟩:=Al W.out.1 C T;have q:Hid (AL r (w.heap.size+2) C T/\dc w r):=⟨b,W.out.2.trans (f.below (by omega) W.out.2.size)⟩
  clear b f;go_wp2_with fail;try simp only[Exit.inBlock,Exit.then]
  refine bJ (Ag rfl _ rfl q.out.1) rfl ?_;exact⟨by rw[u.out.1,u.out.2],q.out.2⟩
 .exact S6 x hx J Q s U S
theorem EX{a b:Bool}(h:a=b):Ending.returned (.bool b)=.returned (.bool a):=by rw[h]
theorem Mj(a b:Value)(X Y:List Int)(S:X.length=32)(T:Y.length=32)(M:AQ w a X)(hb:AQ w b Y):
  Calls prog 99 #[a,b] w λe w'=>e=.returned (.bool (leF (λf=>X.getD f 0) (λf=>Y.getD f 0) 32))/\dc w w':=by
 obtain⟨Z,N,rfl, -,P⟩:=M;obtain⟨p,off,rfl,W,m⟩:=P (by omega);obtain⟨bo,O,rfl, -,h1⟩:=hb;obtain⟨q,E,rfl,hq,s⟩:=h1 (by omega);have HC:Hid (∀i,i<32->w.cell? ⟨p,off+i,none⟩=some (.int .i64 (X.getD i 0))):=λi hi=>m i (by omega);have HD:Hid (∀i,i<32->w.cell? ⟨q,E+i,none⟩=some (.int .i64 (Y.getD i 0))):=λi hi=>s i (by omega);rw[S,T];obtain⟨A,hA⟩:∃A:Nat->Int,A=λf=>X.getD f 0:=⟨_,rfl⟩
 obtain⟨B,hB⟩:∃B:Nat->Int,B=λf=>Y.getD f 0:=⟨_,rfl⟩
 have aa:Hid (∀i,i<32->w.cell? ⟨p,off+i,none⟩=some (.int .i64 (A i))):=by rw[hA];exact HC.out
 have ab:Hid (∀i,i<32->w.cell? ⟨q,E+i,none⟩=some (.int .i64 (B i))):=by rw[hB];exact HD.out
 rw[<-hA,<-hB];clear HC HD hA hB m s P h1 S T;go_enter func99,ntmps99;go_wp2_with fail;go_loopw [5] (λi wr=>∃(f k:Nat),f<=32/\i=.int .i64 f/\Hid (wr=w.drewN k/\leF A B f=true)) (λi _=>32-(intOf i).toNat);case atStart=>exact⟨0,0,by omega,rfl,rfl,rfl⟩
 case round=>
  obtain⟨f,k,hf,rfl,J⟩:=hrel;by_cases K:f<32
  .have ag:(f:Int)<32:=by omega
   have N:wr.cell? ⟨p,off+f,none⟩=some (.int .i64 (A f)):=by rw[J.out.1];exact aa.out f K
   have O:wr.cell? ⟨q,E+f,none⟩=some (.int .i64 (B f)):=by rw[J.out.1];exact ab.out f K
   have HN:Hid (¬A f<=B f->leF A B 32=false):=λh=>by
    cases e:leF A B 32 with
    |false=>rfl
    |true=>exact absurd (DI.1 e f K) h
   have HY:Hid (leF A B (f+1)=(leF A B f&&decide (A f<=B f))):=rfl;generalize A f=x at *;generalize B f=y at *;by_cases ai:y<x
   .have I:Hid (leF A B 32=false):=HN.out (by omega);go_wp2_with fail;go_quiet (fail);go_wp2_with fail;go_ret;exact⟨EX I.out,bD (by rw[J.out.1];exact bD (bC _ _) _) _⟩
   .have I:Hid (leF A B (f+1)=true):=by show _=true;rw[HY.out,J.out.2,cC (by omega)];rfl
    go_wp2_with fail;go_quiet (fail);go_wp2_with fail;go_roundw;case rel=>exact⟨f+1,_,by omega,by go_num,by rw[J.out.1];exact Cu _ _ _,I.out⟩
    case measure=>simp[intOf];omega
  .have R:f=32:=by omega
   subst R;go_wp2_with fail;go_ret;exact⟨EX J.out.2,by rw[J.out.1];exact bD (bC _ _) _⟩
theorem Gt{A A' B:Nat->Int}:∀n,(∀f,f<n->A f=A' f)->leF A B n=leF A' B n
 |0,_=>rfl
 |n+1,h=>by
  show(leF A B n&&decide (A n<=B n))=(leF A' B n&&decide (A' n<=B n))
  rw[Gt n (λf hf=>h f (by omega)),h n (by omega)]
theorem UB(u v:Value)(o p:List Int)(U:B_ o)(W:p.length=32)(F:AQ w u o)(G:AQ w v p):
  Calls prog 65 #[u,v] w λe w'=>e=.returned (.bool (Wx o p))/\dc w w':=by
 have ah:∀(w:World)(a:Option Addr)(n c:Nat),(binOp .eql 32 (.slice a n c) (.slice none 0 0)).run prog w=.ok (.bool a.isNone) w:=λw a n c=>cz w 32 tN a n c 0 0 underlying32;have D:=DC u o U F;have HL:Hid (∀d g,dc w d->At d g (ic (Bl (BT o))) Gc->Calls prog 99 #[.slice (some ⟨g,0,none⟩) 32 32,v] d λe w'=>e=.returned (.bool (leF (bd (BT o)) (λf=>p.getD f 0) 32))/\dc d w'):=by
  intro d g hb M;have hl:(Bl (BT o)).length=32:=by simp[Bl]
  have h:=Mj (w:=d) (.slice (some ⟨g,0,none⟩) 32 32) v (Bl (BT o)) p hl W (AQ.at_ M hl (bB _) (λi hi=>Aa _ _ (by omega))) (G.keep hb);rw[Gt (A:=λf=>(Bl (BT o)).getD f 0) (A':=bd (BT o)) 32 (λf hf=>Gh (BT o) f hf)]at h;exact h
 have HE:Hid (Wx o p=(ovE o||leF (bd (BT o)) (λf=>p.getD f 0) 32)):=rfl;have V:=U.1;obtain⟨Z,N,rfl, -,P⟩:=F;obtain⟨bp,off,rfl, -, -⟩:=P (by omega);obtain⟨bo,O,rfl, -,h1⟩:=G;obtain⟨bq,E,rfl, -, -⟩:=h1 (by omega);generalize leF (bd (BT o)) (λf=>p.getD f 0) 32=r at *;rw[V]at D|-;rw[W]at HL|-;clear P h1 U V;go_enter func65,ntmps65;go_wp2_with fail;refine D.mono ?_;rintro e d ⟨j,⟨Q,rfl⟩|⟨Q,g,rfl,hg,M⟩⟩
 .have I:Hid (Wx o p=true):=by show _=true;rw[HE.out,Q];rfl
  have C:Hid (dc w d):=j;clear j Q D;go_wp2_with fail;go_ret;exact⟨EX I.out,C.out⟩
 .have I:Hid (Wx o p=r):=by show _=r;rw[HE.out,Q];rfl
  have af:=HL.out d g j M;have C:Hid (dc w d):=j;clear j Q D M;go_wp2_with fail;refine af.mono ?_;rintro e w2 ⟨rfl,ac⟩;go_wp2_with fail;go_ret;exact⟨EX I.out,C.out.trans (ac.mono C.out.size)⟩
theorem GO{l:List Int}(h:¬B_ l):FM l=false:=by
 cases e:FM l with
 |false=>rfl
 |true=>exact absurd (CG.1 e) h
def DZ(w:World)(o p:List Int):Ending->World->Prop:=λx w'=>dc w w'/\((B_ o/\B_ p/\x=.returned (.tuple #[.bool (Wx o p),.int .i64 0]))\/(¬(B_ o/\B_ p)/\x=.returned (.tuple #[.bool false,.int .i64 3])))
theorem UG(u v:Value)(o p:List Int)(U:o.length<=1073741824)(W:p.length<=1073741824)(F:AQ w u o)(G:AQ w v p):
  Calls prog 38 #[u,v] w (DZ w o p):=by
 have t:=GV u o U F;have z:=GV v p W G;by_cases H:B_ o
 .rw[CG.2 H]at t;by_cases k2:B_ p
  .rw[CG.2 k2]at z;have ae:=UB u v o p H k2.1 F G;have L:Hid (B_ o/\B_ p):=⟨H,k2⟩
   obtain⟨Z,N,rfl, -, -⟩:=F;obtain⟨bo,O,rfl, -, -⟩:=G;clear H k2;go_enter func38,ntmps38;go_wp2_with fail;refine t.mono ?_;rintro e d ⟨rfl,rfl⟩;go_wp2_with fail;refine z.mono ?_;rintro e w2 ⟨rfl,rfl⟩;go_wp2_with fail;refine ae.mono ?_;rintro e w3 ⟨rfl,ad⟩;go_wp2_with fail
   go_ret2
   exact⟨ad,.inl ⟨L.out.1,L.out.2,rfl⟩⟩
  .rw[GO k2]at z;have L:Hid (¬(B_ o/\B_ p)):=λh=>k2 h.2;obtain⟨Z,N,rfl, -, -⟩:=F;obtain⟨bo,O,rfl, -, -⟩:=G;clear H k2;go_enter func38,ntmps38;go_wp2_with fail;refine t.mono ?_;rintro e d ⟨rfl,rfl⟩;go_wp2_with fail;refine z.mono ?_;rintro e w2 ⟨rfl,rfl⟩;go_wp2_with fail
   go_ret2
   exact⟨bC _ _,.inr ⟨L.out,rfl⟩⟩
 .rw[GO H]at t;have L:Hid (¬(B_ o/\B_ p)):=λh=>H h.1;obtain⟨Z,N,rfl, -, -⟩:=F;obtain⟨bo,O,rfl, -, -⟩:=G;clear H;go_enter func38,ntmps38;go_wp2_with fail;refine t.mono ?_;rintro e d ⟨rfl,rfl⟩;go_wp2_with fail;refine z.mono ?_;rintro e w2 ⟨rfl,rfl⟩;go_wp2_with fail
  go_ret2
  exact⟨bC _ _,.inr ⟨L.out,rfl⟩⟩
def EY(l:List Int)(p:Int)(o:List Int):Bool×Int:=
 match AV l with
 |none=>(false,1)
 |some m=>if p<0\/(m.st.length:Int)<=p then(false,2)else if FM o=true then(H_ (ovE o) (BT o) (m.st.getD p.toNat AY),0)else(false,3)
theorem U0(u:St):1<=DE u:=by unfold DE;split<;>decide
theorem Uz(m:Rd)(p:Int):((0:Int)<0\/CK m p<=0)↔(p<0\/(m.st.length:Int)<=p):=by
 unfold CK;by_cases h:p<0\/(m.st.length:Int)<=p
 .rw[bA h];exact⟨λ_=>h,λ_=>.inr (by decide)⟩
 .rw[a_ h];have:=U0 (m.st.getD p.toNat AY);exact⟨λz=>z.elim (λq=>absurd q (by decide)) (λq=>absurd q (by omega)),λz=>absurd z h⟩
theorem Q5{x:Ds}{u:St}{o:List Int}(hc:OX x u)(F:SI u)(ho:B_ o):DF (ovE o) (BT o) x=H_ (ovE o) (BT o) u:=by
 obtain⟨c0,_,c2,c3,c4⟩:=hc;unfold DF H_;cases he:ovE o with
 |true=>rfl
 |false=>
  have G:BT o (0*8+1)=0:=((Db ho).tc he).zero 0 (by omega);have Z:=(Gp G F.len F.sg F.nz).1;have g2:=(Gp G (Cp u.sg) (DJ F.sg) (by rw[C9 F.len];exact F.nz)).1;have e1:FC (BT o) u.sg=GP (BT o) u.sg:=Z;have e2:FC (BT o) (Dv u.sg)=GP (BT o) (Dv u.sg):=g2;rw[a_ (show¬(false=true) by decide),a_ (show¬(false=true) by decide)];have T:x.kind=0↔u.kind=61:=by
   rw[c0];unfold Fr;constructor
   .intro h;rw[bA h]
   .intro h;by_cases q:x.kind=0
    .exact q
    .rw[a_ q]at h;split at h
     .cases h
     .split at h<;>cases h
  have U:x.kind=1↔u.kind=33:=by
   rw[c0];unfold Fr;constructor
   .intro h;rw[a_ (by omega),bA h]
   .intro h;by_cases q:x.kind=0
    .rw[bA q]at h;cases h
    .rw[a_ q]at h;by_cases E:x.kind=1
     .exact E
     .rw[a_ E]at h;split at h<;>cases h
  by_cases K:x.kind=0
  .rw[bA K,bA (T.1 K),<-c2,<-c4,<-c3];unfold ftB;rw[e1,e2]
  .rw[a_ K,a_ (λz=>K (T.2 z))];by_cases E:x.kind=1
   .rw[bA E,bA (U.1 E),<-c2,<-c4,<-c3,e1]
   .rw[a_ E,a_ (λz=>E (U.2 z))]
theorem Rz(s:ByteArray)(p:Int)(o:List Int):FH s p o=EY (AA s) p o:=by
 unfold FH EY;cases f:AV (AA s)with
 |none=>rfl
 |some m=>
  have hl:=(Au f).1;have hb:=AR s;rcases BU s (by omega)with⟨_,hn⟩|⟨m',_,hp',hW⟩
  .rw[f]at hn;cases hn
  .rw[f]at hp';cases hp'
   show(if p<0\/(m.st.length:Int)<=p then(false,2)else if FM o=true then(DF (ovE o) (BT o) ((AI s).2.getD p.toNat (AC 0 0)),(0:Int))else(false,3))=if p<0\/(m.st.length:Int)<=p then(false,2)else if FM o=true then(H_ (ovE o) (BT o) (m.st.getD p.toNat AY),0)else(false,3)
   by_cases h:p<0\/(m.st.length:Int)<=p
   .rw[bA h,bA h]
   .rw[a_ h,a_ h];by_cases H:FM o=true
    .rw[bA H,bA H];have ab:=hW.1.len;have hk:p.toNat<(AI s).2.length:=by omega
     rw[Q5 (EV f hW hk).2 (Ga f p.toNat) (CG.1 H)]
    .rw[a_ H,a_ H]
theorem UJ(s:ByteArray)(p:Int)(v:Value)(o:List Int)(J:s.size<=maxLen)(R:o.length<=1073741824)(I:AQ w v o):
  Calls prog 44 #[.string s,.int .i64 p,v] w λe w'=>e=bi (EY (AA s) p o)/\dc w w':=by
 have W:Hid (AQ w v o):=I;have L:Hid (∀n,dc w n->Calls prog 75 #[v] n λe w'=>e=.returned (.bool (FM o))/\w'=n):=λn hb=>GV v o R (I.keep hb);cases f:AV (AA s)with
 |none=>
  have y:Hid (EY (AA s) p o=(false,1)):=by show EY _ _ _=_;unfold EY;rw[f]
  have hk:=Ev s p 0 w J f;obtain⟨X,Y,rfl, -, -⟩:=I;clear f J;go_enter func44,ntmps44;go_wp2_with fail;refine hk.mono ?_;rintro e n ⟨rfl,b⟩;go_wp2_with fail
  go_ret2
  exact⟨by rw[y.out];rfl,b⟩
 |some m=>
  have y:Hid (EY (AA s) p o=if p<0\/(m.st.length:Int)<=p then(false,2)else if FM o=true then(H_ (ovE o) (BT o) (m.st.getD p.toNat AY),0)else(false,3)):=by show EY _ _ _=_;unfold EY;rw[f]
  have hk:=Ew s p 0 w J f;have V:Hid (∀k,SI (m.st.getD k AY)):=λk=>Ga f k;have i:Hid (_↔_):=Uz m p;obtain⟨X,Y,rfl, -, -⟩:=id I;clear f J I;go_enter func44,ntmps44;go_wp2_with fail;refine hk.mono ?_;rintro e n ⟨b,⟨rfl,a⟩|⟨a,aa,r,B,vs,vo,P,Q,O,rfl,g⟩⟩
  .have d:Hid (EY (AA s) p o=(false,2)):=y.out.trans (bA (i.out.1 a));clear y a hk;go_wp2_with fail
   go_ret2
   exact⟨by rw[d.out];rfl,b⟩
  .have C:¬(p<0\/(m.st.length:Int)<=p):=λz=>a (i.out.2 z);obtain⟨k,rfl⟩:∃k:Nat,p=k:=⟨p.toNat,by omega⟩
   have N:k<m.st.length:=by omega
   have d:Hid (EY (AA s) k o=if FM o=true then(H_ (ovE o) (BT o) (m.st.getD k AY),0)else(false,3)):=y.out.trans (a_ C);have j:=L.out n b;have t:Hid (dc w n):=b;by_cases c:B_ o
   .have S:=UC g k N (V.out k) _ o c (W.out.keep b);rw[CG.2 c]at j;have A:Hid (EY (AA s) k o=(H_ (ovE o) (BT o) (m.st.getD k AY),0)):=d.out.trans (bA (CG.2 c));clear y d a hk C g b c i;generalize H_ (ovE o) (BT o) (m.st.getD k AY)=sf at *;go_wp2_with fail;refine j.mono ?_;rintro e w2 ⟨rfl,D⟩;subst D;go_wp2_with fail;refine S.mono ?_;rintro e w3 ⟨rfl,M⟩;go_wp2_with fail
    go_ret2
    exact⟨by rw[A.out];rfl,t.out.trans (M.mono t.out.size)⟩
   .rw[GO c]at j;have A:Hid (EY (AA s) k o=(false,3)):=d.out.trans (a_ (by rw[GO c];decide));clear y d a hk C g b c i;go_wp2_with fail;refine j.mono ?_;rintro e w2 ⟨rfl,D⟩;subst D;go_wp2_with fail
    go_ret2
    exact⟨by rw[A.out];rfl,t.out⟩
end Go.Proofs.YtffajooegiempaaGreatDoor
