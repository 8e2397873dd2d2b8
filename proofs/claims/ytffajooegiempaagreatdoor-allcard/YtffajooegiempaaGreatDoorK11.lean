import Derived.Test.YtffajooegiempaaGreatDoorK10
import Derived.Deep.RegionWith
set_option maxRecDepth 100000
set_option maxHeartbeats 6400000
namespace Go.Proofs.YtffajooegiempaaGreatDoor
open Go.RowKit Go.Proofs.Tryz
variable {w:World}{e0:Bool}{M:Nat->Int}{b:Nat}
theorem Gg{I:Array Oper}{S:List Oper}{o:Oper}{a:Act}{Q:Exit->Act->World->Prop}(hw:Region.wanted o (yielded I a.tmps)=true)(p:Operand)(W:o.op=Op.load tO p)(hp:a.eval p=.pointer (some ⟨b,0,none⟩))(V:AL w b e0 M)
  (g:wpList prog I Q S (a.put o.dst (.agg (oc e0 M))) w):wpList prog I Q (o::S) a w:=by
 refine wpList_step λK aa=>?_;rw[bA hw];unfold Oper.wp;simp[execOp,W,hp,IY V,Result.andThen];exact aa _ _ g
theorem Dy{I:Array Oper}{o:Oper}{a:Act}{K:Act->World->Prop}{Q:Exit->Act->World->Prop}{E:Prop}(hw:Region.wanted o (yielded I a.tmps)=true)(p:Operand)(W:o.op=Op.load tO p)(hp:a.eval p=.pointer (some ⟨b,0,none⟩))(V:AL w b e0 M)
  (g:K (a.put o.dst (.agg (oc e0 M))) w):if Region.wanted o (yielded I a.tmps)=true then Oper.wp prog o a w K Q else E:=by
 rw[bA hw];unfold Oper.wp;simp[execOp,W,hp,IY V,Result.andThen];exact g
theorem Th(N:Sm M){i j:Nat}(hi:i<8)(hj:j<8): -200000000000000000<=mo M i j/\mo M i j<=1000000000000:=by
 have:=N (i*8+j) (by omega);have t:=AW (M (i*8+j));unfold mo;split<;>omega
def FC(M:Nat->Int)(l:List Int):Int:=mo M (CF l) (C4 l)
theorem JZ(N:Sm M)(l:List Int): -200000000000000000<=FC M l/\FC M l<=1000000000000:=Th N (Cx l 4 (bB _)).1 (Cx l 4 (bB _)).2
def ftB(M:Nat->Int)(l:List Int)(n:Int):Bool:=decide (FC M l≠NB/\FC M (Dv l)≠NB/\FC M l+n<=999/\FC M (Dv l)-n<=999)
theorem BM{a b:Bool}(h:a=b):Ending.returned (.bool b)=.returned (.bool a):=by rw[h]
structure OY(x:Ds):Prop where
 sg:∀i, -1<=AK x.sg i/\AK x.sg i<=1
 num: -99<=x.num/\x.num<=99
theorem DJ{l:List Int}(h:∀i, -1<=AK l i/\AK l i<=1):∀i, -1<=AK (Dv l) i/\AK (Dv l) i<=1:=by
 intro i;rcases(show i=0\/i=1\/i=2\/i=3\/4<=i by omega)with rfl|rfl|rfl|rfl|h4
 .have:=h 0;show -1<= -AK l 0/\ -AK l 0<=1;omega
 .have:=h 1;show -1<= -AK l 1/\ -AK l 1<=1;omega
 .have:=h 2;show -1<= -AK l 2/\ -AK l 2<=1;omega
 .have:=h 3;show -1<= -AK l 3/\ -AK l 3<=1;omega
 .have:AK (Dv l) i=0:=by unfold AK Dv;rw[bG,bO (by simp;omega)];rfl
  omega
theorem Xf(x:Ds)(hx:OY x)(N:Sm M):
  Calls prog 115 #[B0 x,.agg (oc e0 M)] w λe w'=>e=.returned (.bool (ftB M x.sg x.num))/\dc w w':=by
 have Z:Hid (∀u,Calls prog 116 #[.agg (oc e0 M),v4 x.sg] u λe w'=>e=.returned (.int .i64 (FC M x.sg))/\dc u w'):=λu=>Fw x.sg hx.sg N;have s:Hid (∀u,Calls prog 116 #[.agg (oc e0 M),v4 (Dv x.sg)] u λe w'=>e=.returned (.int .i64 (FC M (Dv x.sg)))/\dc u w'):=λu=>Fw (Dv x.sg) (DJ hx.sg) N;have y:Hid (∀u,Calls prog 114 #[v4 x.sg] u λe w'=>e=.returned (v4 (Dv x.sg))/\dc u w'):=λu=>Ng x.sg hx.sg;have X:Hid (ftB M x.sg x.num=decide (FC M x.sg≠NB/\FC M (Dv x.sg)≠NB/\FC M x.sg+x.num<=999/\FC M (Dv x.sg)-x.num<=999)):=rfl;obtain⟨r1,r2⟩:=JZ N x.sg;obtain⟨r3,r4⟩:=JZ N (Dv x.sg);obtain⟨n1,n2⟩:=hx.num;obtain⟨L,H⟩:∃L,L=(w.alloc (.cells (AD x) BB)).alloc (.cells (oc e0 M) tO):=⟨_,rfl⟩
 have T:Hid (At L w.heap.size (AD x) BB/\AL L (w.heap.size+1) e0 M/\dc w L/\L.heap.size=w.heap.size+2):=by
  refine⟨by rw[H];exact At.allocH (At.new _ _ _) _,?_,by rw[H];exact((bC _ _).alloc (bB _) _).alloc (by simp) _,by rw[H];simp⟩;have:=At.new (w.alloc (.cells (AD x) BB)) (oc e0 M) tO;rw[show(w.alloc (.cells (AD x) BB)).heap.size=w.heap.size+1 by simp]at this;rw[H];exact this
 generalize hn:x.num=n at *;generalize FC M x.sg=hi at *;generalize FC M (Dv x.sg)=lo at *;obtain⟨BW,U⟩:∃BW:World->Prop,BW=λw'=>dc L w':=⟨_,rfl⟩
 have G:Calls prog 116 #[.agg (oc e0 M),v4 x.sg] L λe w'=>e=.returned (.int .i64 hi)/\BW w':=by rw[U];exact Z.out L
 have Y:=T.out.2.1;rw[H]at G Y;clear N hx Z;unfold AD at G Y;unfold v4 at G;unfold B0;rw[hn]at G Y|-;go_enter func115,ntmps115;go_wp2_with (refine AH rfl (.tmp 3) rfl rfl Y ?_);refine G.mono ?_;rintro e u ⟨rfl,J⟩;rw[U]at J;have D:Hid (At u w.heap.size (AD x) BB/\AL u (w.heap.size+1) e0 M/\dc w u):=by
  have s0:=T.out.2.2.2;exact⟨At.keep T.out.1 J (by omega),At.keep T.out.2.1 J (by omega),T.out.2.2.1.trans (J.mono T.out.2.2.1.size)⟩
 clear J G Y U H T;have B:Hid (∀b:Bool,decide (hi≠NB/\lo≠NB/\hi+n<=999/\lo-n<=999)=b->ftB M x.sg n=b):=λb h=>X.out.trans h;by_cases P:hi=NB
 .have C:Hid (ftB M x.sg n=false):=B.out false (bT (λz=>z.1 P));have b1:(hi==1000000)=true:=by rw[P];rfl
  clear X B P;go_wp2_with fail;refine wp_region_any (by kernel_rfl) ?_;change wpAny _ _ _ _ _ _ _ (World.drew _);have d:Hid (At u.drew w.heap.size (AD x) BB/\AL u.drew (w.heap.size+1) e0 M/\dc w u.drew):=⟨D.out.1,D.out.2.1,D.out.2.2.drew⟩
  generalize u.drew=w2 at *;have d3:w2.cell? ⟨w.heap.size,3,none⟩=some (.int .i64 (AK x.sg 0)):=d.out.1.cell 3;have d4:w2.cell? ⟨w.heap.size,4,none⟩=some (.int .i64 (AK x.sg 1)):=d.out.1.cell 4;have d5:w2.cell? ⟨w.heap.size,5,none⟩=some (.int .i64 (AK x.sg 2)):=d.out.1.cell 5;have d6:w2.cell? ⟨w.heap.size,6,none⟩=some (.int .i64 (AK x.sg 3)):=d.out.1.cell 6;have O:w.heap.size<w2.heap.size:=d.out.1.lt;refine bQ (i:=1) (v:=.pointer (some ⟨w.heap.size,3,none⟩)) rfl (by kernel_rfl) (by kernel_rfl) (by kernel_rfl) (λ_ _ _ h=>h) (b_ ⟨by rfl,by intro w;go_simp⟩) ?_;refine bI (rs:=[0,2]) (by kernel_rfl) (by simp) ?_;refine bE rfl (λK g=>?_) (bE rfl (λK g=>?_) bF)
  .refine AX rfl (.tmp 3) rfl rfl d.out.2.1 ?_;refine g _ _ ?_;clear g K;refine bI (rs:=[2]) (by kernel_rfl) (by simp) ?_;refine bE rfl (λK g=>?_) bF;go_simp;refine g _ _ ?_;clear g K;refine bI (rs:=[3]) (by kernel_rfl) (by simp) ?_;refine bE rfl (λK g=>?_) bF;go_simp;go_wp2_with (go_at_call 114;refine(y.out _).mono ?_;rintro e r ⟨rfl,c⟩);have k:Hid (At r w.heap.size (AD x) BB/\AL r (w.heap.size+1) e0 M/\dc w r):=⟨At.keep d.out.1 c d.out.1.lt,At.keep d.out.2.1 c (At.lt d.out.2.1),d.out.2.2.trans (c.mono d.out.2.2.size)⟩
   clear c;refine bI (rs:=[4]) (by kernel_rfl) (by simp) ?_;refine bE rfl (λK g=>?_) bF;go_simp;go_wp2_with (go_at_call 116;refine(s.out _).mono ?_;rintro e m ⟨rfl,f⟩);have q:Hid (At m w.heap.size (AD x) BB/\dc w m):=⟨At.keep k.out.1 f k.out.1.lt,k.out.2.2.trans (f.mono k.out.2.2.size)⟩
   have F:m.cell? ⟨w.heap.size,7,none⟩=some (.int .i64 n):=by rw[q.out.1.cell,<-hn];rfl
   have A:w.heap.size<m.heap.size:=q.out.1.lt;clear f;refine bQ (i:=5) (v:=.int .i64 lo) rfl (by kernel_rfl) (by kernel_rfl) (by kernel_rfl) (λ_ _ _ h=>h) (b_ ⟨by rfl,by intro w;go_simp⟩) ?_;refine cr (by kernel_rfl) ?_ _;go_wp2_with fail;go_ret;exact⟨BM C.out,q.out.2⟩
  .go_simp;refine g _ _ ?_;clear g K;refine bI (rs:=[0,3]) (by kernel_rfl) (by simp) ?_;refine bE rfl (λK g=>?_) (bE rfl (λK g=>?_) bF)
   .refine AX rfl (.tmp 3) rfl rfl d.out.2.1 ?_;refine g _ _ ?_;clear g K;refine bI (rs:=[3]) (by kernel_rfl) (by simp) ?_;refine bE rfl (λK g=>?_) bF;go_simp;go_wp2_with (go_at_call 114;refine(y.out _).mono ?_;rintro e r ⟨rfl,c⟩);have k:Hid (At r w.heap.size (AD x) BB/\AL r (w.heap.size+1) e0 M/\dc w r):=⟨At.keep d.out.1 c d.out.1.lt,At.keep d.out.2.1 c (At.lt d.out.2.1),d.out.2.2.trans (c.mono d.out.2.2.size)⟩
    clear c;refine bI (rs:=[4]) (by kernel_rfl) (by simp) ?_;refine bE rfl (λK g=>?_) bF;go_simp;go_wp2_with (go_at_call 116;refine(s.out _).mono ?_;rintro e m ⟨rfl,f⟩);have q:Hid (At m w.heap.size (AD x) BB/\dc w m):=⟨At.keep k.out.1 f k.out.1.lt,k.out.2.2.trans (f.mono k.out.2.2.size)⟩
    have F:m.cell? ⟨w.heap.size,7,none⟩=some (.int .i64 n):=by rw[q.out.1.cell,<-hn];rfl
    have A:w.heap.size<m.heap.size:=q.out.1.lt;clear f;refine bQ (i:=5) (v:=.int .i64 lo) rfl (by kernel_rfl) (by kernel_rfl) (by kernel_rfl) (λ_ _ _ h=>h) (b_ ⟨by rfl,by intro w;go_simp⟩) ?_;refine cr (by kernel_rfl) ?_ _;go_wp2_with fail;go_ret;exact⟨BM C.out,q.out.2⟩
   .go_simp;go_wp2_with (go_at_call 114;refine(y.out _).mono ?_;rintro e r ⟨rfl,c⟩);have k:Hid (At r w.heap.size (AD x) BB/\AL r (w.heap.size+1) e0 M/\dc w r):=⟨At.keep d.out.1 c d.out.1.lt,At.keep d.out.2.1 c (At.lt d.out.2.1),d.out.2.2.trans (c.mono d.out.2.2.size)⟩
    clear c;refine bI (rs:=[0]) (by kernel_rfl) (by simp) ?_;refine bE rfl (λK g=>?_) bF;refine AX rfl (.tmp 3) rfl rfl k.out.2.1 ?_;refine g _ _ ?_;clear g K;refine bI (rs:=[4]) (by kernel_rfl) (by simp) ?_;refine bE rfl (λK g=>?_) bF;go_simp;go_wp2_with (go_at_call 116;refine(s.out _).mono ?_;rintro e m ⟨rfl,f⟩);have q:Hid (At m w.heap.size (AD x) BB/\dc w m):=⟨At.keep k.out.1 f k.out.1.lt,k.out.2.2.trans (f.mono k.out.2.2.size)⟩
    have F:m.cell? ⟨w.heap.size,7,none⟩=some (.int .i64 n):=by rw[q.out.1.cell,<-hn];rfl
    have A:w.heap.size<m.heap.size:=q.out.1.lt;clear f;refine bQ (i:=5) (v:=.int .i64 lo) rfl (by kernel_rfl) (by kernel_rfl) (by kernel_rfl) (λ_ _ _ h=>h) (b_ ⟨by rfl,by intro w;go_simp⟩) ?_;refine cr (by kernel_rfl) ?_ _;go_wp2_with fail;go_ret;exact⟨BM C.out,q.out.2⟩
 have b1:(hi==1000000)=false:=by rw[b9];exact P
 by_cases R:lo=NB
 .have C:Hid (ftB M x.sg n=false):=B.out false (bT (λz=>z.2.1 R));have b2:(lo==1000000)=true:=by rw[R];rfl
  clear X B P R;go_wp2_with fail;refine wp_region_any (by kernel_rfl) ?_;change wpAny _ _ _ _ _ _ _ (World.drew _);have d:Hid (At u.drew w.heap.size (AD x) BB/\AL u.drew (w.heap.size+1) e0 M/\dc w u.drew):=⟨D.out.1,D.out.2.1,D.out.2.2.drew⟩
  generalize u.drew=w2 at *;have d3:w2.cell? ⟨w.heap.size,3,none⟩=some (.int .i64 (AK x.sg 0)):=d.out.1.cell 3;have d4:w2.cell? ⟨w.heap.size,4,none⟩=some (.int .i64 (AK x.sg 1)):=d.out.1.cell 4;have d5:w2.cell? ⟨w.heap.size,5,none⟩=some (.int .i64 (AK x.sg 2)):=d.out.1.cell 5;have d6:w2.cell? ⟨w.heap.size,6,none⟩=some (.int .i64 (AK x.sg 3)):=d.out.1.cell 6;have O:w.heap.size<w2.heap.size:=d.out.1.lt;refine bQ (i:=1) (v:=.pointer (some ⟨w.heap.size,3,none⟩)) rfl (by kernel_rfl) (by kernel_rfl) (by kernel_rfl) (λ_ _ _ h=>h) (b_ ⟨by rfl,by intro w;go_simp⟩) ?_;refine bI (rs:=[0,2]) (by kernel_rfl) (by simp) ?_;refine bE rfl (λK g=>?_) (bE rfl (λK g=>?_) bF)
  .refine AX rfl (.tmp 3) rfl rfl d.out.2.1 ?_;refine g _ _ ?_;clear g K;refine bI (rs:=[2]) (by kernel_rfl) (by simp) ?_;refine bE rfl (λK g=>?_) bF;go_simp;refine g _ _ ?_;clear g K;refine bI (rs:=[3]) (by kernel_rfl) (by simp) ?_;refine bE rfl (λK g=>?_) bF;go_simp;go_wp2_with (go_at_call 114;refine(y.out _).mono ?_;rintro e r ⟨rfl,c⟩);have k:Hid (At r w.heap.size (AD x) BB/\AL r (w.heap.size+1) e0 M/\dc w r):=⟨At.keep d.out.1 c d.out.1.lt,At.keep d.out.2.1 c (At.lt d.out.2.1),d.out.2.2.trans (c.mono d.out.2.2.size)⟩
   clear c;refine bI (rs:=[4]) (by kernel_rfl) (by simp) ?_;refine bE rfl (λK g=>?_) bF;go_simp;go_wp2_with (go_at_call 116;refine(s.out _).mono ?_;rintro e m ⟨rfl,f⟩);have q:Hid (At m w.heap.size (AD x) BB/\dc w m):=⟨At.keep k.out.1 f k.out.1.lt,k.out.2.2.trans (f.mono k.out.2.2.size)⟩
   have F:m.cell? ⟨w.heap.size,7,none⟩=some (.int .i64 n):=by rw[q.out.1.cell,<-hn];rfl
   have A:w.heap.size<m.heap.size:=q.out.1.lt;clear f;refine bQ (i:=5) (v:=.int .i64 lo) rfl (by kernel_rfl) (by kernel_rfl) (by kernel_rfl) (λ_ _ _ h=>h) (b_ ⟨by rfl,by intro w;go_simp⟩) ?_;refine cr (by kernel_rfl) ?_ _;go_wp2_with fail;go_ret;exact⟨BM C.out,q.out.2⟩
  .go_simp;refine g _ _ ?_;clear g K;refine bI (rs:=[0,3]) (by kernel_rfl) (by simp) ?_;refine bE rfl (λK g=>?_) (bE rfl (λK g=>?_) bF)
   .refine AX rfl (.tmp 3) rfl rfl d.out.2.1 ?_;refine g _ _ ?_;clear g K;refine bI (rs:=[3]) (by kernel_rfl) (by simp) ?_;refine bE rfl (λK g=>?_) bF;go_simp;go_wp2_with (go_at_call 114;refine(y.out _).mono ?_;rintro e r ⟨rfl,c⟩);have k:Hid (At r w.heap.size (AD x) BB/\AL r (w.heap.size+1) e0 M/\dc w r):=⟨At.keep d.out.1 c d.out.1.lt,At.keep d.out.2.1 c (At.lt d.out.2.1),d.out.2.2.trans (c.mono d.out.2.2.size)⟩
    clear c;refine bI (rs:=[4]) (by kernel_rfl) (by simp) ?_;refine bE rfl (λK g=>?_) bF;go_simp;go_wp2_with (go_at_call 116;refine(s.out _).mono ?_;rintro e m ⟨rfl,f⟩);have q:Hid (At m w.heap.size (AD x) BB/\dc w m):=⟨At.keep k.out.1 f k.out.1.lt,k.out.2.2.trans (f.mono k.out.2.2.size)⟩
    have F:m.cell? ⟨w.heap.size,7,none⟩=some (.int .i64 n):=by rw[q.out.1.cell,<-hn];rfl
    have A:w.heap.size<m.heap.size:=q.out.1.lt;clear f;refine bQ (i:=5) (v:=.int .i64 lo) rfl (by kernel_rfl) (by kernel_rfl) (by kernel_rfl) (λ_ _ _ h=>h) (b_ ⟨by rfl,by intro w;go_simp⟩) ?_;refine cr (by kernel_rfl) ?_ _;go_wp2_with fail;go_ret;exact⟨BM C.out,q.out.2⟩
   .go_simp;go_wp2_with (go_at_call 114;refine(y.out _).mono ?_;rintro e r ⟨rfl,c⟩);have k:Hid (At r w.heap.size (AD x) BB/\AL r (w.heap.size+1) e0 M/\dc w r):=⟨At.keep d.out.1 c d.out.1.lt,At.keep d.out.2.1 c (At.lt d.out.2.1),d.out.2.2.trans (c.mono d.out.2.2.size)⟩
    clear c;refine bI (rs:=[0]) (by kernel_rfl) (by simp) ?_;refine bE rfl (λK g=>?_) bF;refine AX rfl (.tmp 3) rfl rfl k.out.2.1 ?_;refine g _ _ ?_;clear g K;refine bI (rs:=[4]) (by kernel_rfl) (by simp) ?_;refine bE rfl (λK g=>?_) bF;go_simp;go_wp2_with (go_at_call 116;refine(s.out _).mono ?_;rintro e m ⟨rfl,f⟩);have q:Hid (At m w.heap.size (AD x) BB/\dc w m):=⟨At.keep k.out.1 f k.out.1.lt,k.out.2.2.trans (f.mono k.out.2.2.size)⟩
    have F:m.cell? ⟨w.heap.size,7,none⟩=some (.int .i64 n):=by rw[q.out.1.cell,<-hn];rfl
    have A:w.heap.size<m.heap.size:=q.out.1.lt;clear f;refine bQ (i:=5) (v:=.int .i64 lo) rfl (by kernel_rfl) (by kernel_rfl) (by kernel_rfl) (λ_ _ _ h=>h) (b_ ⟨by rfl,by intro w;go_simp⟩) ?_;refine cr (by kernel_rfl) ?_ _;go_wp2_with fail;go_ret;exact⟨BM C.out,q.out.2⟩
 have b2:(lo==1000000)=false:=by rw[b9];exact R
 by_cases q3:hi+n<=999
 .by_cases q4:lo-n<=999
  .have C:Hid (ftB M x.sg n=true):=B.out true (cC ⟨P,R,q3,q4⟩);clear X B P R;go_wp2_with fail;refine wp_region_any (by kernel_rfl) ?_;change wpAny _ _ _ _ _ _ _ (World.drew _);have d:Hid (At u.drew w.heap.size (AD x) BB/\AL u.drew (w.heap.size+1) e0 M/\dc w u.drew):=⟨D.out.1,D.out.2.1,D.out.2.2.drew⟩
   generalize u.drew=w2 at *;have d3:w2.cell? ⟨w.heap.size,3,none⟩=some (.int .i64 (AK x.sg 0)):=d.out.1.cell 3;have d4:w2.cell? ⟨w.heap.size,4,none⟩=some (.int .i64 (AK x.sg 1)):=d.out.1.cell 4;have d5:w2.cell? ⟨w.heap.size,5,none⟩=some (.int .i64 (AK x.sg 2)):=d.out.1.cell 5;have d6:w2.cell? ⟨w.heap.size,6,none⟩=some (.int .i64 (AK x.sg 3)):=d.out.1.cell 6;have O:w.heap.size<w2.heap.size:=d.out.1.lt;refine bQ (i:=1) (v:=.pointer (some ⟨w.heap.size,3,none⟩)) rfl (by kernel_rfl) (by kernel_rfl) (by kernel_rfl) (λ_ _ _ h=>h) (b_ ⟨by rfl,by intro w;go_simp⟩) ?_;refine bI (rs:=[0,2]) (by kernel_rfl) (by simp) ?_;refine bE rfl (λK g=>?_) (bE rfl (λK g=>?_) bF)
   .refine AX rfl (.tmp 3) rfl rfl d.out.2.1 ?_;refine g _ _ ?_;clear g K;refine bI (rs:=[2]) (by kernel_rfl) (by simp) ?_;refine bE rfl (λK g=>?_) bF;go_simp;refine g _ _ ?_;clear g K;refine bI (rs:=[3]) (by kernel_rfl) (by simp) ?_;refine bE rfl (λK g=>?_) bF;go_simp;go_wp2_with (go_at_call 114;refine(y.out _).mono ?_;rintro e r ⟨rfl,c⟩);have k:Hid (At r w.heap.size (AD x) BB/\AL r (w.heap.size+1) e0 M/\dc w r):=⟨At.keep d.out.1 c d.out.1.lt,At.keep d.out.2.1 c (At.lt d.out.2.1),d.out.2.2.trans (c.mono d.out.2.2.size)⟩
    clear c;refine bI (rs:=[4]) (by kernel_rfl) (by simp) ?_;refine bE rfl (λK g=>?_) bF;go_simp;go_wp2_with (go_at_call 116;refine(s.out _).mono ?_;rintro e m ⟨rfl,f⟩);have q:Hid (At m w.heap.size (AD x) BB/\dc w m):=⟨At.keep k.out.1 f k.out.1.lt,k.out.2.2.trans (f.mono k.out.2.2.size)⟩
    have F:m.cell? ⟨w.heap.size,7,none⟩=some (.int .i64 n):=by rw[q.out.1.cell,<-hn];rfl
    have A:w.heap.size<m.heap.size:=q.out.1.lt;clear f;refine bQ (i:=5) (v:=.int .i64 lo) rfl (by kernel_rfl) (by kernel_rfl) (by kernel_rfl) (λ_ _ _ h=>h) (b_ ⟨by rfl,by intro w;go_simp⟩) ?_;refine cr (by kernel_rfl) ?_ _;go_wp2_with fail;go_ret;exact⟨BM C.out,q.out.2⟩
   .go_simp;refine g _ _ ?_;clear g K;refine bI (rs:=[0,3]) (by kernel_rfl) (by simp) ?_;refine bE rfl (λK g=>?_) (bE rfl (λK g=>?_) bF)
    .refine AX rfl (.tmp 3) rfl rfl d.out.2.1 ?_;refine g _ _ ?_;clear g K;refine bI (rs:=[3]) (by kernel_rfl) (by simp) ?_;refine bE rfl (λK g=>?_) bF;go_simp;go_wp2_with (go_at_call 114;refine(y.out _).mono ?_;rintro e r ⟨rfl,c⟩);have k:Hid (At r w.heap.size (AD x) BB/\AL r (w.heap.size+1) e0 M/\dc w r):=⟨At.keep d.out.1 c d.out.1.lt,At.keep d.out.2.1 c (At.lt d.out.2.1),d.out.2.2.trans (c.mono d.out.2.2.size)⟩
     clear c;refine bI (rs:=[4]) (by kernel_rfl) (by simp) ?_;refine bE rfl (λK g=>?_) bF;go_simp;go_wp2_with (go_at_call 116;refine(s.out _).mono ?_;rintro e m ⟨rfl,f⟩);have q:Hid (At m w.heap.size (AD x) BB/\dc w m):=⟨At.keep k.out.1 f k.out.1.lt,k.out.2.2.trans (f.mono k.out.2.2.size)⟩
     have F:m.cell? ⟨w.heap.size,7,none⟩=some (.int .i64 n):=by rw[q.out.1.cell,<-hn];rfl
     have A:w.heap.size<m.heap.size:=q.out.1.lt;clear f;refine bQ (i:=5) (v:=.int .i64 lo) rfl (by kernel_rfl) (by kernel_rfl) (by kernel_rfl) (λ_ _ _ h=>h) (b_ ⟨by rfl,by intro w;go_simp⟩) ?_;refine cr (by kernel_rfl) ?_ _;go_wp2_with fail;go_ret;exact⟨BM C.out,q.out.2⟩
    .go_simp;go_wp2_with (go_at_call 114;refine(y.out _).mono ?_;rintro e r ⟨rfl,c⟩);have k:Hid (At r w.heap.size (AD x) BB/\AL r (w.heap.size+1) e0 M/\dc w r):=⟨At.keep d.out.1 c d.out.1.lt,At.keep d.out.2.1 c (At.lt d.out.2.1),d.out.2.2.trans (c.mono d.out.2.2.size)⟩
     clear c;refine bI (rs:=[0]) (by kernel_rfl) (by simp) ?_;refine bE rfl (λK g=>?_) bF;refine AX rfl (.tmp 3) rfl rfl k.out.2.1 ?_;refine g _ _ ?_;clear g K;refine bI (rs:=[4]) (by kernel_rfl) (by simp) ?_;refine bE rfl (λK g=>?_) bF;go_simp;go_wp2_with (go_at_call 116;refine(s.out _).mono ?_;rintro e m ⟨rfl,f⟩);have q:Hid (At m w.heap.size (AD x) BB/\dc w m):=⟨At.keep k.out.1 f k.out.1.lt,k.out.2.2.trans (f.mono k.out.2.2.size)⟩
     have F:m.cell? ⟨w.heap.size,7,none⟩=some (.int .i64 n):=by rw[q.out.1.cell,<-hn];rfl
     have A:w.heap.size<m.heap.size:=q.out.1.lt;clear f;refine bQ (i:=5) (v:=.int .i64 lo) rfl (by kernel_rfl) (by kernel_rfl) (by kernel_rfl) (λ_ _ _ h=>h) (b_ ⟨by rfl,by intro w;go_simp⟩) ?_;refine cr (by kernel_rfl) ?_ _;go_wp2_with fail;go_ret;exact⟨BM C.out,q.out.2⟩
  .have C:Hid (ftB M x.sg n=decide (lo-n<=999)):=(B.out false (bT (λz=>q4 z.2.2.2))).trans (bT q4).symm;clear X B P R;go_wp2_with fail;refine wp_region_any (by kernel_rfl) ?_;change wpAny _ _ _ _ _ _ _ (World.drew _);have d:Hid (At u.drew w.heap.size (AD x) BB/\AL u.drew (w.heap.size+1) e0 M/\dc w u.drew):=⟨D.out.1,D.out.2.1,D.out.2.2.drew⟩
   generalize u.drew=w2 at *;have d3:w2.cell? ⟨w.heap.size,3,none⟩=some (.int .i64 (AK x.sg 0)):=d.out.1.cell 3;have d4:w2.cell? ⟨w.heap.size,4,none⟩=some (.int .i64 (AK x.sg 1)):=d.out.1.cell 4;have d5:w2.cell? ⟨w.heap.size,5,none⟩=some (.int .i64 (AK x.sg 2)):=d.out.1.cell 5;have d6:w2.cell? ⟨w.heap.size,6,none⟩=some (.int .i64 (AK x.sg 3)):=d.out.1.cell 6;have O:w.heap.size<w2.heap.size:=d.out.1.lt;refine bQ (i:=1) (v:=.pointer (some ⟨w.heap.size,3,none⟩)) rfl (by kernel_rfl) (by kernel_rfl) (by kernel_rfl) (λ_ _ _ h=>h) (b_ ⟨by rfl,by intro w;go_simp⟩) ?_;refine bI (rs:=[0,2]) (by kernel_rfl) (by simp) ?_;refine bE rfl (λK g=>?_) (bE rfl (λK g=>?_) bF)
   .refine AX rfl (.tmp 3) rfl rfl d.out.2.1 ?_;refine g _ _ ?_;clear g K;refine bI (rs:=[2]) (by kernel_rfl) (by simp) ?_;refine bE rfl (λK g=>?_) bF;go_simp;refine g _ _ ?_;clear g K;refine bI (rs:=[3]) (by kernel_rfl) (by simp) ?_;refine bE rfl (λK g=>?_) bF;go_simp;go_wp2_with (go_at_call 114;refine(y.out _).mono ?_;rintro e r ⟨rfl,c⟩);have k:Hid (At r w.heap.size (AD x) BB/\AL r (w.heap.size+1) e0 M/\dc w r):=⟨At.keep d.out.1 c d.out.1.lt,At.keep d.out.2.1 c (At.lt d.out.2.1),d.out.2.2.trans (c.mono d.out.2.2.size)⟩
    clear c;refine bI (rs:=[4]) (by kernel_rfl) (by simp) ?_;refine bE rfl (λK g=>?_) bF;go_simp;go_wp2_with (go_at_call 116;refine(s.out _).mono ?_;rintro e m ⟨rfl,f⟩);have q:Hid (At m w.heap.size (AD x) BB/\dc w m):=⟨At.keep k.out.1 f k.out.1.lt,k.out.2.2.trans (f.mono k.out.2.2.size)⟩
    have F:m.cell? ⟨w.heap.size,7,none⟩=some (.int .i64 n):=by rw[q.out.1.cell,<-hn];rfl
    have A:w.heap.size<m.heap.size:=q.out.1.lt;clear f;refine bQ (i:=5) (v:=.int .i64 lo) rfl (by kernel_rfl) (by kernel_rfl) (by kernel_rfl) (λ_ _ _ h=>h) (b_ ⟨by rfl,by intro w;go_simp⟩) ?_;refine cr (by kernel_rfl) ?_ _;go_wp2_with fail;go_ret;exact⟨BM C.out,q.out.2⟩
   .go_simp;refine g _ _ ?_;clear g K;refine bI (rs:=[0,3]) (by kernel_rfl) (by simp) ?_;refine bE rfl (λK g=>?_) (bE rfl (λK g=>?_) bF)
    .refine AX rfl (.tmp 3) rfl rfl d.out.2.1 ?_;refine g _ _ ?_;clear g K;refine bI (rs:=[3]) (by kernel_rfl) (by simp) ?_;refine bE rfl (λK g=>?_) bF;go_simp;go_wp2_with (go_at_call 114;refine(y.out _).mono ?_;rintro e r ⟨rfl,c⟩);have k:Hid (At r w.heap.size (AD x) BB/\AL r (w.heap.size+1) e0 M/\dc w r):=⟨At.keep d.out.1 c d.out.1.lt,At.keep d.out.2.1 c (At.lt d.out.2.1),d.out.2.2.trans (c.mono d.out.2.2.size)⟩
     clear c;refine bI (rs:=[4]) (by kernel_rfl) (by simp) ?_;refine bE rfl (λK g=>?_) bF;go_simp;go_wp2_with (go_at_call 116;refine(s.out _).mono ?_;rintro e m ⟨rfl,f⟩);have q:Hid (At m w.heap.size (AD x) BB/\dc w m):=⟨At.keep k.out.1 f k.out.1.lt,k.out.2.2.trans (f.mono k.out.2.2.size)⟩
     have F:m.cell? ⟨w.heap.size,7,none⟩=some (.int .i64 n):=by rw[q.out.1.cell,<-hn];rfl
     have A:w.heap.size<m.heap.size:=q.out.1.lt;clear f;refine bQ (i:=5) (v:=.int .i64 lo) rfl (by kernel_rfl) (by kernel_rfl) (by kernel_rfl) (λ_ _ _ h=>h) (b_ ⟨by rfl,by intro w;go_simp⟩) ?_;refine cr (by kernel_rfl) ?_ _;go_wp2_with fail;go_ret;exact⟨BM C.out,q.out.2⟩
    .go_simp;go_wp2_with (go_at_call 114;refine(y.out _).mono ?_;rintro e r ⟨rfl,c⟩);have k:Hid (At r w.heap.size (AD x) BB/\AL r (w.heap.size+1) e0 M/\dc w r):=⟨At.keep d.out.1 c d.out.1.lt,At.keep d.out.2.1 c (At.lt d.out.2.1),d.out.2.2.trans (c.mono d.out.2.2.size)⟩
     clear c;refine bI (rs:=[0]) (by kernel_rfl) (by simp) ?_;refine bE rfl (λK g=>?_) bF;refine AX rfl (.tmp 3) rfl rfl k.out.2.1 ?_;refine g _ _ ?_;clear g K;refine bI (rs:=[4]) (by kernel_rfl) (by simp) ?_;refine bE rfl (λK g=>?_) bF;go_simp;go_wp2_with (go_at_call 116;refine(s.out _).mono ?_;rintro e m ⟨rfl,f⟩);have q:Hid (At m w.heap.size (AD x) BB/\dc w m):=⟨At.keep k.out.1 f k.out.1.lt,k.out.2.2.trans (f.mono k.out.2.2.size)⟩
     have F:m.cell? ⟨w.heap.size,7,none⟩=some (.int .i64 n):=by rw[q.out.1.cell,<-hn];rfl
     have A:w.heap.size<m.heap.size:=q.out.1.lt;clear f;refine bQ (i:=5) (v:=.int .i64 lo) rfl (by kernel_rfl) (by kernel_rfl) (by kernel_rfl) (λ_ _ _ h=>h) (b_ ⟨by rfl,by intro w;go_simp⟩) ?_;refine cr (by kernel_rfl) ?_ _;go_wp2_with fail;go_ret;exact⟨BM C.out,q.out.2⟩
 .have C:Hid (ftB M x.sg n=false):=B.out false (bT (λz=>q3 z.2.2.1));clear X B P R;go_wp2_with fail;refine wp_region_any (by kernel_rfl) ?_;change wpAny _ _ _ _ _ _ _ (World.drew _);have d:Hid (At u.drew w.heap.size (AD x) BB/\AL u.drew (w.heap.size+1) e0 M/\dc w u.drew):=⟨D.out.1,D.out.2.1,D.out.2.2.drew⟩
  generalize u.drew=w2 at *;have d3:w2.cell? ⟨w.heap.size,3,none⟩=some (.int .i64 (AK x.sg 0)):=d.out.1.cell 3;have d4:w2.cell? ⟨w.heap.size,4,none⟩=some (.int .i64 (AK x.sg 1)):=d.out.1.cell 4;have d5:w2.cell? ⟨w.heap.size,5,none⟩=some (.int .i64 (AK x.sg 2)):=d.out.1.cell 5;have d6:w2.cell? ⟨w.heap.size,6,none⟩=some (.int .i64 (AK x.sg 3)):=d.out.1.cell 6;have O:w.heap.size<w2.heap.size:=d.out.1.lt;refine bQ (i:=1) (v:=.pointer (some ⟨w.heap.size,3,none⟩)) rfl (by kernel_rfl) (by kernel_rfl) (by kernel_rfl) (λ_ _ _ h=>h) (b_ ⟨by rfl,by intro w;go_simp⟩) ?_;refine bI (rs:=[0,2]) (by kernel_rfl) (by simp) ?_;refine bE rfl (λK g=>?_) (bE rfl (λK g=>?_) bF)
  .refine AX rfl (.tmp 3) rfl rfl d.out.2.1 ?_;refine g _ _ ?_;clear g K;refine bI (rs:=[2]) (by kernel_rfl) (by simp) ?_;refine bE rfl (λK g=>?_) bF;go_simp;refine g _ _ ?_;clear g K;refine bI (rs:=[3]) (by kernel_rfl) (by simp) ?_;refine bE rfl (λK g=>?_) bF;go_simp;go_wp2_with (go_at_call 114;refine(y.out _).mono ?_;rintro e r ⟨rfl,c⟩);have k:Hid (At r w.heap.size (AD x) BB/\AL r (w.heap.size+1) e0 M/\dc w r):=⟨At.keep d.out.1 c d.out.1.lt,At.keep d.out.2.1 c (At.lt d.out.2.1),d.out.2.2.trans (c.mono d.out.2.2.size)⟩
   clear c;refine bI (rs:=[4]) (by kernel_rfl) (by simp) ?_;refine bE rfl (λK g=>?_) bF;go_simp;go_wp2_with (go_at_call 116;refine(s.out _).mono ?_;rintro e m ⟨rfl,f⟩);have q:Hid (At m w.heap.size (AD x) BB/\dc w m):=⟨At.keep k.out.1 f k.out.1.lt,k.out.2.2.trans (f.mono k.out.2.2.size)⟩
   have F:m.cell? ⟨w.heap.size,7,none⟩=some (.int .i64 n):=by rw[q.out.1.cell,<-hn];rfl
   have A:w.heap.size<m.heap.size:=q.out.1.lt;clear f;refine bQ (i:=5) (v:=.int .i64 lo) rfl (by kernel_rfl) (by kernel_rfl) (by kernel_rfl) (λ_ _ _ h=>h) (b_ ⟨by rfl,by intro w;go_simp⟩) ?_;refine cr (by kernel_rfl) ?_ _;go_wp2_with fail;go_ret;exact⟨BM C.out,q.out.2⟩
  .go_simp;refine g _ _ ?_;clear g K;refine bI (rs:=[0,3]) (by kernel_rfl) (by simp) ?_;refine bE rfl (λK g=>?_) (bE rfl (λK g=>?_) bF)
   .refine AX rfl (.tmp 3) rfl rfl d.out.2.1 ?_;refine g _ _ ?_;clear g K;refine bI (rs:=[3]) (by kernel_rfl) (by simp) ?_;refine bE rfl (λK g=>?_) bF;go_simp;go_wp2_with (go_at_call 114;refine(y.out _).mono ?_;rintro e r ⟨rfl,c⟩);have k:Hid (At r w.heap.size (AD x) BB/\AL r (w.heap.size+1) e0 M/\dc w r):=⟨At.keep d.out.1 c d.out.1.lt,At.keep d.out.2.1 c (At.lt d.out.2.1),d.out.2.2.trans (c.mono d.out.2.2.size)⟩
    clear c;refine bI (rs:=[4]) (by kernel_rfl) (by simp) ?_;refine bE rfl (λK g=>?_) bF;go_simp;go_wp2_with (go_at_call 116;refine(s.out _).mono ?_;rintro e m ⟨rfl,f⟩);have q:Hid (At m w.heap.size (AD x) BB/\dc w m):=⟨At.keep k.out.1 f k.out.1.lt,k.out.2.2.trans (f.mono k.out.2.2.size)⟩
    have F:m.cell? ⟨w.heap.size,7,none⟩=some (.int .i64 n):=by rw[q.out.1.cell,<-hn];rfl
    have A:w.heap.size<m.heap.size:=q.out.1.lt;clear f;refine bQ (i:=5) (v:=.int .i64 lo) rfl (by kernel_rfl) (by kernel_rfl) (by kernel_rfl) (λ_ _ _ h=>h) (b_ ⟨by rfl,by intro w;go_simp⟩) ?_;refine cr (by kernel_rfl) ?_ _;go_wp2_with fail;go_ret;exact⟨BM C.out,q.out.2⟩
   .go_simp;go_wp2_with (go_at_call 114;refine(y.out _).mono ?_;rintro e r ⟨rfl,c⟩);have k:Hid (At r w.heap.size (AD x) BB/\AL r (w.heap.size+1) e0 M/\dc w r):=⟨At.keep d.out.1 c d.out.1.lt,At.keep d.out.2.1 c (At.lt d.out.2.1),d.out.2.2.trans (c.mono d.out.2.2.size)⟩
    clear c;refine bI (rs:=[0]) (by kernel_rfl) (by simp) ?_;refine bE rfl (λK g=>?_) bF;refine AX rfl (.tmp 3) rfl rfl k.out.2.1 ?_;refine g _ _ ?_;clear g K;refine bI (rs:=[4]) (by kernel_rfl) (by simp) ?_;refine bE rfl (λK g=>?_) bF;go_simp;go_wp2_with (go_at_call 116;refine(s.out _).mono ?_;rintro e m ⟨rfl,f⟩);have q:Hid (At m w.heap.size (AD x) BB/\dc w m):=⟨At.keep k.out.1 f k.out.1.lt,k.out.2.2.trans (f.mono k.out.2.2.size)⟩
    have F:m.cell? ⟨w.heap.size,7,none⟩=some (.int .i64 n):=by rw[q.out.1.cell,<-hn];rfl
    have A:w.heap.size<m.heap.size:=q.out.1.lt;clear f;refine bQ (i:=5) (v:=.int .i64 lo) rfl (by kernel_rfl) (by kernel_rfl) (by kernel_rfl) (λ_ _ _ h=>h) (b_ ⟨by rfl,by intro w;go_simp⟩) ?_;refine cr (by kernel_rfl) ?_ _;go_wp2_with fail;go_ret;exact⟨BM C.out,q.out.2⟩
def E3(M:Nat->Int)(t:Nat)(lo hi:Int):Nat->Nat->Int
 |0=>M
 |j+1=>if j=2*t\/j=2*t+1 then E3 M t lo hi j
  else lm (lm (E3 M t lo hi j) (2*t) j (pl hi (mo (E3 M t lo hi j) j j))) (2*t+1) j (pl (-lo) (mo (E3 M t lo hi j) j j))
def FI(M:Nat->Int)(t:Nat)(lo hi:Int):Nat->Int:=lm (lm (E3 M t lo hi 8) (2*t) (2*t) hi) (2*t+1) (2*t+1) (-lo)
theorem Qk{N:Nat->Int}(hN:Sm N){i j:Nat}{n:Int}(h: -45000000000<=n/\(n=NB\/n<=500000)):Sm (lm N i j n):=by
 intro k hk;have:=hN k hk;unfold NB at h;unfold lm Bw NB;split
 .split<;>omega
 .split
  .split<;>omega
  .exact this
def Sh(M:Nat->Int):Prop:=∀k,k<64-> -40000000000<=M k/\(M k=NB\/M k<=432000)
theorem Sh.sm(h:Sh M):Sm M:=λk hk=>by have:=h k hk;unfold NB at this;omega
theorem Mr(M:Nat->Int){t:Nat}(Q:t<4)(lo hi:Int):∀n,n<=8->∀j,j<8->j≠2*t->j≠2*t+1->E3 M t lo hi n (j*8+j)=M (j*8+j):=by
 intro n;induction n with
 |zero=>intro _ j _ _ _;rfl
 |succ n ih=>
  intro hn j y h1 h2;have e:=ih (by omega) j y h1 h2;rw[E3];split
  .exact e
  .rename_i c;unfold lm;rw[BO _ _ (by omega),BO _ _ (by omega),BO _ _ (by omega),BO _ _ (by omega)];exact e
theorem Qn(h:Sh M){j:Nat}(y:j<8): -40000000000<=mo M j j/\(mo M j j=NB\/mo M j j<=400000):=by
 have a:=h (j*8+j) (by omega);have t:=ER (M (j*8+j));unfold mo;by_cases q:M (j*8+j)=NB
 .rw[a_ (λz=>z.2 q)];exact⟨a.1,.inl q⟩
 .rw[bA ⟨rfl,q⟩];have a2:=a.2.resolve_left q;rcases cR (M (j*8+j)) 0 with c|c
  .rw[t.2 c];exact⟨by omega,.inr (by omega)⟩
  .rw[t.1 c];exact⟨by omega,.inr (by omega)⟩
theorem Jk{a b:Int}(F: -999<=a/\a<=999)(hb: -40000000000<=b/\(b=NB\/b<=400000)): -41000000000<=pl a b/\(pl a b=NB\/pl a b<=500000):=by
 unfold pl;by_cases q:a=NB\/b=NB
 .rw[bA q];exact⟨by decide,.inl rfl⟩
 .rw[a_ q];have:b≠NB:=λz=>q (.inr z);have:=hb.2.resolve_left this;exact⟨by omega,.inr (by omega)⟩
theorem KL{N:Nat->Int}{j:Nat}(h:N (j*8+j)=M (j*8+j)):mo N j j=mo M j j:=by unfold mo;rw[h]
theorem UX(h:Sh M){t:Nat}(Q:t<4){lo hi:Int}(L: -999<= -lo/\ -lo<=999)(x: -999<=hi/\hi<=999):∀n,n<=8->Sm (E3 M t lo hi n):=by
 intro n;induction n with
 |zero=>intro _;exact h.sm
 |succ n ih=>
  intro hn;rw[E3];split
  .exact ih (by omega)
  .rename_i c;have e:=KL (Mr M Q lo hi n (by omega) n (by omega) (λz=>c (.inl z)) (λz=>c (.inr z)));rw[e];have q:=Qn h (show n<8 by omega);have a:=Jk x q;have b:=Jk L q;exact Qk (Qk (ih (by omega)) ⟨by omega,a.2⟩) ⟨by omega,b.2⟩
theorem IZ(h:Sh M)(t:Nat)(Q:t<4)(lo hi:Int)(L: -999<=lo/\lo<=999)(x: -999<=hi/\hi<=999):
  Calls prog 140 #[.agg (oc e0 M),.int .i64 (t:Int),.int .i64 lo,.int .i64 hi] w λe w'=>e=.returned (.agg (oc e0 (FI M t lo hi)))/\dc w w':=by
 have hz:=Bn;have m: -999<= -lo/\ -lo<=999:=by omega
 have ab:Hid (∀n,n<=8->Sm (E3 M t lo hi n)):=UX h Q m x;have ak:(t:Int)<4:=by omega
 have aj:¬(4:Int)<=(t:Int):=by omega
 obtain⟨R,p⟩:∃R,R=(w.alloc (.cells (oc e0 M) tO)).alloc (.cells (oc false λ_=>0) tO):=⟨_,rfl⟩
 have W:Hid (AL R w.heap.size e0 (E3 M t lo hi 0)/\AL R (w.heap.size+1) false (λ_=>0)/\dc w R):=by
  refine⟨by rw[p];exact At.allocH (At.new _ _ _) _,?_,by rw[p];exact((bC _ _).alloc (bB _) _).alloc (by simp) _⟩;have:=At.new (w.alloc (.cells (oc e0 M) tO)) (oc false λ_=>0) tO;rw[show(w.alloc (.cells (oc e0 M) tO)).heap.size=w.heap.size+1 by simp]at this;rw[p];exact this
 have X:Hid (∀d n j,n<=8->j<8->Calls prog 139 #[.agg (oc e0 (E3 M t lo hi n)),.int .i64 ((j:Nat):Int),.int .i64 ((j:Nat):Int)] d λe w'=>e=.returned (.int .i64 (mo (E3 M t lo hi n) j j))/\dc d w'):=λd n j hn y=>PJ j j y y (by have:=ab.out n hn (j*8+j) (by omega);omega);have aa:Hid (∀n,n<8->n≠2*t->n≠2*t+1->(-40000000000<=mo (E3 M t lo hi n) n n/\mo (E3 M t lo hi n) n n<=1000000)/\(-41000000000<=pl hi (mo (E3 M t lo hi n) n n)/\pl hi (mo (E3 M t lo hi n) n n)<=1000000)/\(-41000000000<=pl (-lo) (mo (E3 M t lo hi n) n n)/\pl (-lo) (mo (E3 M t lo hi n) n n)<=1000000)):=by
  intro n hn h1 h2;rw[KL (Mr M Q lo hi n (by omega) n hn h1 h2)];have q:=Qn h hn;have a:=Jk x q;have b:=Jk m q;unfold NB at q a b;omega
 have H:Hid (∀n,E3 M t lo hi (n+1)=if n=2*t\/n=2*t+1 then E3 M t lo hi n else lm (lm (E3 M t lo hi n) (2*t) n (pl hi (mo (E3 M t lo hi n) n n))) (2*t+1) n (pl (-lo) (mo (E3 M t lo hi n) n n))):=λ_=>rfl;have HT:Hid (FI M t lo hi=lm (lm (E3 M t lo hi 8) (2*t) (2*t) hi) (2*t+1) (2*t+1) (-lo)):=rfl;have u:Hid (∀d (b:Nat) (N:Nat->Int) (i j:Nat) (n:Int),i<8->j<8->(-1000000000000<=n/\n<=1000000000000)->AL d b e0 N->Calls prog 134 #[.pointer (some ⟨b,0,none⟩),.int .i64 (i:Int),.int .i64 (j:Int),.int .i64 n] d λe w'=>e=.returned (.tuple #[])/\Hid (AL w' b e0 (lm N i j n)/\BC b d w')):=λd b N i j n hi y hn F=>(MY F i j hi y n hn).mono λe w' h=>h;have K:((2*t:Nat):Int)=2*(t:Int):=by omega
 have D:((2*t+1:Nat):Int)=2*(t:Int)+1:=by omega
 rw[p]at W;clear h p m;go_enter func140,ntmps140;go_wp2_with fail;go_loopw [11] (λjv wr=>∃(j:Nat),j<=8/\jv=.int .i64 j/\Hid (AL wr w.heap.size e0 (E3 M t lo hi j)/\AL wr (w.heap.size+1) false (λ_=>0)/\dc w wr)) (λjv _=>8-(intOf jv).toNat);case atStart=>exact⟨0,by omega,rfl,W.out⟩
 case round=>
  obtain⟨j,y,rfl,f⟩:=hrel;clear W;by_cases B:j<8
  .have ai:(j:Int)<8:=by omega
   by_cases c1:j=2*t
   .have I:Hid (E3 M t lo hi (j+1)=E3 M t lo hi j):=(H.out j).trans (bA (.inl c1));have b1:((j:Int)==2*(t:Int))=true:=by rw[beq_iff_eq];omega
    clear c1;go_wp2_with fail;go_roundw;case rel=>exact⟨j+1,by omega,by go_num,by rw[I.out];exact f.out.1,f.out.2⟩
    case measure=>simp[intOf];omega
   .have b1:((j:Int)==2*(t:Int))=false:=by rw[b9];omega
    by_cases c2:j=2*t+1
    .have I:Hid (E3 M t lo hi (j+1)=E3 M t lo hi j):=(H.out j).trans (bA (.inr c2));have b2:((j:Int)==2*(t:Int)+1)=true:=by rw[beq_iff_eq];omega
     clear c1 c2;go_wp2_with fail;go_roundw;case rel=>exact⟨j+1,by omega,by go_num,by rw[I.out];exact f.out.1,f.out.2⟩
     case measure=>simp[intOf];omega
    .have b2:((j:Int)==2*(t:Int)+1)=false:=by rw[b9];omega
     have I:Hid (E3 M t lo hi (j+1)=_):=(H.out j).trans (a_ (λz=>z.elim c1 c2));obtain⟨⟨m1,m2⟩,⟨m3,m4⟩,⟨m5,m6⟩⟩:=aa.out j B c1 c2;have O:=X.out wr j j y B;have o:=λd=>GS hi (mo (E3 M t lo hi j) j j) ⟨by omega,by omega⟩ ⟨by omega,m2⟩ d;have C:=λd=>GS (-lo) (mo (E3 M t lo hi j) j j) ⟨by omega,by omega⟩ ⟨by omega,m2⟩ d;have ae:w.heap.size+1<wr.heap.size:=At.lt f.out.2.1;have J:Hid (∀d (N:Nat->Int),AL d w.heap.size e0 N->Calls prog 134 #[.pointer (some ⟨w.heap.size,0,none⟩),.int .i64 (2*(t:Int)),.int .i64 (j:Int),.int .i64 (pl hi (mo (E3 M t lo hi j) j j))] d λe w'=>e=.returned (.tuple #[])/\Hid (AL w' w.heap.size e0 (lm N (2*t) j (pl hi (mo (E3 M t lo hi j) j j)))/\BC w.heap.size d w')):=λd N F=>by
      rw[<-K];exact u.out d _ N (2*t) j _ (by omega) B ⟨by omega,by omega⟩ F
     have g:Hid (∀d (N:Nat->Int),AL d w.heap.size e0 N->Calls prog 134 #[.pointer (some ⟨w.heap.size,0,none⟩),.int .i64 (2*(t:Int)+1),.int .i64 (j:Int),.int .i64 (pl (-lo) (mo (E3 M t lo hi j) j j))] d λe w'=>e=.returned (.tuple #[])/\Hid (AL w' w.heap.size e0 (lm N (2*t+1) j (pl (-lo) (mo (E3 M t lo hi j) j j)))/\BC w.heap.size d w')):=λd N F=>by
      rw[<-D];exact u.out d _ N (2*t+1) j _ (by omega) B ⟨by omega,by omega⟩ F
     have Y:Hid (∀d,Calls prog 152 _ d _):=o;have Z:Hid (∀d,Calls prog 152 _ d _):=C;clear c1 c2 o C;generalize pl hi (mo (E3 M t lo hi j) j j)=q1 at *;generalize pl (-lo) (mo (E3 M t lo hi j) j j)=q2 at *;generalize mo (E3 M t lo hi j) j j=q0 at *;go_wp2_with (refine AH rfl (.tmp 4) rfl rfl f.out.1 ?_);refine O.mono ?_;rintro e S ⟨rfl,v⟩;have U:Hid (AL S w.heap.size e0 (E3 M t lo hi j)/\AL S (w.heap.size+1) false (λ_=>0)/\dc w S):=⟨At.keep f.out.1 v (by omega),At.keep f.out.2.1 v ae,f.out.2.2.trans (v.mono f.out.2.2.size)⟩
     have o:=Y.out S;have l:=J.out S _ U.out.1;clear v O;go_wp2_with fail;refine o.mono ?_;rintro e w3 ⟨rfl,af⟩;subst af;go_wp2_with fail;refine l.mono ?_;rintro e r ⟨rfl,h4⟩;have s:Hid (AL r w.heap.size e0 (lm (E3 M t lo hi j) (2*t) j q1)/\AL r (w.heap.size+1) false (λ_=>0)/\dc w r):=⟨h4.out.1,h4.out.2.at_ U.out.2.1 (by omega),U.out.2.2.trans (h4.out.2.below (bB _) U.out.2.2.size)⟩
     have C:=Z.out r;have A:=g.out r _ s.out.1;clear h4 o l;go_wp2_with fail;refine C.mono ?_;rintro e w5 ⟨rfl,ag⟩;subst ag;go_wp2_with fail;refine A.mono ?_;rintro e w6 ⟨rfl,E⟩;go_wp2_with fail;go_roundw;case rel=>exact⟨j+1,by omega,by go_num,by rw[I.out];exact E.out.1,E.out.2.at_ s.out.2.1 (by omega),s.out.2.2.trans (E.out.2.below (bB _) s.out.2.2.size)⟩
     case measure=>simp[intOf];omega
  .have ad:j=8:=by omega
   subst ad;have l:Calls prog 134 #[.pointer (some ⟨w.heap.size,0,none⟩),.int .i64 (2*(t:Int)),.int .i64 (2*(t:Int)),.int .i64 hi] wr λe w'=>e=.returned (.tuple #[])/\Hid (AL w' w.heap.size e0 (lm (E3 M t lo hi 8) (2*t) (2*t) hi)/\BC w.heap.size wr w'):=by
    rw[<-K];exact u.out wr _ _ (2*t) (2*t) hi (by omega) (by omega) ⟨by omega,by omega⟩ f.out.1
   have g:Hid (∀d (N:Nat->Int),AL d w.heap.size e0 N->Calls prog 134 #[.pointer (some ⟨w.heap.size,0,none⟩),.int .i64 (2*(t:Int)+1),.int .i64 (2*(t:Int)+1),.int .i64 (-lo)] d λe w'=>e=.returned (.tuple #[])/\Hid (AL w' w.heap.size e0 (lm N (2*t+1) (2*t+1) (-lo))/\BC w.heap.size d w')):=λd N F=>by
    rw[<-D];exact u.out d _ N (2*t+1) (2*t+1) (-lo) (by omega) (by omega) ⟨by omega,by omega⟩ F
   go_wp2_with fail;refine l.mono ?_;rintro e r ⟨rfl,h4⟩;have s:Hid (AL r w.heap.size e0 (lm (E3 M t lo hi 8) (2*t) (2*t) hi)/\AL r (w.heap.size+1) false (λ_=>0)/\dc w r):=⟨h4.out.1,h4.out.2.at_ f.out.2.1 (by omega),f.out.2.2.trans (h4.out.2.below (bB _) f.out.2.2.size)⟩
   have A:=g.out r _ s.out.1;clear h4 l;go_wp2_with fail;refine A.mono ?_;rintro e w6 ⟨rfl,E⟩;have V:Hid (AL w6 w.heap.size e0 (FI M t lo hi)/\AL w6 (w.heap.size+1) false (λ_=>0)/\dc w w6):=⟨by rw[HT.out];exact E.out.1,E.out.2.at_ s.out.2.1 (by omega),s.out.2.2.trans (E.out.2.below (bB _) s.out.2.2.size)⟩
   obtain⟨w7,ah,G,P⟩:=Al V.out.2.1 e0 (FI M t lo hi);have H7:Hid (AL w7 (w.heap.size+1) e0 (FI M t lo hi)/\dc w w7):=⟨G,V.out.2.2.trans (P.below (by omega) V.out.2.2.size)⟩
   clear E A G P;generalize hTT:FI M t lo hi=T at *;have ac:Hid (FI M t lo hi=T):=hTT;clear hTT;go_wp2_with (refine AH rfl (.tmp 4) rfl rfl V.out.1 ?_);try simp only[Exit.inBlock,Exit.then]
   refine bJ (Ag rfl _ rfl H7.out.1) rfl ?_;exact⟨by rw[ac.out],H7.out.2⟩
def Ak(t f i:Nat):Nat:=if i=2*t then f else if i=2*t+1 then opp f else i
def BK(t:Nat)(n:Int)(i:Nat):Int:=if i=2*t then n else if i=2*t+1 then -n else 0
def DO(M:Nat->Int)(t f:Nat)(n:Int):Nat->Nat->Int
 |0=>M
 |k+1=>Bw (DO M t f n k) k (pl (M (Ak t f (k/8)*8+Ak t f (k%8))) (BK t n (k/8)+BK t n (k%8)))
abbrev B4:TypeId:=87
def c8(F:Nat->Int):Array Value:=#[.int .i64 (F 0),.int .i64 (F 1),.int .i64 (F 2),.int .i64 (F 3),.int .i64 (F 4),.int .i64 (F 5),.int .i64 (F 6),.int .i64 (F 7)]
theorem DP(F:Nat->Int){i:Nat}(h:i<8):(c8 F)[i]?=some (.int .i64 (F i)):=by
 rcases(show i=0\/i=1\/i=2\/i=3\/i=4\/i=5\/i=6\/i=7 by omega)with rfl|rfl|rfl|rfl|rfl|rfl|rfl|rfl<;>rfl
theorem Cv{t f i:Nat}(a:f<8)(hi:i<8):Ak t f i<8:=by
 unfold Ak;split
 .exact a
 .split
  .exact Ah a
  .exact hi
theorem Cm{t:Nat}{n:Int}(h: -999<=n/\n<=999)(i:Nat): -999<=BK t n i/\BK t n i<=999:=by
 unfold BK;split
 .exact h
 .split<;>omega
end Go.Proofs.YtffajooegiempaaGreatDoor
