import Derived.Test.YtffajooegiempaaGreatDoorJ27
set_option maxRecDepth 100000
set_option maxHeartbeats 6400000
namespace Go.Proofs.YtffajooegiempaaGreatDoor
open Go.RowKit
variable {w:World}{s:ByteArray}
def FL(f:Nat->Int)(n:Nat)(r:Int×Int):Prop:=((∀j,j<n->f j=0)/\r=(0,0))\/∃k,k<n/\(∀j,j<k->f j=0)/\f k≠0/\r=(f k,(k:Int))
theorem FL.one{f:Nat->Int}{n:Nat}{r r':Int×Int}(h:FL f n r)(h':FL f n r'):r=r':=by
 rcases h with⟨h,rfl⟩|⟨k,hk,h1,h2,rfl⟩<;>rcases h' with⟨h',rfl⟩|⟨k',hk',h1',h2',rfl⟩
 ·rfl
 ·exact absurd (h k' hk') h2'
 ·exact absurd (h' k hk) h2
 ·have:k=k':=by
   rcases Nat.lt_trichotomy k k' with q|q|q
   ·exact absurd (h1' k q) h2
   ·exact q
   ·exact absurd (h1 k' q) h2'
  rw[this]
def Ad(F:List Ds)(b:List Int)(r:Int×Int):Prop:=
 match DS b with
 |none=>r=(4,0)
 |some L=>if L.length≠F.length+1 then r=(4,0)else if DY false (cE (BG L 0)) (λ_=>0) (cM (BG L 0))=false then r=(5,0)else FL (EK F L) F.length r
theorem N2:Calls Tryz.prog 52 #[] w λe w'=>e=.returned (.agg (oc false λ_=>0))/\Below w.heap.size w w':=by
 obtain⟨M0,hM0⟩:∃M0:Nat->Int,M0=λ_=>0:=⟨_,rfl⟩
 have hz:∀w,(zeroValue tO).run Tryz.prog w=.ok (.agg (oc false M0)) w:=by rw[hM0];exact Bn
 have HFr:Hid (∃w2,(storeCells ⟨w.heap.size,0,none⟩ (oc false M0).toList).run Tryz.prog (w.alloc (.cells (oc false M0) tO))=.ok () w2/\AL w2 w.heap.size false M0/\Below w.heap.size w w2/\w.heap.size<w2.heap.size):=by rw[hM0];exact Bb w false _
 have ho3:(oc false M0).size=65:=Am _ _;have ho4:¬oc false M0=#[]:=λh=>by have:=congrArg Array.size h;rw[Am]at this;simp at this
 rw[<-hM0];clear hM0;obtain⟨w3,hst3,hat3,hb3,hs3⟩:=HFr.out;have H3:Hid (AL w3 w.heap.size false M0/\Below w.heap.size w w3):=⟨hat3,hb3⟩
 clear hat3 hb3;go_enter Tryz.func52,Tryz.ntmps52;go_wp2_with fail;try simp only[Exit.inBlock,Exit.then]
 refine bodyPost_ret (Ag rfl _ rfl H3.out.1) rfl ?_;exact⟨rfl,H3.out.2⟩
def KB(w wr:World)(g:Nat)(L:List (Option (List Int)))(pv:Value):Prop:=At wr w.heap.size #[pv] JP/\JQ wr g L/\Below w.heap.size w wr
theorem KB.keep{wr w':World}{g:Nat}{L:List (Option (List Int))}{pv:Value}(h:KB w wr g L pv)(hb:Below wr.heap.size wr w'):KB w w' g L pv:=
 ⟨h.1.keep hb h.1.lt,h.2.1.keep hb,h.2.2.trans (hb.mono h.2.2.size)⟩
theorem QM{cap:Nat}{ao:Option Addr}{F:List Ds}(hG:Cr w)(hs:s.size<=9223372036854775807)(hl:F.length<=20)
  (hp:∀w1,Below w.heap.size w w1->∀g L,JQ w1 g L->(∀r,r∈L->F_ r)->∀k,k<F.length->Calls Tryz.prog 91 #[.agg #[.slice ao F.length cap],.slice (some ⟨g,0,none⟩) L.length 21,.int .i64 (k:Int)] w1 λe w'=>e=.returned (.int .i64 (EK F L k))/\Below w1.heap.size w1 w'):
  Calls Tryz.prog 57 #[.agg #[.slice ao F.length cap],.string s] w λe w'=>∃a b,e=.returned (.tuple #[.int .i64 a,.int .i64 b])/\Ad F (AA s) (a,b)/\Below w.heap.size w w':=by
 obtain⟨M0,hM0⟩:∃M0:Nat->Int,M0=λ_=>0:=⟨_,rfl⟩
 have hz:∀w,(zeroValue tO).run Tryz.prog w=.ok (.agg (oc false M0)) w:=by rw[hM0];exact Bn
 have HFr:Hid (∀(w1:World) e M,∃w2,(storeCells ⟨w1.heap.size,0,none⟩ (oc e M).toList).run Tryz.prog (w1.alloc (.cells (oc false M0) tO))=.ok () w2/\AL w2 w1.heap.size e M/\Below w1.heap.size w1 w2/\w1.heap.size<w2.heap.size):=by rw[hM0];exact λw1 e M=>Bb w1 e M
 have HOr:Hid (∀w1,Calls Tryz.prog 52 #[] w1 λe w'=>e=.returned (.agg (oc false M0))/\Below w1.heap.size w1 w'):=by rw[hM0];exact λw1=>N2
 have HM0:Hid (M0=λ_=>0):=hM0;have ho3:(oc false M0).size=65:=Am _ _;have ho4:¬oc false M0=#[]:=λh=>by have:=congrArg Array.size h;rw[Am]at this;simp at this
 clear hM0;have HRc:Hid (∀w1,Below w.heap.size w w1->Calls Tryz.prog 89 #[.string s] w1 (Wi w1 s)):=λw1 hb=>MH (hG.keep hb hG.size) hs;have HP:Hid (∀w1,Below w.heap.size w w1->∀g L,JQ w1 g L->(∀r,r∈L->F_ r)->∀k,k<F.length->Calls Tryz.prog 91 #[.agg #[.slice ao F.length cap],.slice (some ⟨g,0,none⟩) L.length 21,.int .i64 (k:Int)] w1 λe w'=>e=.returned (.int .i64 (EK F L k))/\Below w1.heap.size w1 w'):=hp;obtain⟨n,hn⟩:∃n,n=F.length:=⟨_,rfl⟩
 have HN:Hid (n=F.length):=hn;have hln:n<=20:=by omega
 rw[<-hn];clear hp hG hn;go_enter Tryz.func57,Tryz.ntmps57;go_wp2_with fail;refine(HRc.out _ ((Below.refl _ _).alloc (Nat.le_refl _) _)).mono ?_;rintro e w1 ⟨hb1,⟨hd,rfl⟩|⟨L,g,hd,rfl,hg,hrow⟩⟩
 ·have HB:Hid (Below w.heap.size w w1):=((Below.refl _ _).alloc (Nat.le_refl _) _).trans (hb1.mono (by simp));have HR:Hid (Ad F (AA s) (4,0)):=by show Ad _ _ _;unfold Ad;rw[hd]
  clear hb1 hd;go_wp2_with fail
  go_ret2
  exact⟨_,_,rfl,HR.out,HB.out⟩
 ·have HOk:Hid (∀r,r∈L->F_ r):=(GM (Om s) hd).2.2.2;have hL21:=(GM (Om s) hd).2.2.1;have H1:Hid (KB w w1 g L (.slice ao n cap)):=⟨At.keep (At.new w _ _) hb1 (by simp),hrow,((Below.refl _ _).alloc (Nat.le_refl _) _).trans (hb1.mono (by simp))⟩
  have HS:Hid (∀r,(L.length≠n+1->r=(4,0))->(L.length=n+1->if DY false (cE (BG L 0)) M0 (cM (BG L 0))=false then r=(5,0)else FL (EK F L) n r)->Ad F (AA s) r):=by
   intro r h1 h2;rw[HM0.out]at h2;unfold Ad;rw[hd,<-HN.out];show if _ then _ else _
   split
   ·rename_i q;exact h1 q
   ·rename_i q;exact h2 (by simpa using q)
  have HEnd:Hid (∀w1,Calls Tryz.prog 67 #[.agg #[.slice ao n cap]] w1 λe w'=>e=.returned (.int .i64 (n:Int))/\Below w1.heap.size w1 w'):=λw1=>(J7 ao n cap w1 hln).mono λe w' ⟨h1,o,h2⟩=>⟨h1,by rw[h2];exact(Below.refl _ _).alloc (Nat.le_refl _) _⟩
  have c0:w1.cell? ⟨w.heap.size,0,none⟩=some (.slice ao n cap):=H1.out.1.cell 0;clear hb1 hd hrow hg HRc;go_wp2_with fail;refine(HEnd.out w1).mono ?_;rintro e w2 ⟨rfl,hb2⟩;have H2:Hid (KB w w2 g L (.slice ao n cap)):=H1.out.keep hb2;clear hb2 c0 H1;by_cases hlen:L.length=n+1
  ·have hli:(L.length:Int)=(n:Int)+1:=by omega
   have HS2:Hid (∀r,(if DY false (cE (BG L 0)) M0 (cM (BG L 0))=false then r=(5,0)else FL (EK F L) n r)->Ad F (AA s) r):=λr h=>HS.out r (λq=>absurd hlen q) (λ_=>h);have HCl:=λw3 (h:KB w w3 g L (.slice ao n cap))=>LP h.2.1 (0:Int);have HCl:Hid (∀w3,KB w w3 g L (.slice ao n cap)->Calls Tryz.prog 90 #[.slice (some ⟨g,0,none⟩) L.length 21,.int .i64 0] w3 λe w'=>e=.returned (.agg (oc (cE (BG L 0)) (cM (BG L 0))))/\Below w3.heap.size w3 w'):=HCl;have HPt:Hid (∀w3,KB w w3 g L (.slice ao n cap)->∀k,k<n->Calls Tryz.prog 91 #[.agg #[.slice ao n cap],.slice (some ⟨g,0,none⟩) L.length 21,.int .i64 (k:Int)] w3 λe w'=>e=.returned (.int .i64 (EK F L k))/\Below w3.heap.size w3 w'):=λw3 h k hk=>by
    have:=HP.out w3 h.2.2 g L h.2.1 HOk.out k (by rw[<-HN.out];exact hk);rw[<-HN.out]at this;exact this
   clear HP HS HOk hli;generalize L.length=m at *;subst hlen;generalize cE (BG L 0)=e1 at *;generalize cM (BG L 0)=M1 at *;generalize EK F L=f at *;go_wp2_with fail;refine(HCl.out w2 H2.out).mono ?_;rintro e w3 ⟨rfl,hb3⟩;obtain⟨w4,hst4,hat4,hb4,hs4⟩:=HFr.out w3 e1 M1;have H4:Hid (AL w4 w3.heap.size e1 M1/\KB w w4 g L (.slice ao n cap)):=⟨hat4,(H2.out.keep hb3).keep hb4⟩
   clear hb3 hat4 hb4;go_wp2_with fail;refine(HOr.out w4).mono ?_;rintro e w5 ⟨rfl,hb5⟩;obtain⟨w6,hst6,hat6,hb6,hs6⟩:=HFr.out w5 false M0;have H6:Hid (AL w6 w5.heap.size false M0/\AL w6 w3.heap.size e1 M1/\KB w w6 g L (.slice ao n cap)):=by
    have h9:AL w5 w3.heap.size e1 M1:=At.keep H4.out.1 hb5 (At.lt H4.out.1);exact⟨hat6,At.keep h9 hb6 (At.lt h9),(H4.out.2.keep hb5).keep hb6⟩
   clear hb5 hat6 hb6;go_wp2_with (first|refine AH rfl (.tmp 9) rfl rfl H6.out.1 ?_|refine AH rfl (.tmp 8) rfl rfl H6.out.2.1 ?_);refine(Ia (w:=w6) (e1:=false) (e2:=e1) (M:=M0) (N:=M1)).mono ?_;rintro e w7 ⟨rfl,hb7⟩;have H7:Hid (KB w w7 g L (.slice ao n cap)):=H6.out.2.2.keep hb7;clear hb7 H6;cases hwi:DY false e1 M0 M1 with
   |false=>
    have HR:Hid (Ad F (AA s) (5,0)):=HS2.out _ (by rw[if_pos hwi]);clear hwi;go_wp2_with fail
    go_ret2
    exact⟨_,_,rfl,HR.out,H7.out.2.2⟩
   |true=>
    have HS3:Hid (∀r,FL f n r->Ad F (AA s) r):=λr h=>HS2.out r (by rw[if_neg (by rw[hwi];decide)];exact h);clear hwi HS2;go_wp2_with fail;go_loopw [7,10] (λ_ iv wr=>∃i:Nat,i<=n/\iv=.int .i64 (i:Int)/\Hid ((∀j,j<i->f j=0)/\KB w wr g L (.slice ao n cap))) (λ_ iv _=>n-(intOf iv).toNat);case atStart=>exact⟨0,by omega,rfl,λj hj=>by omega,H7.out⟩
    case round=>
     obtain⟨i,hi,rfl,HR⟩:=hrel;have c0:wr.cell? ⟨w.heap.size,0,none⟩=some (.slice ao n cap):=HR.out.2.1.cell 0;go_wp2_with fail;refine(HEnd.out wr).mono ?_;rintro e w8 ⟨rfl,hb8⟩;have H8:Hid (KB w w8 g L (.slice ao n cap)):=HR.out.2.keep hb8;clear hb8 c0;by_cases hin:i<n
     ·have hii:(i:Int)<(n:Int):=by omega
      have c0:w8.cell? ⟨w.heap.size,0,none⟩=some (.slice ao n cap):=H8.out.1.cell 0;have hpt:=HPt.out w8 H8.out i hin;go_wp2_with fail;refine hpt.mono ?_;rintro e w9 ⟨rfl,hb9⟩;have H9:Hid (KB w w9 g L (.slice ao n cap)):=H8.out.keep hb9;clear hb9 c0 hpt;by_cases h0:f i=0
      ·have HA:Hid (∀j,j<i+1->f j=0):=λj hj=>by
        rcases Nat.lt_or_ge j i with q|q
        ·exact HR.out.1 j q
        ·rw[show j=i by omega];exact h0
       rw[h0];clear h0;go_wp2_with fail;go_roundw;case rel=>exact⟨i+1,by omega,by go_num,HA.out,H9.out⟩
       case measure=>simp[intOf];omega
      ·have HA:Hid (Ad F (AA s) (f i,(i:Int))):=HS3.out _ (.inr ⟨i,hin,HR.out.1,h0,rfl⟩);go_wp2_with fail
       go_ret2
       exact⟨_,_,rfl,HA.out,H9.out.2.2⟩
     ·have hie:i=n:=by omega
      subst hie;have HA:Hid (Ad F (AA s) (0,0)):=HS3.out _ (.inl ⟨HR.out.1,rfl⟩);go_wp2_with fail
      go_ret2
      exact⟨_,_,rfl,HA.out,H8.out.2.2⟩
  ·have hli:¬(L.length:Int)=(n:Int)+1:=by omega
   have HR:Hid (Ad F (AA s) (4,0)):=HS.out _ (λ_=>rfl) (λq=>absurd q hlen);clear hlen;go_wp2_with fail
   go_ret2
   exact⟨_,_,rfl,HR.out,H2.out.2.2⟩
theorem QN{r:Option (List Int)}(h:F_ r):∀j,j<64-> -20000000000<=cM r j/\cM r j<=1000000:=by
 cases r with
 |none=>intro j _;show -20000000000<=(0:Int)/\(0:Int)<=1000000;omega
 |some l=>exact PP (FO h)
theorem Yw{r:Option (List Int)}(h:F_ r)(he:cE r=false):Sh (cM r):=by
 cases r with
 |none=>cases he
 |some l=>exact(Ll (FO h) he).sh
theorem Ek{L:List (Option (List Int))}(h:∀r,r∈L->F_ r)(pt:Int):F_ (BG L pt):=by
 unfold BG;split
 ·intro l e;cases e
 ·exact Da h _
theorem F7{l:List Int}{m:Rd}{F:List Ds}{g0 cap:Nat}(hp:AV l=some m)(hW:Bj F m.st)(hl:F.length<=20)(hpar:∀(k:Nat)(x:Ds),F[k]?=some x-> -1<=x.parent/\x.parent<(k:Int))(hP:Cc w g0 F){g:Nat}{L:List (Option (List Int))}(hO:JQ w g L)(hok:∀r,r∈L->F_ r){k:Nat}(hk:k<F.length):
  Calls Tryz.prog 91 #[.agg #[.slice (some ⟨g0,0,none⟩) F.length cap],.slice (some ⟨g,0,none⟩) L.length 21,.int .i64 (k:Int)] w λe w'=>e=.returned (.int .i64 (EK F L k))/\Below w.heap.size w w':=by
 have hD:=EV hp hW hk;have hq:=Gb hp (show k<m.st.length by have:=hW.1.len;omega);exact MG hP hl hpar hk hO hD.1 (by rw[<-hD.2.2.1];exact⟨hq.var.1,by have:=hq.var.2;omega⟩) (QN (Ek hok _)) (Yw (Ek hok _))
end Go.Proofs.YtffajooegiempaaGreatDoor
namespace Go.Proofs.YtffajooegiempaaGreatDoor
open Go.RowKit
variable {w:World}{C:Nat->Int}
theorem NL(h:TQ C){l:List Int}(hl:l.length=4)(hv:∀i, -1<=AK l i/\AK l i<=1)(h1:1<=nz l)(h2:nz l<=2){n:Int}(hn:n<=1000)(he:GJ false C l n=false):TC (E5 false C l n):=by
 obtain⟨f,hf,hnf,hgr,hs1,hs2⟩:=Ep h.tc hl hv h1 h2;unfold GJ at he;unfold E5;by_cases q:Ko false C l n=true
 ·rw[if_pos q];exact h.tc
 ·rw[if_neg q]at he|-;have e:lm C (CF l) (C4 l) n=sb C f n:=by rw[hs1,hs2];rfl
  rw[e]at he|-;exact(Ua h.tc (h.top.mono (by decide)) hf hn).tc he
theorem ZG(h:TQ C){x:Ds}{u:St}(hx:OY x)(hu:Yn u)(hc:OX x u)(way:Int)(he:CA false C x way=false):TC (CE false C x way):=by
 have hk0:=O8 hc;obtain⟨-,c1,c2,c3,c4⟩:=id hc;have n:=hx.num;have ht:0<=x.target/\x.target<4:=by rw[<-c1];exact⟨hu.var.1,by have:=hu.var.2;omega⟩
 unfold CA at he;unfold CE;rw[if_neg (by decide)]at he|-;by_cases k0:x.kind=0
 ·rw[if_pos k0];unfold JF;split
  ·exact(QI h.tc h.top (by omega) ⟨by omega,by omega⟩ ⟨by omega,by omega⟩ (by omega)).1
  ·split
   ·exact(QI h.tc h.top (by omega) ⟨by omega,by omega⟩ ⟨by omega,by omega⟩ (Int.le_refl _)).1
   ·exact(Uj h.tc h.top (by omega) (Cx x.sg 4 (Nat.le_refl _)).1 ⟨by omega,by omega⟩).1
 ·rw[if_neg k0]at he|-;have k61:¬u.kind=61:=λz=>k0 (hk0.2 z);cases ha:x.any with
  |true=>rw[if_pos rfl];exact h.tc
  |false=>
   rw[ha,if_neg (by decide)]at he;rw[if_neg (by decide)];have hz1:1<=nz u.sg:=(hu.fq.2 k61).resolve_left (by rw[c2,ha];decide);rw[c3]at hz1;have g1:x.sg.length=4:=by rw[<-c3];exact hu.g.len
   have g2:nz x.sg<=2:=by rw[<-c3];exact hu.g.nz
   by_cases w0:way=0
   ·rw[if_pos w0]at he|-;exact NL h g1 hx.sg hz1 g2 (by omega) he
   ·rw[if_neg w0]at he|-;exact NL h (Cp _) (DJ hx.sg) (by rw[C9 g1];exact hz1) (by rw[C9 g1];exact g2) (by omega) he
theorem Su{r:Option (List Int)}(h:F_ r)(he:cE r=false):TQ (cM r):=by
 cases r with
 |none=>cases he
 |some l=>exact Ll (FO h) he
def TX(e:Bool)(M:Nat->Int):Option (List Int)->Bool
 |none=>e
 |some p=>e||leF (bd M) (λf=>p.getD f 0) 32
theorem KG{e:Bool}{M:Nat->Int}(hT:e=false->TC M){r:Option (List Int)}(hr:F_ r):DY e (cE r) M (cM r)=TX e M r:=by
 cases r with
 |none=>cases e<;>rfl
 |some p=>
  have hp:=FO hr;unfold TX DY;show(if(e||ovE p)=true then e else leF M (BT p) 64)=_;cases e with
  |true=>rfl
  |false=>
   have hC:=hT rfl;have up:leF (bd M) (λf=>p.getD f 0) 32=true->Le M (BT p):=λh=>hC.below_sharp (I2 hC hp (DI.1 h)) (Jd hp);have dn:Le M (BT p)->leF (bd M) (λf=>p.getD f 0) 32=true:=λh=>DI.2 (NM hp (λa ha=>Int.le_trans (h a ha) (Cs _ a)));cases hq:ovE p with
   |true=>
    show false=(false||leF (bd M) (λf=>p.getD f 0) 32)
    cases hl:leF (bd M) (λf=>p.getD f 0) 32 with
    |false=>rfl
    |true=>
     exfalso;have h:=up hl
     have:By (BT p) 8=false:=II (λi hi=>by
      have a:=h (i*8+opp i) (by have:=Ah hi;omega);rw[hC.zero i hi]at a
      exact a)
     rw[show By (BT p) 8=ovE p from rfl,hq]at this;cases this
   |false=>
    show leF M (BT p) 64=(false||leF (bd M) (λf=>p.getD f 0) 32)
    cases hl:leF (bd M) (λf=>p.getD f 0) 32 with
    |true=>exact DI.2 (up hl)
    |false=>
     cases hm:leF M (BT p) 64 with
     |false=>rfl
     |true=>rw[dn (DI.1 hm)]at hl;cases hl
theorem Jo:TC (λ_=>0):=by
 refine⟨?_,λ_ _=>rfl,λ_ _=>.inr rfl,λ_ _ _ _ _ _=>⟨by unfold NB;decide,by decide⟩,λ_ _ _ _=>rfl,λ_ _=>.inr (by decide)⟩;intro k _ i j _ _;exact .inr (.inr ⟨show(0:Int)≠NB by decide,show(0:Int)<=0+0 by decide⟩)
theorem MC(f:Nat):bd (λ_=>0) f=0:=by
 unfold bd;split<;>rfl
def Uk:Option (List Int)->Bool
 |none=>false
 |some p=>leF (λ_=>0) (λf=>p.getD f 0) 32
theorem Kd{r:Option (List Int)}(hr:F_ r):DY false (cE r) (λ_=>0) (cM r)=Uk r:=by
 rw[KG (λ_=>Jo) hr];cases r with
 |none=>rfl
 |some p=>
  show(false||leF (bd λ_=>0) (λf=>p.getD f 0) 32)=_;rw[show bd (λ_=>0)=λ_=>0 from funext MC];rfl
end Go.Proofs.YtffajooegiempaaGreatDoor
namespace Go.Proofs.YtffajooegiempaaGreatDoor
open Go.RowKit
variable {M N:Nat->Int}{F:List Ds}
structure Wn(M:Nat->Int):Prop where
 tc:TC M
 box:∀i,i<8->M (i*8+i)<=1998
theorem Wn.ne(h:Wn M){i:Nat}(hi:i<8):M (i*8+i)≠NB:=by have:=h.box i hi;unfold NB;omega
theorem Wn.up(h:Wn M){i j:Nat}(hi:i<8)(hj:j<8):M (i*8+j)≠NB/\M (i*8+j)<=1998:=by
 obtain⟨a,b⟩:=h.tc.half i j hi hj (h.ne hi) (h.ne hj);have:=h.box i hi;have:=h.box j hj;exact⟨a,by omega⟩
theorem Wn.lo(h:Wn M){i j:Nat}(hi:i<8)(hj:j<8): -1998<=M (i*8+j):=by
 have t:=h.tc.tri (opp j) (Ah hj) i (opp i) hi (Ah hi);rw[h.tc.zero i hi,CL j hj]at t;have a:=h.up hi hj;have b:=h.up (Ah hj) (Ah hi);rcases t with q|q|q
 ·exact absurd q a.1
 ·exact absurd q b.1
 ·omega
theorem Wn.all(h:Wn M){k:Nat}(hk:k<64):M k≠NB/\ -1998<=M k/\M k<=1998:=by
 have e:k=k/8*8+k%8:=by omega
 rw[e];have a:=h.up (i:=k/8) (j:=k%8) (by omega) (by omega);exact⟨a.1,h.lo (by omega) (by omega),a.2⟩
theorem Wn.tq(h:Wn M):TQ M:=⟨h.tc,λk hk=>.inr (by have:=h.all hk;omega),λk hk=>by have:=h.all hk;omega⟩
theorem M7:Wn (λ_=>0):=⟨Jo,λ_ _=>by show(0:Int)<=1998;omega⟩
theorem C1(M N:Nat->Int){a:Nat}(ha:a<64):(jF M N 64 a=M a\/jF M N 64 a=N a)/\M a<=jF M N 64 a/\N a<=jF M N 64 a:=by
 rw[KH];by_cases q:a<64/\M a<N a
 ·rw[if_pos q];exact⟨.inr rfl,by omega,Int.le_refl _⟩
 ·rw[if_neg q];exact⟨.inl rfl,Int.le_refl _,by omega⟩
theorem RE(h:Wn M)(k:Wn N):Wn (jF M N 64):=by
 have fin:∀{a:Nat},a<64->jF M N 64 a≠NB/\jF M N 64 a<=1998:=λ{a} ha=>by
  rcases(C1 M N ha).1 with e|e<;>rw[e]
  ·exact⟨(h.all ha).1,(h.all ha).2.2⟩
  ·exact⟨(k.all ha).1,(k.all ha).2.2⟩
 refine⟨⟨?_,?_,?_,?_,?_,?_⟩,λi hi=>(fin (by omega)).2⟩
 ·intro s hs i j hi hj;have o1:=Ah hs;have a1:=C1 M N (a:=i*8+j) (by omega);have a2:=C1 M N (a:=i*8+opp s) (by omega);have a3:=C1 M N (a:=s*8+j) (by omega);refine .inr (.inr ⟨(fin (by omega)).1,?_⟩);have t1:=h.tc.tri s hs i j hi hj;have t2:=k.tc.tri s hs i j hi hj;have n1:=h.up hi o1;have n2:=h.up hs hj;have n3:=k.up hi o1;have n4:=k.up hs hj;rcases t1 with q|q|q
  ·exact absurd q n1.1
  ·exact absurd q n2.1
  ·rcases t2 with r|r|r
   ·exact absurd r n3.1
   ·exact absurd r n4.1
   ·rcases a1.1 with e|e<;>rw[e]<;>omega
 ·intro i hi;have o:=Ah hi;rcases(C1 M N (a:=i*8+opp i) (by omega)).1 with e|e<;>rw[e]
  ·exact h.tc.zero i hi
  ·exact k.tc.zero i hi
 ·intro i hi;rcases(C1 M N (a:=i*8+i) (by omega)).1 with e|e<;>rw[e]
  ·exact h.tc.even i hi
  ·exact k.tc.even i hi
 ·intro i j hi hj _ _;refine⟨(fin (by omega)).1,?_⟩;have a1:=C1 M N (a:=i*8+j) (by omega);have a2:=C1 M N (a:=i*8+i) (by omega);have a3:=C1 M N (a:=j*8+j) (by omega);have t1:=(h.tc.half i j hi hj (h.ne hi) (h.ne hj)).2;have t2:=(k.tc.half i j hi hj (k.ne hi) (k.ne hj)).2;rcases a1.1 with e|e<;>rw[e]<;>omega
 ·intro i j hi hj;rw[KH,KH,h.tc.sym i j hi hj,k.tc.sym i j hi hj];by_cases q:M (j*8+i)<N (j*8+i)
  ·rw[if_pos ⟨by omega,q⟩,if_pos ⟨by omega,q⟩]
  ·rw[if_neg (λz=>q z.2),if_neg (λz=>q z.2)]
 ·intro a ha;have:=fin ha;exact .inr (by omega)
def YS(l:List Int):Bool:=decide (1<nz l)||(if CF l=C4 l then decide (CF (Dv l)=opp (CF l))&&decide (C4 (Dv l)=opp (CF l))else true)
theorem Ur:(OO.all λa=>OO.all λb=>OO.all λc=>OO.all λd=>YS [a,b,c,d])=true:=by decide +kernel
theorem ZD{l:List Int}(hl:l.length=4)(h:∀i, -1<=AK l i/\AK l i<=1)(h1:nz l<=1)(he:CF l=C4 l):CF (Dv l)=opp (CF l)/\C4 (Dv l)=opp (CF l):=by
 have t:YS l=true:=by
  obtain⟨a,b,c,d,rfl⟩:=C0 hl;have t:=Ur;simp only[List.all_eq_true]at t;exact t a (Ca (h 0)) b (Ca (h 1)) c (Ca (h 2)) d (Ca (h 3))
 unfold YS at t;rw[decide_eq_false (by omega:¬1<nz l),Bool.false_or,if_pos he,Bool.and_eq_true]at t;exact⟨of_decide_eq_true t.1,of_decide_eq_true t.2⟩
theorem Gr(h:Wn M){i:Nat}(hi:i<8):2*mo M i i=M (i*8+i):=by
 exact((Lg h.tc hi).2 (h.ne hi)).1
theorem Jp(h:Wn M){x:Ds}(hx:DQ x)(hs:DF false M x=true)(way:Int)(he:CA false M x way=false):Wn (CE false M x way):=by
 have n:=hx.g.num;have ht:=hx.tg;have hT:=h.tq;unfold DF at hs;unfold CA at he;unfold CE;rw[if_neg (by decide)]at hs he|-;by_cases k0:x.kind=0
 ·rw[if_pos k0]at hs|-;unfold JF;have bt:∀{lo hi:Int}, -999<=lo->hi<=999->lo<=hi->Wn (FI M x.target.toNat lo hi):=λ{lo hi} h1 h2 h3=>by
   have hlo: -999<=lo/\lo<=999:=⟨h1,by omega⟩
   have hhi: -999<=hi/\hi<=999:=⟨by omega,h2⟩
   refine⟨(QI h.tc hT.top (by omega) hlo hhi h3).1,λi hi'=>?_⟩;rw[Dx M (by omega) hlo hhi hi' hi'];unfold Po;by_cases ti:C6 x.target.toNat i
   ·rw[if_pos ti,if_pos ti,if_pos rfl];split<;>omega
   ·rw[if_neg ti,if_neg ti];exact h.box i hi'
  by_cases a:x.any=true
  ·rw[if_pos a];exact bt (by omega) (by omega) (by omega)
  ·rw[if_neg a];rw[show x.any=false by simpa using a,Bool.false_or]at hs;unfold ftB at hs;obtain⟨g1,g2,g3,g4⟩:=of_decide_eq_true hs;by_cases q:CF x.sg=opp (C4 x.sg)
   ·rw[if_pos q];exact bt (by omega) (by omega) (Int.le_refl _)
   ·rw[if_neg q];have hf:=(Cx x.sg 4 (Nat.le_refl _)).1;have e:=(Tu hx.len hx.g.sg (hx.fa k0)).resolve_right q;have ng:=ZD hx.len hx.g.sg (hx.fa k0) e;have hf':CF x.sg<8:=hf;refine⟨(Uj h.tc hT.top (by omega) hf ⟨by omega,by omega⟩).1,λi hi=>?_⟩;rw[Hd M _ _ _ hi hi];have u1:FC M x.sg=mo M (CF x.sg) (CF x.sg):=by unfold FC;rw[<-e]
    have u2:FC M (Dv x.sg)=mo M (opp (CF x.sg)) (opp (CF x.sg)):=by unfold FC;rw[ng.1,ng.2]
    have d1:=Gr h hf';have d2:=Gr h (Ah hf');have b0:=h.box i hi;unfold Ak BK;by_cases i1:i=2*x.target.toNat
    ·rw[if_pos i1,if_pos i1];unfold pl;rw[if_neg (λz=>z.elim (h.ne hf') (λq=>by unfold NB at q;omega))];rw[u1]at g3;omega
    ·rw[if_neg i1,if_neg i1];by_cases i2:i=2*x.target.toNat+1
     ·rw[if_pos i2,if_pos i2];unfold pl;rw[if_neg (λz=>z.elim (h.ne (Ah hf')) (λq=>by unfold NB at q;omega))];rw[u2]at g4;omega
     ·rw[if_neg i2,if_neg i2];unfold pl;rw[if_neg (λz=>z.elim (h.ne hi) (λq=>by unfold NB at q;omega))];omega
 ·rw[if_neg k0]at hs he|-;cases ha:x.any with
  |true=>rw[if_pos rfl];exact h
  |false=>
   rw[ha,if_neg (by decide)]at he;rw[if_neg (by decide)];have hz1:1<=nz x.sg:=(hx.fc k0).resolve_left (by rw[ha];decide);have fin:∀{l:List Int}{c:Int},l.length=4->(∀i, -1<=AK l i/\AK l i<=1)->1<=nz l->nz l<=2->c<=1000->GJ false M l c=false->Wn (E5 false M l c):=λ{l c} a1 a2 a3 a4 a5 a6=>by
    refine⟨NL hT a1 a2 a3 a4 a5 a6,λi hi=>?_⟩;obtain⟨f,hf,hnf,hgr,hs1,hs2⟩:=Ep h.tc a1 a2 a3 a4;unfold E5;by_cases q:Ko false M l c=true
    ·rw[if_pos q];exact h.box i hi
    ·rw[if_neg q];have e:lm M (CF l) (C4 l) c=sb M f c:=by rw[hs1,hs2];rfl
     rw[e];have s1:=Cs (sb M f c) (i*8+i);have hc:¬FC M l<=c:=by
      unfold Ko at q;simpa using q
     rw[hgr]at hc;rw[EZ M hf (by unfold NB;omega) hi hi]at s1;have b0:=h.box i hi;split at s1
     ·rename_i z;obtain⟨n1,n2,n3,n4,n5,n6⟩:=FE f hf;have f8:f<8:=by
       rcases Nat.lt_or_ge f 8 with r|r
       ·exact r
       ·exact absurd (show fs f=ss f by omega) (G7 f hf r)
      rw[if_pos f8]at s1;have hb:bd M f=mo M f f:=by
       obtain⟨q1,q2⟩:=Eo f f8;unfold bd mo;rw[q1,q2]
      have hd:=Gr h f8;have hif:i=f:=by
       obtain⟨q1,q2⟩:=Eo f f8;omega
      rw[hb]at hc;rw[<-hif]at hc hd;omega
     ·omega
   by_cases w0:way=0
   ·rw[if_pos w0]at he|-;exact fin hx.len hx.g.sg hz1 hx.nz2 (by omega) he
   ·rw[if_neg w0]at he|-;exact fin (Cp _) (DJ hx.g.sg) (by rw[C9 hx.len];exact hz1) (by rw[C9 hx.len];exact hx.nz2) (by omega) he
def GC(p:Pl):Prop:=(p.e=false/\Wn p.M)\/(p.e=true/\p.M=λ_=>0)
def Bf(s:SS):Prop:=∀i,GC (s.1.getD i p0)
theorem GC.p0:GC p0:=.inr ⟨rfl,rfl⟩
theorem GC.rg{p:Pl}(h:GC p):Ym p:=by
 rcases h with⟨h1,h2⟩|⟨h1,h2⟩
 ·exact⟨λj hj=>by have:=h2.all hj;omega,λ_=>h2.tq.sh⟩
 ·exact⟨λj _=>by rw[h2];show -20000000000<=(0:Int)/\(0:Int)<=1000000;omega,λq=>by rw[h1]at q;cases q⟩
theorem GC.sm{p:Pl}(h:GC p):Sm p.M:=λk hk=>by have:=h.rg.1 k hk;omega
theorem KF{s:SS}(h:Bf s)(k:Nat){p:Pl}(hp:GC p)(b:Bool):Bf (s.1.set k p,b):=by
 intro i;show GC ((s.1.set k p).getD i Go.Proofs.YtffajooegiempaaGreatDoor.p0);rcases Nat.lt_or_ge k s.1.length with q|q
 ·rw[DB q];split
  ·exact hp
  ·exact h i
 ·rw[List.set_eq_of_length_le q];exact h i
theorem Na{s:SS}(h:Bf s)(pt:Int){e:Bool}{M:Nat->Int}(hM:e=false->Wn M):Bf (DR s pt e M):=by
 unfold DR;split
 ·exact h
 ·split
  ·exact h
  ·rename_i q;have he:e=false:=by
    cases e with
    |false=>rfl
    |true=>exact absurd rfl q
   have hw:=hM he;refine KF h _ ?_ true;subst he;rcases h pt.toNat with⟨h1,h2⟩|⟨h1,h2⟩
   ·refine .inl ⟨?_,?_⟩
    ·show Hn _ false=false;rw[h1];rfl
    ·show Wn (GF _ false _ M);rw[h1];exact RE h2 hw
   ·refine .inl ⟨?_,?_⟩
    ·show Hn _ false=false;rw[h1];rfl
    ·show Wn (GF _ false _ M);rw[h1];exact hw
theorem Km{s:SS}(h:Bf s){k:Nat}(hx:DQ (F.getD k (AC 0 0))){e:Bool}{M:Nat->Int}(hM:e=false->Wn M)(hs:DF e M (F.getD k (AC 0 0))=true):∀n,Bf (GH F k e M s n)
 |0=>h
 |n+1=>by
  refine Na (Km h hx hM hs n) _ λhe=>?_;cases e with
  |true=>cases he
  |false=>exact Jp (hM rfl) hx hs n he
theorem TG{s:SS}(h:Bf s){k:Nat}(hx:k<F.length->DQ (F.getD k (AC 0 0))){e:Bool}{M:Nat->Int}(hM:e=false->Wn M):Bf (Dp F k e M s):=by
 unfold Dp;split
 ·rename_i q;split
  ·rename_i hs;exact Km h (hx q) hM hs _
  ·exact h
 ·exact h
theorem T0{s:SS}(h:Bf s){k:Nat}(hx:k<F.length->DQ (F.getD k (AC 0 0))):Bf (Fz F k s):=by
 unfold Fz;split
 ·refine TG (KF h _ ?_ _) hx ?_
  ·rcases h k with q|q
   ·exact .inl q
   ·exact .inr q
  ·intro he;rcases h k with q|q
   ·exact q.2
   ·rw[q.1]at he;cases he
 ·exact h
theorem DW{s:SS}(h:Bf s)(hx:∀k,k<F.length->DQ (F.getD k (AC 0 0))):∀n,Bf (C3 F s n)
 |0=>h
 |n+1=>T0 (DW h hx n) (hx n)
theorem Qf(hx:∀k,k<F.length->DQ (F.getD k (AC 0 0))):∀r {s:SS},Bf s->Bf (F9 F r s)
 |0,_,h=>h
 |r+1,s,h=>by
  rw[F9];split
  ·exact Qf hx r (DW h hx _)
  ·exact h
theorem TZ(F:List Ds):∀r (s:SS),(F9 F r s).1.length=s.1.length
 |0,_=>rfl
 |r+1,s=>by
  rw[F9];split
  ·rw[TZ F r,DD]
  ·rfl
def GK(n:Nat):SS:=DR (List.replicate (n+1) p0,false) 0 false (λ_=>0)
def B3(F:List Ds):SS:=F9 F 2685334 (GK F.length)
theorem ID(n:Nat):Bf (GK n):=by
 refine Na (λi=>?_) _ λ_=>M7;show GC ((List.replicate (n+1) p0).getD i p0);rw[List.getD_eq_getElem?_getD,List.getElem?_replicate];split<;>exact GC.p0
theorem MD(n:Nat):(GK n).1.length=n+1:=by unfold GK;rw[J4];simp
theorem KA(hx:∀k,k<F.length->DQ (F.getD k (AC 0 0))):Bf (B3 F):=Qf hx _ (ID _)
theorem JY(F:List Ds):(B3 F).1.length=F.length+1:=by unfold B3;rw[TZ,MD]
end Go.Proofs.YtffajooegiempaaGreatDoor
