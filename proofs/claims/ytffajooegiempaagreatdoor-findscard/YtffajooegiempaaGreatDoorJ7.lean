import Derived.Test.YtffajooegiempaaGreatDoorJ6
set_option maxRecDepth 100000
set_option maxHeartbeats 6400000
namespace Go.Proofs.YtffajooegiempaaGreatDoor
def RA(T:List Nat)(f g:Nat):List Nat:=
 if kdT f g=2 then(if(T.getD f 0+T.getD g 0+1)/2<=T.getD (nmT f g) 0 then T else T.set (nmT f g) ((T.getD f 0+T.getD g 0+1)/2))
 else if kdT f g=3 then(if T.getD f 0+T.getD g 0<=T.getD (nmT f g) 0 then T else T.set (nmT f g) (T.getD f 0+T.getD g 0))
 else T
def aE:List (List Nat):=[[1,1,1,1,1,1,1,1,1,1,1,1,1,1,1,1,1,1,1,1,1,1,1,1,1,1,1,1,1,1,1,1],
 [7,7,3,3,9,9,9,9,4,8,4,9,2,2,3,3,2,2,3,3,6,6,7,7,6,6,7,7,1,1,1,1],
 [79,79,75,75,63,63,27,27,4,8,4,9,16,20,16,21,52,56,52,57,12,24,12,25,48,60,48,61,36,72,36,73],
 [91,104,95,100,63,63,27,27,4,8,4,9,28,33,41,46,64,69,77,82,32,37,37,42,68,73,73,78,36,72,36,73],
 [165,252,95,100,206,211,27,27,65,70,152,157,28,33,41,46,138,143,225,230,106,111,111,116,68,73,73,78,179,184,184,189],
 [533,988,95,100,206,211,758,763,433,438,888,893,322,327,777,782,138,143,225,230,106,111,111,116,658,663,663,668,547,552,552,557],
 [533,988,317,544,428,433,758,763,655,882,1110,1337,766,771,1221,1226,138,143,225,230,106,111,111,116,880,885,1107,1112,991,996,996,1001],
 [533,988,2309,4528,428,433,3416,3421,2647,4866,3102,5321,766,771,1221,1226,3754,3759,4209,4214,1876,1881,4095,4100,880,885,1107,1112,2983,2988,2988,2993],
 [533,988,2309,4528,6404,12385,9392,9397,2647,4866,3102,5321,6742,12723,7197,13178,9730,9735,10185,10190,7852,13833,10071,16052,10840,10845,13059,13064,2983,2988,2988,2993],
 [10412,10867,3830,6049,17804,23785,20792,20797,4363,14940,4818,16721,6937,12918,8718,14699,9925,9930,11706,11711,11755,17736,19950,25931,14743,14748,22938,22943,2983,2988,2988,2993],
 [176768,177223,170186,172405,142571,148552,62381,62386,4363,14940,4818,16721,28216,54507,28671,56288,114382,134697,114837,136478,21634,59325,23853,67520,107800,139515,110019,147710,80185,163368,86166,169349],
 [196526,218065,201344,213247,142571,148552,62381,62386,4363,14940,4818,16721,47974,75591,69513,97130,134140,155781,155679,177320,52792,80409,64695,92312,138958,160599,150861,172502,80185,163368,86166,169349],
 [341630,508273,201344,213247,411143,438760,62381,62386,128383,140286,295026,306929,47974,75591,69513,97130,279244,300885,445887,467528,197896,225513,209799,237416,138958,160599,150861,172502,348757,370398,376374,398015],
 [1088402,2001817,201344,213247,411143,438760,1534289,1555930,875155,887058,1788570,1800473,649642,677259,1563057,1590674,279244,300885,445887,467528,197896,225513,209799,237416,1321042,1342683,1332945,1354586,1095529,1117170,1123146,1144787],
 [1088402,2001817,636656,1083871,846455,874072,1534289,1555930,1310467,1757682,2223882,2671097,1520266,1547883,2433681,2461298,279244,300885,445887,467528,197896,225513,209799,237416,1756354,1777995,2203569,2225210,1966153,1987794,1993770,2015411],
 [1088402,2001817,4618220,9046999,846455,874072,6821789,6843430,5292031,9720810,6205446,10634225,1520266,1547883,2433681,2461298,7495600,7517241,8409015,8430656,3744148,3771765,8172927,8200544,1756354,1777995,2203569,2225210,5947717,5969358,5975334,5996975],
 [1088402,2001817,4618220,9046999,12791147,24763456,18766481,18788122,5292031,9720810,6205446,10634225,13464958,25437267,14378373,26350682,19440292,19461933,20353707,20375348,15688840,27661149,20117619,32089928,21664174,21685815,26092953,26114594,5947717,5969358,5975334,5996975],
 [20934059,21847474,7708439,12137218,35727023,47699332,41702357,41723998,8796841,29981058,9710256,33570101,13879549,25851858,17468592,29440901,19854883,19876524,23443926,23465567,23589805,35562114,39963276,51935585,29565139,29586780,45938610,45960251,5947717,5969358,5975334,5996975],
 [354639479,355552894,341413859,345842638,286006088,297978397,125128712,125150353,8796841,29981058,9710256,33570101,56661082,109278213,57574497,112867256,229489126,270155589,230402541,273744632,43435462,118988469,47864241,135361940,216263506,279865845,220692285,296239316,160855735,327730086,172828044,339702395],
 [394330793,437611150,404041049,427900894,286006088,297978397,125128712,125150353,8796841,29981058,9710256,33570101,96352396,151645155,139632753,194925512,269180440,312522531,312460797,355802888,106062652,161355411,129922497,185215256,278890696,322232787,302750541,346092632,160855735,327730086,172828044,339702395],
 [685608701,1020166966,404041049,427900894,825241454,880534213,125128712,125150353,257707807,281567652,592266072,616125917,96352396,151645155,139632753,194925512,560458348,603800439,895016613,938358704,397340560,452633319,421200405,476493164,278890696,322232787,302750541,346092632,700091101,743433192,755383860,798725951],
 [2184425753,4017801070,404041049,427900894,825241454,880534213,3079442366,3122784457,1756524859,1780384704,3589900176,3613760021,1303891540,1359184299,3137266857,3192559616,560458348,603800439,895016613,938358704,397340560,452633319,421200405,476493164,2651541472,2694883563,2675401317,2718743408,2198908153,2242250244,2254200912,2297543003],
 [2184425753,4017801070,1277874773,2175568342,1699075178,1754367937,3079442366,3122784457,2630358583,3528052152,4463733900,5361427469,3051558988,3106851747,4884934305,4940227064,560458348,603800439,895016613,938358704,397340560,452633319,421200405,476493164,3525375196,3568717287,4423068765,4466410856,3946575601,3989917692,4001868360,4045210451],
 [2184425753,4017801070,9269660825,18159140446,1699075178,1754367937,13692729590,13736071681,10622144635,19511624256,12455519952,21344999573,3051558988,3106851747,4884934305,4940227064,15045213400,15088555491,16878588717,16921930808,7515292888,7570585647,16404772509,16460065268,3525375196,3568717287,4423068765,4466410856,11938361653,11981703744,11993654412,12036996503],
 [2184425753,4017801070,9269660825,18159140446,25674433334,49705084249,37668087746,37711429837,10622144635,19511624256,12455519952,21344999573,27026917144,51057568059,28860292461,52890943376,39020571556,39063913647,40853946873,40897288964,31490651044,55521301959,40380130665,64410781580,43484305456,43527647547,52373785077,52417127168,11938361653,11981703744,11993654412,12036996503],
 [42017680670,43851055987,15471887648,24361367269,71709915074,95740565989,83703569486,83746911577,17656313401,60176821116,19489688718,67380481313,27858859087,51889510002,35062519284,59093170199,39852513499,39895855590,47056173696,47099515787,47348547805,71379198720,80213385582,104244036497,59342202217,59385544308,92207039994,92250382085,11938361653,11981703744,11993654412,12036996503],
 [711819604922,713652980239,685273811900,694163291521,574061358263,598092009178,251154050549,251197392640,17656313401,60176821116,19489688718,67380481313,113727595744,219339991065,115560971061,226543651262,460622212282,542247298779,462455587599,549450958976,87181802722,238829679783,96071282343,271694517560,434076419260,561736987497,442965898881,594601825274,322863965623,657808269840,346894616538,681838920755],
 [791486114756,878356284787,810975803474,858866596069,574061358263,598092009178,251154050549,251197392640,17656313401,60176821116,19489688718,67380481313,193394105578,304376785779,280264275609,391246955810,540288722116,627284093493,627158892147,714154263524,212883794296,323866474497,260774586891,371757267092,559778410834,646773782211,607669203429,694664574806,322863965623,657808269840,346894616538,681838920755],
 [1376127176144,2047638407563,810975803474,858866596069,1656391451753,1767374131954,251154050549,251197392640,517260580075,565151372670,1188771811494,1236662604089,193394105578,304376785779,280264275609,391246955810,1124929783504,1211925154881,1796441014923,1883436386300,797524855684,908507535885,845415648279,956398328480,559778410834,646773782211,607669203429,694664574806,1405194059113,1492189430490,1516176739314,1603172110691],
 [4384493345948,8064370747171,810975803474,858866596069,1656391451753,1767374131954,6180934360871,6267929732248,3525626749879,3573517542474,7205504151102,7253394943697,2617119213994,2728101894195,6296996615217,6407979295418,1124929783504,1211925154881,1796441014923,1883436386300,797524855684,908507535885,845415648279,956398328480,5322067764802,5409063136179,5369958557397,5456953928774,4413560228917,4500555600294,4524542909118,4611538280495],
 [4384493345948,8064370747171,2564898987638,4366712964397,3410314635917,3521297316118,6180934360871,6267929732248,5279549934043,7081363910802,8959427335266,10761241312025,6124965582322,6235948262523,9804842983545,9915825663746,1124929783504,1211925154881,1796441014923,1883436386300,797524855684,908507535885,845415648279,956398328480,7075990948966,7162986320343,8877804925725,8964800297102,7921406597245,8008401968622,8032389277446,8119384648823],
 [4384493345948,8064370747171,18605690233706,36448295456533,3410314635917,3521297316118,27483495159431,27570490530808,21320341180111,39162946402938,25000218581334,42842823804161,6124965582322,6235948262523,9804842983545,9915825663746,30198146105836,30285141477213,33878023507059,33965018878436,15084392917588,15195375597789,32926998140415,33037980820616,7075990948966,7162986320343,8877804925725,8964800297102,23962197843313,24049193214690,24073180523514,24160175894891],
 [4384493345948,8064370747171,18605690233706,36448295456533,51532688374121,99766044792526,75605868897635,75692864269012,21320341180111,39162946402938,25000218581334,42842823804161,54247339320526,102480695738931,57927216721749,106160573140154,78320519844040,78407515215417,82000397245263,82087392616640,63206766655792,111440123074197,81049371878619,129282728297024,87279947179306,87366942550683,105122552402133,105209547773510,23962197843313,24049193214690,24073180523514,24160175894891]]
def tb(c:Nat):List Nat:=aE.getD c []
def ZZ(T:List Nat)(s:Nat):Nat->List Nat
 |0=>T
 |n+1=>RA (ZZ T s n) ((s+n)/32%32) ((s+n)%32)
theorem WR:∀c:Nat,c<32->ZZ (tb c) (c*128) 128=tb (c+1):=by decide +kernel
def Ks(m:Nat):List Nat:=ZZ (tb (m/128)) (m/128*128) (m%128)
theorem Io{m:Nat}(hm:m<4096):Ks (m+1)=RA (Ks m) (m/32%32) (m%32):=by
 have e:m/128*128+m%128=m:=by omega
 have h:ZZ (tb (m/128)) (m/128*128) (m%128+1)=RA (Ks m) (m/32%32) (m%32):=by
  show RA (ZZ _ _ _) ((m/128*128+m%128)/32%32) ((m/128*128+m%128)%32)=_;rw[e];rfl
 rw[<-h];by_cases c:m%128+1<128
 ·unfold Ks;rw[show(m+1)/128=m/128 by omega,show(m+1)%128=m%128+1 by omega]
 ·rw[show m%128+1=128 by omega,WR (m/128) (by omega)];unfold Ks;rw[show(m+1)/128=m/128+1 by omega,show(m+1)%128=0 by omega];rfl
theorem WX(T:List Nat)(f g:Nat):(RA T f g).length=T.length:=by
 unfold RA;split
 ·split
  ·rfl
  ·exact List.length_set
 ·split
  ·split
   ·rfl
   ·exact List.length_set
  ·rfl
theorem My:∀m,m<=4096->(Ks m).length=32:=by
 intro m;induction m with
 |zero=>intro _;rfl
 |succ m ih=>intro hm;rw[Io (by omega),WX];exact ih (by omega)
theorem IR(T:List Nat)(n x c:Nat)(hn:n<T.length):(T.set n c).getD x 0=if x=n then c else T.getD x 0:=by
 by_cases e:x=n
 ·subst e;simp[List.getD,hn]
 ·rw[if_neg e];simp[List.getD,List.getElem?_set_ne (λz=>e z.symm)]
theorem Pv{T:List Nat}(hT:T.length=32){f g:Nat}(hf:f<32)(hg:g<32):(∀x,T.getD x 0<=(RA T f g).getD x 0)/\(kdT f g=2->T.getD f 0+T.getD g 0<=2*(RA T f g).getD (nmT f g) 0)/\(kdT f g=3->T.getD f 0+T.getD g 0<=(RA T f g).getD (nmT f g) 0):=by
 by_cases k2:kdT f g=2
 ·have hn:=G_ hf hg (.inl k2);unfold RA;rw[if_pos k2];by_cases c:(T.getD f 0+T.getD g 0+1)/2<=T.getD (nmT f g) 0
  ·rw[if_pos c];exact⟨λ_=>Nat.le_refl _,λ_=>by omega,λk3=>absurd (k2.symm.trans k3) (by decide)⟩
  ·rw[if_neg c];refine⟨λx=>?_,λ_=>?_,λk3=>absurd (k2.symm.trans k3) (by decide)⟩
   ·rw[IR _ _ _ _ (by omega)];split
    ·rename_i e;rw[e];omega
    ·exact Nat.le_refl _
   ·rw[IR _ _ _ _ (by omega),if_pos rfl];omega
 ·by_cases k3:kdT f g=3
  ·have hn:=G_ hf hg (.inr k3);unfold RA;rw[if_neg k2,if_pos k3];by_cases c:T.getD f 0+T.getD g 0<=T.getD (nmT f g) 0
   ·rw[if_pos c];exact⟨λ_=>Nat.le_refl _,λz=>absurd z k2,λ_=>c⟩
   ·rw[if_neg c];refine⟨λx=>?_,λz=>absurd z k2,λ_=>?_⟩
    ·rw[IR _ _ _ _ (by omega)];split
     ·rename_i e;rw[e];omega
     ·exact Nat.le_refl _
    ·rw[IR _ _ _ _ (by omega),if_pos rfl];exact Nat.le_refl _
  ·unfold RA;rw[if_neg k2,if_neg k3];exact⟨λ_=>Nat.le_refl _,λz=>absurd z k2,λz=>absurd z k3⟩
theorem Kg(m:Nat):∀k x,m+k<=4096->(Ks m).getD x 0<=(Ks (m+k)).getD x 0
 |0,_,_=>Nat.le_refl _
 |k+1,x,h=>by
  have a:=Kg m k x (by omega);have b:=(Pv (My (m+k) (by omega)) (show(m+k)/32%32<32 by omega) (show(m+k)%32<32 by omega)).1 x;rw[show m+(k+1)=(m+k)+1 by omega,Io (by omega)];omega
theorem RC:(tb 32).length=32/\(tb 32).all (λx=>decide (x<=281474976710656))=true:=by decide +kernel
theorem SC{m:Nat}(hm:m<=4096){x:Nat}(hx:x<32):(Ks m).getD x 0<=281474976710656:=by
 have h:=List.all_eq_true.1 RC.2;have a:=Kg m (4096-m) x (by omega);have e:Ks (m+(4096-m))=tb 32:=by rw[show m+(4096-m)=4096 by omega];rfl
 rw[e]at a;have hl:=RC.1
 have b:=h ((tb 32).getD x 0) (by
  rw[List.getD,List.getElem?_eq_getElem (by omega)]
  exact List.getElem_mem _)
 have:=of_decide_eq_true b;omega
def Yo(m:Nat)(R:Nat->Int):Prop:=∀f,f<32-> -(4000*((Ks m).getD f 0:Int))<=R f
theorem WJ{m:Nat}(hm:m<4096){R:Nat->Int}(h:Yo m R){b:Bool}{R':Nat->Int}{b':Bool}{f g:Nat}(ef:f=m/32%32)(eg:g=m%32)(e:Lw R b f g=some (R',b')):Yo (m+1) R':=by
 have hf:f<32:=by omega
 have hg:g<32:=by omega
 have s:=Mp R b hf hg;rw[e]at s;have hT:=Pv (My m (by omega)) hf hg;have hS:Ks (m+1)=RA (Ks m) f g:=by rw[Io hm,ef,eg]
 cases s with
 |same _=>
  intro x hx;have:=h x hx;have:=hT.1 x;rw[hS];omega
 |put n c q1 q2 hn en hc hk=>
  intro x hx;rw[hS];unfold Bw;split
  ·rename_i ex;have a:=h f hf;have a':=h g hg;rcases hk with⟨k,ec⟩|⟨k,ec⟩
   ·have:=hT.2.1 k;rw[ex,en,ec];omega
   ·have:=hT.2.2 k;rw[ex,en,ec];omega
  ·have:=h x hx;have:=hT.1 x;omega
theorem T8{r:Nat}(hr:r<4){R:Nat->Int}(h:Yo (r*1024) R):∀k,k<=1024->∀R' b,rF R k=some (R',b)->Yo (r*1024+k) R':=by
 intro k;induction k with
 |zero=>intro _ R' b e;rw[rF]at e;cases e;rw[Nat.add_zero];exact h
 |succ k ih=>
  intro hk R' b e;rw[rF]at e;rw[<-Nat.add_assoc];generalize hp:rF R k=p at e
  match p,hp,e with
  |some (R1,b1),hp,e=>
   exact WJ (by omega) (ih (by omega) R1 b1 hp) (by omega) (by omega) e
theorem Vr{R:Nat->Int}(h:∀f,f<32-> -4000<=R f):∀n,n<=4->∀R',EO R n=some R'->Yo (n*1024) R':=by
 intro n;induction n with
 |zero=>
  intro _ R' e;cases e
  intro f hf;have:=h f hf;have:(Ks (0*1024)).getD f 0=1:=(show∀f:Nat,f<32->(Ks (0*1024)).getD f 0=1 by decide +kernel) f hf;rw[this];omega
 |succ n ih=>
  intro hn R' e;obtain⟨R1,b,e1,e2⟩:=Dq e;rw[show(n+1)*1024=n*1024+1024 by omega];exact T8 (by omega) (ih (by omega) R1 e1) 1024 (Nat.le_refl _) R' b e2
def Wl(R:Nat->Int):Prop:=∀k,k<=1024->∀R' b,rF R k=some (R',b)->∀f,f<32-> -2000000000000000000<=R' f/\R' f<=1000000
theorem QG{M:Nat->Int}{L:Int}(hL:0<=L)(h:Lo L M){f:Nat}(hf:f<32): -L-1<=bd M f:=by
 have a:=D5 f hf;have b:=D7 f hf;have:=h (fs f*8+ss f) (by omega);unfold bd;split
 ·have:=AW (M (fs f*8+ss f));omega
 ·omega
theorem Vj{l:List Int}(hl:B_ l){n:Nat}{R:Nat->Int}(h:EO (λf=>l.getD f 0) n=some R):Wl R:=by
 have hi:=Fp (Hl hl) n R h;intro k hk R' b e f hf;have up:R' f<=1000000:=by
  have:=(EW hi k hk R' b e).le f hf;have:=hi f hf;unfold NB at this;omega
 refine⟨?_,up⟩;cases he:ovE l with
 |true=>
  have hn:n<4:=by
   rcases Nat.lt_or_ge n 4 with c|c
   ·exact c
   ·have:=IU (Ow hl he) (n-4);rw[show 4+(n-4)=n by omega,h]at this;cases this
  have a:=T8 hn (Vr (λf hf=>by
   show -4000<=l.getD f 0;rcases Iz (hl.2 f hf)with q|q
   ·rw[q];decide
   ·exact q.1) n (by omega) R h) k hk R' b e f hf
  have c:=SC (m:=n*1024+k) (by omega) hf;omega
 |false=>
  have hT:=(Db hl).tc he;obtain⟨R1,e1,a,hi1⟩:=IK hl he n;have:R1=R:=Option.some.inj (e1.symm.trans h);subst this;obtain⟨R2,b2,e2,a2,_⟩:=KR hT a hi1 k hk;have e3:(R',b)=(R2,b2):=Option.some.inj (e.symm.trans e2);cases e3
  have x:=a2 f hf;have hlo:Lo (8000*6^8+1) (Aj (FW l 32)):=Kc (λa _=>(EA l 32 hl.2 a).1);have y: -(8000*6^8+1)-1<=bd (Aj (FW l 32)) f:=QG (by decide) hlo hf;have z:(8000*6^8+1:Int)=13436928001:=by decide
  rw[z]at y;have x':bd (Aj (FW l 32)) f<=R' f:=x;omega
theorem TC.below_rd{C T:Nat->Int}(hC:TC C)(h:Le C T)(hi:∀a,a<64->T a<=NB):Le C (Ef T 8):=by
 intro a ha;rw[KX];have h1:=h a ha;split
 ·rename_i q;have e:a=a/9*8+a/9:=by omega
  have h3:=hi a ha;rcases hC.even (a/9) q.2.1 with z|z
  ·rw[<-e]at z;have:=q.2.2;omega
  ·rw[<-e]at z;omega
 ·exact h1
theorem TC.below_ah{C T:Nat->Int}(hC:TC C)(h:Le C T)(hi:∀a,a<64->T a<=NB):∀k,k<=64->Le C (Ea T k):=by
 intro k;induction k with
 |zero=>intro _;exact h
 |succ k ih=>
  intro hk;have h1:=ih (by omega);have hi1:∀a,a<64->Ea T k a<=NB:=λa ha=>Int.le_trans (Is T k a) (hi a ha);rw[Ea];generalize Ea T k=S at h1 hi1;intro a ha;unfold SZ;split
  ·rename_i q;unfold Bw;split
   ·rename_i e;obtain⟨q1,q2,q3⟩:=GU q.1;have i8:k/8<8:=by omega
    have j8:k%8<8:=by omega
    have l1:=h1 (k/8*8+k/8) (by omega);have l2:=h1 (k%8*8+k%8) (by omega);have u1:=hi1 (k/8*8+k/8) (by omega);have u2:=hi1 (k%8*8+k%8) (by omega);have hh:=(hC.half (k/8) (k%8) i8 j8 (by omega) (by omega)).2;rw[show k/8*8+k%8=k by omega]at hh;rw[e,q3];have t:=ER (S (k/8*8+k/8)+S (k%8*8+k%8));rcases Int.lt_or_le (S (k/8*8+k/8)+S (k%8*8+k%8)) 0 with c|c
    ·rw[t.2 c];omega
    ·rw[t.1 c];omega
   ·exact h1 a ha
  ·exact h1 a ha
theorem TC.below_sharp{C M:Nat->Int}(hC:TC C)(h:Le C M)(hi:∀a,a<64->M a<=NB):Le C (Aj M):=by
 have h1:=NO hC.tri h hi 8 (Nat.le_refl _);have i1:∀a,a<64->fw M 8 a<=NB:=λa ha=>Int.le_trans (F8 M 8 a) (hi a ha);have h2:=hC.below_rd h1 i1;exact hC.below_ah h2 (λa ha=>Int.le_trans (Hx _ 8 a) (i1 a ha)) 64 (Nat.le_refl _)
theorem DI{M N:Nat->Int}:∀{n:Nat},leF M N n=true↔∀k,k<n->M k<=N k:=by
 intro n;induction n with
 |zero=>exact⟨λ_ k hk=>absurd hk (by omega),λ_=>rfl⟩
 |succ n ih=>
  show(leF M N n&&decide (M n<=N n))=true↔_;rw[Bool.and_eq_true,ih,decide_eq_true_eq];constructor
  ·rintro⟨h1,h2⟩ k hk;rcases Nat.lt_or_eq_of_le (Nat.lt_succ_iff.1 hk)with e|e
   ·exact h1 k e
   ·rw[e];exact h2
  ·intro h;exact⟨λk hk=>h k (by omega),h n (by omega)⟩
theorem II{M:Nat->Int}:∀{n:Nat},(∀i,i<n->0<=M (i*8+opp i))->By M n=false:=by
 intro n;induction n with
 |zero=>intro _;rfl
 |succ n ih=>
  intro h;rw[By,ih (λi hi=>h i (by omega))];have:=h n (by omega);rw[decide_eq_false (by omega)];rfl
theorem I2{C:Nat->Int}{p:List Int}(hC:TC C)(hp:B_ p)(h:∀f,f<32->bd C f<=p.getD f 0):Le C (FW p 32):=by
 intro a ha;have e:a=a/8*8+a%8:=by omega
 have hi:a/8<8:=by omega
 have hj:a%8<8:=by omega
 rw[e];generalize a/8=i at hi;generalize a%8=j at hj;by_cases e1:j=opp i
 ·rw[e1,Gs p i hi,hC.zero i hi];exact Int.le_refl _
 ·rw[Hp p hi hj e1];have top:∀k,k<64->C k<=NB:=λk hk=>by
   rcases hC.top k hk with q|q
   ·omega
   ·unfold NB;omega
  by_cases e2:i=j
  ·subst e2;rw[Gv];have b:=J0 p hi;by_cases q:p.getD i 0=NB
   ·rw[b.1 q];exact top _ (by omega)
   ·rw[b.2 q];have h1:=h i (by omega);have h2:=(Iz (hp.2 i (by omega))).resolve_left q;by_cases z:C (i*8+i)=NB
    ·rw[(hC.lo hi).1 z]at h1;unfold NB at h1;omega
    ·have:=((hC.lo hi).2 z).1;omega
  ·rw[NS p hi hj e2 e1];have h1:=h (nf i j) (DN i hi j hj e1).1;rw[IC hC.sym hi hj e2 e1]at h1;exact h1
theorem Jd{p:List Int}(hp:B_ p):∀a,a<64->FW p 32 a<=NB:=λa _=>(EA p 32 hp.2 a).2
theorem NM{C:Nat->Int}{p:List Int}(hp:B_ p)(h:Le C (FW p 32)):∀f,f<32->bd C f<=p.getD f 0:=by
 intro f hf;have a:=D5 f hf;have b:=D7 f hf
 have:=Wo (o:=p) (M:=λk=>if k<64 then C k else FW p 32 k) hp.2 (λk=>by
  show(if k<64 then C k else FW p 32 k)<=_;split
  ·rename_i hk;exact h k hk
  ·exact Int.le_refl _) f hf
 have e:bd (λk=>if k<64 then C k else FW p 32 k) f=bd C f:=by
  unfold bd;simp only[if_pos (show fs f*8+ss f<64 by omega)]
 rw[e]at this;exact this
def Tj(R S:Nat->Int)(f:Nat):Int:=if R f<S f then S f else R f
theorem KH(M N:Nat->Int):∀k a,jF M N k a=if a<k/\M a<N a then N a else M a:=by
 intro k;induction k with
 |zero=>intro a;rw[if_neg (by omega)];rfl
 |succ k ih=>
  intro a;rw[jF];have hk:jF M N k k=M k:=by rw[ih,if_neg (by omega)]
  rw[hk];by_cases e:a=k
  ·subst e;by_cases c:M a<N a
   ·rw[if_pos c,CV,if_pos ⟨by omega,c⟩]
   ·rw[if_neg c,ih,if_neg (by omega),if_neg (λz=>c z.2)]
  ·have:(if M k<N k then Bw (jF M N k) k (N k)else jF M N k) a=jF M N k a:=by
    split
    ·exact BO _ _ e
    ·rfl
   rw[this,ih];by_cases q:a<k/\M a<N a
   ·rw[if_pos q,if_pos ⟨by omega,q.2⟩]
   ·rw[if_neg q,if_neg (λz=>q ⟨by omega,z.2⟩)]
theorem MB{M N:Nat->Int}{f:Nat}(hM:M (fs f*8+ss f)<=NB)(hN:N (fs f*8+ss f)<=NB)(h:M (fs f*8+ss f)<=N (fs f*8+ss f)):bd M f<=bd N f:=by
 unfold bd;generalize M (fs f*8+ss f)=x at *;generalize N (fs f*8+ss f)=y at *;have tx:=ER x;have ty:=ER y;have hx:=Int.lt_or_le x 0;have hy:=Int.lt_or_le y 0;unfold NB at *;by_cases e:fs f=ss f
 ·by_cases qy:y=1000000
  ·rw[if_neg (show¬(fs f=ss f/\y≠1000000)from λz=>z.2 qy)];split
   ·rcases hx with c|c
    ·rw[tx.2 c];omega
    ·rw[tx.1 c];omega
   ·omega
  ·rw[if_pos (show fs f=ss f/\y≠1000000 from⟨e,qy⟩),if_pos (show fs f=ss f/\x≠1000000 from⟨e,by omega⟩)];rcases hx with c|c
   ·rw[tx.2 c];rcases hy with d|d
    ·rw[ty.2 d];omega
    ·rw[ty.1 d];omega
   ·rw[tx.1 c,ty.1 (by omega)];omega
 ·rw[if_neg (show¬(fs f=ss f/\y≠1000000)from λz=>e z.1),if_neg (show¬(fs f=ss f/\x≠1000000)from λz=>e z.1)];exact h
theorem W2{M N:Nat->Int}(hM:∀a,a<64->M a<=NB)(hN:∀a,a<64->N a<=NB){f:Nat}(hf:f<32):bd (jF M N 64) f=Tj (bd M) (bd N) f:=by
 have k:fs f*8+ss f<64:=by have:=D5 f hf;have:=D7 f hf;omega
 have e:=KH M N 64 (fs f*8+ss f);unfold Tj;by_cases c:M (fs f*8+ss f)<N (fs f*8+ss f)
 ·rw[if_pos ⟨k,c⟩]at e;have h1:bd (jF M N 64) f=bd N f:=by unfold bd;rw[e]
  have h2:=MB (hM _ k) (hN _ k) (Int.le_of_lt c);rw[h1];split<;>omega
 ·rw[if_neg (λz=>c z.2)]at e;have h1:bd (jF M N 64) f=bd M f:=by unfold bd;rw[e]
  have h2:=MB (f:=f) (hN _ k) (hM _ k) (by omega);rw[h1,if_neg (by omega)]
def Jh(f:Nat):Nat:=nf (opp (fs f)) (opp (ss f))
theorem Tk:∀f:Nat,f<32->Jh f<32/\kdT f (Jh f)=1/\Jh f≠f:=by decide +kernel
theorem TC.pick1c{C:Nat->Int}(h:TC C){c:Int}(hc:bd C 1=NB\/0<=c+bd C 1):∃v,SK (bd C) v 4/\sd v 0<=c:=by
 have hr:=h.rd;obtain⟨a,a1,a2,a3⟩:∃a:Int,a<=c/\(bd C 0=NB\/a<=bd C 0)/\(bd C 1=NB\/ -a<=bd C 1):=by
  have z:bd C 0=NB\/bd C 1=NB\/0<=bd C 0+bd C 1:=by
   by_cases q1:bd C 0=NB
   ·exact .inl q1
   ·by_cases q2:bd C 1=NB
    ·exact .inr (.inl q2)
    ·exact .inr (.inr (hr.zer 0 1 (by omega) (by omega) (by decide +kernel) q1 q2))
  generalize bd C 0=x at *;generalize bd C 1=y at *;by_cases q:x=NB
  ·exact⟨c,Int.le_refl _,.inl q,hc.imp id (λh=>by omega)⟩
  ·by_cases q2:c<=x
   ·exact⟨c,Int.le_refl _,.inr q2,hc.imp id (λh=>by omega)⟩
   ·exact⟨x,by omega,.inr (Int.le_refl _),(z.resolve_left q).imp id (λh=>by omega)⟩
 have k1:SK (bd C) (λ_=>a) 1:=by
  refine⟨λi hi=>?_,λi j hi hj e1 e2=>?_⟩
  ·rcases(show i=0\/i=1 by omega)with rfl|rfl
   ·exact a2
   ·exact a3
  ·exfalso;rcases(show i=0\/i=1 by omega)with rfl|rfl
   ·rcases(show j=0\/j=1 by omega)with rfl|rfl
    ·exact e1 rfl
    ·exact e2 rfl
   ·rcases(show j=0\/j=1 by omega)with rfl|rfl
    ·exact e2 rfl
    ·exact e1 rfl
 have hP:∀f,f<32->bd C f=NB\/bd C f<=432000:=λf hf=>h.bd_top hf;obtain⟨t2,k2⟩:=IL (by decide) VC (by decide) hP hr k1;obtain⟨t3,k3⟩:=IL (by decide) VC (by decide) hP hr k2;obtain⟨t4,k4⟩:=IL (by decide) VC (by decide) hP hr k3;exact⟨_,k4,a1⟩
theorem TC.pick2c{C:Nat->Int}(h:TC C){c:Int}(hc8:c<=bd C 8)(hc:bd C 11=NB\/0<=c+bd C 11):∃v,SK (bd C) v 4/\sd v 0+sd v 2<=c:=by
 have hr:=h.rd;have hP:∀f,f<32->bd C f=NB\/bd C f<=432000:=λf hf=>h.bd_top hf;have Z:∀f g,f<32->g<32->kdT f g=1->bd C f≠NB->bd C g≠NB->0<=bd C f+bd C g:=λf g hf hg k q1 q2=>hr.zer f g hf hg k q1 q2;have S:∀f g n,f<32->g<32->(kdT f g=3/\nmT f g=n)->bd C f≠NB->bd C g≠NB->bd C n≠NB/\bd C n<=bd C f+bd C g:=λf g n hf hg k q1 q2=>by
  have:=hr.sum f g hf hg k.1 q1 q2;rw[k.2]at this;have a:=(hP f hf).resolve_left q1;have b:=(hP g hg).resolve_left q2;unfold NB;exact⟨by omega,this⟩
 have D:∀f g n,f<32->g<32->(kdT f g=2/\nmT f g=n)->bd C f≠NB->bd C g≠NB->bd C n≠NB/\2*bd C n<=bd C f+bd C g:=λf g n hf hg k q1 q2=>by
  have:=hr.dou f g hf hg k.1 q1 q2;rw[k.2]at this;have a:=(hP f hf).resolve_left q1;have b:=(hP g hg).resolve_left q2;unfold NB;exact⟨by omega,by omega⟩
 have z1:=Z 0 1 (by omega) (by omega) (by decide +kernel);have z2:=Z 2 3 (by omega) (by omega) (by decide +kernel);have z4:=Z 9 10 (by omega) (by omega) (by decide +kernel);have s4:=S 1 3 11 (by omega) (by omega) (by decide +kernel);have d2:=D 10 11 1 (by omega) (by omega) (by decide +kernel);have t1:=S 9 2 0 (by omega) (by omega) (by decide +kernel);have t5:=S 9 1 3 (by omega) (by omega) (by decide +kernel);have t6:=S 11 2 1 (by omega) (by omega) (by decide +kernel);have t7:=S 10 3 1 (by omega) (by omega) (by decide +kernel);have hn:(1000000:Int)=NB:=rfl;obtain⟨a,b,h0,h1,h2,h3,h9,h10,h11,hab⟩:∃a b:Int,(bd C 0=NB\/a<=bd C 0)/\(bd C 1=NB\/ -a<=bd C 1)/\(bd C 2=NB\/b<=bd C 2)/\(bd C 3=NB\/ -b<=bd C 3)/\(bd C 9=NB\/a-b<=bd C 9)/\(bd C 10=NB\/ -a+b<=bd C 10)/\(bd C 11=NB\/ -a-b<=bd C 11)/\a+b<=c:=by
  clear hP hr S D Z;generalize bd C 0=r0 at *;generalize bd C 1=r1 at *;generalize bd C 2=r2 at *;generalize bd C 3=r3 at *;generalize bd C 9=r9 at *;generalize bd C 10=r10 at *;generalize bd C 11=r11 at *;obtain⟨a,a0,a1,a3,a9⟩:∃a:Int,(r0=NB\/a<=r0)/\(r1=NB\/a= -r1)/\(r3=NB\/a<=c+r3)/\(r9=NB\/2*a<=c+r9):=by
   by_cases q:r1=NB
   ·refine⟨min (min r0 (c+r3)) (min (c+r9) 0),.inr (by omega),.inl q,.inr (by omega),.inr (by omega)⟩
   ·refine⟨-r1,?_,.inr rfl,?_,?_⟩
    ·by_cases q0:r0=NB
     ·exact .inl q0
     ·have:=z1 q0 q;exact .inr (by omega)
    ·by_cases q3:r3=NB
     ·exact .inl q3
     ·have:=s4 q q3;have:=hc.resolve_left this.1;exact .inr (by omega)
    ·by_cases q9:r9=NB
     ·exact .inl q9
     ·have x:=t5 q9 q;have y:=s4 q x.1;have:=hc.resolve_left y.1;exact .inr (by omega)
  have low:∀b:Int,(b=c-a\/(r2≠NB/\b=r2)\/(r10≠NB/\b=r10+a))->(r3=NB\/ -b<=r3)/\(r9=NB\/a-b<=r9)/\(r11=NB\/ -a-b<=r11):=by
   intro b hb;refine⟨?_,?_,?_⟩
   ·by_cases q:r3=NB
    ·exact .inl q
    ·have y:=a3.resolve_left q;rcases hb with e|⟨e1,e⟩|⟨e1,e⟩
     ·exact .inr (by omega)
     ·have:=z2 e1 q;exact .inr (by omega)
     ·have x:=t7 e1 q;have:=a1.resolve_left x.1;exact .inr (by omega)
   ·by_cases q:r9=NB
    ·exact .inl q
    ·have y:=a9.resolve_left q;rcases hb with e|⟨e1,e⟩|⟨e1,e⟩
     ·exact .inr (by omega)
     ·have x:=t1 q e1;have:=a0.resolve_left x.1;exact .inr (by omega)
     ·have:=z4 q e1;exact .inr (by omega)
   ·by_cases q:r11=NB
    ·exact .inl q
    ·have y:=hc.resolve_left q;rcases hb with e|⟨e1,e⟩|⟨e1,e⟩
     ·exact .inr (by omega)
     ·have x:=t6 q e1;have:=a1.resolve_left x.1;exact .inr (by omega)
     ·have x:=d2 e1 q;have:=a1.resolve_left x.1;exact .inr (by omega)
  have a1':r1=NB\/ -a<=r1:=a1.imp id (λh=>by omega);by_cases q2:r2=NB
  ·by_cases q10:r10=NB
   ·obtain⟨l1,l2,l3⟩:=low (c-a) (.inl rfl);exact⟨a,c-a,a0,a1',.inl q2,l1,l2,.inl q10,l3,by omega⟩
   ·by_cases m:c-a<=r10+a
    ·obtain⟨l1,l2,l3⟩:=low (c-a) (.inl rfl);exact⟨a,c-a,a0,a1',.inl q2,l1,l2,.inr (by omega),l3,by omega⟩
    ·obtain⟨l1,l2,l3⟩:=low (r10+a) (.inr (.inr ⟨q10,rfl⟩));exact⟨a,r10+a,a0,a1',.inl q2,l1,l2,.inr (by omega),l3,by omega⟩
  ·by_cases q10:r10=NB
   ·by_cases m:c-a<=r2
    ·obtain⟨l1,l2,l3⟩:=low (c-a) (.inl rfl);exact⟨a,c-a,a0,a1',.inr (by omega),l1,l2,.inl q10,l3,by omega⟩
    ·obtain⟨l1,l2,l3⟩:=low r2 (.inr (.inl ⟨q2,rfl⟩));exact⟨a,r2,a0,a1',.inr (by omega),l1,l2,.inl q10,l3,by omega⟩
   ·by_cases m:c-a<=r10+a
    ·by_cases m2:c-a<=r2
     ·obtain⟨l1,l2,l3⟩:=low (c-a) (.inl rfl);exact⟨a,c-a,a0,a1',.inr (by omega),l1,l2,.inr (by omega),l3,by omega⟩
     ·obtain⟨l1,l2,l3⟩:=low r2 (.inr (.inl ⟨q2,rfl⟩));exact⟨a,r2,a0,a1',.inr (by omega),l1,l2,.inr (by omega),l3,by omega⟩
    ·by_cases m2:r10+a<=r2
     ·obtain⟨l1,l2,l3⟩:=low (r10+a) (.inr (.inr ⟨q10,rfl⟩));exact⟨a,r10+a,a0,a1',.inr (by omega),l1,l2,.inr (by omega),l3,by omega⟩
     ·obtain⟨l1,l2,l3⟩:=low r2 (.inr (.inl ⟨q2,rfl⟩));exact⟨a,r2,a0,a1',.inr (by omega),l1,l2,.inr (by omega),l3,by omega⟩
 have q8:bd C 8=NB\/a+b<=bd C 8:=.inr (by omega)
 ·have k2:SK (bd C) (GX (λ_=>a) 1 b) 2:=by
   have v0:sd (GX (λ_=>a) 1 b) 0=a:=rfl;have v1:sd (GX (λ_=>a) 1 b) 1= -a:=rfl;have v2:sd (GX (λ_=>a) 1 b) 2=b:=rfl;have v3:sd (GX (λ_=>a) 1 b) 3= -b:=rfl;refine⟨λi hi=>?_,λi j hi hj e1 e2=>?_⟩
   ·rcases(show i=0\/i=1\/i=2\/i=3 by omega)with rfl|rfl|rfl|rfl
    ·rw[v0];exact h0
    ·rw[v1];exact h1
    ·rw[v2];exact h2
    ·rw[v3];exact h3
   ·have n1:nf 0 2=8/\nf 2 0=8/\nf 0 3=9/\nf 3 0=9/\nf 1 2=10/\nf 2 1=10/\nf 1 3=11/\nf 3 1=11:=by decide
    obtain⟨m1,m2,m3,m4,m5,m6,m7,m8⟩:=n1;rcases(show i=0\/i=1\/i=2\/i=3 by omega)with rfl|rfl|rfl|rfl
    ·rcases(show j=0\/j=1\/j=2\/j=3 by omega)with rfl|rfl|rfl|rfl
     ·exact absurd rfl e1
     ·exact absurd rfl e2
     ·rw[v0,v2,m1];exact q8
     ·rw[v0,v3,m3];exact h9.imp id (λh=>by omega)
    ·rcases(show j=0\/j=1\/j=2\/j=3 by omega)with rfl|rfl|rfl|rfl
     ·exact absurd rfl e2
     ·exact absurd rfl e1
     ·rw[v1,v2,m5];exact h10
     ·rw[v1,v3,m7];exact h11.imp id (λh=>by omega)
    ·rcases(show j=0\/j=1\/j=2\/j=3 by omega)with rfl|rfl|rfl|rfl
     ·rw[v2,v0,m2];exact q8.imp id (λh=>by omega)
     ·rw[v2,v1,m6];exact h10.imp id (λh=>by omega)
     ·exact absurd rfl e1
     ·exact absurd rfl e2
    ·rcases(show j=0\/j=1\/j=2\/j=3 by omega)with rfl|rfl|rfl|rfl
     ·rw[v3,v0,m4];exact h9.imp id (λh=>by omega)
     ·rw[v3,v1,m8];exact h11.imp id (λh=>by omega)
     ·exact absurd rfl e2
     ·exact absurd rfl e1
  obtain⟨t3',k3⟩:=IL (by decide) VC (by decide) hP hr k2;obtain⟨t4',k4⟩:=IL (by decide) VC (by decide) hP hr k3;exact⟨_,k4,hab⟩
theorem TC.back{C:Nat->Int}(h:TC C){f:Nat}(hf:f<32){v:Nat->Int}(hv:SK (bd (Uv f C)) v 4):∃v',Ej v' C/\∀b,b<8->sd v' b=sd v (GZ f b):=by
 obtain⟨s1,s2,s3,s4⟩:=Kb f hf;have hs:=(h.trn hf).sat hv;have hb:∀b,b<8->sd (λx=>sd v (GZ f (2*x))) b=sd v (GZ f b):=by
  intro b hb;by_cases e:b%2=0
  ·unfold sd;rw[if_pos e];show sd v (GZ f (2*(b/2)))=sd v (GZ f b);rw[show 2*(b/2)=b by omega]
  ·have ho:opp b=2*(b/2):=by unfold opp;rw[if_neg e];omega
   have e1:sd (λx=>sd v (GZ f (2*x))) b= -sd v (GZ f (2*(b/2))):=by
    show(if b%2=0 then sd v (GZ f (2*(b/2)))else -sd v (GZ f (2*(b/2))))=_;rw[if_neg e]
   rw[e1,<-ho,Q6 hf hb,FR,Int.neg_neg]
 refine⟨λx=>sd v (GZ f (2*x)),λi j hi hj=>?_,hb⟩;rw[hb i hi,hb j hj];have:=hs (GZ f i) (GZ f j) (s2 i hi).1 (s2 j hj).1;rw[Ch f C (s2 j hj).1,(s2 i hi).2,(s2 j hj).2]at this;exact this
theorem Lh:∀f:Nat,f<32->(f<8->fs (Jh f)=opp f/\ss (Jh f)=opp f)/\(8<=f->opp (fs f)≠opp (ss f)/\opp (ss f)≠opp (opp (fs f))):=by decide +kernel
theorem TC.low{C:Nat->Int}(h:TC C){f:Nat}(hf:f<32){c:Int}(hlt:c<=bd C f)(hc:bd C (Jh f)=NB\/0<=c+bd C (Jh f)):∃v,Ej v C/\K_ v f<=c:=by
 obtain⟨s1,s2,s3,s4⟩:=Kb f hf;have hT:=h.trn hf;have hfs:=D5 f hf;have hss:=D7 f hf;have e0:GZ f (fs f)=0:=by rw[<-s3];exact(s1 0 (by omega)).2.2
 have m1:Mu f 1=opp (fs f):=by rw[<-s3];exact(s1 0 (by omega)).2.1
 by_cases f8:f<8
 ·have ff:=Eo f f8;have e1:bd (Uv f C) 1=bd C (Jh f):=by
   obtain⟨g1,g2⟩:=(Lh f hf).1 f8;have z0:fs 1=1/\ss 1=1:=by decide
   unfold bd;rw[z0.1,z0.2,Ch f C (by omega),m1,g1,g2,ff.1];simp
  obtain⟨v,hv,e⟩:=hT.pick1c (c:=c) (by rw[e1];exact hc);obtain⟨v',h1,h2⟩:=h.back hf hv;refine⟨v',h1,?_⟩;unfold K_;rw[if_pos f8,h2 f f8];rw[ff.1]at e0;rw[e0];exact e
 ·have hne:=G7 f hf (by omega);have m3:Mu f 3=opp (ss f):=by rw[<-s4 (by omega)];exact(s1 2 (by omega)).2.1
  have e8:bd (Uv f C) 8=bd C f:=by
   unfold bd;have z8:fs 8=0/\ss 8=2:=by decide
   rw[z8.1,z8.2,Ch f C (by omega),s3,s4 (by omega),if_neg (λq=>absurd q.1 (by decide)),if_neg (λq=>hne q.1)]
  have e11:bd (Uv f C) 11=bd C (Jh f):=by
   obtain⟨g1,g2⟩:=(Lh f hf).2 (by omega);have z8:fs 11=1/\ss 11=3:=by decide
   have x:bd C (Jh f)=C (opp (fs f)*8+opp (ss f)):=IC h.sym (Ah hfs) (Ah hss) g1 g2;rw[x];unfold bd;rw[z8.1,z8.2,Ch f C (by omega),m1,m3,if_neg (λq=>absurd q.1 (by decide))]
  obtain⟨v,hv,e⟩:=hT.pick2c (c:=c) (by rw[e8];exact hlt) (by rw[e11];exact hc);obtain⟨v',h1,h2⟩:=h.back hf hv;refine⟨v',h1,?_⟩;have e2:GZ f (ss f)=2:=by rw[<-s4 (by omega)];exact(s1 2 (by omega)).2.2
  unfold K_;rw[if_neg f8,h2 _ hfs,h2 _ hss,e0,e2];exact e
structure P7(M R:Nat->Int):Prop where
 raw:NI M
 hi:∀f,f<32->R f<=NB
 un:Un R M
 ab:Ab (Aj M) R
theorem P7.some{M R:Nat->Int}(h:P7 M R)(he:By (Aj M) 8=false)(n:Nat):∃R',EO R n=some R'/\Ab (Aj M) R'/\∀f,f<32->R' f<=NB:=I0 (h.raw.tc he) h.hi h.ab n
theorem P7.done{M R0:Nat->Int}(hD:P7 M R0){n:Nat}{R R':Nat->Int}(h:EO R0 n=Option.some R)(h2:Kq R=Option.some (R',false)):By (Aj M) 8=false/\∀f,f<32->R' f=bd (Aj M) f:=by
 have hiR:=Fp hD.hi n R h;have hI:=EW hiR 1024 (Nat.le_refl _) R' false h2;have hs:=hI.same rfl;have hd:=T7 hiR h2;have hrd:Ku R R:=⟨λf _=>Int.le_refl _,hd.zer,λf g hf hg k q1 q2=>by rw[<-hs _ (G_ hf hg (.inl k))];exact hd.dou f g hf hg k q1 q2,λf g hf hg k q1 q2=>by rw[<-hs _ (G_ hf hg (.inr k))];exact hd.sum f g hf hg k q1 q2⟩
 have hle:∀m R1,EO R0 m=Option.some R1->∀f,f<32->R1 f<=R0 f:=by
  intro m;induction m with
  |zero=>intro R1 e f _;cases e;exact Int.le_refl _
  |succ m ih=>
   intro R1 e f hf;obtain⟨R2,b,e1,e2⟩:=Dq e;have hi0:=Fp hD.hi m R2 e1;exact Int.le_trans ((EW hi0 1024 (Nat.le_refl _) _ b e2).le f hf) (ih R2 e1 f hf)
 have h0:Un R M:=by
  have u:=hD.un;refine⟨λi hi q=>?_,λi j hi hj h1 h2' q=>?_,u.zer⟩
  ·have a:=u.dia i hi q;have b:=hle n R h i (by omega);omega
  ·have a:=u.off i j hi hj h1 h2' q;have b:=hle n R h (nf i j) (DN i hi j hj h2').1;omega
 have hu:=hrd.un hD.raw h0;cases he:By (Aj M) 8 with
 |true=>
  obtain⟨i,hi,q⟩:=Gi he;have:=hu.zer i hi;omega
 |false=>
  obtain⟨R1,e,a,hi⟩:=hD.some he n;have:R1=R:=Option.some.inj (e.symm.trans h);subst this;refine⟨rfl,λf hf=>?_⟩;rw[hs f hf];exact hu.eqs (hD.raw.tc he) a hi f hf
def XH(m:Nat)(R:Nat->Int):Prop:=∀f,f<32-> -(20000000000*((Ks m).getD f 0:Int))<=R f
theorem UQ{m:Nat}(hm:m<4096){R:Nat->Int}(h:XH m R){b:Bool}{R':Nat->Int}{b':Bool}{f g:Nat}(ef:f=m/32%32)(eg:g=m%32)(e:Lw R b f g=some (R',b')):XH (m+1) R':=by
 have hf:f<32:=by omega
 have hg:g<32:=by omega
 have s:=Mp R b hf hg;rw[e]at s;have hT:=Pv (My m (by omega)) hf hg;have hS:Ks (m+1)=RA (Ks m) f g:=by rw[Io hm,ef,eg]
 cases s with
 |same _=>
  intro x hx;have:=h x hx;have:=hT.1 x;rw[hS];omega
 |put n c q1 q2 hn en hc hk=>
  intro x hx;rw[hS];unfold Bw;split
  ·rename_i ex;have a:=h f hf;have a':=h g hg;rcases hk with⟨k,ec⟩|⟨k,ec⟩
   ·have:=hT.2.1 k;rw[ex,en,ec];omega
   ·have:=hT.2.2 k;rw[ex,en,ec];omega
  ·have:=h x hx;have:=hT.1 x;omega
theorem WD{R:Nat->Int}(h:∀f,f<32-> -20000000000<=R f):∀k,k<=1024->∀R' b,rF R k=some (R',b)->XH k R':=by
 intro k;induction k with
 |zero=>
  intro _ R' b e;rw[rF]at e;cases e
  intro f hf;have:=h f hf;have:(Ks 0).getD f 0=1:=(show∀f:Nat,f<32->(Ks 0).getD f 0=1 by decide +kernel) f hf;rw[this];omega
 |succ k ih=>
  intro hk R' b e;rw[rF]at e;generalize hp:rF R k=p at e
  match p,hp,e with
  |some (R1,b1),hp,e=>
   exact UQ (by omega) (ih (by omega) R1 b1 hp) (by omega) (by omega) e
theorem RB:(tb 8).length=32/\(tb 8).all (λx=>decide (x<=20000))=true:=by decide +kernel
theorem SB{m:Nat}(hm:m<=1024){x:Nat}(hx:x<32):(Ks m).getD x 0<=20000:=by
 have h:=List.all_eq_true.1 RB.2;have a:=Kg m (1024-m) x (by omega);have e:Ks (m+(1024-m))=tb 8:=by rw[show m+(1024-m)=1024 by omega];rfl
 rw[e]at a;have hl:=RB.1
 have b:=h ((tb 8).getD x 0) (by
  rw[List.getD,List.getElem?_eq_getElem (by omega)]
  exact List.getElem_mem _)
 have:=of_decide_eq_true b;omega
theorem P7.nov{M R0:Nat->Int}(hD:P7 M R0)(hlo:∀k,k<64-> -20000000000<=M k)(hR:∀f,f<32-> -20000000000<=R0 f)(hem:By (Aj M) 8=true->EO R0 1=none){n:Nat}{R:Nat->Int}(h:EO R0 n=Option.some R):Wl R:=by
 have hi:=Fp hD.hi n R h;intro k hk R' b e f hf;have up:R' f<=1000000:=by
  have:=(EW hi k hk R' b e).le f hf;have:=hi f hf;unfold NB at this;omega
 refine⟨?_,up⟩;cases he:By (Aj M) 8 with
 |true=>
  have hn:n=0:=by
   rcases Nat.eq_zero_or_pos n with c|c
   ·exact c
   ·have:=IU (hem he) (n-1);rw[show 1+(n-1)=n by omega,h]at this;cases this
  subst hn;cases h
  have a:=WD hR k hk R' b e f hf;have c:=SB hk hf;omega
 |false=>
  have hT:=hD.raw.tc he;obtain⟨R1,e1,a,hi1⟩:=hD.some he n;have:R1=R:=Option.some.inj (e1.symm.trans h);subst this;obtain⟨R2,b2,e2,a2,_⟩:=KR hT a hi1 k hk;have e3:(R',b)=(R2,b2):=Option.some.inj (e.symm.trans e2);cases e3
  have x:=a2 f hf;have hlo':Lo 33592320000000001 (Aj M):=Oi (by decide) (Mk (QW (L:=20000000000) (by decide) hlo 8 (Nat.le_refl _)) 8) 64 (Nat.le_refl _);have y:=QG (by decide) hlo' hf;omega
theorem OP(M:Nat->Int)(hM:∀a,a<64->M a<=NB):∀f,f<32->bd (Aj M) f<=bd M f:=by
 intro f hf;have k1:=D5 f hf;have k2:=D7 f hf;exact MB (Int.le_trans (Cs M _) (hM _ (by omega))) (hM _ (by omega)) (Cs M _)
theorem TC.hi{C:Nat->Int}(h:TC C):∀a,a<64->C a<=NB:=by
 intro a ha;rcases h.top a ha with q|q
 ·omega
 ·unfold NB;omega
theorem TC.un{C:Nat->Int}(h:TC C):Un (bd C) C:=by
 refine⟨λi hi q=>?_,λi j hi hj h1 h2 q=>?_,λi hi=>?_⟩
 ·have:=((h.lo hi).2 q).1;omega
 ·rw[IC h.sym hi hj h1 h2];exact Int.le_refl _
 ·rw[h.zero i hi];exact Int.le_refl _
theorem TC.bd_hi{C:Nat->Int}(h:TC C){f:Nat}(hf:f<32):bd C f<=NB:=by
 rcases h.bd_top hf with q|q
 ·omega
 ·unfold NB;omega
theorem TC.doc{C:Nat->Int}(h:TC C)(hb:Bd 60000 C):P7 C (bd C):=
 ⟨⟨hb,h.sym,h.zero⟩,λ_ hf=>h.bd_hi hf,h.un,OP C h.hi⟩
theorem TC.sharp_eq{C:Nat->Int}(h:TC C):∀a,a<64->Aj C a=C a:=by
 intro a ha;have h1:=Cs C a;have h2:=h.below_sharp (λa _=>Int.le_refl _) h.hi a ha;omega
theorem TC.sharp_con{C:Nat->Int}(h:TC C):By (Aj C) 8=false:=by
 refine II λi hi=>?_;rw[h.sharp_eq _ (by have:=Ah hi;omega),h.zero i hi];exact Int.le_refl _
theorem TC.sharp_bd_eq{C:Nat->Int}(h:TC C){f:Nat}(hf:f<32):bd (Aj C) f=bd C f:=by
 have k1:=D5 f hf;have k2:=D7 f hf;unfold bd;rw[h.sharp_eq _ (by omega)]
def Hq(C:Nat->Int)(f:Nat)(c:Int):Nat->Int:=λg=>if g=f then c else bd C g
theorem EZ(C:Nat->Int){f:Nat}(hf:f<32){c:Int}(hc:c≠NB){i j:Nat}(_hi:i<8)(hj:j<8):sb C f c (i*8+j)=if(i=fs f/\j=ss f)\/(i=ss f/\j=fs f)then(if f<8 then 2*c else c)else C (i*8+j):=by
 obtain⟨a1,a2,a3,a4,a5,a6⟩:=FE f hf;have e:(if fs f=ss f/\c≠NB then 2*c else c)=if f<8 then 2*c else c:=by
  by_cases q:f<8
  ·rw[if_pos q,if_pos ⟨by rw[(a5 q).1,(a5 q).2],hc⟩]
  ·rw[if_neg q,if_neg (λz=>a6 (by omega) z.1)]
 unfold sb;rw[e];generalize(if f<8 then 2*c else c)=y;unfold Bw;by_cases q1:i*8+j=ss f*8+fs f
 ·rw[if_pos q1,if_pos (.inr (by omega))]
 ·rw[if_neg q1];by_cases q2:i*8+j=fs f*8+ss f
  ·rw[if_pos q2,if_pos (.inl (by omega))]
  ·rw[if_neg q2,if_neg (by omega)]
theorem Lk{f:Nat}(hf:f<32){i:Nat}(hi:i<8):¬((i=fs f/\opp i=ss f)\/(i=ss f/\opp i=fs f)):=by
 obtain⟨a1,a2,a3,a4,a5,a6⟩:=FE f hf;rintro(⟨e1,e2⟩|⟨e1,e2⟩)
 ·exact a4 (by rw[<-e1];exact e2.symm)
 ·exact a4 (by rw[<-e2,CL i hi];exact e1.symm)
variable {C:Nat->Int}{f:Nat}{c:Int}
theorem Ua(h:TC C)(hb:Bd 60000 C)(hf:f<32)(hc:c<=1000):NI (sb C f c):=by
 have hn:c≠NB:=by unfold NB;omega
 refine⟨λa ha=>?_,λi j hi hj=>?_,λi hi=>?_⟩
 ·rw[show a=a/8*8+a%8 by omega,EZ C hf hn (by omega) (by omega)];split
  ·split
   ·exact .inr (by omega)
   ·exact .inr (by omega)
  ·exact hb _ (by omega)
 ·rw[EZ C hf hn hi hj,EZ C hf hn hj hi];generalize(if f<8 then 2*c else c)=y;by_cases q:(i=fs f/\j=ss f)\/(i=ss f/\j=fs f)
  ·rw[if_pos q,if_pos (by omega)]
  ·rw[if_neg q,if_neg (by omega)];exact h.sym i j hi hj
 ·rw[EZ C hf hn hi (Ah hi),if_neg (Lk hf hi)];exact h.zero i hi
theorem ZM(_h:TC C)(hf:f<32)(hc:c<=1000){g:Nat}(hg:g<32):bd (sb C f c) g=Hq C f c g:=by
 have hn:c≠NB:=by unfold NB;omega
 have hn2:2*c≠NB:=by unfold NB;omega
 obtain⟨a1,a2,a3,a4,a5,a6⟩:=FE f hf;obtain⟨b1,b2,b3,b4,b5,b6⟩:=FE g hg;have hE:sb C f c (fs g*8+ss g)=if g=f then(if f<8 then 2*c else c)else C (fs g*8+ss g):=by
  rw[EZ C hf hn b1 b2];generalize(if f<8 then 2*c else c)=y;by_cases e:g=f
  ·rw[if_pos e,if_pos (.inl (by rw[e];exact⟨rfl,rfl⟩))]
  ·rw[if_neg e,if_neg];rintro(⟨e1,e2⟩|⟨e1,e2⟩)
   ·exact e (by rw[<-b3,<-a3,e1,e2])
   ·exact e (by rw[<-b3,<-a3,e1,e2,Jg _ (D7 f hf) _ (D5 f hf)])
 unfold Hq bd;rw[hE];by_cases e:g=f
 ·rw[if_pos e,if_pos e];by_cases q:f<8
  ·rw[if_pos q,if_pos ⟨by rw[e,(a5 q).1,(a5 q).2],hn2⟩];have:=ER (2*c);rcases Int.lt_or_le (2*c) 0 with z|z
   ·rw[this.2 z];omega
   ·rw[this.1 z];omega
  ·rw[if_neg q,if_neg (λz=>a6 (by omega) (by rw[<-e];exact z.1))]
 ·rw[if_neg e,if_neg e]
theorem W_(h:TC C)(hf:f<32)(hc:c<=1000):∀a,a<64->sb C f c a<=NB:=by
 have hn:c≠NB:=by unfold NB;omega
 intro a ha;rw[show a=a/8*8+a%8 by omega,EZ C hf hn (by omega) (by omega)];split
 ·split<;>(unfold NB;omega)
 ·exact h.hi _ (by omega)
theorem Pp(h:TC C)(hb:Bd 60000 C)(hf:f<32)(hc:c<=1000):P7 (sb C f c) (Hq C f c):=by
 have hn:c≠NB:=by unfold NB;omega
 obtain⟨a1,a2,a3,a4,a5,a6⟩:=FE f hf;refine⟨Ua h hb hf hc,λg hg=>?_,⟨λi hi q=>?_,λi j hi hj h1 h2 q=>?_,λi hi=>?_⟩,λg hg=>?_⟩
 ·unfold Hq;split
  ·unfold NB;omega
  ·exact h.bd_hi hg
 ·rw[EZ C hf hn hi hi]at q|-;unfold Hq;by_cases e:i=f
  ·have q8:f<8:=by omega
   rw[if_pos e,if_pos (.inl (by rw[(a5 q8).1,(a5 q8).2];exact⟨e,e⟩)),if_pos q8];exact Int.le_refl _
  ·have hne:¬((i=fs f/\i=ss f)\/(i=ss f/\i=fs f)):=by
    intro z;have z1:fs f=i:=by omega
    have z2:ss f=i:=by omega
    rw[z1,z2,Gv]at a3;exact e a3
   rw[if_neg hne]at q|-;rw[if_neg e];have:=((h.lo hi).2 q).1;omega
 ·rw[EZ C hf hn hi hj]at q|-;unfold Hq;by_cases e:(i=fs f/\j=ss f)\/(i=ss f/\j=fs f)
  ·have e2:nf i j=f:=by
    rcases e with⟨e1,e2⟩|⟨e1,e2⟩
    ·rw[e1,e2];exact a3
    ·rw[e1,e2,Jg _ a2 _ a1];exact a3
   have q8:¬f<8:=λz=>by have:=a5 z;omega
   rw[if_pos e,if_neg q8,if_pos e2];exact Int.le_refl _
  ·have e2:nf i j≠f:=by
    intro z;obtain⟨_,n2⟩:=DN i hi j hj h2;rw[z]at n2;exact e (by omega)
   rw[if_neg e]at q|-;rw[if_neg e2,IC h.sym hi hj h1 h2];exact Int.le_refl _
 ·rw[EZ C hf hn hi (Ah hi),if_neg (Lk hf hi),h.zero i hi];exact Int.le_refl _
 ·rw[<-ZM h hf hc hg];exact OP _ (W_ h hf hc) g hg
theorem Pn{v:Nat->Int}(hv:Ej v C)(hf:f<32)(hc:c<=1000)(hl:K_ v f<=c):Ej v (sb C f c):=by
 have hn:c≠NB:=by unfold NB;omega
 obtain⟨a1,a2,a3,a4,a5,a6⟩:=FE f hf;intro i j hi hj;rw[EZ C hf hn hi hj];unfold K_ at hl;split
 ·rename_i e
  right
  by_cases q8:f<8
  ·rw[if_pos q8]at hl|-;have:=a5 q8;have e1:i=f:=by omega
   have e2:j=f:=by omega
   rw[e1,e2];omega
  ·rw[if_neg q8]at hl|-;rcases e with⟨e1,e2⟩|⟨e1,e2⟩
   ·rw[e1,e2];exact hl
   ·rw[e1,e2];omega
 ·exact hv i j hi hj
theorem UY(h:TC C)(hb:Bd 60000 C)(hf:f<32)(hc:c<=1000)(hlt:c<=bd C f)(he:By (Aj (sb C f c)) 8=true):EO (Hq C f c) 1=none:=by
 cases e1:EO (Hq C f c) 1 with
 |none=>rfl
 |some R1=>
  exfalso;have hD:=Pp h hb hf hc;obtain⟨n1,n2,n3⟩:=Tk f hf;have hr:=Hm hD.hi (n:=0) (R1:=Hq C f c) rfl e1;have hcn:bd C (Jh f)=NB\/0<=c+bd C (Jh f):=by
   by_cases q:bd C (Jh f)=NB
   ·exact .inl q
   ·right
    have r1:Hq C f c f=c:=if_pos rfl;have r2:Hq C f c (Jh f)=bd C (Jh f):=if_neg n3;have:=hr.zer f (Jh f) hf n1 n2 (by rw[r1];unfold NB;omega) (by rw[r2];exact q);rw[r1,r2]at this;exact this
  obtain⟨v,hv,hl⟩:=h.low hf hlt hcn;have:=(Pn hv hf hc hl).sharp.some;rw[he]at this;cases this
end Go.Proofs.YtffajooegiempaaGreatDoor
