import Derived.Test.YtffajooegiempaaGreatDoorK36
import Derived.ChangeMaps5
set_option maxRecDepth 100000
set_option maxHeartbeats 6400000
namespace Go.Proofs.YtffajooegiempaaGreatDoor
open Go.ChangeShapes Go.WideShapes Go.ChangeAt Go.WideMaps Go.WideElems Go.RowKit Go.ChangeMaps Go.Proofs.Tryz
theorem Oj(os:Os)(b:os.Started)(H:Type)(enc:TypeId×Value->H):
  ReturnsInHanded {} Tryz.checked os 4 .any (λw args=>(Rows.allSpec.pre enc prog Tryz.f4 [] false w args/\laidMetH prog Nv w)/\sizedMet enc prog Tryz.f4 (OpenSpec.ofChange Rows.allSpec) false w args)
   (Rows.allSpec.post enc prog Tryz.f4 false true false false):=by
 refine returnsInHanded_of_change_and (C:=Tryz.checked) (X:=λw _=>laidMetH prog Nv w) (λ_ _ _ hh h=>h.of_heap hh) Tryz.ownD b (by kernel_rfl) func4
  (ChangeSpec.witness_shaped (enc:=enc) (C:=Tryz.checked) (os:=os) (X:=λw _=>laidMetH prog Nv w) false (World.doorLaid prog 4000 os) #[.string ByteArray.empty,.string ByteArray.empty,.slice none 0 0,.int .i64 0,.int .i64 0,.int .i64 0,.slice none 0 0,.slice none 0 0] 8 rfl (World.shaped_of_RefB (by kernel_rfl) (by kernel_rfl)) (by kernel_rfl) (by kernel_rfl) (by kernel_rfl) (S5 os _)) ?_
 intro W base args ds gs aa d J _ _ hL _;have a:∀(j:Nat) t v,Tryz.f4.params[j]?=some t->args[j]?=some v->Value.okWide prog W .any base t v:=d;have g:=J;obtain⟨p,q,k,hV,rfl,ar,au⟩:=J;have I:DataW.TrodAll enc prog W 0 (λ_=>true) true Tryz.f4.params.toList args.toList ds p:=k;rw[params4]at I a;obtain⟨L,av,d0,aj,p0,q0,ab,rfl,rfl,h0,r0⟩:=trodAll_cons I;obtain⟨M,aw,d1,ak,p1,q1,ac,rfl,rfl,h1,r1⟩:=trodAll_cons r0;obtain⟨N,ax,d2,al,y,q2,ad,rfl,rfl,h2,r2⟩:=trodAll_cons r1;obtain⟨O,ay,d3,am,p3,q3,ae,rfl,rfl,h3,r3⟩:=trodAll_cons r2;obtain⟨v4,az,d4,an,p4,q4,af,rfl,rfl,h4,r4⟩:=trodAll_cons r3;obtain⟨P,aA,d5,ao,p5,q5,ag,rfl,rfl,h5,r5⟩:=trodAll_cons r4;obtain⟨Q,aB,d6,ap,z,q6,ah,rfl,rfl,F,r6⟩:=trodAll_cons r5;obtain⟨R,aC,d7,aq,A,q7,ai,rfl,rfl,G,r7⟩:=trodAll_cons r6;obtain⟨rfl,rfl,rfl⟩:=trodAll_nil r7;obtain rfl:args=#[L,M,N,O,v4,P,Q,R]:=by cases args;simp_all
 obtain⟨rfl,rfl⟩:=trodVars_none hV;obtain⟨s0,rfl,rfl,rfl,l⟩:=open_string underlying9 (a 0 9 L rfl rfl) h0;obtain⟨s1,rfl,rfl,rfl,m⟩:=open_string underlying9 (a 1 9 M rfl rfl) h1;obtain⟨a2,l2,c2,rfl⟩:=okWide_slice underlying32 (a 2 32 N rfl rfl);obtain⟨b3,rfl,rfl,rfl,B⟩:=open_int underlying3 (a 3 3 O rfl rfl) h3;obtain⟨b4,rfl,rfl,rfl,D⟩:=open_int underlying3 (a 4 3 v4 rfl rfl) h4;obtain⟨b5,rfl,rfl,rfl,E⟩:=open_int underlying3 (a 5 3 P rfl rfl) h5;obtain⟨a6,l6,c6,rfl⟩:=okWide_slice underlying32 (a 6 32 Q rfl rfl);obtain⟨a7,l7,c7,rfl⟩:=okWide_slice underlying32 (a 7 32 R rfl rfl);clear k d;simp only[List.append_nil,List.nil_append]at g;have i:∀x∈y++(z++A),x.block<W.heap.size:=λx hx=>g.lt x (by simpa using hx);have n:∀x∈y,x.block<W.heap.size:=λx hx=>i x (by simp[hx]);have o:∀x∈z,x.block<W.heap.size:=λx hx=>i x (by simp[hx]);have r:∀x∈A,x.block<W.heap.size:=λx hx=>i x (by simp[hx]);obtain⟨S,m2,V⟩:=Hs h2 n;obtain⟨T,m6,Y⟩:=Hs F o;obtain⟨U,m7,Z⟩:=Hs G r;refine(Sc (V7 hL) s0 s1 _ S b3 b4 b5 _ _ T U l m m2 V m6 Y m7 Z).mono λe W' ⟨he,hb⟩=>?_;subst he;have t2:=Below.trod Tryz.laidOutD (by kernel_rfl) (ce (by kernel_rfl)) h2 hb n;have t6:=Below.trod Tryz.laidOutD (by kernel_rfl) (ce (by kernel_rfl)) F hb o;have t7:=Below.trod Tryz.laidOutD (by kernel_rfl) (ce (by kernel_rfl)) G hb r;have c:=trodAll_cons_mk (shut_string underlying9 l) (trodAll_cons_mk (shut_string underlying9 m) (trodAll_cons_mk t2 (trodAll_cons_mk (shut_int underlying3 B) (trodAll_cons_mk (shut_int underlying3 D) (trodAll_cons_mk (shut_int underlying3 E) (trodAll_cons_mk t6 (trodAll_cons_mk t7 trodAll_mk0)))))));simp only[List.append_nil,List.nil_append]at c;exact⟨_,rfl,_,_,_,[],y++(z++A),[],g,trodAll_cons_mk (shut_bool underlying4 _) trodAll_mk0,c,rfl,hb.frame _,λh=>by cases h⟩
theorem VR:Rows.AllSaid:=
 OpenClaim.holds_of_wide 4 Tryz.f4 rfl rfl rfl rfl rfl rfl rfl ⟨rfl,rfl,rfl,rfl,rfl⟩ rfl rfl rfl rfl rfl (by kernel_rfl) func4 (by kernel_rfl)
  (ce (by kernel_rfl)) (by unfold Func.isWrapper;first|(rw[bA (by decide +kernel)];kernel_rfl)|(rw[a_ (by decide +kernel)];exact⟨rfl,rfl⟩))
  (λos b H enc _=>Oj os b H enc)
theorem all_card:Rows.AllCardSaid:=
 Claim7.holds_tied_plain_at .later [] [.data,.data] true Rows.allCard.stood.harness false
  VR (λ_ h=>by cases h) (by kernel_rfl) (λ_ h=>by cases h) all_row_tie rfl ⟨rfl,rfl⟩ (by kernel_rfl) rfl
  (λf fn hf s=>by
   obtain rfl:f=4:=bV ((show Tryz.prog.funcNamed "witness/witnesslaw.All" =some 4 by kernel_rfl).symm.trans hf) |>.symm;obtain rfl:fn=Tryz.f4:=(bV (Tryz.func4.symm.trans s)).symm
   exact⟨by kernel_rfl,λj t K=>by
    rw[params4]at K;have hm:t∈[9,9,32,3,3,3,32,32]:=by simpa using Array.mem_of_getElem? K
    have c:([9,9,32,3,3,3,32,32].all λu=> !Tryz.prog.wantsStandIn u)=true:=by kernel_rfl
    exact(show Tryz.prog.wantsStandIn t=false by simpa using List.all_eq_true.1 c t hm)⟩)
  (by kernel_rfl)
end Go.Proofs.YtffajooegiempaaGreatDoor
