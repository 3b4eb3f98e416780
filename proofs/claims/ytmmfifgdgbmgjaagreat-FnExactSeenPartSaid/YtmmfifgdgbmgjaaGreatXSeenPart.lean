/- FnExactSeenPart: for every argument the function of the program answers as the model's, and it writes into no argument. No condition. -/
import Derived.Test.YtmmfifgdgbmgjaaGreatQS14
set_option linter.unusedVariables false
set_option linter.unusedSimpArgs false
set_option maxRecDepth 100000
set_option maxHeartbeats 16000000
namespace Go.Proofs.YtmmfifgdgbmgjaaGreat.xSeenPart
open Go.RowKit
attribute [local go_sem] growUpon_value growUpon_skip growUpon_enter
open Go.ChangeShapes Go.WideShapes Go.ChangeAt Go.RowKit Go.Joins
attribute [local go_sem] givesUpon_value givesUpon_skip givesUpon_enter
theorem both (L:List Nd) (a b i:Int):∃ (r:Re) (t:Bool),
  (∀ w1 A1 c1 k (R:List Nr),R.map Nr.n=L→k=R.length→NrV w1 A1 R→RdR w1 R→R.length≤1048576→(∀ p∈R,p.n.cs.length≤1048576∧p.n.rs.length≤1048576)→Calls Tryz.prog 17 #[.agg #[.slice A1 k c1],.int .i64 a,.int .i64 b,.int .i64 i] w1 fun e w'=>e=.returned (.tuple #[.agg #[.int .i64 (r.x),.int .i64 (r.y),.int .i64 (r.u),.int .i64 (r.v)],.bool t])∧Below w1.heap.size w1 w') ∧
  (∀ w1 A1 c1 k (R:List Nr),R.map Nr.n=L→k=R.length→NrV w1 A1 R→RdR w1 R→R.length≤1048576→(∀ p∈R,p.n.cs.length≤1048576∧p.n.rs.length≤1048576)→Calls Tryz.prog 18 #[.agg #[.slice A1 k c1],.int .i64 a,.int .i64 b,.int .i64 i] w1 fun e w'=>e=.returned (.tuple #[.agg #[.int .i64 (r.x),.int .i64 (r.y),.int .i64 (r.u),.int .i64 (r.v)],.bool t])∧Below w1.heap.size w1 w'):=by
 obtain ⟨r,t,hv⟩:=seVal_ex (spM L a b i);exact ⟨r,t,fun w1 A1 c1 k R hR hk h1 h2 h3 h4=>by subst hR;rw [<- hv];exact sSeenPart_v A1 c1 k R a b i w1 hk h1 h2 h3 h4,fun w1 A1 c1 k R hR hk h1 h2 h3 h4=>by subst hR;rw [<- hv];exact SeenPart_v A1 c1 k R a b i w1 hk h1 h2 h3 h4⟩
theorem walk (A:Option Addr) (c:Nat) (R:List Nr) (a:Int) (b:Int) (i:Int) (w:World) (h:NrV w A R) (hr:RdR w R) (hn:R.length≤maxLen) (hm:∀ p∈R,p.n.cs.length≤maxLen∧p.n.rs.length≤maxLen) :
  Calls Tryz.prog 4 #[.agg #[.slice A R.length c],.int .i64 a,.int .i64 b,.int .i64 i] w fun e w'=>e=.returned (.bool true)∧Below w.heap.size w w':=by
 have hB0:Below w.heap.size w (w.alloc (.cells #[.slice A R.length c] 24 (0,0))):=balloc (Below.refl _ _);have HX:=hD (newS w (.cells #[.slice A R.length c] 24 (0,0)));have HV:=hD (h.keep hB0);have HR:=hD (hr.keep hB0);have HB:=hD hB0;have HN:=hD (And.intro hn hm);clear hB0 h hr hn hm
 obtain ⟨t,ht⟩:∃ t,(if R.length+szL R≤1048576 then (1048576:Int)-(R.length+szL R) else -1)=t:=⟨_,rfl⟩
 have hx0:=cellS HX.out 0
 by_cases hs:R.length+szL R≤1048576
 ·have ht0:decide (t<0)=false:=by rw [<- ht,if_pos hs];exact decide_eq_false (by omega)
  have HT:=hD ht
  have hL:R.length≤1048576:=by omega
  have HM:=hD (show ∀ p∈R,p.n.cs.length≤1048576∧p.n.rs.length≤1048576 from fun p hp=>by have:=szL_mem hp;omega);obtain ⟨r,tb,hI1,hI2⟩:=both (R.map Nr.n) a b i;have HS:=hD hI1;have HI:=hD hI2;clear ht hI1 hI2 hs
  go_enter Tryz.func4,Tryz.ntmps4
  go_wp2_with fail
  with_reducible refine (szTree_v A c R t _ HV.out HN.out.1 HN.out.2 HT.out).mono ?_
  rintro e w1 ⟨rfl,hb⟩;clear hx0;replace HX:=hbk hb HX;replace HV:=hD (HV.out.keep hb);replace HR:=hD (HR.out.keep hb);replace HB:=hD (bkeep2 HB.out hb);clear hb;have hx0:=cellS HX.out 0
  go_wp2_with fail
  with_reducible refine (toTree_a A c R _ HV.out HR.out hL HM.out).mono ?_
  rintro e w2 ⟨⟨v,rfl,hta⟩,hb⟩;obtain ⟨g,S,rfl,-,-,e1,h1,h2,h3,-,-⟩:=hta.open;clear hx0 hta;replace HX:=hbk hb HX;replace HV:=hD (HV.out.keep hb);replace HR:=hD (HR.out.keep hb);replace HB:=hD (bkeep2 HB.out hb);clear hb
  go_wp2_with fail
  with_reducible refine (HS.out _ _ _ R.length S h3 e1.symm h1 h2 (by omega) (map_mem h3 HM.out)).mono ?_
  rintro e w3 ⟨rfl,hb⟩;clear h1 h2 h3 e1;have hbz:Below w3.heap.size w3 (w3.alloc (.cells #[.int .i64 r.x,.int .i64 r.y,.int .i64 r.u,.int .i64 r.v] 38 (0,0))):=balloc (Below.refl _ _);have HZ:=hD (newS w3 (.cells #[.int .i64 r.x,.int .i64 r.y,.int .i64 r.u,.int .i64 r.v] 38 (0,0)));replace hb:=bkeep2 hb hbz;clear hbz;replace HX:=hbk hb HX;replace HV:=hD (HV.out.keep hb)
  replace HR:=hD (HR.out.keep hb);replace HB:=hD (bkeep2 HB.out hb);clear hb;have hx0:=cellS HX.out 0
  go_wp2_with fail
  with_reducible refine (toTree_a A c R _ HV.out HR.out hL HM.out).mono ?_
  rintro e w4 ⟨⟨v,rfl,hta⟩,hb⟩;obtain ⟨g4,S4,rfl,-,-,e4,h1,h2,h3,-,-⟩:=hta.open;have hb2:Below w4.heap.size w4 (w4.alloc (.cells #[.slice (some ⟨g4,0,none⟩) R.length R.length] 30 (0,0))):=balloc (Below.refl _ _);have HY:=hD (newS w4 (.cells #[.slice (some ⟨g4,0,none⟩) R.length R.length] 30 (0,0)));have HV4:=hD (h1.keep hb2);have HR4:=hD (h2.keep hb2);have HE4:=hD h3;replace hb:=bkeep2 hb hb2
  have HL4:=hD e4;clear hx0 hta h1 h2 h3 e4 hb2;replace HX:=hbk hb HX;replace HZ:=hbk hb HZ;replace HV:=hD (HV.out.keep hb);replace HR:=hD (HR.out.keep hb);replace HB:=hD (bkeep2 HB.out hb);clear hb;have hy0:=cellS HY.out 0
  go_wp2_with fail
  with_reducible refine (HI.out _ _ _ R.length S4 HE4.out HL4.out.symm HV4.out HR4.out (by rw [HL4.out];omega) (map_mem HE4.out HM.out)).mono ?_
  rintro e w5 ⟨rfl,hb⟩;clear hy0;have hbz:Below w5.heap.size w5 (w5.alloc (.cells #[.int .i64 r.x,.int .i64 r.y,.int .i64 r.u,.int .i64 r.v] 38 (0,0))):=balloc (Below.refl _ _);have HZ2:=hD (newS w5 (.cells #[.int .i64 r.x,.int .i64 r.y,.int .i64 r.u,.int .i64 r.v] 38 (0,0)));replace hb:=bkeep2 hb hbz;clear hbz;replace HX:=hbk hb HX;replace HY:=hbk hb HY;replace HZ:=hbk hb HZ
  replace HV:=hD (HV.out.keep hb);replace HR:=hD (HR.out.keep hb);replace HV4:=hD (HV4.out.keep hb);replace HR4:=hD (HR4.out.keep hb);replace HB:=hD (bkeep2 HB.out hb);clear hb;have a0:=cellS HZ.out 0;have a1:=cellS HZ.out 1;have a2:=cellS HZ.out 2;have a3:=cellS HZ.out 3;have b0:=cellS HZ2.out 0;have b1:=cellS HZ2.out 1;have b2:=cellS HZ2.out 2;have b3:=cellS HZ2.out 3
  have hne:(tb != tb)=false:=by cases tb <;> rfl
  have heq:(tb == tb)=true:=by cases tb <;> rfl
  go_wp2_with fail
  refine (eqRect_same r.x r.y r.u r.v _).mono ?_;rintro e w6 ⟨rfl,hb⟩;clear a0 a1 a2 a3 b0 b1 b2 b3;replace HX:=hbk hb HX;replace HY:=hbk hb HY;replace HV:=hD (HV.out.keep hb);replace HR:=hD (HR.out.keep hb);replace HV4:=hD (HV4.out.keep hb);replace HR4:=hD (HR4.out.keep hb);replace HB:=hD (bkeep2 HB.out hb);clear hb;have hx0:=cellS HX.out 0;have hy0:=cellS HY.out 0;have lx:=ltS HX.out
  have ly:=ltS HY.out;have hv:=HV.out;have hr:=HR.out;have hv4:=HV4.out;have hr4:=HR4.out
  go_wp2_with fail
  refine wp_region_rx (XV (.agg #[.slice (some ⟨g4,0,none⟩) R.length R.length]) :: XV (.agg #[.slice A R.length c]) :: (fun z w=>TA 0 w z R) :: XV (.bool true) :: XV (.bool false) :: []) (by kernel_rfl) (by kernel_rfl) ?hTs ?hops ?hfin
  case hTs =>
   intro T hT;simp only [List.mem_cons,List.not_mem_nil,or_false] at hT
   rcases hT with rfl | rfl | rfl | rfl | rfl <;> first | exact stay_V _ | exact stay_T | exact stay_of (fun v a b x g=>x.keep g) | exact stay_of (fun v a b x g=>x)
  case hops =>
   refine ⟨opOK_rx [(12,none)] (by kernel_rfl) rfl ?_,?_⟩
   ·intro act w' hw' h1;obtain ⟨hk,hf⟩:=evkf act;generalize act.eval=ρ at *;replace h1:ρ (.tmp 12)=.pointer (some ⟨w4.heap.size,0,none⟩):=h1
    refine gxB hw' fun K hK hc hf'=>?_
    go_simp;exact hK _ _ ⟨rfl,Gr.refl _⟩
   refine ⟨opOK_rx [(4,none)] (by kernel_rfl) rfl ?_,?_⟩
   ·intro act w' hw' h1;obtain ⟨hk,hf⟩:=evkf act;generalize act.eval=ρ at *;replace h1:ρ (.tmp 4)=.pointer (some ⟨w.heap.size,0,none⟩):=h1
    refine gxB hw' fun K hK hc hf'=>?_
    go_simp;exact hK _ _ ⟨rfl,Gr.refl _⟩
   refine ⟨opOK_rx [(49,some 1)] (by kernel_rfl) rfl ?_,?_⟩
   ·intro act w' hw' h1;obtain ⟨hk,hf⟩:=evkf act;generalize act.eval=ρ at *;replace h1:ρ (.tmp 49)=.agg #[.slice A R.length c]:=h1
    refine gxB hw' fun K hK hc hf'=>?_
    go_simp
    (with_reducible refine (toTree_a A c R _ (hv.keep (bdrewn hw'.out)) (hr.keep (bdrewn hw'.out)) hL HM.out).mono ?_);rintro e w1 ⟨⟨z,rfl,hr1⟩,hb1⟩;exact ⟨_,rfl,hK _ _ ⟨hr1.any,hb1⟩⟩
   refine ⟨opOK_rx [(48,some 0),(50,some 2)] (by kernel_rfl) rfl ?_,?_⟩
   ·intro act w' hw' h1 h2;obtain ⟨hk,hf⟩:=evkf act;generalize act.eval=ρ at *;replace h1:ρ (.tmp 48)=.agg #[.slice (some ⟨g4,0,none⟩) R.length R.length]:=h1;replace h2:(fun z w=>TA 0 w z R) (ρ (.tmp 50)) w':=h2
    refine gxB hw' fun K hK hc hf'=>?_
    go_simp;obtain ⟨q1,q2,e,-,-,q3,q4,q5,q6,-,-⟩:=h2.open;rw [e];(with_reducible refine (eqTree_same _ _ _ _ S4 q2 _ (by rw [q6];exact HE4.out.symm) (hv4.keep (bdrewn hw'.out)) q4 (hr4.keep (bdrewn hw'.out)) q5 (by rw [HL4.out];omega) (map_mem HE4.out HM.out) R.length HL4.out.symm).mono ?_);rintro e w1 ⟨rfl,hb1⟩;exact ⟨_,rfl,hK _ _ ⟨rfl,hb1⟩⟩
   refine ⟨opOK_rx [(51,some 3)] (by kernel_rfl) rfl ?_,?_⟩
   ·intro act w' hw' h1;obtain ⟨hk,hf⟩:=evkf act;generalize act.eval=ρ at *;replace h1:ρ (.tmp 51)=.bool true:=h1
    refine gxB hw' fun K hK hc hf'=>?_
    go_simp;exact hK _ _ ⟨rfl,Gr.refl _⟩
   exact trivial
  case hfin =>
   intro w9 hg9;intro v48 t48;replace t48:v48=.agg #[.slice (some ⟨g4,0,none⟩) R.length R.length]:=t48;subst t48;intro v49 t49;replace t49:v49=.agg #[.slice A R.length c]:=t49;subst t49;intro v50 t50;replace t50:(fun z w=>TA 0 w z R) v50 w9:=t50;intro v51 t51;replace t51:v51=.bool true:=t51;subst t51;intro v52 t52;replace t52:v52=.bool false:=t52;subst t52;have hb9:=bdrewn hg9.out;clear hg9
   simp only [finP,Act.put,List.setIfInBounds_toArray,List.set_cons_succ,List.set_cons_zero];replace HB:=hD (bkeep2 HB.out hb9);clear hb9;go_wp2;go_ret;exact ⟨rfl,HB.out⟩
 ·have ht0:t=-1:=by rw [<- ht,if_neg hs]
  subst ht0;have HT:=hD ht;clear ht hs
  go_enter Tryz.func4,Tryz.ntmps4
  go_wp2_with fail
  with_reducible refine (szTree_v A c R _ _ HV.out HN.out.1 HN.out.2 HT.out).mono ?_
  rintro e w1 ⟨rfl,hb⟩;replace HB:=hD (bkeep2 HB.out hb);clear hb;go_wp2;go_ret;exact ⟨rfl,HB.out⟩
theorem lifted (os:Os) (started:os.Started) (H:Type) (enc:TypeId × Value→H) :
  ReturnsInHanded {} Tryz.checked os 4 .any (Rows.fnExactSeenPartSpec.pre6 enc Tryz.prog Tryz.f4 Rows.fnExactSeenPartRow.domain false) (Rows.fnExactSeenPartSpec.post enc Tryz.prog Tryz.f4 false true false false):=by
 refine returnsInHanded_of_change (C:=Tryz.checked) own started (by kernel_rfl) Tryz.func4
  (ChangeSpec.witness6 (enc:=enc) (C:=Tryz.checked) false ⟨#[],#[.agg #[.slice none 0 0],.int .i64 0,.int .i64 0,.int .i64 0],[]⟩ 8 (by kernel_rfl) (by kernel_rfl) (by kernel_rfl) (by kernel_rfl)) ?_
 intro W base args ds gs before hval0 hW hcnd _;have hval:∀ (j:Nat) t v,Tryz.f4.params[j]?=some t→args[j]?=some v→Value.okWide Tryz.prog W .any base t v:=hval0;have hW':=hW;obtain ⟨p,q,hA0,hV,rfl,hfz,hnd⟩:=hW;have hA:DataW.TrodAll enc Tryz.prog W 0 (fun _=>true) true Tryz.f4.params.toList args.toList ds p:=hA0;rw [Tryz.params4] at hA hval
 obtain ⟨v0,vs0,d0,ds0,p0,q0,hargs,rfl,rfl,h0,r0⟩:=trodAll_cons hA;obtain ⟨v1,vs1,d1,ds1,p1,q1,rfl,rfl,rfl,h1,r1⟩:=trodAll_cons r0;obtain ⟨v2,vs2,d2,ds2,p2,q2,rfl,rfl,rfl,h2,r2⟩:=trodAll_cons r1;obtain ⟨v3,vs3,d3,ds3,p3,q3,rfl,rfl,rfl,h3,r3⟩:=trodAll_cons r2;obtain ⟨rfl,rfl,rfl⟩:=trodAll_nil r3
 obtain rfl:args=#[v0,v1,v2,v3]:=by cases args;simp_all
 obtain ⟨rfl,rfl⟩:=trodVars_none hV;have k0:=h0
 have lt0:∀ x∈p0,x.block<W.heap.size:=by obtain ⟨m,hm⟩:=k0;exact DataW.trod_lt m _ _ _ hm
 obtain ⟨a0,c0,z0,rfl,wz0,wr0,wn0,wm0⟩:=tree_of (hval 0 24 v0 rfl rfl) h0;have k1:=h1
 have lt1:∀ x∈p1,x.block<W.heap.size:=by obtain ⟨m,hm⟩:=k1;exact DataW.trod_lt m _ _ _ hm
 obtain ⟨x1,rfl,_,_,wx1⟩:=open_int Tryz.underlying3 (hval 1 3 v1 rfl rfl) h1;have k2:=h2
 have lt2:∀ x∈p2,x.block<W.heap.size:=by obtain ⟨m,hm⟩:=k2;exact DataW.trod_lt m _ _ _ hm
 obtain ⟨x2,rfl,_,_,wx2⟩:=open_int Tryz.underlying3 (hval 2 3 v2 rfl rfl) h2;have k3:=h3
 have lt3:∀ x∈p3,x.block<W.heap.size:=by obtain ⟨m,hm⟩:=k3;exact DataW.trod_lt m _ _ _ hm
 obtain ⟨x3,rfl,_,_,wx3⟩:=open_int Tryz.underlying3 (hval 3 3 v3 rfl rfl) h3;clear hA0 hval0
 refine (walk a0 c0 z0 x1 x2 x3 W wz0 wr0 wn0 wm0).mono fun e W' ⟨he,bel⟩=>?_
 subst he
 exact ⟨_,rfl,_,_,_,[],_,[],hW',trodAll_mk1 (shut_bool Tryz.underlying4 _),(trodAll_cons_mk (Below.trod laidOut (by kernel_rfl) (of_decide_eq_true (by kernel_rfl)) k0 bel lt0) (trodAll_cons_mk (Below.trod laidOut (by kernel_rfl) (of_decide_eq_true (by kernel_rfl)) k1 bel lt1) (trodAll_cons_mk (Below.trod laidOut (by kernel_rfl) (of_decide_eq_true (by kernel_rfl)) k2 bel lt2) (trodAll_cons_mk (Below.trod laidOut (by kernel_rfl) (of_decide_eq_true (by kernel_rfl)) k3 bel lt3) trodAll_mk0)))),rfl,bel.frame _,fun h=>by cases h⟩
theorem y0:mapsRowed Tryz.prog=true:=by kernel_rfl
theorem y1:Tryz.prog.inPlace 4=Rows.fnExactSeenPartRow.inPlace:=by kernel_rfl
theorem y2:Tryz.prog.unfollowed 4=Rows.fnExactSeenPartRow.unfollowed:=by kernel_rfl
theorem y3:Tryz.prog.recurses 4=Rows.fnExactSeenPartRow.recurses:=by kernel_rfl
theorem y4:Tryz.prog.varsNamed 4=Rows.fnExactSeenPartRow.named:=by kernel_rfl
theorem y5:Tryz.prog.plainKeys=Rows.fnExactSeenPartRow.plainKeys:=by kernel_rfl
theorem y6:Tryz.prog.stopsHeard=true:=by kernel_rfl
theorem y7:Tryz.prog.mayEnter=true:=by kernel_rfl
theorem y8:Tryz.prog.liftsFinal=Rows.fnExactSeenPartRow.lifted:=by kernel_rfl
theorem y9:Tryz.prog.make=some Rows.fnExactSeenPartRow.make:=by kernel_rfl
theorem closed:joinedFacts Tryz.prog 4 Tryz.f4 Rows.fnExactSeenPartSpec Rows.fnExactSeenPartRow=true:=by
 unfold joinedFacts;rw [laidOut,y0,y1,y2,y3,y4,y5,y6,y7,y8,y9];kernel_rfl
theorem over:Rows.fnExactSeenPartRow.holds Tryz.pinned (OpenSpec.ofChange Rows.fnExactSeenPartSpec) :=
 OpenClaim.holds_of_wide 4 Tryz.f4 rfl rfl rfl rfl rfl rfl rfl ⟨rfl,rfl,rfl,rfl,rfl⟩ rfl rfl rfl rfl rfl (by kernel_rfl) Tryz.func4 closed
  (of_decide_eq_true (by kernel_rfl)) (by unfold Func.isWrapper;first|(rw [if_pos (by decide +kernel)];kernel_rfl)|(rw [if_neg (by decide +kernel)];exact ⟨rfl,rfl⟩))
  (fun os started H enc _=>lifted os started H enc)
theorem proved:Rows.FnExactSeenPartSaid:=over
end Go.Proofs.YtmmfifgdgbmgjaaGreat.xSeenPart
