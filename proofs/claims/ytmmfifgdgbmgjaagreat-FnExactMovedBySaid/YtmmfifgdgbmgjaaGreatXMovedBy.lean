/- FnExactMovedBy: for every argument the function of the program answers as the model's, it writes into no argument, and its answer is memory of its own. No condition. -/
import Derived.Test.YtmmfifgdgbmgjaaGreatQM14
set_option linter.unusedVariables false
set_option linter.unusedSimpArgs false
set_option maxRecDepth 100000
set_option maxHeartbeats 16000000
namespace Go.Proofs.YtmmfifgdgbmgjaaGreat.xMovedBy
open Go.RowKit
attribute [local go_sem] growUpon_value growUpon_skip growUpon_enter
open Go.ChangeShapes Go.WideShapes Go.ChangeAt Go.RowKit Go.Joins
attribute [local go_sem] givesUpon_value givesUpon_skip givesUpon_enter
theorem both (L:List Nd) (i u v a b:Int):∃ M:List Int,M.length≤1000 ∧
  (∀ w1 A1 c1 k (R:List Nr),R.map Nr.n=L→k=R.length→NrV w1 A1 R→RdR w1 R→R.length≤1048576→(∀ p∈R,p.n.cs.length≤1048576∧p.n.rs.length≤1048576)→Calls Tryz.prog 9 #[.agg #[.slice A1 k c1],.int .i64 i,.int .i64 u,.int .i64 v,.int .i64 a,.int .i64 b] w1 fun e w'=>(∃ x,e=.returned x∧NR w' x M)∧Below w1.heap.size w1 w') ∧
  (∀ w1 A1 c1 k (R:List Nr),R.map Nr.n=L→k=R.length→NrV w1 A1 R→RdR w1 R→R.length≤1048576→(∀ p∈R,p.n.cs.length≤1048576∧p.n.rs.length≤1048576)→Calls Tryz.prog 11 #[.agg #[.slice A1 k c1],.int .i64 i,.int .i64 u,.int .i64 v,.int .i64 a,.int .i64 b] w1 fun e w'=>(∃ x,e=.returned x∧GO w1.heap.size w' x M)∧Below w1.heap.size w1 w') :=
 ⟨mvM L i u v a b,by have:=mvM_len L i u v a b;omega,fun w1 A1 c1 k R hR hk h1 h2 h3 h4=>by subst hR;exact sMovedBy_v A1 c1 k R i u v a b w1 hk h1 h2 h3 h4,fun w1 A1 c1 k R hR hk h1 h2 h3 h4=>by subst hR;exact MovedBy_v A1 c1 k R i u v a b w1 hk h1 h2 h3 h4⟩
def BLW (a W:World):Prop:=Below a.heap.size a W
theorem BLW.keep {a W W':World} (h:BLW a W) (hb:Below W.heap.size W W'):BLW a W':=Below.trans h (hb.mono (Below.size h))
theorem mark_nn {S:List Nr}:decide ((1+mkS S:Int)<0)=false:=by
 have:=mkS_nn S
 exact decide_eq_false (by omega)
theorem szL_eq:∀ {R S:List Nr},S.map Nr.n=R.map Nr.n→szL S=szL R
 | [],[],_=>rfl
 | p :: R,q :: S,h=>by
  simp only [List.map_cons,List.cons.injEq] at h
  have:=szL_eq h.2
  unfold szL;rw [h.1,this]
 | [],q :: S,h=>by simp at h
 | p :: R,[],h=>by simp at h
theorem walk (A:Option Addr) (c:Nat) (R:List Nr) (i:Int) (u:Int) (v:Int) (a:Int) (b:Int) (w:World) (h:NrV w A R) (hr:RdR w R) (hn:R.length≤maxLen) (hm:∀ p∈R,p.n.cs.length≤maxLen∧p.n.rs.length≤maxLen) :
  Calls Tryz.prog 3 #[.agg #[.slice A R.length c],.int .i64 i,.int .i64 u,.int .i64 v,.int .i64 a,.int .i64 b] w fun e w'=>e=.returned (.bool true)∧Below w.heap.size w w':=by
 have hB0:Below w.heap.size w (w.alloc (.cells #[.slice A R.length c] 24 (0,0))):=balloc (Below.refl _ _);have HX:=hD (newS w (.cells #[.slice A R.length c] 24 (0,0)));have HV:=hD (h.keep hB0);have HR:=hD (hr.keep hB0);have HB:=hD hB0;have HN:=hD (And.intro hn hm);have H0:=hD (And.intro h hr);clear hB0 h hr hn hm
 obtain ⟨t,ht⟩:∃ t,(if R.length+szL R≤1048576 then (1048576:Int)-(R.length+szL R) else -1)=t:=⟨_,rfl⟩
 have hx0:=cellS HX.out 0
 by_cases hs:R.length+szL R≤1048576
 ·have ht0:decide (t<0)=false:=by rw [<- ht,if_pos hs];exact decide_eq_false (by omega)
  have HT:=hD ht
  have hL:R.length≤1048576:=by omega
  have HM:=hD (show ∀ p∈R,p.n.cs.length≤1048576∧p.n.rs.length≤1048576 from fun p hp=>by have:=szL_mem hp;omega);have HSZ:=hD hs;obtain ⟨M,hM,hI1,hI2⟩:=both (R.map Nr.n) i u v a b
  have hM8:M.length≤1048576:=by omega
  have HS:=hD hI1;have HI:=hD hI2;clear ht hs hI1 hI2
  go_enter Tryz.func3,Tryz.ntmps3
  go_wp2_with fail
  with_reducible refine (szTree_v A c R t _ HV.out HN.out.1 HN.out.2 HT.out).mono ?_
  rintro e w1 ⟨rfl,hb⟩;clear hx0;replace HX:=hbk hb HX;replace HV:=hD (HV.out.keep hb);replace HR:=hD (HR.out.keep hb);replace HB:=hD (bkeep2 HB.out hb);clear hb;have hx0:=cellS HX.out 0
  go_wp2_with fail
  with_reducible refine (toTree_a A c R _ HV.out HR.out hL HM.out).mono ?_
  rintro e w2 ⟨⟨vt,rfl,hta⟩,hb⟩;obtain ⟨g,S,rfl,-,-,e1,h1,h2,h3,-,-⟩:=hta.open;clear hx0 hta;replace HX:=hbk hb HX;replace HV:=hD (HV.out.keep hb);replace HR:=hD (HR.out.keep hb);replace HB:=hD (bkeep2 HB.out hb);clear hb
  go_wp2_with fail
  with_reducible refine (HS.out _ _ _ R.length S h3 e1.symm h1 h2 (by omega) (map_mem h3 HM.out)).mono ?_
  rintro e w3 ⟨⟨x3,rfl,hx3⟩,hb⟩;clear h1 h2 h3 e1;replace HX:=hbk hb HX;replace HV:=hD (HV.out.keep hb);replace HR:=hD (HR.out.keep hb);replace HB:=hD (bkeep2 HB.out hb);clear hb;have HQ:=hD hx3;have HQ3:=hD hx3;have HC:=hD (show BLW w3 w3 from Below.refl _ _);have hs3:=HB.out.size;have hsx3:=ltS HX.out;clear hx3;have hx0:=cellS HX.out 0
  go_wp2_with fail
  with_reducible refine (toTree_a A c R _ HV.out HR.out hL HM.out).mono ?_
  rintro e w4 ⟨⟨vt,rfl,hta⟩,hb⟩;obtain ⟨g4,S4,rfl,hg34,hg4,e4,h1,h2,h3,h5,h6⟩:=hta.open;have hb2:Below w4.heap.size w4 (w4.alloc (.cells #[.slice (some ⟨g4,0,none⟩) R.length R.length] 30 (0,0))):=balloc (Below.refl _ _);have HY:=hD (newS w4 (.cells #[.slice (some ⟨g4,0,none⟩) R.length R.length] 30 (0,0)));have HV4:=hD (h1.keep hb2);have HR4:=hD (h2.keep hb2);have HTM:=hD ((TM.of h5 h6).keep hb2)
  have HE4:=hD h3;replace HC:=hD ((HC.out.keep hb).keep hb2);have HQ0:=hD (HQ.out.keep hb);replace HQ:=hD (HQ0.out.keep hb2);replace hb:=bkeep2 hb hb2
  have hs34:w3.heap.size≤w4.heap.size:=by have:=hb.size;simp at this;omega
  have HL4:=hD e4;clear hx0 hta h1 h2 h3 e4 hb2 h5 h6 HQ0;replace HX:=hbk hb HX;replace HV:=hD (HV.out.keep hb);replace HR:=hD (HR.out.keep hb);replace HB:=hD (bkeep2 HB.out hb);clear hb;have hy0:=cellS HY.out 0
  have hlo:w4.heap.size≤(w4.alloc (.cells #[.slice (some ⟨g4,0,none⟩) R.length R.length] 30 (0,0))).heap.size:=by simp
  go_wp2_with fail
  with_reducible refine (HI.out _ _ _ R.length S4 HE4.out HL4.out.symm HV4.out HR4.out (by rw [HL4.out];omega) (map_mem HE4.out HM.out)).mono ?_
  rintro e w5 ⟨⟨x5,rfl,hx5⟩,hb⟩;clear hy0;have HG:=hD (hx5.mono hlo);clear hx5 hlo;replace HX:=hbk hb HX;replace HY:=hbk hb HY;replace HV:=hD (HV.out.keep hb);replace HR:=hD (HR.out.keep hb);replace HV4:=hD (HV4.out.keep hb);replace HR4:=hD (HR4.out.keep hb);replace HTM:=hD (HTM.out.keep hb);replace HQ:=hD (HQ.out.keep hb);replace HC:=hD (HC.out.keep hb);replace HB:=hD (bkeep2 HB.out hb);clear hb
  have hx0:=cellS HX.out 0
  go_wp2_with fail
  with_reducible refine (eqIntS_same _ _ M _ HG.out.nr HQ.out hM8).mono ?_
  rintro e w6 ⟨rfl,hb⟩;clear hx0;replace HX:=hbk hb HX;replace HY:=hbk hb HY;replace HV:=hD (HV.out.keep hb);replace HR:=hD (HR.out.keep hb);replace HV4:=hD (HV4.out.keep hb);replace HR4:=hD (HR4.out.keep hb);replace HTM:=hD (HTM.out.keep hb);replace HQ:=hD (HQ.out.keep hb);replace HC:=hD (HC.out.keep hb);replace HG:=hD (HG.out.keep hb);replace HB:=hD (bkeep2 HB.out hb);clear hb
  have hx0:=cellS HX.out 0;have hy0:=cellS HY.out 0;have lx:=ltS HX.out;have ly:=ltS HY.out;have hv:=HV.out;have hr:=HR.out;have hv4:=HV4.out;have hr4:=HR4.out
  go_wp2_with fail
  refine wp_region_rx (XV (.agg #[.slice (some ⟨g4,0,none⟩) R.length R.length]) :: XV (.agg #[.slice A R.length c]) :: (fun z w=>TA 0 w z R) :: XV (.bool true) :: XV (.bool false) :: []) (by kernel_rfl) (by kernel_rfl) ?hTs ?hops ?hfin
  case hTs =>
   intro T hT;simp only [List.mem_cons,List.not_mem_nil,or_false] at hT
   rcases hT with rfl | rfl | rfl | rfl | rfl <;> first | exact stay_V _ | exact stay_T | exact stay_of (fun v a b x g=>x.keep g) | exact stay_of (fun v a b x g=>x)
  case hops =>
   refine ⟨opOK_rx [(15,none)] (by kernel_rfl) rfl ?_,?_⟩
   ·intro act w' hw' h1;obtain ⟨hk,hf⟩:=evkf act;generalize act.eval=ρ at *;replace h1:ρ (.tmp 15)=.pointer (some ⟨w4.heap.size,0,none⟩):=h1
    refine gxB hw' fun K hK hc hf'=>?_
    go_simp;exact hK _ _ ⟨rfl,Gr.refl _⟩
   refine ⟨opOK_rx [(6,none)] (by kernel_rfl) rfl ?_,?_⟩
   ·intro act w' hw' h1;obtain ⟨hk,hf⟩:=evkf act;generalize act.eval=ρ at *;replace h1:ρ (.tmp 6)=.pointer (some ⟨w.heap.size,0,none⟩):=h1
    refine gxB hw' fun K hK hc hf'=>?_
    go_simp;exact hK _ _ ⟨rfl,Gr.refl _⟩
   refine ⟨opOK_rx [(48,some 1)] (by kernel_rfl) rfl ?_,?_⟩
   ·intro act w' hw' h1;obtain ⟨hk,hf⟩:=evkf act;generalize act.eval=ρ at *;replace h1:ρ (.tmp 48)=.agg #[.slice A R.length c]:=h1
    refine gxB hw' fun K hK hc hf'=>?_
    go_simp
    (with_reducible refine (toTree_a A c R _ (hv.keep (bdrewn hw'.out)) (hr.keep (bdrewn hw'.out)) hL HM.out).mono ?_);rintro e w1 ⟨⟨z,rfl,hr1⟩,hb1⟩;exact ⟨_,rfl,hK _ _ ⟨hr1.any,hb1⟩⟩
   refine ⟨opOK_rx [(47,some 0),(49,some 2)] (by kernel_rfl) rfl ?_,?_⟩
   ·intro act w' hw' h1 h2;obtain ⟨hk,hf⟩:=evkf act;generalize act.eval=ρ at *;replace h1:ρ (.tmp 47)=.agg #[.slice (some ⟨g4,0,none⟩) R.length R.length]:=h1;replace h2:(fun z w=>TA 0 w z R) (ρ (.tmp 49)) w':=h2
    refine gxB hw' fun K hK hc hf'=>?_
    go_simp;obtain ⟨q1,q2,e,-,-,q3,q4,q5,q6,-,-⟩:=h2.open;rw [e];(with_reducible refine (eqTree_same _ _ _ _ S4 q2 _ (by rw [q6];exact HE4.out.symm) (hv4.keep (bdrewn hw'.out)) q4 (hr4.keep (bdrewn hw'.out)) q5 (by rw [HL4.out];omega) (map_mem HE4.out HM.out) R.length HL4.out.symm).mono ?_);rintro e w1 ⟨rfl,hb1⟩;exact ⟨_,rfl,hK _ _ ⟨rfl,hb1⟩⟩
   refine ⟨opOK_rx [(50,some 3)] (by kernel_rfl) rfl ?_,?_⟩
   ·intro act w' hw' h1;obtain ⟨hk,hf⟩:=evkf act;generalize act.eval=ρ at *;replace h1:ρ (.tmp 50)=.bool true:=h1
    refine gxB hw' fun K hK hc hf'=>?_
    go_simp;exact hK _ _ ⟨rfl,Gr.refl _⟩
   exact trivial
  case hfin =>
   intro w9 hg9;intro v47 t47;replace t47:v47=.agg #[.slice (some ⟨g4,0,none⟩) R.length R.length]:=t47;subst t47;intro v48 t48;replace t48:v48=.agg #[.slice A R.length c]:=t48;subst t48;intro v49 t49;replace t49:(fun z w=>TA 0 w z R) v49 w9:=t49;intro v50 t50;replace t50:v50=.bool true:=t50;subst t50;intro v51 t51;replace t51:v51=.bool false:=t51;subst t51;have hb9:=bdrewn hg9.out;clear hg9
   simp only [finP,Act.put,List.setIfInBounds_toArray,List.set_cons_succ,List.set_cons_zero];clear hx0 hy0 lx ly hv hr hv4 hr4;replace HX:=hbk hb9 HX;replace HY:=hbk hb9 HY;replace HV:=hD (HV.out.keep hb9);replace HR:=hD (HR.out.keep hb9);replace HTM:=hD (HTM.out.keep hb9);replace HQ:=hD (HQ.out.keep hb9);replace HC:=hD (HC.out.keep hb9);replace HG:=hD (HG.out.keep hb9)
   replace HB:=hD (bkeep2 HB.out hb9);clear hb9;have hy0:=cellS HY.out 0;have hmn:=mark_nn (S:=S4)
   go_wp2_with fail
   with_reducible refine (markTree_v g4 w4.heap.size R.length _ S4 _ HL4.out.symm HTM.out (by rw [HL4.out];omega) (by rw [HL4.out,szL_eq HE4.out];exact HSZ.out)).mono ?_
   rintro e w10 ⟨rfl,hw⟩;have hl4:=HTM.out.s.lt;have hy9:=ltS HY.out;have hbw:Below w3.heap.size w9 w10:=hw.toBelow (by omega) (by omega);have hs10:=hw.size;replace HC:=hD (show BLW w3 w10 from Below.trans HC.out hbw);replace HB:=hD (HB.out.trans (hw.toBelow (B:=w.heap.size) (by omega) (by omega)));replace HX:=hD ((hw.block w.heap.size (by omega) (by omega)).trans HX.out)
   replace HQ:=hD (HQ3.out.keep HC.out);replace HG:=hD (HG.out.wi hw (Nat.le_refl _));clear hbw hw HTM HY hy0 hl4;have hx0:=cellS HX.out 0
   have hs49:w4.heap.size≤w10.heap.size:=by
    omega
   go_wp2_with fail
   with_reducible refine (eqIntS_same _ _ M _ HG.out.nr HQ.out hM8).mono ?_
   rintro e w11 ⟨rfl,hb⟩;clear hx0 hmn;have hs11:=hb.size;replace HX:=hbk hb HX;replace HQ:=hD (HQ.out.keep hb);replace HC:=hD (HC.out.keep hb);replace HG:=hD (HG.out.keep hb);replace HB:=hD (bkeep2 HB.out hb);clear hb;have hx0:=cellS HX.out 0
   go_wp2_with fail
   with_reducible refine (markGO w4.heap.size _ _ M HG.out hM8 (by omega)).mono ?_
   rintro e w12 ⟨rfl,hgm,hb⟩;clear hx0;have hsx:=ltS HX.out;replace HX:=hD ((hb.block w.heap.size (by omega)).trans HX.out);replace HB:=hD (HB.out.trans (hb.mono (by omega)));replace HC:=hD (show BLW w3 w12 from Below.trans HC.out (hb.mono (by omega)));replace HQ:=hD (HQ3.out.keep HC.out);have HV:=hD (H0.out.1.keep HB.out);have HR:=hD (H0.out.2.keep HB.out);have HGM:=hD hgm;clear hgm hb HG hsx
   have hx0:=cellS HX.out 0;have hM0:decide ((1:Int)+(M.length:Int)<0)=false:=decide_eq_false (by omega)
   go_wp2_with fail
   with_reducible refine (heldGO _ _ M.length HGM.out hM8).mono ?_
   rintro e w13 ⟨rfl,rfl⟩
   go_wp2_with fail
   with_reducible refine (toTree_a A c R _ HV.out HR.out hL HM.out).mono ?_
   rintro e w14 ⟨⟨vt,rfl,hta⟩,hb⟩;obtain ⟨g7,S7,rfl,-,-,e7,h1,h2,h3,-,-⟩:=hta.open;clear hx0 hta;replace HX:=hbk hb HX;replace HQ:=hD (HQ.out.keep hb);replace HGM:=hD (HGM.out.keep hb);replace HB:=hD (bkeep2 HB.out hb);clear hb
   go_wp2_with fail
   with_reducible refine (HI.out _ _ _ R.length S7 h3 e7.symm h1 h2 (by omega) (map_mem h3 HM.out)).mono ?_
   rintro e w15 ⟨⟨x15,rfl,hx15⟩,hb⟩;clear h1 h2 h3 e7;replace HX:=hbk hb HX;replace HQ:=hD (HQ.out.keep hb);replace HGM:=hD (HGM.out.keep hb);replace HB:=hD (bkeep2 HB.out hb);clear hb
   go_wp2_with fail
   with_reducible refine (eqIntS_same _ _ M _ hx15.nr HQ.out hM8).mono ?_
   rintro e w16 ⟨rfl,hb⟩;clear hx15;replace HGM:=hD (HGM.out.keep hb);replace HB:=hD (bkeep2 HB.out hb);clear hb
   go_wp2_with fail
   with_reducible refine (heldGO _ _ M.length HGM.out hM8).mono ?_
   rintro e w17 ⟨rfl,rfl⟩;go_wp2;go_ret;exact ⟨rfl,HB.out⟩
 ·have ht0:t=-1:=by rw [<- ht,if_neg hs]
  subst ht0;have HT:=hD ht;clear ht hs
  go_enter Tryz.func3,Tryz.ntmps3
  go_wp2_with fail
  with_reducible refine (szTree_v A c R _ _ HV.out HN.out.1 HN.out.2 HT.out).mono ?_
  rintro e w1 ⟨rfl,hb⟩;replace HB:=hD (bkeep2 HB.out hb);clear hb;go_wp2;go_ret;exact ⟨rfl,HB.out⟩
theorem lifted (os:Os) (started:os.Started) (H:Type) (enc:TypeId × Value→H) :
  ReturnsInHanded {} Tryz.checked os 3 .any (Rows.fnExactMovedBySpec.pre6 enc Tryz.prog Tryz.f3 Rows.fnExactMovedByRow.domain false) (Rows.fnExactMovedBySpec.post enc Tryz.prog Tryz.f3 false true false false):=by
 refine returnsInHanded_of_change (C:=Tryz.checked) own started (by kernel_rfl) Tryz.func3
  (ChangeSpec.witness6 (enc:=enc) (C:=Tryz.checked) false ⟨#[],#[.agg #[.slice none 0 0],.int .i64 0,.int .i64 0,.int .i64 0,.int .i64 0,.int .i64 0],[]⟩ 8 (by kernel_rfl) (by kernel_rfl) (by kernel_rfl) (by kernel_rfl)) ?_
 intro W base args ds gs before hval0 hW hcnd _;have hval:∀ (j:Nat) t v,Tryz.f3.params[j]?=some t→args[j]?=some v→Value.okWide Tryz.prog W .any base t v:=hval0;have hW':=hW;obtain ⟨p,q,hA0,hV,rfl,hfz,hnd⟩:=hW;have hA:DataW.TrodAll enc Tryz.prog W 0 (fun _=>true) true Tryz.f3.params.toList args.toList ds p:=hA0;rw [Tryz.params3] at hA hval
 obtain ⟨v0,vs0,d0,ds0,p0,q0,hargs,rfl,rfl,h0,r0⟩:=trodAll_cons hA;obtain ⟨v1,vs1,d1,ds1,p1,q1,rfl,rfl,rfl,h1,r1⟩:=trodAll_cons r0;obtain ⟨v2,vs2,d2,ds2,p2,q2,rfl,rfl,rfl,h2,r2⟩:=trodAll_cons r1;obtain ⟨v3,vs3,d3,ds3,p3,q3,rfl,rfl,rfl,h3,r3⟩:=trodAll_cons r2;obtain ⟨v4,vs4,d4,ds4,p4,q4,rfl,rfl,rfl,h4,r4⟩:=trodAll_cons r3;obtain ⟨v5,vs5,d5,ds5,p5,q5,rfl,rfl,rfl,h5,r5⟩:=trodAll_cons r4
 obtain ⟨rfl,rfl,rfl⟩:=trodAll_nil r5
 obtain rfl:args=#[v0,v1,v2,v3,v4,v5]:=by cases args;simp_all
 obtain ⟨rfl,rfl⟩:=trodVars_none hV;have k0:=h0
 have lt0:∀ x∈p0,x.block<W.heap.size:=by obtain ⟨m,hm⟩:=k0;exact DataW.trod_lt m _ _ _ hm
 obtain ⟨a0,c0,z0,rfl,wz0,wr0,wn0,wm0⟩:=tree_of (hval 0 24 v0 rfl rfl) h0;have k1:=h1
 have lt1:∀ x∈p1,x.block<W.heap.size:=by obtain ⟨m,hm⟩:=k1;exact DataW.trod_lt m _ _ _ hm
 obtain ⟨x1,rfl,_,_,wx1⟩:=open_int Tryz.underlying3 (hval 1 3 v1 rfl rfl) h1;have k2:=h2
 have lt2:∀ x∈p2,x.block<W.heap.size:=by obtain ⟨m,hm⟩:=k2;exact DataW.trod_lt m _ _ _ hm
 obtain ⟨x2,rfl,_,_,wx2⟩:=open_int Tryz.underlying3 (hval 2 3 v2 rfl rfl) h2;have k3:=h3
 have lt3:∀ x∈p3,x.block<W.heap.size:=by obtain ⟨m,hm⟩:=k3;exact DataW.trod_lt m _ _ _ hm
 obtain ⟨x3,rfl,_,_,wx3⟩:=open_int Tryz.underlying3 (hval 3 3 v3 rfl rfl) h3;have k4:=h4
 have lt4:∀ x∈p4,x.block<W.heap.size:=by obtain ⟨m,hm⟩:=k4;exact DataW.trod_lt m _ _ _ hm
 obtain ⟨x4,rfl,_,_,wx4⟩:=open_int Tryz.underlying3 (hval 4 3 v4 rfl rfl) h4;have k5:=h5
 have lt5:∀ x∈p5,x.block<W.heap.size:=by obtain ⟨m,hm⟩:=k5;exact DataW.trod_lt m _ _ _ hm
 obtain ⟨x5,rfl,_,_,wx5⟩:=open_int Tryz.underlying3 (hval 5 3 v5 rfl rfl) h5;clear hA0 hval0
 refine (walk a0 c0 z0 x1 x2 x3 x4 x5 W wz0 wr0 wn0 wm0).mono fun e W' ⟨he,bel⟩=>?_
 subst he
 exact ⟨_,rfl,_,_,_,[],_,[],hW',trodAll_mk1 (shut_bool Tryz.underlying4 _),(trodAll_cons_mk (Below.trod laidOut (by kernel_rfl) (of_decide_eq_true (by kernel_rfl)) k0 bel lt0) (trodAll_cons_mk (Below.trod laidOut (by kernel_rfl) (of_decide_eq_true (by kernel_rfl)) k1 bel lt1) (trodAll_cons_mk (Below.trod laidOut (by kernel_rfl) (of_decide_eq_true (by kernel_rfl)) k2 bel lt2) (trodAll_cons_mk (Below.trod laidOut (by kernel_rfl) (of_decide_eq_true (by kernel_rfl)) k3 bel lt3) (trodAll_cons_mk (Below.trod laidOut (by kernel_rfl) (of_decide_eq_true (by kernel_rfl)) k4 bel lt4) (trodAll_cons_mk (Below.trod laidOut (by kernel_rfl) (of_decide_eq_true (by kernel_rfl)) k5 bel lt5) trodAll_mk0)))))),rfl,bel.frame _,fun h=>by cases h⟩
theorem y0:mapsRowed Tryz.prog=true:=by kernel_rfl
theorem y1:Tryz.prog.inPlace 3=Rows.fnExactMovedByRow.inPlace:=by kernel_rfl
theorem y2:Tryz.prog.unfollowed 3=Rows.fnExactMovedByRow.unfollowed:=by kernel_rfl
theorem y3:Tryz.prog.recurses 3=Rows.fnExactMovedByRow.recurses:=by kernel_rfl
theorem y4:Tryz.prog.varsNamed 3=Rows.fnExactMovedByRow.named:=by kernel_rfl
theorem y5:Tryz.prog.plainKeys=Rows.fnExactMovedByRow.plainKeys:=by kernel_rfl
theorem y6:Tryz.prog.stopsHeard=true:=by kernel_rfl
theorem y7:Tryz.prog.mayEnter=true:=by kernel_rfl
theorem y8:Tryz.prog.liftsFinal=Rows.fnExactMovedByRow.lifted:=by kernel_rfl
theorem y9:Tryz.prog.make=some Rows.fnExactMovedByRow.make:=by kernel_rfl
theorem closed:joinedFacts Tryz.prog 3 Tryz.f3 Rows.fnExactMovedBySpec Rows.fnExactMovedByRow=true:=by
 unfold joinedFacts;rw [laidOut,y0,y1,y2,y3,y4,y5,y6,y7,y8,y9];kernel_rfl
theorem over:Rows.fnExactMovedByRow.holds Tryz.pinned (OpenSpec.ofChange Rows.fnExactMovedBySpec) :=
 OpenClaim.holds_of_wide 3 Tryz.f3 rfl rfl rfl rfl rfl rfl rfl ⟨rfl,rfl,rfl,rfl,rfl⟩ rfl rfl rfl rfl rfl (by kernel_rfl) Tryz.func3 closed
  (of_decide_eq_true (by kernel_rfl)) (by unfold Func.isWrapper;first|(rw [if_pos (by decide +kernel)];kernel_rfl)|(rw [if_neg (by decide +kernel)];exact ⟨rfl,rfl⟩))
  (fun os started H enc _=>lifted os started H enc)
theorem proved:Rows.FnExactMovedBySaid:=over
end Go.Proofs.YtmmfifgdgbmgjaaGreat.xMovedBy
