import Derived.Test.YtenckjdiggaonaaGreatQu13
set_option linter.unusedVariables false
set_option linter.unusedSimpArgs false
set_option maxRecDepth 100000
set_option maxHeartbeats 16000000
namespace Go.Proofs.YtenckjdiggaonaaGreat
open Go.RowKit
attribute [local go_sem] growUpon_value growUpon_skip growUpon_enter
section
attribute [local go_sem] givesUpon_value givesUpon_skip givesUpon_enter
def NRz (w:World) (v:Value) (n:Nat) (L:List Int):Prop:=∃ A c,v=.slice A n c∧NV w A L
theorem NRz.keep {w w':World} {v:Value} {n:Nat} {L:List Int} (h:NRz w v n L) (hb:Below w.heap.size w w'):NRz w' v n L:=let ⟨A,c,e,q⟩:=h;⟨A,c,e,q.keep hb⟩
theorem gridRequest_w (A1:Option Addr) (c1:Nat) (L1:List Ln) (A2:Option Addr) (c2:Nat) (L2:List Ln) (A3:Option Addr) (c3:Nat) (L3:List Ce) (w:World) (h1:LnV w A1 L1) (h2:LnV w A2 L2) (h3:CeV w A3 L3) (v1:linesB L1=true) (v2:linesB L2=true) (hl8:L3.length≤10) (hsm:∀ p ∈ L3,smW p) (hs1:spansW L1.length (L3.map acM)) (hs2:spansW L2.length (L3.map dnM)) :
  Calls Tryz.prog 201 #[.agg #[.slice A1 L1.length c1,.slice A2 L2.length c2,.slice A3 L3.length c3]] w fun e w'=>e=.returned (.tuple #[.int .i64 (sumI (wishM L1 (L3.map acM))),.int .i64 (sumI (wishM L2 (L3.map dnM)))])∧Below w.heap.size w w':=by
 obtain ⟨m1,q1⟩:=wish_smalW v1 hs1;obtain ⟨m2,q2⟩:=wish_smalW v2 hs2;have n1:=(linesB_len v1).2;have n2:=(linesB_len v2).2;have hB0:Below w.heap.size w (w.alloc (.cells #[.slice A1 L1.length c1,.slice A2 L2.length c2,.slice A3 L3.length c3] 123 (0,0))):=balloc (Below.refl _ _);have hx0:=newS w (.cells #[.slice A1 L1.length c1,.slice A2 L2.length c2,.slice A3 L3.length c3] 123 (0,0))
 have HV1:=hD (h1.keep hB0);have HV2:=hD (h2.keep hB0);have HV3:=hD (h3.keep hB0);have HX:=hD hx0;have HB:=hD hB0;have HS1:=hD v1;have HS2:=hD v2;have HM1:=hD m1;have HM2:=hD m2;have HSM:=hD hsm;have HK1:=hD hs1;have HK2:=hD hs2;have HL1:=hD q1;have HL2:=hD q2;clear hB0 hx0 h1 h2 h3 v1 v2 m1 m2 hsm hs1 hs2 q1 q2
 go_enter Tryz.func201,Tryz.ntmps201
 have d0:=cellS HX.out 0;have d1:=cellS HX.out 1;have d2:=cellS HX.out 2;have lx:=ltS HX.out
 go_wp2_with fail
 refine wp_region_rx (XV (.pointer (some ⟨w.heap.size,0,none⟩)) :: XV (.slice A1 L1.length c1) :: XV (.pointer (some ⟨w.heap.size,2,none⟩)) :: XV (.slice A3 L3.length c3) :: (fun v w=>SpR w v (L3.map acM)) :: (fun v w=>NRz w v L1.length (wishM L1 (L3.map acM))) :: (fun v w=>NRz w v L1.length (wishM L1 (L3.map acM))) :: []) (by kernel_rfl) (by kernel_rfl) ?hTs ?hops ?hfin
 case hTs =>
  intro T hT;simp only [List.mem_cons,List.not_mem_nil,or_false] at hT
  rcases hT with rfl | rfl | rfl | rfl | rfl | rfl | rfl <;> first | exact stay_V _ | exact stay_T | exact stay_of (fun v a b x g=>x.keep g) | exact stay_of (fun v a b x g=>x)
 case hops =>
  refine ⟨opOK_rx [(1,none)] (by kernel_rfl) rfl ?_,?_⟩
  ·intro act w' hw' h1;obtain ⟨hk,hf⟩:=evkf act;generalize act.eval=ρ at *;replace h1:ρ (.tmp 1)=.pointer (some ⟨w.heap.size,0,none⟩):=h1;refine gx_gen (fun K hK=>?_);obtain ⟨hc,hf'⟩:=bcell (bdrewn hw'.out);go_simp;exact hK _ _ ⟨rfl,Gr.refl _⟩
  refine ⟨opOK_rx [(6,some 0)] (by kernel_rfl) rfl ?_,?_⟩
  ·intro act w' hw' h1;obtain ⟨hk,hf⟩:=evkf act;generalize act.eval=ρ at *;replace h1:ρ (.tmp 6)=.pointer (some ⟨w.heap.size,0,none⟩):=h1;refine gx_gen (fun K hK=>?_);obtain ⟨hc,hf'⟩:=bcell (bdrewn hw'.out);go_simp;exact hK _ _ ⟨rfl,Gr.refl _⟩
  refine ⟨opOK_rx [(1,none)] (by kernel_rfl) rfl ?_,?_⟩
  ·intro act w' hw' h1;obtain ⟨hk,hf⟩:=evkf act;generalize act.eval=ρ at *;replace h1:ρ (.tmp 1)=.pointer (some ⟨w.heap.size,0,none⟩):=h1;refine gx_gen (fun K hK=>?_);obtain ⟨hc,hf'⟩:=bcell (bdrewn hw'.out);go_simp;exact hK _ _ ⟨rfl,Gr.refl _⟩
  refine ⟨opOK_rx [(8,some 2)] (by kernel_rfl) rfl ?_,?_⟩
  ·intro act w' hw' h1;obtain ⟨hk,hf⟩:=evkf act;generalize act.eval=ρ at *;replace h1:ρ (.tmp 8)=.pointer (some ⟨w.heap.size,2,none⟩):=h1;refine gx_gen (fun K hK=>?_);obtain ⟨hc,hf'⟩:=bcell (bdrewn hw'.out);go_simp;exact hK _ _ ⟨rfl,Gr.refl _⟩
  refine ⟨opOK_rx [(9,some 3)] (by kernel_rfl) rfl ?_,?_⟩
  ·intro act w' hw' h1;obtain ⟨hk,hf⟩:=evkf act;generalize act.eval=ρ at *;replace h1:ρ (.tmp 9)=.slice A3 L3.length c3:=h1;refine gx_gen (fun K hK=>?_);obtain ⟨hc,hf'⟩:=bcell (bdrewn hw'.out);go_simp
   (with_reducible refine (each_acrossW A3 c3 L3 _ (HV3.out.keep (bdrewn hw'.out)) (by omega) HSM.out).mono ?_);rintro e w1 ⟨rfl,hr1,hb1⟩;exact ⟨_,rfl,hK _ _ ⟨⟨_,_,by rw [List.length_map],hr1.v⟩,hb1⟩⟩
  refine ⟨opOK_rx [(7,some 1),(10,some 4)] (by kernel_rfl) rfl ?_,?_⟩
  ·intro act w' hw' h1 h2;obtain ⟨hk,hf⟩:=evkf act;generalize act.eval=ρ at *;replace h1:ρ (.tmp 7)=.slice A1 L1.length c1:=h1;replace h2:(fun v w=>SpR w v (L3.map acM)) (ρ (.tmp 10)) w':=h2;refine gx_gen (fun K hK=>?_);obtain ⟨hc,hf'⟩:=bcell (bdrewn hw'.out);go_simp
   obtain ⟨A,c,e,hs⟩:=h2;rw [e];(with_reducible refine (lineRequests_w A1 c1 L1 A c (L3.map acM) _ (HV1.out.keep (bdrewn hw'.out)) HS1.out hs HK1.out).mono ?_);rintro e w1 ⟨rfl,hr1,hb1⟩;exact ⟨_,rfl,hK _ _ ⟨⟨_,_,rfl,hr1.nv⟩,hb1⟩⟩
  refine ⟨opOK_rx [(11,some 5)] (by kernel_rfl) rfl ?_,?_⟩
  ·intro act w' hw' h1;obtain ⟨hk,hf⟩:=evkf act;generalize act.eval=ρ at *;replace h1:(fun v w=>NRz w v L1.length (wishM L1 (L3.map acM))) (ρ (.tmp 11)) w':=h1;refine gx_gen (fun K hK=>?_);obtain ⟨hc,hf'⟩:=bcell (bdrewn hw'.out);go_simp;exact hK _ _ ⟨h1,Gr.refl _⟩
  exact trivial
 case hfin =>
  intro w1 hg1;intro v6 t6;replace t6:v6=.pointer (some ⟨w.heap.size,0,none⟩):=t6;subst t6;intro v7 t7;replace t7:v7=.slice A1 L1.length c1:=t7;subst t7;intro v8 t8;replace t8:v8=.pointer (some ⟨w.heap.size,2,none⟩):=t8;subst t8;intro v9 t9;replace t9:v9=.slice A3 L3.length c3:=t9;subst t9;intro v10 t10;replace t10:(fun v w=>SpR w v (L3.map acM)) v10 w1:=t10;intro v11 t11
  replace t11:(fun v w=>NRz w v L1.length (wishM L1 (L3.map acM))) v11 w1:=t11;intro v4 t4;replace t4:(fun v w=>NRz w v L1.length (wishM L1 (L3.map acM))) v4 w1:=t4;have hb1:=bdrewn hg1.out;clear hg1;simp only [finP,Act.put,List.setIfInBounds_toArray,List.set_cons_succ,List.set_cons_zero];obtain ⟨B1,e1,rfl,hn1⟩:=t4;clear t10 t11 d0 d1 d2 lx;replace HX:=hbk hb1 HX;replace HV1:=hD (HV1.out.keep hb1)
  replace HV2:=hD (HV2.out.keep hb1);replace HV3:=hD (HV3.out.keep hb1);replace HB:=hD (bkeep2 HB.out hb1);clear hb1;have HN1:=hD hn1;clear hn1;have d0:=cellS HX.out 0;have d1:=cellS HX.out 1;have d2:=cellS HX.out 2;have lx:=ltS HX.out
  go_wp2_with fail
  refine wp_region_rx (XV (.pointer (some ⟨w.heap.size,1,none⟩)) :: XV (.slice A2 L2.length c2) :: XV (.pointer (some ⟨w.heap.size,2,none⟩)) :: XV (.slice A3 L3.length c3) :: (fun v w=>SpR w v (L3.map dnM)) :: (fun v w=>NRz w v L2.length (wishM L2 (L3.map dnM))) :: (fun v w=>NRz w v L2.length (wishM L2 (L3.map dnM))) :: []) (by kernel_rfl) (by kernel_rfl) ?hTs ?hops ?hfin
  case hTs =>
   intro T hT;simp only [List.mem_cons,List.not_mem_nil,or_false] at hT
   rcases hT with rfl | rfl | rfl | rfl | rfl | rfl | rfl <;> first | exact stay_V _ | exact stay_T | exact stay_of (fun v a b x g=>x.keep g) | exact stay_of (fun v a b x g=>x)
  case hops =>
   refine ⟨opOK_rx [(1,none)] (by kernel_rfl) rfl ?_,?_⟩
   ·intro act w' hw' h1;obtain ⟨hk,hf⟩:=evkf act;generalize act.eval=ρ at *;replace h1:ρ (.tmp 1)=.pointer (some ⟨w.heap.size,0,none⟩):=h1;refine gx_gen (fun K hK=>?_);obtain ⟨hc,hf'⟩:=bcell (bdrewn hw'.out);go_simp;exact hK _ _ ⟨rfl,Gr.refl _⟩
   refine ⟨opOK_rx [(12,some 0)] (by kernel_rfl) rfl ?_,?_⟩
   ·intro act w' hw' h1;obtain ⟨hk,hf⟩:=evkf act;generalize act.eval=ρ at *;replace h1:ρ (.tmp 12)=.pointer (some ⟨w.heap.size,1,none⟩):=h1;refine gx_gen (fun K hK=>?_);obtain ⟨hc,hf'⟩:=bcell (bdrewn hw'.out);go_simp;exact hK _ _ ⟨rfl,Gr.refl _⟩
   refine ⟨opOK_rx [(1,none)] (by kernel_rfl) rfl ?_,?_⟩
   ·intro act w' hw' h1;obtain ⟨hk,hf⟩:=evkf act;generalize act.eval=ρ at *;replace h1:ρ (.tmp 1)=.pointer (some ⟨w.heap.size,0,none⟩):=h1;refine gx_gen (fun K hK=>?_);obtain ⟨hc,hf'⟩:=bcell (bdrewn hw'.out);go_simp;exact hK _ _ ⟨rfl,Gr.refl _⟩
   refine ⟨opOK_rx [(14,some 2)] (by kernel_rfl) rfl ?_,?_⟩
   ·intro act w' hw' h1;obtain ⟨hk,hf⟩:=evkf act;generalize act.eval=ρ at *;replace h1:ρ (.tmp 14)=.pointer (some ⟨w.heap.size,2,none⟩):=h1;refine gx_gen (fun K hK=>?_);obtain ⟨hc,hf'⟩:=bcell (bdrewn hw'.out);go_simp;exact hK _ _ ⟨rfl,Gr.refl _⟩
   refine ⟨opOK_rx [(15,some 3)] (by kernel_rfl) rfl ?_,?_⟩
   ·intro act w' hw' h1;obtain ⟨hk,hf⟩:=evkf act;generalize act.eval=ρ at *;replace h1:ρ (.tmp 15)=.slice A3 L3.length c3:=h1;refine gx_gen (fun K hK=>?_);obtain ⟨hc,hf'⟩:=bcell (bdrewn hw'.out);go_simp
    (with_reducible refine (each_downW A3 c3 L3 _ (HV3.out.keep (bdrewn hw'.out)) (by omega) HSM.out).mono ?_);rintro e w1 ⟨rfl,hr1,hb1⟩;exact ⟨_,rfl,hK _ _ ⟨⟨_,_,by rw [List.length_map],hr1.v⟩,hb1⟩⟩
   refine ⟨opOK_rx [(13,some 1),(16,some 4)] (by kernel_rfl) rfl ?_,?_⟩
   ·intro act w' hw' h1 h2;obtain ⟨hk,hf⟩:=evkf act;generalize act.eval=ρ at *;replace h1:ρ (.tmp 13)=.slice A2 L2.length c2:=h1;replace h2:(fun v w=>SpR w v (L3.map dnM)) (ρ (.tmp 16)) w':=h2;refine gx_gen (fun K hK=>?_);obtain ⟨hc,hf'⟩:=bcell (bdrewn hw'.out);go_simp
    obtain ⟨A,c,e,hs⟩:=h2;rw [e];(with_reducible refine (lineRequests_w A2 c2 L2 A c (L3.map dnM) _ (HV2.out.keep (bdrewn hw'.out)) HS2.out hs HK2.out).mono ?_);rintro e w1 ⟨rfl,hr1,hb1⟩;exact ⟨_,rfl,hK _ _ ⟨⟨_,_,rfl,hr1.nv⟩,hb1⟩⟩
   refine ⟨opOK_rx [(17,some 5)] (by kernel_rfl) rfl ?_,?_⟩
   ·intro act w' hw' h1;obtain ⟨hk,hf⟩:=evkf act;generalize act.eval=ρ at *;replace h1:(fun v w=>NRz w v L2.length (wishM L2 (L3.map dnM))) (ρ (.tmp 17)) w':=h1;refine gx_gen (fun K hK=>?_);obtain ⟨hc,hf'⟩:=bcell (bdrewn hw'.out);go_simp;exact hK _ _ ⟨h1,Gr.refl _⟩
   exact trivial
  case hfin =>
   intro w2 hg2;intro v12 t12;replace t12:v12=.pointer (some ⟨w.heap.size,1,none⟩):=t12;subst t12;intro v13 t13;replace t13:v13=.slice A2 L2.length c2:=t13;subst t13;intro v14 t14;replace t14:v14=.pointer (some ⟨w.heap.size,2,none⟩):=t14;subst t14;intro v15 t15;replace t15:v15=.slice A3 L3.length c3:=t15;subst t15;intro v16 t16;replace t16:(fun v w=>SpR w v (L3.map dnM)) v16 w2:=t16;intro v17 t17
   replace t17:(fun v w=>NRz w v L2.length (wishM L2 (L3.map dnM))) v17 w2:=t17;intro v5 t5;replace t5:(fun v w=>NRz w v L2.length (wishM L2 (L3.map dnM))) v5 w2:=t5;have hb2:=bdrewn hg2.out;clear hg2;simp only [finP,Act.put,List.setIfInBounds_toArray,List.set_cons_succ,List.set_cons_zero];obtain ⟨B2,e2,rfl,hn2⟩:=t5;clear t16 t17 d0 d1 d2 lx;replace HX:=hbk hb2 HX
   replace HN1:=hD (HN1.out.keep hb2);replace HB:=hD (bkeep2 HB.out hb2);clear hb2;have HN2:=hD hn2;clear hn2
   go_wp2_with fail
   with_reducible refine (sum_b B1 e1 L1.length _ _ HN1.out HL1.out.symm (by omega) HM1.out).mono ?_
   rintro e w3 ⟨rfl,hb3⟩;replace HX:=hbk hb3 HX;replace HN2:=hD (HN2.out.keep hb3);replace HB:=hD (bkeep2 HB.out hb3);clear hb3
   go_wp2_with fail
   with_reducible refine (sum_b B2 e2 L2.length _ _ HN2.out HL2.out.symm (by omega) HM2.out).mono ?_
   rintro e w4 ⟨rfl,hb4⟩;replace HX:=hbk hb4 HX;replace HB:=hD (bkeep2 HB.out hb4);clear hb4;go_wp2;exact bodyPost_ret (v:=.tuple #[.int .i64 (sumI (wishM L1 (L3.map acM))),.int .i64 (sumI (wishM L2 (L3.map dnM)))]) (by simp only [results,Tryz.results201];go_simp) rfl ⟨rfl,HB.out⟩
theorem sgridRequest_w (A1:Option Addr) (c1:Nat) (L1:List Ln) (A2:Option Addr) (c2:Nat) (L2:List Ln) (A3:Option Addr) (c3:Nat) (L3:List Ce) (w:World) (h1:LnV w A1 L1) (h2:LnV w A2 L2) (h3:CeV w A3 L3) (v1:linesB L1=true) (v2:linesB L2=true) (hl8:L3.length≤10) (hsm:∀ p ∈ L3,smW p) (hs1:spansW L1.length (L3.map acM)) (hs2:spansW L2.length (L3.map dnM)) (k1:L1.length≤c1) (k2:L2.length≤c2) :
  Calls Tryz.prog 97 #[.agg #[.slice A1 L1.length c1,.slice A2 L2.length c2,.slice A3 L3.length c3]] w fun e w'=>e=.returned (.tuple #[.int .i64 (sumI (wishM L1 (L3.map acM))),.int .i64 (sumI (wishM L2 (L3.map dnM)))])∧Below w.heap.size w w':=by
 obtain ⟨m1,q1⟩:=wish_smalW v1 hs1;obtain ⟨m2,q2⟩:=wish_smalW v2 hs2;have n1:=(linesB_len v1).2;have n2:=(linesB_len v2).2;have hB0:Below w.heap.size w (w.alloc (.cells #[.slice A1 L1.length c1,.slice A2 L2.length c2,.slice A3 L3.length c3] 123 (0,0))):=balloc (Below.refl _ _);have hx0:=newS w (.cells #[.slice A1 L1.length c1,.slice A2 L2.length c2,.slice A3 L3.length c3] 123 (0,0))
 have HV1:=hD (h1.keep hB0);have HV2:=hD (h2.keep hB0);have HV3:=hD (h3.keep hB0);have HX:=hD hx0;have HB:=hD hB0;have HS1:=hD v1;have HS2:=hD v2;have HM1:=hD m1;have HM2:=hD m2;have HSM:=hD hsm;have HK1:=hD hs1;have HK2:=hD hs2;have HL1:=hD q1;have HL2:=hD q2;clear hB0 hx0 h1 h2 h3 v1 v2 m1 m2 hsm hs1 hs2 q1 q2
 go_enter Tryz.func97,Tryz.ntmps97
 have d0:=cellS HX.out 0;have d1:=cellS HX.out 1;have d2:=cellS HX.out 2;have lx:=ltS HX.out
 go_wp2_with fail
 refine wp_region_rx (XV (.pointer (some ⟨w.heap.size,0,none⟩)) :: XV (.slice A1 L1.length c1) :: XV (.agg #[.slice A1 L1.length c1,.slice A2 L2.length c2,.slice A3 L3.length c3]) :: (fun v w=>SpR w v (L3.map acM)) :: (fun v w=>NRz w v L1.length (wishM L1 (L3.map acM))) :: XV (.int .i64 (sumI (wishM L1 (L3.map acM)))) :: XV (.pointer (some ⟨w.heap.size,1,none⟩)) :: XV (.slice A2 L2.length c2) :: XV (.agg #[.slice A1 L1.length c1,.slice A2 L2.length c2,.slice A3 L3.length c3]) :: (fun v w=>SpR w v (L3.map dnM)) :: (fun v w=>NRz w v L2.length (wishM L2 (L3.map dnM))) :: XV (.int .i64 (sumI (wishM L2 (L3.map dnM)))) :: XV (.int .i64 (sumI (wishM L1 (L3.map acM)))) :: XV (.int .i64 (sumI (wishM L2 (L3.map dnM)))) :: []) (by kernel_rfl) (by kernel_rfl) ?hTs ?hops ?hfin
 case hTs =>
  intro T hT;simp only [List.mem_cons,List.not_mem_nil,or_false] at hT
  rcases hT with rfl | rfl | rfl | rfl | rfl | rfl | rfl | rfl | rfl | rfl | rfl | rfl | rfl | rfl <;> first | exact stay_V _ | exact stay_T | exact stay_of (fun v a b x g=>x.keep g) | exact stay_of (fun v a b x g=>x)
 case hops =>
  refine ⟨opOK_rx [(1,none)] (by kernel_rfl) rfl ?_,?_⟩
  ·intro act w' hw' h1;obtain ⟨hk,hf⟩:=evkf act;generalize act.eval=ρ at *;replace h1:ρ (.tmp 1)=.pointer (some ⟨w.heap.size,0,none⟩):=h1;refine gx_gen (fun K hK=>?_);obtain ⟨hc,hf'⟩:=bcell (bdrewn hw'.out);go_simp;exact hK _ _ ⟨rfl,Gr.refl _⟩
  refine ⟨opOK_rx [(4,some 0)] (by kernel_rfl) rfl ?_,?_⟩
  ·intro act w' hw' h1;obtain ⟨hk,hf⟩:=evkf act;generalize act.eval=ρ at *;replace h1:ρ (.tmp 4)=.pointer (some ⟨w.heap.size,0,none⟩):=h1;refine gx_gen (fun K hK=>?_);obtain ⟨hc,hf'⟩:=bcell (bdrewn hw'.out);go_simp;exact hK _ _ ⟨rfl,Gr.refl _⟩
  refine ⟨opOK_rx [(1,none)] (by kernel_rfl) rfl ?_,?_⟩
  ·intro act w' hw' h1;obtain ⟨hk,hf⟩:=evkf act;generalize act.eval=ρ at *;replace h1:ρ (.tmp 1)=.pointer (some ⟨w.heap.size,0,none⟩):=h1;refine gx_gen (fun K hK=>?_);obtain ⟨hc,hf'⟩:=bcell (bdrewn hw'.out);go_simp;exact hK _ _ ⟨rfl,Gr.refl _⟩
  refine ⟨opOK_rx [(6,some 2)] (by kernel_rfl) rfl ?_,?_⟩
  ·intro act w' hw' h1;obtain ⟨hk,hf⟩:=evkf act;generalize act.eval=ρ at *;replace h1:ρ (.tmp 6)=.agg #[.slice A1 L1.length c1,.slice A2 L2.length c2,.slice A3 L3.length c3]:=h1;refine gx_gen (fun K hK=>?_);obtain ⟨hc,hf'⟩:=bcell (bdrewn hw'.out);go_simp
   (with_reducible refine (colSpans_w A1 A2 A3 c1 L1.length c2 L2.length c3 L3 _ (HV3.out.keep (bdrewn hw'.out)) hl8 HSM.out).mono ?_);rintro e w1 ⟨⟨v,rfl,hr1⟩,hb1⟩;exact ⟨_,rfl,hK _ _ ⟨hr1,hb1⟩⟩
  refine ⟨opOK_rx [(5,some 1),(7,some 3)] (by kernel_rfl) rfl ?_,?_⟩
  ·intro act w' hw' h1 h2;obtain ⟨hk,hf⟩:=evkf act;generalize act.eval=ρ at *;replace h1:ρ (.tmp 5)=.slice A1 L1.length c1:=h1;replace h2:(fun v w=>SpR w v (L3.map acM)) (ρ (.tmp 7)) w':=h2;refine gx_gen (fun K hK=>?_);obtain ⟨hc,hf'⟩:=bcell (bdrewn hw'.out);go_simp
   obtain ⟨A,c,e,hs⟩:=h2;rw [e];(with_reducible refine (wished_w A1 c1 L1 A c (L3.map acM) _ (HV1.out.keep (bdrewn hw'.out)) HS1.out hs HK1.out k1).mono ?_);rintro e w1 ⟨⟨g,cap,rfl,_,hr1⟩,hb1⟩;exact ⟨_,rfl,hK _ _ ⟨⟨_,_,rfl,hr1.nv⟩,hb1⟩⟩
  refine ⟨opOK_rx [(8,some 4)] (by kernel_rfl) rfl ?_,?_⟩
  ·intro act w' hw' h1;obtain ⟨hk,hf⟩:=evkf act;generalize act.eval=ρ at *;replace h1:(fun v w=>NRz w v L1.length (wishM L1 (L3.map acM))) (ρ (.tmp 8)) w':=h1;refine gx_gen (fun K hK=>?_);obtain ⟨hc,hf'⟩:=bcell (bdrewn hw'.out);go_simp
   obtain ⟨A,c,e,hs⟩:=h1;rw [e];(with_reducible refine (total_b A c L1.length _ _ hs HL1.out.symm (by omega) HM1.out).mono ?_);rintro e w1 ⟨rfl,hb1⟩;exact ⟨_,rfl,hK _ _ ⟨rfl,hb1⟩⟩
  refine ⟨opOK_rx [(1,none)] (by kernel_rfl) rfl ?_,?_⟩
  ·intro act w' hw' h1;obtain ⟨hk,hf⟩:=evkf act;generalize act.eval=ρ at *;replace h1:ρ (.tmp 1)=.pointer (some ⟨w.heap.size,0,none⟩):=h1;refine gx_gen (fun K hK=>?_);obtain ⟨hc,hf'⟩:=bcell (bdrewn hw'.out);go_simp;exact hK _ _ ⟨rfl,Gr.refl _⟩
  refine ⟨opOK_rx [(10,some 6)] (by kernel_rfl) rfl ?_,?_⟩
  ·intro act w' hw' h1;obtain ⟨hk,hf⟩:=evkf act;generalize act.eval=ρ at *;replace h1:ρ (.tmp 10)=.pointer (some ⟨w.heap.size,1,none⟩):=h1;refine gx_gen (fun K hK=>?_);obtain ⟨hc,hf'⟩:=bcell (bdrewn hw'.out);go_simp;exact hK _ _ ⟨rfl,Gr.refl _⟩
  refine ⟨opOK_rx [(1,none)] (by kernel_rfl) rfl ?_,?_⟩
  ·intro act w' hw' h1;obtain ⟨hk,hf⟩:=evkf act;generalize act.eval=ρ at *;replace h1:ρ (.tmp 1)=.pointer (some ⟨w.heap.size,0,none⟩):=h1;refine gx_gen (fun K hK=>?_);obtain ⟨hc,hf'⟩:=bcell (bdrewn hw'.out);go_simp;exact hK _ _ ⟨rfl,Gr.refl _⟩
  refine ⟨opOK_rx [(12,some 8)] (by kernel_rfl) rfl ?_,?_⟩
  ·intro act w' hw' h1;obtain ⟨hk,hf⟩:=evkf act;generalize act.eval=ρ at *;replace h1:ρ (.tmp 12)=.agg #[.slice A1 L1.length c1,.slice A2 L2.length c2,.slice A3 L3.length c3]:=h1;refine gx_gen (fun K hK=>?_);obtain ⟨hc,hf'⟩:=bcell (bdrewn hw'.out);go_simp
   (with_reducible refine (rowSpans_w A1 A2 A3 c1 L1.length c2 L2.length c3 L3 _ (HV3.out.keep (bdrewn hw'.out)) hl8 HSM.out).mono ?_);rintro e w1 ⟨⟨v,rfl,hr1⟩,hb1⟩;exact ⟨_,rfl,hK _ _ ⟨hr1,hb1⟩⟩
  refine ⟨opOK_rx [(11,some 7),(13,some 9)] (by kernel_rfl) rfl ?_,?_⟩
  ·intro act w' hw' h1 h2;obtain ⟨hk,hf⟩:=evkf act;generalize act.eval=ρ at *;replace h1:ρ (.tmp 11)=.slice A2 L2.length c2:=h1;replace h2:(fun v w=>SpR w v (L3.map dnM)) (ρ (.tmp 13)) w':=h2;refine gx_gen (fun K hK=>?_);obtain ⟨hc,hf'⟩:=bcell (bdrewn hw'.out);go_simp
   obtain ⟨A,c,e,hs⟩:=h2;rw [e];(with_reducible refine (wished_w A2 c2 L2 A c (L3.map dnM) _ (HV2.out.keep (bdrewn hw'.out)) HS2.out hs HK2.out k2).mono ?_);rintro e w1 ⟨⟨g,cap,rfl,_,hr1⟩,hb1⟩;exact ⟨_,rfl,hK _ _ ⟨⟨_,_,rfl,hr1.nv⟩,hb1⟩⟩
  refine ⟨opOK_rx [(14,some 10)] (by kernel_rfl) rfl ?_,?_⟩
  ·intro act w' hw' h1;obtain ⟨hk,hf⟩:=evkf act;generalize act.eval=ρ at *;replace h1:(fun v w=>NRz w v L2.length (wishM L2 (L3.map dnM))) (ρ (.tmp 14)) w':=h1;refine gx_gen (fun K hK=>?_);obtain ⟨hc,hf'⟩:=bcell (bdrewn hw'.out);go_simp
   obtain ⟨A,c,e,hs⟩:=h1;rw [e];(with_reducible refine (total_b A c L2.length _ _ hs HL2.out.symm (by omega) HM2.out).mono ?_);rintro e w1 ⟨rfl,hb1⟩;exact ⟨_,rfl,hK _ _ ⟨rfl,hb1⟩⟩
  refine ⟨opOK_rx [(9,some 5)] (by kernel_rfl) rfl ?_,?_⟩
  ·intro act w' hw' h1;obtain ⟨hk,hf⟩:=evkf act;generalize act.eval=ρ at *;replace h1:ρ (.tmp 9)=.int .i64 (sumI (wishM L1 (L3.map acM))):=h1;refine gx_gen (fun K hK=>?_);obtain ⟨hc,hf'⟩:=bcell (bdrewn hw'.out);go_simp;exact hK _ _ ⟨rfl,Gr.refl _⟩
  refine ⟨opOK_rx [(15,some 11)] (by kernel_rfl) rfl ?_,?_⟩
  ·intro act w' hw' h1;obtain ⟨hk,hf⟩:=evkf act;generalize act.eval=ρ at *;replace h1:ρ (.tmp 15)=.int .i64 (sumI (wishM L2 (L3.map dnM))):=h1;refine gx_gen (fun K hK=>?_);obtain ⟨hc,hf'⟩:=bcell (bdrewn hw'.out);go_simp;exact hK _ _ ⟨rfl,Gr.refl _⟩
  exact trivial
 case hfin =>
  intro w1 hg1;intro v4 t4;replace t4:v4=.pointer (some ⟨w.heap.size,0,none⟩):=t4;subst t4;intro v5 t5;replace t5:v5=.slice A1 L1.length c1:=t5;subst t5;intro v6 t6;replace t6:v6=.agg #[.slice A1 L1.length c1,.slice A2 L2.length c2,.slice A3 L3.length c3]:=t6;subst t6;intro v7 t7;replace t7:(fun v w=>SpR w v (L3.map acM)) v7 w1:=t7;intro v8 t8
  replace t8:(fun v w=>NRz w v L1.length (wishM L1 (L3.map acM))) v8 w1:=t8;intro v9 t9;replace t9:v9=.int .i64 (sumI (wishM L1 (L3.map acM))):=t9;subst t9;intro v10 t10;replace t10:v10=.pointer (some ⟨w.heap.size,1,none⟩):=t10;subst t10;intro v11 t11;replace t11:v11=.slice A2 L2.length c2:=t11;subst t11;intro v12 t12
  replace t12:v12=.agg #[.slice A1 L1.length c1,.slice A2 L2.length c2,.slice A3 L3.length c3]:=t12;subst t12;intro v13 t13;replace t13:(fun v w=>SpR w v (L3.map dnM)) v13 w1:=t13;intro v14 t14;replace t14:(fun v w=>NRz w v L2.length (wishM L2 (L3.map dnM))) v14 w1:=t14;intro v15 t15;replace t15:v15=.int .i64 (sumI (wishM L2 (L3.map dnM))):=t15;subst t15;intro v2 t2
  replace t2:v2=.int .i64 (sumI (wishM L1 (L3.map acM))):=t2;subst t2;intro v3 t3;replace t3:v3=.int .i64 (sumI (wishM L2 (L3.map dnM))):=t3;subst t3;have hb1:=bdrewn hg1.out;clear hg1;simp only [finP,Act.put,List.setIfInBounds_toArray,List.set_cons_succ,List.set_cons_zero];clear t7 t8 t13 t14 d0 d1 d2 lx;replace HX:=hbk hb1 HX;replace HB:=hD (bkeep2 HB.out hb1);clear hb1;go_wp2
  exact bodyPost_ret (v:=.tuple #[.int .i64 (sumI (wishM L1 (L3.map acM))),.int .i64 (sumI (wishM L2 (L3.map dnM)))]) (by simp only [results,Tryz.results97];go_simp) rfl ⟨rfl,HB.out⟩
end
section
theorem pv_of {w:World} {A:Option Addr} {L:List Pk} (h:RvK 9 w A (L.map valsPk)):PV w A L:=⟨fun h0=>by
 obtain ⟨b,off,e,hb,hp⟩:=h (by simpa using h0);refine ⟨b,off,e,hb,fun i p hi=>?_⟩;have hr:=hp i (valsPk p) (by rw [List.getElem?_map,hi];rfl)
 exact ⟨hr 0 _ rfl,hr 1 _ rfl,hr 2 _ rfl,hr 3 _ rfl,hr 4 _ rfl,hr 5 _ rfl,hr 6 _ rfl,hr 7 _ rfl,hr 8 _ rfl⟩⟩
theorem cev_of {w:World} {A:Option Addr} {L:List Ce} (h:RvK 9 w A (L.map valsCe)):CeV w A L:=⟨fun h0=>by
 obtain ⟨b,off,e,hb,hp⟩:=h (by simpa using h0);refine ⟨b,off,e,hb,fun i p hi=>?_⟩;have hr:=hp i (valsCe p) (by rw [List.getElem?_map,hi];rfl)
 exact ⟨hr 0 _ rfl,hr 1 _ rfl,hr 2 _ rfl,hr 3 _ rfl,hr 4 _ rfl,hr 5 _ rfl,hr 6 _ rfl,hr 7 _ rfl,hr 8 _ rfl⟩⟩
theorem packReq_v (A:Option Addr) (c n:Nat) (L:List Pk) (ow oh:Int) (w:World) (h:PV w A L) (hn:n=L.length) (hok:∀ p ∈ L,p.big) (h7:L.length≤10) :
  Calls Tryz.prog 229 #[.slice A n c,.agg (valsWi (ow,oh)).toArray] w fun e w'=>e=.returned (.agg (valsWi (reqM L)).toArray)∧Below w.heap.size w w':=by
 subst hn;have HV:=hD h;have HOK:=hD hok;clear h hok;refine calls_abs Tryz.func229 rfl 10 (by simp only [Tryz.ntmps229]) (by simp) (fun t hsz hargs=>?_);have q0:t[0]?=some (.slice A L.length c):=get_of (by omega) (hargs 0 _ rfl);have q1:t[1]?=some (.agg (valsWi (ow,oh)).toArray):=get_of (by omega) (hargs 1 _ rfl);clear hargs;obtain ⟨l0,e0⟩:=gE q0;obtain ⟨l1,e1⟩:=gE q1
 refine wp_seq_h fun K hK=>?_
 apply wp_region_lit
 repeat (first | ((with_reducible show wpList _ _ _ _ _ _);refine allocK 93 2 rfl rfl infz_wish (fun z hz=>?_)) | go_step)
 refine hK.out _ _ ?_;clear hK K
 refine wp_abw (fun t' W'=>t'.size=10∧t'[0]?=some (.slice A L.length c)∧t'[4]?=some (.pointer (some ⟨w.heap.size+1,0,none⟩))∧(∃ z:Array Value,W'.heap[w.heap.size+1]?=some (.cells z 93 (0,0))∧z.size=2)∧Below w.heap.size w W') ⟨by simp [Act.put,hsz],by simp [Act.put,q0],by simp [Act.put,hsz],⟨⟨z,by have:=newS (w.alloc (.cells (valsWi (ow,oh)).toArray 93)) (.cells z 93);simpa using this,hz⟩,(balloc (Below.refl _ _)).trans ((balloc (Below.refl _ _)).mono (by simp))⟩⟩ ?_
 clear hsz q0 l0 e0 q1 l1 e1 t z hz;rintro t W1 ⟨hsz,q0,q4,⟨z,H2,hz⟩,hB⟩;have HB:=hD hB;replace HV:=hD (HV.out.keep hB);have HX:=hD H2;clear hB H2;obtain ⟨l0,e0⟩:=gE q0;obtain ⟨l4,e4⟩:=gE q4
 refine wp_seq_h fun K hK=>?_
 apply wp_region_lit
 repeat go_step
 refine (packRequest_w A c L false _ HV.out HOK.out h7).mono ?_;rintro e W2 ⟨rfl,hb2⟩
 dsimp only
 have HV2:=hD (HV.out.keep hb2);have HB2:=hD (bkeep2 HB.out hb2);have HX2:=hD ((hb2.block _ (ltS HX.out)).trans HX.out);clear hb2 HB HV HX
 repeat go_step
 refine (packRequest_w A c L true _ HV2.out HOK.out h7).mono ?_;rintro e W3 ⟨rfl,hb3⟩
 dsimp only
 have HB:=hD (bkeep2 HB2.out hb3);have HX:=hD ((hb3.block _ (ltS HX2.out)).trans HX2.out);clear hb3 HB2 HV2 HX2;have HTH:=hD (show W3.there (w.heap.size+1) 0 (valsWi (reqM L)).length from thereB HX.out (by rw [hz];show 0+2≤2;omega))
 repeat (first | ((with_reducible show wpList _ _ _ _ _ _);refine stK 93 _ _ (valsWi (reqM L)) (w.heap.size+1) 0 rfl rfl HTH.out inf_wish (valsWi_one _) (by simp [Act.eval,Act.put,hsz,e4]) (by simp [Act.eval,Act.put,hsz,valsWi,reqD]) ?_) | go_step)
 refine hK.out _ _ ?_;clear hK K;apply wp_ret;refine bp_retcell 4 93 (w.heap.size+1) (valsWi (reqM L)) Tryz.results229 ?_ (World.rangeAt_setCells_same _ _ _ _ HTH.out) Tryz.underlying93 rfl inf_wish rfl ⟨rfl,below_setCells (by omega) _ _ _ HB.out⟩
 simp [Act.put,hsz,e4]
theorem placeReq_v (v:Value) (ow oh:Int) (w:World) :
  Calls Tryz.prog 221 #[v,.agg (valsWi (ow,oh)).toArray] w fun e w'=>e=.returned (.agg (valsWi (ow,oh)).toArray)∧Below w.heap.size w w':=by
 refine calls_abs Tryz.func221 rfl 6 (by simp only [Tryz.ntmps221]) (by simp) (fun t hsz hargs=>?_);have q1:t[1]?=some (.agg (valsWi (ow,oh)).toArray):=get_of (by omega) (hargs 1 _ rfl);clear hargs;obtain ⟨l1,e1⟩:=gE q1
 refine wp_seq_h fun K hK=>?_
 apply wp_region_lit
 repeat (first | ((with_reducible show wpList _ _ _ _ _ _);refine allocK 93 2 rfl rfl infz_wish (fun z hz=>?_)) | go_step)
 refine hK.out _ _ ?_;clear hK K
 refine wp_abw (fun t' W'=>t'.size=6∧t'[3]?=some (.pointer (some ⟨w.heap.size,0,none⟩))∧t'[4]?=some (.pointer (some ⟨w.heap.size+1,0,none⟩))∧W'.heap[w.heap.size]?=some (.cells (valsWi (ow,oh)).toArray 93 (0,0))∧(∃ z:Array Value,W'.heap[w.heap.size+1]?=some (.cells z 93 (0,0))∧z.size=2)∧Below w.heap.size w W') ⟨by simp [Act.put,hsz],by simp [Act.put,hsz],by simp [Act.put,hsz],⟨(Below.heap_alloc _ _ _ (by simp)).trans (newS _ _),⟨z,by have:=newS (w.alloc (.cells (valsWi (ow,oh)).toArray 93)) (.cells z 93);simpa using this,hz⟩,(balloc (Below.refl _ _)).trans ((balloc (Below.refl _ _)).mono (by simp))⟩⟩ ?_
 clear hsz q1 l1 e1 t z hz;rintro t W1 ⟨hsz,q3,q4,H1,⟨z,H2,hz⟩,hB⟩;have HR:=hD (show W1.rangeAt w.heap.size 0 (valsWi (ow,oh)) from fun j v hj=>by rw [Nat.zero_add];exact (cellS H1 j).trans (by simpa using hj));have HTH:=hD (show W1.there (w.heap.size+1) 0 (valsWi (ow,oh)).length from thereB H2 (by rw [hz];show 0+2≤2;omega));have HB:=hD hB;clear H1 H2 hB;obtain ⟨l3,e3⟩:=gE q3;obtain ⟨l4,e4⟩:=gE q4
 refine wp_seq_h fun K hK=>?_
 apply wp_region_lit
 repeat (first | ((with_reducible show wpList _ _ _ _ _ _);refine ldK 93 _ (valsWi (ow,oh)) w.heap.size 0 rfl rfl HR.out Tryz.underlying93 rfl inf_wish (by simp [Act.eval,Act.put,hsz,e3]) ?_) | ((with_reducible show wpList _ _ _ _ _ _);refine stK 93 _ _ (valsWi (ow,oh)) (w.heap.size+1) 0 rfl rfl HTH.out inf_wish (valsWi_one _) (by simp [Act.eval,Act.put,hsz,e4]) (by simp [Act.eval,Act.put,hsz]) ?_) | go_step)
 refine hK.out _ _ ?_;clear hK K;apply wp_ret;refine bp_retcell 4 93 (w.heap.size+1) (valsWi (ow,oh)) Tryz.results221 ?_ (World.rangeAt_setCells_same _ _ _ _ HTH.out) Tryz.underlying93 rfl inf_wish rfl ⟨rfl,below_setCells (by omega) _ _ _ HB.out⟩
 simp [Act.put,hsz,e4]
def gridM (L1 L2:List Ln) (L3:List Ce):Int × Int:=(sumI (wishM L1 (L3.map acM)),sumI (wishM L2 (L3.map dnM)))
theorem gridReq_v (A1:Option Addr) (c1:Nat) (L1:List Ln) (A2:Option Addr) (c2:Nat) (L2:List Ln) (A3:Option Addr) (c3 n3:Nat) (L3:List Ce) (ow oh:Int) (w:World) (h1:LnV w A1 L1) (h2:LnV w A2 L2) (h3:CeV w A3 L3) (hn:n3=L3.length) (v1:linesB L1=true) (v2:linesB L2=true) (hl8:L3.length≤10) (hsm:∀ p ∈ L3,smW p) (hs1:spansW L1.length (L3.map acM)) (hs2:spansW L2.length (L3.map dnM)) :
  Calls Tryz.prog 199 #[.agg #[.slice A1 L1.length c1,.slice A2 L2.length c2,.slice A3 n3 c3],.agg (valsWi (ow,oh)).toArray] w fun e w'=>e=.returned (.agg (valsWi (gridM L1 L2 L3)).toArray)∧Below w.heap.size w w':=by
 subst hn;have HG:=hD (fun W hb=>gridRequest_w A1 c1 L1 A2 c2 L2 A3 c3 L3 W (h1.keep hb) (h2.keep hb) (h3.keep hb) v1 v2 hl8 hsm hs1 hs2);clear h1 h2 h3 v1 v2 hl8 hsm hs1 hs2;refine calls_abs Tryz.func199 rfl 15 (by simp only [Tryz.ntmps199]) (by simp) (fun t hsz hargs=>?_)
 have q0:t[0]?=some (.agg #[.slice A1 L1.length c1,.slice A2 L2.length c2,.slice A3 L3.length c3]):=get_of (by omega) (hargs 0 _ rfl);have q1:t[1]?=some (.agg (valsWi (ow,oh)).toArray):=get_of (by omega) (hargs 1 _ rfl);clear hargs;obtain ⟨l0,e0⟩:=gE q0;obtain ⟨l1,e1⟩:=gE q1
 refine wp_seq_h fun K hK=>?_
 apply wp_region_lit
 repeat (first | ((with_reducible show wpList _ _ _ _ _ _);refine allocK 93 2 rfl rfl infz_wish (fun z hz=>?_)) | go_step)
 refine hK.out _ _ ?_;clear hK K
 refine wp_abw (fun t' W'=>t'.size=15∧t'[2]?=some (.pointer (some ⟨w.heap.size,0,none⟩))∧t'[4]?=some (.pointer (some ⟨w.heap.size+2,0,none⟩))∧W'.heap[w.heap.size]?=some (.cells #[.slice A1 L1.length c1,.slice A2 L2.length c2,.slice A3 L3.length c3] 159 (0,0))∧(∃ z:Array Value,W'.heap[w.heap.size+2]?=some (.cells z 93 (0,0))∧z.size=2)∧Below w.heap.size w W') ⟨by simp [Act.put,hsz],by simp [Act.put,hsz],by simp [Act.put,hsz],⟨(Below.heap_alloc _ _ _ (by simp;omega)).trans ((Below.heap_alloc _ _ _ (by simp)).trans (newS _ _)),⟨z,by have:=newS ((w.alloc (.cells #[.slice A1 L1.length c1,.slice A2 L2.length c2,.slice A3 L3.length c3] 159)).alloc (.cells (valsWi (ow,oh)).toArray 93)) (.cells z 93);simpa using this,hz⟩,(((Below.refl _ w).alloc (Nat.le_refl _) _).alloc (by simp) _).alloc (by simp;omega) _⟩⟩ ?_
 clear hsz q0 l0 e0 q1 l1 e1 t z hz;rintro t W1 ⟨hsz,q2,q4,H1,⟨z,H2,hz⟩,hB⟩;have HB:=hD hB;have HX:=hD H2;have HR:=hD (show W1.rangeAt w.heap.size 0 [.slice A1 L1.length c1,.slice A2 L2.length c2,.slice A3 L3.length c3] from fun j v hj=>by rw [Nat.zero_add];exact (cellS H1 j).trans (by simpa using hj));clear hB H2 H1;obtain ⟨l2,e2⟩:=gE q2;obtain ⟨l4,e4⟩:=gE q4
 refine wp_seq_h fun K hK=>?_
 apply wp_region_lit
 repeat (first | ((with_reducible show wpList _ _ _ _ _ _);refine ldK 159 _ [.slice A1 L1.length c1,.slice A2 L2.length c2,.slice A3 L3.length c3] w.heap.size 0 rfl rfl HR.out Tryz.underlying159 rfl (by kernel_rfl) (by simp [Act.eval,Act.put,hsz,e2]) ?_) | go_step)
 refine (HG.out _ HB.out).mono ?_;rintro e W2 ⟨rfl,hb2⟩
 dsimp only
 replace HB:=hD (bkeep2 HB.out hb2);replace HX:=hD ((hb2.block _ (ltS HX.out)).trans HX.out);clear hb2 HR
 repeat go_step
 refine hK.out _ _ ?_;clear hK K;refine wp_abw (fun t' W'=>t'.size=15∧t'[4]?=some (.pointer (some ⟨w.heap.size+2,0,none⟩))∧t'[5]?=some (.int .i64 (gridM L1 L2 L3).1)∧t'[6]?=some (.int .i64 (gridM L1 L2 L3).2)∧W2=W') ⟨by simp [Act.put,hsz],by simp [Act.put,q4],by simp [Act.put,hsz,gridM],by simp [Act.put,hsz,gridM],rfl⟩ ?_;clear hsz q2 l2 e2 q4 l4 e4 t;rintro t _ ⟨hsz,q4,q5,q6,rfl⟩
 have HTH:=hD (show W2.there (w.heap.size+2) 0 (valsWi (gridM L1 L2 L3)).length from thereB HX.out (by rw [hz];show 0+2≤2;omega));obtain ⟨l4,e4⟩:=gE q4;obtain ⟨l5,e5⟩:=gE q5;obtain ⟨l6,e6⟩:=gE q6
 refine wp_seq_h fun K hK=>?_
 apply wp_region_lit
 repeat (first | ((with_reducible show wpList _ _ _ _ _ _);refine stK 93 _ _ (valsWi (gridM L1 L2 L3)) (w.heap.size+2) 0 rfl rfl HTH.out inf_wish (valsWi_one _) (by simp [Act.eval,Act.put,hsz,e4]) (by simp [Act.eval,Act.put,hsz,valsWi]) ?_) | go_step)
 refine hK.out _ _ ?_;clear hK K;apply wp_ret;refine bp_retcell 4 93 (w.heap.size+2) (valsWi (gridM L1 L2 L3)) Tryz.results199 ?_ (World.rangeAt_setCells_same _ _ _ _ HTH.out) Tryz.underlying93 rfl inf_wish rfl ⟨rfl,below_setCells (by omega) _ _ _ HB.out⟩
 simp [Act.put,hsz,e4]
end
section
open Go.RowKit
set_option linter.unusedVariables false
set_option maxHeartbeats 2000000
def kidB (L : List Nd) (i : Int) (k : Nat) : Bool := match L[k]? with
  | some n => n.pa == i
  | none => false
def kidD (L : List Nd) (i : Nat) : List Nat := idsN (kidB L (i : Int)) L.length
theorem isKid_eq (R : List Nr) (i : Int) (k : Nat) : isKid R i k = kidB (R.map Nr.n) i k := by
  unfold isKid kidB
  rw [List.getElem?_map]
  cases R[k]? <;> rfl
theorem kidsN_eq (R : List Nr) (i : Nat) : kidsN R (i : Int) = kidD (R.map Nr.n) i := by
  unfold kidsN kidD
  rw [show isKid R (i : Int) = kidB (R.map Nr.n) (i : Int) from funext fun k => isKid_eq R _ k, List.length_map]
theorem kidsM_eq (R : List Nr) (i : Nat) : kidsM R (i : Int) = (kidD (R.map Nr.n) i).map fun (k : Nat) => (k : Int) := by
  show (kidsN R (i : Int)).map _ = _
  rw [kidsN_eq]
theorem kidD_lt {L : List Nd} {i k : Nat} (h : k ∈ kidD L i) : k < L.length := idsN_lt k h
theorem kidD_pa {L : List Nd} {i k : Nat} {n : Nd} (h : k ∈ kidD L i) (hn : L[k]? = some n) : n.pa = (i : Int) := by
  have := (List.mem_filter.1 h).2
  unfold kidB at this
  rw [hn] at this
  simpa using this
theorem kidD_len (L : List Nd) (i : Nat) : (kidD L i).length ≤ L.length := by
  unfold kidD idsN
  exact Nat.le_trans (List.length_filter_le _ _) (by simp)
def pkOf (m : Nd) (q : Int × Int) : Pk := { m.pk with w := q.1, h := q.2 }
def ceOf (m : Nd) (q : Int × Int) : Ce := { m.ce with cw := q.1, ch := q.2 }
def pksF (L : List Nd) (f : Nat → Int × Int) (ks : List Nat) : List Pk := ks.filterMap fun k => (L[k]?).map fun m => pkOf m (f k)
def cesF (L : List Nd) (f : Nat → Int × Int) (ks : List Nat) : List Ce := ks.filterMap fun k => (L[k]?).map fun m => ceOf m (f k)
def askN (L : List Nd) (f : Nat → Int × Int) (i : Nat) (n : Nd) : Int × Int :=
  if n.ke = true ∨ kidD L i = [] ∨ n.ki = 2 then (n.ww, n.hh)
  else if n.ki = 0 then reqM (pksF L f (kidD L i)) else gridM n.cs n.rs (cesF L f (kidD L i))
def szF (L : List Nd) : Nat → Nat → Int × Int
  | 0, _ => (0, 0)
  | f + 1, i => match L[i]? with
    | none => (0, 0)
    | some n => askN L (szF L f) i n
def szM (L : List Nd) (i : Nat) : Int × Int := szF L L.length i
theorem filterMap_congr' {α β : Type} {f g : α → Option β} {l : List α} (h : ∀ x ∈ l, f x = g x) : l.filterMap f = l.filterMap g := by
  induction l with
  | nil => rfl
  | cons a t ih =>
    simp only [List.filterMap_cons, h a List.mem_cons_self]
    rw [ih (fun x hx => h x (List.mem_cons_of_mem _ hx))]
theorem pksF_congr {L : List Nd} {f g : Nat → Int × Int} {ks : List Nat} (h : ∀ k ∈ ks, f k = g k) : pksF L f ks = pksF L g ks := filterMap_congr' fun k hk => by rw [h k hk]
theorem cesF_congr {L : List Nd} {f g : Nat → Int × Int} {ks : List Nat} (h : ∀ k ∈ ks, f k = g k) : cesF L f ks = cesF L g ks := filterMap_congr' fun k hk => by rw [h k hk]
theorem askN_congr {L : List Nd} {f g : Nat → Int × Int} {i : Nat} {n : Nd} (h : ∀ k ∈ kidD L i, f k = g k) : askN L f i n = askN L g i n := by
  unfold askN
  rw [pksF_congr h, cesF_congr h]
structure TrOK (L : List Nd) : Prop where
  l1 : 1 ≤ L.length
  l10 : L.length ≤ 10
  up : ∀ (k : Nat) (n : Nd), L[k]? = some n → (k = 0 ∧ n.pa = -1) ∨ (0 < k ∧ 0 ≤ n.pa ∧ n.pa < (k : Int))
  sz : ∀ (k : Nat) (n : Nd), L[k]? = some n → (0 ≤ n.ww ∧ n.ww ≤ 30) ∧ (0 ≤ n.hh ∧ n.hh ≤ 30) ∧ (n.ki = 0 ∨ n.ki = 1 ∨ n.ki = 2)
  pk : ∀ (k : Nat) (n : Nd), L[k]? = some n → n.pk.ok = true
  pl : ∀ (k : Nat) (n : Nd), L[k]? = some n → plB n.pl = true
  li : ∀ (k : Nat) (n : Nd), L[k]? = some n → n.ki = 1 → linesB n.cs = true ∧ linesB n.rs = true
  ce : ∀ (k : Nat) (n u : Nd), L[k]? = some n → 0 < k → L[n.pa.toNat]? = some u → u.ki = 1 → cellB u.cs.length u.rs.length n.ce = true
theorem kid_gt {L : List Nd} (h : TrOK L) {i k : Nat} (hk : k ∈ kidD L i) : i < k := by
  have e := List.getElem?_eq_getElem (kidD_lt hk)
  have hp := kidD_pa hk e
  rcases h.up k _ e with ⟨_, h2⟩ | ⟨_, h2, h3⟩
  · omega
  · omega
theorem szF_fuel {L : List Nd} (h : TrOK L) : ∀ (f g i : Nat), L.length ≤ f + i → L.length ≤ g + i → szF L f i = szF L g i := by
  intro f
  induction f with
  | zero =>
    intro g i h1 h2
    cases g with
    | zero => rfl
    | succ g =>
      have : L[i]? = none := List.getElem?_eq_none (by omega)
      simp [szF, this]
  | succ f ih =>
    intro g i h1 h2
    cases g with
    | zero =>
      have : L[i]? = none := List.getElem?_eq_none (by omega)
      simp [szF, this]
    | succ g =>
      cases hn : L[i]? with
      | none => simp [szF, hn]
      | some n =>
        simp only [szF, hn]
        exact askN_congr fun k hk => ih g k (by have := kid_gt h hk; omega) (by have := kid_gt h hk; omega)
theorem szM_eq {L : List Nd} (h : TrOK L) {i : Nat} {n : Nd} (hn : L[i]? = some n) : szM L i = askN L (szM L) i n := by
  have hi := (List.getElem?_eq_some_iff.1 hn).1
  obtain ⟨m, hm⟩ : ∃ m, L.length = m + 1 := ⟨L.length - 1, by omega⟩
  show szF L L.length i = _
  rw [hm]
  simp only [szF, hn]
  exact askN_congr fun k hk => by
    have := kid_gt h hk
    exact szF_fuel h m L.length k (by omega) (by omega)
def mxB : Nat → Int
  | 0 => 30
  | f + 1 => 10 * (mxB f + 20) + 150
theorem mxB_nn : ∀ f, 30 ≤ mxB f
  | 0 => by simp [mxB]
  | f + 1 => by have := mxB_nn f; simp only [mxB]; omega
theorem mxB_le : ∀ {f g : Nat}, f ≤ g → mxB f ≤ mxB g
  | f, 0, h => by obtain rfl : f = 0 := by omega
                  exact Int.le_refl _
  | f, g + 1, h => by
    by_cases e : f = g + 1
    · subst e; exact Int.le_refl _
    · have := mxB_le (f := f) (g := g) (by omega)
      have := mxB_nn g
      simp only [mxB]; omega
theorem reqM_gen {M : Int} : ∀ {L : List Pk}, (∀ p ∈ L, ∀ d, 0 ≤ p.need d ∧ p.need d ≤ M) → 0 ≤ (reqM L).1 ∧ (reqM L).1 ≤ M * L.length ∧ 0 ≤ (reqM L).2 ∧ (reqM L).2 ≤ M * L.length
  | [], _ => by simp [reqM]
  | p :: t, h => by
    obtain ⟨a1, a2, a3, a4⟩ := reqM_gen (L := t) (fun q hq => h q (List.mem_cons_of_mem _ hq))
    have n1 := h p List.mem_cons_self false
    have n2 := h p List.mem_cons_self true
    have m1 := mx_spec (reqM t).1 (p.need false)
    have m2 := mx_spec (reqM t).2 (p.need true)
    have e : M * ((t.length + 1 : Nat) : Int) = M * (t.length : Int) + M := by rw [Int.natCast_add, Int.mul_add]; simp
    simp only [reqM, List.length_cons]
    rw [e]
    have hM : 0 ≤ M := by omega
    split <;> (dsimp only; omega)
theorem mem_pksF {L : List Nd} {f : Nat → Int × Int} {ks : List Nat} {p : Pk} (h : p ∈ pksF L f ks) : ∃ k m, k ∈ ks ∧ L[k]? = some m ∧ p = pkOf m (f k) := by
  obtain ⟨k, hk, e⟩ := List.mem_filterMap.1 h
  cases hm : L[k]? with
  | none => rw [hm] at e; cases e
  | some m => rw [hm] at e; exact ⟨k, m, hk, hm, by simpa using e.symm⟩
theorem mem_cesF {L : List Nd} {f : Nat → Int × Int} {ks : List Nat} {p : Ce} (h : p ∈ cesF L f ks) : ∃ k m, k ∈ ks ∧ L[k]? = some m ∧ p = ceOf m (f k) := by
  obtain ⟨k, hk, e⟩ := List.mem_filterMap.1 h
  cases hm : L[k]? with
  | none => rw [hm] at e; cases e
  | some m => rw [hm] at e; exact ⟨k, m, hk, hm, by simpa using e.symm⟩
theorem pksF_len (L : List Nd) (f : Nat → Int × Int) (ks : List Nat) : (pksF L f ks).length ≤ ks.length := List.length_filterMap_le _ _
theorem cesF_len (L : List Nd) (f : Nat → Int × Int) (ks : List Nat) : (cesF L f ks).length ≤ ks.length := List.length_filterMap_le _ _
theorem pk_bd {L : List Nd} (h : TrOK L) {f : Nat → Int × Int} {ks : List Nat} {M : Int} (hf : ∀ k ∈ ks, (0 ≤ (f k).1 ∧ (f k).1 ≤ M) ∧ (0 ≤ (f k).2 ∧ (f k).2 ≤ M)) : ∀ p ∈ pksF L f ks, ((0 ≤ p.w ∧ p.w ≤ M) ∧ (0 ≤ p.h ∧ p.h ≤ M) ∧ (0 ≤ p.s ∧ p.s ≤ 3) ∧ (0 ≤ p.an ∧ p.an ≤ 8) ∧ (0 ≤ p.px ∧ p.px ≤ 10) ∧ (0 ≤ p.py ∧ p.py ≤ 10)) := fun p hp => by
  obtain ⟨k, m, hk, hm, rfl⟩ := mem_pksF hp
  have := vpB_iff.1 (h.pk k m hm)
  have := hf k hk
  unfold pkOf
  dsimp only
  omega
theorem ce_bd {L : List Nd} (h : TrOK L) {i : Nat} {n : Nd} (hn : L[i]? = some n) (h1 : n.ki = 1) {f : Nat → Int × Int} {M : Int} (hf : ∀ k ∈ kidD L i, (0 ≤ (f k).1 ∧ (f k).1 ≤ M) ∧ (0 ≤ (f k).2 ∧ (f k).2 ≤ M)) :
    ∀ p ∈ cesF L f (kidD L i), ((0 ≤ p.cw ∧ p.cw ≤ M) ∧ (0 ≤ p.ch ∧ p.ch ≤ M)) ∧ ((0 ≤ p.px ∧ p.px ≤ 10) ∧ (0 ≤ p.py ∧ p.py ≤ 10)) ∧ (0 ≤ p.co ∧ 1 ≤ p.mc ∧ p.co + p.mc ≤ n.cs.length) ∧ (0 ≤ p.ro ∧ 1 ≤ p.mr ∧ p.ro + p.mr ≤ n.rs.length) ∧ (0 ≤ p.sk ∧ p.sk ≤ 15) := fun p hp => by
  obtain ⟨k, m, hk, hm, rfl⟩ := mem_cesF hp
  have hpa := kidD_pa hk hm
  have hgt := kid_gt h hk
  have hc := h.ce k m n hm (by omega) (by rw [hpa]; simpa using hn) h1
  simp only [cellB, runB, Bool.and_eq_true, rng_iff] at hc
  have := hf k hk
  unfold ceOf
  dsimp only
  omega
theorem askN_bd {L : List Nd} (h : TrOK L) {i : Nat} {n : Nd} (hn : L[i]? = some n) {f : Nat → Int × Int} {M : Int} (h30 : 30 ≤ M) (hM : M ≤ 1000000000000) (hf : ∀ k ∈ kidD L i, (0 ≤ (f k).1 ∧ (f k).1 ≤ M) ∧ (0 ≤ (f k).2 ∧ (f k).2 ≤ M)) :
    (0 ≤ (askN L f i n).1 ∧ (askN L f i n).1 ≤ 10 * (M + 20) + 150) ∧ (0 ≤ (askN L f i n).2 ∧ (askN L f i n).2 ≤ 10 * (M + 20) + 150) := by
  have hs := h.sz i n hn
  have hkl := kidD_len L i
  have hl := h.l10
  unfold askN
  split
  · dsimp only; omega
  · rename_i hc
    split
    · have hp := pk_bd h hf
      obtain ⟨a1, a2, a3, a4⟩ := reqM_gen (M := M + 20) (L := pksF L f (kidD L i)) (fun p hq d => by have := hp p hq; unfold Pk.need; split <;> omega)
      have hl2 := pksF_len L f (kidD L i)
      have e : (M + 20) * ((pksF L f (kidD L i)).length : Int) ≤ (M + 20) * 10 := Int.mul_le_mul_of_nonneg_left (by omega) (by omega)
      omega
    · rename_i h0
      have h1 : n.ki = 1 := by
        rcases hs.2.2 with e | e | e
        · exact absurd e h0
        · exact e
        · exact absurd (.inr (.inr e)) hc
      have hp := ce_bd h hn h1 hf
      obtain ⟨v1, v2⟩ := h.li i n hn h1
      have hl2 := cesF_len L f (kidD L i)
      have w1 : ∀ s ∈ (cesF L f (kidD L i)).map acM, spanW n.cs.length s ∧ s.need ≤ M + 20 := fun s hs' => by
        obtain ⟨p, hpm, rfl⟩ := List.mem_map.1 hs'
        have := hp p hpm
        refine ⟨⟨p.co.toNat, p.mc.toNat, ?_, ?_, ?_, ?_, ?_, ?_⟩, ?_⟩ <;> first | omega | (unfold acM; dsimp only; omega)
      have w2 : ∀ s ∈ (cesF L f (kidD L i)).map dnM, spanW n.rs.length s ∧ s.need ≤ M + 20 := fun s hs' => by
        obtain ⟨p, hpm, rfl⟩ := List.mem_map.1 hs'
        have := hp p hpm
        refine ⟨⟨p.ro.toNat, p.mr.toNat, ?_, ?_, ?_, ?_, ?_, ?_⟩, ?_⟩ <;> first | omega | (unfold dnM; dsimp only; omega)
      have b1 := wish_bdW v1 ⟨by simp; omega, fun s hs' => (w1 s hs').1⟩
      have b2 := wish_bdW v2 ⟨by simp; omega, fun s hs' => (w2 s hs').1⟩
      have c1 := needs_bd (n := n.cs.length) (B := M + 20) (by omega) (fun s hs' => (w1 s hs').2)
      have c2 := needs_bd (n := n.rs.length) (B := M + 20) (by omega) (fun s hs' => (w2 s hs').2)
      have z1 := sumI_nonneg b1.2.1
      have z2 := sumI_nonneg b2.2.1
      rw [List.length_map] at c1 c2
      have e : (M + 20) * ((cesF L f (kidD L i)).length : Int) ≤ (M + 20) * 10 := Int.mul_le_mul_of_nonneg_left (by omega) (by omega)
      have y1 := b1.2.2
      have y2 := b2.2.2
      unfold gridM
      dsimp only
      omega
theorem szF_bd {L : List Nd} (h : TrOK L) : ∀ (f i : Nat), f ≤ 10 → (0 ≤ (szF L f i).1 ∧ (szF L f i).1 ≤ mxB f) ∧ (0 ≤ (szF L f i).2 ∧ (szF L f i).2 ≤ mxB f) := by
  intro f
  induction f with
  | zero => intro i _; simp [szF, mxB]
  | succ f ih =>
    intro i hf
    have hb : mxB f ≤ 1000000000000 := Int.le_trans (mxB_le (show f ≤ 9 by omega)) (by decide)
    have h30 := mxB_nn f
    cases hn : L[i]? with
    | none => simp only [szF, hn, mxB]; omega
    | some n =>
      simp only [szF, hn, mxB]
      exact askN_bd h hn h30 hb (fun k _ => ih k (by omega))
theorem szM_bd {L : List Nd} (h : TrOK L) (i : Nat) : (0 ≤ (szM L i).1 ∧ (szM L i).1 ≤ 1000000000000) ∧ (0 ≤ (szM L i).2 ∧ (szM L i).2 ≤ 1000000000000) := by
  have hb := szF_bd h L.length i h.l10
  have : mxB L.length ≤ 1000000000000 := Int.le_trans (mxB_le h.l10) (by decide)
  unfold szM
  omega
end
end Go.Proofs.YtenckjdiggaonaaGreat
