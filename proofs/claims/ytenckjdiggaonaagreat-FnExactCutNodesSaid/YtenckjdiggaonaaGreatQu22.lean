import Derived.Test.YtenckjdiggaonaaGreatQu21
set_option linter.unusedVariables false
set_option linter.unusedSimpArgs false
set_option maxRecDepth 100000
set_option maxHeartbeats 16000000
namespace Go.Proofs.YtenckjdiggaonaaGreat
open Go.RowKit
attribute [local go_sem] growUpon_value growUpon_skip growUpon_enter
section
attribute [local go_sem] givesUpon_value givesUpon_skip givesUpon_enter
def inC (n m:Nat) (p:Ce):Prop:=(0≤p.co∧1≤p.mc∧p.co+p.mc≤n)∧(0≤p.ro∧1≤p.mr∧p.ro+p.mr≤m)∧(0≤p.sk∧p.sk≤15)
structure GW (L1 L2:List Ln) (L3:List Ce):Prop where
 v1:linesB L1=true
 v2:linesB L2=true
 hl8:L3.length≤10
 hsm:∀ p ∈ L3,smW p
 s1:spansW L1.length (L3.map acM)
 s2:spansW L2.length (L3.map dnM)
 n1:L1.length≤5
 n2:L2.length≤5
 hin:∀ p ∈ L3,inC L1.length L2.length p
theorem sizedM_lenW {L:List Ln} {S:List Sp} {room:Int} (hL:linesB L=true) (hS:spansW L.length S) (hr0:0≤room) (hr1:room≤20000000000000):(sizedM L S room).length=L.length:=(sized_okW hL hS hr0 hr1).2.1
theorem edges_w (A1:Option Addr) (c1:Nat) (L1:List Ln) (A2:Option Addr) (c2:Nat) (L2:List Ln) (A3:Option Addr) (c3:Nat) (L3:List Ce) (u v:Int) (w:World) (h1:LnV w A1 L1) (h2:LnV w A2 L2) (h3:CeV w A3 L3) (gf:GW L1 L2 L3) (hu:rqW u v=true) :
  Calls Tryz.prog 197 #[.agg #[.slice A1 L1.length c1,.slice A2 L2.length c2,.slice A3 L3.length c3],.int .i64 u,.int .i64 v] w fun e w'=>(∃ B1 e1 B2 e2,e=.returned (.tuple #[.slice B1 (L1.length+1) e1,.slice B2 (L2.length+1) e2])∧NV w' B1 (edL (sizedM L1 (L3.map acM) u))∧NV w' B2 (edL (sizedM L2 (L3.map dnM) v)))∧Below w.heap.size w w':=by
 obtain ⟨⟨u0,u1⟩,⟨y0,y1⟩⟩:=rqW_iff.1 hu;have hl8:=gf.hl8;have n1:=gf.n1;have n2:=gf.n2;have HF:=hD gf;have M1:=hD (sized_smalW gf.v1 gf.s1 u0 u1);have M2:=hD (sized_smalW gf.v2 gf.s2 y0 y1);have HL1:=hD (sizedM_lenW (room:=u) gf.v1 gf.s1 u0 u1);have HL2:=hD (sizedM_lenW (room:=v) gf.v2 gf.s2 y0 y1)
 have hB0:Below w.heap.size w (w.alloc (.cells #[.slice A1 L1.length c1,.slice A2 L2.length c2,.slice A3 L3.length c3] 123 (0,0))):=balloc (Below.refl _ _);have HX:=hD (newS w (.cells #[.slice A1 L1.length c1,.slice A2 L2.length c2,.slice A3 L3.length c3] 123 (0,0)));have HV1:=hD (h1.keep hB0);have HV2:=hD (h2.keep hB0);have HV3:=hD (h3.keep hB0);have HB:=hD hB0;clear hB0 h1 h2 h3 gf hu
 go_enter Tryz.func197,Tryz.ntmps197
 have d0:=cellS HX.out 0;have d1:=cellS HX.out 1;have d2:=cellS HX.out 2;have lx:=ltS HX.out
 go_wp2_with fail
 refine wp_region_rx (XV (.pointer (some ⟨w.heap.size,0,none⟩)) :: XV (.slice A1 L1.length c1) :: XV (.pointer (some ⟨w.heap.size,2,none⟩)) :: XV (.slice A3 L3.length c3) :: (fun z9 w=>SpR w z9 (L3.map acM)) :: XV (.int .i64 u) :: (fun x w=>NRz w x L1.length (sizedM L1 (L3.map acM) u)) :: (fun x w=>NRz w x L1.length (sizedM L1 (L3.map acM) u)) :: []) (by kernel_rfl) (by kernel_rfl) ?hTs ?hops ?hfin
 case hTs =>
  intro T hT;simp only [List.mem_cons,List.not_mem_nil,or_false] at hT
  rcases hT with rfl | rfl | rfl | rfl | rfl | rfl | rfl | rfl <;> first | exact stay_V _ | exact stay_T | exact stay_of (fun v a b x g=>x.keep g) | exact stay_of (fun v a b x g=>x)
 case hops =>
  refine ⟨opOK_rx [(3,none)] (by kernel_rfl) rfl ?_,?_⟩
  ·intro act w' hw' h1;obtain ⟨hk,hf⟩:=evkf act;generalize act.eval=ρ at *;replace h1:ρ (.tmp 3)=.pointer (some ⟨w.heap.size,0,none⟩):=h1;refine gx_gen (fun K hK=>?_);obtain ⟨hc,hf'⟩:=bcell (bdrewn hw'.out);go_simp;exact hK _ _ ⟨rfl,Gr.refl _⟩
  refine ⟨opOK_rx [(10,some 0)] (by kernel_rfl) rfl ?_,?_⟩
  ·intro act w' hw' h1;obtain ⟨hk,hf⟩:=evkf act;generalize act.eval=ρ at *;replace h1:ρ (.tmp 10)=.pointer (some ⟨w.heap.size,0,none⟩):=h1;refine gx_gen (fun K hK=>?_);obtain ⟨hc,hf'⟩:=bcell (bdrewn hw'.out);go_simp;exact hK _ _ ⟨rfl,Gr.refl _⟩
  refine ⟨opOK_rx [(3,none)] (by kernel_rfl) rfl ?_,?_⟩
  ·intro act w' hw' h1;obtain ⟨hk,hf⟩:=evkf act;generalize act.eval=ρ at *;replace h1:ρ (.tmp 3)=.pointer (some ⟨w.heap.size,0,none⟩):=h1;refine gx_gen (fun K hK=>?_);obtain ⟨hc,hf'⟩:=bcell (bdrewn hw'.out);go_simp;exact hK _ _ ⟨rfl,Gr.refl _⟩
  refine ⟨opOK_rx [(12,some 2)] (by kernel_rfl) rfl ?_,?_⟩
  ·intro act w' hw' h1;obtain ⟨hk,hf⟩:=evkf act;generalize act.eval=ρ at *;replace h1:ρ (.tmp 12)=.pointer (some ⟨w.heap.size,2,none⟩):=h1;refine gx_gen (fun K hK=>?_);obtain ⟨hc,hf'⟩:=bcell (bdrewn hw'.out);go_simp;exact hK _ _ ⟨rfl,Gr.refl _⟩
  refine ⟨opOK_rx [(13,some 3)] (by kernel_rfl) rfl ?_,?_⟩
  ·intro act w' hw' h1;obtain ⟨hk,hf⟩:=evkf act;generalize act.eval=ρ at *;replace h1:ρ (.tmp 13)=.slice A3 L3.length c3:=h1;refine gx_gen (fun K hK=>?_);obtain ⟨hc,hf'⟩:=bcell (bdrewn hw'.out);go_simp
   (with_reducible refine (each_acrossW A3 c3 L3 _ (HV3.out.keep (bdrewn hw'.out)) (by omega) HF.out.hsm).mono ?_);rintro e w1 ⟨rfl,hr1,hb1⟩;exact ⟨_,rfl,hK _ _ ⟨⟨_,_,by rw [List.length_map],hr1.v⟩,hb1⟩⟩
  refine ⟨opOK_rx [(1,none)] (by kernel_rfl) rfl ?_,?_⟩
  ·intro act w' hw' h1;obtain ⟨hk,hf⟩:=evkf act;generalize act.eval=ρ at *;replace h1:ρ (.tmp 1)=.int .i64 u:=h1;refine gx_gen (fun K hK=>?_);obtain ⟨hc,hf'⟩:=bcell (bdrewn hw'.out);go_simp;exact hK _ _ ⟨rfl,Gr.refl _⟩
  refine ⟨opOK_rx [(11,some 1),(14,some 4),(15,some 5)] (by kernel_rfl) rfl ?_,?_⟩
  ·intro act w' hw' h1 h2 h3;obtain ⟨hk,hf⟩:=evkf act;generalize act.eval=ρ at *;replace h1:ρ (.tmp 11)=.slice A1 L1.length c1:=h1;replace h2:(fun z9 w=>SpR w z9 (L3.map acM)) (ρ (.tmp 14)) w':=h2;replace h3:ρ (.tmp 15)=.int .i64 u:=h3;refine gx_gen (fun K hK=>?_);obtain ⟨hc,hf'⟩:=bcell (bdrewn hw'.out);go_simp
   obtain ⟨A,c,e,hs⟩:=h2;rw [e];(with_reducible refine (lineSizes_w A1 c1 L1 A c (L3.map acM) u _ (HV1.out.keep (bdrewn hw'.out)) HF.out.v1 hs HF.out.s1 u0 u1).mono ?_);rintro e w1 ⟨⟨g,rfl,_,hr1⟩,hb1⟩;exact ⟨_,rfl,hK _ _ ⟨⟨_,_,rfl,hr1.nv⟩,hb1⟩⟩
  refine ⟨opOK_rx [(16,some 6)] (by kernel_rfl) rfl ?_,?_⟩
  ·intro act w' hw' h1;obtain ⟨hk,hf⟩:=evkf act;generalize act.eval=ρ at *;replace h1:(fun x w=>NRz w x L1.length (sizedM L1 (L3.map acM) u)) (ρ (.tmp 16)) w':=h1;refine gx_gen (fun K hK=>?_);obtain ⟨hc,hf'⟩:=bcell (bdrewn hw'.out);go_simp;exact hK _ _ ⟨h1,Gr.refl _⟩
  exact trivial
 case hfin =>
  intro w1 hg1;intro v10 t10;replace t10:v10=.pointer (some ⟨w.heap.size,0,none⟩):=t10;subst t10;intro v11 t11;replace t11:v11=.slice A1 L1.length c1:=t11;subst t11;intro v12 t12;replace t12:v12=.pointer (some ⟨w.heap.size,2,none⟩):=t12;subst t12;intro v13 t13;replace t13:v13=.slice A3 L3.length c3:=t13;subst t13;intro v14 t14;replace t14:(fun z9 w=>SpR w z9 (L3.map acM)) v14 w1:=t14;intro v15 t15
  replace t15:v15=.int .i64 u:=t15;subst t15;intro v16 t16;replace t16:(fun x w=>NRz w x L1.length (sizedM L1 (L3.map acM) u)) v16 w1:=t16;intro v8 t8;replace t8:(fun x w=>NRz w x L1.length (sizedM L1 (L3.map acM) u)) v8 w1:=t8;have hb1:=bdrewn hg1.out;clear hg1;simp only [finP,Act.put,List.setIfInBounds_toArray,List.set_cons_succ,List.set_cons_zero];obtain ⟨B1,e1,rfl,hn1⟩:=t8
  clear t14 t16 d0 d1 d2 lx;replace HX:=hbk hb1 HX;replace HV1:=hD (HV1.out.keep hb1);replace HV2:=hD (HV2.out.keep hb1);replace HV3:=hD (HV3.out.keep hb1);replace HB:=hD (bkeep2 HB.out hb1);clear hb1;have HN1:=hD hn1;clear hn1;have d0:=cellS HX.out 0;have d1:=cellS HX.out 1;have d2:=cellS HX.out 2;have lx:=ltS HX.out
  go_wp2_with fail
  refine wp_region_rx (XV (.pointer (some ⟨w.heap.size,1,none⟩)) :: XV (.slice A2 L2.length c2) :: XV (.pointer (some ⟨w.heap.size,2,none⟩)) :: XV (.slice A3 L3.length c3) :: (fun z9 w=>SpR w z9 (L3.map dnM)) :: XV (.int .i64 v) :: (fun x w=>NRz w x L2.length (sizedM L2 (L3.map dnM) v)) :: (fun x w=>NRz w x L2.length (sizedM L2 (L3.map dnM) v)) :: []) (by kernel_rfl) (by kernel_rfl) ?hTs ?hops ?hfin
  case hTs =>
   intro T hT;simp only [List.mem_cons,List.not_mem_nil,or_false] at hT
   rcases hT with rfl | rfl | rfl | rfl | rfl | rfl | rfl | rfl <;> first | exact stay_V _ | exact stay_T | exact stay_of (fun v a b x g=>x.keep g) | exact stay_of (fun v a b x g=>x)
  case hops =>
   refine ⟨opOK_rx [(3,none)] (by kernel_rfl) rfl ?_,?_⟩
   ·intro act w' hw' h1;obtain ⟨hk,hf⟩:=evkf act;generalize act.eval=ρ at *;replace h1:ρ (.tmp 3)=.pointer (some ⟨w.heap.size,0,none⟩):=h1;refine gx_gen (fun K hK=>?_);obtain ⟨hc,hf'⟩:=bcell (bdrewn hw'.out);go_simp;exact hK _ _ ⟨rfl,Gr.refl _⟩
   refine ⟨opOK_rx [(17,some 0)] (by kernel_rfl) rfl ?_,?_⟩
   ·intro act w' hw' h1;obtain ⟨hk,hf⟩:=evkf act;generalize act.eval=ρ at *;replace h1:ρ (.tmp 17)=.pointer (some ⟨w.heap.size,1,none⟩):=h1;refine gx_gen (fun K hK=>?_);obtain ⟨hc,hf'⟩:=bcell (bdrewn hw'.out);go_simp;exact hK _ _ ⟨rfl,Gr.refl _⟩
   refine ⟨opOK_rx [(3,none)] (by kernel_rfl) rfl ?_,?_⟩
   ·intro act w' hw' h1;obtain ⟨hk,hf⟩:=evkf act;generalize act.eval=ρ at *;replace h1:ρ (.tmp 3)=.pointer (some ⟨w.heap.size,0,none⟩):=h1;refine gx_gen (fun K hK=>?_);obtain ⟨hc,hf'⟩:=bcell (bdrewn hw'.out);go_simp;exact hK _ _ ⟨rfl,Gr.refl _⟩
   refine ⟨opOK_rx [(19,some 2)] (by kernel_rfl) rfl ?_,?_⟩
   ·intro act w' hw' h1;obtain ⟨hk,hf⟩:=evkf act;generalize act.eval=ρ at *;replace h1:ρ (.tmp 19)=.pointer (some ⟨w.heap.size,2,none⟩):=h1;refine gx_gen (fun K hK=>?_);obtain ⟨hc,hf'⟩:=bcell (bdrewn hw'.out);go_simp;exact hK _ _ ⟨rfl,Gr.refl _⟩
   refine ⟨opOK_rx [(20,some 3)] (by kernel_rfl) rfl ?_,?_⟩
   ·intro act w' hw' h1;obtain ⟨hk,hf⟩:=evkf act;generalize act.eval=ρ at *;replace h1:ρ (.tmp 20)=.slice A3 L3.length c3:=h1;refine gx_gen (fun K hK=>?_);obtain ⟨hc,hf'⟩:=bcell (bdrewn hw'.out);go_simp
    (with_reducible refine (each_downW A3 c3 L3 _ (HV3.out.keep (bdrewn hw'.out)) (by omega) HF.out.hsm).mono ?_);rintro e w1 ⟨rfl,hr1,hb1⟩;exact ⟨_,rfl,hK _ _ ⟨⟨_,_,by rw [List.length_map],hr1.v⟩,hb1⟩⟩
   refine ⟨opOK_rx [(2,none)] (by kernel_rfl) rfl ?_,?_⟩
   ·intro act w' hw' h1;obtain ⟨hk,hf⟩:=evkf act;generalize act.eval=ρ at *;replace h1:ρ (.tmp 2)=.int .i64 v:=h1;refine gx_gen (fun K hK=>?_);obtain ⟨hc,hf'⟩:=bcell (bdrewn hw'.out);go_simp;exact hK _ _ ⟨rfl,Gr.refl _⟩
   refine ⟨opOK_rx [(18,some 1),(21,some 4),(22,some 5)] (by kernel_rfl) rfl ?_,?_⟩
   ·intro act w' hw' h1 h2 h3;obtain ⟨hk,hf⟩:=evkf act;generalize act.eval=ρ at *;replace h1:ρ (.tmp 18)=.slice A2 L2.length c2:=h1;replace h2:(fun z9 w=>SpR w z9 (L3.map dnM)) (ρ (.tmp 21)) w':=h2;replace h3:ρ (.tmp 22)=.int .i64 v:=h3;refine gx_gen (fun K hK=>?_);obtain ⟨hc,hf'⟩:=bcell (bdrewn hw'.out);go_simp
    obtain ⟨A,c,e,hs⟩:=h2;rw [e];(with_reducible refine (lineSizes_w A2 c2 L2 A c (L3.map dnM) v _ (HV2.out.keep (bdrewn hw'.out)) HF.out.v2 hs HF.out.s2 y0 y1).mono ?_);rintro e w1 ⟨⟨g,rfl,_,hr1⟩,hb1⟩;exact ⟨_,rfl,hK _ _ ⟨⟨_,_,rfl,hr1.nv⟩,hb1⟩⟩
   refine ⟨opOK_rx [(23,some 6)] (by kernel_rfl) rfl ?_,?_⟩
   ·intro act w' hw' h1;obtain ⟨hk,hf⟩:=evkf act;generalize act.eval=ρ at *;replace h1:(fun x w=>NRz w x L2.length (sizedM L2 (L3.map dnM) v)) (ρ (.tmp 23)) w':=h1;refine gx_gen (fun K hK=>?_);obtain ⟨hc,hf'⟩:=bcell (bdrewn hw'.out);go_simp;exact hK _ _ ⟨h1,Gr.refl _⟩
   exact trivial
  case hfin =>
   intro w2 hg2;intro v17 t17;replace t17:v17=.pointer (some ⟨w.heap.size,1,none⟩):=t17;subst t17;intro v18 t18;replace t18:v18=.slice A2 L2.length c2:=t18;subst t18;intro v19 t19;replace t19:v19=.pointer (some ⟨w.heap.size,2,none⟩):=t19;subst t19;intro v20 t20;replace t20:v20=.slice A3 L3.length c3:=t20;subst t20;intro v21 t21;replace t21:(fun z9 w=>SpR w z9 (L3.map dnM)) v21 w2:=t21
   intro v22 t22;replace t22:v22=.int .i64 v:=t22;subst t22;intro v23 t23;replace t23:(fun x w=>NRz w x L2.length (sizedM L2 (L3.map dnM) v)) v23 w2:=t23;intro v9 t9;replace t9:(fun x w=>NRz w x L2.length (sizedM L2 (L3.map dnM) v)) v9 w2:=t9;have hb2:=bdrewn hg2.out;clear hg2;simp only [finP,Act.put,List.setIfInBounds_toArray,List.set_cons_succ,List.set_cons_zero];obtain ⟨B2,e2,rfl,hn2⟩:=t9
   clear t21 t23 d0 d1 d2 lx;replace HX:=hbk hb2 HX;replace HN1:=hD (HN1.out.keep hb2);replace HB:=hD (bkeep2 HB.out hb2);clear hb2;have HN2:=hD hn2;clear hn2
   go_wp2_with fail
   with_reducible refine (edgesOf_w B1 e1 L1.length _ _ HN1.out HL1.out.symm (Nat.le_trans M1.out.2 (by omega)) M1.out.1).mono ?_
   rintro e w3 ⟨rfl,hi1,hb3⟩;replace HX:=hbk hb3 HX;replace HN2:=hD (HN2.out.keep hb3);replace HB:=hD (bkeep2 HB.out hb3);clear hb3;have HI1:=hD hi1.nv;clear hi1
   go_wp2_with fail
   with_reducible refine (edgesOf_w B2 e2 L2.length _ _ HN2.out HL2.out.symm (Nat.le_trans M2.out.2 (by omega)) M2.out.1).mono ?_
   rintro e w4 ⟨rfl,hi2,hb4⟩;replace HX:=hbk hb4 HX;replace HI1:=hD (HI1.out.keep hb4);replace HB:=hD (bkeep2 HB.out hb4);clear hb4;have HI2:=hD hi2.nv;clear hi2;go_wp2
   exact bodyPost_ret (v:=.tuple #[.slice (some ⟨w2.heap.size,0,none⟩) (L1.length+1) (L1.length+1),.slice (some ⟨w3.heap.size,0,none⟩) (L2.length+1) (L2.length+1)]) (by simp only [results,Tryz.results197];go_simp) rfl ⟨⟨_,_,_,_,rfl,HI1.out,HI2.out⟩,HB.out⟩
end
section
theorem stkS_in {x room wish:Int} {lo hi:Bool} (hr:0≤room) (hw:0≤wish):x≤(stkS x room wish lo hi).1∧(stkS x room wish lo hi).1+(stkS x room wish lo hi).2≤x+room∧0≤(stkS x room wish lo hi).2∧(wish≤room→wish≤(stkS x room wish lo hi).2):=by
 have hm:=mn_spec wish room
 cases lo <;> cases hi <;> simp [stkS] <;> omega
theorem ins_in {a:Re} {p q:Int} (hu:0≤a.u) (hv:0≤a.v) (hp:0≤p) (hq:0≤q) :
  (a.x≤(insR a p q).x∧(insR a p q).x+(insR a p q).u≤a.x+a.u∧0≤(insR a p q).u∧(2*p≤a.u→(insR a p q).u=a.u - 2*p)) ∧
  (a.y≤(insR a p q).y∧(insR a p q).y+(insR a p q).v≤a.y+a.v∧0≤(insR a p q).v∧(2*q≤a.v→(insR a p q).v=a.v - 2*q)):=by
 have h1:=mn_spec p (a.u / 2);have h2:=mn_spec q (a.v / 2);have h3:=mx_spec (a.u - 2*p) 0;have h4:=mx_spec (a.v - 2*q) 0;simp only [insR];omega
theorem cell_in {S1 S2:List Int} {c:Ce} (h1:∀ x ∈ S1,0≤x) (h2:∀ x ∈ S2,0≤x) (hc:smW c) :
  ((areaR S1 S2 c).x≤(cellR S1 S2 c).x∧(cellR S1 S2 c).x+(cellR S1 S2 c).u≤(areaR S1 S2 c).x+(areaR S1 S2 c).u∧0≤(cellR S1 S2 c).u∧(c.cw+2*c.px≤(areaR S1 S2 c).u→c.cw≤(cellR S1 S2 c).u)) ∧
  ((areaR S1 S2 c).y≤(cellR S1 S2 c).y∧(cellR S1 S2 c).y+(cellR S1 S2 c).v≤(areaR S1 S2 c).y+(areaR S1 S2 c).v∧0≤(cellR S1 S2 c).v∧(c.ch+2*c.py≤(areaR S1 S2 c).v→c.ch≤(cellR S1 S2 c).v)):=by
 obtain ⟨⟨b1,b2⟩,⟨b3,b4⟩,⟨b5,b6⟩,⟨b7,b8⟩⟩:=hc;have hu:0≤(areaR S1 S2 c).u:=sumI_nonneg (fun x hx=>h1 x (segI_mem hx));have hv:0≤(areaR S1 S2 c).v:=sumI_nonneg (fun x hx=>h2 x (segI_mem hx));obtain ⟨⟨i1,i2,i3,i4⟩,j1,j2,j3,j4⟩:=ins_in (p:=c.px) (q:=c.py) hu hv b5 b7
 have e1:=stkS_in (x:=(insR (areaR S1 S2 c) c.px c.py).x) (room:=(insR (areaR S1 S2 c) c.px c.py).u) (wish:=c.cw) (lo:=decide (c.sk % 2=1)) (hi:=decide (c.sk / 2 % 2=1)) i3 b1;have e2:=stkS_in (x:=(insR (areaR S1 S2 c) c.px c.py).y) (room:=(insR (areaR S1 S2 c) c.px c.py).v) (wish:=c.ch) (lo:=decide (c.sk / 4 % 2=1)) (hi:=decide (c.sk / 8=1)) j3 b3;simp only [cellR];omega
end
section
theorem fm_get {α β:Type} {f:α→Option β}:∀ {l:List α},(∀ x ∈ l,∃ y,f x=some y)→∀ j:Nat,(l.filterMap f)[j]?=(l[j]?).bind f
 | [],_,j=>by simp
 | x :: t,h,j=>by
  obtain ⟨y,hy⟩:=h x List.mem_cons_self;rw [List.filterMap_cons_some hy]
  cases j with
  | zero=>simp [hy]
  | succ j=>simpa using fm_get (fun z hz=>h z (List.mem_cons_of_mem _ hz)) j
theorem fm_len {α β:Type} {f:α→Option β}:∀ {l:List α},(∀ x ∈ l,∃ y,f x=some y)→(l.filterMap f).length=l.length
 | [],_=>rfl
 | x :: t,h=>by
  obtain ⟨y,hy⟩:=h x List.mem_cons_self;rw [List.filterMap_cons_some hy,List.length_cons,List.length_cons,fm_len (fun z hz=>h z (List.mem_cons_of_mem _ hz))]
def plsF (L:List Nd) (ks:List Nat):List Plc:=ks.filterMap fun k=>(L[k]?).map fun m=>m.pl
def rcRe (r:Rc):Re:=⟨r.x,r.y,r.u,r.v⟩
def plR (u v:Int) (p:Plc):Re:=⟨xM p u,yM p v,wM p u,hM p v⟩
def kidR0 (L:List Nd) (i:Nat) (n:Nd) (u v:Int):List Re :=
 if n.ki=1 then (cesF L (szM L) (kidD L i)).map (cellR (sizedM n.cs ((cesF L (szM L) (kidD L i)).map acM) u) (sizedM n.rs ((cesF L (szM L) (kidD L i)).map dnM) v))
 else if n.ki=2 then (plsF L (kidD L i)).map (plR u v)
 else (setL (pksF L (szM L) (kidD L i)) (parcM (pksF L (szM L) (kidD L i)) ⟨0,0,u,v⟩).1).map rcRe
def kidR (L:List Nd) (i:Nat) (n:Nd) (r:Re):List Re:=(kidR0 L i n r.u r.v).map fun q=>q.at r.x r.y
theorem kid_some {L:List Nd} {ks:List Nat} (hk:∀ k ∈ ks,k<L.length) {β:Type} (g:Nat→Nd→β):∀ k ∈ ks,∃ y,(L[k]?).map (g k)=some y:=fun k h=>⟨_,by rw [List.getElem?_eq_getElem (hk k h)];rfl⟩
theorem plsF_len {L:List Nd} {ks:List Nat} (hk:∀ k ∈ ks,k<L.length):(plsF L ks).length=ks.length:=fm_len (kid_some hk fun _ m=>m.pl)
theorem kidR0_len (L:List Nd) (i:Nat) (n:Nd) (u v:Int):(kidR0 L i n u v).length=(kidD L i).length:=by
 have hk:∀ k ∈ kidD L i,k<L.length:=fun k h=>kidD_lt h
 unfold kidR0
 split
 ·rw [List.length_map,cesF_all hk]
 ·split
  ·rw [List.length_map,plsF_len hk]
  ·rw [List.length_map,setL_len parcM_len,pksF_all hk]
theorem kidR_len (L:List Nd) (i:Nat) (n:Nd) (r:Re):(kidR L i n r).length=(kidD L i).length:=by unfold kidR;rw [List.length_map,kidR0_len]
def posN (k:Nat):List Nat→Nat
 | []=>0
 | x :: t=>if x=k then 0 else posN k t+1
theorem posN_get {k:Nat}:∀ {l:List Nat} {j:Nat},l.Pairwise (· < ·)→l[j]?=some k→posN k l=j
 | [],j,_,h=>by simp at h
 | x :: t,0,_,h=>by
  simp at h
  simp [posN,h]
 | x :: t,j+1,hp,h=>by
  have h':t[j]?=some k:=by simpa using h
  have hx:=(List.pairwise_cons.1 hp).1 k (List.mem_of_getElem? h')
  have:=posN_get (List.pairwise_cons.1 hp).2 h'
  unfold posN;rw [if_neg (by omega),this]
theorem kidD_asc (L:List Nd) (i:Nat):(kidD L i).Pairwise (· < ·):=by
 unfold kidD idsN;exact List.pairwise_lt_range.filter _
def lrF (L:List Nd) (w h:Int):Nat→Nat→Re
 | 0,_=>⟨0,0,w,h⟩
 | f+1,i=>match L[i]? with
  | none=>⟨0,0,w,h⟩
  | some m=>if i=0 then ⟨0,0,w,h⟩ else match L[m.pa.toNat]? with
   | none=>⟨0,0,w,h⟩
   | some n=>((kidR L m.pa.toNat n (lrF L w h f m.pa.toNat))[posN i (kidD L m.pa.toNat)]?).getD ⟨0,0,w,h⟩
def lrM (L:List Nd) (w h:Int) (i:Nat):Re:=lrF L w h (i+1) i
theorem lrM_zero (L:List Nd) (w h:Int):lrM L w h 0=⟨0,0,w,h⟩:=by
 show lrF L w h 1 0=_
 cases hn:L[0]? with
 | none=>simp only [lrF,hn]
 | some m=>simp only [lrF,hn,if_true]
theorem lrF_fuel {L:List Nd} (hT:TrOK L) (w h:Int):∀ (f g i:Nat),i<f→i<g→lrF L w h f i=lrF L w h g i:=by
 intro f
 induction f with
 | zero=>intro g i h1;omega
 | succ f ih =>
  intro g i h1 h2
  cases g with
  | zero=>omega
  | succ g =>
   cases hn:L[i]? with
   | none=>simp only [lrF,hn]
   | some m =>
    simp only [lrF,hn]
    by_cases h0:i=0
    ·rw [if_pos h0,if_pos h0]
    ·rw [if_neg h0,if_neg h0]
     have hp:m.pa.toNat<i:=by
      rcases hT.up i m hn with ⟨e,_⟩ | ⟨_,h3,h4⟩
      ·exact absurd e h0
      ·omega
     rw [ih g m.pa.toNat (by omega) (by omega)]
theorem lrM_kid {L:List Nd} (hT:TrOK L) {w h:Int} {p j k:Nat} {n:Nd} (hn:L[p]?=some n) (hk:(kidD L p)[j]?=some k) {q:Re} (hq:(kidR L p n (lrM L w h p))[j]?=some q):lrM L w h k=q:=by
 have hmem:=List.mem_of_getElem? hk
 obtain ⟨m,hm⟩:∃ m,L[k]?=some m:=⟨_,List.getElem?_eq_getElem (kidD_lt hmem)⟩
 have hpa:=kidD_pa hmem hm;have hgt:=kid_gt hT hmem
 have ep:m.pa.toNat=p:=by omega
 show lrF L w h (k+1) k=q
 simp only [lrF,hm];rw [if_neg (by omega),ep];simp only [hn];rw [posN_get (kidD_asc L p) hk,lrF_fuel hT w h k (p+1) p (by omega) (by omega)]
 show ((kidR L p n (lrM L w h p))[j]?).getD _=q
 rw [hq]
 rfl
theorem kid_of {L:List Nd} (hT:TrOK L) {k:Nat} (h0:0<k) (hk:k<L.length):∃ (p j:Nat) (n:Nd),p<k∧L[p]?=some n∧(kidD L p)[j]?=some k:=by
 obtain ⟨m,hm⟩:∃ m,L[k]?=some m:=⟨_,List.getElem?_eq_getElem hk⟩
 rcases hT.up k m hm with ⟨e,_⟩ | ⟨_,h3,h4⟩
 ·omega
 ·obtain ⟨j,hj⟩:=List.getElem?_of_mem (kidD_mem (i:=m.pa.toNat) hm (by omega));exact ⟨m.pa.toNat,j,L[m.pa.toNat]'(by omega),by omega,List.getElem?_eq_getElem (by omega),hj⟩
theorem cutP_innW {r:Rc} {s n:Int} (hr:r.okW) (hn:0≤n):r.inn (cutP r s n).1∧r.inn (cutP r s n).2:=by
 obtain ⟨⟨⟨a1,a2⟩,a3,a4⟩,⟨a5,a6⟩,a7,a8⟩:=hr;have m1:=mn_spec n r.u;have m2:=mn_spec n r.v;unfold cutP Rc.inn
 split
 ·dsimp only;omega
 ·split
  ·dsimp only;omega
  ·split
   ·dsimp only;omega
   ·dsimp only;omega
theorem parcM_inW:∀ {L:List Pk} {z:Rc},(∀ p ∈ L,p.big)→z.okW→∀ r ∈ (parcM L z).1,z.inn r∧r.okW
 | [],z,_,_,r,hr=>by simp [parcM] at hr
 | p :: t,z,hL,hz,r,hr=>by
  have tk:=takeOf_bdW hL hz;obtain ⟨o1,o2⟩:=cutP_okW (s:=p.s) (n:=takeOf p t z) hz tk.1;obtain ⟨i1,i2⟩:=cutP_innW (s:=p.s) hz tk.1;simp only [parcM,List.mem_cons] at hr
  rcases hr with rfl | hr
  ·exact ⟨i1,o1⟩
  ·obtain ⟨j1,j2⟩:=parcM_inW (fun q hq=>hL q (List.mem_cons_of_mem _ hq)) o2 r hr;exact ⟨Rc.inn_trans i2 j1,j2⟩
theorem setP_innW {p:Pk} {r:Rc} (h:p.big) (hr:r.okW):r.inn (setP p r)∧0≤(setP p r).u∧0≤(setP p r).v:=by
 obtain ⟨⟨⟨a1,a2⟩,a3,a4⟩,⟨a5,a6⟩,a7,a8⟩:=hr;obtain ⟨h1,h2,_,h4,h5,h6⟩:=h;have m1:=mn_spec p.px (r.u / 2);have m2:=mn_spec p.py (r.v / 2);have m3:=mx_spec (r.u - 2*p.px) 0;have m4:=mx_spec (r.v - 2*p.py) 0
 have f1:wP p r=p.w ∨ wP p r=mx (r.u - 2*p.px) 0:=by unfold wP;split;exact .inr rfl;exact .inl rfl
 have f2:hP p r=p.h ∨ hP p r=mx (r.v - 2*p.py) 0:=by unfold hP;split;exact .inr rfl;exact .inl rfl
 have n1:=mn_spec (wP p r) (mx (r.u - 2*p.px) 0);have n2:=mn_spec (hP p r) (mx (r.v - 2*p.py) 0);have e1:=half_bdW (s:=mx (r.u - 2*p.px) 0 - mn (wP p r) (mx (r.u - 2*p.px) 0)) (k:=p.an % 3) (by omega) (by omega) (by omega);have e2:=half_bdW (s:=mx (r.v - 2*p.py) 0 - mn (hP p r) (mx (r.v - 2*p.py) 0)) (k:=p.an / 3) (by omega) (by omega) (by omega);unfold Rc.inn
 show (r.x≤r.x+mn p.px (r.u / 2)+(mx (r.u - 2*p.px) 0 - mn (wP p r) (mx (r.u - 2*p.px) 0))*(p.an % 3) / 2∧r.y≤r.y+mn p.py (r.v / 2)+(mx (r.v - 2*p.py) 0 - mn (hP p r) (mx (r.v - 2*p.py) 0))*(p.an / 3) / 2∧r.x+mn p.px (r.u / 2)+(mx (r.u - 2*p.px) 0 - mn (wP p r) (mx (r.u - 2*p.px) 0))*(p.an % 3) / 2+mn (wP p r) (mx (r.u - 2*p.px) 0)≤r.x+r.u∧r.y+mn p.py (r.v / 2)+(mx (r.v - 2*p.py) 0 - mn (hP p r) (mx (r.v - 2*p.py) 0))*(p.an / 3) / 2+mn (hP p r) (mx (r.v - 2*p.py) 0)≤r.y+r.v)∧0≤mn (wP p r) (mx (r.u - 2*p.px) 0)∧0≤mn (hP p r) (mx (r.v - 2*p.py) 0)
 omega
theorem setL_mem {L:List Pk} {M:List Rc} {j:Nat} {q:Rc} (h:(setL L M)[j]?=some q):∃ p r,L[j]?=some p∧M[j]?=some r∧q=setP p r:=by
 unfold setL at h;rw [List.getElem?_zipWith] at h
 cases hp:L[j]? with
 | none=>rw [hp] at h;simp at h
 | some p =>
  cases hr:M[j]? with
  | none=>rw [hp,hr] at h;simp at h
  | some r=>rw [hp,hr] at h;simp at h;exact ⟨p,r,rfl,rfl,h.symm⟩
theorem gw_of {L:List Nd} (hT:TrOK L) {i:Nat} {n:Nd} (hn:L[i]?=some n) (h1:n.ki=1):GW n.cs n.rs (cesF L (szM L) (kidD L i)):=by
 obtain ⟨z1,z2,z3,z4⟩:=ces_w hT hn h1;obtain ⟨v1,v2⟩:=hT.li i n hn h1;have hp:=ce_bd hT hn h1 (fun k _=>szM_bd hT k);exact ⟨v1,v2,z4,z1,z2,z3,(linesB_len v1).2,(linesB_len v2).2,fun p hm=>⟨(hp p hm).2.2.1,(hp p hm).2.2.2.1,(hp p hm).2.2.2.2⟩⟩
theorem pls_mem {L:List Nd} (hT:TrOK L) {ks:List Nat}:∀ p ∈ plsF L ks,plB p=true:=fun p hp=>by
 obtain ⟨k,hk,e⟩:=List.mem_filterMap.1 hp
 cases hm:L[k]? with
 | none=>rw [hm] at e;cases e
 | some m=>rw [hm] at e;obtain rfl:=Option.some.inj e;exact hT.pl k m hm
theorem bg_of {L:List Nd} (hT:TrOK L) (i:Nat):bgL (pksF L (szM L) (kidD L i)):=⟨pks_big hT _,Nat.le_trans (pksF_len _ _ _) (Nat.le_trans (kidD_len _ _) hT.l10)⟩
theorem kidR0_bd {L:List Nd} (hT:TrOK L) {i:Nat} {n:Nd} (hn:L[i]?=some n) {u v:Int} (hu:0≤u∧u≤20000000000000) (hv:0≤v∧v≤20000000000000) {j:Nat} {q:Re} (hq:(kidR0 L i n u v)[j]?=some q) :
  ((0≤q.u∧(q.u≤u+300 ∨ q.u≤10000000000350))∧(-(u+600)≤q.x∧(q.x≤u+300 ∨ q.x≤10000000000350)))∧((0≤q.v∧(q.v≤v+300 ∨ q.v≤10000000000350))∧(-(v+600)≤q.y∧(q.y≤v+300 ∨ q.y≤10000000000350))):=by
 unfold kidR0 at hq
 split at hq
 ·rename_i h1
  have gw:=gw_of hT hn h1;rw [List.getElem?_map] at hq;obtain ⟨c,hc,rfl⟩:=Option.map_eq_some_iff.1 hq;have hm:=List.mem_of_getElem? hc;have hs:=gw.hsm c hm;obtain ⟨p1,p2,-⟩:=gw.hin c hm;have s1:=sized_okW gw.v1 gw.s1 hu.1 hu.2;have s2:=sized_okW gw.v2 gw.s2 hv.1 hv.2;have w1:=(wish_okW gw.v1 gw.s1).2.2.2.2;have w2:=(wish_okW gw.v2 gw.s2).2.2.2.2
  obtain ⟨S1,e1⟩:∃ S,sizedM n.cs ((cesF L (szM L) (kidD L i)).map acM) u=S:=⟨_,rfl⟩
  obtain ⟨S2,e2⟩:∃ S,sizedM n.rs ((cesF L (szM L) (kidD L i)).map dnM) v=S:=⟨_,rfl⟩
  rw [e1] at s1;rw [e2] at s2;rw [e1,e2];obtain ⟨-,l1,x1,b1⟩:=s1;obtain ⟨-,l2,x2,b2⟩:=s2
  have n1:∀ x ∈ S1,0≤x:=fun x hx=>(x1 x hx).1
  have n2:∀ x ∈ S2,0≤x:=fun x hx=>(x2 x hx).1
  obtain ⟨c1,c2⟩:=cell_in n1 n2 hs;have t1:=take_seg S1 c.co.toNat c.mc.toNat;have t2:=take_seg S2 c.ro.toNat c.mr.toNat;have u1:=sum_take_bd n1 c.co.toNat;have u2:=sum_take_bd n1 (c.co.toNat+c.mc.toNat);have u3:=sum_take_bd n2 c.ro.toNat;have u4:=sum_take_bd n2 (c.ro.toNat+c.mr.toNat);have a1:(areaR S1 S2 c).x=sumI (S1.take c.co.toNat):=rfl;have a2:(areaR S1 S2 c).y=sumI (S2.take c.ro.toNat):=rfl
  have a3:(areaR S1 S2 c).u=sumI (segI S1 c.co.toNat c.mc.toNat):=rfl;have a4:(areaR S1 S2 c).v=sumI (segI S2 c.ro.toNat c.mr.toNat):=rfl;omega
 ·split at hq
  ·rw [List.getElem?_map] at hq;obtain ⟨c,hc,rfl⟩:=Option.map_eq_some_iff.1 hq;have hp:=pls_mem hT c (List.mem_of_getElem? hc);have hr:rqW u v=true:=rqW_iff.2 ⟨hu,hv⟩;have b1:=wM_le hp hr;have b2:=hM_le hp hr;have b3:=xM_le hp hr;have b4:=yM_le hp hr;simp only [plR];omega
  ·rw [List.getElem?_map] at hq;obtain ⟨c,hc,rfl⟩:=Option.map_eq_some_iff.1 hq;obtain ⟨p,r,hp,hr,rfl⟩:=setL_mem hc;have hbg:=(bg_of hT i).1
   have hz:(⟨0,0,u,v⟩:Rc).okW:=by unfold Rc.okW;dsimp only;omega
   obtain ⟨i1,i2⟩:=parcM_inW hbg hz r (List.mem_of_getElem? hr);obtain ⟨k1,k2,k3⟩:=setP_innW (hbg p (List.mem_of_getElem? hp)) i2;have k4:=Rc.inn_trans i1 k1;unfold Rc.inn at k4
   dsimp only at k4
   simp only [rcRe];omega
def LyOK (i:Nat) (r:Re):Prop:=((0≤r.u∧r.u≤10000000000350+300*(i:Int))∧(0≤r.v∧r.v≤10000000000350+300*(i:Int)))∧((-(30000000000000*(i:Int))≤r.x∧r.x≤30000000000000*(i:Int))∧(-(30000000000000*(i:Int))≤r.y∧r.y≤30000000000000*(i:Int)))
theorem kidR_ok {L:List Nd} (hT:TrOK L) {p j k:Nat} {n:Nd} {r q:Re} (hn:L[p]?=some n) (hr:LyOK p r) (hk:p<k) (hp:p≤10) (hq:(kidR L p n r)[j]?=some q):LyOK k q:=by
 unfold kidR at hq;rw [List.getElem?_map] at hq;obtain ⟨c,hc,rfl⟩:=Option.map_eq_some_iff.1 hq;obtain ⟨⟨r1,r2⟩,r3,r4⟩:=hr;have hb:=kidR0_bd hT hn (by omega) (by omega) hc;unfold LyOK Re.at
 dsimp only
 omega
theorem lrM_ok {L:List Nd} (hT:TrOK L) {w h:Int} (hw:0≤w∧w≤400) (hh:0≤h∧h≤400):∀ (f i:Nat),i<f→i<L.length→LyOK i (lrM L w h i):=by
 intro f
 induction f with
 | zero=>intro i hi;omega
 | succ f ih =>
  intro i hi hl
  by_cases h0:i=0
  ·subst h0;rw [lrM_zero];unfold LyOK
   dsimp only
   omega
  ·obtain ⟨p,j,n,hp,hn,hj⟩:=kid_of hT (by omega) hl
   have hj2:j<(kidR L p n (lrM L w h p)).length:=by rw [kidR_len];exact (List.getElem?_eq_some_iff.1 hj).1
   have hq:=List.getElem?_eq_getElem hj2;rw [lrM_kid hT hn hj hq];exact kidR_ok hT hn (ih p (by omega) (by omega)) hp (by have:=hT.l10;omega) hq
theorem lrM_room {L:List Nd} (hT:TrOK L) {w h:Int} (hw:0≤w∧w≤400) (hh:0≤h∧h≤400) {i:Nat} (hl:i<L.length):rqW (lrM L w h i).u (lrM L w h i).v=true∧(-1000000000000000≤(lrM L w h i).x∧(lrM L w h i).x+(lrM L w h i).u≤1000000000000000)∧(-1000000000000000≤(lrM L w h i).y∧(lrM L w h i).y+(lrM L w h i).v≤1000000000000000):=by
 obtain ⟨⟨r1,r2⟩,r3,r4⟩:=lrM_ok hT hw hh (i+1) i (by omega) hl
 have:=hT.l10
 exact ⟨rqW_iff.2 ⟨by omega,by omega⟩,by omega,by omega⟩
theorem setP_at (p:Pk) (r:Rc) (x y:Int):setP p (r.at x y)=(setP p r).at x y:=by
 have e1:wP p (r.at x y)=wP p r:=rfl;have e2:hP p (r.at x y)=hP p r:=rfl;unfold setP;rw [e1,e2];simp only [ancP,insP,Rc.at,Rc.mk.injEq,and_true];omega
theorem setL_at:∀ (L:List Pk) (M:List Rc) (x y:Int),setL L (M.map (·.at x y))=(setL L M).map (·.at x y)
 | [],M,x,y=>by simp [setL]
 | p :: t,[],x,y=>by simp [setL]
 | p :: t,r :: s,x,y=>by
  have:=setL_at t s x y
  simp only [setL,List.map_cons,List.zipWith_cons_cons,setP_at,List.cons.injEq,true_and] at this ⊢;exact this
theorem kidR_pk {L:List Nd} {i:Nat} {n:Nd} (r:Re) (h1:n.ki ≠ 1) (h2:n.ki ≠ 2):kidR L i n r=(setL (pksF L (szM L) (kidD L i)) (parcM (pksF L (szM L) (kidD L i)) ⟨r.x,r.y,r.u,r.v⟩).1).map rcRe:=by
 have e:(⟨r.x,r.y,r.u,r.v⟩:Rc)=(⟨0,0,r.u,r.v⟩:Rc).at r.x r.y:=by simp [Rc.at]
 unfold kidR kidR0;rw [if_neg h1,if_neg h2,e,parcM_at,setL_at,List.map_map,List.map_map]
 rfl
theorem kidR_gr {L:List Nd} {i:Nat} {n:Nd} (r:Re) (h1:n.ki=1):kidR L i n r=(cesF L (szM L) (kidD L i)).map (cellT (sizedM n.cs ((cesF L (szM L) (kidD L i)).map acM) r.u) (sizedM n.rs ((cesF L (szM L) (kidD L i)).map dnM) r.v) r.x r.y):=by
 unfold kidR kidR0;rw [if_pos h1,List.map_map]
 rfl
theorem kidR_pl {L:List Nd} {i:Nat} {n:Nd} (r:Re) (h2:n.ki=2):kidR L i n r=(plsF L (kidD L i)).map fun p=>⟨r.x+xM p r.u,r.y+yM p r.v,wM p r.u,hM p r.v⟩:=by
 unfold kidR kidR0;rw [if_neg (by omega),if_pos h2,List.map_map]
 refine List.map_congr_left fun p _=>?_
 simp only [Function.comp,plR,Re.at,Int.add_comm]
end
section
theorem each_pr (A:Option Addr) (c:Nat) (R:List (List Value)) (U:List Value→List Value) (caps:Array Value) (w:World) (h:RvK 9 w A R) (hl:∀ vs ∈ R,vs.length=9∧one vs) (hL:R.length≤1048576) (hU:∀ vs ∈ R,(U vs).length=4∧one (U vs))
  (hf:∀ vs ∈ R,∀ W,Below w.heap.size w W→Calls Tryz.prog 223 (#[.agg vs.toArray] ++ caps) W fun e W'=>e=.returned (.agg (U vs).toArray)∧Below W.heap.size W W') :
  Calls Tryz.prog 222 #[.slice A R.length c,.func (.func 223) #[] caps] w fun e w'=>e=.returned (.slice (some ⟨w.heap.size,0,none⟩) R.length R.length)∧RbK 4 w' w.heap.size 45 (R.map U)∧Below w.heap.size w w':=by
 obtain ⟨fm,hfm,hmk0⟩:=made_Rect;have HR:=hD (show ∀ vs ∈ R.map U,vs.length=4 from fun vs hv=>by obtain ⟨us,hu,rfl⟩:=List.mem_map.1 hv;exact (hU us hu).1);have HU:=hD hU;have HF:=hD hf;have HH:=hD h;have HL:=hD hl;have HFM:=hD hfm;clear hU hf h hfm hl;refine calls_abs Tryz.func222 rfl 26 (by simp only [Tryz.ntmps222]) (by simp) (fun t hsz hargs=>?_)
 have q0:t[0]?=some (.slice A R.length c):=get_of (by omega) (hargs 0 _ rfl);have q1:t[1]?=some (.func (.func 223) #[] caps):=get_of (by omega) (hargs 1 _ rfl);clear hargs;obtain ⟨l0,e0⟩:=gE q0;obtain ⟨l1,e1⟩:=gE q1
 refine wp_seq_h fun K hK=>?_
 apply wp_region_lit
 repeat (first | go_step)
 refine hK.out _ _ ?_;clear hK K;refine wp_abw (fun t' W'=>t'.size=26∧t'[0]?=some (.slice A R.length c)∧t'[1]?=some (.func (.func 223) #[] caps)∧w=W') ⟨by simp [Act.put,hsz],by simp [Act.put,q0],by simp [Act.put,q1],rfl⟩ ?_;clear hsz q0 l0 e0 q1 l1 e1 t;rintro t _ ⟨hsz,q0,q1,rfl⟩;have hmk:=hmk0 R.length w hL;clear hmk0;obtain ⟨l0,e0⟩:=gE q0;obtain ⟨l1,e1⟩:=gE q1
 refine wp_seq_h fun K hK=>?_
 apply wp_region_lit
 repeat (first | go_step)
 refine hK.out _ _ ?_;clear hK K
 refine wp_abw (fun t' W'=>t'.size=26∧t'[0]?=some (.slice A R.length c)∧t'[1]?=some (.func (.func 223) #[] caps)∧t'[5]?=some (.slice (some ⟨w.heap.size,0,none⟩) R.length R.length)∧RpK 4 W' w.heap.size 45 R.length 0 (R.map U)∧Below w.heap.size w W') ⟨by simp [Act.put,hsz],by simp [Act.put,q0],by simp [Act.put,q1],by simp [Act.put,hsz],⟨RpK.new _ (HFM.out _),balloc (Below.refl _ _)⟩⟩ ?_
 clear hsz q0 l0 e0 q1 l1 e1 t hmk;rintro t W0 ⟨hsz,q0,q1,q5,hP,hB⟩
 refine wp_seq_h fun KE hKE=>?_
 obtain ⟨l0,e0⟩:=gE q0;obtain ⟨l1,e1⟩:=gE q1;obtain ⟨l5,e5⟩:=gE q5
 refine wp_seq_h fun K hK=>?_
 apply wp_region_lit
 repeat (first | go_step)
 refine hK.out _ _ ?_;clear hK K
 refine wp_abw (fun t' W'=>t'.size=26∧t'[1]?=some (.func (.func 223) #[] caps)∧t'[5]?=some (.slice (some ⟨w.heap.size,0,none⟩) R.length R.length)∧t'[11]?=some (.slice A R.length c)∧t'[12]?=some (.int .i64 (R.length:Int))∧t'[13]?=some (.int .i64 ((0:Nat):Int))∧W0=W') ⟨by simp [Act.put,hsz],by simp [Act.put,q1],by simp [Act.put,q5],by simp [Act.put,hsz],by simp [Act.put,hsz],by simp [Act.put,hsz],rfl⟩ ?_
 clear hsz q0 l0 e0 q1 l1 e1 q5 l5 e5 t;rintro t _ ⟨hsz,q1,q5,q11,q12,q13,rfl⟩;apply wp_block
 refine wp_loop (fun a W=>∃ (t:Array Value) (k:Nat),a=⟨t,[]⟩∧k≤R.length∧t.size=26∧t[1]?=some (.func (.func 223) #[] caps)∧t[5]?=some (.slice (some ⟨w.heap.size,0,none⟩) R.length R.length)∧t[11]?=some (.slice A R.length c)∧t[12]?=some (.int .i64 (R.length:Int))∧t[13]?=some (.int .i64 (k:Int))∧RpK 4 W w.heap.size 45 R.length k (R.map U)∧Below w.heap.size w W) (fun a _=>R.length - (intOf (a.tmps.getD 13 undef)).toNat) ⟨t,0,rfl,by omega,hsz,q1,q5,q11,q12,q13,hP,hB⟩ ?_
 clear t hsz q1 q5 q11 q12 q13 hP hB W0;rintro a W ⟨t,k,rfl,hk,hsz,q1,q5,q11,q12,q13,hP,hB⟩
 have hmu:intOf (t.getD 13 undef)=(k:Int):=by rw [Array.getD_eq_getD_getElem?,q13];rfl
 dsimp only
 rw [hmu];clear hmu;have HP:=hD hP;have HB:=hD hB;clear hP hB
 by_cases hlt:k<R.length
 ·have hd:decide ((k:Int)<(R.length:Int))=true:=by simpa using hlt
  obtain ⟨l1,e1⟩:=gE q1;obtain ⟨l5,e5⟩:=gE q5;obtain ⟨l11,e11⟩:=gE q11;obtain ⟨l12,e12⟩:=gE q12;obtain ⟨l13,e13⟩:=gE q13
  refine wp_seq_h fun K hK=>?_
  apply wp_region_lit
  repeat (first | go_step)
  refine hK.out _ _ ?_;clear hK K
  refine wp_abw (fun t' W'=>t'.size=26∧t'[1]?=some (.func (.func 223) #[] caps)∧t'[5]?=some (.slice (some ⟨w.heap.size,0,none⟩) R.length R.length)∧t'[11]?=some (.slice A R.length c)∧t'[12]?=some (.int .i64 (R.length:Int))∧t'[13]?=some (.int .i64 (k:Int))∧t'[14]?=some (.bool true)∧W=W') ⟨by simp [Act.put,hsz],by simp [Act.put,q1],by simp [Act.put,q5],by simp [Act.put,q11],by simp [Act.put,q12],by simp [Act.put,q13],by simp [Act.put,hsz,hd],rfl⟩ ?_
  clear hsz q1 l1 e1 q5 l5 e5 q11 l11 e11 q12 l12 e12 q13 l13 e13 t;rintro t _ ⟨hsz,q1,q5,q11,q12,q13,q14,rfl⟩;clear hd
  refine wp_seq_h fun K1 hK1=>?_
  refine wp_cond_true (by simp [Act.eval,q14]) ?_;apply wp_skip;simp only [Exit.then];refine hK1.out _ _ ?_;clear hK1 K1 q14
  refine wp_seq_h fun KB hKB=>?_
  apply wp_block;have hget:R[k]?=some R[k]:=List.getElem?_eq_getElem hlt;obtain ⟨b,off,rfl,hb,hps⟩:=(HH.out.keep HB.out) (by omega);have hc:=hps k _ hget;have hll:=HL.out _ (List.mem_of_getElem? hget);obtain ⟨hlv,hov⟩:=hll;have hUv:=HU.out _ (List.mem_of_getElem? hget);obtain ⟨hul,huo⟩:=hUv;have hfv:=HF.out _ (List.mem_of_getElem? hget)
  have hmv:(R.map U)[k]?=some (U R[k]):=by rw [List.getElem?_map,hget];rfl
  obtain ⟨x,hx⟩:∃ x,R[k]=x:=⟨_,rfl⟩
  rw [hx] at hc hlv hov hul huo hfv hmv;have HC:=hD hc;have HLV:=hD hlv;have HOV:=hD hov;have HUL:=hD hul;have HUO:=hD huo;have HFV:=hD hfv;have HMV:=hD hmv;clear hget hps hc hlv hov hul huo hfv hmv hx
  have hd1:(k:Int)<(R.length:Int):=by omega
  obtain ⟨l1,e1⟩:=gE q1;obtain ⟨l5,e5⟩:=gE q5;obtain ⟨l11,e11⟩:=gE q11;obtain ⟨l12,e12⟩:=gE q12;obtain ⟨l13,e13⟩:=gE q13
  refine wp_seq_h fun K hK=>?_
  apply wp_region_lit
  repeat (first | ((with_reducible show wpList _ _ _ _ _ _);refine ldK 82 _ x b (off+k*9) rfl rfl HC.out Tryz.underlying82 rfl (by rw [HLV.out];exact inf_Place) (by simp [Act.eval,hsz]) ?_) | ((with_reducible show wpList _ _ _ _ _ _);refine allocK 82 9 rfl rfl infz_Place (fun z hz=>?_)) | ((with_reducible show wpList _ _ _ _ _ _);refine stK 82 (.tmp 7) _ x W.heap.size 0 rfl rfl (thereB (newS _ _) (by rw [HLV.out,hz];omega)) (by rw [HLV.out];exact inf_Place) HOV.out (by simp [Act.eval,hsz]) (by simp [Act.eval,hsz]) ?_) | go_step)
  refine hK.out _ _ ?_;clear hK K
  refine wp_abw (fun t' W'=>t'.size=26∧t'[1]?=some (.func (.func 223) #[] caps)∧t'[5]?=some (.slice (some ⟨w.heap.size,0,none⟩) R.length R.length)∧t'[6]?=some (.int .i64 (k:Int))∧t'[7]?=some (.pointer (some ⟨W.heap.size,0,none⟩))∧t'[11]?=some (.slice (some ⟨b,off,none⟩) R.length c)∧t'[12]?=some (.int .i64 (R.length:Int))∧t'[13]?=some (.int .i64 (k:Int))∧W'.rangeAt W.heap.size 0 x∧Below W.heap.size W W') ⟨by simp [Act.put,hsz],by simp [Act.put,q1],by simp [Act.put,q5],by simp [Act.put,hsz],by simp [Act.put,hsz],by simp [Act.put,q11],by simp [Act.put,q12],by simp [Act.put,q13],⟨World.rangeAt_setCells_same _ _ _ _ (thereB (newS _ _) (by rw [HLV.out,hz];omega)),below_setCells (Nat.le_refl _) _ _ _ (balloc (Below.refl _ _))⟩⟩ ?_
  clear hsz q1 l1 e1 q5 l5 e5 q11 l11 e11 q12 l12 e12 q13 l13 e13 t hd1 z hz;rintro t W1 ⟨hsz,q1,q5,q6,q7,q11,q12,q13,hx1,hb1⟩;have HX1:=hD hx1;have hwg:=HP.out.lt;replace HP:=hD (HP.out.keep hb1);replace HB:=hD (bkeep2 HB.out hb1);clear hx1 hb1 HC
  have hd1:(k:Int)<(R.length:Int):=by omega
  obtain ⟨l1,e1⟩:=gE q1;obtain ⟨l5,e5⟩:=gE q5;obtain ⟨l6,e6⟩:=gE q6;obtain ⟨l7,e7⟩:=gE q7;obtain ⟨l11,e11⟩:=gE q11;obtain ⟨l12,e12⟩:=gE q12;obtain ⟨l13,e13⟩:=gE q13;apply wp_region_lit
  repeat (first | ((with_reducible show wpList _ _ _ _ _ _);refine ldK 82 _ x W.heap.size 0 rfl rfl HX1.out Tryz.underlying82 rfl (by rw [HLV.out];exact inf_Place) (by simp [Act.eval,hsz,e7]) ?_) | go_step)
  refine (HFV.out _ HB.out).mono ?_;rintro e W2 ⟨rfl,hb2⟩
  dsimp only
  have hth:W2.there w.heap.size (k*4) (U x).length:=by rw [HUL.out];exact (HP.out.keep hb2).there hlt
  repeat (first | ((with_reducible show wpList _ _ _ _ _ _);refine stK 45 _ _ (U x) w.heap.size (k*4) rfl rfl hth (by rw [HUL.out];exact inf_Rect) HUO.out (by simp [Act.eval,hsz,hd1]) (by simp [Act.eval,hsz]) ?_) | go_step)
  try simp only [Exit.inBlock]
  refine hKB.out _ _ ?_;clear hKB KB
  refine wp_abw (fun t' W'=>t'.size=26∧t'[1]?=some (.func (.func 223) #[] caps)∧t'[5]?=some (.slice (some ⟨w.heap.size,0,none⟩) R.length R.length)∧t'[11]?=some (.slice (some ⟨b,off,none⟩) R.length c)∧t'[12]?=some (.int .i64 (R.length:Int))∧t'[13]?=some (.int .i64 (k:Int))∧RpK 4 W' w.heap.size 45 R.length (k+1) (R.map U)∧Below w.heap.size w W') ⟨by simp [Act.put,hsz],by simp [Act.put,q1],by simp [Act.put,q5],by simp [Act.put,q11],by simp [Act.put,q12],by simp [Act.put,q13],⟨(HP.out.keep hb2).step HR.out HMV.out hlt,below_setCells (Nat.le_refl _) _ _ _ (bkeep2 HB.out hb2)⟩⟩ ?_
  clear hsz q1 l1 e1 q5 l5 e5 q6 l6 e6 q7 l7 e7 q11 l11 e11 q12 l12 e12 q13 l13 e13 t hth hb2 HP HB hd1;rintro t W3 ⟨hsz,q1,q5,q11,q12,q13,hP,hB⟩;obtain ⟨l1,e1⟩:=gE q1;obtain ⟨l5,e5⟩:=gE q5;obtain ⟨l11,e11⟩:=gE q11;obtain ⟨l12,e12⟩:=gE q12;obtain ⟨l13,e13⟩:=gE q13;apply wp_region_lit
  repeat go_step
  try simp only [Exit.then]
  refine ⟨⟨_,k+1,rfl,by omega,by simp [hsz],by simp [q1],by simp [q5],by simp [q11],by simp [q12],by simp [hsz],hP,hB⟩,?_⟩
  ·simp [hsz,intOf]
   omega
 ·have hd:decide ((k:Int)<(R.length:Int))=false:=decide_eq_false (by omega);obtain ⟨l1,e1⟩:=gE q1;obtain ⟨l5,e5⟩:=gE q5;obtain ⟨l11,e11⟩:=gE q11;obtain ⟨l12,e12⟩:=gE q12;obtain ⟨l13,e13⟩:=gE q13
  refine wp_seq_h fun K hK=>?_
  apply wp_region_lit
  repeat (first | go_step)
  refine hK.out _ _ ?_;clear hK K
  refine wp_abw (fun t' W'=>t'.size=26∧t'[1]?=some (.func (.func 223) #[] caps)∧t'[5]?=some (.slice (some ⟨w.heap.size,0,none⟩) R.length R.length)∧t'[11]?=some (.slice A R.length c)∧t'[12]?=some (.int .i64 (R.length:Int))∧t'[13]?=some (.int .i64 (k:Int))∧t'[14]?=some (.bool false)∧W=W') ⟨by simp [Act.put,hsz],by simp [Act.put,q1],by simp [Act.put,q5],by simp [Act.put,q11],by simp [Act.put,q12],by simp [Act.put,q13],by simp [Act.put,hsz,hd],rfl⟩ ?_
  clear hsz q1 l1 e1 q5 l5 e5 q11 l11 e11 q12 l12 e12 q13 l13 e13 t;rintro t _ ⟨hsz,q1,q5,q11,q12,q13,q14,rfl⟩
  refine wp_seq_h fun K1 hK1=>?_
  refine wp_cond_false (by simp [Act.eval,q14]) ?_;apply wp_exit;simp only [Exit.then,Exit.inBlock,if_true];refine hKE.out _ _ ?_;clear hd;obtain ⟨l1,e1⟩:=gE q1;obtain ⟨l5,e5⟩:=gE q5;obtain ⟨l11,e11⟩:=gE q11;obtain ⟨l12,e12⟩:=gE q12;obtain ⟨l13,e13⟩:=gE q13;obtain ⟨l14,e14⟩:=gE q14
  repeat go_step
  refine bodyPost_ret (results_tmp rfl _ _ _) rfl ?_;exact ⟨by simp [hsz],HP.out.whole (by simp) (by omega),HB.out⟩
end
end Go.Proofs.YtenckjdiggaonaaGreat
