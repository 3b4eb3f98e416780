/- FnNaturalLayout: for every code the law returns true. No condition. -/
import Derived.Test.YtfnpdlnepjhljaaGreatQN14
set_option linter.unusedVariables false
set_option linter.unusedSimpArgs false
set_option maxRecDepth 100000
set_option maxHeartbeats 16000000
namespace Go.Proofs.YtfnpdlnepjhljaaGreat.lNaturalLayout
open Go.RowKit
attribute [local go_sem] growUpon_value growUpon_skip growUpon_enter
open Go.ChangeShapes Go.WideShapes Go.ChangeAt Go.RowKit Go.Joins
attribute [local go_sem 5000] run_mx run_mn run_eqlR run_neqR
attribute [local go_sem] givesUpon_value givesUpon_skip givesUpon_enter
theorem walk (A:Option Addr) (n c:Nat) (z:List Int) (w:World) (wz:IsRow .u8 w A n c z):Calls Tryz.prog 6 #[.slice A n c] w fun e w'=>e=.returned (.bool true)∧Below w.heap.size w w':=by
 obtain ⟨hb,hn,hc⟩:=wz.bts;clear wz
 by_cases hlen:n≤1048576
 ·have hl1:¬ (1048576:Int)<n:=by omega
  go_enter Tryz.func6,Tryz.ntmps6
  go_wp2_with fail
  with_reducible refine (DrawNaturalLayout_any A n c _ hb hn hc).mono ?_
  rintro e w1 ⟨⟨g,c0,R,rfl,htk,hcap,r1,r2⟩,hB⟩;have hbb:Below w1.heap.size w1 (w1.alloc (.cells #[.slice (some ⟨g,0,none⟩) R.length c0] 25)):=balloc (Below.refl _ _);have HX:=hD (newS w1 (.cells #[.slice (some ⟨g,0,none⟩) R.length c0] 25));have HK:=hD (htk.keep hbb);have HB:=hD (balloc (o:=(.cells #[.slice (some ⟨g,0,none⟩) R.length c0] 25)) hB);clear hB hb hn hc htk hbb
  obtain ⟨zw,hzw⟩:∃ zw,(szM (R.map Nr.n) 0).1=zw:=⟨_,rfl⟩
  obtain ⟨zh,hzh⟩:∃ zh,(szM (R.map Nr.n) 0).2=zh:=⟨_,rfl⟩
  obtain ⟨M,hM⟩:∃ M,natM (R.map Nr.n)=M:=⟨_,rfl⟩
  have HM:=hD hM
  have hml:M.length≤10:=by rw [<- hM];exact natM_len _
  have hm2:lyL (R.map Nr.n) zw zh=M:=by rw [<- hzw,<- hzh];exact hM
  have HM2:=hD hm2;have HF:=hD (lay_facts (L:=R.map Nr.n) (a:=zw) (b:=zh));rw [hm2] at HF;have HU:=hD (And.intro hzw hzh);clear hM hm2 hzw hzh;have x0:=cellS HX.out 0
  go_wp2_with fail
  with_reducible refine (NaturalLayout_v (some ⟨g,0,none⟩) c0 R.length R _ rfl HK.out.nrv HK.out.rdr (by omega) HK.out.mx).mono ?_
  rintro e w2 ⟨⟨x,rfl,hx⟩,hb⟩;rw [HM.out] at hx;obtain ⟨A4,c4,rfl,hre⟩:=hx.rv;have HRE:=hD hre;clear x0 hx hre;replace HX:=hbk hb HX;replace HK:=hD (HK.out.keep hb);replace HB:=hD (bkeep2 HB.out hb);clear hb;have x0:=cellS HX.out 0
  go_wp2_with fail
  with_reducible refine (sNaturalLayout_v (some ⟨g,0,none⟩) c0 R.length R _ rfl HK.out.nrv HK.out.rdr (by omega) HK.out.mx).mono ?_
  rintro e w3 ⟨⟨x3,rfl,hx3⟩,hb⟩;rw [HM.out] at hx3;obtain ⟨A5,c5,rfl,hre5⟩:=hx3;have HS:=hD hre5;clear x0 hre5;replace HX:=hbk hb HX;replace HK:=hD (HK.out.keep hb);replace HRE:=hD (HRE.out.keep hb);replace HB:=hD (bkeep2 HB.out hb);clear hb
  go_wp2_with fail
  with_reducible refine (equalRects_g _ _ M _ (rer HRE.out) (rer HS.out) (by omega)).mono ?_
  rintro e w4 ⟨rfl,hb⟩;replace HX:=hbk hb HX;replace HK:=hD (HK.out.keep hb);replace HRE:=hD (HRE.out.keep hb);replace HB:=hD (bkeep2 HB.out hb);clear hb;clear HS
  by_cases hz:M.length=0
  ·have e0:decide ((M.length:Int)=0)=true:=decide_eq_true (by omega)
   have hz':((M.length:Nat):Int)=0:=by omega
   have e0b:((M.length:Int) == 0)=true:=beq_iff_eq.2 hz';clear hz HF;have x0:=cellS HX.out 0
   go_wp2_with fail
   with_reducible refine (sNaturalLayout_v (some ⟨g,0,none⟩) c0 R.length R _ rfl HK.out.nrv HK.out.rdr (by omega) HK.out.mx).mono ?_
   rintro e w5 ⟨⟨x5,rfl,hx5⟩,hb⟩;rw [HM.out] at hx5;obtain ⟨A6,c6,rfl,hre6⟩:=hx5;have HS:=hD hre6;clear x0 hre6;replace HRE:=hD (HRE.out.keep hb);replace HB:=hD (bkeep2 HB.out hb);clear hb
   go_wp2_with fail
   with_reducible refine (equalRects_g _ _ M _ (rer HRE.out) (rer HS.out) (by omega)).mono ?_
   rintro e w6 ⟨rfl,hb⟩;replace HB:=hD (bkeep2 HB.out hb);clear hb;go_wp2;go_ret;exact ⟨rfl,HB.out⟩
  ·have e0:decide ((M.length:Int)=0)=false:=decide_eq_false (by omega)
   have hz':¬ ((M.length:Nat):Int)=0:=by omega
   have e0b:((M.length:Int) == 0)=false:=beq_eq_false_iff_ne.2 hz'
   have hzp:0<M.length:=by omega
   obtain ⟨⟨htb,hwa,hwb⟩,hLR,h00,heq,hnn⟩:=HF.out hzp;have hT:=trOK_of htb;rw [List.length_map] at hLR;clear hz HF;have HEQ:=hD heq;have HT:=hD hT;have HTB:=hD htb;have HLR:=hD hLR;have H0:=hD h00;have HRQ:=hD (RequestOf_yes (some ⟨g,0,none⟩) c0 R.length R);have HRZ:=hD (HRQ.out 0);rw [HU.out.1,HU.out.2] at HRZ;rw [show ((0:Nat):Int)=0 from rfl] at HRZ
   obtain ⟨n0,hn0⟩:∃ n0,(R.map Nr.n)[0]?=some n0:=⟨_,List.getElem?_eq_getElem (by rw [List.length_map];omega)⟩
   have HN0:=hD hn0
   have hzr:(0:Int)<(R.length:Int):=by omega
   clear hnn h00 heq hT htb hn0 hLR;have x0:=cellS HX.out 0
   go_wp2_with fail
   with_reducible refine (HRZ.out _ (by trivial) HK.out.nrv HK.out.rdr (by omega) HK.out.mx HTB.out (by omega)).mono ?_
   rintro e w5 ⟨rfl,hb⟩;clear x0 HRZ;replace HX:=hbk hb HX;replace HK:=hD (HK.out.keep hb);replace HRE:=hD (HRE.out.keep hb);replace HB:=hD (bkeep2 HB.out hb);clear hb
   go_wp2_with fail
   go_loopw [7] (fun i wr=>∃ k:Nat,1≤k∧k≤M.length∧i=.int .i64 (k:Int)∧Below w5.heap.size w5 wr) (fun i _=>M.length-(intOf i).toNat)
   case atStart=>exact ⟨1,Nat.le_refl _,by omega,rfl,Below.refl _ _⟩
   case round =>
    obtain ⟨k,hk1,hk,rfl,hBr⟩:=hrel;have HXr:=hD ((hBr.block _ (ltS HX.out)).trans HX.out);have HKr:=hD (HK.out.keep hBr);have x0:=cellS HXr.out 0;have lx:=ltS HXr.out;have lg:g<wr.heap.size:=let ⟨_,hh,_⟩:=HKr.out.blk;ltS hh;obtain ⟨b',off,rfl,hb,hc⟩:=(HRE.out.keep hBr).cells (by omega)
    by_cases hlt:k<M.length
    ·have hd:decide ((k:Int)<(M.length:Int))=true:=by simpa using hlt
     have hdi:(k:Int)<(M.length:Int):=by omega
     have hdr:(k:Int)<(R.length:Int):=by have:=HLR.out;omega
     clear hc hb
     go_wp2_with fail
     with_reducible refine (HRQ.out k _ (by trivial) HKr.out.nrv HKr.out.rdr (by omega) HKr.out.mx HTB.out (by omega)).mono ?_
     rintro e w6 ⟨rfl,hb⟩
     obtain ⟨ra,hra⟩:∃ ra,(szM (R.map Nr.n) k).1=ra:=⟨_,rfl⟩
     obtain ⟨rb,hrb⟩:∃ rb,(szM (R.map Nr.n) k).2=rb:=⟨_,rfl⟩
     rw [hra,hrb];have hBr6:=bkeep2 hBr hb;clear x0 lx hb hBr HXr HKr;have HXr:=hD ((hBr6.block _ (ltS HX.out)).trans HX.out);have HKr:=hD (HK.out.keep hBr6);have x0:=cellS HXr.out 0;obtain ⟨b',off,e4,hb,hc⟩:=(HRE.out.keep hBr6).cells (by omega)
     cases e4
     obtain ⟨p,j,np,hpk,hnp,hkj⟩:=kid_of HT.out (k:=k) (by omega) (by rw [List.length_map];omega);have hget:R[k]?=some R[k]:=List.getElem?_eq_getElem (by omega);have hpa:R[k].n.pa=(p:Int):=kidD_pa (List.mem_of_getElem? hkj) (by rw [List.getElem?_map,hget];rfl);have hg0:R[0]?=some R[0]:=List.getElem?_eq_getElem (by omega)
     have hn0:R[0].n=n0:=by have:=HN0.out;rw [List.getElem?_map,hg0] at this;exact Option.some.inj this
     have y0:w6.cell? ⟨g,k*34,none⟩=some (.int .i64 (p:Int)):=by have:=HKr.out.cellAt hget 0 (.int .i64 R[k].n.pa) rfl;rw [Nat.add_zero,hpa] at this;exact this
     have y3:w6.cell? ⟨g,3,none⟩=some (.bool n0.ke):=by have:=HKr.out.cellAt hg0 3 (.bool R[0].n.ke) rfl;rw [hn0] at this;simpa using this
     have y4:w6.cell? ⟨g,4,none⟩=some (.int .i64 n0.ki):=by have:=HKr.out.cellAt hg0 4 (.int .i64 R[0].n.ki) rfl;rw [hn0] at this;simpa using this
     obtain ⟨T,hTT⟩:∃ T,M[k]?=some T:=⟨_,List.getElem?_eq_getElem hlt⟩
     obtain ⟨s0,s1,s2,s3⟩:=hc k _ hTT;have eT:=HEQ.out k T hTT
     have hfit:p=0→n0.ke=false→n0.ki≠2→ra≤T.u∧rb≤T.v:=fun e1 e2 e3=>by
      subst e1;have hki:=(HT.out.sz 0 n0 HN0.out).2.2;rw [eT,<- hra,<- hrb];exact kid_fits HT.out hwa hwb HN0.out e2 (by omega) (Int.le_of_eq HU.out.1) (Int.le_of_eq HU.out.2) hkj
     obtain ⟨ki,hki⟩:∃ ki,n0.ki=ki:=⟨_,rfl⟩
     obtain ⟨ke,hke⟩:∃ ke,n0.ke=ke:=⟨_,rfl⟩
     rw [hki] at y4 hfit;rw [hke] at y3 hfit
     have hdz:(0:Int)<(R.length:Int):=by omega
     have HBR:=hD hBr6;clear hBr6 hc hget hg0 hpa hn0 hnp hkj hki hke eT hTT HKr hra hrb
     by_cases g1:p=0
     ·subst g1;have d1:(((0:Nat):Int) == 0)=true:=rfl
      cases ke
      ·by_cases g2:ki=2
       ·have d2:(ki != 2)=false:=by simp [g2]
        have d2':(ki == 2)=true:=by simp [g2]
        clear hfit g2;go_wp2
        go_roundw
        case rel=>exact ⟨k+1,by omega,by omega,by go_num,HBR.out⟩
        case measure=>simp [intOf];omega
       ·have d2:(ki != 2)=true:=by simp [g2]
        have d2':(ki == 2)=false:=by simp [g2]
        obtain ⟨f1,f2⟩:=hfit rfl rfl g2;have d3:decide (T.u<ra)=false:=decide_eq_false (by omega);have d4:decide (T.v<rb)=false:=decide_eq_false (by omega);clear hfit g2 f1 f2;go_wp2
        go_roundw
        case rel=>exact ⟨k+1,by omega,by omega,by go_num,HBR.out⟩
        case measure=>simp [intOf];omega
      ·clear hfit;go_wp2
       go_roundw
       case rel=>exact ⟨k+1,by omega,by omega,by go_num,HBR.out⟩
       case measure=>simp [intOf];omega
     ·have d1:((p:Int) == 0)=false:=by simp;omega
      clear hfit;go_wp2
      go_roundw
      case rel=>exact ⟨k+1,by omega,by omega,by go_num,HBR.out⟩
      case measure=>simp [intOf];omega
    ·have hd:decide ((k:Int)<(M.length:Int))=false:=decide_eq_false (by omega);obtain ⟨q0,q1,q2,q3⟩:=hc 0 _ H0.out;simp only [Nat.zero_mul,Nat.add_zero] at q0 q1 q2 q3;have he:eqR 0 0 zw zh 0 0 zw zh=true:=eqR_self
     have hzi:(0:Int)<(M.length:Int):=by omega
     have HBR:=hD (bkeep2 HB.out hBr);have HREr:=hD (HRE.out.keep hBr);clear hBr hc
     go_wp2_with fail
     refine wp_region_rxl 8 8 [] #[true,true,true,true,true,true,true,true,false,false,false,false,false,false,false,false] (by kernel_rfl) (by kernel_rfl) (by kernel_rfl) (XV (.slice (some ⟨b',off,none⟩) M.length c4) :: XV (.pointer (some ⟨b',off,none⟩)) :: XV (.agg #[.int .i64 0,.int .i64 0,.int .i64 zw,.int .i64 zh]) :: XV (.int .i64 zw) :: XV (.int .i64 zh) :: XV (.agg #[.int .i64 0,.int .i64 0,.int .i64 zw,.int .i64 zh]) :: XV (.bool true) :: XV (.bool true) :: []) (by kernel_rfl) (by kernel_rfl) (by kernel_rfl) ?hTs ?hXs ?hops ?hfin
     case hTs =>
      intro T hT;simp only [List.mem_cons,List.not_mem_nil,or_false] at hT
      rcases hT with rfl | rfl | rfl | rfl | rfl | rfl | rfl | rfl <;> first | exact stay_V _ | exact stay_T | exact stay_of (fun v a b x g=>x.keep g) | exact stay_of (fun v a b x g=>x)
     case hXs =>
      intro x d s hx;exact absurd hx (List.not_mem_nil)
     case hops =>
      refine ⟨opOK_rx [(4,none)] (by kernel_rfl) rfl ?_,?_⟩
      ·intro act w' hw' h1;obtain ⟨hk,hf⟩:=evkf act;generalize act.eval=ρ at *;replace h1:ρ (.tmp 4)=.slice (some ⟨b',off,none⟩) M.length c4:=h1
       refine gxB hw' fun K hK hc hf'=>?_
       go_simp;exact hK _ _ ⟨rfl,Gr.refl _⟩
      refine ⟨opOK_rx [(89,some 0)] (by kernel_rfl) rfl ?_,?_⟩
      ·intro act w' hw' h1;obtain ⟨hk,hf⟩:=evkf act;generalize act.eval=ρ at *;replace h1:ρ (.tmp 89)=.slice (some ⟨b',off,none⟩) M.length c4:=h1
       refine gxB hw' fun K hK hc hf'=>?_
       go_simp;exact hK _ _ ⟨rfl,Gr.refl _⟩
      refine ⟨opOK_rx [(90,some 1)] (by kernel_rfl) rfl ?_,?_⟩
      ·intro act w' hw' h1;obtain ⟨hk,hf⟩:=evkf act;generalize act.eval=ρ at *;replace h1:ρ (.tmp 90)=.pointer (some ⟨b',off,none⟩):=h1
       refine gxB hw' fun K hK hc hf'=>?_
       go_simp;exact hK _ _ ⟨rfl,Gr.refl _⟩
      refine ⟨opOK_rx [(5,none)] (by kernel_rfl) rfl ?_,?_⟩
      ·intro act w' hw' h1;obtain ⟨hk,hf⟩:=evkf act;generalize act.eval=ρ at *;replace h1:ρ (.tmp 5)=.int .i64 zw:=h1
       refine gxB hw' fun K hK hc hf'=>?_
       go_simp;exact hK _ _ ⟨rfl,Gr.refl _⟩
      refine ⟨opOK_rx [(6,none)] (by kernel_rfl) rfl ?_,?_⟩
      ·intro act w' hw' h1;obtain ⟨hk,hf⟩:=evkf act;generalize act.eval=ρ at *;replace h1:ρ (.tmp 6)=.int .i64 zh:=h1
       refine gxB hw' fun K hK hc hf'=>?_
       go_simp;exact hK _ _ ⟨rfl,Gr.refl _⟩
      refine ⟨opOK_rx [(92,some 3),(93,some 4)] (by kernel_rfl) rfl ?_,?_⟩
      ·intro act w' hw' h1 h2;obtain ⟨hk,hf⟩:=evkf act;generalize act.eval=ρ at *;replace h1:ρ (.tmp 92)=.int .i64 zw:=h1;replace h2:ρ (.tmp 93)=.int .i64 zh:=h2
       refine gxB hw' fun K hK hc hf'=>?_
       go_simp
       (refine (room_g _ _ _).mono ?_);rintro e w3 ⟨rfl,hb1⟩;exact ⟨_,rfl,hK _ _ ⟨rfl,Gr.of hb1⟩⟩
      refine ⟨opOK_rx [(91,some 2),(94,some 5)] (by kernel_rfl) rfl ?_,?_⟩
      ·intro act w' hw' h1 h2;obtain ⟨hk,hf⟩:=evkf act;generalize act.eval=ρ at *;replace h1:ρ (.tmp 91)=.agg #[.int .i64 0,.int .i64 0,.int .i64 zw,.int .i64 zh]:=h1;replace h2:ρ (.tmp 94)=.agg #[.int .i64 0,.int .i64 0,.int .i64 zw,.int .i64 zh]:=h2
       refine gxB hw' fun K hK hc hf'=>?_
       go_simp;exact hK _ _ ⟨rfl,Gr.refl _⟩
      refine ⟨opOK_rx [(95,some 6)] (by kernel_rfl) rfl ?_,?_⟩
      ·intro act w' hw' h1;obtain ⟨hk,hf⟩:=evkf act;generalize act.eval=ρ at *;replace h1:ρ (.tmp 95)=.bool true:=h1
       refine gxB hw' fun K hK hc hf'=>?_
       go_simp;exact hK _ _ ⟨rfl,Gr.refl _⟩
      exact trivial
     case hfin =>
      intro w5 hg5;intro v89 t89;replace t89:v89=.slice (some ⟨b',off,none⟩) M.length c4:=t89;subst t89;intro v90 t90;replace t90:v90=.pointer (some ⟨b',off,none⟩):=t90;subst t90;intro v91 t91;replace t91:v91=.agg #[.int .i64 0,.int .i64 0,.int .i64 zw,.int .i64 zh]:=t91;subst t91;intro v92 t92;replace t92:v92=.int .i64 zw:=t92;subst t92;intro v93 t93;replace t93:v93=.int .i64 zh:=t93;subst t93
      intro v94 t94;replace t94:v94=.agg #[.int .i64 0,.int .i64 0,.int .i64 zw,.int .i64 zh]:=t94;subst t94;intro v95 t95;replace t95:v95=.bool true:=t95;subst t95;intro v96 t96;replace t96:v96=.bool true:=t96;subst t96;have hb5:=bdrewn hg5.out;clear hg5;simp only [finP,List.take_succ_cons,List.take_zero,Act.put,List.setIfInBounds_toArray,List.set_cons_succ,List.set_cons_zero];have hb:=hb5
      have hxx:=(hb.block _ (ltS HXr.out)).trans HXr.out;have HXs:=hD hxx;have HKs:=hD (HKr.out.keep hb);have HREs:=hD (HREr.out.keep hb);replace HBR:=hD (bkeep2 HBR.out hb);clear hb hb5 q0 q1 q2 q3 x0 lx lg he HXr HKr HREr hxx;have x0:=cellS HXs.out 0;have lx:=ltS HXs.out
      refine wpAny_fst (i:=9) (v:=.int .i64 zw) (by kernel_rfl) rfl rfl (fun w=>by first | rfl | go_simp) (by kernel_rfl) (by kernel_rfl) (fun c a w h=>h) ?_;refine wpAny_fst (i:=10) (v:=.int .i64 zh) (by kernel_rfl) rfl rfl (fun w=>by first | rfl | go_simp) (by kernel_rfl) (by kernel_rfl) (fun c a w h=>h) ?_
      refine wpAny_fst (i:=12) (v:=.slice (some ⟨b',off,none⟩) M.length c4) (by kernel_rfl) rfl rfl (fun w=>by first | rfl | go_simp) (by kernel_rfl) (by kernel_rfl) (fun c a w h=>h) ?_;go_simp;refine wpAny_oneH (i:=8) (by kernel_rfl) rfl rfl ?_;go_simp;refine wpAny_oneH (i:=11) (by kernel_rfl) rfl rfl ?_;go_simp
      with_reducible refine (LayoutTree_v (some ⟨g,0,none⟩) c0 R.length R zw zh _ rfl HKs.out.nrv HKs.out.rdr (by omega) HKs.out.mx).mono ?_
      rintro e w7 ⟨⟨x,rfl,hx⟩,hb⟩;rw [HM2.out] at hx;obtain ⟨A8,c8,rfl,hre⟩:=hx.rv;have HR8:=hD hre;have HR9:=hD (HREs.out.keep hb);replace HBR:=hD (bkeep2 HBR.out hb);clear hb hre hx x0 lx HXs HKs HREs;go_simp;refine wpAny_oneH (i:=13) (by kernel_rfl) rfl rfl ?_;go_simp
      with_reducible refine (equalRects_g _ _ M _ (rer HR8.out) (rer HR9.out) (by omega)).mono ?_
      rintro e w8 ⟨rfl,hb⟩;replace HBR:=hD (bkeep2 HBR.out hb);clear hb;go_simp;refine wpAny_oneH (i:=14) (by kernel_rfl) rfl rfl ?_;go_simp;refine wpAny_oneH (i:=15) (by kernel_rfl) rfl rfl ?_;go_simp;refine wpAny_end (by kernel_rfl) ?_;refine NoPan.thn ?_;go_wp2;go_ret;exact ⟨rfl,HBR.out⟩
 ·have hl1:(1048576:Int)<n:=by omega
  go_enter Tryz.func6,Tryz.ntmps6
  go_wp2;go_ret;exact ⟨rfl,Below.refl _ _⟩
theorem lifted (os:Os) (started:os.Started) (H:Type) (enc:TypeId × Value→H) :
  ReturnsInHanded {} Tryz.checked os 6 .any (Rows.fnNaturalLayoutSpec.pre6 enc Tryz.prog Tryz.f6 Rows.fnNaturalLayoutRow.domain false) (Rows.fnNaturalLayoutSpec.post enc Tryz.prog Tryz.f6 false true false false):=by
 refine returnsInHanded_of_change (C:=Tryz.checked) own started (by kernel_rfl) Tryz.func6
  (ChangeSpec.witness6 (enc:=enc) (C:=Tryz.checked) false ⟨#[],#[.slice none 0 0],[]⟩ 8 (by kernel_rfl) (by kernel_rfl) (by kernel_rfl) (by kernel_rfl)) ?_
 intro W base args ds gs before hval0 hW hcnd _;have hval:∀ (j:Nat) t v,Tryz.f6.params[j]?=some t→args[j]?=some v→Value.okWide Tryz.prog W .any base t v:=hval0;have hW':=hW;obtain ⟨p,q,hA0,hV,rfl,hfz,hnd⟩:=hW;have hA:DataW.TrodAll enc Tryz.prog W 0 (fun _=>true) true Tryz.f6.params.toList args.toList ds p:=hA0;rw [Tryz.params6] at hA hval
 obtain ⟨v0,vs0,d0,ds0,p0,q0,hargs,rfl,rfl,h0,r0⟩:=trodAll_cons hA;obtain ⟨rfl,rfl,rfl⟩:=trodAll_nil r0
 obtain rfl:args=#[v0]:=by cases args;simp_all
 obtain ⟨rfl,rfl⟩:=trodVars_none hV;have k0:=h0
 have lt0:∀ x∈p0,x.block<W.heap.size:=by obtain ⟨m,hm⟩:=k0;exact DataW.trod_lt m _ _ _ hm
 obtain ⟨a0,len0,cap0,rfl⟩:=okWide_slice Tryz.underlying22 (hval 0 22 v0 rfl rfl)
 obtain ⟨z0,wz0⟩:∃ zs,IsRow .u8 W a0 len0 cap0 zs:=by
  obtain ⟨fuel,hf⟩:=h0
  rcases open_ints Tryz.underlying22 Tryz.underlying5 (by kernel_rfl) hf with ⟨hcs,_⟩ | ⟨x,l,c,zs,hcs,_,hl,hm,hz,_,hcell,hwz⟩
  ·simp [Value.cells] at hcs
   obtain ⟨rfl,rfl,rfl⟩:=hcs;exact ⟨[],.inl ⟨rfl,rfl,rfl,rfl⟩⟩
  ·simp [Value.cells] at hcs
   obtain ⟨rfl,rfl,rfl⟩:=hcs;exact ⟨zs,.inr ⟨_,rfl,hl,hm,by simpa using hz,hcell,hwz⟩⟩
 clear hA0 hval0
 refine (walk a0 len0 cap0 z0 W wz0).mono fun e W' ⟨he,bel⟩=>?_
 subst he;exact ⟨_,rfl,_,_,_,[],_,[],hW',trodAll_mk1 (shut_bool Tryz.underlying4 _),(trodAll_cons_mk (Below.trod laidOut (by kernel_rfl) (of_decide_eq_true (by kernel_rfl)) k0 bel lt0) trodAll_mk0),rfl,bel.frame _,fun h=>by cases h⟩
theorem y0:mapsRowed Tryz.prog=true:=by kernel_rfl
theorem y1:Tryz.prog.inPlace 6=Rows.fnNaturalLayoutRow.inPlace:=by kernel_rfl
theorem y2:Tryz.prog.unfollowed 6=Rows.fnNaturalLayoutRow.unfollowed:=by kernel_rfl
theorem y3:Tryz.prog.recurses 6=Rows.fnNaturalLayoutRow.recurses:=by kernel_rfl
theorem y4:Tryz.prog.varsNamed 6=Rows.fnNaturalLayoutRow.named:=by kernel_rfl
theorem y5:Tryz.prog.plainKeys=Rows.fnNaturalLayoutRow.plainKeys:=by kernel_rfl
theorem y6:Tryz.prog.stopsHeard=true:=by kernel_rfl
theorem y7:Tryz.prog.mayEnter=true:=by kernel_rfl
theorem y8:Tryz.prog.liftsFinal=Rows.fnNaturalLayoutRow.lifted:=by kernel_rfl
theorem y9:Tryz.prog.make=some Rows.fnNaturalLayoutRow.make:=by kernel_rfl
theorem closed:joinedFacts Tryz.prog 6 Tryz.f6 Rows.fnNaturalLayoutSpec Rows.fnNaturalLayoutRow=true:=by
 unfold joinedFacts;rw [laidOut,y0,y1,y2,y3,y4,y5,y6,y7,y8,y9];kernel_rfl
theorem over:Rows.fnNaturalLayoutRow.holds Tryz.pinned (OpenSpec.ofChange Rows.fnNaturalLayoutSpec) :=
 OpenClaim.holds_of_wide 6 Tryz.f6 rfl rfl rfl rfl rfl rfl rfl ⟨rfl,rfl,rfl,rfl,rfl⟩ rfl rfl rfl rfl rfl (by kernel_rfl) Tryz.func6 closed
  (of_decide_eq_true (by kernel_rfl)) (by unfold Func.isWrapper;first|(rw [if_pos (by decide +kernel)];kernel_rfl)|(rw [if_neg (by decide +kernel)];exact ⟨rfl,rfl⟩))
  (fun os started H enc _=>lifted os started H enc)
theorem proved:Rows.FnNaturalLayoutSaid:=over
end Go.Proofs.YtfnpdlnepjhljaaGreat.lNaturalLayout
