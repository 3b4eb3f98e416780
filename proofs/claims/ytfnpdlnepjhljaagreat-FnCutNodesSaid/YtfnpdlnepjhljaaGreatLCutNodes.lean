/- FnCutNodes: for every code the law returns true. No condition. -/
import Derived.Test.YtfnpdlnepjhljaaGreatQC14
set_option linter.unusedVariables false
set_option linter.unusedSimpArgs false
set_option maxRecDepth 100000
set_option maxHeartbeats 16000000
namespace Go.Proofs.YtfnpdlnepjhljaaGreat.lCutNodes
open Go.RowKit
attribute [local go_sem] growUpon_value growUpon_skip growUpon_enter
open Go.ChangeShapes Go.WideShapes Go.ChangeAt Go.RowKit Go.Joins
attribute [local go_sem 5000] run_mx run_mn
attribute [local go_sem] givesUpon_value givesUpon_skip givesUpon_enter
theorem walk (A:Option Addr) (n c:Nat) (z:List Int) (w:World) (wz:IsRow .u8 w A n c z):Calls Tryz.prog 12 #[.slice A n c] w fun e w'=>e=.returned (.bool true)∧Below w.heap.size w w':=by
 obtain ⟨hb,hn,hc⟩:=wz.bts;clear wz
 by_cases hlen:n≤1048576
 ·have hl1:¬ (1048576:Int)<n:=by omega
  go_enter Tryz.func12,Tryz.ntmps12
  go_wp2_with fail
  with_reducible refine (DrawCutNodes_any A n c _ hb hn hc).mono ?_
  rintro e w1 ⟨⟨g,c0,R,a,b,rfl,htk,hcap,r1,r2⟩,hB⟩;have hbb:Below w1.heap.size w1 (w1.alloc (.cells #[.slice (some ⟨g,0,none⟩) R.length c0] 25)):=balloc (Below.refl _ _);have HX:=hD (newS w1 (.cells #[.slice (some ⟨g,0,none⟩) R.length c0] 25));have HK:=hD (htk.keep hbb);have HB:=hD (balloc (o:=(.cells #[.slice (some ⟨g,0,none⟩) R.length c0] 25)) hB);clear hB hb hn hc htk hbb
  obtain ⟨M,hM⟩:∃ M,lyL (R.map Nr.n) a b=M:=⟨_,rfl⟩
  have HM:=hD hM
  have hml:M.length≤10:=by rw [<- hM];exact lyL_len _ _ _
  have HF:=hD (lay_facts (L:=R.map Nr.n) (a:=a) (b:=b));rw [hM] at HF;clear hM
  obtain ⟨O,hO⟩:∃ O,cutM (R.map Nr.n) a b=O:=⟨_,rfl⟩
  have hol:O.length≤1000:=by rw [<- hO];have:=cutM_len (R.map Nr.n) a b;omega
  have HO:=hD hO;clear hO;have x0:=cellS HX.out 0
  go_wp2_with fail
  with_reducible refine (CutNodes_v (some ⟨g,0,none⟩) c0 R.length R a b _ rfl HK.out.nrv HK.out.rdr (by omega) HK.out.mx).mono ?_
  rintro e w2 ⟨⟨x,rfl,hx⟩,hb⟩;rw [HO.out] at hx;obtain ⟨A4,c4,rfl,hc4,hnv⟩:=go_sl hx;have HNV:=hD hnv;clear x0 hx hnv;replace HX:=hbk hb HX;replace HK:=hD (HK.out.keep hb);replace HB:=hD (bkeep2 HB.out hb);clear hb;have x0:=cellS HX.out 0
  go_wp2_with fail
  with_reducible refine (sCutNodes_v (some ⟨g,0,none⟩) c0 R.length R a b _ rfl HK.out.nrv HK.out.rdr (by omega) HK.out.mx).mono ?_
  rintro e w3 ⟨⟨x3,rfl,hx3⟩,hb⟩;rw [HO.out] at hx3;obtain ⟨A5,c5,rfl,hn5⟩:=hx3;have HS:=hD hn5;clear x0 hn5;replace HX:=hbk hb HX;replace HK:=hD (HK.out.keep hb);replace HNV:=hD (HNV.out.keep hb);replace HB:=hD (bkeep2 HB.out hb);clear hb
  go_wp2_with fail
  with_reducible refine (equalInts_z _ _ O _ (nrI' HNV.out) (nrI' HS.out) (by omega)).mono ?_
  rintro e w4 ⟨rfl,hb⟩;replace HX:=hbk hb HX;replace HK:=hD (HK.out.keep hb);replace HNV:=hD (HNV.out.keep hb);replace HB:=hD (bkeep2 HB.out hb);clear hb;clear HS;have x0:=cellS HX.out 0
  go_wp2_with fail
  with_reducible refine (LayoutTree_v (some ⟨g,0,none⟩) c0 R.length R a b _ rfl HK.out.nrv HK.out.rdr (by omega) HK.out.mx).mono ?_
  rintro e w5 ⟨⟨x6,rfl,hx6⟩,hb⟩;rw [HM.out] at hx6;obtain ⟨A6,rfl,-⟩:=hx6.sl;clear x0;replace HX:=hbk hb HX;replace HK:=hD (HK.out.keep hb);replace HNV:=hD (HNV.out.keep hb);replace HB:=hD (bkeep2 HB.out hb);clear hb
  by_cases hz:M.length=0
  ·have e0:decide ((M.length:Int)=0)=true:=decide_eq_true (by omega)
   have hz':((M.length:Nat):Int)=0:=by omega
   have e0b:((M.length:Int) == 0)=true:=beq_iff_eq.2 hz';clear hz HF;have x0:=cellS HX.out 0
   go_wp2_with fail
   with_reducible refine (sCutNodes_v (some ⟨g,0,none⟩) c0 R.length R a b _ rfl HK.out.nrv HK.out.rdr (by omega) HK.out.mx).mono ?_
   rintro e w7 ⟨⟨x5,rfl,hx5⟩,hb⟩;rw [HO.out] at hx5;obtain ⟨A7,c7,rfl,hn7⟩:=hx5;have HS:=hD hn7;clear x0 hn7;replace HNV:=hD (HNV.out.keep hb);replace HB:=hD (bkeep2 HB.out hb);clear hb
   go_wp2_with fail
   with_reducible refine (equalInts_z _ _ O _ (nrI' HNV.out) (nrI' HS.out) (by omega)).mono ?_
   rintro e w8 ⟨rfl,hb⟩;replace HB:=hD (bkeep2 HB.out hb);clear hb;go_wp2;go_ret;exact ⟨rfl,HB.out⟩
  ·have e0:decide ((M.length:Int)=0)=false:=decide_eq_false (by omega)
   have hz':¬ ((M.length:Nat):Int)=0:=by omega
   have e0b:((M.length:Int) == 0)=false:=beq_eq_false_iff_ne.2 hz'
   have hzp:0<M.length:=by omega
   obtain ⟨⟨htb,hwa,hwb⟩,hLR,h00,heq,hnn⟩:=HF.out hzp;have hT:=trOK_of htb;rw [List.length_map] at hLR;clear hz HF;have HEQ:=hD heq;have HT:=hD hT;have HTB:=hD htb;have HLR:=hD hLR
   obtain ⟨zw,hzw⟩:∃ zw,(szM (R.map Nr.n) 0).1=zw:=⟨_,rfl⟩
   obtain ⟨zh,hzh⟩:∃ zh,(szM (R.map Nr.n) 0).2=zh:=⟨_,rfl⟩
   have HU:=hD (And.intro hzw hzh);have HRZ:=hD (RequestOf_yes (some ⟨g,0,none⟩) c0 R.length R 0);rw [hzw,hzh] at HRZ;rw [show ((0:Nat):Int)=0 from rfl] at HRZ
   obtain ⟨n0,hn0⟩:∃ n0,(R.map Nr.n)[0]?=some n0:=⟨_,List.getElem?_eq_getElem (by rw [List.length_map];omega)⟩
   have HN0:=hD hn0
   have HMEM:=hD (show ∀ x∈O,∃ m:Nat,x=(m:Int)∧m<M.length∧cutF (R.map Nr.n) M m=true by
    intro x hx;rw [<- HO.out] at hx;unfold cutM at hx;rw [HM.out] at hx;obtain ⟨m,h1,h2,h3⟩:=idsM_mem.1 hx
    exact ⟨m,h3,h1,h2⟩)
   have HASC:=hD (show ∀ (m:Nat) (x y:Int),O[m]?=some x→O[m+1]?=some y→x<y by
    intro m x y h1 h2;rw [<- HO.out] at h1 h2
    exact idsM_asc h1 h2)
   have HZI:=hD (show decide ((0:Int)∈O)=false by
    refine decide_eq_false fun h=>?_
    obtain ⟨m,h1,-,h3⟩:=HMEM.out 0 h
    obtain rfl:m=0:=by omega
    simp [cutF] at h3)
   have hzr:(0:Int)<(R.length:Int):=by omega
   clear hnn h00 heq hT htb hn0 hzw hzh hLR;have x0:=cellS HX.out 0
   go_wp2_with fail
   with_reducible refine (HRZ.out _ (by trivial) HK.out.nrv HK.out.rdr (by omega) HK.out.mx HTB.out (by omega)).mono ?_
   rintro e w6 ⟨rfl,hb⟩;clear x0 HRZ;replace HX:=hbk hb HX;replace HK:=hD (HK.out.keep hb);replace HNV:=hD (HNV.out.keep hb);replace HB:=hD (bkeep2 HB.out hb);clear hb
   go_wp2_with fail
   go_loopw [9] (fun i wr=>∃ k:Nat,k≤O.length∧i=.int .i64 (k:Int)∧Below w6.heap.size w6 wr) (fun i _=>O.length-(intOf i).toNat)
   case atStart=>exact ⟨0,by omega,rfl,Below.refl _ _⟩
   case round =>
    obtain ⟨k,hk,rfl,hBr⟩:=hrel;have HXr:=hD ((hBr.block _ (ltS HX.out)).trans HX.out);have HKr:=hD (HK.out.keep hBr);have x0:=cellS HXr.out 0;have lx:=ltS HXr.out;have lg:g<wr.heap.size:=let ⟨_,hh,_⟩:=HKr.out.blk;ltS hh
    by_cases hlt:k<O.length
    ·have hd:decide ((k:Int)<(O.length:Int))=true:=by simpa using hlt
     have hdo:(k:Int)<(O.length:Int):=by omega
     obtain ⟨bo,oo,rfl,lbo,hco⟩:=(HNV.out.keep hBr).cells (by omega);have hok:O[k]?=some O[k]:=List.getElem?_eq_getElem hlt;obtain ⟨m,hxm,hmM,hcf⟩:=HMEM.out O[k] (List.getElem_mem hlt);have xo:=hco k _ hok;rw [hxm] at xo
     have hdm:(m:Int)<(R.length:Int):=by have:=HLR.out;omega
     have hm0:0<m:=by
      rcases Nat.eq_zero_or_pos m with e | e
      ·subst e;simp [cutF] at hcf
      ·exact e
     obtain ⟨p,j,np,hpk,hnp,hkj⟩:=kid_of HT.out (k:=m) hm0 (by rw [List.length_map];omega);have hget:R[m]?=some R[m]:=List.getElem?_eq_getElem (by omega);have hpa:R[m].n.pa=(p:Int):=kidD_pa (List.mem_of_getElem? hkj) (by rw [List.getElem?_map,hget];rfl);have hg0:R[0]?=some R[0]:=List.getElem?_eq_getElem (by omega)
     have hn0:R[0].n=n0:=by have:=HN0.out;rw [List.getElem?_map,hg0] at this;exact Option.some.inj this
     have y0:wr.cell? ⟨g,m*34,none⟩=some (.int .i64 (p:Int)):=by have:=HKr.out.cellAt hget 0 (.int .i64 R[m].n.pa) rfl;rw [Nat.add_zero,hpa] at this;exact this
     have y3:wr.cell? ⟨g,3,none⟩=some (.bool n0.ke):=by have:=HKr.out.cellAt hg0 3 (.bool R[0].n.ke) rfl;rw [hn0] at this;simpa using this
     have y4:wr.cell? ⟨g,4,none⟩=some (.int .i64 n0.ki):=by have:=HKr.out.cellAt hg0 4 (.int .i64 R[0].n.ki) rfl;rw [hn0] at this;simpa using this
     have hno:p=0→n0.ke=false→n0.ki≠2→zw≤a→zh≤b→False:=fun e1 e2 e3 e4 e5=>by
      subst e1;have hki:=(HT.out.sz 0 n0 HN0.out).2.2;obtain ⟨f1,f2⟩:=kid_fits HT.out hwa hwb HN0.out e2 (by omega) (by rw [HU.out.1];exact e4) (by rw [HU.out.2];exact e5) hkj
      have eT:rcN M m=lrM (R.map Nr.n) a b m:=by
       obtain ⟨T,hTT⟩:∃ T,M[m]?=some T:=⟨_,List.getElem?_eq_getElem hmM⟩
       rw [rcN_at hTT];exact HEQ.out m T hTT
      unfold cutF at hcf;rw [eT] at hcf;simp only [Bool.and_eq_true,Bool.not_eq_true',decide_eq_true_eq] at hcf
      have:=hcf.2
      rw [decide_eq_true f1,decide_eq_true f2] at this
      cases this
     obtain ⟨ki,hki⟩:∃ ki,n0.ki=ki:=⟨_,rfl⟩
     obtain ⟨ke,hke⟩:∃ ke,n0.ke=ke:=⟨_,rfl⟩
     rw [hki] at y4 hno;rw [hke] at y3 hno
     have hdz:(0:Int)<(R.length:Int):=by omega
     have HBR:=hD hBr;have HNO:=hD hno;clear hBr hco hok hxm hget hg0 hpa hn0 hnp hkj hki hke hcf hno
     go_wp2_with fail
     refine wp_region_grow 9 1 (·<9) (by kernel_rfl) (by kernel_rfl) rfl ?_
     iterate 9 (refine wpG_step (fun K hK=>?_);first|(refine grow_skip rfl ?_;go_simp;refine hK _ ?_;clear hK K)|(apply Exists.intro;refine ⟨.inl ⟨rfl,fun w' hw'=>?_⟩,?_⟩;(focus ((obtain ⟨hc,hf⟩:=bcell hw'.out);(have hcS:=bcellS hw'.out);go_simp <;> first | rfl | fail));(go_simp;refine hK _ ?_;clear hK K)))
     refine wpG_nil ?_;refine wpK_tail (by kernel_rfl) (fun w9 hg9=>?_);have hb9:=bdrewn hg9.out;obtain ⟨hc9,hf9⟩:=bcell hb9;refine wpAny_one (i:=9) (by kernel_rfl) rfl rfl ?_;go_simp;refine wpAny_end (by kernel_rfl) ?_;refine NoPan.thn ?_;clear hc9 hf9;clear hg9;have HXs:=hD ((hb9.block _ (ltS HXr.out)).trans HXr.out);have x0:=cellS HXs.out 0
     replace y3:w9.cell? ⟨g,3,none⟩=some (.bool ke):=(hb9.cell (p:=⟨g,3,none⟩) lg).trans y3;replace y4:w9.cell? ⟨g,4,none⟩=some (.int .i64 ki):=(hb9.cell (p:=⟨g,4,none⟩) lg).trans y4;replace HBR:=hD (bkeep2 HBR.out hb9);clear hb9 y0 xo lbo
     by_cases g1:p=0
     ·subst g1;have d1:(((0:Nat):Int) == 0)=true:=rfl
      cases ke
      ·by_cases g2:ki=2
       ·have d2:(ki != 2)=false:=by simp [g2]
        have d2':(ki == 2)=true:=by simp [g2]
        clear g2;go_wp2
        go_roundw
        case rel=>exact ⟨k+1,by omega,by go_num,HBR.out⟩
        case measure=>simp [intOf];omega
       ·have d2:(ki != 2)=true:=by simp [g2]
        have d2':(ki == 2)=false:=by simp [g2]
        by_cases g3:zw≤a
        ·have d3:decide (a≥zw)=true:=decide_eq_true g3
         have g4:¬ zh≤b:=fun h=>HNO.out rfl rfl g2 g3 h
         have d4:decide (b≥zh)=false:=decide_eq_false g4;clear g2 g3 g4;go_wp2
         go_roundw
         case rel=>exact ⟨k+1,by omega,by go_num,HBR.out⟩
         case measure=>simp [intOf];omega
        ·have d3:decide (a≥zw)=false:=decide_eq_false g3;clear g2 g3;go_wp2
         go_roundw
         case rel=>exact ⟨k+1,by omega,by go_num,HBR.out⟩
         case measure=>simp [intOf];omega
      ·go_wp2
       go_roundw
       case rel=>exact ⟨k+1,by omega,by go_num,HBR.out⟩
       case measure=>simp [intOf];omega
     ·have d1:((p:Int) == 0)=false:=by simp;omega
      go_wp2
      go_roundw
      case rel=>exact ⟨k+1,by omega,by go_num,HBR.out⟩
      case measure=>simp [intOf];omega
    ·have hd:decide ((k:Int)<(O.length:Int))=false:=decide_eq_false (by omega);have HNr:=hD (HNV.out.keep hBr);have HBR:=hD (bkeep2 HB.out hBr);clear hBr HKr HXr x0 lx lg
     go_wp2_with fail
     with_reducible refine (ascends_v _ O _ (nrI' HNr.out) (by omega) HASC.out).mono ?_
     rintro e w7 ⟨rfl,hb⟩;replace HBR:=hD (bkeep2 HBR.out hb);replace HNr:=hD (HNr.out.keep hb);clear hb
     go_wp2_with fail
     with_reducible refine (isIn_v _ 0 O false _ (nrI' HNr.out) (by omega) HZI.out).mono ?_
     rintro e w8 ⟨rfl,hb⟩;replace HBR:=hD (bkeep2 HBR.out hb);clear hb;go_wp2;go_ret;exact ⟨rfl,HBR.out⟩
 ·have hl1:(1048576:Int)<n:=by omega
  go_enter Tryz.func12,Tryz.ntmps12
  go_wp2;go_ret;exact ⟨rfl,Below.refl _ _⟩
theorem lifted (os:Os) (started:os.Started) (H:Type) (enc:TypeId × Value→H) :
  ReturnsInHanded {} Tryz.checked os 12 .any (Rows.fnCutNodesSpec.pre6 enc Tryz.prog Tryz.f12 Rows.fnCutNodesRow.domain false) (Rows.fnCutNodesSpec.post enc Tryz.prog Tryz.f12 false true false false):=by
 refine returnsInHanded_of_change (C:=Tryz.checked) own started (by kernel_rfl) Tryz.func12
  (ChangeSpec.witness6 (enc:=enc) (C:=Tryz.checked) false ⟨#[],#[.slice none 0 0],[]⟩ 8 (by kernel_rfl) (by kernel_rfl) (by kernel_rfl) (by kernel_rfl)) ?_
 intro W base args ds gs before hval0 hW hcnd _;have hval:∀ (j:Nat) t v,Tryz.f12.params[j]?=some t→args[j]?=some v→Value.okWide Tryz.prog W .any base t v:=hval0;have hW':=hW;obtain ⟨p,q,hA0,hV,rfl,hfz,hnd⟩:=hW;have hA:DataW.TrodAll enc Tryz.prog W 0 (fun _=>true) true Tryz.f12.params.toList args.toList ds p:=hA0;rw [Tryz.params12] at hA hval
 obtain ⟨v0,vs0,d0,ds0,p0,q0,hargs,rfl,rfl,h0,r0⟩:=trodAll_cons hA;obtain ⟨rfl,rfl,rfl⟩:=trodAll_nil r0
 obtain rfl:args=#[v0]:=by cases args;simp_all
 obtain ⟨rfl,rfl⟩:=trodVars_none hV;have k0:=h0
 have lt0:∀ x∈p0,x.block<W.heap.size:=by obtain ⟨m,hm⟩:=k0;exact DataW.trod_lt m _ _ _ hm
 obtain ⟨a0,len0,cap0,rfl⟩:=okWide_slice Tryz.underlying22 (hval 0 22 v0 rfl rfl)
 obtain ⟨z0,wz0⟩:∃ zs,IsRow .u8 W a0 len0 cap0 zs:=by
  obtain ⟨fuel,hf⟩:=h0
  rcases open_ints Tryz.underlying22 Tryz.underlying5 (by kernel_rfl) hf with ⟨hcs,_⟩ | ⟨x,l,c,zs,hcs,_,hl,hm,hz,_,hcell,hwz⟩
  ·simp [Value.cells] at hcs
   obtain ⟨rfl,rfl,rfl⟩:=hcs;exact ⟨[],.inl ⟨rfl,rfl,rfl,rfl⟩⟩
  ·simp [Value.cells] at hcs
   obtain ⟨rfl,rfl,rfl⟩:=hcs;exact ⟨zs,.inr ⟨_,rfl,hl,hm,by simpa using hz,hcell,hwz⟩⟩
 clear hA0 hval0
 refine (walk a0 len0 cap0 z0 W wz0).mono fun e W' ⟨he,bel⟩=>?_
 subst he;exact ⟨_,rfl,_,_,_,[],_,[],hW',trodAll_mk1 (shut_bool Tryz.underlying4 _),(trodAll_cons_mk (Below.trod laidOut (by kernel_rfl) (of_decide_eq_true (by kernel_rfl)) k0 bel lt0) trodAll_mk0),rfl,bel.frame _,fun h=>by cases h⟩
theorem y0:mapsRowed Tryz.prog=true:=by kernel_rfl
theorem y1:Tryz.prog.inPlace 12=Rows.fnCutNodesRow.inPlace:=by kernel_rfl
theorem y2:Tryz.prog.unfollowed 12=Rows.fnCutNodesRow.unfollowed:=by kernel_rfl
theorem y3:Tryz.prog.recurses 12=Rows.fnCutNodesRow.recurses:=by kernel_rfl
theorem y4:Tryz.prog.varsNamed 12=Rows.fnCutNodesRow.named:=by kernel_rfl
theorem y5:Tryz.prog.plainKeys=Rows.fnCutNodesRow.plainKeys:=by kernel_rfl
theorem y6:Tryz.prog.stopsHeard=true:=by kernel_rfl
theorem y7:Tryz.prog.mayEnter=true:=by kernel_rfl
theorem y8:Tryz.prog.liftsFinal=Rows.fnCutNodesRow.lifted:=by kernel_rfl
theorem y9:Tryz.prog.make=some Rows.fnCutNodesRow.make:=by kernel_rfl
theorem closed:joinedFacts Tryz.prog 12 Tryz.f12 Rows.fnCutNodesSpec Rows.fnCutNodesRow=true:=by
 unfold joinedFacts;rw [laidOut,y0,y1,y2,y3,y4,y5,y6,y7,y8,y9];kernel_rfl
theorem over:Rows.fnCutNodesRow.holds Tryz.pinned (OpenSpec.ofChange Rows.fnCutNodesSpec) :=
 OpenClaim.holds_of_wide 12 Tryz.f12 rfl rfl rfl rfl rfl rfl rfl ⟨rfl,rfl,rfl,rfl,rfl⟩ rfl rfl rfl rfl rfl (by kernel_rfl) Tryz.func12 closed
  (of_decide_eq_true (by kernel_rfl)) (by unfold Func.isWrapper;first|(rw [if_pos (by decide +kernel)];kernel_rfl)|(rw [if_neg (by decide +kernel)];exact ⟨rfl,rfl⟩))
  (fun os started H enc _=>lifted os started H enc)
theorem proved:Rows.FnCutNodesSaid:=over
end Go.Proofs.YtfnpdlnepjhljaaGreat.lCutNodes
