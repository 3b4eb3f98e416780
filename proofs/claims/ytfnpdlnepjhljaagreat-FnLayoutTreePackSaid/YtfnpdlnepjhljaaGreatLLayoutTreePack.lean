/- FnLayoutTreePack: for every code the law returns true. No condition. -/
import Derived.Test.YtfnpdlnepjhljaaGreatQP13
set_option linter.unusedVariables false
set_option linter.unusedSimpArgs false
set_option maxRecDepth 100000
set_option maxHeartbeats 16000000
namespace Go.Proofs.YtfnpdlnepjhljaaGreat.lLayoutTreePack
open Go.RowKit
attribute [local go_sem] growUpon_value growUpon_skip growUpon_enter
open Go.ChangeShapes Go.WideShapes Go.ChangeAt Go.RowKit Go.Joins
attribute [local go_sem 5000] run_mx run_mn run_neqR
attribute [local go_sem] givesUpon_value givesUpon_skip givesUpon_enter
theorem walk (A:Option Addr) (n c:Nat) (z:List Int) (w:World) (wz:IsRow .u8 w A n c z):Calls Tryz.prog 4 #[.slice A n c] w fun e w'=>e=.returned (.bool true)∧Below w.heap.size w w':=by
 obtain ⟨hb,hn,hc⟩:=wz.bts;clear wz
 by_cases hlen:n≤1048576
 ·have hl1:¬ (1048576:Int)<n:=by omega
  go_enter Tryz.func4,Tryz.ntmps4
  go_wp2_with fail
  with_reducible refine (DrawLayoutTree_any A n c _ hb hn hc).mono ?_
  rintro e w1 ⟨⟨g,c0,R,a,b,rfl,htk,hcap,r1,r2⟩,hB⟩;have hbb:Below w1.heap.size w1 (w1.alloc (.cells #[.slice (some ⟨g,0,none⟩) R.length c0] 25)):=balloc (Below.refl _ _);have HX:=hD (newS w1 (.cells #[.slice (some ⟨g,0,none⟩) R.length c0] 25));have HK:=hD (htk.keep hbb);have HB:=hD (balloc (o:=(.cells #[.slice (some ⟨g,0,none⟩) R.length c0] 25)) hB);clear hB hb hn hc htk hbb
  obtain ⟨M,hM⟩:∃ M,lyL (R.map Nr.n) a b=M:=⟨_,rfl⟩
  have HM:=hD hM
  have hml:M.length≤10:=by rw [<- hM];exact lyL_len _ _ _
  have HF:=hD (lay_facts (L:=R.map Nr.n) (a:=a) (b:=b));rw [hM] at HF;clear hM;have x0:=cellS HX.out 0
  go_wp2_with fail
  with_reducible refine (LayoutTree_v (some ⟨g,0,none⟩) c0 R.length R a b _ rfl HK.out.nrv HK.out.rdr (by omega) HK.out.mx).mono ?_
  rintro e w2 ⟨⟨x,rfl,hx⟩,hb⟩;rw [HM.out] at hx;obtain ⟨A4,c4,rfl,hre⟩:=hx.rv;have HRE:=hD hre;clear x0 hx hre;replace HX:=hbk hb HX;replace HK:=hD (HK.out.keep hb);replace HB:=hD (bkeep2 HB.out hb);clear hb;have x0:=cellS HX.out 0
  go_wp2_with fail
  with_reducible refine (sLayoutTree_v (some ⟨g,0,none⟩) c0 R.length R a b _ rfl HK.out.nrv HK.out.rdr (by omega) HK.out.mx).mono ?_
  rintro e w3 ⟨⟨x3,rfl,hx3⟩,hb⟩;rw [HM.out] at hx3;obtain ⟨A5,c5,rfl,hre5⟩:=hx3;have HS:=hD hre5;clear x0 hre5;replace HX:=hbk hb HX;replace HK:=hD (HK.out.keep hb);replace HRE:=hD (HRE.out.keep hb);replace HB:=hD (bkeep2 HB.out hb);clear hb
  go_wp2_with fail
  with_reducible refine (equalRects_g _ _ M _ (rer HRE.out) (rer HS.out) (by omega)).mono ?_
  rintro e w4 ⟨rfl,hb⟩;replace HX:=hbk hb HX;replace HK:=hD (HK.out.keep hb);replace HRE:=hD (HRE.out.keep hb);replace HB:=hD (bkeep2 HB.out hb);clear hb;clear HS
  by_cases hz:M.length=0
  ·have e0:decide ((M.length:Int)=0)=true:=decide_eq_true (by omega)
   have hz':((M.length:Nat):Int)=0:=by omega
   have e0b:((M.length:Int) == 0)=true:=beq_iff_eq.2 hz';clear hz HF;have x0:=cellS HX.out 0
   go_wp2_with fail
   with_reducible refine (sLayoutTree_v (some ⟨g,0,none⟩) c0 R.length R a b _ rfl HK.out.nrv HK.out.rdr (by omega) HK.out.mx).mono ?_
   rintro e w5 ⟨⟨x5,rfl,hx5⟩,hb⟩;rw [HM.out] at hx5;obtain ⟨A6,c6,rfl,hre6⟩:=hx5;have HS:=hD hre6;clear x0 hre6;replace HRE:=hD (HRE.out.keep hb);replace HB:=hD (bkeep2 HB.out hb);clear hb
   go_wp2_with fail
   with_reducible refine (equalRects_g _ _ M _ (rer HRE.out) (rer HS.out) (by omega)).mono ?_
   rintro e w6 ⟨rfl,hb⟩;replace HB:=hD (bkeep2 HB.out hb);clear hb;go_wp2;go_ret;exact ⟨rfl,HB.out⟩
  ·have e0:decide ((M.length:Int)=0)=false:=decide_eq_false (by omega)
   have hz':¬ ((M.length:Nat):Int)=0:=by omega
   have e0b:((M.length:Int) == 0)=false:=beq_eq_false_iff_ne.2 hz'
   have hzp:0<M.length:=by omega
   obtain ⟨⟨htb,hwa,hwb⟩,hLR,h00,heq,hnn⟩:=HF.out hzp;have hT:=trOK_of htb;rw [List.length_map] at hLR;clear hz HF;have HEQ:=hD heq;have HT:=hD hT;have HLR:=hD hLR;have HLW:=hD (show ∀ S∈M,Lw S.x S.y S.u S.v by rw [<- HM.out];exact (lyL_ok (by rw [HM.out];exact hzp)).2.2);clear hnn h00 heq hT htb hLR
   go_wp2_with fail
   go_loopw [7] (fun i wr=>∃ k:Nat,1≤k∧k≤M.length∧i=.int .i64 (k:Int)∧Below w4.heap.size w4 wr) (fun i _=>M.length-(intOf i).toNat)
   case atStart=>exact ⟨1,Nat.le_refl _,by omega,rfl,Below.refl _ _⟩
   case round =>
    obtain ⟨k,hk1,hk,rfl,hBr⟩:=hrel
    by_cases hlt:k<M.length
    ·have hd:decide ((k:Int)<(M.length:Int))=true:=by simpa using hlt
     have hdi:(k:Int)<(M.length:Int):=by omega
     have hLR:=HLR.out;have HXr:=hD ((hBr.block _ (ltS HX.out)).trans HX.out);have HKr:=hD (HK.out.keep hBr);have x0:=cellS HXr.out 0;have lx:=ltS HXr.out;have lg:g<wr.heap.size:=let ⟨_,hh,_⟩:=HKr.out.blk;ltS hh;obtain ⟨b',off,rfl,hb,hc⟩:=(HRE.out.keep hBr).cells (by omega)
     have hdr:(k:Int)<(R.length:Int):=by omega
     obtain ⟨p,j,n0,hpk,hn0,hkj⟩:=kid_of HT.out (k:=k) (by omega) (by rw [List.length_map];omega);have hget:R[k]?=some R[k]:=List.getElem?_eq_getElem (by omega);have hpa:R[k].n.pa=(p:Int):=kidD_pa (List.mem_of_getElem? hkj) (by rw [List.getElem?_map,hget];rfl);have hgp:R[p]?=some R[p]:=List.getElem?_eq_getElem (by omega)
     have hnp:R[p].n=n0:=by have:=hn0;rw [List.getElem?_map,hgp] at this;exact Option.some.inj this
     have y0:wr.cell? ⟨g,k*34,none⟩=some (.int .i64 (p:Int)):=by have:=HKr.out.cellAt hget 0 (.int .i64 R[k].n.pa) rfl;rw [Nat.add_zero,hpa] at this;exact this
     have y4:wr.cell? ⟨g,p*34+4,none⟩=some (.int .i64 n0.ki):=by have:=HKr.out.cellAt hgp 4 (.int .i64 R[p].n.ki) rfl;rw [hnp] at this;exact this
     obtain ⟨S,hS⟩:∃ S,M[p]?=some S:=⟨_,List.getElem?_eq_getElem (by omega)⟩
     obtain ⟨T,hTT⟩:∃ T,M[k]?=some T:=⟨_,List.getElem?_eq_getElem hlt⟩
     obtain ⟨q0,q1,q2,q3⟩:=hc p _ hS;obtain ⟨s0,s1,s2,s3⟩:=hc k _ hTT;have eS:=HEQ.out p S hS;have eT:=HEQ.out k T hTT;have hl1':=HLW.out S (List.mem_of_getElem? hS);have hl2':=HLW.out T (List.mem_of_getElem? hTT)
     have hin:n0.ki=0→S.x≤T.x∧S.y≤T.y∧T.x+T.u≤S.x+S.u∧T.y+T.v≤S.y+S.v:=fun e=>by
      rw [eS,eT];exact pack_in HT.out hwa hwb hn0 (by omega) (by omega) hkj
     obtain ⟨ki,hki⟩:∃ ki,n0.ki=ki:=⟨_,rfl⟩
     rw [hki] at y4 hin
     have hdp:(p:Int)<(R.length:Int):=by omega
     have hdm:(p:Int)<(M.length:Int):=by omega
     have HBR:=hD hBr;clear hBr hc hget hgp hpa hnp hn0 hkj hki eS eT hS hTT HKr hLR
     by_cases hz:ki=0
     ·have hin':=hin hz
      have d1:(ki == 0)=true:=by simp [hz]
      have d2:decide (ki=0)=true:=by simp [hz]
      clear hin hz
      go_wp2_with fail
      refine wp_region_grow 19 0 (·<19) (by kernel_rfl) (by kernel_rfl) rfl ?_
      iterate 19 (refine wpG_step (fun K hK=>?_);first|(refine grow_skip rfl ?_;go_simp;refine hK _ ?_;clear hK K)|(apply Exists.intro;refine ⟨.inl ⟨rfl,fun w' hw'=>?_⟩,?_⟩;(focus ((obtain ⟨hc,hf⟩:=bcell hw'.out);(have hcS:=bcellS hw'.out);go_simp <;> first | rfl|(go_at_call 18;exact within2_w _ _ _ _ _ _ _ _ _ hl1' hl2' hin')));(go_simp;refine hK _ ?_;clear hK K)))
      refine wpG_nil ?_;refine wpK_tail (by kernel_rfl) (fun w9 hg9=>?_);have hb9:=bdrewn hg9.out;refine wpAny_end (by kernel_rfl) ?_;refine NoPan.thn ?_;clear hg9;replace HBR:=hD (bkeep2 HBR.out hb9);clear hb9 q0 q1 q2 q3 s0 s1 s2 s3 y0 y4 x0 hl1' hl2' hin';go_wp2
      go_roundw
      case rel=>exact ⟨k+1,by omega,by omega,by go_num,HBR.out⟩
      case measure=>simp [intOf];omega
     ·have d1:(ki == 0)=false:=by simp [hz]
      have d2:decide (ki=0)=false:=by simp [hz]
      clear hin hz
      go_wp2_with fail
      refine wp_region_grow 19 0 (·<19) (by kernel_rfl) (by kernel_rfl) rfl ?_
      iterate 19 (refine wpG_step (fun K hK=>?_);first|(refine grow_skip rfl ?_;go_simp;refine hK _ ?_;clear hK K)|(apply Exists.intro;refine ⟨.inl ⟨rfl,fun w' hw'=>?_⟩,?_⟩;(focus ((obtain ⟨hc,hf⟩:=bcell hw'.out);(have hcS:=bcellS hw'.out);go_simp <;> first | rfl | fail));(go_simp;refine hK _ ?_;clear hK K)))
      refine wpG_nil ?_;refine wpK_tail (by kernel_rfl) (fun w9 hg9=>?_);have hb9:=bdrewn hg9.out;refine wpAny_end (by kernel_rfl) ?_;refine NoPan.thn ?_;clear hg9;replace HBR:=hD (bkeep2 HBR.out hb9);clear hb9 q0 q1 q2 q3 s0 s1 s2 s3 y0 y4 x0 hl1' hl2';go_wp2
      go_roundw
      case rel=>exact ⟨k+1,by omega,by omega,by go_num,HBR.out⟩
      case measure=>simp [intOf];omega
    ·have hd:decide ((k:Int)<(M.length:Int))=false:=decide_eq_false (by omega);have HBR:=hD (bkeep2 HB.out hBr);clear hBr;go_wp2;go_ret;exact ⟨rfl,HBR.out⟩
 ·have hl1:(1048576:Int)<n:=by omega
  go_enter Tryz.func4,Tryz.ntmps4
  go_wp2;go_ret;exact ⟨rfl,Below.refl _ _⟩
theorem lifted (os:Os) (started:os.Started) (H:Type) (enc:TypeId × Value→H) :
  ReturnsInHanded {} Tryz.checked os 4 .any (Rows.fnLayoutTreePackSpec.pre6 enc Tryz.prog Tryz.f4 Rows.fnLayoutTreePackRow.domain false) (Rows.fnLayoutTreePackSpec.post enc Tryz.prog Tryz.f4 false true false false):=by
 refine returnsInHanded_of_change (C:=Tryz.checked) own started (by kernel_rfl) Tryz.func4
  (ChangeSpec.witness6 (enc:=enc) (C:=Tryz.checked) false ⟨#[],#[.slice none 0 0],[]⟩ 8 (by kernel_rfl) (by kernel_rfl) (by kernel_rfl) (by kernel_rfl)) ?_
 intro W base args ds gs before hval0 hW hcnd _;have hval:∀ (j:Nat) t v,Tryz.f4.params[j]?=some t→args[j]?=some v→Value.okWide Tryz.prog W .any base t v:=hval0;have hW':=hW;obtain ⟨p,q,hA0,hV,rfl,hfz,hnd⟩:=hW;have hA:DataW.TrodAll enc Tryz.prog W 0 (fun _=>true) true Tryz.f4.params.toList args.toList ds p:=hA0;rw [Tryz.params4] at hA hval
 obtain ⟨v0,vs0,d0,ds0,p0,q0,hargs,rfl,rfl,h0,r0⟩:=trodAll_cons hA;obtain ⟨rfl,rfl,rfl⟩:=trodAll_nil r0
 obtain rfl:args=#[v0]:=by cases args;simp_all
 obtain ⟨rfl,rfl⟩:=trodVars_none hV;have k0:=h0
 have lt0:∀ x∈p0,x.block<W.heap.size:=by obtain ⟨m,hm⟩:=k0;exact DataW.trod_lt m _ _ _ hm
 obtain ⟨a0,len0,cap0,rfl⟩:=okWide_slice Tryz.underlying22 (hval 0 22 v0 rfl rfl)
 obtain ⟨z0,wz0⟩:∃ zs,IsRow .u8 W a0 len0 cap0 zs:=by
  obtain ⟨fuel,hf⟩:=h0
  rcases open_ints Tryz.underlying22 Tryz.underlying5 (by kernel_rfl) hf with ⟨hcs,_⟩ | ⟨x,l,c,zs,hcs,_,hl,hm,hz,_,hcell,hwz⟩
  ·simp [Value.cells] at hcs
   obtain ⟨rfl,rfl,rfl⟩:=hcs;exact ⟨[],.inl ⟨rfl,rfl,rfl,rfl⟩⟩
  ·simp [Value.cells] at hcs
   obtain ⟨rfl,rfl,rfl⟩:=hcs;exact ⟨zs,.inr ⟨_,rfl,hl,hm,by simpa using hz,hcell,hwz⟩⟩
 clear hA0 hval0
 refine (walk a0 len0 cap0 z0 W wz0).mono fun e W' ⟨he,bel⟩=>?_
 subst he;exact ⟨_,rfl,_,_,_,[],_,[],hW',trodAll_mk1 (shut_bool Tryz.underlying4 _),(trodAll_cons_mk (Below.trod laidOut (by kernel_rfl) (of_decide_eq_true (by kernel_rfl)) k0 bel lt0) trodAll_mk0),rfl,bel.frame _,fun h=>by cases h⟩
theorem y0:mapsRowed Tryz.prog=true:=by kernel_rfl
theorem y1:Tryz.prog.inPlace 4=Rows.fnLayoutTreePackRow.inPlace:=by kernel_rfl
theorem y2:Tryz.prog.unfollowed 4=Rows.fnLayoutTreePackRow.unfollowed:=by kernel_rfl
theorem y3:Tryz.prog.recurses 4=Rows.fnLayoutTreePackRow.recurses:=by kernel_rfl
theorem y4:Tryz.prog.varsNamed 4=Rows.fnLayoutTreePackRow.named:=by kernel_rfl
theorem y5:Tryz.prog.plainKeys=Rows.fnLayoutTreePackRow.plainKeys:=by kernel_rfl
theorem y6:Tryz.prog.stopsHeard=true:=by kernel_rfl
theorem y7:Tryz.prog.mayEnter=true:=by kernel_rfl
theorem y8:Tryz.prog.liftsFinal=Rows.fnLayoutTreePackRow.lifted:=by kernel_rfl
theorem y9:Tryz.prog.make=some Rows.fnLayoutTreePackRow.make:=by kernel_rfl
theorem closed:joinedFacts Tryz.prog 4 Tryz.f4 Rows.fnLayoutTreePackSpec Rows.fnLayoutTreePackRow=true:=by
 unfold joinedFacts;rw [laidOut,y0,y1,y2,y3,y4,y5,y6,y7,y8,y9];kernel_rfl
theorem over:Rows.fnLayoutTreePackRow.holds Tryz.pinned (OpenSpec.ofChange Rows.fnLayoutTreePackSpec) :=
 OpenClaim.holds_of_wide 4 Tryz.f4 rfl rfl rfl rfl rfl rfl rfl ⟨rfl,rfl,rfl,rfl,rfl⟩ rfl rfl rfl rfl rfl (by kernel_rfl) Tryz.func4 closed
  (of_decide_eq_true (by kernel_rfl)) (by unfold Func.isWrapper;first|(rw [if_pos (by decide +kernel)];kernel_rfl)|(rw [if_neg (by decide +kernel)];exact ⟨rfl,rfl⟩))
  (fun os started H enc _=>lifted os started H enc)
theorem proved:Rows.FnLayoutTreePackSaid:=over
end Go.Proofs.YtfnpdlnepjhljaaGreat.lLayoutTreePack
