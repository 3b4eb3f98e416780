/- FnLayoutTree: for every code the law returns true. No condition. -/
import Derived.Test.YtfnpdlnepjhljaaGreatQL13
set_option linter.unusedVariables false
set_option linter.unusedSimpArgs false
set_option maxRecDepth 100000
set_option maxHeartbeats 16000000
namespace Go.Proofs.YtfnpdlnepjhljaaGreat.lLayoutTree
open Go.RowKit
attribute [local go_sem] growUpon_value growUpon_skip growUpon_enter
open Go.ChangeShapes Go.WideShapes Go.ChangeAt Go.RowKit Go.Joins
attribute [local go_sem 5000] run_mx run_mn run_eqlR run_neqR
attribute [local go_sem] givesUpon_value givesUpon_skip givesUpon_enter
theorem walk (A:Option Addr) (n c:Nat) (z:List Int) (w:World) (wz:IsRow .u8 w A n c z):Calls Tryz.prog 3 #[.slice A n c] w fun e w'=>e=.returned (.bool true)∧Below w.heap.size w w':=by
 obtain ⟨hb,hn,hc⟩:=wz.bts;clear wz
 by_cases hlen:n≤1048576
 ·have hl1:¬ (1048576:Int)<n:=by omega
  go_enter Tryz.func3,Tryz.ntmps3
  go_wp2_with fail
  with_reducible refine (DrawLayoutTree_any A n c _ hb hn hc).mono ?_
  rintro e w1 ⟨⟨g,c0,R,a,b,rfl,htk,hcap,r1,r2⟩,hB⟩;have hbb:Below w1.heap.size w1 (w1.alloc (.cells #[.slice (some ⟨g,0,none⟩) R.length c0] 25)):=balloc (Below.refl _ _);have HX:=hD (newS w1 (.cells #[.slice (some ⟨g,0,none⟩) R.length c0] 25));have HK:=hD (htk.keep hbb);have HB:=hD (balloc (o:=(.cells #[.slice (some ⟨g,0,none⟩) R.length c0] 25)) hB);clear hB hb hn hc htk hbb
  obtain ⟨M,hM⟩:∃ M,lyL (R.map Nr.n) a b=M:=⟨_,rfl⟩
  have HM:=hD hM
  have hml:M.length≤10:=by rw [<- hM];exact lyL_len _ _ _
  have HF:=hD (lay_facts (L:=R.map Nr.n) (a:=a) (b:=b));rw [hM] at HF;clear hM;have x0:=cellS HX.out 0
  go_wp2_with fail
  with_reducible refine (LayoutTree_v (some ⟨g,0,none⟩) c0 R.length R a b _ rfl HK.out.nrv HK.out.rdr (by omega) HK.out.mx).mono ?_
  rintro e w2 ⟨⟨x,rfl,hx⟩,hb⟩;rw [HM.out] at hx;obtain ⟨A4,c4,rfl,hre⟩:=hx.rv;have HRE:=hD hre;clear x0 hx hre;replace HX:=hbk hb HX;replace HK:=hD (HK.out.keep hb);replace HB:=hD (bkeep2 HB.out hb);clear hb;have x0:=cellS HX.out 0
  go_wp2_with fail
  with_reducible refine (sLayoutTree_v (some ⟨g,0,none⟩) c0 R.length R a b _ rfl HK.out.nrv HK.out.rdr (by omega) HK.out.mx).mono ?_
  rintro e w3 ⟨⟨x3,rfl,hx3⟩,hb⟩;rw [HM.out] at hx3;obtain ⟨A5,c5,rfl,hre5⟩:=hx3;have HS:=hD hre5;clear x0 hre5;replace HX:=hbk hb HX;replace HK:=hD (HK.out.keep hb);replace HRE:=hD (HRE.out.keep hb);replace HB:=hD (bkeep2 HB.out hb);clear hb
  go_wp2_with fail
  with_reducible refine (equalRects_g _ _ M _ (rer HRE.out) (rer HS.out) (by omega)).mono ?_
  rintro e w4 ⟨rfl,hb⟩;replace HX:=hbk hb HX;replace HK:=hD (HK.out.keep hb);replace HRE:=hD (HRE.out.keep hb);replace HB:=hD (bkeep2 HB.out hb);clear hb;clear HS
  by_cases hz:M.length=0
  ·have e0:decide ((M.length:Int)=0)=true:=decide_eq_true (by omega)
   have hz':((M.length:Nat):Int)=0:=by omega
   have e0b:((M.length:Int) == 0)=true:=beq_iff_eq.2 hz';clear hz HF;have x0:=cellS HX.out 0
   go_wp2_with fail
   with_reducible refine (sLayoutTree_v (some ⟨g,0,none⟩) c0 R.length R a b _ rfl HK.out.nrv HK.out.rdr (by omega) HK.out.mx).mono ?_
   rintro e w5 ⟨⟨x5,rfl,hx5⟩,hb⟩;rw [HM.out] at hx5;obtain ⟨A6,c6,rfl,hre6⟩:=hx5;have HS:=hD hre6;clear x0 hre6;replace HRE:=hD (HRE.out.keep hb);replace HB:=hD (bkeep2 HB.out hb);clear hb
   go_wp2_with fail
   with_reducible refine (equalRects_g _ _ M _ (rer HRE.out) (rer HS.out) (by omega)).mono ?_
   rintro e w6 ⟨rfl,hb⟩;replace HB:=hD (bkeep2 HB.out hb);clear hb;go_wp2;go_ret;exact ⟨rfl,HB.out⟩
  ·have e0:decide ((M.length:Int)=0)=false:=decide_eq_false (by omega)
   have hz':¬ ((M.length:Nat):Int)=0:=by omega
   have e0b:((M.length:Int) == 0)=false:=beq_eq_false_iff_ne.2 hz'
   have hzp:0<M.length:=by omega
   obtain ⟨⟨htb,hwa,hwb⟩,hLR,h00,heq,hnn⟩:=HF.out hzp;have hT:=trOK_of htb;rw [List.length_map] at hLR;clear hz HF;have HN:=hD hnn;have H0:=hD h00;have HLR:=hD hLR;clear htb hT heq hnn h00 hLR
   go_wp2_with fail
   go_loopw [7] (fun i wr=>∃ k:Nat,k≤M.length∧i=.int .i64 (k:Int)∧Below w4.heap.size w4 wr) (fun i _=>M.length-(intOf i).toNat)
   case atStart=>exact ⟨0,by omega,rfl,Below.refl _ _⟩
   case round =>
    obtain ⟨k,hk,rfl,hBr⟩:=hrel;obtain ⟨b',off,rfl,hb,hc⟩:=(HRE.out.keep hBr).cells (by omega)
    by_cases hlt:k<M.length
    ·have hd:decide ((k:Int)<(M.length:Int))=true:=by simpa using hlt
     have hdi:(k:Int)<(M.length:Int):=by omega
     have hget:M[k]?=some M[k]:=List.getElem?_eq_getElem hlt;obtain ⟨n1,n2⟩:=HN.out k _ hget;obtain ⟨q0,q1,q2,q3⟩:=hc k _ hget;generalize M[k]=r at *;have d1:decide (r.u<0)=false:=decide_eq_false (by omega);have d2:decide (r.v<0)=false:=decide_eq_false (by omega);have HBR:=hD hBr;clear hBr hc hget n1 n2
     go_wp2_with fail
     go_roundw
     case rel=>exact ⟨k+1,by omega,by go_num,HBR.out⟩
     case measure=>simp [intOf];omega
    ·have hd:decide ((k:Int)<(M.length:Int))=false:=decide_eq_false (by omega);obtain ⟨q0,q1,q2,q3⟩:=hc 0 _ H0.out;simp only [Nat.zero_mul,Nat.add_zero] at q0 q1 q2 q3;have hxg:=(hBr.block _ (ltS HX.out)).trans HX.out;have x0:=cellS hxg 0;have lx:=ltS hxg
     have hLI:(M.length:Int)=(R.length:Int):=by have:=HLR.out;omega
     have hzn:0<R.length:=by omega
     have hzr:(0:Int)<(R.length:Int):=by omega
     have hLB:((M.length:Int) == (R.length:Int))=true:=by simp [hLI]
     have he:eqR 0 0 a b 0 0 a b=true:=eqR_self
     have hzi:(0:Int)<(M.length:Int):=by omega
     have HBR:=hD hBr;have hs4:=HB.out.size;clear hBr hc hxg
     go_wp2_with fail
     refine wp_region_grow 15 1 (·<15) (by kernel_rfl) (by kernel_rfl) rfl ?_
     iterate 15 (refine wpG_step (fun K hK=>?_);first|(refine grow_skip rfl ?_;go_simp;refine hK _ ?_;clear hK K)|(apply Exists.intro;refine ⟨.inl ⟨rfl,fun w' hw'=>?_⟩,?_⟩;(focus ((obtain ⟨hc,hf⟩:=bcell hw'.out);(have hcS:=bcellS hw'.out);go_simp <;> first | rfl|(go_at_call 17;exact room_g _ _ _)));(go_simp;refine hK _ ?_;clear hK K)))
     refine wpG_nil ?_;refine wpK_tail (by kernel_rfl) (fun w9 hg9=>?_);have hb9:=bdrewn hg9.out;obtain ⟨hc9,hf9⟩:=bcell hb9;refine wpAny_one (i:=15) (by kernel_rfl) rfl rfl ?_;go_simp;refine wpAny_end (by kernel_rfl) ?_;refine NoPan.thn ?_;clear hc9 hf9;clear hg9;have HB9:=hD (bkeep2 HB.out (bkeep2 HBR.out hb9));clear hb9;go_wp2;go_ret;exact ⟨rfl,HB9.out⟩
 ·have hl1:(1048576:Int)<n:=by omega
  go_enter Tryz.func3,Tryz.ntmps3
  go_wp2;go_ret;exact ⟨rfl,Below.refl _ _⟩
theorem lifted (os:Os) (started:os.Started) (H:Type) (enc:TypeId × Value→H) :
  ReturnsInHanded {} Tryz.checked os 3 .any (Rows.fnLayoutTreeSpec.pre6 enc Tryz.prog Tryz.f3 Rows.fnLayoutTreeRow.domain false) (Rows.fnLayoutTreeSpec.post enc Tryz.prog Tryz.f3 false true false false):=by
 refine returnsInHanded_of_change (C:=Tryz.checked) own started (by kernel_rfl) Tryz.func3
  (ChangeSpec.witness6 (enc:=enc) (C:=Tryz.checked) false ⟨#[],#[.slice none 0 0],[]⟩ 8 (by kernel_rfl) (by kernel_rfl) (by kernel_rfl) (by kernel_rfl)) ?_
 intro W base args ds gs before hval0 hW hcnd _;have hval:∀ (j:Nat) t v,Tryz.f3.params[j]?=some t→args[j]?=some v→Value.okWide Tryz.prog W .any base t v:=hval0;have hW':=hW;obtain ⟨p,q,hA0,hV,rfl,hfz,hnd⟩:=hW;have hA:DataW.TrodAll enc Tryz.prog W 0 (fun _=>true) true Tryz.f3.params.toList args.toList ds p:=hA0;rw [Tryz.params3] at hA hval
 obtain ⟨v0,vs0,d0,ds0,p0,q0,hargs,rfl,rfl,h0,r0⟩:=trodAll_cons hA;obtain ⟨rfl,rfl,rfl⟩:=trodAll_nil r0
 obtain rfl:args=#[v0]:=by cases args;simp_all
 obtain ⟨rfl,rfl⟩:=trodVars_none hV;have k0:=h0
 have lt0:∀ x∈p0,x.block<W.heap.size:=by obtain ⟨m,hm⟩:=k0;exact DataW.trod_lt m _ _ _ hm
 obtain ⟨a0,len0,cap0,rfl⟩:=okWide_slice Tryz.underlying22 (hval 0 22 v0 rfl rfl)
 obtain ⟨z0,wz0⟩:∃ zs,IsRow .u8 W a0 len0 cap0 zs:=by
  obtain ⟨fuel,hf⟩:=h0
  rcases open_ints Tryz.underlying22 Tryz.underlying5 (by kernel_rfl) hf with ⟨hcs,_⟩ | ⟨x,l,c,zs,hcs,_,hl,hm,hz,_,hcell,hwz⟩
  ·simp [Value.cells] at hcs
   obtain ⟨rfl,rfl,rfl⟩:=hcs;exact ⟨[],.inl ⟨rfl,rfl,rfl,rfl⟩⟩
  ·simp [Value.cells] at hcs
   obtain ⟨rfl,rfl,rfl⟩:=hcs;exact ⟨zs,.inr ⟨_,rfl,hl,hm,by simpa using hz,hcell,hwz⟩⟩
 clear hA0 hval0
 refine (walk a0 len0 cap0 z0 W wz0).mono fun e W' ⟨he,bel⟩=>?_
 subst he;exact ⟨_,rfl,_,_,_,[],_,[],hW',trodAll_mk1 (shut_bool Tryz.underlying4 _),(trodAll_cons_mk (Below.trod laidOut (by kernel_rfl) (of_decide_eq_true (by kernel_rfl)) k0 bel lt0) trodAll_mk0),rfl,bel.frame _,fun h=>by cases h⟩
theorem y0:mapsRowed Tryz.prog=true:=by kernel_rfl
theorem y1:Tryz.prog.inPlace 3=Rows.fnLayoutTreeRow.inPlace:=by kernel_rfl
theorem y2:Tryz.prog.unfollowed 3=Rows.fnLayoutTreeRow.unfollowed:=by kernel_rfl
theorem y3:Tryz.prog.recurses 3=Rows.fnLayoutTreeRow.recurses:=by kernel_rfl
theorem y4:Tryz.prog.varsNamed 3=Rows.fnLayoutTreeRow.named:=by kernel_rfl
theorem y5:Tryz.prog.plainKeys=Rows.fnLayoutTreeRow.plainKeys:=by kernel_rfl
theorem y6:Tryz.prog.stopsHeard=true:=by kernel_rfl
theorem y7:Tryz.prog.mayEnter=true:=by kernel_rfl
theorem y8:Tryz.prog.liftsFinal=Rows.fnLayoutTreeRow.lifted:=by kernel_rfl
theorem y9:Tryz.prog.make=some Rows.fnLayoutTreeRow.make:=by kernel_rfl
theorem closed:joinedFacts Tryz.prog 3 Tryz.f3 Rows.fnLayoutTreeSpec Rows.fnLayoutTreeRow=true:=by
 unfold joinedFacts;rw [laidOut,y0,y1,y2,y3,y4,y5,y6,y7,y8,y9];kernel_rfl
theorem over:Rows.fnLayoutTreeRow.holds Tryz.pinned (OpenSpec.ofChange Rows.fnLayoutTreeSpec) :=
 OpenClaim.holds_of_wide 3 Tryz.f3 rfl rfl rfl rfl rfl rfl rfl ⟨rfl,rfl,rfl,rfl,rfl⟩ rfl rfl rfl rfl rfl (by kernel_rfl) Tryz.func3 closed
  (of_decide_eq_true (by kernel_rfl)) (by unfold Func.isWrapper;first|(rw [if_pos (by decide +kernel)];kernel_rfl)|(rw [if_neg (by decide +kernel)];exact ⟨rfl,rfl⟩))
  (fun os started H enc _=>lifted os started H enc)
theorem proved:Rows.FnLayoutTreeSaid:=over
end Go.Proofs.YtfnpdlnepjhljaaGreat.lLayoutTree
