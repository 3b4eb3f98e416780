import Derived.Test.YtmmfifgdgbmgjaaGreatQS13
import Derived.WalkSpells
set_option linter.unusedVariables false
set_option linter.unusedSimpArgs false
set_option maxRecDepth 100000
set_option maxHeartbeats 16000000
namespace Go.Proofs.YtmmfifgdgbmgjaaGreat
open Go.RowKit
attribute [local go_sem] growUpon_value growUpon_skip growUpon_enter
section
theorem eqNilS (A:Option Addr) (n c:Nat) (w:World):(binOp .eql 51 (.slice A n c) (.slice none 0 0)).run Tryz.prog w=.ok (.bool A.isNone) w:=Lib.run_eql_slice_nil w _ _ A n c 0 0 Tryz.underlying51
attribute [local go_sem] eqNilS
noncomputable def spM (L:List Nd) (a b i:Int):Option Re:=if 0<(lyL L a b).length∧rng i 0 ((L.length:Int)-1)=true then seM L (lyL L a b) i.toNat else none
theorem seVal_ex (o:Option Re):∃ (r:Re) (q:Bool),seVal o=.tuple #[.agg #[.int .i64 (r.x),.int .i64 (r.y),.int .i64 (r.u),.int .i64 (r.v)],.bool q]:=let ⟨r,h⟩:=seVal_bool o;⟨r,_,h⟩
theorem SeenPart_v (A:Option Addr) (c k:Nat) (R:List Nr) (a b i:Int) (w:World) (hk:k=R.length) (h:NrV w A R) (hr:RdR w R) (hL:R.length≤1048576) (hm:∀ p∈R,p.n.cs.length≤1048576∧p.n.rs.length≤1048576) :
  Calls Tryz.prog 18 #[.agg #[.slice A k c],.int .i64 a,.int .i64 b,.int .i64 i] w fun e w'=>e=.returned (seVal (spM (R.map Nr.n) a b i))∧Below w.heap.size w w':=by
 have hB0:Below w.heap.size w ((w.alloc (.cells #[.slice A k c] 30 (0,0))).alloc (.cells zRe 38 (0,0))):=balloc (balloc (Below.refl _ _));have HX:=hD (show ((w.alloc (.cells #[.slice A k c] 30 (0,0))).alloc (.cells zRe 38 (0,0))).heap[w.heap.size]?=some (.cells #[.slice A k c] 30 (0,0)) from (Below.heap_alloc _ _ _ (by simp)).trans (newS _ _))
 have HZ:=hD (show ((w.alloc (.cells #[.slice A k c] 30 (0,0))).alloc (.cells zRe 38 (0,0))).heap[w.heap.size+1]?=some (.cells zRe 38 (0,0)) from by have:=newS (w.alloc (.cells #[.slice A k c] 30 (0,0))) (.cells zRe 38 (0,0));rwa [World.size_alloc] at this);have HB:=hD hB0
 have HV:=hD (NrV.keep h (balloc (Below.refl _ _)) |>.keep (balloc (o:=.cells zRe 38 (0,0)) (Below.refl _ (w.alloc (.cells #[.slice A k c] 30 (0,0))))));have HR:=hD (RdR.keep hr (balloc (Below.refl _ _)) |>.keep (balloc (o:=.cells zRe 38 (0,0)) (Below.refl _ (w.alloc (.cells #[.slice A k c] 30 (0,0))))));have HM:=hD hm;have HK:=hD hk;have x0:=cellS HX.out 0;clear hB0 h hr hm hk
 go_enter Tryz.func18,Tryz.ntmps18
 go_wp2_with fail
 refine (LayoutTree_x A c k R a b _ HK.out HV.out HR.out hL HM.out).mono ?_;rintro e w1 ⟨⟨x,rfl,hx,hnil⟩,hb⟩;clear x0;replace HX:=hbk hb HX;replace HZ:=hbk hb HZ;replace HV:=hD (HV.out.keep hb);replace HR:=hD (HR.out.keep hb);replace HB:=hD (bkeep2 HB.out hb);clear hb;have x0:=cellS HX.out 0;have hok:=lyL_ok (L:=R.map Nr.n) (a:=a) (b:=b)
 obtain ⟨M,hM⟩:∃ M,lyL (R.map Nr.n) a b=M:=⟨_,rfl⟩
 have HCP:=hD (show spM (R.map Nr.n) a b i=if 0<M.length∧rng i 0 ((k:Int)-1)=true then seM (R.map Nr.n) M i.toNat else none by unfold spM;rw [hM,List.length_map,HK.out]);rw [hM] at hx hok hnil;clear hM;have hsz:w.heap.size+1<w1.heap.size:=ltS HZ.out
 rcases Nat.eq_zero_or_pos M.length with hz | hz
 ·obtain rfl:=hnil hz;have HN:=hD (show spM (R.map Nr.n) a b i=none by rw [HCP.out,if_neg (by omega)])
  have hp2:(w1.setCells (w.heap.size+1) 0 (valsRe ⟨0,0,0,0⟩)).heap[w.heap.size+1]?=some (.cells (valsRe ⟨0,0,0,0⟩).toArray 38 (0,0)):=by rw [heap_setCells _ _ _ _ HZ.out,wrAt_all (by rfl)]
  have hb2:Below w.heap.size w (w1.setCells (w.heap.size+1) 0 (valsRe ⟨0,0,0,0⟩)):=below_setCells (by omega) _ _ _ HB.out;obtain ⟨⟨e0,e1,e2,e3⟩,-⟩:=four4 hp2;have HB2:=hD hb2;clear hx hok hnil hz hp2 hb2 HV HR HCP
  go_wp2_with (first|((with_reducible show wpList _ _ _ _ _ _);refine stR (.tmp 8) (.tmp 23) ⟨0,0,0,0⟩ (w.heap.size+1) rfl rfl HZ.out rfl rfl rfl ?_))
  exact bodyPost_ret (v:=.tuple #[.agg #[.int .i64 (0),.int .i64 (0),.int .i64 (0),.int .i64 (0)],.bool false]) (by simp only [results,Tryz.results18];go_simp) rfl ⟨by rw [HN.out];rfl,HB2.out⟩
 ·obtain ⟨hT,hMR,hLw⟩:=hok hz;obtain ⟨A1,rfl,hx1⟩:=hx.sl;obtain ⟨g,rfl,hg,hre⟩:=hx1 hz;rw [List.length_map] at hMR;have HRE:=hD hre;have HT:=hD hT;have HMR:=hD hMR;have HLW:=hD hLw;have HZZ:=hD hz
  have hkl:k≤1048576:=by have:=HK.out;omega
  clear hx hx1 hok hnil hre hT hMR hg hLw hz;rw [HMR.out]
  obtain ⟨q,hq⟩:∃ q,rng i 0 ((k:Int)-1)=q:=⟨_,rfl⟩
  have HQ:=hD hq
  go_wp2_with fail
  with_reducible refine (has_v A c k i q _ hkl hq).mono ?_
  rintro e w2 ⟨rfl,hb⟩;clear x0 hq;replace HX:=hbk hb HX;replace HZ:=hbk hb HZ;replace HV:=hD (HV.out.keep hb);replace HR:=hD (HR.out.keep hb);replace HRE:=hD (HRE.out.keep hb);replace HB:=hD (bkeep2 HB.out hb);clear hb;have x0:=cellS HX.out 0;have hs2:w.heap.size+1<w2.heap.size:=ltS HZ.out
  cases q
  ·have HN:=hD (show spM (R.map Nr.n) a b i=none by rw [HCP.out,if_neg (by rw [HQ.out];simp)])
   have hp2:(w2.setCells (w.heap.size+1) 0 (valsRe ⟨0,0,0,0⟩)).heap[w.heap.size+1]?=some (.cells (valsRe ⟨0,0,0,0⟩).toArray 38 (0,0)):=by rw [heap_setCells _ _ _ _ HZ.out,wrAt_all (by rfl)]
   have hb2:Below w.heap.size w (w2.setCells (w.heap.size+1) 0 (valsRe ⟨0,0,0,0⟩)):=below_setCells (by omega) _ _ _ HB.out;obtain ⟨⟨e0,e1,e2,e3⟩,-⟩:=four4 hp2;have HB2:=hD hb2;clear hp2 hb2 HV HR HCP
   go_wp2_with (first|((with_reducible show wpList _ _ _ _ _ _);refine stR (.tmp 8) (.tmp 23) ⟨0,0,0,0⟩ (w.heap.size+1) rfl rfl HZ.out rfl rfl rfl ?_))
   exact bodyPost_ret (v:=.tuple #[.agg #[.int .i64 (0),.int .i64 (0),.int .i64 (0),.int .i64 (0)],.bool false]) (by simp only [results,Tryz.results18];go_simp) rfl ⟨by rw [HN.out];rfl,HB2.out⟩
  ·obtain ⟨i1,i2⟩:=rng_iff.1 HQ.out;obtain ⟨j,rfl⟩:=Int.eq_ofNat_of_zero_le i1
   have hj:j<R.length:=by have:=HK.out;omega
   obtain ⟨r,t,hv⟩:=seVal_ex (seM (R.map Nr.n) M j);have HN:=hD (show seVal (spM (R.map Nr.n) a b (j:Int))=.tuple #[.agg #[.int .i64 (r.x),.int .i64 (r.y),.int .i64 (r.u),.int .i64 (r.v)],.bool t] by rw [HCP.out,if_pos ⟨HZZ.out,HQ.out⟩,Int.toNat_natCast,hv]);have HS:=hD (seenPart_m A c R M g j w2 HT.out HV.out HRE.out HMR.out HLW.out hj);rw [hv,<- HK.out] at HS;clear hv HCP;rw [<- HK.out]
   go_wp2_with fail
   refine HS.out.mono ?_;rintro e w3 ⟨rfl,hb⟩;clear x0 HV HR HRE HX;replace HZ:=hD ((hb.block _ (ltS HZ.out)).trans HZ.out);replace HB:=hD (bkeep2 HB.out hb)
   have hp2:(w3.setCells (w.heap.size+1) 0 (valsRe r)).heap[w.heap.size+1]?=some (.cells (valsRe r).toArray 38 (0,0)):=by rw [heap_setCells _ _ _ _ HZ.out,wrAt_all (by rfl)]
   have hb2:Below w.heap.size w (w3.setCells (w.heap.size+1) 0 (valsRe r)):=below_setCells (by omega) _ _ _ HB.out;obtain ⟨⟨e0,e1,e2,e3⟩,-⟩:=four4 hp2;have HB2:=hD hb2;clear hb hp2 hb2 HS
   go_wp2_with (first|((with_reducible show wpList _ _ _ _ _ _);refine stR (.tmp 8) (.tmp 28) r (w.heap.size+1) rfl rfl HZ.out rfl rfl rfl ?_))
   exact bodyPost_ret (v:=.tuple #[.agg #[.int .i64 (r.x),.int .i64 (r.y),.int .i64 (r.u),.int .i64 (r.v)],.bool t]) (by simp only [results,Tryz.results18];go_simp) rfl ⟨by rw [HN.out],HB2.out⟩
end
section
attribute [local go_sem] givesUpon_value givesUpon_skip givesUpon_enter
section
variable {P:Program} {md:Region.Mode} {ops:Array Oper} {Q:Exit→Act→World→Prop}
theorem wpAny_two {f:Nat} {listed:Array Bool} {a:Act} {w:World} {i j:Nat} {o p:Oper} (hr:Region.ready md ops listed=[i,j]) (ho:ops[i]?=some o) (hg:o.guard=none) (hp:ops[j]?=some p) (hq:p.guard=none)
  (h:o.wp P a w (wpAny P md ops Q f (listed.setIfInBounds i true)) Q) (k:p.wp P a w (wpAny P md ops Q f (listed.setIfInBounds j true)) Q):wpAny P md ops Q (f+1) listed a w :=
 ⟨fun h0=>(by rw [hr] at h0;cases h0),fun m hm=>by
  rw [hr] at hm
  rcases List.mem_cons.1 hm with rfl | hm
  ·exact wpOp_one ho hg h
  ·obtain rfl:=List.mem_singleton.1 hm
   exact wpOp_one hp hq k⟩
end
def LyB (w:World) (v:Value) (k:Nat) (M:List Re):Prop:=∃ g:Nat,v=.slice (some ⟨g,0,none⟩) k k∧ReB w g M
theorem LyB.keep {w w':World} {v:Value} {k:Nat} {M:List Re} (h:LyB w v k M) (hb:Below w.heap.size w w'):LyB w' v k M:=let ⟨g,e,hr⟩:=h;⟨g,e,hr.keep hb⟩
theorem sSeenPart_v (A:Option Addr) (c k:Nat) (R:List Nr) (a b i:Int) (w:World) (hk:k=R.length) (h:NrV w A R) (hr:RdR w R) (hL:R.length≤1048576) (hm:∀ p∈R,p.n.cs.length≤1048576∧p.n.rs.length≤1048576) :
  Calls Tryz.prog 17 #[.agg #[.slice A k c],.int .i64 a,.int .i64 b,.int .i64 i] w fun e w'=>e=.returned (seVal (spM (R.map Nr.n) a b i))∧Below w.heap.size w w':=by
 have hB0:Below w.heap.size w ((w.alloc (.cells #[.slice A k c] 30 (0,0))).alloc (.cells zRe 38 (0,0))):=balloc (balloc (Below.refl _ _));have HX:=hD (show ((w.alloc (.cells #[.slice A k c] 30 (0,0))).alloc (.cells zRe 38 (0,0))).heap[w.heap.size]?=some (.cells #[.slice A k c] 30 (0,0)) from (Below.heap_alloc _ _ _ (by simp)).trans (newS _ _))
 have HZ:=hD (show ((w.alloc (.cells #[.slice A k c] 30 (0,0))).alloc (.cells zRe 38 (0,0))).heap[w.heap.size+1]?=some (.cells zRe 38 (0,0)) from by have:=newS (w.alloc (.cells #[.slice A k c] 30 (0,0))) (.cells zRe 38 (0,0));rwa [World.size_alloc] at this);have HB:=hD hB0
 have HV:=hD (NrV.keep h (balloc (Below.refl _ _)) |>.keep (balloc (o:=.cells zRe 38 (0,0)) (Below.refl _ (w.alloc (.cells #[.slice A k c] 30 (0,0))))));have HR:=hD (RdR.keep hr (balloc (Below.refl _ _)) |>.keep (balloc (o:=.cells zRe 38 (0,0)) (Below.refl _ (w.alloc (.cells #[.slice A k c] 30 (0,0))))));have HM:=hD hm;have HK:=hD hk;have x0:=cellS HX.out 0;clear hB0 h hr hm hk
 have hsz:w.heap.size+1<((w.alloc (.cells #[.slice A k c] 30 (0,0))).alloc (.cells zRe 38 (0,0))).heap.size:=ltS HZ.out
 obtain ⟨q,hq⟩:∃ q,(treeB (R.map Nr.n)&&rng i 0 ((k:Int)-1))=q:=⟨_,rfl⟩
 have HQ:=hD hq;clear hq
 cases q
 ·have HN:=hD (show spM (R.map Nr.n) a b i=none by
   unfold spM;rw [if_neg];rintro ⟨h1,h2⟩;rw [List.length_map,<- HK.out] at h2;have hq:=HQ.out;rw [h2,Bool.and_true] at hq
   simp [lyL,hq] at h1)
  go_enter Tryz.func17,Tryz.ntmps17
  go_wp2_with fail
  refine (goodNode_v A c k R i false _ HK.out HV.out HR.out hL HM.out HQ.out).mono ?_;rintro e w1 ⟨rfl,hb⟩;clear x0;replace HX:=hbk hb HX;replace HZ:=hbk hb HZ;replace HB:=hD (bkeep2 HB.out hb);clear hb;have hs1:w.heap.size+1<w1.heap.size:=ltS HZ.out
  have hp2:(w1.setCells (w.heap.size+1) 0 (valsRe ⟨0,0,0,0⟩)).heap[w.heap.size+1]?=some (.cells (valsRe ⟨0,0,0,0⟩).toArray 38 (0,0)):=by rw [heap_setCells _ _ _ _ HZ.out,wrAt_all (by rfl)]
  have hb2:Below w.heap.size w (w1.setCells (w.heap.size+1) 0 (valsRe ⟨0,0,0,0⟩)):=below_setCells (by omega) _ _ _ HB.out;obtain ⟨⟨e0,e1,e2,e3⟩,-⟩:=four4 hp2;have HB2:=hD hb2;clear hp2 hb2
  go_wp2_with (first|((with_reducible show wpList _ _ _ _ _ _);refine stR (.tmp 8) (.tmp 20) ⟨0,0,0,0⟩ (w.heap.size+1) rfl rfl HZ.out rfl rfl rfl ?_))
  exact bodyPost_ret (v:=.tuple #[.agg #[.int .i64 (0),.int .i64 (0),.int .i64 (0),.int .i64 (0)],.bool false]) (by simp only [results,Tryz.results17];go_simp) rfl ⟨by rw [HN.out];rfl,HB2.out⟩
 ·cases hg:rgG a b
  ·have HN:=hD (show spM (R.map Nr.n) a b i=none by
    unfold spM;rw [if_neg];rintro ⟨h1,-⟩
    simp [lyL,hg] at h1)
   go_enter Tryz.func17,Tryz.ntmps17
   go_wp2_with fail
   refine (goodNode_v A c k R i true _ HK.out HV.out HR.out hL HM.out HQ.out).mono ?_;rintro e w1 ⟨rfl,hb⟩;clear x0;replace HX:=hbk hb HX;replace HZ:=hbk hb HZ;replace HB:=hD (bkeep2 HB.out hb);clear hb;have hs1:w.heap.size+1<w1.heap.size:=ltS HZ.out
   go_wp2_with fail
   with_reducible refine (goodRoom_g a b _).mono ?_
   rintro e w2 ⟨rfl,rfl⟩;rw [hg];clear hg
   have hp2:(w1.setCells (w.heap.size+1) 0 (valsRe ⟨0,0,0,0⟩)).heap[w.heap.size+1]?=some (.cells (valsRe ⟨0,0,0,0⟩).toArray 38 (0,0)):=by rw [heap_setCells _ _ _ _ HZ.out,wrAt_all (by rfl)]
   have hb2:Below w.heap.size w (w1.setCells (w.heap.size+1) 0 (valsRe ⟨0,0,0,0⟩)):=below_setCells (by omega) _ _ _ HB.out;obtain ⟨⟨e0,e1,e2,e3⟩,-⟩:=four4 hp2;have HB2:=hD hb2;clear hp2 hb2
   go_wp2_with (first|((with_reducible show wpList _ _ _ _ _ _);refine stR (.tmp 8) (.tmp 20) ⟨0,0,0,0⟩ (w.heap.size+1) rfl rfl HZ.out rfl rfl rfl ?_))
   exact bodyPost_ret (v:=.tuple #[.agg #[.int .i64 (0),.int .i64 (0),.int .i64 (0),.int .i64 (0)],.bool false]) (by simp only [results,Tryz.results17];go_simp) rfl ⟨by rw [HN.out];rfl,HB2.out⟩
  ·have hq:=HQ.out;rw [Bool.and_eq_true] at hq;obtain ⟨ht,hri⟩:=hq;obtain ⟨i1,i2⟩:=rng_iff.1 hri;obtain ⟨j,rfl⟩:=Int.eq_ofNat_of_zero_le i1
   have hj:j<R.length:=by have:=HK.out;omega
   have hly:lyL (R.map Nr.n) a b=(List.range k).map (lrM (R.map Nr.n) a b):=by simp [lyL,ht,hg,HK.out]
   obtain ⟨M,hM⟩:∃ M,(List.range k).map (lrM (R.map Nr.n) a b)=M:=⟨_,rfl⟩
   rw [hM] at hly
   have hml:M.length=k:=by rw [<- hM,List.length_map,List.length_range]
   have hok:=lyL_ok (L:=R.map Nr.n) (a:=a) (b:=b);rw [hly] at hok;obtain ⟨hT,hMR,hLw⟩:=hok (by omega);rw [List.length_map] at hMR;obtain ⟨r,t,hv⟩:=seVal_ex (seM (R.map Nr.n) M j)
   have HN:=hD (show seVal (spM (R.map Nr.n) a b (j:Int))=.tuple #[.agg #[.int .i64 (r.x),.int .i64 (r.y),.int .i64 (r.u),.int .i64 (r.v)],.bool t] by
    unfold spM
    rw [hly,if_pos ⟨by omega,by rw [List.length_map,<- HK.out];exact hri⟩,Int.toNat_natCast,hv])
   have HS:=hD (show ∀ (g:Nat) (W:World),NrV W A R→ReB W g M→Calls Tryz.prog 39 #[.agg #[.slice A k c],.slice (some ⟨g,0,none⟩) k k,.int .i64 (j:Int)] W fun e w'=>e=.returned (.tuple #[.agg #[.int .i64 (r.x),.int .i64 (r.y),.int .i64 (r.u),.int .i64 (r.v)],.bool t])∧Below W.heap.size W w' from fun g W h1 h2=>by
    have:=seen_m A c R M g j W hT h1 h2 hMR hLw hj
    rw [hv,<- HK.out] at this
    exact this)
   have HT:=hD ht;have HG:=hD (rgG_yes hg);have HMM:=hD hM;clear ht hri i1 i2 hly hM hml hok hT hMR hLw hv
   go_enter Tryz.func17,Tryz.ntmps17
   go_wp2_with fail
   refine (goodNode_v A c k R j true _ HK.out HV.out HR.out hL HM.out HQ.out).mono ?_;rintro e w1 ⟨rfl,hb⟩;clear x0;replace HX:=hbk hb HX;replace HZ:=hbk hb HZ;replace HV:=hD (HV.out.keep hb);replace HR:=hD (HR.out.keep hb);replace HB:=hD (bkeep2 HB.out hb);clear hb;have x0:=cellS HX.out 0;have hs1:w.heap.size+1<w1.heap.size:=ltS HZ.out;have hs0:w.heap.size<w1.heap.size:=ltS HX.out
   go_wp2_with fail
   with_reducible refine (goodRoom_g a b _).mono ?_
   rintro e w2 ⟨rfl,rfl⟩;rw [hg];clear hg
   go_wp2_with fail
   refine wp_region_rxl 7 4 [] #[true,true,true,true,true,true,true,false,false,false,false] (by kernel_rfl) (by kernel_rfl) (by kernel_rfl) (XV (.agg #[.slice A k c]) :: XV (.agg #[.slice A k c]) :: XV (.int .i64 a) :: XV (.int .i64 b) :: (fun v z=>LyB z v k M) :: XV (.int .i64 (j:Int)) :: XV (.tuple #[.agg #[.int .i64 r.x,.int .i64 r.y,.int .i64 r.u,.int .i64 r.v],.bool t]) :: []) (by kernel_rfl) (by kernel_rfl) (by kernel_rfl) ?hTs ?hXs ?hops ?hfin
   case hTs =>
    intro T hT;simp only [List.mem_cons,List.not_mem_nil,or_false] at hT
    rcases hT with rfl | rfl | rfl | rfl | rfl | rfl | rfl <;> first | exact stay_V _ | exact stay_T | exact stay_of (fun v a b x g=>x.keep g) | exact stay_of (fun v a b x g=>x)
   case hXs =>
    intro x d s hx;exact absurd hx (List.not_mem_nil)
   case hops =>
    refine ⟨opOK_rx [(4,none)] (by kernel_rfl) rfl ?_,?_⟩
    ·intro act w' hw' h1;obtain ⟨hk,hf⟩:=evkf act;generalize act.eval=ρ at *;replace h1:ρ (.tmp 4)=.pointer (some ⟨w.heap.size,0,none⟩):=h1
     refine gxB hw' fun K hK hc hf'=>?_
     go_simp;exact hK _ _ ⟨rfl,Gr.refl _⟩
    refine ⟨opOK_rx [(4,none)] (by kernel_rfl) rfl ?_,?_⟩
    ·intro act w' hw' h1;obtain ⟨hk,hf⟩:=evkf act;generalize act.eval=ρ at *;replace h1:ρ (.tmp 4)=.pointer (some ⟨w.heap.size,0,none⟩):=h1
     refine gxB hw' fun K hK hc hf'=>?_
     go_simp;exact hK _ _ ⟨rfl,Gr.refl _⟩
    refine ⟨opOK_rx [(1,none)] (by kernel_rfl) rfl ?_,?_⟩
    ·intro act w' hw' h1;obtain ⟨hk,hf⟩:=evkf act;generalize act.eval=ρ at *;replace h1:ρ (.tmp 1)=.int .i64 a:=h1
     refine gxB hw' fun K hK hc hf'=>?_
     go_simp;exact hK _ _ ⟨rfl,Gr.refl _⟩
    refine ⟨opOK_rx [(2,none)] (by kernel_rfl) rfl ?_,?_⟩
    ·intro act w' hw' h1;obtain ⟨hk,hf⟩:=evkf act;generalize act.eval=ρ at *;replace h1:ρ (.tmp 2)=.int .i64 b:=h1
     refine gxB hw' fun K hK hc hf'=>?_
     go_simp;exact hK _ _ ⟨rfl,Gr.refl _⟩
    refine ⟨opOK_rx [(22,some 1),(23,some 2),(24,some 3)] (by kernel_rfl) rfl ?_,?_⟩
    ·intro act w' hw' h1 h2 h3;obtain ⟨hk,hf⟩:=evkf act;generalize act.eval=ρ at *;replace h1:ρ (.tmp 22)=.agg #[.slice A k c]:=h1;replace h2:ρ (.tmp 23)=.int .i64 a:=h2;replace h3:ρ (.tmp 24)=.int .i64 b:=h3
     refine gxB hw' fun K hK hc hf'=>?_
     go_simp
     (refine (slayout_v A c k R a b _ (trOK_of HT.out) HK.out (HV.out.keep (bdrewn hw'.out)) (HR.out.keep (bdrewn hw'.out)) HG.out.1 HG.out.2).mono ?_);rintro e w3 ⟨⟨g,rfl,hgl,hre⟩,hb1⟩;rw [HMM.out] at hre;exact ⟨_,rfl,hK _ _ ⟨⟨g,rfl,hre⟩,Gr.of hb1⟩⟩
    refine ⟨opOK_rx [(3,none)] (by kernel_rfl) rfl ?_,?_⟩
    ·intro act w' hw' h1;obtain ⟨hk,hf⟩:=evkf act;generalize act.eval=ρ at *;replace h1:ρ (.tmp 3)=.int .i64 (j:Int):=h1
     refine gxB hw' fun K hK hc hf'=>?_
     go_simp;exact hK _ _ ⟨rfl,Gr.refl _⟩
    refine ⟨opOK_rx [(21,some 0),(25,some 4),(26,some 5)] (by kernel_rfl) rfl ?_,?_⟩
    ·intro act w' hw' h1 h2 h3;obtain ⟨hk,hf⟩:=evkf act;generalize act.eval=ρ at *;replace h1:ρ (.tmp 21)=.agg #[.slice A k c]:=h1;replace h2:(fun v z=>LyB z v k M) (ρ (.tmp 25)) w':=h2;replace h3:ρ (.tmp 26)=.int .i64 (j:Int):=h3;refine gx_gen (fun K hK=>?_)
     obtain ⟨g,e2,hre⟩:=h2;obtain ⟨hc,hf'⟩:=bcell (bdrewn hw'.out);go_simp;refine (HS.out g _ (HV.out.keep (bdrewn hw'.out)) hre).mono ?_;rintro e w3 ⟨rfl,hb1⟩;exact ⟨_,rfl,hK _ _ ⟨rfl,Gr.of hb1⟩⟩
    exact trivial
   case hfin =>
    intro w5 hg5;intro v21 t21;replace t21:v21=.agg #[.slice A k c]:=t21;subst t21;intro v22 t22;replace t22:v22=.agg #[.slice A k c]:=t22;subst t22;intro v23 t23;replace t23:v23=.int .i64 a:=t23;subst t23;intro v24 t24;replace t24:v24=.int .i64 b:=t24;subst t24;intro v25 t25;replace t25:(fun v z=>LyB z v k M) v25 w5:=t25;intro v26 t26;replace t26:v26=.int .i64 (j:Int):=t26;subst t26;intro v27 t27
    replace t27:v27=.tuple #[.agg #[.int .i64 r.x,.int .i64 r.y,.int .i64 r.u,.int .i64 r.v],.bool t]:=t27;subst t27;have hb5:=bdrewn hg5.out;clear hg5;simp only [finP,List.take_succ_cons,List.take_zero,Act.put,List.setIfInBounds_toArray,List.set_cons_succ,List.set_cons_zero];replace HZ:=hD ((hb5.block _ (ltS HZ.out)).trans HZ.out);replace HB:=hD (bkeep2 HB.out hb5)
    have HFN:=hD (show (w5.setCells (w.heap.size+1) 0 (valsRe r)).heap[w.heap.size+1]?=some (.cells (valsRe r).toArray 38 (0,0))∧Below w.heap.size w (w5.setCells (w.heap.size+1) 0 (valsRe r)) from ⟨by rw [heap_setCells _ _ _ _ HZ.out,wrAt_all (by rfl)],below_setCells (by omega) _ _ _ HB.out⟩);obtain ⟨⟨p0,p1,p2,p3⟩,fp0,fp1,fp2,fp3⟩:=four4 (S:=⟨0,0,0,0⟩) HZ.out;clear hb5 HS x0
    refine wpAny_two (i:=7) (j:=8) (by kernel_rfl) rfl rfl rfl rfl ?_ ?_
    ·go_simp;refine wpAny_one (i:=8) (by kernel_rfl) rfl rfl ?_;go_simp;refine wpAny_one (i:=9) (by kernel_rfl) rfl rfl ?_;go_simp;refine wpAny_one (i:=10) (by kernel_rfl) rfl rfl ?_;go_simp;refine wpAny_end (by kernel_rfl) ?_;refine NoPan.thn ?_;refine genK (fun W2=>W2.heap[w.heap.size+1]?=some (.cells (valsRe r).toArray 38 (0,0))∧Below w.heap.size w W2) HFN.out (fun W2 h2=>?_)
     obtain ⟨hp2,hb2⟩:=h2;obtain ⟨⟨e0,e1,e2,e3⟩,-⟩:=four4 hp2;clear hp2;go_wp2;exact bodyPost_ret (v:=.tuple #[.agg #[.int .i64 (r.x),.int .i64 (r.y),.int .i64 (r.u),.int .i64 (r.v)],.bool t]) (by simp only [results,Tryz.results17];go_simp) rfl ⟨by rw [HN.out],hb2⟩
    ·go_simp;refine wpAny_one (i:=7) (by kernel_rfl) rfl rfl ?_;go_simp;refine wpAny_one (i:=9) (by kernel_rfl) rfl rfl ?_;go_simp;refine wpAny_one (i:=10) (by kernel_rfl) rfl rfl ?_;go_simp;refine wpAny_end (by kernel_rfl) ?_;refine NoPan.thn ?_;refine genK (fun W2=>W2.heap[w.heap.size+1]?=some (.cells (valsRe r).toArray 38 (0,0))∧Below w.heap.size w W2) HFN.out (fun W2 h2=>?_)
     obtain ⟨hp2,hb2⟩:=h2;obtain ⟨⟨e0,e1,e2,e3⟩,-⟩:=four4 hp2;clear hp2;go_wp2;exact bodyPost_ret (v:=.tuple #[.agg #[.int .i64 (r.x),.int .i64 (r.y),.int .i64 (r.u),.int .i64 (r.v)],.bool t]) (by simp only [results,Tryz.results17];go_simp) rfl ⟨by rw [HN.out],hb2⟩
end
section
attribute [local go_sem 5000] run_mx run_mn
theorem eqRect_same (x y u v:Int) (w:World):Calls Tryz.prog 19 #[.agg #[.int .i64 (x),.int .i64 (y),.int .i64 (u),.int .i64 (v)],.agg #[.int .i64 (x),.int .i64 (y),.int .i64 (u),.int .i64 (v)]] w fun e w'=>e=.returned (.bool true)∧Below w.heap.size w w':=by
 go_enter Tryz.func19,Tryz.ntmps19
 go_wp2;go_ret;exact ⟨ret_bool rfl,(by repeat (first | with_reducible exact Below.refl _ _ | with_reducible assumption | with_reducible refine balloc ?_|(with_reducible refine bset ?_ ?_;rotate_left;((try dsimp only);omega)) | refine bkeep2 ?_ (by assumption) | with_reducible refine Below.drew ?_))⟩
end
end Go.Proofs.YtmmfifgdgbmgjaaGreat
