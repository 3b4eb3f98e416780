import Derived.Test.YtfnpdlnepjhljaaGreatQN13
set_option linter.unusedVariables false
set_option linter.unusedSimpArgs false
set_option maxRecDepth 100000
set_option maxHeartbeats 16000000
namespace Go.Proofs.YtfnpdlnepjhljaaGreat
open Go.RowKit
attribute [local go_sem] growUpon_value growUpon_skip growUpon_enter
def natM (L:List Nd):List Re:=lyL L (szM L 0).1 (szM L 0).2
theorem natM_len (L:List Nd):(natM L).length≤10:=lyL_len _ _ _
theorem natM_no {L:List Nd} (h:treeB L=false):natM L=[]:=by simp [natM,lyL,h]
theorem NaturalLayout_v (A:Option Addr) (c k:Nat) (R:List Nr) (w:World) (hk:k=R.length) (h:NrV w A R) (hr:RdR w R) (hL:R.length≤1048576) (hm:∀ p∈R,p.n.cs.length≤1048576∧p.n.rs.length≤1048576) :
  Calls Tryz.prog 27 #[.agg #[.slice A k c]] w fun e w'=>(∃ x,e=.returned x∧GRB w.heap.size w' x (natM (R.map Nr.n)))∧Below w.heap.size w w':=by
 have hB0:Below w.heap.size w (w.alloc (.cells #[.slice A k c] 25 (0,0))):=balloc (Below.refl _ _);have HX:=hD (newS w (.cells #[.slice A k c] 25 (0,0)));have HB:=hD hB0;have HV:=hD (h.keep hB0);have HR:=hD (hr.keep hB0);have HM:=hD hm;have HK:=hD hk;have x0:=cellS HX.out 0;clear hB0 h hr hm hk
 cases ht:treeB (R.map Nr.n)
 ·have hn:=natM_no ht;rw [hn];have HT:=hD ht
  have hl:lyL (R.map Nr.n) (-1) (-1)=[]:=by simp [lyL,ht]
  have HL0:=hD hl;clear ht hn hl
  go_enter Tryz.func27,Tryz.ntmps27
  go_wp2_with fail
  with_reducible refine (RequestOf_no A c k R 0 _ HK.out HV.out HR.out hL HM.out (by rw [HT.out,Bool.false_and])).mono ?_
  rintro e w1 ⟨rfl,hb⟩;clear x0;replace HX:=hbk hb HX;replace HV:=hD (HV.out.keep hb);replace HR:=hD (HR.out.keep hb);replace HB:=hD (bkeep2 HB.out hb);clear hb;have x0:=cellS HX.out 0;have hsz:=HB.out.size
  go_wp2_with fail
  with_reducible refine (LayoutTree_v A c k R (-1) (-1) _ HK.out HV.out HR.out hL HM.out).mono ?_
  rintro e w3 ⟨⟨g,rfl,hre⟩,hb⟩;rw [HL0.out] at hre;have HRE:=hD (hre.mono hsz);clear x0 hre;replace HB:=hD (bkeep2 HB.out hb);clear hb;go_wp2;go_ret;exact ⟨⟨_,rfl,HRE.out⟩,HB.out⟩
 ·have HT:=hD ht
  have hj:0<R.length:=by have:=(tree_len ht).1;rwa [List.length_map] at this
  clear ht
  go_enter Tryz.func27,Tryz.ntmps27
  go_wp2_with fail
  refine (RequestOf_yes A c k R 0 _ HK.out HV.out HR.out hL HM.out HT.out hj).mono ?_;rintro e w1 ⟨rfl,hb⟩;clear x0;replace HX:=hbk hb HX;replace HV:=hD (HV.out.keep hb);replace HR:=hD (HR.out.keep hb);replace HB:=hD (bkeep2 HB.out hb);clear hb;have x0:=cellS HX.out 0;have hsz:=HB.out.size
  go_wp2_with fail
  with_reducible refine (LayoutTree_v A c k R _ _ _ HK.out HV.out HR.out hL HM.out).mono ?_
  rintro e w3 ⟨⟨g,rfl,hre⟩,hb⟩;have HRE:=hD (hre.mono hsz);clear x0 hre;replace HB:=hD (bkeep2 HB.out hb);clear hb;go_wp2;go_ret;exact ⟨⟨_,rfl,HRE.out⟩,HB.out⟩
theorem sNaturalLayout_v (A:Option Addr) (c k:Nat) (R:List Nr) (w:World) (hk:k=R.length) (h:NrV w A R) (hr:RdR w R) (hL:R.length≤1048576) (hm:∀ p∈R,p.n.cs.length≤1048576∧p.n.rs.length≤1048576) :
  Calls Tryz.prog 28 #[.agg #[.slice A k c]] w fun e w'=>(∃ x,e=.returned x∧ReR w' x (natM (R.map Nr.n)))∧Below w.heap.size w w':=by
 have hB0:Below w.heap.size w (w.alloc (.cells #[.slice A k c] 25 (0,0))):=balloc (Below.refl _ _);have HX:=hD (newS w (.cells #[.slice A k c] 25 (0,0)));have HB:=hD hB0;have HV:=hD (h.keep hB0);have HR:=hD (hr.keep hB0);have HM:=hD hm;have HK:=hD hk;have x0:=cellS HX.out 0;clear hB0 h hr hm hk
 cases ht:treeB (R.map Nr.n)
 ·rw [natM_no ht];have HT:=hD ht;clear ht
  go_enter Tryz.func28,Tryz.ntmps28
  go_wp2_with fail
  with_reducible refine (svalidTree_n A c k R false _ HK.out HV.out HR.out hL HM.out HT.out).mono ?_
  rintro e w1 ⟨rfl,hb⟩;clear x0;replace HX:=hbk hb HX;replace HB:=hD (bkeep2 HB.out hb);clear hb;have x0:=cellS HX.out 0;go_wp2;go_ret;exact ⟨⟨_,rfl,⟨none,0,rfl,ReV.nil _ _⟩⟩,HB.out⟩
 ·have hj:0<R.length:=by have:=(tree_len ht).1;rwa [List.length_map] at this
  have HSZ:=hD (HK.out ▸ sizeOf_v A c R (trOK_of ht) R.length 0);unfold natM;generalize hu:(szM (R.map Nr.n) 0).1=u;generalize hv:(szM (R.map Nr.n) 0).2=v;rw [hu,hv] at HSZ;clear hu hv
  cases hg:rgG u v
  ·rw [show lyL (R.map Nr.n) u v=[] by simp [lyL,hg]];have HT:=hD ht;clear ht
   go_enter Tryz.func28,Tryz.ntmps28
   go_wp2_with fail
   with_reducible refine (svalidTree_n A c k R true _ HK.out HV.out HR.out hL HM.out HT.out).mono ?_
   rintro e w1 ⟨rfl,hb⟩;clear x0;replace HX:=hbk hb HX;replace HV:=hD (HV.out.keep hb);replace HR:=hD (HR.out.keep hb);replace HB:=hD (bkeep2 HB.out hb);clear hb;have x0:=cellS HX.out 0
   go_wp2_with fail
   refine (HSZ.out _ (by have:=HK.out;omega) (by have:=HK.out;omega) HV.out HR.out).mono ?_;rintro e w1 ⟨rfl,hb⟩;clear x0;replace HX:=hbk hb HX;replace HB:=hD (bkeep2 HB.out hb);clear hb;have x0:=cellS HX.out 0
   go_wp2_with fail
   with_reducible refine (goodRoom_g u v _).mono ?_
   rintro e w2 ⟨rfl,rfl⟩;rw [hg];clear hg;go_wp2;go_ret;exact ⟨⟨_,rfl,⟨none,0,rfl,ReV.nil _ _⟩⟩,HB.out⟩
  ·rw [show lyL (R.map Nr.n) u v=(List.range k).map (lrM (R.map Nr.n) u v) by simp [lyL,ht,hg,HK.out]];have HT:=hD ht;have HG:=hD (rgG_yes hg);clear ht
   go_enter Tryz.func28,Tryz.ntmps28
   go_wp2_with fail
   with_reducible refine (svalidTree_n A c k R true _ HK.out HV.out HR.out hL HM.out HT.out).mono ?_
   rintro e w1 ⟨rfl,hb⟩;clear x0;replace HX:=hbk hb HX;replace HV:=hD (HV.out.keep hb);replace HR:=hD (HR.out.keep hb);replace HB:=hD (bkeep2 HB.out hb);clear hb;have x0:=cellS HX.out 0
   go_wp2_with fail
   refine (HSZ.out _ (by have:=HK.out;omega) (by have:=HK.out;omega) HV.out HR.out).mono ?_;rintro e w1 ⟨rfl,hb⟩;clear x0;replace HX:=hbk hb HX;replace HV:=hD (HV.out.keep hb);replace HR:=hD (HR.out.keep hb);replace HB:=hD (bkeep2 HB.out hb);clear hb;have x0:=cellS HX.out 0
   go_wp2_with fail
   with_reducible refine (goodRoom_g u v _).mono ?_
   rintro e w2 ⟨rfl,rfl⟩;rw [hg];clear hg
   go_wp2_with fail
   with_reducible refine (slayout_v A c k R u v _ (trOK_of HT.out) HK.out HV.out HR.out HG.out.1 HG.out.2).mono ?_
   rintro e w3 ⟨⟨g,rfl,hgl,hre⟩,hb⟩;have HRE:=hD hre;clear x0 hre;replace HB:=hD (bkeep2 HB.out hb);clear hb;go_wp2;go_ret;exact ⟨⟨_,rfl,⟨_,k,by rw [List.length_map,List.length_range];rfl,HRE.out.v⟩⟩,HB.out⟩
section
section
variable {P:Program} {md:Region.Mode} {ops:Array Oper} {Q:Exit→Act→World→Prop}
def frB (md:Region.Mode) (ops:Array Oper) (listed:Array Bool) (i:Nat) (oi:Oper):Bool:=(List.range ops.size).all fun j=>match ops[j]? with
 | none=>true
 | some oj=>(j == i) || listed.getD j true || (oj.after.any fun e=>Region.binds md e&&e.on == i) || oi.apart ops oj
def noSel (ops:Array Oper):Bool:=ops.all fun o=>match o.op with
 | .select _ _=>false
 | _=>true
theorem wpAny_fst {f:Nat} {listed:Array Bool} {a:Act} {w:World} {i:Nat} {oi:Oper} {v:Value} (hr:(Region.ready md ops listed).contains i=true) (hi:ops[i]?=some oi) (hg:Region.wanted oi (yielded ops a.tmps)=true) (hv:∀ w,(execOp a.eval oi).run P w=.ok (.value v) w)
  (hF:frB md ops listed i oi=true) (hS:noSel ops=true) (hQ:∀ c a w,Q (.panic c) (a.put oi.dst v) w→Q (.panic c) a w)
  (h:wpAny P md ops Q f (listed.setIfInBounds i true) (a.put oi.dst v) w):wpAny P md ops Q (f+1) listed a w:=by
 refine wpAny_first hi (fun j o cs b ho e=>?_) hQ f listed a w (fun j oj hj hne hl hw=>?_) (by simpa using hr) (.inl ⟨hg,hv⟩) h
 ·have hjs:=(gE ho).1
  have:=Array.all_eq_true.1 hS j hjs
  rw [(gE ho).2,e] at this
  cases this
 ·have hjs:=(gE hj).1
  have:=List.all_eq_true.1 hF j (List.mem_range.2 hjs)
  rw [hj] at this;simp only [Bool.or_eq_true] at this
  rcases this with ((h1 | h1) | h1) | h1
  ·exact absurd (by simpa using h1) hne
  ·rw [hl] at h1;cases h1
  ·exfalso
   obtain ⟨k,hk,h2⟩:=Array.any_eq_true.1 h1;rw [Bool.and_eq_true] at h2;exact hw _ (Array.getElem_mem hk) h2.1 (by simpa using h2.2)
  ·exact h1
theorem wpAny_oneH {f:Nat} {listed:Array Bool} {a:Act} {w:World} {i:Nat} {o:Oper} (hr:Region.ready md ops listed=[i]) (ho:ops[i]?=some o) (hg:Region.wanted o (yielded ops a.tmps)=true)
  (h:o.wp P a w (wpAny P md ops Q f (listed.setIfInBounds i true)) Q):wpAny P md ops Q (f+1) listed a w :=
 ⟨fun h0=>(by rw [hr] at h0;cases h0),fun j hj=>by
  rw [hr] at hj;obtain rfl:=List.mem_singleton.1 hj;unfold wpOp;simp only [ho];rw [if_pos hg]
  exact .inl h⟩
end
end
end Go.Proofs.YtfnpdlnepjhljaaGreat
