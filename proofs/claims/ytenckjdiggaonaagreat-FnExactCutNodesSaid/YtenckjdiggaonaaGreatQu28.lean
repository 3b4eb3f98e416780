import Derived.Test.YtenckjdiggaonaaGreatQu27
set_option linter.unusedVariables false
set_option linter.unusedSimpArgs false
set_option maxRecDepth 100000
set_option maxHeartbeats 16000000
namespace Go.Proofs.YtenckjdiggaonaaGreat
open Go.RowKit
attribute [local go_sem] growUpon_value growUpon_skip growUpon_enter
section
section
variable {P:Program}
def cloX (l:List Oper) (n:Nat) (X:Nat→Bool):Bool:=decide (n≤l.length) && (List.range l.length).all fun i=>decide (i<n) || (List.range n).all fun j=>X j || reachB l l.length i j
theorem wpAny_rgpX {l:List Oper} {Q:Exit→Act→World→Prop} {a0:Act} {w:World} (T:Nat→Value→World→Prop) (R:World→World→Prop) (I:Nat→World→Prop)
  (n1:Nat) (hB:rgC l a0.tmps.size=true) (X:Nat→Bool) (hC:cloX l n1 X=true) (hRr:∀ a,R a a) (hRt:∀ a b c,R a b→R b c→R a c) (hTs:∀ k v a b,T k v a→R a b→T k v b) (hI0:I 0 w.drew)
  (hops:opsOK P l T R I a0 w.drew (l.take n1) 0) (hfin:∀ w',R w.drew w'→I n1 w'→finP T w' (fun a'=>wpAny P .any l.toArray Q (l.length - n1) (listedTo n1 0 (Array.replicate l.toArray.size false)) a' w') (l.take n1) 0 a0) :
  ∀ (fuel m:Nat) (listed:Array Bool) (a:Act) (w':World),cntF (fun i=>listed.getD i true) l.length=fuel→listed.size=l.length→fuel+m=l.length→(∀ i,n1≤i→i<l.length→listed.getD i false=false)→(∀ j,X j=true→listed.getD j false=true)→DC l listed→RJ l T R I a0 w.drew m listed a w' →
   wpAny P .any l.toArray Q fuel listed a w':=by
 simp only [rgC,Bool.and_eq_true] at hB;obtain ⟨hns,hB⟩:=hB
 have hB':∀ (i:Nat) (o:Oper),l[i]?=some o→(∀ e ∈ o.after,Region.binds .any e=true→e.on<i)∧(∀ d,o.dst=some d→d<a0.tmps.size∧dstIdx d l 0=some i)∧(∀ t ∈ o.looksAt l.toArray,∀ j,dstIdx t l 0=some j→∃ e ∈ o.after,e.on=j∧Region.binds .any e=true):=by
  intro i o ho;have hlt:=(List.getElem?_eq_some_iff.1 ho).1;have h1:=List.all_eq_true.1 hB i (List.mem_range.2 hlt);simp only [ho,Bool.and_eq_true] at h1;obtain ⟨⟨h1,h2⟩,h3⟩:=h1;refine ⟨fun e he hb=>by have:=List.all_eq_true.1 h1 e (by simpa using he);simpa [hb] using this,fun d hd=>?_,fun t ht j hj=>?_⟩
  ·rw [hd] at h2;simp only [Option.all_some,Bool.and_eq_true,decide_eq_true_eq,beq_iff_eq] at h2;exact h2
  ·have h4:=List.all_eq_true.1 h3 t ht;rw [hj] at h4;obtain ⟨e,he,h5⟩:=List.any_eq_true.1 h4;simp only [Bool.and_eq_true,beq_iff_eq] at h5;exact ⟨e,by simpa using he,h5⟩
 have hdist:∀ (i:Nat) (o:Oper) (j:Nat) (p:Oper),l[i]?=some o→l[j]?=some p→i ≠ j→∀ d,o.dst=some d→p.dst ≠ some d:=by
  intro i o j p ho hp hij d hd hpd;have h1:=((hB' i o ho).2.1 d hd).2;rw [((hB' j p hp).2.1 d hpd).2] at h1
  injection h1 with h1
  exact hij h1.symm
 obtain ⟨hle1,hcl⟩:n1≤l.length∧∀ i,n1≤i→i<l.length→∀ j,j<n1→X j=false→reachB l l.length i j=true:=by
  simp only [cloX,Bool.and_eq_true,decide_eq_true_eq,List.all_eq_true,List.mem_range,Bool.or_eq_true] at hC;refine ⟨hC.1,fun i hi hil j hj hX=>?_⟩
  rcases hC.2 i hil with h | h
  ·omega
  ·rcases h j hj with h | h
   ·rw [hX] at h;cases h
   ·exact h
 intro fuel
 have hdone:∀ (m:Nat) (listed:Array Bool) (a:Act) (w':World),cntF (fun i=>listed.getD i true) l.length=l.length - m→listed.size=l.length→m≤l.length→(∀ i,n1≤i→i<l.length→listed.getD i false=false)→(∀ i,i<n1→listed.getD i false=true)→RJ l T R I a0 w.drew m listed a w'→wpAny P .any l.toArray Q (l.length - m) listed a w':=by
  rintro m listed a w' hc hls hml hlow hall ⟨hR,hI,hd,hs,ht,hT⟩
  have hm1:m=n1:=by
   have h1:cntF (fun i=>listed.getD i true) l.length=cntF (fun i=>decide (i<n1)) l.length:=cntF_same (fun i hi=>by
    by_cases h:i<n1
    ·have:=hall i h
     rw [Array.getD_eq_getD_getElem?,Array.getElem?_eq_getElem (by omega)] at *
     simpa [h] using this
    ·have:=hlow i (by omega) hi
     rw [Array.getD_eq_getD_getElem?,Array.getElem?_eq_getElem (by omega)] at *
     simpa [h] using this)
   rw [h1,cntF_lt] at hc;omega
  subst hm1
  have he:listed=listedTo m 0 (Array.replicate l.toArray.size false):=by
   apply Array.ext
   ·rw [listedTo_size];simp [hls]
   ·intro i h1 h2
    have e1:listed[i]=listed.getD i false:=by rw [Array.getD_eq_getD_getElem?,Array.getElem?_eq_getElem h1];rfl
    have e2:(listedTo m 0 (Array.replicate l.toArray.size false))[i]=(listedTo m 0 (Array.replicate l.toArray.size false)).getD i false:=by rw [Array.getD_eq_getD_getElem?,Array.getElem?_eq_getElem h2];rfl
    rw [e1,e2,listedTo_getD (by simpa using (by omega:0+m≤l.length))]
    by_cases h:i<m
    ·rw [hall i h,if_pos (by omega)]
    ·rw [hlow i (by omega) (by omega),if_neg (by omega),Array.getD_eq_getD_getElem?,Array.getElem?_replicate]
     split <;> rfl
  have hlm:∀ (j:Nat) (o:Oper),l[j]?=some o→listed.getD j false=true→j<m:=fun j o ho hl=>by
   by_cases h:j<m
   ·exact h
   ·exfalso
    have:=hlow j (by omega) (List.getElem?_eq_some_iff.1 ho).1
    rw [hl] at this
    cases this
  rw [he];refine finP_to (T:=T) (w:=w') (F:=fun a'=>wpAny P .any l.toArray Q (l.length - m) (listedTo m 0 (Array.replicate l.toArray.size false)) a' w') (l:=l.take m) (k:=0) (b:=a0) hd.symm hs.symm (fun t h=>?_) (fun j o ho hn=>?_) (hfin w' hR hI)
  ·exact (ht t fun j o ho hl=>h o (by
    have hj:=hlm j o ho hl
    exact List.mem_of_getElem? (i:=j) (by rw [List.getElem?_take,if_pos hj];exact ho))).symm
  ·rw [Nat.zero_add];rw [List.getElem?_take] at ho
   split at ho
   ·rename_i hj
    exact hT j o ho (hall j hj) hn
   ·cases ho
 induction fuel with
 | zero =>
  intro m listed a w' hc hls hm' hlow hx hdc hJ
  have hall:∀ i,i<l.length→listed.getD i false=true:=fun i hi=>by
   have:=cntF_zero hc i hi
   rw [Array.getD_eq_getD_getElem?,Array.getElem?_eq_getElem (by omega)] at *
   simpa using this
  have h:=hdone m listed a w' (by rw [hc];omega) hls (by omega) hlow (fun i hi=>hall i (by omega)) hJ
  rwa [show l.length - m=0 by omega] at h
 | succ fuel ih =>
  intro m listed a w' hc hls hm' hlow hx hdc hJ
  by_cases hph:∀ i,i<n1→listed.getD i false=true
  ·have h:=hdone m listed a w' (by rw [hc];omega) hls (by omega) hlow hph hJ
   rwa [show l.length - m=fuel+1 by omega] at h
  have hlt1:∀ (i:Nat) (o:Oper),l[i]?=some o→listed.getD i false=false→(∀ e ∈ o.after,Region.binds .any e=true→listed.getD e.on false=true)→i<n1:=fun i o ho h0 hall=>by
   by_cases h:i<n1
   ·exact h
   ·exfalso
    apply hph;intro j hj
    by_cases hX:X j=true
    ·exact hx j hX
    have hr:=hcl i (by omega) (List.getElem?_eq_some_iff.1 ho).1 j hj (by simpa using hX)
    have hpos:l.length=(l.length - 1)+1:=by have:=(List.getElem?_eq_some_iff.1 ho).1;omega
    rw [hpos] at hr;simp only [reachB,ho,List.any_eq_true,Bool.and_eq_true,Bool.or_eq_true,beq_iff_eq] at hr;obtain ⟨e,he,hb,hr⟩:=hr;have hl:=hall e (by simpa using he) hb
    rcases hr with rfl | hr
    ·exact hl
    ·exact DC.reach hdc _ hl hr
  refine ⟨fun hr=>?_,fun i hi=>?_⟩
  ·exfalso
   apply hph;intro i
   induction i using Nat.strongRecOn with
   | ind i ih' =>
    intro hi
    by_cases hl:listed.getD i false=true
    ·exact hl
    ·exfalso
     have hil:i<l.length:=by omega
     have ho:l[i]?=some l[i]:=List.getElem?_eq_getElem hil
     have hmem:i ∈ Region.ready .any l.toArray listed:=mem_ready.2 ⟨by
      rw [Array.getD_eq_getD_getElem?,Array.getElem?_eq_getElem (by omega)] at *;simp only [Option.getD_some,Bool.not_eq_true] at *
      exact hl,l[i],by simp,fun e he hb=>ih' e.on ((hB' i _ ho).1 e he hb) (by have:=(hB' i _ ho).1 e he hb;omega)⟩
     rw [hr] at hmem
     cases hmem
  ·obtain ⟨h0,o,ho',hall⟩:=mem_ready.1 hi
   have ho:l[i]?=some o:=by simpa using ho'
   have hlt:i<l.length:=(List.getElem?_eq_some_iff.1 ho).1
   have h0':listed.getD i false=false:=by
    rw [Array.getD_eq_getD_getElem?,Array.getElem?_eq_getElem (by omega)] at *
    simpa using h0
   have hi1:i<n1:=hlt1 i o ho h0' hall
   have hot:(l.take n1)[i]?=some o:=by rw [List.getElem?_take,if_pos hi1];exact ho
   obtain ⟨hR,hI,hd,hs,ht,hT⟩:=hJ;obtain ⟨b1,b2,b3⟩:=hB' i o ho
   have hlook:∀ t ∈ o.looksAt l.toArray,match dstIdx t l 0 with | some j=>T j (tv a t) w' | none=>tv a t=tv a0 t:=by
    intro t htm
    cases hj:dstIdx t l 0 with
    | none =>
     refine tv_of (ht t fun j p hp _=>dstIdx_none hj p (List.mem_of_getElem? hp))
    | some j =>
     obtain ⟨e,he,rfl,hb⟩:=b3 t htm j hj;obtain ⟨_,p,hp,hpd⟩:=dstIdx_some hj
     have:=hT e.on p (by simpa using hp) (hall e he hb) (by rw [hpd];simp)
     rw [hpd] at this;exact this
   have hop:=look_of hlook (opsOK_at hops hot m a w' (by omega) hR hI);rw [Nat.zero_add] at hop
   have hget:∀ d,(listed.setIfInBounds i true).getD i d=true:=fun d=>by
    rw [Array.getD_eq_getD_getElem?,Array.getElem?_setIfInBounds_self_of_lt (by omega)];rfl
   have next:∀ v w1,T i v w1→R w' w1→I (m+1) w1→wpAny P .any l.toArray Q fuel (listed.setIfInBounds i true) (a.put o.dst v) w1:=by
    intro v w1 hTv hR1 hI1;refine ih (m+1) _ _ _ ?_ (by simpa using hls) (by omega) (fun k hk hkl=>?_) ?_ (hdc.set ho hall) ⟨hRt _ _ _ hR hR1,hI1,(put_defers' _ _ _).trans hd,(put_size _ _ _).trans hs,fun t h=>?_,fun j p hp hl hn=>?_⟩
    ·have:=cntF_set (f:=fun i=>listed.getD i true) (g:=fun j=>(listed.setIfInBounds i true).getD j true) (i:=i) h0 (hget true) (fun j hj=>getD_set_ne true (Ne.symm hj)) hlt
     omega
    ·rw [getD_set_ne false (by omega)];exact hlow k hk hkl
    ·exact fun k hk=>getD_set_true (hx k hk)
    ·have hne:o.dst ≠ some t:=h i o ho (hget false);rw [put_ne _ _ _ hne]
     exact ht t fun j p hp hl=>h j p hp (getD_set_true hl)
    ·by_cases e:i=j
     ·subst e;rw [ho] at hp;obtain rfl:=Option.some.inj hp
      cases hod:o.dst with
      | none=>exact absurd hod hn
      | some d =>
       have:tv (a.put (some d) v) d=v:=by
        unfold tv;rw [Array.getD_eq_getD_getElem?,put_same _ _ _ (by rw [hs];exact (b2 d hod).1)]
        rfl
       simp only [vof];rw [this];exact hTv
     ·rw [getD_set_ne false e] at hl;have h2:=hTs j _ w' w1 (hT j p hp hl hn) hR1
      cases hpd:p.dst with
      | none=>exact absurd hpd hn
      | some d =>
       rw [hpd] at h2;simp only [vof] at h2 ⊢;rw [show tv (a.put o.dst v) d=tv a d from tv_of (put_ne _ _ _ (fun hod=>hdist i o j p ho hp e d hod hpd))];exact h2
   unfold wpOp;simp only [ho']
   cases hg:o.guard with
   | none =>
    rw [hg] at hop;rw [if_pos (by simp [Region.wanted,hg])];exact .inl (wp_of_gives hop fun v w1 ⟨h1,h2,h3⟩=>next v w1 h1 h2 h3)
   | some g =>
    rw [hg] at hop;obtain ⟨g1,g2⟩:=hop
    split
    ·rename_i hw
     exact .inl (wp_of_gives (g1 hw) fun v w1 ⟨h1,h2,h3⟩=>next v w1 h1 h2 h3)
    ·rename_i hw
     obtain ⟨h1,h2⟩:=g2 (by simpa using hw);exact next undef w' h1 (hRr _) h2
theorem rj_step {l:List Oper} {T:Nat→Value→World→Prop} {R:World→World→Prop} {I:Nat→World→Prop} {a0 a:Act} {w0 w w1:World} {m i:Nat} {listed:Array Bool} {o:Oper} {v:Value}
  (hRt:∀ a b c,R a b→R b c→R a c) (hTs:∀ k v a b,T k v a→R a b→T k v b) (hB:rgC l a0.tmps.size=true) (hls:listed.size=l.length) (ho:l[i]?=some o) (hTv:T i v w1) (hR1:R w w1) (hI1:I (m+1) w1) (hJ:RJ l T R I a0 w0 m listed a w) :
  RJ l T R I a0 w0 (m+1) (listed.setIfInBounds i true) (a.put o.dst v) w1:=by
 obtain ⟨hR,hI,hd,hs,ht,hT⟩:=hJ;simp only [rgC,Bool.and_eq_true] at hB;obtain ⟨hns,hB⟩:=hB
 have hB':∀ (i:Nat) (o:Oper),l[i]?=some o→∀ d,o.dst=some d→d<a0.tmps.size∧dstIdx d l 0=some i:=by
  intro i o ho d hd;have hlt:=(List.getElem?_eq_some_iff.1 ho).1;have h1:=List.all_eq_true.1 hB i (List.mem_range.2 hlt);simp only [ho,Bool.and_eq_true] at h1;obtain ⟨⟨h1,h2⟩,h3⟩:=h1;rw [hd] at h2
  simpa using h2
 have hlt:i<l.length:=(List.getElem?_eq_some_iff.1 ho).1
 have hget:∀ d,(listed.setIfInBounds i true).getD i d=true:=fun d=>by
  rw [Array.getD_eq_getD_getElem?,Array.getElem?_setIfInBounds_self_of_lt (by omega)];rfl
 refine ⟨hRt _ _ _ hR hR1,hI1,(put_defers' _ _ _).trans hd,(put_size _ _ _).trans hs,fun t h=>?_,fun j p hp hl hn=>?_⟩
 ·have hne:o.dst ≠ some t:=h i o ho (hget false);rw [put_ne _ _ _ hne]
  exact ht t fun j p hp hl=>h j p hp (getD_set_true hl)
 ·by_cases e:i=j
  ·subst e;rw [ho] at hp;obtain rfl:=Option.some.inj hp
   cases hod:o.dst with
   | none=>exact absurd hod hn
   | some d =>
    have:tv (a.put (some d) v) d=v:=by
     unfold tv;rw [Array.getD_eq_getD_getElem?,put_same _ _ _ (by rw [hs];exact (hB' i o ho d hod).1)]
     rfl
    simp only [vof];rw [this];exact hTv
  ·rw [getD_set_ne false e] at hl;have h2:=hTs j _ w w1 (hT j p hp hl hn) hR1
   cases hpd:p.dst with
   | none=>exact absurd hpd hn
   | some d =>
    rw [hpd] at h2;simp only [vof] at h2 ⊢
    rw [show tv (a.put o.dst v) d=tv a d from tv_of (put_ne _ _ _ (fun hod=>by
     have e1:=(hB' i o ho d hod).2;rw [(hB' j p hp d hpd).2] at e1
     exact e (Option.some.inj e1).symm))]
    exact h2
def lonesB (l:List Oper):List (Nat × Nat × Nat)→Array Bool→Bool
 | [],_=>true
 | (x,d,s) :: r,listed=>(match l[x]? with
  | some o=>o.guard.isNone && (match o.op,o.dst with | .move (.tmp s'),some d'=>s' == s && d' == d | _,_=>false) && (o.after.toList.all fun e=>!Region.binds .any e) && Region.free .any l.toArray listed x && (Region.ready .any l.toArray listed).contains x && (dstIdx s l 0).isNone && !(listed.getD x true)
  | none=>false) && lonesB l r (listed.setIfInBounds x true)
theorem wpAny_lones {l:List Oper} {Q:Exit→Act→World→Prop} {a0:Act} {w:World} (n1:Nat) (X:Nat→Bool) (tl:List (Value→World→Prop)) (hB:rgC l a0.tmps.size=true) (hC:cloX l n1 X=true) (hTs:∀ T ∈ tl,Stay T)
  (hops:opsOK P l (fun k=>tl.getD k XT) Gr GIx a0 w.drew (l.take n1) 0) (hfin:∀ w',Gr w.drew w'→finP (fun k=>tl.getD k XT) w' (fun a'=>wpAny P .any l.toArray (NoPan Q) (l.length - n1) (listedTo n1 0 (Array.replicate l.toArray.size false)) a' w') (l.take n1) 0 a0) :
  ∀ (xs:List (Nat × Nat × Nat)) (fuel m:Nat) (listed:Array Bool) (a:Act),lonesB l xs listed=true→(∀ x d s,(x,d,s) ∈ xs→x<n1∧(tl.getD x XT) (a0.eval (.tmp s)) w.drew) →
   cntF (fun i=>listed.getD i true) l.length=fuel→listed.size=l.length→fuel+m=l.length→(∀ i,n1≤i→i<l.length→listed.getD i false=false)→(∀ j,X j=true→listed.getD j false=true ∨ ∃ d s,(j,d,s) ∈ xs)→DC l listed→RJ l (fun k=>tl.getD k XT) Gr GIx a0 w.drew m listed a w.drew →
   wpAny P .any l.toArray (NoPan Q) fuel listed a w.drew
 | [],fuel,m,listed,a,_,_,hc,hls,hm,hlow,hX,hdc,hJ =>
  wpAny_rgpX (w:=w) (a0:=a0) (fun k=>tl.getD k XT) Gr GIx n1 hB X hC Gr.refl (fun _ _ _ h k=>h.trans k) (stay_list hTs) trivial hops (fun w' h _=>hfin w' h) fuel m listed a w.drew hc hls hm hlow (fun j hj=>by rcases hX j hj with h | ⟨d,s,h⟩;exact h;simp at h) hdc hJ
 | (x,d,s) :: r,fuel,m,listed,a,hl,hT,hc,hls,hm,hlow,hX,hdc,hJ=>by
  simp only [lonesB,Bool.and_eq_true] at hl;obtain ⟨hl,hlr⟩:=hl
  cases ho:l[x]? with
  | none=>rw [ho] at hl;cases hl
  | some o =>
   rw [ho] at hl;simp only [Bool.and_eq_true,List.all_eq_true,Bool.not_eq_true',Option.isNone_iff_eq_none] at hl;obtain ⟨⟨⟨⟨⟨⟨hg,h2⟩,haf⟩,hfr⟩,hr⟩,hds⟩,hxl⟩:=hl
   obtain ⟨hop,hd⟩:o.op=.move (.tmp s)∧o.dst=some d:=by
    revert h2
    cases hop:o.op <;> cases hd:o.dst <;> simp
    try
     rename_i y z
     cases y <;> simp
     try
      intro a b
      simp [a,b]
   have hlt:x<l.length:=(List.getElem?_eq_some_iff.1 ho).1;have hB2:=hB;simp only [rgC,Bool.and_eq_true] at hB2;obtain ⟨hxn,hTx⟩:=hT x d s List.mem_cons_self
   have hev:a.eval (.tmp s)=a0.eval (.tmp s):=by
    have:=hJ.2.2.2.2.1 s (fun j o' ho' _=>dstIdx_none hds o' (List.mem_of_getElem? ho'))
    exact tv_of this
   have hset:=cntF_set (f:=fun i=>listed.getD i true) (g:=fun j=>(listed.setIfInBounds x true).getD j true) (i:=x) hxl (by
    show (listed.setIfInBounds x true).getD x true=true
    rw [Array.getD_eq_getD_getElem?,Array.getElem?_setIfInBounds_self_of_lt (by omega)];rfl) (fun j hj=>getD_set_ne true (Ne.symm hj)) hlt
   have ho':l.toArray[x]?=some o:=by simpa using ho
   have hpos:fuel=(fuel - 1)+1:=by omega
   rw [hpos];refine wpAny_first (i:=x) (oi:=o) (v:=a.eval (.tmp s)) ho' (Region.noSelect_spec hB2.1) (fun c a w h=>(h:False).elim) (fuel - 1) _ a w.drew (Region.free_spec ho' hfr) (by simpa using hr) (.inl ⟨?_,?_⟩) ?_
   ·simp [Region.wanted,hg]
   ·intro w';obtain ⟨dst,op,type,pos,after,guard⟩:=o;simp only at hop;subst hop
    rfl
   refine wpAny_lones n1 X tl hB hC hTs hops hfin r (fuel - 1) (m+1) _ _ hlr (fun x' d' s' h=>hT x' d' s' (List.mem_cons_of_mem _ h)) (by omega) (by simpa using hls) (by omega) (fun i hi hil=>?_) (fun j hj=>?_) ?_ ?_
   ·rw [getD_set_ne false (by omega)];exact hlow i hi hil
   ·by_cases e:j=x
    ·subst e
     left
     rw [Array.getD_eq_getD_getElem?,Array.getElem?_setIfInBounds_self_of_lt (by omega)];rfl
    ·rcases hX j hj with h | ⟨d',s',h⟩
     ·exact .inl (getD_set_true h)
     ·rcases List.mem_cons.1 h with h | h
      ·cases h;exact absurd rfl e
      ·exact .inr ⟨d',s',h⟩
   ·exact hdc.set ho (fun e he hb=>by rw [haf e (by simpa using he)] at hb;cases hb)
   ·exact rj_step (fun _ _ _ h k=>h.trans k) (stay_list hTs) hB hls ho (by rw [hev];exact hTx) (Gr.refl _) trivial hJ
theorem wp_region_rxl {id:Nat} {l:List Oper} {Q:Exit→Act→World→Prop} {a0:Act} {w:World} (n1 m:Nat) (xs:List (Nat × Nat × Nat)) (listed:Array Bool) (hf:P.follows .mixedOrders=true) (hm:l.length - n1=m) (hls:listedTo n1 0 (Array.replicate l.toArray.size false)=listed) (tl:List (Value→World→Prop)) (hB:rgC l a0.tmps.size=true) (hC:cloX l n1 (fun j=>xs.any fun p=>p.1 == j)=true) (hl:lonesB l xs (Array.replicate l.length false)=true) (hTs:∀ T ∈ tl,Stay T) (hT:∀ x d s,(x,d,s) ∈ xs→x<n1∧(tl.getD x XT) (a0.eval (.tmp s)) w.drew)
  (hops:opsOK P l (fun k=>tl.getD k XT) Gr GIx a0 w.drew (l.take n1) 0) (hfin:∀ w',Gr w.drew w'→finP (fun k=>tl.getD k XT) w' (fun a'=>wpAny P .any l.toArray (NoPan Q) m listed a' w') (l.take n1) 0 a0):(Code.region id l.toArray true).wp P Q a0 w:=by
 subst hm hls;refine Code.wp_mono NoPan.imp (wp_region_any hf ?_)
 have hsz':l.toArray.size=l.length:=by simp
 rw [show Array.replicate l.toArray.size false=Array.replicate l.length false from by rw [hsz'],hsz']
 have hrep:∀ j,(Array.replicate l.length false).getD j false=false:=fun j=>by
  rw [Array.getD_eq_getD_getElem?,Array.getElem?_replicate];split <;> rfl
 refine wpAny_lones n1 _ tl hB hC hTs hops hfin xs l.length 0 _ a0 hl hT ?_ (by simp) (by omega) (fun i _ _=>hrep i) (fun j hj=>?_) (fun i o hi hl'=>by rw [hrep] at hl';cases hl') ⟨Gr.refl _,trivial,rfl,rfl,fun t _=>rfl,fun j p hp hl'=>by rw [hrep] at hl';cases hl'⟩
 ·have:∀ n,n≤l.length→cntF (fun i=>(Array.replicate l.length false).getD i true) n=n:=by
   intro n
   induction n with
   | zero=>intro _;rfl
   | succ n ihn =>
    intro hn;simp only [cntF];rw [ihn (by omega)]
    have:(Array.replicate l.length false).getD n true=false:=by
     rw [Array.getD_eq_getD_getElem?,Array.getElem?_replicate,if_pos (by omega)];rfl
    rw [if_neg (by rw [this];decide)]
  exact this l.length (Nat.le_refl _)
 ·obtain ⟨p,hp,he⟩:=List.any_eq_true.1 hj;obtain ⟨x,d,s⟩:=p
  obtain rfl:x=j:=by simpa using he
  exact .inr ⟨d,s,hp⟩
end
end
end Go.Proofs.YtenckjdiggaonaaGreat
