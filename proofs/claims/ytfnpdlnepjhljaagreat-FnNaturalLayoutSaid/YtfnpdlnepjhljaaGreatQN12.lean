import Derived.Test.YtfnpdlnepjhljaaGreatQN11
set_option linter.unusedVariables false
set_option linter.unusedSimpArgs false
set_option maxRecDepth 100000
set_option maxHeartbeats 16000000
namespace Go.Proofs.YtfnpdlnepjhljaaGreat
open Go.RowKit
attribute [local go_sem] growUpon_value growUpon_skip growUpon_enter
section
section
variable {P:Program}
def cloX (l:List Oper) (n:Nat) (X:Nat→Bool):Bool:=decide (n≤l.length)&&(List.range l.length).all fun i=>decide (i<n) || (List.range n).all fun j=>X j || reachB l l.length i j
theorem wpAny_rgpX {l:List Oper} {Q:Exit→Act→World→Prop} {a0:Act} {w:World} (T:Nat→Value→World→Prop) (R:World→World→Prop) (I:Nat→World→Prop)
  (n1:Nat) (hB:rgC l a0.tmps.size=true) (X:Nat→Bool) (hC:cloX l n1 X=true) (hRr:∀ a,R a a) (hRt:∀ a b c,R a b→R b c→R a c) (hTs:∀ k v a b,T k v a→R a b→T k v b) (hI0:I 0 w.drew)
  (hops:opsOK P l T R I a0 w.drew (l.take n1) 0) (hfin:∀ w',R w.drew w'→I n1 w'→finP T w' (fun a'=>wpAny P .any l.toArray Q (l.length-n1) (listedTo n1 0 (Array.replicate l.toArray.size false)) a' w') (l.take n1) 0 a0) :
  ∀ (fuel m:Nat) (listed:Array Bool) (a:Act) (w':World),cntF (fun i=>listed.getD i true) l.length=fuel→listed.size=l.length→fuel+m=l.length→(∀ i,n1≤i→i<l.length→listed.getD i false=false)→(∀ j,X j=true→listed.getD j false=true)→DC l listed→RJ l T R I a0 w.drew m listed a w' →
   wpAny P .any l.toArray Q fuel listed a w':=by
 simp only [rgC,Bool.and_eq_true] at hB;obtain ⟨hns,hB⟩:=hB
 have hB':∀ (i:Nat) (o:Oper),l[i]?=some o→(∀ e∈o.after,Region.binds .any e=true→e.on<i)∧(∀ d,o.dst=some d→d<a0.tmps.size∧dstIdx d l 0=some i)∧(∀ t∈o.looksAt l.toArray,∀ j,dstIdx t l 0=some j→∃ e∈o.after,e.on=j∧Region.binds .any e=true):=by
  intro i o ho;have hlt:=(List.getElem?_eq_some_iff.1 ho).1;have h1:=List.all_eq_true.1 hB i (List.mem_range.2 hlt);simp only [ho,Bool.and_eq_true] at h1;obtain ⟨⟨h1,h2⟩,h3⟩:=h1;refine ⟨fun e he hb=>by have:=List.all_eq_true.1 h1 e (by simpa using he);simpa [hb] using this,fun d hd=>?_,fun t ht j hj=>?_⟩
  ·rw [hd] at h2;simp only [Option.all_some,Bool.and_eq_true,decide_eq_true_eq,beq_iff_eq] at h2;exact h2
  ·have h4:=List.all_eq_true.1 h3 t ht;rw [hj] at h4;obtain ⟨e,he,h5⟩:=List.any_eq_true.1 h4;simp only [Bool.and_eq_true,beq_iff_eq] at h5;exact ⟨e,by simpa using he,h5⟩
 have hdist:∀ (i:Nat) (o:Oper) (j:Nat) (p:Oper),l[i]?=some o→l[j]?=some p→i≠j→∀ d,o.dst=some d→p.dst≠some d:=by
  intro i o j p ho hp hij d hd hpd;have h1:=((hB' i o ho).2.1 d hd).2;rw [((hB' j p hp).2.1 d hpd).2] at h1
  injection h1 with h1
  exact hij h1.symm
 obtain ⟨hle1,hcl⟩:n1≤l.length∧∀ i,n1≤i→i<l.length→∀ j,j<n1→X j=false→reachB l l.length i j=true:=by
  simp only [cloX,Bool.and_eq_true,decide_eq_true_eq,List.all_eq_true,List.mem_range,Bool.or_eq_true] at hC;refine ⟨hC.1,fun i hi hil j hj hX=>?_⟩
  rcases hC.2 i hil with h | h
  ·omega
  ·rcases h j hj with h | h
   ·rw [hX] at h;cases h
   ·exact h
 intro fuel
 have hdone:∀ (m:Nat) (listed:Array Bool) (a:Act) (w':World),cntF (fun i=>listed.getD i true) l.length=l.length-m→listed.size=l.length→m≤l.length→(∀ i,n1≤i→i<l.length→listed.getD i false=false)→(∀ i,i<n1→listed.getD i false=true)→RJ l T R I a0 w.drew m listed a w'→wpAny P .any l.toArray Q (l.length-m) listed a w':=by
  rintro m listed a w' hc hls hml hlow hall ⟨hR,hI,hd,hs,ht,hT⟩
  have hm1:m=n1:=by
   have h1:cntF (fun i=>listed.getD i true) l.length=cntF (fun i=>decide (i<n1)) l.length:=cntF_same (fun i hi=>by
    by_cases h:i<n1
    ·have:=hall i h
     rw [Array.getD_eq_getD_getElem?,Array.getElem?_eq_getElem (by omega)] at *
     simpa [h] using this
    ·have:=hlow i (by omega) hi
     rw [Array.getD_eq_getD_getElem?,Array.getElem?_eq_getElem (by omega)] at *
     simpa [h] using this)
   rw [h1,cntF_lt] at hc;omega
  subst hm1
  have he:listed=listedTo m 0 (Array.replicate l.toArray.size false):=by
   apply Array.ext
   ·rw [listedTo_size];simp [hls]
   ·intro i h1 h2
    have e1:listed[i]=listed.getD i false:=by rw [Array.getD_eq_getD_getElem?,Array.getElem?_eq_getElem h1];rfl
    have e2:(listedTo m 0 (Array.replicate l.toArray.size false))[i]=(listedTo m 0 (Array.replicate l.toArray.size false)).getD i false:=by rw [Array.getD_eq_getD_getElem?,Array.getElem?_eq_getElem h2];rfl
    rw [e1,e2,listedTo_getD (by simpa using (by omega:0+m≤l.length))]
    by_cases h:i<m
    ·rw [hall i h,if_pos (by omega)]
    ·rw [hlow i (by omega) (by omega),if_neg (by omega),Array.getD_eq_getD_getElem?,Array.getElem?_replicate]
     split <;> rfl
  have hlm:∀ (j:Nat) (o:Oper),l[j]?=some o→listed.getD j false=true→j<m:=fun j o ho hl=>by
   by_cases h:j<m
   ·exact h
   ·exfalso
    have:=hlow j (by omega) (List.getElem?_eq_some_iff.1 ho).1
    rw [hl] at this
    cases this
  rw [he];refine finP_to (T:=T) (w:=w') (F:=fun a'=>wpAny P .any l.toArray Q (l.length-m) (listedTo m 0 (Array.replicate l.toArray.size false)) a' w') (l:=l.take m) (k:=0) (b:=a0) hd.symm hs.symm (fun t h=>?_) (fun j o ho hn=>?_) (hfin w' hR hI)
  ·exact (ht t fun j o ho hl=>h o (by
    have hj:=hlm j o ho hl
    exact List.mem_of_getElem? (i:=j) (by rw [List.getElem?_take,if_pos hj];exact ho))).symm
  ·rw [Nat.zero_add];rw [List.getElem?_take] at ho
   split at ho
   ·rename_i hj
    exact hT j o ho (hall j hj) hn
   ·cases ho
 induction fuel with
 | zero =>
  intro m listed a w' hc hls hm' hlow hx hdc hJ
  have hall:∀ i,i<l.length→listed.getD i false=true:=fun i hi=>by
   have:=cntF_zero hc i hi
   rw [Array.getD_eq_getD_getElem?,Array.getElem?_eq_getElem (by omega)] at *
   simpa using this
  have h:=hdone m listed a w' (by rw [hc];omega) hls (by omega) hlow (fun i hi=>hall i (by omega)) hJ
  rwa [show l.length-m=0 by omega] at h
 | succ fuel ih =>
  intro m listed a w' hc hls hm' hlow hx hdc hJ
  by_cases hph:∀ i,i<n1→listed.getD i false=true
  ·have h:=hdone m listed a w' (by rw [hc];omega) hls (by omega) hlow hph hJ
   rwa [show l.length-m=fuel+1 by omega] at h
  have hlt1:∀ (i:Nat) (o:Oper),l[i]?=some o→listed.getD i false=false→(∀ e∈o.after,Region.binds .any e=true→listed.getD e.on false=true)→i<n1:=fun i o ho h0 hall=>by
   by_cases h:i<n1
   ·exact h
   ·exfalso
    apply hph;intro j hj
    by_cases hX:X j=true
    ·exact hx j hX
    have hr:=hcl i (by omega) (List.getElem?_eq_some_iff.1 ho).1 j hj (by simpa using hX)
    have hpos:l.length=(l.length-1)+1:=by have:=(List.getElem?_eq_some_iff.1 ho).1;omega
    rw [hpos] at hr;simp only [reachB,ho,List.any_eq_true,Bool.and_eq_true,Bool.or_eq_true,beq_iff_eq] at hr;obtain ⟨e,he,hb,hr⟩:=hr;have hl:=hall e (by simpa using he) hb
    rcases hr with rfl | hr
    ·exact hl
    ·exact DC.reach hdc _ hl hr
  refine ⟨fun hr=>?_,fun i hi=>?_⟩
  ·exfalso
   apply hph;intro i
   induction i using Nat.strongRecOn with
   | ind i ih' =>
    intro hi
    by_cases hl:listed.getD i false=true
    ·exact hl
    ·exfalso
     have hil:i<l.length:=by omega
     have ho:l[i]?=some l[i]:=List.getElem?_eq_getElem hil
     have hmem:i∈Region.ready .any l.toArray listed:=mem_ready.2 ⟨by
      rw [Array.getD_eq_getD_getElem?,Array.getElem?_eq_getElem (by omega)] at *;simp only [Option.getD_some,Bool.not_eq_true] at *
      exact hl,l[i],by simp,fun e he hb=>ih' e.on ((hB' i _ ho).1 e he hb) (by have:=(hB' i _ ho).1 e he hb;omega)⟩
     rw [hr] at hmem
     cases hmem
  ·obtain ⟨h0,o,ho',hall⟩:=mem_ready.1 hi
   have ho:l[i]?=some o:=by simpa using ho'
   have hlt:i<l.length:=(List.getElem?_eq_some_iff.1 ho).1
   have h0':listed.getD i false=false:=by
    rw [Array.getD_eq_getD_getElem?,Array.getElem?_eq_getElem (by omega)] at *
    simpa using h0
   have hi1:i<n1:=hlt1 i o ho h0' hall
   have hot:(l.take n1)[i]?=some o:=by rw [List.getElem?_take,if_pos hi1];exact ho
   obtain ⟨hR,hI,hd,hs,ht,hT⟩:=hJ;obtain ⟨b1,b2,b3⟩:=hB' i o ho
   have hlook:∀ t∈o.looksAt l.toArray,match dstIdx t l 0 with | some j=>T j (tv a t) w' | none=>tv a t=tv a0 t:=by
    intro t htm
    cases hj:dstIdx t l 0 with
    | none =>
     refine tv_of (ht t fun j p hp _=>dstIdx_none hj p (List.mem_of_getElem? hp))
    | some j =>
     obtain ⟨e,he,rfl,hb⟩:=b3 t htm j hj;obtain ⟨_,p,hp,hpd⟩:=dstIdx_some hj
     have:=hT e.on p (by simpa using hp) (hall e he hb) (by rw [hpd];simp)
     rw [hpd] at this;exact this
   have hop:=look_of hlook (opsOK_at hops hot m a w' (by omega) hR hI);rw [Nat.zero_add] at hop
   have hget:∀ d,(listed.setIfInBounds i true).getD i d=true:=fun d=>by
    rw [Array.getD_eq_getD_getElem?,Array.getElem?_setIfInBounds_self_of_lt (by omega)];rfl
   have next:∀ v w1,T i v w1→R w' w1→I (m+1) w1→wpAny P .any l.toArray Q fuel (listed.setIfInBounds i true) (a.put o.dst v) w1:=by
    intro v w1 hTv hR1 hI1;refine ih (m+1) _ _ _ ?_ (by simpa using hls) (by omega) (fun k hk hkl=>?_) ?_ (hdc.set ho hall) ⟨hRt _ _ _ hR hR1,hI1,(put_defers' _ _ _).trans hd,(put_size _ _ _).trans hs,fun t h=>?_,fun j p hp hl hn=>?_⟩
    ·have:=cntF_set (f:=fun i=>listed.getD i true) (g:=fun j=>(listed.setIfInBounds i true).getD j true) (i:=i) h0 (hget true) (fun j hj=>getD_set_ne true (Ne.symm hj)) hlt
     omega
    ·rw [getD_set_ne false (by omega)];exact hlow k hk hkl
    ·exact fun k hk=>getD_set_true (hx k hk)
    ·have hne:o.dst≠some t:=h i o ho (hget false);rw [put_ne _ _ _ hne]
     exact ht t fun j p hp hl=>h j p hp (getD_set_true hl)
    ·by_cases e:i=j
     ·subst e;rw [ho] at hp;obtain rfl:=Option.some.inj hp
      cases hod:o.dst with
      | none=>exact absurd hod hn
      | some d =>
       have:tv (a.put (some d) v) d=v:=by
        unfold tv;rw [Array.getD_eq_getD_getElem?,put_same _ _ _ (by rw [hs];exact (b2 d hod).1)]
        rfl
       simp only [vof];rw [this];exact hTv
     ·rw [getD_set_ne false e] at hl;have h2:=hTs j _ w' w1 (hT j p hp hl hn) hR1
      cases hpd:p.dst with
      | none=>exact absurd hpd hn
      | some d =>
       rw [hpd] at h2;simp only [vof] at h2 ⊢;rw [show tv (a.put o.dst v) d=tv a d from tv_of (put_ne _ _ _ (fun hod=>hdist i o j p ho hp e d hod hpd))];exact h2
   unfold wpOp;simp only [ho']
   cases hg:o.guard with
   | none =>
    rw [hg] at hop;rw [if_pos (by simp [Region.wanted,hg])];exact .inl (wp_of_gives hop fun v w1 ⟨h1,h2,h3⟩=>next v w1 h1 h2 h3)
   | some g =>
    rw [hg] at hop;obtain ⟨g1,g2⟩:=hop
    split
    ·rename_i hw
     exact .inl (wp_of_gives (g1 hw) fun v w1 ⟨h1,h2,h3⟩=>next v w1 h1 h2 h3)
    ·rename_i hw
     obtain ⟨h1,h2⟩:=g2 (by simpa using hw);exact next undef w' h1 (hRr _) h2
theorem rj_step {l:List Oper} {T:Nat→Value→World→Prop} {R:World→World→Prop} {I:Nat→World→Prop} {a0 a:Act} {w0 w w1:World} {m i:Nat} {listed:Array Bool} {o:Oper} {v:Value}
  (hRt:∀ a b c,R a b→R b c→R a c) (hTs:∀ k v a b,T k v a→R a b→T k v b) (hB:rgC l a0.tmps.size=true) (hls:listed.size=l.length) (ho:l[i]?=some o) (hTv:T i v w1) (hR1:R w w1) (hI1:I (m+1) w1) (hJ:RJ l T R I a0 w0 m listed a w) :
  RJ l T R I a0 w0 (m+1) (listed.setIfInBounds i true) (a.put o.dst v) w1:=by
 obtain ⟨hR,hI,hd,hs,ht,hT⟩:=hJ;simp only [rgC,Bool.and_eq_true] at hB;obtain ⟨hns,hB⟩:=hB
 have hB':∀ (i:Nat) (o:Oper),l[i]?=some o→∀ d,o.dst=some d→d<a0.tmps.size∧dstIdx d l 0=some i:=by
  intro i o ho d hd;have hlt:=(List.getElem?_eq_some_iff.1 ho).1;have h1:=List.all_eq_true.1 hB i (List.mem_range.2 hlt);simp only [ho,Bool.and_eq_true] at h1;obtain ⟨⟨h1,h2⟩,h3⟩:=h1;rw [hd] at h2
  simpa using h2
 have hlt:i<l.length:=(List.getElem?_eq_some_iff.1 ho).1
 have hget:∀ d,(listed.setIfInBounds i true).getD i d=true:=fun d=>by
  rw [Array.getD_eq_getD_getElem?,Array.getElem?_setIfInBounds_self_of_lt (by omega)];rfl
 refine ⟨hRt _ _ _ hR hR1,hI1,(put_defers' _ _ _).trans hd,(put_size _ _ _).trans hs,fun t h=>?_,fun j p hp hl hn=>?_⟩
 ·have hne:o.dst≠some t:=h i o ho (hget false);rw [put_ne _ _ _ hne]
  exact ht t fun j p hp hl=>h j p hp (getD_set_true hl)
 ·by_cases e:i=j
  ·subst e;rw [ho] at hp;obtain rfl:=Option.some.inj hp
   cases hod:o.dst with
   | none=>exact absurd hod hn
   | some d =>
    have:tv (a.put (some d) v) d=v:=by
     unfold tv;rw [Array.getD_eq_getD_getElem?,put_same _ _ _ (by rw [hs];exact (hB' i o ho d hod).1)]
     rfl
    simp only [vof];rw [this];exact hTv
  ·rw [getD_set_ne false e] at hl;have h2:=hTs j _ w w1 (hT j p hp hl hn) hR1
   cases hpd:p.dst with
   | none=>exact absurd hpd hn
   | some d =>
    rw [hpd] at h2;simp only [vof] at h2 ⊢
    rw [show tv (a.put o.dst v) d=tv a d from tv_of (put_ne _ _ _ (fun hod=>by
     have e1:=(hB' i o ho d hod).2;rw [(hB' j p hp d hpd).2] at e1
     exact e (Option.some.inj e1).symm))]
    exact h2
def lonesB (l:List Oper):List (Nat × Nat × Nat)→Array Bool→Bool
 | [],_=>true
 | (x,d,s) :: r,listed=>(match l[x]? with
  | some o=>o.guard.isNone&&(match o.op,o.dst with | .move (.tmp s'),some d'=>s' == s&&d' == d | _,_=>false)&&(o.after.toList.all fun e=>!Region.binds .any e)&&Region.free .any l.toArray listed x&&(Region.ready .any l.toArray listed).contains x&&(dstIdx s l 0).isNone&&!(listed.getD x true)
  | none=>false)&&lonesB l r (listed.setIfInBounds x true)
theorem wpAny_lones {l:List Oper} {Q:Exit→Act→World→Prop} {a0:Act} {w:World} (n1:Nat) (X:Nat→Bool) (tl:List (Value→World→Prop)) (hB:rgC l a0.tmps.size=true) (hC:cloX l n1 X=true) (hTs:∀ T∈tl,Stay T)
  (hops:opsOK P l (fun k=>tl.getD k XT) Gr GIx a0 w.drew (l.take n1) 0) (hfin:∀ w',Gr w.drew w'→finP (fun k=>tl.getD k XT) w' (fun a'=>wpAny P .any l.toArray (NoPan Q) (l.length-n1) (listedTo n1 0 (Array.replicate l.toArray.size false)) a' w') (l.take n1) 0 a0) :
  ∀ (xs:List (Nat × Nat × Nat)) (fuel m:Nat) (listed:Array Bool) (a:Act),lonesB l xs listed=true→(∀ x d s,(x,d,s)∈xs→x<n1∧(tl.getD x XT) (a0.eval (.tmp s)) w.drew) →
   cntF (fun i=>listed.getD i true) l.length=fuel→listed.size=l.length→fuel+m=l.length→(∀ i,n1≤i→i<l.length→listed.getD i false=false)→(∀ j,X j=true→listed.getD j false=true∨∃ d s,(j,d,s)∈xs)→DC l listed→RJ l (fun k=>tl.getD k XT) Gr GIx a0 w.drew m listed a w.drew →
   wpAny P .any l.toArray (NoPan Q) fuel listed a w.drew
 | [],fuel,m,listed,a,_,_,hc,hls,hm,hlow,hX,hdc,hJ =>
  wpAny_rgpX (w:=w) (a0:=a0) (fun k=>tl.getD k XT) Gr GIx n1 hB X hC Gr.refl (fun _ _ _ h k=>h.trans k) (stay_list hTs) trivial hops (fun w' h _=>hfin w' h) fuel m listed a w.drew hc hls hm hlow (fun j hj=>by rcases hX j hj with h | ⟨d,s,h⟩;exact h;simp at h) hdc hJ
 | (x,d,s) :: r,fuel,m,listed,a,hl,hT,hc,hls,hm,hlow,hX,hdc,hJ=>by
  simp only [lonesB,Bool.and_eq_true] at hl;obtain ⟨hl,hlr⟩:=hl
  cases ho:l[x]? with
  | none=>rw [ho] at hl;cases hl
  | some o =>
   rw [ho] at hl;simp only [Bool.and_eq_true,List.all_eq_true,Bool.not_eq_true',Option.isNone_iff_eq_none] at hl;obtain ⟨⟨⟨⟨⟨⟨hg,h2⟩,haf⟩,hfr⟩,hr⟩,hds⟩,hxl⟩:=hl
   obtain ⟨hop,hd⟩:o.op=.move (.tmp s)∧o.dst=some d:=by
    revert h2
    cases hop:o.op <;> cases hd:o.dst <;> simp
    try
     rename_i y z
     cases y <;> simp
     try
      intro a b
      simp [a,b]
   have hlt:x<l.length:=(List.getElem?_eq_some_iff.1 ho).1;have hB2:=hB;simp only [rgC,Bool.and_eq_true] at hB2;obtain ⟨hxn,hTx⟩:=hT x d s List.mem_cons_self
   have hev:a.eval (.tmp s)=a0.eval (.tmp s):=by
    have:=hJ.2.2.2.2.1 s (fun j o' ho' _=>dstIdx_none hds o' (List.mem_of_getElem? ho'))
    exact tv_of this
   have hset:=cntF_set (f:=fun i=>listed.getD i true) (g:=fun j=>(listed.setIfInBounds x true).getD j true) (i:=x) hxl (by
    show (listed.setIfInBounds x true).getD x true=true
    rw [Array.getD_eq_getD_getElem?,Array.getElem?_setIfInBounds_self_of_lt (by omega)];rfl) (fun j hj=>getD_set_ne true (Ne.symm hj)) hlt
   have ho':l.toArray[x]?=some o:=by simpa using ho
   have hpos:fuel=(fuel-1)+1:=by omega
   rw [hpos];refine wpAny_first (i:=x) (oi:=o) (v:=a.eval (.tmp s)) ho' (Region.noSelect_spec hB2.1) (fun c a w h=>(h:False).elim) (fuel-1) _ a w.drew (Region.free_spec ho' hfr) (by simpa using hr) (.inl ⟨?_,?_⟩) ?_
   ·simp [Region.wanted,hg]
   ·intro w';obtain ⟨dst,op,type,pos,after,guard⟩:=o;simp only at hop;subst hop
    rfl
   refine wpAny_lones n1 X tl hB hC hTs hops hfin r (fuel-1) (m+1) _ _ hlr (fun x' d' s' h=>hT x' d' s' (List.mem_cons_of_mem _ h)) (by omega) (by simpa using hls) (by omega) (fun i hi hil=>?_) (fun j hj=>?_) ?_ ?_
   ·rw [getD_set_ne false (by omega)];exact hlow i hi hil
   ·by_cases e:j=x
    ·subst e
     left
     rw [Array.getD_eq_getD_getElem?,Array.getElem?_setIfInBounds_self_of_lt (by omega)];rfl
    ·rcases hX j hj with h | ⟨d',s',h⟩
     ·exact .inl (getD_set_true h)
     ·rcases List.mem_cons.1 h with h | h
      ·cases h;exact absurd rfl e
      ·exact .inr ⟨d',s',h⟩
   ·exact hdc.set ho (fun e he hb=>by rw [haf e (by simpa using he)] at hb;cases hb)
   ·exact rj_step (fun _ _ _ h k=>h.trans k) (stay_list hTs) hB hls ho (by rw [hev];exact hTx) (Gr.refl _) trivial hJ
theorem wp_region_rxl {id:Nat} {l:List Oper} {Q:Exit→Act→World→Prop} {a0:Act} {w:World} (n1 m:Nat) (xs:List (Nat × Nat × Nat)) (listed:Array Bool) (hf:P.follows .mixedOrders=true) (hm:l.length-n1=m) (hls:listedTo n1 0 (Array.replicate l.toArray.size false)=listed) (tl:List (Value→World→Prop)) (hB:rgC l a0.tmps.size=true) (hC:cloX l n1 (fun j=>xs.any fun p=>p.1 == j)=true) (hl:lonesB l xs (Array.replicate l.length false)=true) (hTs:∀ T∈tl,Stay T) (hT:∀ x d s,(x,d,s)∈xs→x<n1∧(tl.getD x XT) (a0.eval (.tmp s)) w.drew)
  (hops:opsOK P l (fun k=>tl.getD k XT) Gr GIx a0 w.drew (l.take n1) 0) (hfin:∀ w',Gr w.drew w'→finP (fun k=>tl.getD k XT) w' (fun a'=>wpAny P .any l.toArray (NoPan Q) m listed a' w') (l.take n1) 0 a0):(Code.region id l.toArray true).wp P Q a0 w:=by
 subst hm hls;refine Code.wp_mono NoPan.imp (wp_region_any hf ?_)
 have hsz':l.toArray.size=l.length:=by simp
 rw [show Array.replicate l.toArray.size false=Array.replicate l.length false from by rw [hsz'],hsz']
 have hrep:∀ j,(Array.replicate l.length false).getD j false=false:=fun j=>by
  rw [Array.getD_eq_getD_getElem?,Array.getElem?_replicate];split <;> rfl
 refine wpAny_lones n1 _ tl hB hC hTs hops hfin xs l.length 0 _ a0 hl hT ?_ (by simp) (by omega) (fun i _ _=>hrep i) (fun j hj=>?_) (fun i o hi hl'=>by rw [hrep] at hl';cases hl') ⟨Gr.refl _,trivial,rfl,rfl,fun t _=>rfl,fun j p hp hl'=>by rw [hrep] at hl';cases hl'⟩
 ·have:∀ n,n≤l.length→cntF (fun i=>(Array.replicate l.length false).getD i true) n=n:=by
   intro n
   induction n with
   | zero=>intro _;rfl
   | succ n ihn =>
    intro hn;simp only [cntF];rw [ihn (by omega)]
    have:(Array.replicate l.length false).getD n true=false:=by
     rw [Array.getD_eq_getD_getElem?,Array.getElem?_replicate,if_pos (by omega)];rfl
    rw [if_neg (by rw [this];decide)]
  exact this l.length (Nat.le_refl _)
 ·obtain ⟨p,hp,he⟩:=List.any_eq_true.1 hj;obtain ⟨x,d,s⟩:=p
  obtain rfl:x=j:=by simpa using he
  exact .inr ⟨d,s,hp⟩
end
end
section
attribute [local go_sem] givesUpon_value givesUpon_skip givesUpon_enter
def LyP (w:World) (g N:Nat) (F:Nat→Re) (K:Nat→Prop):Prop:=∃ cs:Array Value,w.heap[g]?=some (.cells cs 32 (0,0))∧cs.size=N*4∧∀ j,j<N→K j→InS cs (j*4) (valsRe (F j))
theorem LyP.lt {w:World} {g N:Nat} {F:Nat→Re} {K:Nat→Prop} (h:LyP w g N F K):g<w.heap.size:=by obtain ⟨cs,hh,_⟩:=h;exact ltS hh
theorem LyP.same {w w':World} {g N:Nat} {F:Nat→Re} {K:Nat→Prop} (h:LyP w g N F K) (hb:w'.heap[g]?=w.heap[g]?):LyP w' g N F K:=let ⟨cs,hh,r⟩:=h;⟨cs,hb.trans hh,r⟩
theorem LyP.keep {w w':World} {g N:Nat} {F:Nat→Re} {K:Nat→Prop} (h:LyP w g N F K) (hb:Below w.heap.size w w'):LyP w' g N F K:=h.same (hb.block g h.lt)
theorem LyP.mono {w:World} {g N:Nat} {F:Nat→Re} {K K':Nat→Prop} (h:LyP w g N F K) (hK:∀ j,j<N→K' j→K j):LyP w g N F K':=let ⟨cs,hh,hs,hc⟩:=h;⟨cs,hh,hs,fun j hj k=>hc j hj (hK j hj k)⟩
theorem LyP.there {w:World} {g N:Nat} {F:Nat→Re} {K:Nat→Prop} (h:LyP w g N F K) {j:Nat} (hj:j<N):w.there g (j*4) 4:=by
 obtain ⟨cs,hh,hs,_⟩:=h;exact thereB hh (by rw [hs];omega)
theorem LyP.put {w:World} {g N:Nat} {F:Nat→Re} {K K':Nat→Prop} (h:LyP w g N F K) {j:Nat} (hj:j<N) {r:Re} (hr:F j=r) (hK:∀ i,K' i→i=j∨K i):LyP (w.setCells g (j*4) (valsRe r)) g N F K':=by
 obtain ⟨cs,hh,hs,hc⟩:=h;refine ⟨_,heap_setCells _ (j*4) _ _ hh,(wrAt_size _ _ _).trans hs,fun i hi ki=>?_⟩
 by_cases e:i=j
 ·subst e;rw [hr];exact InS.write (by rw [hs];show i*4+4≤_;omega)
 ·rcases hK i ki with h1 | h1
  ·exact absurd h1 e
  ·refine (hc i hi h1).keepS ?_
   show i*4+4≤_∨j*4+4≤_
   omega
theorem LyP.cell {w:World} {g N:Nat} {F:Nat→Re} {K:Nat→Prop} (h:LyP w g N F K) {j:Nat} (hj:j<N) (k:K j):w.cell? ⟨g,j*4,none⟩=some (.int .i64 (F j).x)∧w.cell? ⟨g,j*4+1,none⟩=some (.int .i64 (F j).y)∧w.cell? ⟨g,j*4+2,none⟩=some (.int .i64 (F j).u)∧w.cell? ⟨g,j*4+3,none⟩=some (.int .i64 (F j).v):=by
 obtain ⟨cs,hh,hs,hc⟩:=h;have hi:=hc j hj k;exact ⟨(cellS hh _).trans (hi 0 _ rfl),(cellS hh _).trans (hi 1 _ rfl),(cellS hh _).trans (hi 2 _ rfl),(cellS hh _).trans (hi 3 _ rfl)⟩
theorem LyP.whole {w:World} {g N:Nat} {F:Nat→Re} {K:Nat→Prop} (h:LyP w g N F K) (hK:∀ j,j<N→K j):ReB w g ((List.range N).map F):=by
 obtain ⟨cs,hh,hs,hc⟩:=h;refine ⟨cs,hh,by rw [hs,List.length_map,List.length_range],fun i p hp=>?_⟩;rw [List.getElem?_map] at hp;obtain ⟨j,hj,rfl⟩:=Option.map_eq_some_iff.1 hp;obtain ⟨h1,h2⟩:=List.getElem?_eq_some_iff.1 hj;rw [List.length_range] at h1;rw [List.getElem_range] at h2;subst h2;exact hc i h1 (hK i h1)
theorem LyP.new {w:World} {g N:Nat} {F:Nat→Re} {cs:Array Value} {r:Re} (hh:w.heap[g]?=some (.cells (wrAt cs 0 (valsRe r)) 32 (0,0))) (hs:cs.size=N*4) (hr:F 0=r):LyP w g N F (fun j=>j=0):=by
 refine ⟨_,hh,(wrAt_size _ _ _).trans hs,fun j hj e=>?_⟩;subst e;rw [hr];exact InS.write (by rw [hs];show 0+4≤_;omega)
def knL (L:List Nd) (i j:Nat):Prop:=j=0∨∃ m,L[j]?=some m∧m.pa<(i:Int)
def knI (L:List Nd) (i m j:Nat):Prop:=knL L i j∨∃ m',m'<m∧(kidD L i)[m']?=some j
theorem knL_zero {L:List Nd} (hT:TrOK L) {j:Nat} (h:knL L 0 j):j=0:=by
 rcases h with h | ⟨m,hm,hp⟩
 ·exact h
 ·rcases hT.up j m hm with ⟨e,_⟩ | ⟨_,h1,_⟩
  ·exact e
  ·omega
theorem knL_own {L:List Nd} (hT:TrOK L) {i:Nat} (hi:i<L.length):knL L i i:=by
 have hm:L[i]?=some L[i]:=List.getElem?_eq_getElem hi
 rcases hT.up i _ hm with ⟨e,_⟩ | ⟨_,_,h⟩
 ·exact .inl e
 ·exact .inr ⟨_,hm,h⟩
theorem knL_all {L:List Nd} (hT:TrOK L) {j:Nat} (hj:j<L.length):knL L L.length j:=by
 have hm:L[j]?=some L[j]:=List.getElem?_eq_getElem hj
 rcases hT.up j _ hm with ⟨e,_⟩ | ⟨_,_,h⟩
 ·exact .inl e
 ·exact .inr ⟨_,hm,by omega⟩
theorem knI_zero {L:List Nd} {i j:Nat} (h:knI L i 0 j):knL L i j:=h.elim id fun ⟨m',h,_⟩=>absurd h (by omega)
theorem knI_step {L:List Nd} {i m j k:Nat} (hk:(kidD L i)[m]?=some k) (h:knI L i (m+1) j):j=k∨knI L i m j:=by
 rcases h with h | ⟨m',h1,h2⟩
 ·exact .inr (.inl h)
 ·by_cases e:m'=m
  ·subst e;rw [hk] at h2;exact .inl (Option.some.inj h2).symm
  ·exact .inr (.inr ⟨m',by omega,h2⟩)
theorem knI_all {L:List Nd} {i j:Nat} (hj:j<L.length) (h:knL L (i+1) j):knI L i (kidD L i).length j:=by
 rcases h with h | ⟨m,hm,hp⟩
 ·exact .inl (.inl h)
 ·by_cases e:m.pa=(i:Int)
  ·obtain ⟨q,hq⟩:=List.getElem?_of_mem (kidD_mem hm e);exact .inr ⟨q,(List.getElem?_eq_some_iff.1 hq).1,hq⟩
  ·exact .inl (.inr ⟨m,hm,by omega⟩)
theorem new_fullWd {w:World} {o:Obj} {cs:Array Value} {T:TypeId} (x:Wd) (ho:o=.cells cs T (0,0)) (hs:cs.size=37):((w.alloc o).setCells w.heap.size 0 (valsWd x)).heap[w.heap.size]?=some (.cells (valsWd x).toArray T (0,0)):=by
 subst ho;rw [heap_setCells (valsWd x) 0 _ _ (newS w _),wrAt_all (by rw [hs];rfl)]
theorem layout_v (A:Option Addr) (c k:Nat) (R:List Nr) (a b:Int) (w:World) (hT:TrOK (R.map Nr.n)) (hk:k=R.length) (h:NrV w A R) (hr:RdR w R) (ha:0≤a∧a≤400) (hb:0≤b∧b≤400) :
  Calls Tryz.prog 55 #[.agg #[.slice A k c],.int .i64 a,.int .i64 b] w fun e w'=>(∃ g,e=.returned (.slice (some ⟨g,0,none⟩) k k)∧w.heap.size≤g∧ReB w' g ((List.range k).map (lrM (R.map Nr.n) a b)))∧Below w.heap.size w w':=by
 subst hk
 have hL:R.length≤10:=by have:=hT.l10;rwa [List.length_map] at this
 have hL1:0<R.length:=by have:=hT.l1;rw [List.length_map] at this;omega
 obtain ⟨fm,hfm,hmk0⟩:=made_Rect
 have hmk:=fun w=>hmk0 R.length w (by omega)
 have HFM:=hD (hfm R.length);have HAB:=hD (And.intro ha hb);have hB0:Below w.heap.size w (w.alloc (.cells #[.slice A R.length c] 25 (0,0))):=balloc (Below.refl _ _);have HX:=hD (newS w (.cells #[.slice A R.length c] 25 (0,0)));have HB:=hD hB0;have HV:=hD (h.keep hB0);have HR:=hD (hr.keep hB0);have x0:=cellS HX.out 0;clear hB0 h hr hmk0 hfm ha hb
 go_enter Tryz.func55,Tryz.ntmps55
 go_wp2_with fail
 refine (settled_v A c R hT _ HV.out HR.out hL).mono ?_;rintro e W0 ⟨⟨v,rfl,gX,X,rfl,hgX,X1,X2,X3⟩,hb0⟩;clear x0 HX;replace HV:=hD (HV.out.keep hb0);replace HR:=hD (HR.out.keep hb0);replace HB:=hD (bkeep2 HB.out hb0);clear hb0;have HX1:=hD X1;have HX2:=hD X2;have HX3:=hD X3;have hgl:gX<W0.heap.size:=RpK.lt X2;have hsz0:w.heap.size≤W0.heap.size:=HB.out.size;clear X1 X2 X3 hgX
 go_upto_region 3 with (fail)
 refine wp_genGG (fun W=>(∃ cs:Array Value,W.heap[W0.heap.size]?=some (.cells cs 32 (0,0))∧cs.size=R.length*4)∧Below W0.heap.size W0 W) ⟨⟨_,newS _ _,HFM.out⟩,balloc (Below.refl _ _)⟩ (fun W1 h1=>?_);obtain ⟨⟨cs0,hc0,hs0⟩,hb1⟩:=h1;have HC0:=hD hc0;have HS0:=hD hs0;have HB1:=hD hb1;obtain ⟨y0,d0⟩:=thereS hc0 (i:=0) (by omega);obtain ⟨y1,d1⟩:=thereS hc0 (i:=1) (by omega)
 obtain ⟨y2,d2⟩:=thereS hc0 (i:=2) (by omega);obtain ⟨y3,d3⟩:=thereS hc0 (i:=3) (by omega);have f0:=frozenS hc0 0;have f1:=frozenS hc0 1;have f2:=frozenS hc0 2;have f3:=frozenS hc0 3;have lg:=ltS hc0;clear hc0 hs0 hb1 HFM hmk
 go_upto_region 4 with (fail)
 refine wp_genGG (fun W=>LyP W W0.heap.size R.length (lrM (R.map Nr.n) a b) (knL (R.map Nr.n) 0)∧Below W0.heap.size W0 W) ⟨(LyP.new (putRe HC0.out 0 ⟨0,0,a,b⟩) HS0.out (lrM_zero _ _ _)).mono fun j _ hj=>knL_zero hT hj,putReb HB1.out (Nat.le_refl _) 0 ⟨0,0,a,b⟩⟩ (fun W2 h2=>?_);obtain ⟨hly2,hb2⟩:=h2;have HLY:=hD hly2;have HB2:=hD hb2
 clear y0 d0 y1 d1 y2 d2 y3 d3 f0 f1 f2 f3 lg HC0 HS0 HB1 hly2 hb2 W1
 go_wp2_with fail
 go_loopw [25] (fun iv wr=>∃ i:Nat,i≤R.length∧iv=.int .i64 (i:Int)∧LyP wr W0.heap.size R.length (lrM (R.map Nr.n) a b) (knL (R.map Nr.n) i)∧Below W0.heap.size W0 wr) (fun iv _=>R.length-(intOf iv).toNat)
 case atStart=>exact ⟨0,by omega,rfl,HLY.out,HB2.out⟩
 case round =>
  obtain ⟨i,hi,rfl,hly,hB⟩:=hrel;clear HLY HB2
  by_cases hlt:i<R.length
  ·have hd:decide ((i:Int)<(R.length:Int))=true:=by simpa using hlt
   have hdi:(i:Int)<(R.length:Int):=by omega
   have hlm:i<(R.map Nr.n).length:=by rw [List.length_map];exact hlt
   obtain ⟨x,hx⟩:∃ x,X[i]?=some x:=⟨_,List.getElem?_eq_getElem (by rw [HX1.out];exact hlt)⟩
   obtain ⟨p,hp,hxp,-,hxn,hxk⟩:=HX3.out i x hx
   have hmg:(R.map Nr.n)[i]?=some p.n:=by rw [List.getElem?_map,hp];rfl
   obtain ⟨b0,off,e0,hb0,hps⟩:=(HX2.out.v.keep hB) (by rw [List.length_map,HX1.out];exact hL1)
   cases e0
   have hc:=hps i (valsWd x) (by rw [List.getElem?_map,hx];rfl);rw [Nat.zero_add] at hc;have HC:=hD hc;have HLY:=hD hly;have HB2:=hD hB;have HP:=hD hp;have HXX:=hD hx;have HXP:=hD hxp;have HXN:=hD hxn;have HXK:=hD hxk;have HMG:=hD hmg;have hsw:W0.heap.size<wr.heap.size:=hly.lt;clear hly hB hps hc hp hx hxp hxn hxk hmg
   go_upto_region 7 with (first|((with_reducible show wpList _ _ _ _ _ _);refine ldK 112 _ (valsWd x) gX (i*37) rfl rfl HC.out Tryz.underlying112 rfl inf_widget rfl ?_)|((with_reducible show wpList _ _ _ _ _ _);refine stK 112 (.tmp 10) (.tmp 29) (valsWd x) wr.heap.size 0 rfl rfl (thereB (newS _ _) (by show (0+37:Nat)≤37;omega)) inf_widget (valsWd_one _) rfl rfl ?_))
   refine wp_genGG (fun W=>W.heap[wr.heap.size]?=some (.cells (valsWd x).toArray 112 (0,0))∧Below wr.heap.size wr W) ⟨new_fullWd x rfl rfl,below_setCells (Nat.le_refl _) _ _ _ (balloc (Below.refl _ _))⟩ (fun W3 h3=>?_);obtain ⟨hxw,hb3⟩:=h3;have HXW:=hD hxw;have lbx:=ltS hxw;have hB3:=bkeep2 HB2.out hb3;replace HLY:=hD (HLY.out.keep hb3);clear hb3 hxw HC;generalize wr.heap.size=bx at *
   have hkl:∀ k∈kidD (R.map Nr.n) i,k<R.length:=fun k hk=>by have:=kidD_lt hk;rwa [List.length_map] at this
   have hk10:(kidD (R.map Nr.n) i).length≤10:=Nat.le_trans (kidD_len _ _) (by rw [List.length_map];exact hL)
   have hpick:∀ k∈kidD (R.map Nr.n) i,∃ y q,X[k]?=some y∧R[k]?=some q∧y.p=q∧(y.sw,y.sh)=szM (R.map Nr.n) k:=fun k hk=>by
    have hlt:=hkl k hk;have hy:X[k]?=some (X[k]'(by rw [HX1.out];exact hlt)):=List.getElem?_eq_getElem _;obtain ⟨q,hq,e1,e2,_⟩:=HX3.out k _ hy;exact ⟨_,q,hy,hq,e1,e2⟩
   obtain ⟨hp1,hp2⟩:=pick_pk hpick
   have hp3:=pick_pl (R:=R) (X:=X) (ks:=kidD (R.map Nr.n) i) fun k hk=>by obtain ⟨y,q,h1,h2,h3,_⟩:=hpick k hk;exact ⟨y,q,h1,h2,h3⟩
   have hpl:=pickW_len (X:=X) (ks:=kidD (R.map Nr.n) i) (fun k hk=>by rw [HX1.out];exact hkl k hk)
   obtain ⟨Y,hY⟩:∃ Y,pickW X (kidD (R.map Nr.n) i)=Y:=⟨_,rfl⟩
   rw [hY] at hp1 hp2 hp3 hpl;have HYL:=hD (show Y.length≤10 by omega);have C0:=hD (show p.n.ki≠1→p.n.ki≠2→bgL (Y.map pkW) from fun _ _=>by rw [hp1];exact bg_of hT i);have C1:=hD (show p.n.ki=1→GW p.n.cs p.n.rs (Y.map ceW) from fun h1=>by rw [hp2];exact gw_of hT HMG.out h1);have C2:=hD (show ∀ y∈Y,plB y.p.n.pl=true from fun y hy=>pls_mem hT _ (hp3 ▸ List.mem_map_of_mem hy))
   obtain ⟨r,hr⟩:∃ r,lrM (R.map Nr.n) a b i=r:=⟨_,rfl⟩
   obtain ⟨hq,hrx,hry⟩:=lrM_room hT HAB.out.1 HAB.out.2 hlm;obtain ⟨-,-,r2,r3⟩:=HLY.out.cell hlt (knL_own hT hlm);rw [hr] at hq hrx hry r2 r3;have HQR:=hD hq;have HRR:=hD hr;have HXY:=hD (And.intro hrx hry);have HM0:=hD (arM_eq (n:=p.n) r.u r.v hp1 hp2 hp3)
   obtain ⟨M,hM⟩:∃ M,arM p.n Y r.u r.v=M:=⟨_,rfl⟩
   rw [hM] at HM0;have HM:=hD hM
   obtain ⟨n2,hn2⟩:∃ n2,Y.length=n2:=⟨_,rfl⟩
   have HN2:=hD hn2;have HNK:=hD (show n2=(kidD (R.map Nr.n) i).length by omega)
   have hn10:n2≤10:=by omega
   have HR1:=hD ((HR.out p (List.mem_of_getElem? HP.out)).keep hB3)
   have HAR:=hD (show ∀ W',Below W3.heap.size W3 W'→Calls Tryz.prog 99 #[.slice (some ⟨gX,0,none⟩) R.length R.length,.int .i64 (i:Int)] W' (fun e w'=>(∃ v,e=.returned v∧ArV w' v x Y)∧Below W'.heap.size W' w') from fun W' hW'=>by
    have:=arranged_v (some ⟨gX,0,none⟩) R.length i X x (kidD (R.map Nr.n) i) W' ((HX2.out.v.keep hB3).keep hW') HXX.out (by rw [HX1.out];omega) (fun k hk=>by rw [HX1.out];exact hkl k hk) ((HXK.out.nv.keep hB3).keep hW') (by rw [HXN.out,List.length_map]) (by rw [HXN.out,List.length_map];omega)
    rw [HX1.out,hY] at this
    exact this)
   have HB3:=hD hB3;have hlg3:W0.heap.size<W3.heap.size:=HLY.out.lt;clear hkl hk10 hpick hp1 hp2 hp3 hpl hY hq hrx hry hr hM hn2 hB3 HX2 HX3
   go_wp2_with fail
   refine wp_region_rx (XV (.slice (some ⟨gX,0,none⟩) R.length R.length) :: XV (.int .i64 (i:Int)) :: (fun v z=>ArV z v x Y) :: XV (.slice (some ⟨W0.heap.size,0,none⟩) R.length R.length) :: XV (.int .i64 (i:Int)) :: XV (.pointer (some ⟨W0.heap.size,i*4,none⟩)) :: XV (.pointer (some ⟨W0.heap.size,i*4+2,none⟩)) :: XV (.int .i64 r.u) :: XV (.slice (some ⟨W0.heap.size,0,none⟩) R.length R.length) :: XV (.int .i64 (i:Int)) :: XV (.pointer (some ⟨W0.heap.size,i*4,none⟩)) :: XV (.pointer (some ⟨W0.heap.size,i*4+3,none⟩)) :: XV (.int .i64 r.v) :: (fun v z=>MrV z v x Y) :: (fun v z=>MrV z v x Y) :: (fun v z=>ArV z v x Y) :: (fun v z=>QrV W3.heap.size z v n2 M) :: XV (.int .i64 (n2:Int)) :: XV (.int .i64 0) :: []) (by kernel_rfl) (by kernel_rfl) ?hTs ?hops ?hfin
   case hTs =>
    intro T hT;simp only [List.mem_cons,List.not_mem_nil,or_false] at hT
    rcases hT with rfl | rfl | rfl | rfl | rfl | rfl | rfl | rfl | rfl | rfl | rfl | rfl | rfl | rfl | rfl | rfl | rfl | rfl | rfl <;> first | exact stay_V _ | exact stay_T | exact stay_of (fun v a b x g=>x.keep g) | exact stay_of (fun v a b x g=>x)
   case hops =>
    refine ⟨opOK_rx [(7,none)] (by kernel_rfl) rfl ?_,?_⟩
    ·intro act w' hw' h1;obtain ⟨hk,hf⟩:=evkf act;generalize act.eval=ρ at *;replace h1:ρ (.tmp 7)=.slice (some ⟨gX,0,none⟩) R.length R.length:=h1
     refine gxB hw' fun K hK hc hf'=>?_
     go_simp;exact hK _ _ ⟨rfl,Gr.refl _⟩
    refine ⟨opOK_rx [(9,none)] (by kernel_rfl) rfl ?_,?_⟩
    ·intro act w' hw' h1;obtain ⟨hk,hf⟩:=evkf act;generalize act.eval=ρ at *;replace h1:ρ (.tmp 9)=.int .i64 (i:Int):=h1
     refine gxB hw' fun K hK hc hf'=>?_
     go_simp;exact hK _ _ ⟨rfl,Gr.refl _⟩
    refine ⟨opOK_rx [(30,some 0),(31,some 1)] (by kernel_rfl) rfl ?_,?_⟩
    ·intro act w' hw' h1 h2;obtain ⟨hk,hf⟩:=evkf act;generalize act.eval=ρ at *;replace h1:ρ (.tmp 30)=.slice (some ⟨gX,0,none⟩) R.length R.length:=h1;replace h2:ρ (.tmp 31)=.int .i64 (i:Int):=h2
     refine gxB hw' fun K hK hc hf'=>?_
     go_simp
     (refine (HAR.out _ (bdrewn hw'.out)).mono ?_);rintro e w1 ⟨⟨v,rfl,hv⟩,hb1⟩;exact ⟨_,rfl,hK _ _ ⟨hv,hb1⟩⟩
    refine ⟨opOK_rx [(8,none)] (by kernel_rfl) rfl ?_,?_⟩
    ·intro act w' hw' h1;obtain ⟨hk,hf⟩:=evkf act;generalize act.eval=ρ at *;replace h1:ρ (.tmp 8)=.slice (some ⟨W0.heap.size,0,none⟩) R.length R.length:=h1
     refine gxB hw' fun K hK hc hf'=>?_
     go_simp;exact hK _ _ ⟨rfl,Gr.refl _⟩
    refine ⟨opOK_rx [(9,none)] (by kernel_rfl) rfl ?_,?_⟩
    ·intro act w' hw' h1;obtain ⟨hk,hf⟩:=evkf act;generalize act.eval=ρ at *;replace h1:ρ (.tmp 9)=.int .i64 (i:Int):=h1
     refine gxB hw' fun K hK hc hf'=>?_
     go_simp;exact hK _ _ ⟨rfl,Gr.refl _⟩
    refine ⟨opOK_rx [(33,some 3),(34,some 4)] (by kernel_rfl) rfl ?_,?_⟩
    ·intro act w' hw' h1 h2;obtain ⟨hk,hf⟩:=evkf act;generalize act.eval=ρ at *;replace h1:ρ (.tmp 33)=.slice (some ⟨W0.heap.size,0,none⟩) R.length R.length:=h1;replace h2:ρ (.tmp 34)=.int .i64 (i:Int):=h2
     refine gxB hw' fun K hK hc hf'=>?_
     go_simp;exact hK _ _ ⟨rfl,Gr.refl _⟩
    refine ⟨opOK_rx [(35,some 5)] (by kernel_rfl) rfl ?_,?_⟩
    ·intro act w' hw' h1;obtain ⟨hk,hf⟩:=evkf act;generalize act.eval=ρ at *;replace h1:ρ (.tmp 35)=.pointer (some ⟨W0.heap.size,i*4,none⟩):=h1
     refine gxB hw' fun K hK hc hf'=>?_
     go_simp;exact hK _ _ ⟨rfl,Gr.refl _⟩
    refine ⟨opOK_rx [(36,some 6)] (by kernel_rfl) rfl ?_,?_⟩
    ·intro act w' hw' h1;obtain ⟨hk,hf⟩:=evkf act;generalize act.eval=ρ at *;replace h1:ρ (.tmp 36)=.pointer (some ⟨W0.heap.size,i*4+2,none⟩):=h1
     refine gxB hw' fun K hK hc hf'=>?_
     go_simp;exact hK _ _ ⟨rfl,Gr.refl _⟩
    refine ⟨opOK_rx [(8,none)] (by kernel_rfl) rfl ?_,?_⟩
    ·intro act w' hw' h1;obtain ⟨hk,hf⟩:=evkf act;generalize act.eval=ρ at *;replace h1:ρ (.tmp 8)=.slice (some ⟨W0.heap.size,0,none⟩) R.length R.length:=h1
     refine gxB hw' fun K hK hc hf'=>?_
     go_simp;exact hK _ _ ⟨rfl,Gr.refl _⟩
    refine ⟨opOK_rx [(9,none)] (by kernel_rfl) rfl ?_,?_⟩
    ·intro act w' hw' h1;obtain ⟨hk,hf⟩:=evkf act;generalize act.eval=ρ at *;replace h1:ρ (.tmp 9)=.int .i64 (i:Int):=h1
     refine gxB hw' fun K hK hc hf'=>?_
     go_simp;exact hK _ _ ⟨rfl,Gr.refl _⟩
    refine ⟨opOK_rx [(38,some 8),(39,some 9)] (by kernel_rfl) rfl ?_,?_⟩
    ·intro act w' hw' h1 h2;obtain ⟨hk,hf⟩:=evkf act;generalize act.eval=ρ at *;replace h1:ρ (.tmp 38)=.slice (some ⟨W0.heap.size,0,none⟩) R.length R.length:=h1;replace h2:ρ (.tmp 39)=.int .i64 (i:Int):=h2
     refine gxB hw' fun K hK hc hf'=>?_
     go_simp;exact hK _ _ ⟨rfl,Gr.refl _⟩
    refine ⟨opOK_rx [(40,some 10)] (by kernel_rfl) rfl ?_,?_⟩
    ·intro act w' hw' h1;obtain ⟨hk,hf⟩:=evkf act;generalize act.eval=ρ at *;replace h1:ρ (.tmp 40)=.pointer (some ⟨W0.heap.size,i*4,none⟩):=h1
     refine gxB hw' fun K hK hc hf'=>?_
     go_simp;exact hK _ _ ⟨rfl,Gr.refl _⟩
    refine ⟨opOK_rx [(41,some 11)] (by kernel_rfl) rfl ?_,?_⟩
    ·intro act w' hw' h1;obtain ⟨hk,hf⟩:=evkf act;generalize act.eval=ρ at *;replace h1:ρ (.tmp 41)=.pointer (some ⟨W0.heap.size,i*4+3,none⟩):=h1
     refine gxB hw' fun K hK hc hf'=>?_
     go_simp;exact hK _ _ ⟨rfl,Gr.refl _⟩
    refine ⟨opOK_rx [(32,some 2)] (by kernel_rfl) rfl ?_,?_⟩
    ·intro act w' hw' h1;obtain ⟨hk,hf⟩:=evkf act;generalize act.eval=ρ at *;replace h1:(fun v z=>ArV z v x Y) (ρ (.tmp 32)) w':=h1;refine gx_gen (fun K hK=>?_);rw [run_mf rfl];exact hK _ _ ⟨⟨_,rfl,h1⟩,Gr.refl _⟩
    refine ⟨opOK_rx [(43,some 13)] (by kernel_rfl) rfl ?_,?_⟩
    ·intro act w' hw' h1;obtain ⟨hk,hf⟩:=evkf act;generalize act.eval=ρ at *;replace h1:(fun v z=>MrV z v x Y) (ρ (.tmp 43)) w':=h1;refine gx_gen (fun K hK=>?_);obtain ⟨u,e,hu⟩:=h1;obtain ⟨T,u2,F,rfl,hn,hc,hcall⟩:=arRects (a:=r.u) (b:=r.v) hu HXP.out (HR1.out.keep (bdrewn hw'.out)) HYL.out HQR.out C0.out C1.out C2.out;rw [run_nc rfl e hn];exact hK _ _ ⟨⟨_,e,hu⟩,Gr.refl _⟩
    refine ⟨opOK_rx [(32,some 2)] (by kernel_rfl) rfl ?_,?_⟩
    ·intro act w' hw' h1;obtain ⟨hk,hf⟩:=evkf act;generalize act.eval=ρ at *;replace h1:(fun v z=>ArV z v x Y) (ρ (.tmp 32)) w':=h1
     refine gxB hw' fun K hK hc hf'=>?_
     go_simp;exact hK _ _ ⟨h1,Gr.refl _⟩
    refine ⟨opOK_rx [(45,some 15),(37,some 7),(42,some 12)] (by kernel_rfl) rfl ?_,?_⟩
    ·intro act w' hw' h1 h2 h3;obtain ⟨hk,hf⟩:=evkf act;generalize act.eval=ρ at *;replace h1:(fun v z=>ArV z v x Y) (ρ (.tmp 45)) w':=h1;replace h2:ρ (.tmp 37)=.int .i64 r.u:=h2;replace h3:ρ (.tmp 42)=.int .i64 r.v:=h3;refine gx_gen (fun K hK=>?_)
     obtain ⟨T,u,F,e,hn,hc,hcall⟩:=arRects (a:=r.u) (b:=r.v) h1 HXP.out (HR1.out.keep (bdrewn hw'.out)) HYL.out HQR.out C0.out C1.out C2.out;rw [HN2.out,HM.out] at hcall;rw [run_inv2 rfl e h2 h3 (hc _ _ _)];refine hcall.mono ?_;rintro e' w1 ⟨⟨g,rfl,hg,hr1⟩,hb1⟩;exact ⟨_,rfl,hK _ _ ⟨⟨g,rfl,Nat.le_trans (bdrewn hw'.out).size hg,hr1⟩,hb1⟩⟩
    refine ⟨opOK_rx [(46,some 16)] (by kernel_rfl) rfl ?_,?_⟩
    ·intro act w' hw' h1;obtain ⟨hk,hf⟩:=evkf act;generalize act.eval=ρ at *;replace h1:(fun v z=>QrV W3.heap.size z v n2 M) (ρ (.tmp 46)) w':=h1;refine gx_gen (fun K hK=>?_);obtain ⟨g,e,hg,hr1⟩:=h1;go_simp;exact hK _ _ ⟨rfl,Gr.refl _⟩
    refine ⟨opOK_rx [] (by kernel_rfl) rfl ?_,?_⟩
    ·intro act w' hw';obtain ⟨hk,hf⟩:=evkf act;generalize act.eval=ρ at *
     refine gxB hw' fun K hK hc hf'=>?_
     go_simp;exact hK _ _ ⟨rfl,Gr.refl _⟩
    exact trivial
   case hfin =>
    intro w7 hg7;intro v30 t30;replace t30:v30=.slice (some ⟨gX,0,none⟩) R.length R.length:=t30;subst t30;intro v31 t31;replace t31:v31=.int .i64 (i:Int):=t31;subst t31;intro v32 t32;replace t32:(fun v z=>ArV z v x Y) v32 w7:=t32;intro v33 t33;replace t33:v33=.slice (some ⟨W0.heap.size,0,none⟩) R.length R.length:=t33;subst t33;intro v34 t34;replace t34:v34=.int .i64 (i:Int):=t34;subst t34
    intro v35 t35;replace t35:v35=.pointer (some ⟨W0.heap.size,i*4,none⟩):=t35;subst t35;intro v36 t36;replace t36:v36=.pointer (some ⟨W0.heap.size,i*4+2,none⟩):=t36;subst t36;intro v37 t37;replace t37:v37=.int .i64 r.u:=t37;subst t37;intro v38 t38;replace t38:v38=.slice (some ⟨W0.heap.size,0,none⟩) R.length R.length:=t38;subst t38;intro v39 t39;replace t39:v39=.int .i64 (i:Int):=t39;subst t39
    intro v40 t40;replace t40:v40=.pointer (some ⟨W0.heap.size,i*4,none⟩):=t40;subst t40;intro v41 t41;replace t41:v41=.pointer (some ⟨W0.heap.size,i*4+3,none⟩):=t41;subst t41;intro v42 t42;replace t42:v42=.int .i64 r.v:=t42;subst t42;intro v43 t43;replace t43:(fun v z=>MrV z v x Y) v43 w7:=t43;intro v44 t44;replace t44:(fun v z=>MrV z v x Y) v44 w7:=t44;intro v45 t45
    replace t45:(fun v z=>ArV z v x Y) v45 w7:=t45;intro v46 t46;replace t46:(fun v z=>QrV W3.heap.size z v n2 M) v46 w7:=t46;intro v47 t47;replace t47:v47=.int .i64 (n2:Int):=t47;subst t47;intro v48 t48;replace t48:v48=.int .i64 0:=t48;subst t48;have hb7:=bdrewn hg7.out;clear hg7;simp only [finP,Act.put,List.setIfInBounds_toArray,List.set_cons_succ,List.set_cons_zero];obtain ⟨gq,rfl,hgq,hRQ⟩:=t46
    clear t32 t43 t44 t45 r2 r3;replace HLY:=hD (HLY.out.keep hb7);replace HXW:=hD ((hb7.block _ lbx).trans HXW.out);replace HB3:=hD (bkeep2 HB3.out hb7);have HRQ:=hD hRQ
    have hne1:gq≠W0.heap.size:=by omega
    have hne2:bx≠W0.heap.size:=by omega
    clear hRQ hb7 HAR HR1 C0 C1 C2 HYL HN2 HM
    go_wp2_with fail
    go_loopw [48] (fun mv wr=>∃ m:Nat,m≤n2∧mv=.int .i64 (m:Int)∧LyP wr W0.heap.size R.length (lrM (R.map Nr.n) a b) (knI (R.map Nr.n) i m)∧ReB wr gq M∧wr.heap[bx]?=some (.cells (valsWd x).toArray 112 (0,0))∧Below W0.heap.size W0 wr) (fun mv _=>n2-(intOf mv).toNat)
    case atStart=>exact ⟨0,by omega,rfl,HLY.out.mono fun j _ hj=>knI_zero hj,HRQ.out,HXW.out,HB3.out⟩
    case round =>
     obtain ⟨m,hm,rfl,hly,hq,hxw,hB⟩:=hrel;clear HLY HRQ HXW HB3
     by_cases hlt2:m<n2
     ·have hd2:decide ((m:Int)<(n2:Int))=true:=by simpa using hlt2
      have hdm:(m:Int)<(n2:Int):=by omega
      obtain ⟨kd,hkd⟩:∃ kd,(kidD (R.map Nr.n) i)[m]?=some kd:=⟨_,List.getElem?_eq_getElem (by rw [<- HNK.out];exact hlt2)⟩
      have hkdl:kd<R.length:=by have:=kidD_lt (List.mem_of_getElem? hkd);rwa [List.length_map] at this
      obtain ⟨q,hq0⟩:∃ q,M[m]?=some q:=⟨_,List.getElem?_eq_getElem (by rw [HM0.out,kidR0_len,<- HNK.out];exact hlt2)⟩
      obtain ⟨b1,off,e1,hb1,hps⟩:=hq.v.cells (by have:=(List.getElem?_eq_some_iff.1 hq0).1;omega)
      cases e1
      obtain ⟨c0,c1,c2,c3⟩:=hps m q hq0;rw [Nat.zero_add] at c0 c1 c2 c3
      have hkid:lrM (R.map Nr.n) a b kd=q.at r.x r.y:=by
       refine lrM_kid hT HMG.out hkd ?_;rw [HRR.out];unfold kidR;rw [List.getElem?_map,<- HM0.out,hq0]
       rfl
      have hbd:(-1000000000000000≤q.x∧q.x≤1000000000000000)∧(-1000000000000000≤q.y∧q.y≤1000000000000000):=by
       obtain ⟨z1,z2⟩:=rqW_iff.1 HQR.out
       have:=kidR0_bd hT HMG.out z1 z2 (by rw [<- HM0.out];exact hq0)
       omega
      obtain ⟨kb,koff,ek,hkb,hkp⟩:=(HXK.out.nv.keep hB).cells (by rw [List.length_map];have:=(List.getElem?_eq_some_iff.1 hkd).1;omega);have ck:=hkp m (kd:Int) (by rw [List.getElem?_map,hkd];rfl);have HLY:=hD hly;have HRQ:=hD hq;have HXW:=hD hxw;have HB3:=hD hB;have HKD:=hD hkd;have HKI:=hD hkid;have HBD:=hD hbd;have HEK:=hD ek;have CK:=hD ck;have lgs:=hly.lt;have lxs:=ltS hxw
      clear hly hq hxw hB hkd hkid hbd hps hkp hq0 ek ck
      go_upto_region 10 with (fail)
      refine wp_genGG (fun W=>W.heap[wr.heap.size]?=some (.cells #[.int .i64 q.x,.int .i64 q.y,.int .i64 q.u,.int .i64 q.v] 32 (0,0))∧Below wr.heap.size wr W) ⟨newS _ _,balloc (Below.refl _ _)⟩ (fun W8 h8=>?_);obtain ⟨hq8,hb8⟩:=h8;replace HLY:=hD (HLY.out.keep hb8);replace HRQ:=hD (HRQ.out.keep hb8);replace HXW:=hD ((hb8.block _ lxs).trans HXW.out);replace HB3:=hD (bkeep2 HB3.out hb8)
      obtain ⟨r0,r1,-,-⟩:=HLY.out.cell hlt (.inl (knL_own hT hlm));rw [HRR.out] at r0 r1;have z0:=cellS hq8 0;have z1:=cellS hq8 1;have z2:=cellS hq8 2;have z3:=cellS hq8 3
      have x36:W8.cell? ⟨bx,36,none⟩=some (.slice (some ⟨kb,koff,none⟩) n2 x.kc):=by
       rw [cellS HXW.out 36]
       show some (Value.slice x.ka x.kn x.kc)=_
       rw [HEK.out,HXN.out,List.length_map,<- HNK.out]
      have ck8:=(hb8.cell (p:=⟨kb,koff+m,none⟩) hkb).trans CK.out;have l1:=ltS HXW.out;have l2:=ltS hq8;have l3:=HLY.out.lt;have l4:kb<W8.heap.size:=Nat.lt_of_lt_of_le hkb hb8.size
      have hkdi:(kd:Int)<(R.length:Int):=by omega
      clear hq8 hb8 c0 c1 c2 c3 lxs lgs hkb CK
      go_wp2_with fail
      refine wp_region_rxl 19 1 [] #[true,true,true,true,true,true,true,true,true,true,true,true,true,true,true,true,true,true,true,false] (by kernel_rfl) (by kernel_rfl) (by kernel_rfl) (XV (.slice (some ⟨W0.heap.size,0,none⟩) R.length R.length) :: XV (.pointer (some ⟨bx,36,none⟩)) :: XV (.slice (some ⟨kb,koff,none⟩) n2 x.kc) :: XV (.int .i64 (m:Int)) :: XV (.pointer (some ⟨kb,koff+m,none⟩)) :: XV (.int .i64 (kd:Int)) :: XV (.agg #[.int .i64 q.x,.int .i64 q.y,.int .i64 q.u,.int .i64 q.v]) :: XV (.slice (some ⟨W0.heap.size,0,none⟩) R.length R.length) :: XV (.int .i64 (i:Int)) :: XV (.pointer (some ⟨W0.heap.size,i*4,none⟩)) :: XV (.pointer (some ⟨W0.heap.size,i*4,none⟩)) :: XV (.int .i64 r.x) :: XV (.slice (some ⟨W0.heap.size,0,none⟩) R.length R.length) :: XV (.int .i64 (i:Int)) :: XV (.pointer (some ⟨W0.heap.size,i*4,none⟩)) :: XV (.pointer (some ⟨W0.heap.size,i*4+1,none⟩)) :: XV (.int .i64 r.y) :: XV (.agg #[.int .i64 (q.x+r.x),.int .i64 (q.y+r.y),.int .i64 q.u,.int .i64 q.v]) :: XV (.pointer (some ⟨W0.heap.size,kd*4,none⟩)) :: []) (by kernel_rfl) (by kernel_rfl) (by kernel_rfl) ?hTs ?hXs ?hops ?hfin
      case hTs =>
       intro T hT;simp only [List.mem_cons,List.not_mem_nil,or_false] at hT
       rcases hT with rfl | rfl | rfl | rfl | rfl | rfl | rfl | rfl | rfl | rfl | rfl | rfl | rfl | rfl | rfl | rfl | rfl | rfl | rfl <;> first | exact stay_V _ | exact stay_T | exact stay_of (fun v a b x g=>x.keep g) | exact stay_of (fun v a b x g=>x)
      case hXs =>
       intro x d s hx;exact absurd hx (List.not_mem_nil)
      case hops =>
       refine ⟨opOK_rx [(8,none)] (by kernel_rfl) rfl ?_,?_⟩
       ·intro act w' hw' h1;obtain ⟨hk,hf⟩:=evkf act;generalize act.eval=ρ at *;replace h1:ρ (.tmp 8)=.slice (some ⟨W0.heap.size,0,none⟩) R.length R.length:=h1
        refine gxB hw' fun K hK hc hf'=>?_
        go_simp;exact hK _ _ ⟨rfl,Gr.refl _⟩
       refine ⟨opOK_rx [(10,none)] (by kernel_rfl) rfl ?_,?_⟩
       ·intro act w' hw' h1;obtain ⟨hk,hf⟩:=evkf act;generalize act.eval=ρ at *;replace h1:ρ (.tmp 10)=.pointer (some ⟨bx,0,none⟩):=h1
        refine gxB hw' fun K hK hc hf'=>?_
        go_simp;exact hK _ _ ⟨rfl,Gr.refl _⟩
       refine ⟨opOK_rx [(54,some 1)] (by kernel_rfl) rfl ?_,?_⟩
       ·intro act w' hw' h1;obtain ⟨hk,hf⟩:=evkf act;generalize act.eval=ρ at *;replace h1:ρ (.tmp 54)=.pointer (some ⟨bx,36,none⟩):=h1
        refine gxB hw' fun K hK hc hf'=>?_
        go_simp;exact hK _ _ ⟨rfl,Gr.refl _⟩
       refine ⟨opOK_rx [(11,none)] (by kernel_rfl) rfl ?_,?_⟩
       ·intro act w' hw' h1;obtain ⟨hk,hf⟩:=evkf act;generalize act.eval=ρ at *;replace h1:ρ (.tmp 11)=.int .i64 (m:Int):=h1
        refine gxB hw' fun K hK hc hf'=>?_
        go_simp;exact hK _ _ ⟨rfl,Gr.refl _⟩
       refine ⟨opOK_rx [(55,some 2),(56,some 3)] (by kernel_rfl) rfl ?_,?_⟩
       ·intro act w' hw' h1 h2;obtain ⟨hk,hf⟩:=evkf act;generalize act.eval=ρ at *;replace h1:ρ (.tmp 55)=.slice (some ⟨kb,koff,none⟩) n2 x.kc:=h1;replace h2:ρ (.tmp 56)=.int .i64 (m:Int):=h2
        refine gxB hw' fun K hK hc hf'=>?_
        go_simp;exact hK _ _ ⟨rfl,Gr.refl _⟩
       refine ⟨opOK_rx [(57,some 4)] (by kernel_rfl) rfl ?_,?_⟩
       ·intro act w' hw' h1;obtain ⟨hk,hf⟩:=evkf act;generalize act.eval=ρ at *;replace h1:ρ (.tmp 57)=.pointer (some ⟨kb,koff+m,none⟩):=h1
        refine gxB hw' fun K hK hc hf'=>?_
        go_simp;exact hK _ _ ⟨rfl,Gr.refl _⟩
       refine ⟨opOK_rx [(12,none)] (by kernel_rfl) rfl ?_,?_⟩
       ·intro act w' hw' h1;obtain ⟨hk,hf⟩:=evkf act;generalize act.eval=ρ at *;replace h1:ρ (.tmp 12)=.pointer (some ⟨wr.heap.size,0,none⟩):=h1
        refine gxB hw' fun K hK hc hf'=>?_
        go_simp;exact hK _ _ ⟨rfl,Gr.refl _⟩
       refine ⟨opOK_rx [(8,none)] (by kernel_rfl) rfl ?_,?_⟩
       ·intro act w' hw' h1;obtain ⟨hk,hf⟩:=evkf act;generalize act.eval=ρ at *;replace h1:ρ (.tmp 8)=.slice (some ⟨W0.heap.size,0,none⟩) R.length R.length:=h1
        refine gxB hw' fun K hK hc hf'=>?_
        go_simp;exact hK _ _ ⟨rfl,Gr.refl _⟩
       refine ⟨opOK_rx [(9,none)] (by kernel_rfl) rfl ?_,?_⟩
       ·intro act w' hw' h1;obtain ⟨hk,hf⟩:=evkf act;generalize act.eval=ρ at *;replace h1:ρ (.tmp 9)=.int .i64 (i:Int):=h1
        refine gxB hw' fun K hK hc hf'=>?_
        go_simp;exact hK _ _ ⟨rfl,Gr.refl _⟩
       refine ⟨opOK_rx [(60,some 7),(61,some 8)] (by kernel_rfl) rfl ?_,?_⟩
       ·intro act w' hw' h1 h2;obtain ⟨hk,hf⟩:=evkf act;generalize act.eval=ρ at *;replace h1:ρ (.tmp 60)=.slice (some ⟨W0.heap.size,0,none⟩) R.length R.length:=h1;replace h2:ρ (.tmp 61)=.int .i64 (i:Int):=h2
        refine gxB hw' fun K hK hc hf'=>?_
        go_simp;exact hK _ _ ⟨rfl,Gr.refl _⟩
       refine ⟨opOK_rx [(62,some 9)] (by kernel_rfl) rfl ?_,?_⟩
       ·intro act w' hw' h1;obtain ⟨hk,hf⟩:=evkf act;generalize act.eval=ρ at *;replace h1:ρ (.tmp 62)=.pointer (some ⟨W0.heap.size,i*4,none⟩):=h1
        refine gxB hw' fun K hK hc hf'=>?_
        go_simp;exact hK _ _ ⟨rfl,Gr.refl _⟩
       refine ⟨opOK_rx [(63,some 10)] (by kernel_rfl) rfl ?_,?_⟩
       ·intro act w' hw' h1;obtain ⟨hk,hf⟩:=evkf act;generalize act.eval=ρ at *;replace h1:ρ (.tmp 63)=.pointer (some ⟨W0.heap.size,i*4,none⟩):=h1
        refine gxB hw' fun K hK hc hf'=>?_
        go_simp;exact hK _ _ ⟨rfl,Gr.refl _⟩
       refine ⟨opOK_rx [(8,none)] (by kernel_rfl) rfl ?_,?_⟩
       ·intro act w' hw' h1;obtain ⟨hk,hf⟩:=evkf act;generalize act.eval=ρ at *;replace h1:ρ (.tmp 8)=.slice (some ⟨W0.heap.size,0,none⟩) R.length R.length:=h1
        refine gxB hw' fun K hK hc hf'=>?_
        go_simp;exact hK _ _ ⟨rfl,Gr.refl _⟩
       refine ⟨opOK_rx [(9,none)] (by kernel_rfl) rfl ?_,?_⟩
       ·intro act w' hw' h1;obtain ⟨hk,hf⟩:=evkf act;generalize act.eval=ρ at *;replace h1:ρ (.tmp 9)=.int .i64 (i:Int):=h1
        refine gxB hw' fun K hK hc hf'=>?_
        go_simp;exact hK _ _ ⟨rfl,Gr.refl _⟩
       refine ⟨opOK_rx [(65,some 12),(66,some 13)] (by kernel_rfl) rfl ?_,?_⟩
       ·intro act w' hw' h1 h2;obtain ⟨hk,hf⟩:=evkf act;generalize act.eval=ρ at *;replace h1:ρ (.tmp 65)=.slice (some ⟨W0.heap.size,0,none⟩) R.length R.length:=h1;replace h2:ρ (.tmp 66)=.int .i64 (i:Int):=h2
        refine gxB hw' fun K hK hc hf'=>?_
        go_simp;exact hK _ _ ⟨rfl,Gr.refl _⟩
       refine ⟨opOK_rx [(67,some 14)] (by kernel_rfl) rfl ?_,?_⟩
       ·intro act w' hw' h1;obtain ⟨hk,hf⟩:=evkf act;generalize act.eval=ρ at *;replace h1:ρ (.tmp 67)=.pointer (some ⟨W0.heap.size,i*4,none⟩):=h1
        refine gxB hw' fun K hK hc hf'=>?_
        go_simp;exact hK _ _ ⟨rfl,Gr.refl _⟩
       refine ⟨opOK_rx [(68,some 15)] (by kernel_rfl) rfl ?_,?_⟩
       ·intro act w' hw' h1;obtain ⟨hk,hf⟩:=evkf act;generalize act.eval=ρ at *;replace h1:ρ (.tmp 68)=.pointer (some ⟨W0.heap.size,i*4+1,none⟩):=h1
        refine gxB hw' fun K hK hc hf'=>?_
        go_simp;exact hK _ _ ⟨rfl,Gr.refl _⟩
       refine ⟨opOK_rx [(59,some 6),(64,some 11),(69,some 16)] (by kernel_rfl) rfl ?_,?_⟩
       ·intro act w' hw' h1 h2 h3;obtain ⟨hk,hf⟩:=evkf act;generalize act.eval=ρ at *;replace h1:ρ (.tmp 59)=.agg #[.int .i64 q.x,.int .i64 q.y,.int .i64 q.u,.int .i64 q.v]:=h1;replace h2:ρ (.tmp 64)=.int .i64 r.x:=h2;replace h3:ρ (.tmp 69)=.int .i64 r.y:=h3
        refine gxB hw' fun K hK hc hf'=>?_
        go_simp
        (refine (moved_w q.x q.y q.u q.v r.x r.y _ HBD.out.1 HBD.out.2 ?_ ?_).mono ?_) <;> first|(have:=HXY.out;have:=rqW_iff.1 HQR.out;omega)|(rintro e w1 ⟨rfl,hb1⟩;exact ⟨_,rfl,hK _ _ ⟨rfl,hb1⟩⟩)
       refine ⟨opOK_rx [(53,some 0),(58,some 5)] (by kernel_rfl) rfl ?_,?_⟩
       ·intro act w' hw' h1 h2;obtain ⟨hk,hf⟩:=evkf act;generalize act.eval=ρ at *;replace h1:ρ (.tmp 53)=.slice (some ⟨W0.heap.size,0,none⟩) R.length R.length:=h1;replace h2:ρ (.tmp 58)=.int .i64 (kd:Int):=h2
        refine gxB hw' fun K hK hc hf'=>?_
        go_simp;exact hK _ _ ⟨rfl,Gr.refl _⟩
       exact trivial
      case hfin =>
       intro w10 hg10;intro v53 t53;replace t53:v53=.slice (some ⟨W0.heap.size,0,none⟩) R.length R.length:=t53;subst t53;intro v54 t54;replace t54:v54=.pointer (some ⟨bx,36,none⟩):=t54;subst t54;intro v55 t55;replace t55:v55=.slice (some ⟨kb,koff,none⟩) n2 x.kc:=t55;subst t55;intro v56 t56;replace t56:v56=.int .i64 (m:Int):=t56;subst t56;intro v57 t57
       replace t57:v57=.pointer (some ⟨kb,koff+m,none⟩):=t57;subst t57;intro v58 t58;replace t58:v58=.int .i64 (kd:Int):=t58;subst t58;intro v59 t59;replace t59:v59=.agg #[.int .i64 q.x,.int .i64 q.y,.int .i64 q.u,.int .i64 q.v]:=t59;subst t59;intro v60 t60;replace t60:v60=.slice (some ⟨W0.heap.size,0,none⟩) R.length R.length:=t60;subst t60;intro v61 t61;replace t61:v61=.int .i64 (i:Int):=t61
       subst t61;intro v62 t62;replace t62:v62=.pointer (some ⟨W0.heap.size,i*4,none⟩):=t62;subst t62;intro v63 t63;replace t63:v63=.pointer (some ⟨W0.heap.size,i*4,none⟩):=t63;subst t63;intro v64 t64;replace t64:v64=.int .i64 r.x:=t64;subst t64;intro v65 t65;replace t65:v65=.slice (some ⟨W0.heap.size,0,none⟩) R.length R.length:=t65;subst t65;intro v66 t66;replace t66:v66=.int .i64 (i:Int):=t66
       subst t66;intro v67 t67;replace t67:v67=.pointer (some ⟨W0.heap.size,i*4,none⟩):=t67;subst t67;intro v68 t68;replace t68:v68=.pointer (some ⟨W0.heap.size,i*4+1,none⟩):=t68;subst t68;intro v69 t69;replace t69:v69=.int .i64 r.y:=t69;subst t69;intro v70 t70;replace t70:v70=.agg #[.int .i64 (q.x+r.x),.int .i64 (q.y+r.y),.int .i64 q.u,.int .i64 q.v]:=t70;subst t70;intro v71 t71
       replace t71:v71=.pointer (some ⟨W0.heap.size,kd*4,none⟩):=t71;subst t71;have hb10:=bdrewn hg10.out;clear hg10;simp only [finP,List.take_succ_cons,List.take_zero,Act.put,List.setIfInBounds_toArray,List.set_cons_succ,List.set_cons_zero];have hth:w10.there W0.heap.size (kd*4) (valsRe (q.at r.x r.y)).length:=(HLY.out.keep hb10).there hkdl
       refine wpAny_store 19 32 (.tmp 71) (.tmp 70) W0.heap.size (kd*4) (valsRe (q.at r.x r.y)) (by kernel_rfl) (by kernel_rfl) (by kernel_rfl) rfl rfl hth (by kernel_rfl) (valsRe_one2 _) ?_;refine nopan_normal ?_;have E1:=hD ((HLY.out.keep hb10).put hkdl HKI.out (fun j hj=>knI_step HKD.out hj));have hRQ:=HRQ.out.keep hb10
       have E2:=hD (show ReB (w10.setCells W0.heap.size (kd*4) (valsRe (q.at r.x r.y))) gq M from let ⟨cs,hh,hs⟩:=hRQ;⟨cs,(heap_setCells_ne hne1 _ _ _).trans hh,hs⟩);have E3:=hD ((heap_setCells_ne hne2 (valsRe (q.at r.x r.y)) (kd*4) w10).trans ((hb10.block _ l1).trans HXW.out));have E4:=hD (below_setCells (Nat.le_refl _) (valsRe (q.at r.x r.y)) (kd*4) _ (bkeep2 HB3.out hb10))
       clear hth hb10 hRQ HLY HRQ HXW HB3 z0 z1 z2 z3 x36 ck8 r0 r1 l1 l2 l3 l4;go_wp2
       go_roundw
       case rel=>exact ⟨m+1,by omega,by go_num,E1.out,E2.out,E3.out,E4.out⟩
       case measure=>simp [intOf];omega
     ·have hd2:decide ((m:Int)<(n2:Int))=false:=by simp;omega
      obtain rfl:m=n2:=by omega
      have HLY:=hD hly;have HB3:=hD hB;clear hly hq hxw hB;go_wp2
      go_roundw
      case rel=>exact ⟨i+1,by omega,by go_num,HLY.out.mono fun j hj hk=>by rw [HNK.out];exact knI_all (by rw [List.length_map];exact hj) hk,HB3.out⟩
      case measure=>simp [intOf];omega
  ·have hd:decide ((i:Int)<(R.length:Int))=false:=by simp;omega
   obtain rfl:i=R.length:=by omega
   have HK:=hD (hly.whole fun j hj=>by have:=knL_all hT (j:=j) (by rw [List.length_map];exact hj);rwa [List.length_map] at this);have HB2:=hD (HB.out.trans (hB.mono hsz0));clear hly hB;go_wp2;go_ret;exact ⟨⟨_,rfl,hsz0,HK.out⟩,HB2.out⟩
end
section
attribute [local go_sem 5000] run_mx run_mn
attribute [local go_sem] givesUpon_value givesUpon_skip givesUpon_enter
def revals:List Re→List Value
 | []=>[]
 | r :: t=>valsRe r ++ revals t
theorem revals_append (A B:List Re):revals (A ++ B)=revals A ++ revals B:=by
 induction A with
 | nil=>rfl
 | cons r t ih=>simp [revals,ih]
theorem revals_succ {M:List Re} {k:Nat} {r:Re} (h:M[k]?=some r):revals (M.take k) ++ valsRe r=revals (M.take (k+1)):=by
 rw [List.take_add_one,h,Option.toList,revals_append];simp [revals]
theorem revals_get:∀ {M:List Re} {i:Nat} {r:Re},M[i]?=some r→∀ j,j<4→(revals M)[i*4+j]?=(valsRe r)[j]?
 | [],i,r,h,_,_=>by simp at h
 | q :: t,0,r,h,j,hj=>by
  simp at h;subst h
  show (valsRe q ++ revals t)[0*4+j]?=_
  rw [List.getElem?_append_left (by simp [valsRe];omega)];simp
 | q :: t,i+1,r,h,j,hj=>by
  show (valsRe q ++ revals t)[(i+1)*4+j]?=_
  rw [List.getElem?_append_right (by simp [valsRe];omega)]
  have:=revals_get (M:=t) (i:=i) (r:=r) (by simpa using h) j hj
  rw [<- this];congr 1;simp [valsRe];omega
theorem ReR.own {w:World} {base n:Nat} {v:Value} {M:List Re} {T:TypeId} (h:w.ownsRow base T 4 v n (revals M)) (hn:n=M.length):ReR w v M:=by
 subst hn;have hl:=h.lt
 have hc:=fun g hg=>h.cells (g:=g) hg
 rcases h.2 with ⟨rfl,h0⟩ | ⟨g,cap,cur,rfl,_⟩
 ·exact ⟨none,0,by rw [h0],⟨fun h=>absurd h (by omega)⟩⟩
 ·refine ⟨_,cap,rfl,⟨fun _=>⟨g,0,rfl,(hl g rfl).2,fun i r hr=>?_⟩⟩⟩
  have e:∀ j,j<4→∀ u,(valsRe r)[j]?=some u→w.cell? ⟨g,0+i*4+j,none⟩=some u:=fun j hj u hu=>by
   have h1:=hc g rfl (i*4+j) u ((revals_get hr j hj).trans hu)
   have hadd:(⟨g,0,none⟩:Addr).add (i*4+j)=⟨g,i*4+j,none⟩:=by unfold Addr.add;split <;> simp_all
   rw [hadd] at h1
   rwa [Nat.zero_add]
  exact ⟨e 0 (by omega) _ rfl,e 1 (by omega) _ rfl,e 2 (by omega) _ rfl,e 3 (by omega) _ rfl⟩
theorem rect_infoN:∃ (i:TypeInfo) (z:Value),Tryz.prog.info? 32=some i∧i.zero=some z∧i.size=4∧i.bytes=32∧z.cells.size=4:=by
 have hinfo:(Tryz.prog.info? 32).map (fun i=>(i.zero,i.size,i.bytes))=some (some (.agg #[.int .i64 0,.int .i64 0,.int .i64 0,.int .i64 0]),4,32):=by kernel_rfl
 obtain ⟨i,hi,h1,h2,h3⟩:=info_parts hinfo;exact ⟨i,_,hi,h1,h2,h3,rfl⟩
theorem newRe4 (W:World) (r:Re) (T:TypeId):∀ (j:Nat) (u:Value),(valsRe r)[j]?=some u→(W.alloc (.cells #[.int .i64 r.x,.int .i64 r.y,.int .i64 r.u,.int .i64 r.v] T)).cell? ((⟨W.heap.size,0,none⟩:Addr).add j)=some u:=fun j u h=>by
 have hadd:(⟨W.heap.size,0,none⟩:Addr).add j=⟨W.heap.size,j,none⟩:=by unfold Addr.add;split <;> simp_all
 rw [hadd];exact (cellS (newS W _) j).trans (by simpa [valsRe] using h)
theorem valsRe_one (r:Re):∀ u∈valsRe r,u.oneCell'=true:=by intro u hu;simp [valsRe] at hu;rcases hu with rfl | rfl | rfl | rfl <;> rfl
theorem sinset_g (x y u v p q:Int) (w:World) (h:((-2000000000000000≤x∧x≤2000000000000000)∧(-2000000000000000≤y∧y≤2000000000000000))∧((0≤u∧u≤20000000000000)∧(0≤v∧v≤20000000000000))) (hp:0≤p∧p≤10) (hq:0≤q∧q≤10):Calls Tryz.prog 172 #[.agg #[.int .i64 (x),.int .i64 (y),.int .i64 (u),.int .i64 (v)],.int .i64 p,.int .i64 q] w fun e w'=>e=.returned (.agg #[.int .i64 (x+mn p (u / 2)),.int .i64 (y+mn q (v / 2)),.int .i64 (mx (u-2*p) 0),.int .i64 (mx (v-2*q) 0)])∧Below w.heap.size w w':=by
 have hbd:=ins_bdU (a:=⟨x,y,u,v⟩) h.2 hp hq
 dsimp only at hbd
 obtain ⟨⟨⟨m1,m2⟩,m3,m4⟩,⟨m5,m6⟩,m7,m8⟩:=hbd;obtain ⟨⟨⟨a1,a2⟩,⟨a3,a4⟩⟩,⟨a5,a6⟩,⟨a7,a8⟩⟩:=h;obtain ⟨b1,b2⟩:=hp;obtain ⟨b3,b4⟩:=hq;rw [mx_comm (u-2*p) 0,mx_comm (v-2*q) 0] at *
 go_enter Tryz.func172,Tryz.ntmps172
 go_wp2
 exact bodyPost_ret (v:=.agg #[.int .i64 (x+mn p (u / 2)),.int .i64 (y+mn q (v / 2)),.int .i64 (mx 0 (u-2*p)),.int .i64 (mx 0 (v-2*q))]) (by simp only [results,Tryz.results172];go_simp) rfl ⟨rfl,(by repeat (first | with_reducible exact Below.refl _ _ | with_reducible assumption | with_reducible refine balloc ?_|(with_reducible refine bset ?_ ?_;rotate_left;((try dsimp only);omega)) | refine bkeep2 ?_ (by assumption) | with_reducible refine Below.drew ?_))⟩
theorem sinset_r (a b:Re) (p q:Int) (w:World) (h:BdM a) (hp:0≤p∧p≤10) (hq:0≤q∧q≤10) (hb:insR a p q=b):Calls Tryz.prog 172 #[.agg #[.int .i64 a.x,.int .i64 a.y,.int .i64 a.u,.int .i64 a.v],.int .i64 p,.int .i64 q] w fun e w'=>e=.returned (.agg #[.int .i64 b.x,.int .i64 b.y,.int .i64 b.u,.int .i64 b.v])∧Below w.heap.size w w':=by
 subst hb;exact sinset_g _ _ _ _ _ _ w h hp hq
theorem sstuck_v (x room wish s t:Int) (lo hi:Bool) (w:World) (hx:-4000000000000000≤x∧x≤4000000000000000) (hr:0≤room∧room≤20000000000000) (hw:0≤wish∧wish≤1000000000000) (hs:stkS x room wish lo hi=(s,t)):Calls Tryz.prog 173 #[.int .i64 x,.int .i64 room,.int .i64 wish,.bool lo,.bool hi] w fun e w'=>e=.returned (.tuple #[.int .i64 s,.int .i64 t])∧w=w':=by
 have hm:=mn_spec wish room
 have m1:0≤mn wish room:=by omega
 have m2:mn wish room≤1000000000000:=by omega
 have m3:mn wish room≤room:=by omega
 clear hm;obtain ⟨hx0,hx1⟩:=hx;obtain ⟨hr0,hr1⟩:=hr
 cases lo <;> cases hi
 all_goals
  simp [stkS] at hs
  obtain ⟨rfl,rfl⟩:=hs
  go_enter Tryz.func173,Tryz.ntmps173
  go_wp2;refine bodyPost_ret (by simp only [results,Tryz.results173];go_simp) rfl ⟨rfl,rfl⟩
theorem NV.takeN {w:World} {g:Nat} {L:List Int} (h:NV w (some ⟨g,0,none⟩) L) (k:Nat):NV w (some ⟨g,0,none⟩) (L.take k):=by
 refine ⟨fun h0=>?_⟩;obtain ⟨b,off,e,hb,hp⟩:=h.cells (by rw [List.length_take] at h0;omega)
 cases e
 exact ⟨g,0,rfl,hb,fun i x hx=>hp i x (by rw [List.getElem?_take] at hx;split at hx;exact hx;cases hx)⟩
theorem NV.segN {w:World} {g:Nat} {L:List Int} (h:NV w (some ⟨g,0,none⟩) L) (a m:Nat):NV w (some ⟨g,a,none⟩) (segI L a m):=by
 refine ⟨fun h0=>?_⟩;obtain ⟨b,off,e,hb,hp⟩:=h.cells (by have:0<(segI L a m).length:=h0;rw [segI,List.length_take,List.length_drop] at this;omega)
 cases e
 refine ⟨g,a,rfl,hb,fun i x hx=>?_⟩;rw [segI,List.getElem?_take] at hx
 split at hx
 ·rw [List.getElem?_drop] at hx
  have:=hp (a+i) x hx
  rwa [Nat.zero_add] at this
 ·cases hx
def NRo (w:World) (v:Value) (n:Nat) (L:List Int):Prop:=∃ g c,v=.slice (some ⟨g,0,none⟩) n c∧n≤c∧NV w (some ⟨g,0,none⟩) L
theorem NRo.keep {w w':World} {v:Value} {n:Nat} {L:List Int} (h:NRo w v n L) (hb:Below w.heap.size w w'):NRo w' v n L:=let ⟨A,c,e,q,n⟩:=h;⟨A,c,e,q,n.keep hb⟩
theorem tot_z (g o n c:Nat) (L:List Int) (W:World) (h:NV W (some ⟨g,o,none⟩) L) (hn:n=L.length) (hM:Smal 1000000000000000 L) (h5:n≤5):∀ w',Below W.heap.size W w'→Calls Tryz.prog 151 #[.slice (some ⟨g,o,none⟩) n c] w' fun e w''=>e=.returned (.int .i64 (sumI L))∧Gr w' w'' :=
 fun w' hb=>total_b _ c n L w' (h.keep hb) hn (by omega) hM
theorem gridded_w (A1:Option Addr) (c1:Nat) (L1:List Ln) (A2:Option Addr) (c2:Nat) (L2:List Ln) (A3:Option Addr) (c3:Nat) (L3:List Ce) (ox oy u v:Int) (w:World) (h1:LnV w A1 L1) (h2:LnV w A2 L2) (h3:CeV w A3 L3) (gf:GW L1 L2 L3) (hu:rqW u v=true) (hox:-1000000000000000≤ox∧ox≤1000000000000000) (hoy:-1000000000000000≤oy∧oy≤1000000000000000) (q1:L1.length≤c1) (q2:L2.length≤c2) :
  Calls Tryz.prog 141 #[.agg #[.slice A1 L1.length c1,.slice A2 L2.length c2,.slice A3 L3.length c3],.agg #[.int .i64 (ox),.int .i64 (oy),.int .i64 (u),.int .i64 (v)]] w fun e w'=>(∃ x,e=.returned x∧ReR w' x (L3.map (cellT (sizedM L1 (L3.map acM) u) (sizedM L2 (L3.map dnM) v) ox oy))∧∀ k,x.ownBlock=some k→w.heap.size≤k)∧Below w.heap.size w w':=by
 obtain ⟨ti,tz,ti1,ti2,ti3,ti4,ti5⟩:=rect_infoN;obtain ⟨⟨u0,u1⟩,⟨v0,v1⟩⟩:=rqW_iff.1 hu;have hl8:=gf.hl8;have n1:=gf.n1;have n2:=gf.n2;have hz1:=SzB.of gf.v1 gf.s1 u0 u1;have hz2:=SzB.of gf.v2 gf.s2 v0 v1;have l1:=sizedM_lenW (room:=u) gf.v1 gf.s1 u0 u1;have l2:=sizedM_lenW (room:=v) gf.v2 gf.s2 v0 v1;have HF:=hD gf;have HFT:=hD (fit_ofW gf l1 l2);have HZ1:=hD hz1;have HZ2:=hD hz2;have HL1:=hD l1
 have HL2:=hD l2
 obtain ⟨S1,hS1⟩:∃ S,(sizedM L1 (L3.map acM) u)=S:=⟨_,rfl⟩
 obtain ⟨S2,hS2⟩:∃ S,(sizedM L2 (L3.map dnM) v)=S:=⟨_,rfl⟩
 have HLL1:=hD l1;have HLL2:=hD l2;rw [hS1] at HFT HZ1 HL1;rw [hS2] at HFT HZ2 HL2;rw [hS1,hS2];have HE1:=hD hS1;have HE2:=hD hS2;clear hS1 hS2;have hB0:Below w.heap.size w ((w.alloc (.cells #[.slice A1 L1.length c1,.slice A2 L2.length c2,.slice A3 L3.length c3] 128 (0,0))).alloc (.cells #[.int .i64 ox,.int .i64 oy,.int .i64 u,.int .i64 v] 32 (0,0))):=balloc (balloc (Below.refl _ _))
 have HX:=hD ((Below.heap_alloc (w.alloc (.cells #[.slice A1 L1.length c1,.slice A2 L2.length c2,.slice A3 L3.length c3] 128 (0,0))) (.cells #[.int .i64 ox,.int .i64 oy,.int .i64 u,.int .i64 v] 32 (0,0)) w.heap.size (by simp)).trans (newS w (.cells #[.slice A1 L1.length c1,.slice A2 L2.length c2,.slice A3 L3.length c3] 128 (0,0))))
 have hy:=newS (w.alloc (.cells #[.slice A1 L1.length c1,.slice A2 L2.length c2,.slice A3 L3.length c3] 128 (0,0))) (.cells #[.int .i64 ox,.int .i64 oy,.int .i64 u,.int .i64 v] 32 (0,0));rw [World.size_alloc] at hy;have HY:=hD hy;have HV1:=hD (h1.keep hB0);have HV2:=hD (h2.keep hB0);have HV3:=hD (h3.keep hB0);have HB:=hD hB0;clear hB0 h1 h2 h3 gf hu hy hz1 hz2 l1 l2
 go_enter Tryz.func141,Tryz.ntmps141
 go_upto_region 1 with (fail)
 refine wp_genGG (fun W=>W.heap[w.heap.size]?=some (.cells #[.slice A1 L1.length c1,.slice A2 L2.length c2,.slice A3 L3.length c3] 128 (0,0))∧W.heap[w.heap.size+1]?=some (.cells #[.int .i64 ox,.int .i64 oy,.int .i64 u,.int .i64 v] 32 (0,0))∧LnV W A1 L1∧LnV W A2 L2∧CeV W A3 L3∧Below w.heap.size w W) ⟨HX.out,HY.out,HV1.out,HV2.out,HV3.out,HB.out⟩ (fun w0 h0=>?_);clear HX HY HV1 HV2 HV3 HB
 obtain ⟨hx,hy,h1,h2,h3,hb0⟩:=h0;have HX:=hD hx;have HY:=hD hy;have HV1:=hD h1;have HV2:=hD h2;have HV3:=hD h3;have HB:=hD hb0;clear hx hy h1 h2 h3 hb0;have d0:=cellS HX.out 0;have d1:=cellS HX.out 1;have d2:=cellS HX.out 2;have y2:=cellS HY.out 2;have lx:=ltS HX.out;have ly:=ltS HY.out
 go_wp2_with fail
 refine wp_region_rx (XV (.pointer (some ⟨w.heap.size,0,none⟩)) :: XV (.slice A1 L1.length c1) :: XV (.pointer (some ⟨w.heap.size,0,none⟩)) :: XV (.slice A1 L1.length c1) :: XV (.agg #[.slice A1 L1.length c1,.slice A2 L2.length c2,.slice A3 L3.length c3]) :: (fun z9 w=>SpR w z9 (L3.map acM)) :: (fun z9 w=>NRz w z9 L1.length (wishM L1 (L3.map acM))) :: XV (.pointer (some ⟨w.heap.size+1,2,none⟩)) :: XV (.int .i64 u) :: (fun z9 w=>NRo w z9 L1.length (sizedM L1 (L3.map acM) u)) :: (fun z9 w=>NRo w z9 L1.length (sizedM L1 (L3.map acM) u)) :: []) (by kernel_rfl) (by kernel_rfl) ?hTs ?hops ?hfin
 case hTs =>
  intro T hT;simp only [List.mem_cons,List.not_mem_nil,or_false] at hT
  rcases hT with rfl | rfl | rfl | rfl | rfl | rfl | rfl | rfl | rfl | rfl | rfl <;> first | exact stay_V _ | exact stay_T | exact stay_of (fun v a b x g=>x.keep g) | exact stay_of (fun v a b x g=>x)
 case hops =>
  refine ⟨opOK_rx [(2,none)] (by kernel_rfl) rfl ?_,?_⟩
  ·intro act w' hw' h1;obtain ⟨hk,hf⟩:=evkf act;generalize act.eval=ρ at *;replace h1:ρ (.tmp 2)=.pointer (some ⟨w.heap.size,0,none⟩):=h1
   refine gxB hw' fun K hK hc hf'=>?_
   go_simp;exact hK _ _ ⟨rfl,Gr.refl _⟩
  refine ⟨opOK_rx [(16,some 0)] (by kernel_rfl) rfl ?_,?_⟩
  ·intro act w' hw' h1;obtain ⟨hk,hf⟩:=evkf act;generalize act.eval=ρ at *;replace h1:ρ (.tmp 16)=.pointer (some ⟨w.heap.size,0,none⟩):=h1
   refine gxB hw' fun K hK hc hf'=>?_
   go_simp;exact hK _ _ ⟨rfl,Gr.refl _⟩
  refine ⟨opOK_rx [(2,none)] (by kernel_rfl) rfl ?_,?_⟩
  ·intro act w' hw' h1;obtain ⟨hk,hf⟩:=evkf act;generalize act.eval=ρ at *;replace h1:ρ (.tmp 2)=.pointer (some ⟨w.heap.size,0,none⟩):=h1
   refine gxB hw' fun K hK hc hf'=>?_
   go_simp;exact hK _ _ ⟨rfl,Gr.refl _⟩
  refine ⟨opOK_rx [(18,some 2)] (by kernel_rfl) rfl ?_,?_⟩
  ·intro act w' hw' h1;obtain ⟨hk,hf⟩:=evkf act;generalize act.eval=ρ at *;replace h1:ρ (.tmp 18)=.pointer (some ⟨w.heap.size,0,none⟩):=h1
   refine gxB hw' fun K hK hc hf'=>?_
   go_simp;exact hK _ _ ⟨rfl,Gr.refl _⟩
  refine ⟨opOK_rx [(2,none)] (by kernel_rfl) rfl ?_,?_⟩
  ·intro act w' hw' h1;obtain ⟨hk,hf⟩:=evkf act;generalize act.eval=ρ at *;replace h1:ρ (.tmp 2)=.pointer (some ⟨w.heap.size,0,none⟩):=h1
   refine gxB hw' fun K hK hc hf'=>?_
   go_simp;exact hK _ _ ⟨rfl,Gr.refl _⟩
  refine ⟨opOK_rx [(20,some 4)] (by kernel_rfl) rfl ?_,?_⟩
  ·intro act w' hw' h1;obtain ⟨hk,hf⟩:=evkf act;generalize act.eval=ρ at *;replace h1:ρ (.tmp 20)=.agg #[.slice A1 L1.length c1,.slice A2 L2.length c2,.slice A3 L3.length c3]:=h1
   refine gxB hw' fun K hK hc hf'=>?_
   go_simp
   (with_reducible refine (colSpans_w A1 A2 A3 c1 L1.length c2 L2.length c3 L3 _ (HV3.out.keep (bdrewn hw'.out)) hl8 HF.out.hsm).mono ?_);rintro e w1 ⟨⟨z,rfl,hr1⟩,hb1⟩;exact ⟨_,rfl,hK _ _ ⟨hr1,hb1⟩⟩
  refine ⟨opOK_rx [(19,some 3),(21,some 5)] (by kernel_rfl) rfl ?_,?_⟩
  ·intro act w' hw' h1 h2;obtain ⟨hk,hf⟩:=evkf act;generalize act.eval=ρ at *;replace h1:ρ (.tmp 19)=.slice A1 L1.length c1:=h1;replace h2:(fun z9 w=>SpR w z9 (L3.map acM)) (ρ (.tmp 21)) w':=h2
   refine gxB hw' fun K hK hc hf'=>?_
   go_simp;obtain ⟨A,c,e,hs⟩:=h2;rw [e];(with_reducible refine (wished_w A1 c1 L1 A c (L3.map acM) _ (HV1.out.keep (bdrewn hw'.out)) HF.out.v1 hs HF.out.s1 q1).mono ?_);rintro e w1 ⟨⟨g,cap,rfl,_,hr1⟩,hb1⟩;exact ⟨_,rfl,hK _ _ ⟨⟨_,_,rfl,hr1.nv⟩,hb1⟩⟩
  refine ⟨opOK_rx [(3,none)] (by kernel_rfl) rfl ?_,?_⟩
  ·intro act w' hw' h1;obtain ⟨hk,hf⟩:=evkf act;generalize act.eval=ρ at *;replace h1:ρ (.tmp 3)=.pointer (some ⟨w.heap.size+1,0,none⟩):=h1
   refine gxB hw' fun K hK hc hf'=>?_
   go_simp;exact hK _ _ ⟨rfl,Gr.refl _⟩
  refine ⟨opOK_rx [(23,some 7)] (by kernel_rfl) rfl ?_,?_⟩
  ·intro act w' hw' h1;obtain ⟨hk,hf⟩:=evkf act;generalize act.eval=ρ at *;replace h1:ρ (.tmp 23)=.pointer (some ⟨w.heap.size+1,2,none⟩):=h1
   refine gxB hw' fun K hK hc hf'=>?_
   go_simp;exact hK _ _ ⟨rfl,Gr.refl _⟩
  refine ⟨opOK_rx [(17,some 1),(22,some 6),(24,some 8)] (by kernel_rfl) rfl ?_,?_⟩
  ·intro act w' hw' h1 h2 h3;obtain ⟨hk,hf⟩:=evkf act;generalize act.eval=ρ at *;replace h1:ρ (.tmp 17)=.slice A1 L1.length c1:=h1;replace h2:(fun z9 w=>NRz w z9 L1.length (wishM L1 (L3.map acM))) (ρ (.tmp 22)) w':=h2;replace h3:ρ (.tmp 24)=.int .i64 u:=h3
   refine gxB hw' fun K hK hc hf'=>?_
   go_simp
   obtain ⟨A,c,e,hs⟩:=h2;rw [e];(with_reducible refine (sized_w A c L1.length _ A1 c1 L1 u _ hs (wish_okW HF.out.v1 HF.out.s1).2.1.symm (HV1.out.keep (bdrewn hw'.out)) HF.out.v1 (wish_okW HF.out.v1 HF.out.s1).1 (wish_okW HF.out.v1 HF.out.s1).2.2.1 (wish_okW HF.out.v1 HF.out.s1).2.2.2.1 (wish_okW HF.out.v1 HF.out.s1).2.2.2.2 u0 u1).mono ?_);rintro e w1 ⟨⟨g,cap,rfl,_,hr1⟩,hb1⟩;exact ⟨_,rfl,hK _ _ ⟨⟨g,cap,rfl,Nat.le_trans (Nat.le_of_eq HLL1.out.symm) hr1.1,hr1.nv⟩,hb1⟩⟩
  refine ⟨opOK_rx [(25,some 9)] (by kernel_rfl) rfl ?_,?_⟩
  ·intro act w' hw' h1;obtain ⟨hk,hf⟩:=evkf act;generalize act.eval=ρ at *;replace h1:(fun z9 w=>NRo w z9 L1.length (sizedM L1 (L3.map acM) u)) (ρ (.tmp 25)) w':=h1
   refine gxB hw' fun K hK hc hf'=>?_
   go_simp;exact hK _ _ ⟨h1,Gr.refl _⟩
  exact trivial
 case hfin =>
  intro w1 hg1;intro v16 t16;replace t16:v16=.pointer (some ⟨w.heap.size,0,none⟩):=t16;subst t16;intro v17 t17;replace t17:v17=.slice A1 L1.length c1:=t17;subst t17;intro v18 t18;replace t18:v18=.pointer (some ⟨w.heap.size,0,none⟩):=t18;subst t18;intro v19 t19;replace t19:v19=.slice A1 L1.length c1:=t19;subst t19;intro v20 t20
  replace t20:v20=.agg #[.slice A1 L1.length c1,.slice A2 L2.length c2,.slice A3 L3.length c3]:=t20;subst t20;intro v21 t21;replace t21:(fun z9 w=>SpR w z9 (L3.map acM)) v21 w1:=t21;intro v22 t22;replace t22:(fun z9 w=>NRz w z9 L1.length (wishM L1 (L3.map acM))) v22 w1:=t22;intro v23 t23;replace t23:v23=.pointer (some ⟨w.heap.size+1,2,none⟩):=t23;subst t23;intro v24 t24
  replace t24:v24=.int .i64 u:=t24;subst t24;intro v25 t25;replace t25:(fun z9 w=>NRo w z9 L1.length (sizedM L1 (L3.map acM) u)) v25 w1:=t25;intro v5 t5;replace t5:(fun z9 w=>NRo w z9 L1.length (sizedM L1 (L3.map acM) u)) v5 w1:=t5;have hb1:=bdrewn hg1.out;clear hg1;simp only [finP,Act.put,List.setIfInBounds_toArray,List.set_cons_succ,List.set_cons_zero];obtain ⟨g1,e1,rfl,he1,hn1⟩:=t5
  clear t21 t22 t25 d0 d1 d2 y2 lx ly;replace HX:=hbk hb1 HX;replace HY:=hbk hb1 HY;replace HV1:=hD (HV1.out.keep hb1);replace HV2:=hD (HV2.out.keep hb1);replace HV3:=hD (HV3.out.keep hb1);replace HB:=hD (bkeep2 HB.out hb1);clear hb1;have HN1:=hD hn1;clear hn1;have d0:=cellS HX.out 0;have d1:=cellS HX.out 1;have d2:=cellS HX.out 2;have y3:=cellS HY.out 3;have lx:=ltS HX.out;have ly:=ltS HY.out
  go_wp2_with fail
  refine wp_region_rx (XV (.pointer (some ⟨w.heap.size,1,none⟩)) :: XV (.slice A2 L2.length c2) :: XV (.pointer (some ⟨w.heap.size,1,none⟩)) :: XV (.slice A2 L2.length c2) :: XV (.agg #[.slice A1 L1.length c1,.slice A2 L2.length c2,.slice A3 L3.length c3]) :: (fun z9 w=>SpR w z9 (L3.map dnM)) :: (fun z9 w=>NRz w z9 L2.length (wishM L2 (L3.map dnM))) :: XV (.pointer (some ⟨w.heap.size+1,3,none⟩)) :: XV (.int .i64 v) :: (fun z9 w=>NRo w z9 L2.length (sizedM L2 (L3.map dnM) v)) :: (fun z9 w=>NRo w z9 L2.length (sizedM L2 (L3.map dnM) v)) :: []) (by kernel_rfl) (by kernel_rfl) ?hTs ?hops ?hfin
  case hTs =>
   intro T hT;simp only [List.mem_cons,List.not_mem_nil,or_false] at hT
   rcases hT with rfl | rfl | rfl | rfl | rfl | rfl | rfl | rfl | rfl | rfl | rfl <;> first | exact stay_V _ | exact stay_T | exact stay_of (fun v a b x g=>x.keep g) | exact stay_of (fun v a b x g=>x)
  case hops =>
   refine ⟨opOK_rx [(2,none)] (by kernel_rfl) rfl ?_,?_⟩
   ·intro act w' hw' h1;obtain ⟨hk,hf⟩:=evkf act;generalize act.eval=ρ at *;replace h1:ρ (.tmp 2)=.pointer (some ⟨w.heap.size,0,none⟩):=h1
    refine gxB hw' fun K hK hc hf'=>?_
    go_simp;exact hK _ _ ⟨rfl,Gr.refl _⟩
   refine ⟨opOK_rx [(26,some 0)] (by kernel_rfl) rfl ?_,?_⟩
   ·intro act w' hw' h1;obtain ⟨hk,hf⟩:=evkf act;generalize act.eval=ρ at *;replace h1:ρ (.tmp 26)=.pointer (some ⟨w.heap.size,1,none⟩):=h1
    refine gxB hw' fun K hK hc hf'=>?_
    go_simp;exact hK _ _ ⟨rfl,Gr.refl _⟩
   refine ⟨opOK_rx [(2,none)] (by kernel_rfl) rfl ?_,?_⟩
   ·intro act w' hw' h1;obtain ⟨hk,hf⟩:=evkf act;generalize act.eval=ρ at *;replace h1:ρ (.tmp 2)=.pointer (some ⟨w.heap.size,0,none⟩):=h1
    refine gxB hw' fun K hK hc hf'=>?_
    go_simp;exact hK _ _ ⟨rfl,Gr.refl _⟩
   refine ⟨opOK_rx [(28,some 2)] (by kernel_rfl) rfl ?_,?_⟩
   ·intro act w' hw' h1;obtain ⟨hk,hf⟩:=evkf act;generalize act.eval=ρ at *;replace h1:ρ (.tmp 28)=.pointer (some ⟨w.heap.size,1,none⟩):=h1
    refine gxB hw' fun K hK hc hf'=>?_
    go_simp;exact hK _ _ ⟨rfl,Gr.refl _⟩
   refine ⟨opOK_rx [(2,none)] (by kernel_rfl) rfl ?_,?_⟩
   ·intro act w' hw' h1;obtain ⟨hk,hf⟩:=evkf act;generalize act.eval=ρ at *;replace h1:ρ (.tmp 2)=.pointer (some ⟨w.heap.size,0,none⟩):=h1
    refine gxB hw' fun K hK hc hf'=>?_
    go_simp;exact hK _ _ ⟨rfl,Gr.refl _⟩
   refine ⟨opOK_rx [(30,some 4)] (by kernel_rfl) rfl ?_,?_⟩
   ·intro act w' hw' h1;obtain ⟨hk,hf⟩:=evkf act;generalize act.eval=ρ at *;replace h1:ρ (.tmp 30)=.agg #[.slice A1 L1.length c1,.slice A2 L2.length c2,.slice A3 L3.length c3]:=h1
    refine gxB hw' fun K hK hc hf'=>?_
    go_simp
    (with_reducible refine (rowSpans_w A1 A2 A3 c1 L1.length c2 L2.length c3 L3 _ (HV3.out.keep (bdrewn hw'.out)) hl8 HF.out.hsm).mono ?_);rintro e w1 ⟨⟨z,rfl,hr1⟩,hb1⟩;exact ⟨_,rfl,hK _ _ ⟨hr1,hb1⟩⟩
   refine ⟨opOK_rx [(29,some 3),(31,some 5)] (by kernel_rfl) rfl ?_,?_⟩
   ·intro act w' hw' h1 h2;obtain ⟨hk,hf⟩:=evkf act;generalize act.eval=ρ at *;replace h1:ρ (.tmp 29)=.slice A2 L2.length c2:=h1;replace h2:(fun z9 w=>SpR w z9 (L3.map dnM)) (ρ (.tmp 31)) w':=h2
    refine gxB hw' fun K hK hc hf'=>?_
    go_simp;obtain ⟨A,c,e,hs⟩:=h2;rw [e];(with_reducible refine (wished_w A2 c2 L2 A c (L3.map dnM) _ (HV2.out.keep (bdrewn hw'.out)) HF.out.v2 hs HF.out.s2 q2).mono ?_);rintro e w1 ⟨⟨g,cap,rfl,_,hr1⟩,hb1⟩;exact ⟨_,rfl,hK _ _ ⟨⟨_,_,rfl,hr1.nv⟩,hb1⟩⟩
   refine ⟨opOK_rx [(3,none)] (by kernel_rfl) rfl ?_,?_⟩
   ·intro act w' hw' h1;obtain ⟨hk,hf⟩:=evkf act;generalize act.eval=ρ at *;replace h1:ρ (.tmp 3)=.pointer (some ⟨w.heap.size+1,0,none⟩):=h1
    refine gxB hw' fun K hK hc hf'=>?_
    go_simp;exact hK _ _ ⟨rfl,Gr.refl _⟩
   refine ⟨opOK_rx [(33,some 7)] (by kernel_rfl) rfl ?_,?_⟩
   ·intro act w' hw' h1;obtain ⟨hk,hf⟩:=evkf act;generalize act.eval=ρ at *;replace h1:ρ (.tmp 33)=.pointer (some ⟨w.heap.size+1,3,none⟩):=h1
    refine gxB hw' fun K hK hc hf'=>?_
    go_simp;exact hK _ _ ⟨rfl,Gr.refl _⟩
   refine ⟨opOK_rx [(27,some 1),(32,some 6),(34,some 8)] (by kernel_rfl) rfl ?_,?_⟩
   ·intro act w' hw' h1 h2 h3;obtain ⟨hk,hf⟩:=evkf act;generalize act.eval=ρ at *;replace h1:ρ (.tmp 27)=.slice A2 L2.length c2:=h1;replace h2:(fun z9 w=>NRz w z9 L2.length (wishM L2 (L3.map dnM))) (ρ (.tmp 32)) w':=h2;replace h3:ρ (.tmp 34)=.int .i64 v:=h3
    refine gxB hw' fun K hK hc hf'=>?_
    go_simp
    obtain ⟨A,c,e,hs⟩:=h2;rw [e];(with_reducible refine (sized_w A c L2.length _ A2 c2 L2 v _ hs (wish_okW HF.out.v2 HF.out.s2).2.1.symm (HV2.out.keep (bdrewn hw'.out)) HF.out.v2 (wish_okW HF.out.v2 HF.out.s2).1 (wish_okW HF.out.v2 HF.out.s2).2.2.1 (wish_okW HF.out.v2 HF.out.s2).2.2.2.1 (wish_okW HF.out.v2 HF.out.s2).2.2.2.2 v0 v1).mono ?_);rintro e w1 ⟨⟨g,cap,rfl,_,hr1⟩,hb1⟩;exact ⟨_,rfl,hK _ _ ⟨⟨g,cap,rfl,Nat.le_trans (Nat.le_of_eq HLL2.out.symm) hr1.1,hr1.nv⟩,hb1⟩⟩
   refine ⟨opOK_rx [(35,some 9)] (by kernel_rfl) rfl ?_,?_⟩
   ·intro act w' hw' h1;obtain ⟨hk,hf⟩:=evkf act;generalize act.eval=ρ at *;replace h1:(fun z9 w=>NRo w z9 L2.length (sizedM L2 (L3.map dnM) v)) (ρ (.tmp 35)) w':=h1
    refine gxB hw' fun K hK hc hf'=>?_
    go_simp;exact hK _ _ ⟨h1,Gr.refl _⟩
   exact trivial
  case hfin =>
   intro w2 hg2;intro v26 t26;replace t26:v26=.pointer (some ⟨w.heap.size,1,none⟩):=t26;subst t26;intro v27 t27;replace t27:v27=.slice A2 L2.length c2:=t27;subst t27;intro v28 t28;replace t28:v28=.pointer (some ⟨w.heap.size,1,none⟩):=t28;subst t28;intro v29 t29;replace t29:v29=.slice A2 L2.length c2:=t29;subst t29;intro v30 t30
   replace t30:v30=.agg #[.slice A1 L1.length c1,.slice A2 L2.length c2,.slice A3 L3.length c3]:=t30;subst t30;intro v31 t31;replace t31:(fun z9 w=>SpR w z9 (L3.map dnM)) v31 w2:=t31;intro v32 t32;replace t32:(fun z9 w=>NRz w z9 L2.length (wishM L2 (L3.map dnM))) v32 w2:=t32;intro v33 t33;replace t33:v33=.pointer (some ⟨w.heap.size+1,3,none⟩):=t33;subst t33;intro v34 t34
   replace t34:v34=.int .i64 v:=t34;subst t34;intro v35 t35;replace t35:(fun z9 w=>NRo w z9 L2.length (sizedM L2 (L3.map dnM) v)) v35 w2:=t35;intro v6 t6;replace t6:(fun z9 w=>NRo w z9 L2.length (sizedM L2 (L3.map dnM) v)) v6 w2:=t6;have hb2:=bdrewn hg2.out;clear hg2;simp only [finP,Act.put,List.setIfInBounds_toArray,List.set_cons_succ,List.set_cons_zero];obtain ⟨g2,e2,rfl,he2,hn2⟩:=t6
   clear t31 t32 t35 d0 d1 d2 y3 lx ly;replace HX:=hbk hb2 HX;replace HY:=hbk hb2 HY;replace HV1:=hD (HV1.out.keep hb2);replace HV2:=hD (HV2.out.keep hb2);replace HV3:=hD (HV3.out.keep hb2);replace HN1:=hD (HN1.out.keep hb2);replace HB:=hD (bkeep2 HB.out hb2);clear hb2;have HN2:=hD hn2;clear hn2
   have ho0:=World.ownsRow_lit (base:=w2.heap.size) (e:=32) (size:=4) w2 #[] 0 (Nat.le_refl _) (by decide) rfl;have HO:=hD (show (w2.alloc (.cells #[] 32 (0,0))).ownsRow w2.heap.size 32 4 (.slice (some ⟨w2.heap.size,0,none⟩) 0 0) 0 (revals []) from ho0);clear ho0;have hs2:=HB.out.size;have lx:=ltS HX.out;have ly:=ltS HY.out;replace HN1:=hD (show NV _ _ S1 by rw [<- HE1.out];exact HN1.out)
   replace HN2:=hD (show NV _ _ S2 by rw [<- HE2.out];exact HN2.out)
   go_wp2_with fail
   go_loopw [7,8] (fun out i wr=>∃ k:Nat,k≤L3.length∧i=.int .i64 k∧wr.ownsRow w2.heap.size 32 4 out k (revals ((L3.map (cellT S1 S2 ox oy)).take k))∧Below w2.heap.size w2 wr) (fun _ i _=>L3.length-(intOf i).toNat)
   case atStart=>exact ⟨0,by omega,rfl,HO.out,balloc (Below.refl _ _)⟩
   case round =>
    obtain ⟨k,hk,rfl,ho,hBr⟩:=hrel;clear HO;have hsr:=hBr.size;have xg:=(hBr.block _ lx).trans HX.out;have d2:=cellS xg 2
    by_cases hlt:k<L3.length
    ·have hd:decide ((k:Int)<(L3.length:Int))=true:=by simpa using hlt
     obtain ⟨b,off,rfl,hb,hp⟩:=(HV3.out.keep hBr).cells (by omega);have hget:L3[k]?=some L3[k]:=List.getElem?_eq_getElem hlt;have hft:fitC S1 S2 L3[k]:=HFT.out _ (List.getElem_mem hlt);have hcs:=hp k _ hget;have hts:=revals_succ (show (L3.map (cellT S1 S2 ox oy))[k]?=some (cellT S1 S2 ox oy L3[k]) by rw [List.getElem?_map,hget];rfl);generalize L3[k]=p at *;obtain ⟨co,ro,mc,mr,cw,ch,sk,px,py⟩:=p
     obtain ⟨⟨hcw,hch,hpx,hpy⟩,hsk,⟨h3,h4,h5,h6⟩,h7,h8⟩:=hft
     dsimp only at h3 h4 h5 h6 h7 h8 hcw hch hpx hpy hsk hcs
     obtain ⟨k1,rfl⟩:=Int.eq_ofNat_of_zero_le h3;obtain ⟨k2,rfl⟩:=Int.eq_ofNat_of_zero_le h4;obtain ⟨m1,rfl⟩:=Int.eq_ofNat_of_zero_le (show 0≤mc by omega);obtain ⟨m2,rfl⟩:=Int.eq_ofNat_of_zero_le (show 0≤mr by omega);obtain ⟨s0,s1,s2,s3,s4,s5,s6,s7,s8⟩:=hcs;have hob:=ho.lt;have HO:=hD ho;have HTS:=hD hts;have HBR:=hD hBr
     have h7':k1+m1≤S1.length:=by omega
     have h8':k2+m2≤S2.length:=by omega
     have HBD:=hD (area_bd HZ1.out HZ2.out ⟨k1,k2,m1,m2,cw,ch,sk,px,py⟩);clear ho hts hBr hp hget h7 h8 h3 h4
     go_upto_region 8 with (fail)
     refine wp_genGG (fun W=>W.heap[wr.heap.size]?=some (.cells #[.int .i64 k1,.int .i64 k2,.int .i64 m1,.int .i64 m2,.int .i64 cw,.int .i64 ch,.int .i64 sk,.int .i64 px,.int .i64 py] 39 (0,0))∧Below wr.heap.size wr W) ⟨newS _ _,balloc (Below.refl _ _)⟩ (fun W hW=>?_);clear s0 s1 s2 s3 s4 s5 s6 s7 s8 d2;obtain ⟨hc0,hbW⟩:=hW;have hsW:=hbW.size
     have hyW:=(hbW.block _ (by omega)).trans ((HBR.out.block _ ly).trans HY.out);have x0:=cellS hc0 0;have x1:=cellS hc0 1;have x2:=cellS hc0 2;have x3:=cellS hc0 3;have y0:=cellS hyW 0;have y1:=cellS hyW 1;have HB2:=hD (bkeep2 HBR.out hbW);have n1W:=HN1.out.keep HB2.out;have n2W:=HN2.out.keep HB2.out
     have g1l:S1.length≤e1:=by have:=HL1.out;omega
     have g2l:S2.length≤e2:=by have:=HL2.out;omega
     have T1:=hD (tot_z g1 0 k1 e1 (S1.take k1) W (n1W.takeN k1) (by rw [List.length_take];omega) (HZ1.out.takesmal k1) (by have:=HZ1.out.2.2;omega));have T2:=hD (tot_z g2 0 k2 e2 (S2.take k2) W (n2W.takeN k2) (by rw [List.length_take];omega) (HZ2.out.takesmal k2) (by have:=HZ2.out.2.2;omega))
     have T3:=hD (tot_z g1 k1 m1 (e1-k1) (segI S1 k1 m1) W (n1W.segN k1 m1) (segI_len h7').symm (HZ1.out.segsmal k1 m1) (by have:=HZ1.out.2.2;omega));have T4:=hD (tot_z g2 k2 m2 (e2-k2) (segI S2 k2 m2) W (n2W.segN k2 m2) (segI_len h8').symm (HZ2.out.segsmal k2 m2) (by have:=HZ2.out.2.2;omega));have z5:=HZ1.out.2.2;have z6:=HZ2.out.2.2
     have j1:k1≤e1:=by omega
     have j2:k2≤e2:=by omega
     have j3:k1+m1≤e1:=by omega
     have j4:k2+m2≤e2:=by omega
     have j5:(0:Int)≤(k1:Int)+(m1:Int):=by omega
     have j6:(k1:Int)+(m1:Int)≤(e1:Int):=by omega
     have j7:((k1:Int)+(m1:Int)).toNat=k1+m1:=by omega
     have j8:(0:Int)≤(k2:Int)+(m2:Int):=by omega
     have j9:(k2:Int)+(m2:Int)≤(e2:Int):=by omega
     have j10:((k2:Int)+(m2:Int)).toNat=k2+m2:=by omega
     have j11:¬ e1=k1:=by omega
     have j12:¬ e2=k2:=by omega
     have w1:IntKind.i64.wrap ((k1:Int)+(m1:Int))=(k1:Int)+(m1:Int):=IntWalk.i64_in _ (by omega);have w2:IntKind.i64.wrap ((k2:Int)+(m2:Int))=(k2:Int)+(m2:Int):=IntWalk.i64_in _ (by omega);have HR:=hD (show areaR S1 S2 ⟨k1,k2,m1,m2,cw,ch,sk,px,py⟩=⟨sumI (S1.take k1),sumI (S2.take k2),sumI (segI S1 k1 m1),sumI (segI S2 k2 m2)⟩ from by simp only [areaR,Int.toNat_natCast]);clear n1W n2W
     obtain ⟨l,hl⟩:∃ z,sumI (S1.take k1)=z:=⟨_,rfl⟩
     obtain ⟨t,ht⟩:∃ z,sumI (S2.take k2)=z:=⟨_,rfl⟩
     obtain ⟨r,hr⟩:∃ z,sumI (segI S1 k1 m1)=z:=⟨_,rfl⟩
     obtain ⟨q,hq⟩:∃ z,sumI (segI S2 k2 m2)=z:=⟨_,rfl⟩
     rw [hl] at T1 HR;rw [ht] at T2 HR;rw [hr] at T3 HR;rw [hq] at T4 HR;clear hl ht hr hq
     have p1:IntKind.i64.wrap (ox+l)=ox+l:=by exact IntWalk.i64_in _ (by have:=HBD.out;rw [HR.out] at this;have h:=this.1.1;dsimp only at h;omega)
     have p2:IntKind.i64.wrap (oy+t)=oy+t:=by exact IntWalk.i64_in _ (by have:=HBD.out;rw [HR.out] at this;have h:=this.1.2;dsimp only at h;omega)
     have lxW:=ltS hc0;have lyW:=ltS hyW
     go_wp2_with fail
     refine wp_named (fun W1 e1=>?_);replace e1:=hD e1;refine wp_region_grow 37 2 (·<38) (by kernel_rfl) (by kernel_rfl) rfl ?_
     iterate 37 (refine wpG_step (fun K hK=>?_);apply Exists.intro;refine ⟨.inl ⟨rfl,fun w' hw'=>?_⟩,?_⟩;(focus ((obtain ⟨hc,hf⟩:=bcell hw'.out);(have hcS:=bcellS hw'.out);go_simp <;> first | rfl|(go_at_call 151;with_reducible first | exact T1.out _ (bdrewn hw'.out) | exact T2.out _ (bdrewn hw'.out) | exact T3.out _ (bdrewn hw'.out) | exact T4.out _ (bdrewn hw'.out))));(go_simp;refine hK _ ?_;clear hK K))
     refine wpG_nil ?_;refine wpK_one (i:=37) (by kernel_rfl) rfl rfl (by kernel_rfl) (fun w1_0 h1_0=>?_);go_simp;refine ⟨Gr.alloc _ _,?_⟩;refine wpK_tail (by kernel_rfl) (fun w1_9 h1_9=>?_);obtain ⟨hc1_9,hf1_9⟩:=bcell h1_9.out;refine wpAny_one (i:=38) (by kernel_rfl) rfl rfl ?_;go_simp;refine wpAny_end (by kernel_rfl) ?_
     have s1_a:W1.heap.size≤w1_9.heap.size:=by rw [e1.out];exact Nat.le_trans h1_0.out.size (Nat.le_trans (by simp) h1_9.out.size)
     have s1_b:W1.heap.size≤w1_0.heap.size:=by rw [e1.out];exact h1_0.out.size
     have s1_c:w1_0.heap.size<w1_9.heap.size:=by have:=h1_9.out.size;simp at this;omega
     have b1_a:Below W1.heap.size W1 w1_9:=by rw [e1.out];exact bgrow (balloc (bgrow (Below.refl _ _).drew h1_0)) h1_9
     refine NoPan.gen (fun wf=>Below W1.heap.size W1 wf∧W1.heap.size≤w1_0.heap.size∧w1_0.heap.size<wf.heap.size∧wf.cell? ⟨w1_0.heap.size,0,none⟩=some (.int .i64 (ox+l))∧wf.frozen? ⟨w1_0.heap.size,0,none⟩=false∧wf.cell? ⟨w1_0.heap.size,1,none⟩=some (.int .i64 (oy+t))∧wf.frozen? ⟨w1_0.heap.size,1,none⟩=false∧wf.cell? ⟨w1_0.heap.size,2,none⟩=some (.int .i64 r)∧wf.frozen? ⟨w1_0.heap.size,2,none⟩=false∧wf.cell? ⟨w1_0.heap.size,3,none⟩=some (.int .i64 q)∧wf.frozen? ⟨w1_0.heap.size,3,none⟩=false) ?_ (fun wf1 hwf1=>?_)
     ·refine ⟨by repeat (first | exact b1_a|(refine bset ?_ ?_;rotate_left;((try dsimp only);omega))),?_⟩;refine ⟨s1_b,?_⟩;refine ⟨by simp;omega,?_⟩;go_simp
     generalize hgb1:w1_0.heap.size=b1 at *;have E:=e1.out;subst E;obtain ⟨hB1,hl1,hu1,c1_0,f1_0,c1_1,f1_1,c1_2,f1_2,c1_3,f1_3⟩:=hwf1
     try simp only [World.size_alloc] at hl1
     clear hgb1 e1 hc1_9 hf1_9 s1_a s1_b s1_c b1_a h1_9 w1_9 h1_0 w1_0;obtain ⟨hc1,hf1⟩:=bcell hB1;have hcB:=(hB1.block _ lxW).trans hc0;have HBf:=hD (bkeep2 HB2.out hB1);replace HO:=hD (own_belowN (own_belowN HO.out hbW) hB1);have hsf:=hB1.size;have x7:=cellS hcB 7;have x8:=cellS hcB 8;have lxf:=ltS hcB;have HCB:=hD hcB
     obtain ⟨b4,hb4⟩:∃ z,insR ⟨ox+l,oy+t,r,q⟩ px py=z:=⟨_,rfl⟩
     have hbd0:=HBD.out;rw [HR.out] at hbd0
     have hbd:BdM ⟨ox+l,oy+t,r,q⟩:=by
      obtain ⟨⟨a1,a2⟩,a3⟩:=hbd0
      dsimp only at a1 a2
      exact ⟨⟨by dsimp only;omega,by dsimp only;omega⟩,a3⟩
     have hb4b:((-4000000000000000≤b4.x∧b4.x≤4000000000000000)∧(-4000000000000000≤b4.y∧b4.y≤4000000000000000))∧((0≤b4.u∧b4.u≤20000000000000)∧(0≤b4.v∧b4.v≤20000000000000)):=by
      have hins:=ins_bdU (a:=⟨ox+l,oy+t,r,q⟩) hbd.2 hpx hpy;obtain ⟨⟨i1,i2⟩,i3,i4⟩:=hins;obtain ⟨⟨a1,a2⟩,a3,a4⟩:=hbd;rw [<- hb4];simp only [insR] at *;omega
     obtain ⟨⟨s1,t1⟩,hst1⟩:∃ z,stkS b4.x b4.u cw (sk % 2 == 1) (sk / 2 % 2 == 1)=z:=⟨_,rfl⟩
     obtain ⟨⟨s2,t2⟩,hst2⟩:∃ z,stkS b4.y b4.v ch (sk / 4 % 2 == 1) (sk / 8 == 1)=z:=⟨_,rfl⟩
     have hcr:cellT S1 S2 ox oy ⟨k1,k2,m1,m2,cw,ch,sk,px,py⟩=⟨s1,s2,t1,t2⟩:=by
      have e0:(⟨ox+l,oy+t,r,q⟩:Re)=(⟨l,t,r,q⟩:Re).at ox oy:=by simp only [Re.at,Re.mk.injEq,and_true];omega
      rw [e0,insR_at] at hb4;rw [<- hb4] at hst1 hst2;have e1:stkS ((insR ⟨l,t,r,q⟩ px py).x+ox) (insR ⟨l,t,r,q⟩ px py).u cw (decide (sk % 2=1)) (decide (sk / 2 % 2=1))=(s1,t1):=hst1;have e2:stkS ((insR ⟨l,t,r,q⟩ px py).y+oy) (insR ⟨l,t,r,q⟩ px py).v ch (decide (sk / 4 % 2=1)) (decide (sk / 8=1))=(s2,t2):=hst2;rw [stkS_at] at e1 e2;obtain ⟨f1,f2⟩:=Prod.mk.inj e1;obtain ⟨f3,f4⟩:=Prod.mk.inj e2
      unfold cellT cellR;rw [HR.out]
      dsimp only [Re.at]
      rw [f1,f2,f3,f4]
     rw [hcr] at HTS;have HBD4:=hD hbd;have HB4:=hD hb4;have HST1:=hD hst1;have HST2:=hD hst2;have HBB4:=hD hb4b;clear hcB hb4 hbd hb4b hst1 hst2 hcr p1 p2 w1 w2 j1 j2 j3 j4 j5 j6 j7 j8 j9 j10 j11 j12 T1 T2 T3 T4 x0 x1 x2 x3 y0 y1 hc0 hyW hbW hB1 HBD HB2 hc1 hf1 g1l g2l h7' h8' z5 z6 HBR
     go_wp2_with fail
     refine (sinset_r ⟨ox+l,oy+t,r,q⟩ b4 px py _ HBD4.out hpx hpy HB4.out).mono ?_;rintro e w5 ⟨rfl,hb5⟩;have HCB5:=hD ((hb5.block _ lxf).trans HCB.out);have HB5:=hD (bkeep2 HBf.out hb5);have HO5:=hD (own_belowN HO.out hb5);have hs5:=hb5.size;clear hb5 x7 x8 c1_0 c1_1 c1_2 c1_3 f1_0 f1_1 f1_2 f1_3 HCB HBf HO
     go_upto_region 10 with (fail)
     refine wp_genGG (fun W=>W.heap[wr.heap.size]?=some (.cells #[.int .i64 k1,.int .i64 k2,.int .i64 m1,.int .i64 m2,.int .i64 cw,.int .i64 ch,.int .i64 sk,.int .i64 px,.int .i64 py] 39 (0,0))∧W.heap[w5.heap.size]?=some (.cells #[.int .i64 b4.x,.int .i64 b4.y,.int .i64 b4.u,.int .i64 b4.v] 32 (0,0))∧W.ownsRow w2.heap.size 32 4 u7 k (revals ((L3.map (cellT S1 S2 ox oy)).take k))∧Below w2.heap.size w2 W∧wr.heap.size≤W.heap.size) ⟨(Below.heap_alloc _ _ _ (by omega)).trans HCB5.out,newS _ _,HO5.out.alloc _,balloc HB5.out,by simp;omega⟩ (fun W6 h6=>?_)
     clear HCB5 HB5 HO5;obtain ⟨hcx,hin,ho6,hb6,hs6⟩:=h6;have x4:=cellS hcx 4;have x5:=cellS hcx 5;have x6:=cellS hcx 6;have i0:=cellS hin 0;have i1:=cellS hin 1;have i2:=cellS hin 2;have i3:=cellS hin 3;have lxc:=ltS hcx;have lin:=ltS hin;obtain ⟨hsk0,hsk1⟩:=hsk;have hob6:=ho6.lt;have HO6:=hD ho6;have HB6:=hD hb6;clear hcx hin ho6 hb6 hob
     go_wp2_with fail
     refine (sstuck_v b4.x b4.u cw s1 t1 _ _ _ HBB4.out.1.1 HBB4.out.2.1 hcw HST1.out).mono ?_;rintro e w7 ⟨rfl,rfl⟩
     go_wp2_with fail
     refine (sstuck_v b4.y b4.v ch s2 t2 _ _ _ HBB4.out.1.2 HBB4.out.2.2 hch HST2.out).mono ?_;rintro e w7 ⟨rfl,rfl⟩;clear x4 x5 x6 i0 i1 i2 i3
     go_wp2_with (at_builtin;refine wpList_append_own _ rfl _ _ 28 rfl w2.heap.size 32 ti tz 4 32 Tryz.underlying28 ti1 ti2 ti3 ti4 ti5 (by decide) _ _ _ rfl (HO6.out.alloc _) ⟨W6.heap.size,0,none⟩ 1 1 (valsRe ⟨s1,s2,t1,t2⟩) rfl rfl (newRe4 _ ⟨s1,s2,t1,t2⟩ _) (valsRe_one _) (by simp only [maxLen];omega) (by omega) (by simp;omega) ?_)
     intro v5 w8 how5 hgr5 _;rw [HTS.out] at how5;replace HB6:=hD (below_own HB6.out hgr5 hob6 (Nat.le_refl _) (Nat.le_refl _));replace HO6:=hD how5;clear how5 hgr5 hob6;go_wp2
     go_roundw
     case rel=>exact ⟨k+1,by omega,by go_num,by simpa using HO6.out,HB6.out⟩
     case measure=>simp [intOf];omega
    ·have hd:decide ((k:Int)<(L3.length:Int))=false:=decide_eq_false (by omega)
     obtain rfl:k=L3.length:=by omega
     have he:(L3.map (cellT S1 S2 ox oy)).take L3.length=L3.map (cellT S1 S2 ox oy):=List.take_of_length_le (by simp);rw [he] at ho;have HR:=hD (ReR.own ho (by simp));have HF:=hD (fun k hk=>Nat.le_trans hs2 (ho.lt k hk).1);have HBR:=hD (HB.out.trans (hBr.mono hs2));clear ho hBr he xg;go_wp2;go_ret;exact ⟨⟨_,rfl,HR.out,HF.out⟩,HBR.out⟩
end
theorem rvals_get:∀ {M:List Rc} {i:Nat} {r:Rc},M[i]?=some r→∀ j,j<4→(rvals M)[i*4+j]?=(vals4 r)[j]?
 | [],i,r,h,_,_=>by simp at h
 | q :: t,0,r,h,j,hj=>by
  simp at h;subst h
  show (vals4 q ++ rvals t)[0*4+j]?=_
  rw [List.getElem?_append_left (by simp [vals4];omega)];simp
 | q :: t,i+1,r,h,j,hj=>by
  show (vals4 q ++ rvals t)[(i+1)*4+j]?=_
  rw [List.getElem?_append_right (by simp [vals4];omega)]
  have:=rvals_get (M:=t) (i:=i) (r:=r) (by simpa using h) j hj
  rw [<- this];congr 1;simp [vals4];omega
def RV (w:World) (v:Value) (M:List Rc):Prop:=∃ A c,v=.slice A M.length c∧(0<M.length→∃ b,A=some ⟨b,0,none⟩∧b<w.heap.size∧∀ i r,M[i]?=some r→Cells4 w b (i*4) r)
theorem RV.nil (w:World):RV w (.slice none 0 0) []:=⟨none,0,rfl,fun h=>absurd h (by simp)⟩
theorem own_in4 {w:World} {base n:Nat} {v:Value} {M:List Rc} {T:TypeId} (h:w.ownsRow base T 4 v n (rvals M)) (hn:n=M.length) :
  (v=.slice none 0 0∧M=[])∨∃ g cap,∃ cs:Array Value,v=.slice (some ⟨g,0,none⟩) n cap∧base≤g∧n≤cap∧w.heap[g]?=some (.cells cs T (0,0))∧cs.size=cap*4∧∀ i r,M[i]?=some r→In4 cs (i*4) r:=by
 rcases h.2 with ⟨rfl,h0⟩ | ⟨g,cap,cur,rfl,hb,hg,hc,_,hs,ht⟩
 ·exact .inl ⟨rfl,List.length_eq_zero_iff.1 (by omega)⟩
 ·refine .inr ⟨g,cap,cur,rfl,hb,hc,hg,hs,fun i r hr j hj=>?_⟩;rw [<- rvals_get hr j hj,<- ht,List.getElem?_take]
  have:i<M.length:=(List.getElem?_eq_some_iff.1 hr).1
  rw [if_pos (by omega)];simp
section
attribute [local go_sem 5000] run_mx run_mn run_eqlR run_neqR
theorem sinset_W (p:Pk) (r:Rc) (w:World) (h:p.big) (hr:r.okW):Calls Tryz.prog 172 #[.agg #[.int .i64 (r.x),.int .i64 (r.y),.int .i64 (r.u),.int .i64 (r.v)],.int .i64 p.px,.int .i64 p.py] w fun e w'=>e=.returned (.agg #[.int .i64 ((insP r p.px p.py).x),.int .i64 ((insP r p.px p.py).y),.int .i64 ((insP r p.px p.py).u),.int .i64 ((insP r p.px p.py).v)])∧Below w.heap.size w w':=by
 obtain ⟨⟨m1,m2⟩,⟨m3,m4⟩,⟨m5,m6⟩,⟨m7,m8⟩⟩:=ins_bdW h hr;obtain ⟨⟨⟨a1,a2⟩,a3,a4⟩,⟨a5,a6⟩,a7,a8⟩:=hr;obtain ⟨_,_,_,_,⟨b1,b2⟩,⟨b3,b4⟩⟩:=h
 have x1:r.x≤1000000000000000:=by omega
 have x2:r.y≤1000000000000000:=by omega
 unfold insP
 dsimp only
 rw [mx_comm (r.u-2*p.px) 0,mx_comm (r.v-2*p.py) 0] at *
 go_enter Tryz.func172,Tryz.ntmps172
 go_wp2
 exact bodyPost_ret (v:=.agg #[.int .i64 (r.x+mn p.px (r.u / 2)),.int .i64 (r.y+mn p.py (r.v / 2)),.int .i64 (mx 0 (r.u-2*p.px)),.int .i64 (mx 0 (r.v-2*p.py))]) (by simp only [results,Tryz.results172];go_simp) rfl ⟨rfl,(by repeat (first | with_reducible exact Below.refl _ _ | with_reducible assumption | with_reducible refine balloc ?_|(with_reducible refine bset ?_ ?_;rotate_left;((try dsimp only);omega)) | refine bkeep2 ?_ (by assumption) | with_reducible refine Below.drew ?_))⟩
theorem sanchored_big (x y u v p q k:Int) (w:World) (hx:-1000000000000000≤x∧x≤1000000000000020) (hy:-1000000000000000≤y∧y≤1000000000000020) (hu:0≤u∧u≤20000000000000) (hv:0≤v∧v≤20000000000000) (hp:0≤p∧p≤20000000000000) (hq:0≤q∧q≤20000000000000) (hk:0≤k∧k≤8):Calls Tryz.prog 182 #[.agg #[.int .i64 (x),.int .i64 (y),.int .i64 (u),.int .i64 (v)],.int .i64 p,.int .i64 q,.int .i64 k] w fun e w'=>e=.returned (.agg #[.int .i64 (x+(u-mn p u)*(k % 3) / 2),.int .i64 (y+(v-mn q v)*(k / 3) / 2),.int .i64 (mn p u),.int .i64 (mn q v)])∧Below w.heap.size w w':=by
 have g1:=mn_spec p u;have g2:=mn_spec q v;obtain ⟨a1,a2⟩:=hx;obtain ⟨a3,a4⟩:=hy;obtain ⟨a5,a6⟩:=hu;obtain ⟨a7,a8⟩:=hv;obtain ⟨b1,b2⟩:=hp;obtain ⟨b3,b4⟩:=hq;obtain ⟨b5,b6⟩:=hk;obtain ⟨m9,m10⟩:=prod_bdW (a:=u-mn p u) (k:=k % 3) (by omega) (by omega) (by omega) (by omega);obtain ⟨m11,m12⟩:=prod_bdW (a:=v-mn q v) (k:=k / 3) (by omega) (by omega) (by omega) (by omega)
 have m1:0≤mn p u:=by omega
 have m2:mn p u≤u:=by omega
 have m3:0≤mn q v:=by omega
 have m4:mn q v≤v:=by omega
 have m5:0≤k % 3:=by omega
 have m6:k % 3≤2:=by omega
 have m7:0≤k / 3:=by omega
 have m8:k / 3≤2:=by omega
 clear g1 g2
 go_enter Tryz.func182,Tryz.ntmps182
 go_wp2
 exact bodyPost_ret (v:=.agg #[.int .i64 (x+(u-mn p u)*(k % 3) / 2),.int .i64 (y+(v-mn q v)*(k / 3) / 2),.int .i64 (mn p u),.int .i64 (mn q v)]) (by simp only [results,Tryz.results182];go_simp) rfl ⟨rfl,(by repeat (first | with_reducible exact Below.refl _ _ | with_reducible assumption | with_reducible refine balloc ?_|(with_reducible refine bset ?_ ?_;rotate_left;((try dsimp only);omega)) | refine bkeep2 ?_ (by assumption) | with_reducible refine Below.drew ?_))⟩
theorem sanchored_W (p:Pk) (r q:Rc) (a b:Int) (w:World) (h:p.big) (hr:r.okW) (hq:q=insP r p.px p.py) (ha:a=p.w∨a=(insP r p.px p.py).u) (hb:b=p.h∨b=(insP r p.px p.py).v) (S:Rc) (hS:ancP (insP r p.px p.py) a b p.an=S) :
  Calls Tryz.prog 182 #[.agg #[.int .i64 (q.x),.int .i64 (q.y),.int .i64 (q.u),.int .i64 (q.v)],.int .i64 a,.int .i64 b,.int .i64 p.an] w fun e w'=>e=.returned (.agg #[.int .i64 (S.x),.int .i64 (S.y),.int .i64 (S.u),.int .i64 (S.v)])∧Below w.heap.size w w':=by
 subst hq hS;have hi:=ins_bdW h hr;obtain ⟨⟨⟨a1,a2⟩,a3,a4⟩,⟨a5,a6⟩,a7,a8⟩:=hr;obtain ⟨h1,h2,_,h4,h5,h6⟩:=h
 have ea:0≤a∧a≤20000000000000:=by rcases ha with rfl | rfl <;> (try simp only [insP]) <;> omega
 have eb:0≤b∧b≤20000000000000:=by rcases hb with rfl | rfl <;> (try simp only [insP]) <;> omega
 exact sanchored_big _ _ _ _ _ _ _ _ (by simp only [insP];omega) (by simp only [insP];omega) (by simp only [insP];omega) (by simp only [insP];omega) ea eb h4
theorem psettled_w (p:Pk) (r:Rc) (w:World) (h:p.big) (hr:r.okW):Calls Tryz.prog 170 #[.agg #[.int .i64 p.w,.int .i64 p.h,.int .i64 p.s,.bool p.fx,.bool p.fy,.bool p.ex,.int .i64 p.an,.int .i64 p.px,.int .i64 p.py],.agg #[.int .i64 (r.x),.int .i64 (r.y),.int .i64 (r.u),.int .i64 (r.v)]] w fun e w'=>e=.returned (.agg #[.int .i64 ((setP p r).x),.int .i64 ((setP p r).y),.int .i64 ((setP p r).u),.int .i64 ((setP p r).v)])∧Below w.heap.size w w':=by
 obtain ⟨S,hS⟩:∃ S,setP p r=S:=⟨_,rfl⟩
 rw [hS];have HS:=hD hS;clear hS
 go_enter Tryz.func170,Tryz.ntmps170
 go_wp2_with fail
 with_reducible refine (sinset_W p r _ h hr).mono ?_
 rintro e w1 ⟨rfl,hb1⟩
 have hP1:=(hb1.block w.heap.size (by simp;omega)).trans ((Below.heap_alloc _ (.cells #[.int .i64 0,.int .i64 0,.int .i64 0,.int .i64 0] 32 (0,0)) _ (by simp;omega)).trans ((Below.heap_alloc _ (.cells #[.int .i64 r.x,.int .i64 r.y,.int .i64 r.u,.int .i64 r.v] 32 (0,0)) _ (by simp)).trans (heap_new w (.cells #[.int .i64 p.w,.int .i64 p.h,.int .i64 p.s,.bool p.fx,.bool p.fy,.bool p.ex,.int .i64 p.an,.int .i64 p.px,.int .i64 p.py] 37 (0,0)))))
 have hI1:=(hb1.block (w.heap.size+1+1) (by simp)).trans (by have e:=heap_new ((w.alloc (.cells #[.int .i64 p.w,.int .i64 p.h,.int .i64 p.s,.bool p.fx,.bool p.fy,.bool p.ex,.int .i64 p.an,.int .i64 p.px,.int .i64 p.py] 37 (0,0))).alloc (.cells #[.int .i64 r.x,.int .i64 r.y,.int .i64 r.u,.int .i64 r.v] 32 (0,0))) (.cells #[.int .i64 0,.int .i64 0,.int .i64 0,.int .i64 0] 32 (0,0));simpa only [World.size_alloc] using e)
 have hB1:Below w.heap.size w w1:=bkeep2 (balloc (balloc (balloc (Below.refl _ _)))) hb1;have hls:w.heap.size+1+1<w1.heap.size:=(gE hI1).1
 obtain ⟨I,hI⟩:∃ I,insP r p.px p.py=I:=⟨_,rfl⟩
 rw [hI];have c0:=cellH hP1 0;have c1:=cellH hP1 1;have c3:=cellH hP1 3;have c4:=cellH hP1 4;have c6:=cellH hP1 6;simp only [List.getElem?_toArray,List.getElem?_cons_zero,List.getElem?_cons_succ] at c0 c1 c3 c4 c6;have HB:=hD hB1;have HX:=hD hI1
 have hl0:w.heap.size<w1.heap.size:=by omega
 have hn0:¬ w.heap.size=w1.heap.size:=by omega
 have HI:=hD hI;clear hP1 hI1 hb1 hB1 hI
 cases hfx:p.fx <;> cases hfy:p.fy
 ·rw [hfx] at c3;rw [hfy] at c4
  go_wp2_with fail
  refine (sanchored_W p r I p.w p.h _ h hr HI.out.symm (by rw [HI.out];simp) (by rw [HI.out];simp) S (by rw [<- HS.out];unfold setP wP hP;simp [hfx,hfy,HI.out])).mono ?_;rintro e w2 ⟨rfl,hb2⟩;replace HX:=hD ((hb2.block _ (by simp;omega)).trans ((Below.heap_alloc _ _ _ hls).trans HX.out));replace HB:=hD (bkeep2 (balloc HB.out) hb2);clear hb2 c0 c1 c3 c4 c6 hl0 hn0 hls
  obtain ⟨i0,i1,i2,i3⟩:=cells4 HX.out;have g0:=frozenH HX.out 0;have g1:=frozenH HX.out 1;have g2:=frozenH HX.out 2;have g3:=frozenH HX.out 3;go_wp2
  refine bp_genP (fun W=>W.heap[w.heap.size+1+1]?=some (.cells #[.int .i64 S.x,.int .i64 S.y,.int .i64 S.u,.int .i64 S.v] 32 (0,0))∧Below w.heap.size w W)
   ⟨pput4z HX.out _ _ _ _,pput4b HB.out (by omega) _ _ _ _ _ _ _ _⟩ ?_
  clear HX HB i0 i1 i2 i3 g0 g1 g2 g3;rintro W ⟨hW,hB2⟩;obtain ⟨r0,r1,r2,r3⟩:=cells4 hW;exact bodyPost_ret (v:=.agg #[.int .i64 (S.x),.int .i64 (S.y),.int .i64 (S.u),.int .i64 (S.v)]) (by simp only [results,Tryz.results170];go_simp) rfl ⟨rfl,hB2⟩
 ·rw [hfx] at c3;rw [hfy] at c4
  go_wp2_with fail
  refine (sanchored_W p r I p.w I.v _ h hr HI.out.symm (by rw [HI.out];simp) (by rw [HI.out];simp) S (by rw [<- HS.out];unfold setP wP hP;simp [hfx,hfy,HI.out])).mono ?_;rintro e w2 ⟨rfl,hb2⟩;replace HX:=hD ((hb2.block _ (by simp;omega)).trans ((Below.heap_alloc _ _ _ hls).trans HX.out));replace HB:=hD (bkeep2 (balloc HB.out) hb2);clear hb2 c0 c1 c3 c4 c6 hl0 hn0 hls
  obtain ⟨i0,i1,i2,i3⟩:=cells4 HX.out;have g0:=frozenH HX.out 0;have g1:=frozenH HX.out 1;have g2:=frozenH HX.out 2;have g3:=frozenH HX.out 3;go_wp2
  refine bp_genP (fun W=>W.heap[w.heap.size+1+1]?=some (.cells #[.int .i64 S.x,.int .i64 S.y,.int .i64 S.u,.int .i64 S.v] 32 (0,0))∧Below w.heap.size w W)
   ⟨pput4z HX.out _ _ _ _,pput4b HB.out (by omega) _ _ _ _ _ _ _ _⟩ ?_
  clear HX HB i0 i1 i2 i3 g0 g1 g2 g3;rintro W ⟨hW,hB2⟩;obtain ⟨r0,r1,r2,r3⟩:=cells4 hW;exact bodyPost_ret (v:=.agg #[.int .i64 (S.x),.int .i64 (S.y),.int .i64 (S.u),.int .i64 (S.v)]) (by simp only [results,Tryz.results170];go_simp) rfl ⟨rfl,hB2⟩
 ·rw [hfx] at c3;rw [hfy] at c4
  go_wp2_with fail
  refine (sanchored_W p r I I.u p.h _ h hr HI.out.symm (by rw [HI.out];simp) (by rw [HI.out];simp) S (by rw [<- HS.out];unfold setP wP hP;simp [hfx,hfy,HI.out])).mono ?_;rintro e w2 ⟨rfl,hb2⟩;replace HX:=hD ((hb2.block _ (by simp;omega)).trans ((Below.heap_alloc _ _ _ hls).trans HX.out));replace HB:=hD (bkeep2 (balloc HB.out) hb2);clear hb2 c0 c1 c3 c4 c6 hl0 hn0 hls
  obtain ⟨i0,i1,i2,i3⟩:=cells4 HX.out;have g0:=frozenH HX.out 0;have g1:=frozenH HX.out 1;have g2:=frozenH HX.out 2;have g3:=frozenH HX.out 3;go_wp2
  refine bp_genP (fun W=>W.heap[w.heap.size+1+1]?=some (.cells #[.int .i64 S.x,.int .i64 S.y,.int .i64 S.u,.int .i64 S.v] 32 (0,0))∧Below w.heap.size w W)
   ⟨pput4z HX.out _ _ _ _,pput4b HB.out (by omega) _ _ _ _ _ _ _ _⟩ ?_
  clear HX HB i0 i1 i2 i3 g0 g1 g2 g3;rintro W ⟨hW,hB2⟩;obtain ⟨r0,r1,r2,r3⟩:=cells4 hW;exact bodyPost_ret (v:=.agg #[.int .i64 (S.x),.int .i64 (S.y),.int .i64 (S.u),.int .i64 (S.v)]) (by simp only [results,Tryz.results170];go_simp) rfl ⟨rfl,hB2⟩
 ·rw [hfx] at c3;rw [hfy] at c4
  go_wp2_with fail
  refine (sanchored_W p r I I.u I.v _ h hr HI.out.symm (by rw [HI.out];simp) (by rw [HI.out];simp) S (by rw [<- HS.out];unfold setP wP hP;simp [hfx,hfy,HI.out])).mono ?_;rintro e w2 ⟨rfl,hb2⟩;replace HX:=hD ((hb2.block _ (by simp;omega)).trans ((Below.heap_alloc _ _ _ hls).trans HX.out));replace HB:=hD (bkeep2 (balloc HB.out) hb2);clear hb2 c0 c1 c3 c4 c6 hl0 hn0 hls
  obtain ⟨i0,i1,i2,i3⟩:=cells4 HX.out;have g0:=frozenH HX.out 0;have g1:=frozenH HX.out 1;have g2:=frozenH HX.out 2;have g3:=frozenH HX.out 3;go_wp2
  refine bp_genP (fun W=>W.heap[w.heap.size+1+1]?=some (.cells #[.int .i64 S.x,.int .i64 S.y,.int .i64 S.u,.int .i64 S.v] 32 (0,0))∧Below w.heap.size w W)
   ⟨pput4z HX.out _ _ _ _,pput4b HB.out (by omega) _ _ _ _ _ _ _ _⟩ ?_
  clear HX HB i0 i1 i2 i3 g0 g1 g2 g3;rintro W ⟨hW,hB2⟩;obtain ⟨r0,r1,r2,r3⟩:=cells4 hW;exact bodyPost_ret (v:=.agg #[.int .i64 (S.x),.int .i64 (S.y),.int .i64 (S.u),.int .i64 (S.v)]) (by simp only [results,Tryz.results170];go_simp) rfl ⟨rfl,hB2⟩
end
section
attribute [local go_sem 5000] run_mx run_mn
theorem half_w (r n:Int) (w:World) (h1:-100000000000000≤r) (h2:r≤100000000000000) (h3:1≤n) (h4:n≤1000):Calls Tryz.prog 185 #[.int .i64 r,.int .i64 n] w fun e w'=>e=.returned (.int .i64 (mx r 0 / n))∧w=w':=by
 rw [<- halfI_eq]
 by_cases h:r<0
 ·go_enter Tryz.func185,Tryz.ntmps185
  go_wp2;go_ret;exact ⟨ret_int (by unfold halfI;rw [if_pos h]),rfl⟩
 ·have hd:decide (r<0)=false:=by simpa using h
  have h0:0≤r:=by omega
  have hn:¬ n=0:=by omega
  go_enter Tryz.func185,Tryz.ntmps185
  go_wp2;go_ret;exact ⟨ret_int (by unfold halfI;rw [if_neg (by omega)]),rfl⟩
theorem upright_pW (p:Pk) (w:World):Calls Tryz.prog 150 #[.int .i64 p.s] w fun e w'=>e=.returned (.bool p.down)∧w=w':=upright_v p.s w
theorem mx_posW {a:Int} (h:0≤a):mx a 0=a:=by have:=mx_spec a 0;omega
theorem share_w (A:Option Addr) (c:Nat) (L:List Pk) (room:Int) (d:Bool) (w:World) (h:PV w A L) (hL:bgL L) (p0:Pk) (r0:List Pk) (hp0:L=p0 :: r0) (hd0:p0.down=d) (hx0:p0.ex=true) (hr:0≤room) (hr':room≤20000000000000) :
  Calls Tryz.prog 180 #[.slice A L.length c,.int .i64 room,.bool d] w fun e w'=>e=.returned (.int .i64 (shareGo L d room room 0))∧Below w.heap.size w w':=by
 obtain ⟨hok,h7⟩:=id hL;have H0:=hD (And.intro hp0 (And.intro hd0 hx0));have HL:=hD hok;clear hp0 hd0 hx0 hok hL
 obtain ⟨R,hR⟩:∃ R,shareGo L d room room 0=R:=⟨_,rfl⟩
 rw [hR];have HR:=hD hR;clear hR
 go_enter Tryz.func180,Tryz.ntmps180
 go_wp2_with fail
 go_loopw [1,7,8,9] (fun rm sh n i wr=>∃ (k:Nat) (a b q:Int),k≤L.length∧rm=.int .i64 a∧sh=.int .i64 b∧n=.int .i64 q∧i=.int .i64 k∧shareGo (L.drop k) d b a q=R∧(-(1000000000020*(k:Int))≤a∧a≤20000000000000)∧(0≤b∧b≤20000000000000)∧(0≤q∧q≤k)∧(1≤k→1≤q)∧Below w.heap.size w wr) (fun _ _ _ i _=>L.length-(intOf i).toNat)
 case atStart=>exact ⟨0,room,room,0,by omega,rfl,rfl,rfl,rfl,HR.out,by omega,by omega,by omega,by omega,Below.refl _ _⟩
 case round =>
  obtain ⟨k,a,b,q,hk,rfl,rfl,rfl,rfl,hS,⟨ha1,ha2⟩,⟨hb1,hb2⟩,⟨hq1,hq2⟩,hkq,hB⟩:=hrel;have HBB:=hD hB;have HS:=hD hS;clear HR hB hS
  by_cases hlt:k<L.length
  ·have hd:decide ((k:Int)<(L.length:Int))=true:=by simpa using hlt
   obtain ⟨g,off,rfl,hg,hp⟩:=(h.keep HBB.out).cells (by omega);obtain ⟨c0,c1,c2,c3,c4,c5,c6,c7,c8⟩:=hp k _ (List.getElem?_eq_getElem hlt);have hget:L[k]?=some L[k]:=List.getElem?_eq_getElem hlt;generalize hx:L[k]=p at *;have hpk:p.big:=HL.out p (List.mem_of_getElem? hget);have nb:=Pk.need_bdW hpk d
   have hfst:k=0→p.down=d∧p.ex=true:=by
    rintro rfl;obtain ⟨e1,e2,e3⟩:=H0.out
    have e4:p=p0:=by rw [e1] at hget;simpa using hget.symm
    rw [e4];exact ⟨e2,e3⟩
   have HG:=hD hget;have HX:=hD hx;have HP:=hD hp;have HPK:=hD hpk;clear hget hx hp hpk
   by_cases hdn:p.down=d
   ·have heq:(p.down == d)=true:=by simp [hdn]
    have HDN:=hD hdn;have HF:=hD hfst;clear hdn hfst
    cases hex:p.ex
    all_goals
     have HEX:=hD hex;have HC5:=hD c5;clear hex
     go_wp2_with fail
     refine (outer_w p _ HPK.out).mono ?_;rintro e w1 ⟨rfl,hbb⟩;obtain ⟨d0,d1,d2,d3,d4,d5,d6,d7,d8⟩:=(HP.out k p HG.out).keep (hbb.block g hg);rw [HEX.out] at d5;replace HBB:=hD (HBB.out.trans (hbb.mono HBB.out.size));clear hbb c0 c1 c2 c3 c4 c5 c6 c7 c8
     cases d
     all_goals
      go_wp2_with fail
      refine (upright_pW p _).mono ?_;rintro e w2 ⟨rfl,rfl⟩;go_wp2
      go_roundw
    case rel=>exact ⟨k+1,_,_,_,by omega,rfl,rfl,rfl,by go_num,by rw [<- HS.out,drop_cons HG.out,shareGo_plain HDN.out HEX.out],by omega,by omega,by omega,fun _=>hkq (by
     rcases Nat.eq_zero_or_pos k with e | e
     ·have h9:=(HF.out e).2;rw [HEX.out] at h9
      cases h9
     ·exact e),HBB.out⟩
    case measure=>simp [intOf];omega
    case rel=>exact ⟨k+1,_,_,_,by omega,rfl,rfl,rfl,by go_num,by rw [<- HS.out,drop_cons HG.out,shareGo_plain HDN.out HEX.out],by omega,by omega,by omega,fun _=>hkq (by
     rcases Nat.eq_zero_or_pos k with e | e
     ·have h9:=(HF.out e).2;rw [HEX.out] at h9
      cases h9
     ·exact e),HBB.out⟩
    case measure=>simp [intOf];omega
    case rel=>exact ⟨k+1,_,_,_,by omega,rfl,rfl,rfl,by go_num,by rw [<- HS.out,drop_cons HG.out,shareGo_same HDN.out HEX.out],by omega,by omega,by omega,by omega,HBB.out⟩
    case measure=>simp [intOf];omega
    case rel=>exact ⟨k+1,_,_,_,by omega,rfl,rfl,rfl,by go_num,by rw [<- HS.out,drop_cons HG.out,shareGo_same HDN.out HEX.out],by omega,by omega,by omega,by omega,HBB.out⟩
    case measure=>simp [intOf];omega
   ·have heq:(p.down == d)=false:=by simpa using hdn
    have hk1:1≤k:=by
     rcases Nat.eq_zero_or_pos k with e | e
     ·exact absurd (hfst e).1 hdn
     ·exact e
    have hq3:1≤q:=hkq hk1;have HDN:=hD hdn;have pb:=part_bdW (r:=a-p.need d) (n:=q) (by omega) hq3;have nb2:=mn_spec b (mx (a-p.need d) 0 / q)
    have hq0:decide (0<q)=true:=by simp;omega
    clear hdn hfst hkq
    go_wp2_with fail
    refine (outer_w p _ HPK.out).mono ?_;rintro e w1 ⟨rfl,hbb⟩;obtain ⟨d0,d1,d2,d3,d4,d5,d6,d7,d8⟩:=(HP.out k p HG.out).keep (hbb.block g hg);replace HBB:=hD (HBB.out.trans (hbb.mono HBB.out.size));clear hbb c0 c1 c2 c3 c4 c5 c6 c7 c8
    cases d
    all_goals
     go_wp2_with fail
     refine (upright_pW p _).mono ?_;rintro e w2 ⟨rfl,rfl⟩
     go_wp2_with fail
     first | refine (half_w (a-p.need false) q _ (by omega) (by omega) hq3 (by omega)).mono ?_ | refine (half_w (a-p.need true) q _ (by omega) (by omega) hq3 (by omega)).mono ?_
     rintro e w3 ⟨rfl,rfl⟩;go_wp2
     go_roundw
     case rel=>exact ⟨k+1,_,_,_,by omega,rfl,rfl,rfl,by go_num,by rw [<- HS.out,drop_cons HG.out,shareGo_other HDN.out],by omega,by omega,by omega,by omega,HBB.out⟩
     case measure=>simp [intOf];omega
  ·have hd:decide ((k:Int)<(L.length:Int))=false:=by simp;omega
   obtain rfl:k=L.length:=by omega
   have hk1:1≤L.length:=by rw [H0.out.1];simp
   have hq3:1≤q:=hkq hk1;have hSS:=HS.out;rw [List.drop_length] at hSS;have HS2:=hD hSS;have pb:=part_bdW (r:=a) (n:=q) (by omega) hq3;have nb2:=mn_spec b (mx a 0 / q)
   have hq0:decide (0<q)=true:=by simp;omega
   have hmx:mx (mn b (mx a 0 / q)) 0=mn b (mx a 0 / q):=mx_posW (by omega);have HMX:=hD hmx;clear hSS HS hkq hmx
   go_wp2_with fail
   refine (half_w a q _ (by omega) (by omega) hq3 (by omega)).mono ?_;rintro e w3 ⟨rfl,rfl⟩;go_wp2;go_ret;exact ⟨ret_int (by rw [HMX.out,<- HS2.out];rfl),HBB.out⟩
end
end Go.Proofs.YtfnpdlnepjhljaaGreat
