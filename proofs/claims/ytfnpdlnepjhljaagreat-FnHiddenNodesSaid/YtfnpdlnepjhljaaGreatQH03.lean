import Derived.Test.YtfnpdlnepjhljaaGreatQH02
import Derived.Deep.MidRow
import Derived.BigFrame
import Derived.Deep.DeepCutAuto
import Derived.Deep.CutBlock
set_option linter.unusedVariables false
set_option linter.unusedSimpArgs false
set_option maxRecDepth 100000
set_option maxHeartbeats 16000000
namespace Go.Proofs.YtfnpdlnepjhljaaGreat
open Go.RowKit
attribute [local go_sem] kZb kZp kZg
section
section
variable {P:Program}
def tZx (l:List Oper):Nat→Nat→Nat→Bool
 | 0,_,_=>false
 | f+1,i,j=>match l[i]? with
  | none=>false
  | some o=>o.after.toList.any fun e=>Region.binds .any e&&(e.on == j || tZx l f e.on j)
def cloB (l:List Oper) (n:Nat):Bool:=decide (n≤l.length)&&(List.range l.length).all fun i=>decide (i<n) || (List.range n).all fun j=>tZx l l.length i j
def DC (l:List Oper) (listed:Array Bool):Prop:=∀ (i:Nat) (o:Oper),l[i]?=some o→listed.getD i false=true→∀ e∈o.after,Region.binds .any e=true→listed.getD e.on false=true
theorem DC.reach {l:List Oper} {listed:Array Bool} (h:DC l listed):∀ (f:Nat) {i j:Nat},listed.getD i false=true→tZx l f i j=true→listed.getD j false=true
 | 0,i,j,_,hr=>by simp [tZx] at hr
 | f+1,i,j,hi,hr=>by
  rw [tZx] at hr
  cases ho:l[i]? with
  | none=>rw [ho] at hr;simp at hr
  | some o =>
   rw [ho] at hr;simp only [List.any_eq_true,Bool.and_eq_true,Bool.or_eq_true,beq_iff_eq] at hr;obtain ⟨e,he,hb,hr⟩:=hr;have hl:=h i o ho hi e (by simpa using he) hb
   rcases hr with rfl | hr
   ·exact hl
   ·exact DC.reach h f hl hr
theorem DC.set {l:List Oper} {listed:Array Bool} (h:DC l listed) {i:Nat} {o:Oper} (ho:l[i]?=some o) (hall:∀ e∈o.after,Region.binds .any e=true→listed.getD e.on false=true):DC l (listed.setIfInBounds i true):=fun k p hp hl e he hb=>by
 by_cases e1:i=k
 ·subst e1;rw [ho] at hp;obtain rfl:=Option.some.inj hp;exact getD_set_true (hall e he hb)
 ·rw [getD_set_ne false e1] at hl;exact getD_set_true (h k p hp hl e he hb)
theorem hZb (n1:Nat):∀ n:Nat,cntF (fun i=>decide (i<n1)) n=n-n1
 | 0=>by simp [cntF]
 | n+1=>by
  simp only [cntF,hZb n1 n]
  by_cases h:n<n1
  ·simp [h];omega
  ·simp [h];omega
theorem sZl:∀ (m k:Nat) (l:Array Bool),(kZy m k l).size=l.size
 | 0,_,_=>rfl
 | m+1,k,l=>by rw [kZy,sZl];simp
theorem sZn:∀ {m k:Nat} {l:Array Bool} {i:Nat},k+m≤l.size→(kZy m k l).getD i false=if k≤i∧i<k+m then true else l.getD i false
 | 0,k,l,i,_=>by rw [kZy,if_neg (by omega)]
 | m+1,k,l,i,h=>by
  rw [kZy,sZn (by simpa using (by omega:k+1+m≤l.size))]
  by_cases e:i=k
  ·subst e;rw [if_neg (by omega),if_pos (by omega),Array.getD_eq_getD_getElem?,Array.getElem?_setIfInBounds_self_of_lt (by omega)]
   rfl
  ·rw [getD_set_ne false (fun h=>e h.symm)]
   by_cases h2:k+1≤i∧i<k+1+m
   ·rw [if_pos h2,if_pos (by omega)]
   ·rw [if_neg h2,if_neg (by omega)]
theorem fZm {l:List Oper} {Q:Exit→Act→World→Prop} {a0:Act} {w:World} (T:Nat→Value→World→Prop) (R:World→World→Prop) (I:Nat→World→Prop)
  (n1:Nat) (hB:rgC l a0.tmps.size=true) (hC:cloB l n1=true) (hRr:∀ a,R a a) (hRt:∀ a b c,R a b→R b c→R a c) (hTs:∀ k v a b,T k v a→R a b→T k v b) (hI0:I 0 w.drew)
  (hops:cZf P l T R I a0 w.drew (l.take n1) 0) (hfin:∀ w',R w.drew w'→I n1 w'→finP T w' (fun a'=>wpAny P .any l.toArray Q (l.length-n1) (kZy n1 0 (Array.replicate l.toArray.size false)) a' w') (l.take n1) 0 a0):wpAny P .any l.toArray Q l.toArray.size (Array.replicate l.toArray.size false) a0 w.drew:=by
 simp only [rgC,Bool.and_eq_true] at hB;obtain ⟨hns,hB⟩:=hB
 have hB':∀ (i:Nat) (o:Oper),l[i]?=some o→(∀ e∈o.after,Region.binds .any e=true→e.on<i)∧(∀ d,o.dst=some d→d<a0.tmps.size∧pZy d l 0=some i)∧(∀ t∈o.looksAt l.toArray,∀ j,pZy t l 0=some j→∃ e∈o.after,e.on=j∧Region.binds .any e=true):=by
  intro i o ho;have hlt:=(List.getElem?_eq_some_iff.1 ho).1;have h1:=List.all_eq_true.1 hB i (List.mem_range.2 hlt);simp only [ho,Bool.and_eq_true] at h1;obtain ⟨⟨h1,h2⟩,h3⟩:=h1;refine ⟨fun e he hb=>by have:=List.all_eq_true.1 h1 e (by simpa using he);simpa [hb] using this,fun d hd=>?_,fun t ht j hj=>?_⟩
  ·rw [hd] at h2;simp only [Option.all_some,Bool.and_eq_true,decide_eq_true_eq,beq_iff_eq] at h2;exact h2
  ·have h4:=List.all_eq_true.1 h3 t ht;rw [hj] at h4;obtain ⟨e,he,h5⟩:=List.any_eq_true.1 h4;simp only [Bool.and_eq_true,beq_iff_eq] at h5;exact ⟨e,by simpa using he,h5⟩
 have hdist:∀ (i:Nat) (o:Oper) (j:Nat) (p:Oper),l[i]?=some o→l[j]?=some p→i≠j→∀ d,o.dst=some d→p.dst≠some d:=by
  intro i o j p ho hp hij d hd hpd;have h1:=((hB' i o ho).2.1 d hd).2;rw [((hB' j p hp).2.1 d hpd).2] at h1
  injection h1 with h1
  exact hij h1.symm
 obtain ⟨hle1,hcl⟩:n1≤l.length∧∀ i,n1≤i→i<l.length→∀ j,j<n1→tZx l l.length i j=true:=by
  simp only [cloB,Bool.and_eq_true,decide_eq_true_eq,List.all_eq_true,List.mem_range,Bool.or_eq_true] at hC;refine ⟨hC.1,fun i hi hil j hj=>?_⟩
  rcases hC.2 i hil with h | h
  ·omega
  ·exact h j hj
 have main:∀ (fuel m:Nat) (listed:Array Bool) (a:Act) (w':World),cntF (fun i=>listed.getD i true) l.length=fuel→listed.size=l.length→fuel+m=l.length→(∀ i,n1≤i→i<l.length→listed.getD i false=false)→DC l listed→RJ l T R I a0 w.drew m listed a w' →
   wpAny P .any l.toArray Q fuel listed a w':=by
  intro fuel
  have hdone:∀ (m:Nat) (listed:Array Bool) (a:Act) (w':World),cntF (fun i=>listed.getD i true) l.length=l.length-m→listed.size=l.length→m≤l.length→(∀ i,n1≤i→i<l.length→listed.getD i false=false)→(∀ i,i<n1→listed.getD i false=true)→RJ l T R I a0 w.drew m listed a w'→wpAny P .any l.toArray Q (l.length-m) listed a w':=by
   rintro m listed a w' hc hls hml hlow hall ⟨hR,hI,hd,hs,ht,hT⟩
   have hm1:m=n1:=by
    have h1:cntF (fun i=>listed.getD i true) l.length=cntF (fun i=>decide (i<n1)) l.length:=sZ6 (fun i hi=>by
     by_cases h:i<n1
     ·have:=hall i h
      rw [Array.getD_eq_getD_getElem?,Array.getElem?_eq_getElem (by omega)] at *
      simpa [h] using this
     ·have:=hlow i (by omega) hi
      rw [Array.getD_eq_getD_getElem?,Array.getElem?_eq_getElem (by omega)] at *
      simpa [h] using this)
    rw [h1,hZb] at hc;omega
   subst hm1
   have he:listed=kZy m 0 (Array.replicate l.toArray.size false):=by
    apply Array.ext
    ·rw [sZl];simp [hls]
    ·intro i h1 h2
     have e1:listed[i]=listed.getD i false:=by rw [Array.getD_eq_getD_getElem?,Array.getElem?_eq_getElem h1];rfl
     have e2:(kZy m 0 (Array.replicate l.toArray.size false))[i]=(kZy m 0 (Array.replicate l.toArray.size false)).getD i false:=by rw [Array.getD_eq_getD_getElem?,Array.getElem?_eq_getElem h2];rfl
     rw [e1,e2,sZn (by simpa using (by omega:0+m≤l.length))]
     by_cases h:i<m
     ·rw [hall i h,if_pos (by omega)]
     ·rw [hlow i (by omega) (by omega),if_neg (by omega),Array.getD_eq_getD_getElem?,Array.getElem?_replicate]
      split <;> rfl
   have hlm:∀ (j:Nat) (o:Oper),l[j]?=some o→listed.getD j false=true→j<m:=fun j o ho hl=>by
    by_cases h:j<m
    ·exact h
    ·exfalso
     have:=hlow j (by omega) (List.getElem?_eq_some_iff.1 ho).1
     rw [hl] at this
     cases this
   rw [he];refine bZ1 (T:=T) (w:=w') (F:=fun a'=>wpAny P .any l.toArray Q (l.length-m) (kZy m 0 (Array.replicate l.toArray.size false)) a' w') (l:=l.take m) (k:=0) (b:=a0) hd.symm hs.symm (fun t h=>?_) (fun j o ho hn=>?_) (hfin w' hR hI)
   ·exact (ht t fun j o ho hl=>h o (by
     have hj:=hlm j o ho hl
     exact List.mem_of_getElem? (i:=j) (by rw [List.getElem?_take,if_pos hj];exact ho))).symm
   ·rw [Nat.zero_add];rw [List.getElem?_take] at ho
    split at ho
    ·rename_i hj
     exact hT j o ho (hall j hj) hn
    ·cases ho
  induction fuel with
  | zero =>
   intro m listed a w' hc hls hm' hlow hdc hJ
   have hall:∀ i,i<l.length→listed.getD i false=true:=fun i hi=>by
    have:=uZz hc i hi
    rw [Array.getD_eq_getD_getElem?,Array.getElem?_eq_getElem (by omega)] at *
    simpa using this
   have h:=hdone m listed a w' (by rw [hc];omega) hls (by omega) hlow (fun i hi=>hall i (by omega)) hJ
   rwa [show l.length-m=0 by omega] at h
  | succ fuel ih =>
   intro m listed a w' hc hls hm' hlow hdc hJ
   by_cases hph:∀ i,i<n1→listed.getD i false=true
   ·have h:=hdone m listed a w' (by rw [hc];omega) hls (by omega) hlow hph hJ
    rwa [show l.length-m=fuel+1 by omega] at h
   have hlt1:∀ (i:Nat) (o:Oper),l[i]?=some o→listed.getD i false=false→(∀ e∈o.after,Region.binds .any e=true→listed.getD e.on false=true)→i<n1:=fun i o ho h0 hall=>by
    by_cases h:i<n1
    ·exact h
    ·exfalso
     apply hph;intro j hj;have hr:=hcl i (by omega) (List.getElem?_eq_some_iff.1 ho).1 j hj
     have hpos:l.length=(l.length-1)+1:=by have:=(List.getElem?_eq_some_iff.1 ho).1;omega
     rw [hpos] at hr;simp only [tZx,ho,List.any_eq_true,Bool.and_eq_true,Bool.or_eq_true,beq_iff_eq] at hr;obtain ⟨e,he,hb,hr⟩:=hr;have hl:=hall e (by simpa using he) hb
     rcases hr with rfl | hr
     ·exact hl
     ·exact DC.reach hdc _ hl hr
   refine ⟨fun hr=>?_,fun i hi=>?_⟩
   ·exfalso
    apply hph;intro i
    induction i using Nat.strongRecOn with
    | ind i ih' =>
     intro hi
     by_cases hl:listed.getD i false=true
     ·exact hl
     ·exfalso
      have hil:i<l.length:=by omega
      have ho:l[i]?=some l[i]:=List.getElem?_eq_getElem hil
      have hmem:i∈Region.ready .any l.toArray listed:=mem_ready.2 ⟨by
       rw [Array.getD_eq_getD_getElem?,Array.getElem?_eq_getElem (by omega)] at *;simp only [Option.getD_some,Bool.not_eq_true] at *
       exact hl,l[i],by simp,fun e he hb=>ih' e.on ((hB' i _ ho).1 e he hb) (by have:=(hB' i _ ho).1 e he hb;omega)⟩
      rw [hr] at hmem
      cases hmem
   ·obtain ⟨h0,o,ho',hall⟩:=mem_ready.1 hi
    have ho:l[i]?=some o:=by simpa using ho'
    have hlt:i<l.length:=(List.getElem?_eq_some_iff.1 ho).1
    have h0':listed.getD i false=false:=by
     rw [Array.getD_eq_getD_getElem?,Array.getElem?_eq_getElem (by omega)] at *
     simpa using h0
    have hi1:i<n1:=hlt1 i o ho h0' hall
    have hot:(l.take n1)[i]?=some o:=by rw [List.getElem?_take,if_pos hi1];exact ho
    obtain ⟨hR,hI,hd,hs,ht,hT⟩:=hJ;obtain ⟨b1,b2,b3⟩:=hB' i o ho
    have hlook:∀ t∈o.looksAt l.toArray,match pZy t l 0 with | some j=>T j (tv a t) w' | none=>tv a t=tv a0 t:=by
     intro t htm
     cases hj:pZy t l 0 with
     | none =>
      refine fZk (ht t fun j p hp _=>rZr hj p (List.mem_of_getElem? hp))
     | some j =>
      obtain ⟨e,he,rfl,hb⟩:=b3 t htm j hj;obtain ⟨_,p,hp,hpd⟩:=sZp hj
      have:=hT e.on p (by simpa using hp) (hall e he hb) (by rw [hpd];simp)
      rw [hpd] at this;exact this
    have hop:=dZ4 hlook (bZi hops hot m a w' (by omega) hR hI);rw [Nat.zero_add] at hop
    have hget:∀ d,(listed.setIfInBounds i true).getD i d=true:=fun d=>by
     rw [Array.getD_eq_getD_getElem?,Array.getElem?_setIfInBounds_self_of_lt (by omega)];rfl
    have next:∀ v w1,T i v w1→R w' w1→I (m+1) w1→wpAny P .any l.toArray Q fuel (listed.setIfInBounds i true) (a.put o.dst v) w1:=by
     intro v w1 hTv hR1 hI1;refine ih (m+1) _ _ _ ?_ (by simpa using hls) (by omega) (fun k hk hkl=>?_) (hdc.set ho hall) ⟨hRt _ _ _ hR hR1,hI1,(rZq _ _ _).trans hd,(tZc _ _ _).trans hs,fun t h=>?_,fun j p hp hl hn=>?_⟩
     ·have:=uZa (f:=fun i=>listed.getD i true) (g:=fun j=>(listed.setIfInBounds i true).getD j true) (i:=i) h0 (hget true) (fun j hj=>getD_set_ne true (Ne.symm hj)) hlt
      omega
     ·rw [getD_set_ne false (by omega)];exact hlow k hk hkl
     ·have hne:o.dst≠some t:=h i o ho (hget false);rw [uZp _ _ _ hne]
      exact ht t fun j p hp hl=>h j p hp (getD_set_true hl)
     ·by_cases e:i=j
      ·subst e;rw [ho] at hp;obtain rfl:=Option.some.inj hp
       cases hod:o.dst with
       | none=>exact absurd hod hn
       | some d =>
        have:tv (a.put (some d) v) d=v:=by
         unfold tv;rw [Array.getD_eq_getD_getElem?,uZi _ _ _ (by rw [hs];exact (b2 d hod).1)]
         rfl
        simp only [vof];rw [this];exact hTv
      ·rw [getD_set_ne false e] at hl;have h2:=hTs j _ w' w1 (hT j p hp hl hn) hR1
       cases hpd:p.dst with
       | none=>exact absurd hpd hn
       | some d =>
        rw [hpd] at h2;simp only [vof] at h2 ⊢;rw [show tv (a.put o.dst v) d=tv a d from fZk (uZp _ _ _ (fun hod=>hdist i o j p ho hp e d hod hpd))];exact h2
    unfold wpOp;simp only [ho']
    cases hg:o.guard with
    | none =>
     rw [hg] at hop;rw [if_pos (by simp [Region.wanted,hg])];exact .inl (qZ3 hop fun v w1 ⟨h1,h2,h3⟩=>next v w1 h1 h2 h3)
    | some g =>
     rw [hg] at hop;obtain ⟨g1,g2⟩:=hop
     split
     ·rename_i hw
      exact .inl (qZ3 (g1 hw) fun v w1 ⟨h1,h2,h3⟩=>next v w1 h1 h2 h3)
     ·rename_i hw
      obtain ⟨h1,h2⟩:=g2 (by simpa using hw);exact next undef w' h1 (hRr _) h2
 refine main l.toArray.size 0 _ a0 w.drew ?_ (by simp) (by simp) (fun i _ hil=>by rw [Array.getD_eq_getD_getElem?,Array.getElem?_replicate,if_pos (by simpa using hil)];rfl) (fun i o ho hl=>by
  exfalso
  rw [Array.getD_eq_getD_getElem?,Array.getElem?_replicate] at hl
  split at hl <;> simp at hl) ⟨hRr _,hI0,rfl,rfl,fun t _=>rfl,fun j o ho hl=>?_⟩
 ·have:∀ n,n≤l.length→cntF (fun i=>(Array.replicate l.toArray.size false).getD i true) n=n:=by
   intro n
   induction n with
   | zero=>intro _;rfl
   | succ n ihn =>
    intro hn;simp only [cntF];rw [ihn (by omega)]
    have:(Array.replicate l.toArray.size false).getD n true=false:=by
     rw [Array.getD_eq_getD_getElem?,Array.getElem?_replicate,if_pos (by simp;omega)];rfl
    rw [if_neg (by rw [this];decide)]
  simpa using this l.length (Nat.le_refl _)
 ·exfalso
  rw [Array.getD_eq_getD_getElem?,Array.getElem?_replicate] at hl
  split at hl <;> simp at hl
theorem qZt {id:Nat} {l:List Oper} {Q:Exit→Act→World→Prop} {a0:Act} {w:World} (T:Nat→Value→World→Prop) (R:World→World→Prop) (I:Nat→World→Prop)
  (n1:Nat) (hm:P.follows .mixedOrders=true) (hB:rgC l a0.tmps.size=true) (hC:cloB l n1=true) (hRr:∀ a,R a a) (hRt:∀ a b c,R a b→R b c→R a c) (hTs:∀ k v a b,T k v a→R a b→T k v b) (hI0:I 0 w.drew)
  (hops:cZf P l T R I a0 w.drew (l.take n1) 0) (hfin:∀ w',R w.drew w'→I n1 w'→finP T w' (fun a'=>wpAny P .any l.toArray Q (l.length-n1) (kZy n1 0 (Array.replicate l.toArray.size false)) a' w') (l.take n1) 0 a0):(Code.region id l.toArray true).wp P Q a0 w:=wp_region_any hm (fZm T R I n1 hB hC hRr hRt hTs hI0 hops hfin)
end
end
structure Nd where
 pa:Int
 ww:Int
 hh:Int
 ke:Bool
 ki:Int
 cs:List Ln
 rs:List Ln
 pk:Pk
 ce:Ce
 pl:Plc
structure Nr where
 n:Nd
 ca:Option Addr
 cc:Nat
 ra:Option Addr
 rc:Nat
def jZj (p:Nr):List Value:=[.int .i64 p.n.pa,.int .i64 p.n.ww,.int .i64 p.n.hh,.bool p.n.ke,.int .i64 p.n.ki,.slice p.ca p.n.cs.length p.cc,.slice p.ra p.n.rs.length p.rc,.int .i64 p.n.pk.w,.int .i64 p.n.pk.h,.int .i64 p.n.pk.s,.bool p.n.pk.fx,.bool p.n.pk.fy,.bool p.n.pk.ex,.int .i64 p.n.pk.an,.int .i64 p.n.pk.px,.int .i64 p.n.pk.py,.int .i64 p.n.ce.co,.int .i64 p.n.ce.ro,.int .i64 p.n.ce.mc,.int .i64 p.n.ce.mr,.int .i64 p.n.ce.cw,.int .i64 p.n.ce.ch,.int .i64 p.n.ce.sk,.int .i64 p.n.ce.px,.int .i64 p.n.ce.py,.int .i64 p.n.pl.x,.int .i64 p.n.pl.y,.int .i64 p.n.pl.rx,.int .i64 p.n.pl.ry,.int .i64 p.n.pl.ww,.int .i64 p.n.pl.hh,.int .i64 p.n.pl.qw,.int .i64 p.n.pl.qh,.int .i64 p.n.pl.an]
theorem pZ8 (p:Nr):(jZj p).length=34:=rfl
theorem rZ9 (p:Nr):∀ v∈jZj p,v.oneCell'=true:=by
 intro v hv;simp only [jZj,List.mem_cons,List.not_mem_nil,or_false] at hv
 rcases hv with rfl | rfl | rfl | rfl | rfl | rfl | rfl | rfl | rfl | rfl | rfl | rfl | rfl | rfl | rfl | rfl | rfl | rfl | rfl | rfl | rfl | rfl | rfl | rfl | rfl | rfl | rfl | rfl | rfl | rfl | rfl | rfl | rfl | rfl <;> rfl
theorem dZc (p:Nr):(jZj p).toArray.all (·.oneCell')=true:=all_oneCell_toArray (rZ9 p)
structure NrV (w:World) (A:Option Addr) (R:List Nr):Prop where
 cells:0<R.length→∃ b off,A=some ⟨b,off,none⟩∧b<w.heap.size∧∀ i p,R[i]?=some p→w.rangeAt b (off+i*34) (jZj p)
theorem pZi {w w':World} {b o:Nat} {cs:List Value} (h:w.rangeAt b o cs) (hb:w'.heap[b]?=w.heap[b]?):w'.rangeAt b o cs:=fun j v hj=>(World.cell?_of_block (a:=⟨b,o+j,none⟩) hb).trans (h j v hj)
theorem NrV.keep {w w':World} {A:Option Addr} {R:List Nr} (h:NrV w A R) (hb:Below w.heap.size w w'):NrV w' A R :=
 ⟨fun h0=>let ⟨b,off,e,hl,hp⟩:=h.cells h0;⟨b,off,e,Nat.lt_of_lt_of_le hl hb.size,fun i p hi=>pZi (hp i p hi) (hb.block b hl)⟩⟩
structure RdN (w:World) (p:Nr):Prop where
 c:LnV w p.ca p.n.cs
 cl:p.n.cs.length≤p.cc
 r:LnV w p.ra p.n.rs
 rl:p.n.rs.length≤p.rc
theorem RdN.keep {w w':World} {p:Nr} (h:RdN w p) (hb:Below w.heap.size w w'):RdN w' p:=⟨h.c.keep hb,h.cl,h.r.keep hb,h.rl⟩
def RdR (w:World) (R:List Nr):Prop:=∀ p∈R,RdN w p
theorem RdR.keep {w w':World} {R:List Nr} (h:RdR w R) (hb:Below w.heap.size w w'):RdR w' R:=fun p hp=>(h p hp).keep hb
theorem kZ6 {w:World} {b:Nat} {p:Nr} {T:TypeId} {fz:Nat × Nat} (h:w.heap[b]?=some (.cells (jZj p).toArray T fz)):w.rangeAt b 0 (jZj p):=fun j v hj=>by
 rw [Nat.zero_add];exact (jZc h j).trans (by simpa using hj)
theorem jZ4 {g:Nat} {T:TypeId} {fz:Nat × Nat}:∀ (vs:List Value) (o:Nat) (w:World) (cs:Array Value),w.heap[g]?=some (.cells cs T fz)→(w.setCells g o vs).heap[g]?=some (.cells (wrAt cs o vs) T fz)
 | [],o,w,cs,h=>h
 | v :: r,o,w,cs,h=>jZ4 r (o+1) (w.setCell ⟨g,o,none⟩ v) (cs.setIfInBounds o v) (putS h v)
theorem jZv {g k:Nat} (hk:k≠g):∀ (vs:List Value) (o:Nat) (w:World),(w.setCells g o vs).heap[k]?=w.heap[k]?
 | [],o,w=>rfl
 | v :: r,o,w=>(jZv hk r (o+1) (w.setCell ⟨g,o,none⟩ v)).trans (Below.heap_setCell w ⟨g,o,none⟩ v k hk)
theorem jZi {B g:Nat} {a:World} (hg:B≤g):∀ (vs:List Value) (o:Nat) (w:World),Below B a w→Below B a (w.setCells g o vs)
 | [],o,w,h=>h
 | v :: r,o,w,h=>jZi hg r (o+1) _ (h.setCell (p:=⟨g,o,none⟩) hg v)
theorem pZr (g:Nat):∀ (vs:List Value) (o:Nat) (w:World),(w.setCells g o vs).heap.size=w.heap.size
 | [],o,w=>rfl
 | v :: r,o,w=>(pZr g r (o+1) _).trans (by simp [World.setCell])
theorem pZq {g:Nat} {a:World}:∀ (vs:List Value) (o:Nat) (w:World),a.grownBy w (some g)→a.grownBy (w.setCells g o vs) (some g)
 | [],o,w,h=>h
 | v :: r,o,w,h=>pZq r (o+1) _ (bZ7 h o v)
theorem pZb {w:World} {b:Nat} {cs:Array Value} {T:TypeId} (h:w.heap[b]?=some (.cells cs T (0,0))) {o n:Nat} (hn:o+n≤cs.size):w.there b o n:=fun j hj=>by
 refine ⟨?_,jZm h _⟩;rw [jZc h]
 simp;omega
theorem ldN {ops:Array Oper} {rest:List Oper} {op:Oper} {a:Act} {w:World} {Q:Exit→Act→World→Prop} (x:Operand) (p:Nr) (b o:Nat) (hgd:op.guard=none) (ho:op.op=.load 43 x) (hx:a.eval x=.pointer (some ⟨b,o,none⟩)) (hc:w.rangeAt b o (jZj p))
  (h:wpList Tryz.prog ops Q rest (a.put op.dst (.agg (jZj p).toArray)) w):wpList Tryz.prog ops Q (op :: rest) a w :=
 wpList_load_mid hgd _ x ho b o hx _ _ hc Tryz.underlying43 rfl (by kernel_rfl) h
theorem stN {ops:Array Oper} {rest:List Oper} {op:Oper} {a:Act} {w:World} {Q:Exit→Act→World→Prop} {cs:Array Value} {T:TypeId} (x y:Operand) (p:Nr) (b o:Nat) (hgd:op.guard=none) (ho:op.op=.store 43 x y) (hx:a.eval x=.pointer (some ⟨b,o,none⟩)) (hy:a.eval y=.agg (jZj p).toArray) (hb:w.heap[b]?=some (.cells cs T (0,0))) (hn:o+34≤cs.size)
  (h:wpList Tryz.prog ops Q rest (a.put op.dst undef) (w.setCells b o (jZj p))):wpList Tryz.prog ops Q (op :: rest) a w :=
 wpList_store_mid hgd _ x y ho b o _ hx hy (pZb hb hn) (by kernel_rfl) (dZc p) h
theorem ldW {P:Program} {ops:Array Oper} {rest:List Oper} {op:Oper} {a:Act} {w:World} {Q:Exit→Act→World→Prop} (T:TypeId) (x:Operand) (cs:List Value) (b o:Nat) {d:TypeDesc} (ho:op.op=.load T x) (hw:Region.wanted op (yielded ops a.tmps)=true) (hx:a.eval x=.pointer (some ⟨b,o,none⟩))
  (hu:P.underlying T=some d) (hd:d.isRow=true) (hi:(P.info? T).map (·.size)=some cs.length) (hc:w.rangeAt b o cs) (h:wpList P ops Q rest (a.put op.dst (.agg cs.toArray)) w):wpList P ops Q (op :: rest) a w :=
 BigFrame.wpList_want hw fun K hK=>wp_load_mid T x ho b o hx cs d hc hu hd hi (hK _ _ h)
theorem cZy {P:Program} {ops:Array Oper} {o:Oper} {a:Act} {w:World} {K:Act→Prop} (T:TypeId) (x:Operand) (cs:List Value) (b off:Nat) {d:TypeDesc} (ho:o.op=.load T x) (hw:Region.wanted o (yielded ops a.tmps)=true) (hx:a.eval x=.pointer (some ⟨b,off,none⟩))
  (hu:P.underlying T=some d) (hd:d.isRow=true) (hi:(P.info? T).map (·.size)=some cs.length) (hc:∀ w',Gr w w'→w'.rangeAt b off cs) (hK:K (a.put o.dst (.agg cs.toArray))):∃ v,pZ9 P ops o v a w∧K (a.put o.dst v) :=
 grow_run _ hw (fun w' hw'=>by
  unfold execOp;simp only [ho,hx,Instr.loadAt,Instr.sureAddr,Sem.run_bind,Sem.run_pure,Result.andThen_ok,run_loadVar_mid w' b off T cs d (hc w' hw') hu hd hi]
  exact ⟨rfl,rfl⟩) hK
theorem grow_ldN {ops:Array Oper} {o:Oper} {a:Act} {w:World} {K:Act→Prop} (x:Operand) (p:Nr) (b off:Nat) (ho:o.op=.load 43 x) (hw:Region.wanted o (yielded ops a.tmps)=true) (hx:a.eval x=.pointer (some ⟨b,off,none⟩))
  (hl:b<w.heap.size) (hc:w.rangeAt b off (jZj p)) (hK:K (a.put o.dst (.agg (jZj p).toArray))):∃ v,pZ9 Tryz.prog ops o v a w∧K (a.put o.dst v) :=
 cZy 43 x (jZj p) b off ho hw hx Tryz.underlying43 rfl (by kernel_rfl) (fun w' hw'=>pZi hc (hw'.out.block b hl)) hK

def qZy:List Nr→List Value
  | []=>[]
  | p :: t=>jZj p ++ qZy t
theorem dZz (A B:List Nr):qZy (A ++ B)=qZy A ++ qZy B:=by
  induction A with
  | nil=>rfl
  | cons p A ih=>simp only [List.cons_append,qZy,ih,List.append_assoc]
theorem hZs (L:List Nr) (p:Nr):qZy L ++ jZj p=qZy (L ++ [p]):=by rw [dZz];simp [qZy]
theorem cZ6:∀ {M:List Nr} {i:Nat} {r:Nr},M[i]?=some r→∀ j,j<34→(qZy M)[i*34+j]?=(jZj r)[j]?
  | [],i,r,h,_,_=>by simp at h
  | q :: t,0,r,h,j,hj=>by
    simp at h;subst h
    show (jZj q ++ qZy t)[0*34+j]?=_
    rw [List.getElem?_append_left (by rw [pZ8];omega)];simp
  | q :: t,i+1,r,h,j,hj=>by
    show (jZj q ++ qZy t)[(i+1)*34+j]?=_
    rw [List.getElem?_append_right (by rw [pZ8];omega)]
    have:=cZ6 (M:=t) (i:=i) (r:=r) (by simpa using h) j hj
    rw [<- this];congr 1;rw [pZ8];omega
theorem nr_info:∃ (i:TypeInfo) (z:Value),Tryz.prog.info? 43=some i∧i.zero=some z∧i.size=34∧i.bytes=288∧z.cells.size=34:=by
  have h:(Tryz.prog.info? 43).map (fun i=>(i.size,i.bytes,i.zero.map (fun z=>z.cells.size)))=some (34,288,some 34):=by kernel_rfl
  cases hq:Tryz.prog.info? 43 with
  | none=>rw [hq] at h;cases h
  | some i =>
    rw [hq] at h
    simp only [Option.map_some,Option.some.injEq,Prod.mk.injEq] at h
    obtain ⟨e1,e2,e3⟩:=h
    cases hz:i.zero with
    | none=>rw [hz] at e3;cases e3
    | some z=>rw [hz] at e3;simp only [Option.map_some,Option.some.injEq] at e3;exact ⟨i,z,rfl,hz,e1,e2,e3⟩
theorem new34 (W:World) (p:Nr) (T:TypeId):∀ (j:Nat) (u:Value),(jZj p)[j]?=some u→(W.alloc (.cells (jZj p).toArray T)).cell? ((⟨W.heap.size,0,none⟩:Addr).add j)=some u:=fun j u h=>by
  have hadd:(⟨W.heap.size,0,none⟩:Addr).add j=⟨W.heap.size,j,none⟩:=by unfold Addr.add;split <;> simp_all
  rw [hadd]
  exact (jZc (newS W _) j).trans (by simpa using h)
def nx (pa ww hh:Int) (ke:Bool) (ki:Int):Nr:=⟨⟨pa,ww,hh,ke,ki,[],[],⟨0,0,0,false,false,false,0,0,0⟩,⟨0,0,0,0,0,0,0,0,0⟩,⟨0,0,0,0,0,0,0,0,0⟩⟩,none,0,none,0⟩
theorem run_bsN (p:Nr) (w:World):(Instr.buildSlice 23 1 #[(0,.agg (jZj p).toArray)]).run Tryz.prog w=.ok (.slice (some ⟨w.heap.size,0,none⟩) 1 1) (w.alloc (.cells (jZj p).toArray 43)):=by kernel_rfl
theorem run_bN (pa ww hh:Int) (ke:Bool) (ki:Int) (w:World):(Instr.build 43 #[(0,.int .i64 pa),(1,.int .i64 ww),(2,.int .i64 hh),(3,.bool ke),(4,.int .i64 ki)]).run Tryz.prog w=.ok (.agg (jZj (nx pa ww hh ke ki)).toArray) w:=by kernel_rfl
def LnK (W:World) (A:Option Addr) (L:List Ln):Prop:=L=[]∨∃ (g:Nat) (cs:Array Value),A=some ⟨g,0,none⟩∧W.heap[g]?=some (.cells cs 181 (0,0))∧∀ (i:Nat) (x:Ln),L[i]?=some x→InS cs (i*2) (qZ0 x)
theorem LnK.v {W:World} {A:Option Addr} {L:List Ln} (h:LnK W A L):LnV W A L:=by
  rcases h with rfl | ⟨g,cs,rfl,hh,hc⟩
  · exact LnV.nil _ _
  · exact LnV.inG hh hc
theorem LnK.own {W:World} {base n:Nat} {v:Value} {L:List Ln} (h:W.ownsRow base 181 2 v n (rZw L)) (hn:n=L.length):∃ A c,v=.slice A L.length c∧L.length≤c∧LnK W A L:=by
  subst hn
  rcases ln_inG h rfl with ⟨rfl,rfl⟩ | ⟨g,cap,cs,rfl,hg,hc,hh,hs,hin⟩
  · exact ⟨none,0,rfl,Nat.le_refl _,.inl rfl⟩
  · exact ⟨_,cap,rfl,hc,.inr ⟨g,cs,rfl,hh,hin⟩⟩
def KpL (W W':World):Prop:=∀ (g:Nat) (cs:Array Value),W.heap[g]?=some (.cells cs 181 (0,0))→W'.heap[g]?=W.heap[g]?
theorem KpL.trans {A B C:World} (h:KpL A B) (k:KpL B C):KpL A C:=fun g cs e=>(k g cs ((h g cs e).trans e)).trans (h g cs e)
theorem LnK.kp {W W':World} {A:Option Addr} {L:List Ln} (h:LnK W A L) (hk:KpL W W'):LnK W' A L:=h.imp id fun ⟨g,cs,e,hh,hc⟩=>⟨g,cs,e,(hk g cs hh).trans hh,hc⟩
theorem KpL.chg {W W':World} {b:Nat} {o:Obj} (hc:Chg [b] W W') (hb:W.heap[b]?=some o) (ho:∀ cs,o≠.cells cs 181 (0,0)):KpL W W':=fun g cs e=>hc.block g (ltS e) (by
  simp only [List.mem_singleton];rintro rfl;rw [hb] at e;exact ho cs (Option.some.inj e))
theorem KpL.below {W W':World} (hb:Below W.heap.size W W'):KpL W W':=fun g cs e=>hb.block g (ltS e)
theorem KpL.grown {W W':World} {ob:Option Nat} (hg:W.grownBy W' ob) (ho:∀ g cs,W.heap[g]?=some (.cells cs 181 (0,0))→some g≠ob):KpL W W':=fun g cs e=>hg.block g (ltS e) (ho g cs e)
structure NL (W:World) (p:Nr):Prop where
  c:LnK W p.ca p.n.cs
  r:LnK W p.ra p.n.rs
  cl:p.n.cs.length≤p.cc
  rl:p.n.rs.length≤p.rc
  c5:p.n.cs.length≤5
  r5:p.n.rs.length≤5
theorem NL.kp {W W':World} {p:Nr} (h:NL W p) (hk:KpL W W'):NL W' p:=⟨h.c.kp hk,h.r.kp hk,h.cl,h.rl,h.c5,h.r5⟩
theorem NL.rd {W:World} {p:Nr} (h:NL W p):RdN W p:=⟨h.c.v,h.cl,h.r.v,h.rl⟩
def kiL (p:Nr):Prop:=p.n.ki=1→1≤p.n.cs.length∧1≤p.n.rs.length
structure TrS (a:World) (lo br bt rb:Nat) (R:List Nr) (v:Value) (W:World):Prop where
  res:W.heap[br]?=some (.cells #[.slice none 0 0] 25 (0,0))
  box:W.heap[bt]?=some (.cells #[v] 25 (0,0))
  own:W.ownsRow lo 43 34 v R.length (qZy R)
  lns:∀ p∈R,NL W p∧kiL p
  chg:Chg [rb] a W
theorem TrS.call {a:World} {lo br bt rb B n c m:Nat} {A:Option Addr} {R:List Nr} {v:Value} {W W':World} (h:TrS a lo br bt rb R v W) (hr:Rd B rb A n c m W) (hc:Chg [rb] W W') (h1:rb<lo) (h2:bt≠rb) (h3:br≠rb):TrS a lo br bt rb R v W':=by
  obtain ⟨p,hp,hb⟩:=hr.box
  have hk:KpL W W':=KpL.chg hc hb (fun cs e=>by cases e)
  exact ⟨(hc.block br (ltS h.res) (by simpa using h3)).trans h.res,(hc.block bt (ltS h.box) (by simpa using h2)).trans h.box,bZf h.own hc h1,fun p hp=>⟨(h.lns p hp).1.kp hk,(h.lns p hp).2⟩,h.chg.trans hc⟩
theorem TrS.drew {a:World} {lo br bt rb:Nat} {R:List Nr} {v:Value} {W:World} (h:TrS a lo br bt rb R v W):TrS a lo br bt rb R v W.drew :=
  ⟨h.res,h.box,h.own.kept (row:=none) ⟨rfl,rfl,rfl,Nat.le_refl _,fun _ _ _=>rfl⟩ (by cases hv:v.ownBlock with | none=>exact .inl rfl | some g=>exact .inr (fun e=>by cases e)),fun p hp=>⟨(h.lns p hp).1.kp (KpL.below (Below.refl _ _).drew),(h.lns p hp).2⟩,h.chg.drew⟩
def XB (bx:Nat) (p:Nr) (W:World):Prop:=W.heap[bx]?=some (.cells (jZj p).toArray 43 (0,0))
theorem XB.call {bx rb:Nat} {p:Nr} {W W':World} (h:XB bx p W) (hc:Chg [rb] W W') (hn:bx≠rb):XB bx p W':=(hc.block bx (ltS h) (by simpa using hn)).trans h
theorem XB.cell {bx:Nat} {p:Nr} {W:World} (h:XB bx p W) (i:Nat):W.cell? ⟨bx,i,none⟩=(jZj p).toArray[i]?:=jZc h i
theorem XB.frz {bx:Nat} {p:Nr} {W:World} (h:XB bx p W) (i:Nat):W.frozen? ⟨bx,i,none⟩=false:=jZm h i
theorem chg_sets {b:Nat} {W:World} (vs:List Value) (o:Nat):Chg [b] W (W.setCells b o vs):=Chg.of_grown (Chg.refl _ _) (pZq vs o W (rZz W b)) (.inl (by simp))
theorem TrS.sets {a:World} {lo br bt rb bx:Nat} {R:List Nr} {v:Value} {W:World} {cs:Array Value} (h:TrS a lo br bt rb R v W) (hx:W.heap[bx]?=some (.cells cs 43 (0,0))) (hbt:bt≠bx) (hbr:br≠bx) (ha:a.heap.size≤bx) (hv:∀ k,v.ownBlock=some k→k≠bx) (o:Nat) (vs:List Value):TrS a lo br bt rb R v (W.setCells bx o vs) :=
  ⟨(jZv hbr vs o W).trans h.res,(jZv hbt vs o W).trans h.box,h.own.kept (pZq vs o W (rZz W bx)) (by
    cases hv':v.ownBlock with
    | none=>exact .inl rfl
    | some g=>exact .inr (fun e=>hv g hv' (Option.some.inj e))),
   fun p hp=>⟨(h.lns p hp).1.kp (KpL.grown (pZq vs o W (rZz W bx)) (fun g cs' e e'=>by cases e';rw [hx] at e;have:=Option.some.inj e;simp at this)),(h.lns p hp).2⟩,
   Chg.of_grown h.chg (pZq vs o W (rZz W bx)) (.inr ha)⟩
theorem NL.sets {bx:Nat} {p:Nr} {W:World} {cs:Array Value} (h:NL W p) (hx:W.heap[bx]?=some (.cells cs 43 (0,0))) (o:Nat) (vs:List Value):NL (W.setCells bx o vs) p :=
  h.kp (KpL.grown (pZq vs o W (rZz W bx)) (fun g cs' e e'=>by cases e';rw [hx] at e;have:=Option.some.inj e;simp at this))
theorem Rd.sets {B rb bx n c m:Nat} {A:Option Addr} {W:World} (h:Rd B rb A n c m W) (hB:B≤bx) (hn:bx≠rb) (o:Nat) (vs:List Value):Rd B rb A n c m (W.setCells bx o vs):=h.keep (chg_sets vs o) (by simp;exact ⟨hB,hn⟩)
theorem XB.sets {bx:Nat} {p q:Nr} {W:World} (h:XB bx p W) (o:Nat) (vs:List Value) (e:wrAt (jZj p).toArray o vs=(jZj q).toArray):XB bx q (W.setCells bx o vs):=(jZ4 vs o W _ h).trans (by rw [e])
theorem NL.call {B rb n c m:Nat} {A:Option Addr} {p:Nr} {W W':World} (h:NL W p) (hr:Rd B rb A n c m W) (hc:Chg [rb] W W'):NL W' p:=by
  obtain ⟨q,_,hb⟩:=hr.box
  exact h.kp (KpL.chg hc hb (fun cs e=>by cases e))
theorem TrS.add {a:World} {lo br bt rb:Nat} {R:List Nr} {p:Nr} {v v':Value} {W w5:World} {o:Obj} (h:TrS a lo br bt rb R v W) (hn:NL W p) (hk:kiL p) (hlo:a.heap.size≤lo) (hg:(W.alloc o).grownBy w5 v.ownBlock) (ho:w5.ownsRow lo 43 34 v' (R.length+1) (qZy R ++ jZj p)) :
    KpL W w5∧w5.heap[br]?=some (.cells #[.slice none 0 0] 25 (0,0))∧w5.heap[bt]?=some (.cells #[v] 25 (0,0))∧w5.ownsRow lo 43 34 v' (R ++ [p]).length (qZy (R ++ [p]))∧(∀ q∈R ++ [p],NL w5 q∧kiL q)∧Chg [rb] a w5:=by
  have hbk:∀ (g:Nat) (ob:Obj),W.heap[g]?=some ob→(∀ cs,ob≠.cells cs 43 (0,0))→w5.heap[g]?=W.heap[g]?:=fun g ob hb hne=>by
    refine (hg.block g (by have:=ltS hb;simp;omega) (fun e=>?_)).trans (Below.heap_alloc _ _ _ (ltS hb))
    rcases h.own.2 with ⟨rfl,_⟩ | ⟨g',cap,cur,rfl,_,hg',_⟩
    · simp [Value.ownBlock] at e
    · have:g=g':=by simpa [Value.ownBlock] using e
      subst this
      rw [hb] at hg'
      exact hne _ (Option.some.inj hg')
  have hkp:KpL W w5:=fun g cs e=>hbk g _ e (fun cs' e'=>by simp at e')
  refine ⟨hkp,(hbk br _ h.res (fun cs' e'=>by simp at e')).trans h.res,(hbk bt _ h.box (fun cs' e'=>by simp at e')).trans h.box,by rw [hZs] at ho;simpa using ho,fun q hq=>?_,dZj h.chg hg h.own.lt hlo⟩
  rcases List.mem_append.1 hq with hq | hq
  · exact ⟨(h.lns q hq).1.kp hkp,(h.lns q hq).2⟩
  · rw [List.mem_singleton.1 hq];exact ⟨hn.kp hkp,hk⟩
theorem own_tree {W:World} {lo n b:Nat} {v:Value} {xs:List Value} {cs:Array Value} (h:W.ownsRow lo 43 34 v n xs) (hb:W.heap[b]?=some (.cells cs 25 (0,0))) (u:Value):(W.setCell ⟨b,0,none⟩ u).ownsRow lo 43 34 v n xs :=
  h.kept (row:=some b) (bZ7 (rZz W b) 0 u) (by
    rcases h.2 with ⟨rfl,_⟩ | ⟨g',cap,cur,rfl,_,hg',_⟩
    · exact .inl rfl
    · refine .inr (fun e=>?_)
      have:g'=b:=by simpa [Value.ownBlock] using e
      subst this
      rw [hb] at hg'
      have:=Option.some.inj hg'
      simp at this)
theorem hZt {W:World} {b:Nat} {cs:Array Value} (hb:W.heap[b]?=some (.cells cs 25 (0,0))) (u:Value):KpL W (W.setCell ⟨b,0,none⟩ u) :=
  KpL.grown (bZ7 (rZz W b) 0 u) (fun g cs' e e'=>by cases e';rw [hb] at e;have:=Option.some.inj e;simp at this)
theorem own_nr {w:World} {base n:Nat} {v:Value} {R:List Nr} (h:w.ownsRow base 43 34 v n (qZy R)) (hn:n=R.length):(v=.slice none 0 0∧R=[])∨∃ (g cap:Nat) (cs:Array Value),v=.slice (some ⟨g,0,none⟩) n cap∧base≤g∧n≤cap∧w.heap[g]?=some (.cells cs 43 (0,0))∧cs.size=cap*34∧∀ (i:Nat) (r:Nr),R[i]?=some r→InS cs (i*34) (jZj r):=by
  rcases h.2 with ⟨rfl,h0⟩ | ⟨g,cap,cur,rfl,hb,hg,hc,_,hs,ht⟩
  · exact .inl ⟨rfl,List.length_eq_zero_iff.1 (by omega)⟩
  · refine .inr ⟨g,cap,cur,rfl,hb,hc,hg,hs,fun i r hr j u hj=>?_⟩
    have hi:i<R.length:=(List.getElem?_eq_some_iff.1 hr).1
    have hj34:j<34:=by have:=(List.getElem?_eq_some_iff.1 hj).1;rwa [pZ8] at this
    have e:=(cZ6 hr j hj34).trans hj
    rw [<- ht,List.getElem?_take,if_pos (by omega)] at e
    simpa using e
theorem own_slN {w:World} {base n:Nat} {v:Value} {xs:List Value} {e:TypeId} {size:Nat} (h:w.ownsRow base e size v n xs):∃ A c,v=.slice A n c:=by
  rcases h.2 with ⟨rfl,h0⟩ | ⟨g,cap,cur,rfl,_⟩
  · exact ⟨none,0,by rw [h0]⟩
  · exact ⟨_,_,rfl⟩
theorem kZf {P:Program} {c:Code} {Q:Exit→Act→World→Prop} {a:Act} {W:World} (F:World→Prop) (hF:F W) (h:∀ W0,F W0→c.wp P Q a W0):c.wp P Q a W:=h W hF
theorem hZe {P:Program} {f:Func} {R:Ending→World→Prop} {e:Exit} {a:Act} {W:World} (F:World→Prop) (hF:F W) (h:∀ W0,F W0→bodyPost P f R e a W0):bodyPost P f R e a W:=h W hF
theorem bZ3 {w:World} {b o:Nat} {cs:List Value} (h:w.rangeAt b o cs) (A B C:List Value) (e:cs=A ++ (B ++ C)) (k:Nat) (hk:k=A.length):w.rangeAt b (o+k) B:=fun j v hj=>by
 subst hk;have hl:=(List.getElem?_eq_some_iff.1 hj).1;rw [Nat.add_assoc];exact h (A.length+j) v (by rw [e,List.getElem?_append_right (by omega),List.getElem?_append_left (by omega)];rw [show A.length+j-A.length=j by omega];exact hj)
theorem kZ4 {w:World} {b o:Nat} {p:Nr} (h:w.rangeAt b o (jZj p)):w.rangeAt b (o+7) [.int .i64 p.n.pk.w,.int .i64 p.n.pk.h,.int .i64 p.n.pk.s,.bool p.n.pk.fx,.bool p.n.pk.fy,.bool p.n.pk.ex,.int .i64 p.n.pk.an,.int .i64 p.n.pk.px,.int .i64 p.n.pk.py]:=bZ3 h ((jZj p).take 7) _ ((jZj p).drop 16) rfl 7 rfl
theorem kZw {w:World} {b o:Nat} {p:Nr} (h:w.rangeAt b o (jZj p)):w.rangeAt b (o+16) [.int .i64 p.n.ce.co,.int .i64 p.n.ce.ro,.int .i64 p.n.ce.mc,.int .i64 p.n.ce.mr,.int .i64 p.n.ce.cw,.int .i64 p.n.ce.ch,.int .i64 p.n.ce.sk,.int .i64 p.n.ce.px,.int .i64 p.n.ce.py]:=bZ3 h ((jZj p).take 16) _ ((jZj p).drop 25) rfl 16 rfl
theorem kZ2 {w:World} {b o:Nat} {p:Nr} (h:w.rangeAt b o (jZj p)):w.rangeAt b (o+25) [.int .i64 p.n.pl.x,.int .i64 p.n.pl.y,.int .i64 p.n.pl.rx,.int .i64 p.n.pl.ry,.int .i64 p.n.pl.ww,.int .i64 p.n.pl.hh,.int .i64 p.n.pl.qw,.int .i64 p.n.pl.qh,.int .i64 p.n.pl.an]:=bZ3 h ((jZj p).take 25) _ ((jZj p).drop 34) rfl 25 rfl
theorem uZx (w:World) (o o':Obj):((w.alloc o).alloc o').heap[w.heap.size+1]?=some o':=by have:=newS (w.alloc o) o';rwa [World.size_alloc] at this
theorem pZ3 {cs:Array Value} {l:List Value} (h:cs.size=l.length):wrAt cs 0 l=l.toArray:=by
 apply Array.ext
 ·rw [pZ6];simp [h]
 ·intro i h1 h2
  have hi:i<l.length:=by simpa using h2
  have:=eZa l cs 0 i (by omega) hi
  rw [Nat.zero_add,Array.getElem?_eq_getElem h1,List.getElem?_eq_getElem hi] at this
  simpa using this
theorem ldNr {ops:Array Oper} {rest:List Oper} {op:Oper} {a:Act} {w:World} {Q:Exit→Act→World→Prop} {x:Operand} (p:Nr) (b o:Nat) (ho:op.op=.load 43 x) (hw:Region.wanted op (yielded ops a.tmps)=true) (hx:a.eval x=.pointer (some ⟨b,o,none⟩)) (hc:w.rangeAt b o (jZj p)) (h:wpList Tryz.prog ops Q rest (a.put op.dst (.agg (jZj p).toArray)) w):wpList Tryz.prog ops Q (op :: rest) a w :=
 ldW 43 x _ b o ho hw hx Tryz.underlying43 rfl (by kernel_rfl) hc h
theorem ldPack {ops:Array Oper} {rest:List Oper} {op:Oper} {a:Act} {w:World} {Q:Exit→Act→World→Prop} {x:Operand} (n:Nd) (b o:Nat) (ho:op.op=.load 37 x) (hw:Region.wanted op (yielded ops a.tmps)=true) (hx:a.eval x=.pointer (some ⟨b,o,none⟩)) (hc:w.rangeAt b o [.int .i64 n.pk.w,.int .i64 n.pk.h,.int .i64 n.pk.s,.bool n.pk.fx,.bool n.pk.fy,.bool n.pk.ex,.int .i64 n.pk.an,.int .i64 n.pk.px,.int .i64 n.pk.py]) (h:wpList Tryz.prog ops Q rest (a.put op.dst (.agg [.int .i64 n.pk.w,.int .i64 n.pk.h,.int .i64 n.pk.s,.bool n.pk.fx,.bool n.pk.fy,.bool n.pk.ex,.int .i64 n.pk.an,.int .i64 n.pk.px,.int .i64 n.pk.py].toArray)) w):wpList Tryz.prog ops Q (op :: rest) a w :=
 ldW 37 x _ b o ho hw hx Tryz.underlying37 rfl (by kernel_rfl) hc h
theorem ldPlace {ops:Array Oper} {rest:List Oper} {op:Oper} {a:Act} {w:World} {Q:Exit→Act→World→Prop} {x:Operand} (n:Nd) (b o:Nat) (ho:op.op=.load 41 x) (hw:Region.wanted op (yielded ops a.tmps)=true) (hx:a.eval x=.pointer (some ⟨b,o,none⟩)) (hc:w.rangeAt b o [.int .i64 n.pl.x,.int .i64 n.pl.y,.int .i64 n.pl.rx,.int .i64 n.pl.ry,.int .i64 n.pl.ww,.int .i64 n.pl.hh,.int .i64 n.pl.qw,.int .i64 n.pl.qh,.int .i64 n.pl.an]) (h:wpList Tryz.prog ops Q rest (a.put op.dst (.agg [.int .i64 n.pl.x,.int .i64 n.pl.y,.int .i64 n.pl.rx,.int .i64 n.pl.ry,.int .i64 n.pl.ww,.int .i64 n.pl.hh,.int .i64 n.pl.qw,.int .i64 n.pl.qh,.int .i64 n.pl.an].toArray)) w):wpList Tryz.prog ops Q (op :: rest) a w :=
 ldW 41 x _ b o ho hw hx Tryz.underlying41 rfl (by kernel_rfl) hc h
theorem ldCell {ops:Array Oper} {rest:List Oper} {op:Oper} {a:Act} {w:World} {Q:Exit→Act→World→Prop} {x:Operand} (n:Nd) (b o:Nat) (ho:op.op=.load 39 x) (hw:Region.wanted op (yielded ops a.tmps)=true) (hx:a.eval x=.pointer (some ⟨b,o,none⟩)) (hc:w.rangeAt b o [.int .i64 n.ce.co,.int .i64 n.ce.ro,.int .i64 n.ce.mc,.int .i64 n.ce.mr,.int .i64 n.ce.cw,.int .i64 n.ce.ch,.int .i64 n.ce.sk,.int .i64 n.ce.px,.int .i64 n.ce.py]) (h:wpList Tryz.prog ops Q rest (a.put op.dst (.agg [.int .i64 n.ce.co,.int .i64 n.ce.ro,.int .i64 n.ce.mc,.int .i64 n.ce.mr,.int .i64 n.ce.cw,.int .i64 n.ce.ch,.int .i64 n.ce.sk,.int .i64 n.ce.px,.int .i64 n.ce.py].toArray)) w):wpList Tryz.prog ops Q (op :: rest) a w :=
 ldW 39 x _ b o ho hw hx Tryz.underlying39 rfl (by kernel_rfl) hc h
theorem jZo {ops:Array Oper} {rest:List Oper} {op:Oper} {a:Act} {w:World} {Q:Exit→Act→World→Prop} {x:Operand} {n:Nd} {b o:Nat} (hc:Go.RowKit.Hid (w.rangeAt b o [.int .i64 n.pk.w,.int .i64 n.pk.h,.int .i64 n.pk.s,.bool n.pk.fx,.bool n.pk.fy,.bool n.pk.ex,.int .i64 n.pk.an,.int .i64 n.pk.px,.int .i64 n.pk.py])) (ho:op.op=.load 37 x) (hw:Region.wanted op (yielded ops a.tmps)=true) (hx:a.eval x=.pointer (some ⟨b,o,none⟩)) (h:wpList Tryz.prog ops Q rest (a.put op.dst (.agg [.int .i64 n.pk.w,.int .i64 n.pk.h,.int .i64 n.pk.s,.bool n.pk.fx,.bool n.pk.fy,.bool n.pk.ex,.int .i64 n.pk.an,.int .i64 n.pk.px,.int .i64 n.pk.py].toArray)) w):wpList Tryz.prog ops Q (op :: rest) a w :=
 ldPack n b o ho hw hx hc.out h
theorem jZk {ops:Array Oper} {rest:List Oper} {op:Oper} {a:Act} {w:World} {Q:Exit→Act→World→Prop} {x:Operand} {n:Nd} {b o:Nat} (hc:Go.RowKit.Hid (w.rangeAt b o [.int .i64 n.pl.x,.int .i64 n.pl.y,.int .i64 n.pl.rx,.int .i64 n.pl.ry,.int .i64 n.pl.ww,.int .i64 n.pl.hh,.int .i64 n.pl.qw,.int .i64 n.pl.qh,.int .i64 n.pl.an])) (ho:op.op=.load 41 x) (hw:Region.wanted op (yielded ops a.tmps)=true) (hx:a.eval x=.pointer (some ⟨b,o,none⟩)) (h:wpList Tryz.prog ops Q rest (a.put op.dst (.agg [.int .i64 n.pl.x,.int .i64 n.pl.y,.int .i64 n.pl.rx,.int .i64 n.pl.ry,.int .i64 n.pl.ww,.int .i64 n.pl.hh,.int .i64 n.pl.qw,.int .i64 n.pl.qh,.int .i64 n.pl.an].toArray)) w):wpList Tryz.prog ops Q (op :: rest) a w :=
 ldPlace n b o ho hw hx hc.out h
theorem jZ7 {ops:Array Oper} {rest:List Oper} {op:Oper} {a:Act} {w:World} {Q:Exit→Act→World→Prop} {x:Operand} {n:Nd} {b o:Nat} (hc:Go.RowKit.Hid (w.rangeAt b o [.int .i64 n.ce.co,.int .i64 n.ce.ro,.int .i64 n.ce.mc,.int .i64 n.ce.mr,.int .i64 n.ce.cw,.int .i64 n.ce.ch,.int .i64 n.ce.sk,.int .i64 n.ce.px,.int .i64 n.ce.py])) (ho:op.op=.load 39 x) (hw:Region.wanted op (yielded ops a.tmps)=true) (hx:a.eval x=.pointer (some ⟨b,o,none⟩)) (h:wpList Tryz.prog ops Q rest (a.put op.dst (.agg [.int .i64 n.ce.co,.int .i64 n.ce.ro,.int .i64 n.ce.mc,.int .i64 n.ce.mr,.int .i64 n.ce.cw,.int .i64 n.ce.ch,.int .i64 n.ce.sk,.int .i64 n.ce.px,.int .i64 n.ce.py].toArray)) w):wpList Tryz.prog ops Q (op :: rest) a w :=
 ldCell n b o ho hw hx hc.out h
theorem hrs {w:World} {b:Nat} {p:Nr} {T:TypeId} {fz:Nat × Nat} (h:w.heap[b]?=some (.cells (jZj p).toArray T fz)):Go.RowKit.Hid (w.rangeAt b 0 (jZj p))∧Go.RowKit.Hid (w.rangeAt b 7 [.int .i64 p.n.pk.w,.int .i64 p.n.pk.h,.int .i64 p.n.pk.s,.bool p.n.pk.fx,.bool p.n.pk.fy,.bool p.n.pk.ex,.int .i64 p.n.pk.an,.int .i64 p.n.pk.px,.int .i64 p.n.pk.py])∧Go.RowKit.Hid (w.rangeAt b 25 [.int .i64 p.n.pl.x,.int .i64 p.n.pl.y,.int .i64 p.n.pl.rx,.int .i64 p.n.pl.ry,.int .i64 p.n.pl.ww,.int .i64 p.n.pl.hh,.int .i64 p.n.pl.qw,.int .i64 p.n.pl.qh,.int .i64 p.n.pl.an])∧Go.RowKit.Hid (w.rangeAt b 16 [.int .i64 p.n.ce.co,.int .i64 p.n.ce.ro,.int .i64 p.n.ce.mc,.int .i64 p.n.ce.mr,.int .i64 p.n.ce.cw,.int .i64 p.n.ce.ch,.int .i64 p.n.ce.sk,.int .i64 p.n.ce.px,.int .i64 p.n.ce.py]) :=
 ⟨hD (kZ6 h),hD (by simpa only [Nat.zero_add] using kZ4 (kZ6 h)),hD (by simpa only [Nat.zero_add] using kZ2 (kZ6 h)),hD (by simpa only [Nat.zero_add] using kZw (kZ6 h))⟩
theorem jZf {w:World} {b:Nat} {p:Nr} {T:TypeId} {fz:Nat × Nat} (h:w.heap[b]?=some (.cells (jZj p).toArray T fz)):w.cell? ⟨b,0,none⟩=some (.int .i64 p.n.pa)∧w.cell? ⟨b,1,none⟩=some (.int .i64 p.n.ww)∧w.cell? ⟨b,2,none⟩=some (.int .i64 p.n.hh)∧w.cell? ⟨b,4,none⟩=some (.int .i64 p.n.ki)∧w.cell? ⟨b,5,none⟩=some (.slice p.ca p.n.cs.length p.cc)∧w.cell? ⟨b,6,none⟩=some (.slice p.ra p.n.rs.length p.rc)∧w.cell? ⟨b,7,none⟩=some (.int .i64 p.n.pk.w)∧w.cell? ⟨b,8,none⟩=some (.int .i64 p.n.pk.h)∧w.cell? ⟨b,20,none⟩=some (.int .i64 p.n.ce.cw)∧w.cell? ⟨b,21,none⟩=some (.int .i64 p.n.ce.ch):=⟨jZc h 0,jZc h 1,jZc h 2,jZc h 4,jZc h 5,jZc h 6,jZc h 7,jZc h 8,jZc h 20,jZc h 21⟩
theorem jZp {w:World} {b:Nat} {p:Nr} {T:TypeId} {fz:Nat × Nat} (h:w.heap[b]?=some (.cells (jZj p).toArray T fz)):w.cell? ⟨b,1,none⟩=some (.int .i64 p.n.ww)∧w.cell? ⟨b,2,none⟩=some (.int .i64 p.n.hh)∧w.cell? ⟨b,4,none⟩=some (.int .i64 p.n.ki)∧w.cell? ⟨b,7,none⟩=some (.int .i64 p.n.pk.w)∧w.cell? ⟨b,8,none⟩=some (.int .i64 p.n.pk.h)∧w.cell? ⟨b,20,none⟩=some (.int .i64 p.n.ce.cw)∧w.cell? ⟨b,21,none⟩=some (.int .i64 p.n.ce.ch):=⟨jZc h 1,jZc h 2,jZc h 4,jZc h 7,jZc h 8,jZc h 20,jZc h 21⟩
section
attribute [local go_sem] jZ0 jZ5 jZ2
theorem jZx {P:Program} {K:Value→World→Prop} {r:Result Next} (h:∀ K':Value→World→Prop,(∀ v w',K v w'→K' v w')→kZx P K' r):kZx P K r:=h K fun _ _ h=>h
theorem rZi {S:List Nat}:∀ {l:List (Value→World→Prop)},(∀ T∈l,∀ (v:Value) (a b:World),T v a→Chg S a b→T v b)→∀ (k:Nat) (v:Value) (a b:World),l.getD k (fun _ _=>True) v a→Chg S a b→l.getD k (fun _ _=>True) v b
 | [],_,k,v,a,b,h,hc=>trivial
 | T :: r,hl,0,v,a,b,h,hc=>hl T List.mem_cons_self v a b h hc
 | T :: r,hl,k+1,v,a,b,h,hc=>rZi (l:=r) (fun T hT=>hl T (List.mem_cons_of_mem _ hT)) k v a b h hc
theorem vZc {P:Program} {f:Func} {R:Ending→World→Prop} {e:Exit} {a:Act} {W:World} (F:World→Prop) (hF:F W) (h:∀ W0,F W0→bodyPost P f R e a W0):bodyPost P f R e a W:=h W hF
theorem hZu {K:Act→World→Prop} {a:Act} {W:World} (F:World→Prop) (hF:F W) (h:∀ W0,F W0→K a W0):K a W:=h W hF
theorem vZt {P:Program} {md:Region.Mode} {ops:Array Oper} {Q:Exit→Act→World→Prop} {f:Nat} {listed:Array Bool} {a:Act} {w:World} (i:Nat) (T:TypeId) (x y:Operand) (b o:Nat) (vs:List Value) (hr:Region.ready md ops listed=[i]) (hr2:Region.ready md ops (listed.setIfInBounds i true)=[]) (ho:(ops[i]?).map (fun o=>(o.dst,o.op,o.guard))=some (none,.store T x y,none))
  (hx:a.eval x=.pointer (some ⟨b,o,none⟩)) (hy:a.eval y=.agg vs.toArray) (ht:w.there b o vs.length) (hi:(P.info? T).map (·.size)=some vs.length) (h1:∀ v∈vs,v.oneCell'=true)
  (h:Q .normal a (w.setCells b o vs)):wpAny P md ops Q (f+1) listed a w:=by
 cases hq:ops[i]? with
 | none=>rw [hq] at ho;cases ho
 | some op =>
  rw [hq] at ho;simp only [Option.map_some,Option.some.injEq,Prod.mk.injEq] at ho;obtain ⟨hd,hop,hg⟩:=ho;refine jZn hr hq hg ?_;refine wp_store_mid T x y hop b o vs.toArray hx hy (by simpa using ht) (by simpa using hi) (all_oneCell_toArray h1) ?_;rw [hd];exact jZq hr2 (by simpa [Act.put] using h)
theorem hZf (r:Ce):∀ u∈kZn r,u.oneCell'=true:=by
 intro u hu;simp [kZn] at hu;rcases hu with rfl | rfl | rfl | rfl | rfl | rfl | rfl | rfl | rfl <;> rfl
theorem bsN {ops:Array Oper} {rest:List Oper} {op:Oper} {a:Act} {w:World} {Q:Exit→Act→World→Prop} (x:Operand) (p:Nr) (hgd:op.guard=none) (ho:op.op=.buildSlice 23 1 #[(0,x)]) (hx:a.eval x=.agg (jZj p).toArray)
  (h:wpList Tryz.prog ops Q rest (a.put op.dst (.slice (some ⟨w.heap.size,0,none⟩) 1 1)) (w.alloc (.cells (jZj p).toArray 43))):wpList Tryz.prog ops Q (op :: rest) a w :=
 wpList_plain hgd fun _ hK=>by
  unfold Oper.wp execOp;simp only [ho];rw [show ((#[(0,x)]:Array (Nat × Operand)).map fun (i,x)=>(i,a.eval x))=#[(0,.agg (jZj p).toArray)] from by simp [hx]];simp only [Sem.run_bind,run_bsN,Result.andThen_ok];exact hK _ _ h
def AXN (lo:Nat):Value→World→Prop:=fun v w=>∃ b,v=.pointer (some ⟨b,0,none⟩)∧lo≤b∧w.heap[b]?=some (.cells (jZj (nx 0 0 0 false 0)).toArray 43 (0,0))
theorem AXN.keep {lo rb:Nat} {v:Value} {a b:World} (h:AXN lo v a) (hc:Chg [rb] a b) (hr:rb<lo):AXN lo v b:=let ⟨g,e,h1,h2⟩:=h;⟨g,e,h1,(hc.block g (ltS h2) (by simp;omega)).trans h2⟩
def Nr.pkN (p:Nr) (q:Pk):Nr:=⟨{ p.n with pk:=q },p.ca,p.cc,p.ra,p.rc⟩
def Nr.plN (p:Nr) (q:Plc):Nr:=⟨{ p.n with pl:=q },p.ca,p.cc,p.ra,p.rc⟩
def Nr.ceN (p:Nr) (q:Ce):Nr:=⟨{ p.n with ce:=q },p.ca,p.cc,p.ra,p.rc⟩
def vals9 (p:Pk):List Value:=[.int .i64 p.w,.int .i64 p.h,.int .i64 p.s,.bool p.fx,.bool p.fy,.bool p.ex,.int .i64 p.an,.int .i64 p.px,.int .i64 p.py]
def dZx (p:Plc):List Value:=[.int .i64 p.x,.int .i64 p.y,.int .i64 p.rx,.int .i64 p.ry,.int .i64 p.ww,.int .i64 p.hh,.int .i64 p.qw,.int .i64 p.qh,.int .i64 p.an]
theorem kp_nd {bx:Nat} {p:Nr} {W:World} (hx:XB bx p W) (o:Nat) (vs:List Value):KpL W (W.setCells bx o vs) :=
 KpL.grown (pZq vs o W (rZz W bx)) (fun g cs' e e'=>by cases e';rw [show W.heap[bx]?=_ from hx] at e;have:=Option.some.inj e;simp at this)
theorem kp_rd {B rb n c m:Nat} {A:Option Addr} {W W':World} (hr:Rd B rb A n c m W) (hc:Chg [rb] W W'):KpL W W':=by
 obtain ⟨q,_,hb⟩:=hr.box;exact KpL.chg hc hb (fun cs e=>by cases e)
theorem wr_full (p q:Nr):wrAt (jZj p).toArray 0 (jZj q)=(jZj q).toArray:=by kernel_rfl
theorem full_setT {w:World} {g:Nat} {p q:Nr} (h:XB g p w):XB g q (w.setCells g 0 (jZj q)):=h.sets 0 (jZj q) (wr_full p q)
theorem fZo {B rb:Nat} {A:Option Addr} {l c m:Nat} (w:World) (h:Rd B rb A l c m w) (hm:m≤10000) :
  Calls Tryz.prog 109 #[.pointer (some ⟨rb,0,none⟩)] w fun e w'=>(∃ v R,e=.returned (.agg #[v])∧w'.ownsRow w.heap.size 43 34 v R.length (qZy R)∧(∀ p∈R,NL w' p∧kiL p)∧1≤R.length∧R.length≤10)∧Rd B rb A l c (m+8000) w'∧Chg [rb] w w':=by
 obtain ⟨ti,tz,ti1,ti2,ti3,ti4,ti5⟩:=nr_info;have hrw:rb<w.heap.size:=h.lt;have hrB:B≤rb:=h.base
 have hbr:w.heap.size≠rb:=by omega
 obtain ⟨bt,hbtE⟩:∃ bt,w.heap.size+1=bt:=⟨_,rfl⟩
 have hbt:bt≠rb:=by omega
 go_enter Tryz.func109,Tryz.ntmps109
 go_wp2_with fail
 obtain ⟨W0,hW0⟩:∃ W0,(w.alloc (.cells #[.slice none 0 0] 25 (0,0))).alloc (.cells #[.slice none 0 0] 25 (0,0))=W0:=⟨_,rfl⟩
 have hs0:bt+1=W0.heap.size:=by rw [<- hW0,<- hbtE];simp
 have HR0:=hD (show Rd B rb A l c m W0 by rw [<- hW0];exact (h.alloc _).alloc _)
 have HT0:=hD (show TrS w w.heap.size w.heap.size bt rb [] (.slice none 0 0) W0 by
  rw [<- hW0,<- hbtE]
  exact ⟨(Below.heap_alloc _ _ _ (by simp)).trans (newS w _),uZx w _ _,World.ownsRow_nil _ _ _ _,(fun p hp=>by cases hp),((Chg.refl [rb] w).alloc _).alloc _⟩)
 rw [hW0,hs0];clear hW0 h
 with_reducible refine (qZd 1 10 W0 HR0.out (by omega) (by simp) (by omega) (by omega) (by simp [isIn])).mono ?_
 rintro e w1 ⟨⟨z,rfl,z0,z1⟩,hr1,hc1⟩;obtain ⟨n,rfl⟩:=Int.eq_ofNat_of_zero_le (show 0≤z by omega);have HT1:=hD (HT0.out.call HR0.out hc1 hrw hbt hbr);have HR1:=hD hr1;clear hr1 hc1 HR0 HT0 hs0
 go_wp2_with fail
 go_loopw [4] (fun i wr=>∃ (k:Nat) (R:List Nr) (v:Value),i=.int .i64 k∧k+R.length=n∧TrS w w.heap.size w.heap.size bt rb R v wr∧Rd B rb A l c (m+1+700*R.length) wr) (fun i _=>(intOf i).toNat)
 case atStart=>exact ⟨n,[],_,rfl,by simp,HT1.out,HR1.out⟩
 case round =>
  obtain ⟨k,R,v,rfl,hk,ht,hr⟩:=hrel;clear HT1 HR1;obtain ⟨a0,c0,rfl⟩:=own_slN ht.own;have HT:=hD ht;have HR:=hD hr;have HBX:=hD ht.box;have hbtl:=ltS ht.box;clear ht hr
  rcases k with _ | k
  ·have hd:decide (((0:Nat):Int)>0)=false:=by simp
   have x0:=jZc HT.out.box 0;have y0:=jZc HT.out.res 0;have g0:=jZm HT.out.res 0;go_wp2
   refine vZc (fun W=>W.heap[w.heap.size]?=some (.cells #[.slice a0 R.length c0] 25 (0,0))∧W.ownsRow w.heap.size 43 34 (.slice a0 R.length c0) R.length (qZy R)∧(∀ p∈R,NL W p∧kiL p)∧Rd B rb A l c (m+8000) W∧Chg [rb] w W) ⟨putS HT.out.res _,own_tree HT.out.own HT.out.res _,fun p hp=>⟨(HT.out.lns p hp).1.kp (hZt HT.out.res _),(HT.out.lns p hp).2⟩,(HR.out.setCell (p:=⟨w.heap.size,0,none⟩) (by show B≤w.heap.size;omega) hbr _).mono (by omega),HT.out.chg.setCell (p:=⟨w.heap.size,0,none⟩) (.inr (Nat.le_refl _)) _⟩ ?_
   clear HT HR HBX x0 y0 g0;rintro W ⟨hz,h1,h2,h3,h4⟩;have z0:=jZc hz 0;exact bodyPost_ret (v:=.agg #[.slice a0 R.length c0]) (by simp only [results,Tryz.results109];go_simp) rfl ⟨⟨_,R,rfl,h1,h2,by omega,by omega⟩,h3,h4⟩
  ·have hd:decide (((k+1:Nat):Int)>0)=true:=by simp
   have wL:IntKind.i64.wrap ((R.length:Int)-1)=(R.length:Int)-1:=IntWalk.i64_in _ (by omega)
   obtain ⟨mR,hmR⟩:∃ mR,m+1+700*R.length=mR:=⟨_,rfl⟩
   rw [hmR] at HR;have HRO:=hD HR.out;clear HR
   have hmR2:mR≤20000:=by omega
   go_wp2_with fail
   refine qZt (fun k=>((fun v _=>v=.pointer (some ⟨bt,0,none⟩)) :: (fun v _=>v=.slice a0 R.length c0) :: (fun v _=>v=.int .i64 (R.length:Int)) :: (fun v _=>v=.int .i64 ((R.length:Int)-1)) :: (fun v _=>v=.pointer (some ⟨rb,0,none⟩)) :: (fun v _=>v=.pointer (some ⟨rb,0,none⟩)) :: (fun v _=>∃ z:Int,v=.int .i64 z) :: (TL B [rb] 4) :: (fun v _=>∃ z:Int,v=.int .i64 z) :: (fun v _=>v=.pointer (some ⟨rb,0,none⟩)) :: (fun v _=>v=.pointer (some ⟨rb,0,none⟩)) :: (fun v _=>∃ z:Int,v=.int .i64 z) :: (TL B [rb] 4) :: (fun v _=>∃ z:Int,v=.int .i64 z) :: (fun v _=>v=.pointer (some ⟨rb,0,none⟩)) :: (fun v _=>∃ z:Int,v=.int .i64 z) :: (fun v _=>∃ b:Bool,v=.bool b) :: (fun v _=>v=.pointer (some ⟨rb,0,none⟩)) :: (TL B [rb] 4) :: (fun v _=>∃ z:Int,v=.int .i64 z) :: (fun v _=>∃ (ww hh:Int) (ke:Bool) (ki:Int),v=.agg (jZj (nx ((R.length:Int)-1) ww hh ke ki)).toArray) :: (AXN wr.heap.size) :: []).getD k (fun _ _=>True)) (Chg [rb]) (fun mm w=>Rd B rb A l c (mR+mm) w) 22 (by kernel_rfl) (by kernel_rfl) (by kernel_rfl) (fun a=>Chg.refl _ a) (fun _ _ _ h k=>h.trans k) ?hTs ?hI0 ?hops ?hfin
   case hops =>
    refine ⟨jZw [(3,none)] (by kernel_rfl) rfl ?_,?_⟩
    ·intro mm act w' hm' hR hI h1;obtain ⟨hk,hf⟩:=evkf act;generalize act.eval=ρ at *;have hm:mm<23:=hm';replace h1:ρ (.tmp 3)=.pointer (some ⟨bt,0,none⟩):=h1;refine jZx (fun K hK=>?_);go_simp;exact hK _ _ ⟨rfl,Chg.refl _ _,hI.mono (by omega)⟩
    refine ⟨jZw [(14,some 0)] (by kernel_rfl) rfl ?_,?_⟩
    ·intro mm act w' hm' hR hI h1;obtain ⟨hk,hf⟩:=evkf act;generalize act.eval=ρ at *;have hm:mm<23:=hm';replace h1:ρ (.tmp 14)=.pointer (some ⟨bt,0,none⟩):=h1;refine jZx (fun K hK=>?_);have d0:=jZc ((hR.block bt (by simpa using hbtl) (by simpa using hbt)).trans HBX.out) 0;go_simp;exact hK _ _ ⟨rfl,Chg.refl _ _,hI.mono (by omega)⟩
    refine ⟨jZw [(15,some 1)] (by kernel_rfl) rfl ?_,?_⟩
    ·intro mm act w' hm' hR hI h1;obtain ⟨hk,hf⟩:=evkf act;generalize act.eval=ρ at *;have hm:mm<23:=hm';replace h1:ρ (.tmp 15)=.slice a0 R.length c0:=h1;refine jZx (fun K hK=>?_);go_simp;exact hK _ _ ⟨rfl,Chg.refl _ _,hI.mono (by omega)⟩
    refine ⟨jZw [(16,some 2)] (by kernel_rfl) rfl ?_,?_⟩
    ·intro mm act w' hm' hR hI h1;obtain ⟨hk,hf⟩:=evkf act;generalize act.eval=ρ at *;have hm:mm<23:=hm';replace h1:ρ (.tmp 16)=.int .i64 (R.length:Int):=h1;refine jZx (fun K hK=>?_);go_simp;exact hK _ _ ⟨rfl,Chg.refl _ _,hI.mono (by omega)⟩
    refine ⟨jZw [(0,none)] (by kernel_rfl) rfl ?_,?_⟩
    ·intro mm act w' hm' hR hI h1;obtain ⟨hk,hf⟩:=evkf act;generalize act.eval=ρ at *;have hm:mm<23:=hm';replace h1:ρ (.tmp 0)=.pointer (some ⟨rb,0,none⟩):=h1;refine jZx (fun K hK=>?_);go_simp;exact hK _ _ ⟨rfl,Chg.refl _ _,hI.mono (by omega)⟩
    refine ⟨jZw [(0,none)] (by kernel_rfl) rfl ?_,?_⟩
    ·intro mm act w' hm' hR hI h1;obtain ⟨hk,hf⟩:=evkf act;generalize act.eval=ρ at *;have hm:mm<23:=hm';replace h1:ρ (.tmp 0)=.pointer (some ⟨rb,0,none⟩):=h1;refine jZx (fun K hK=>?_);go_simp;exact hK _ _ ⟨rfl,Chg.refl _ _,hI.mono (by omega)⟩
    refine ⟨jZw [(19,some 5)] (by kernel_rfl) rfl ?_,?_⟩
    ·intro mm act w' hm' hR hI h1;obtain ⟨hk,hf⟩:=evkf act;generalize act.eval=ρ at *;have hm:mm<23:=hm';replace h1:ρ (.tmp 19)=.pointer (some ⟨rb,0,none⟩):=h1;refine jZx (fun K hK=>?_);go_simp
     with_reducible refine (kZe _ _ hI (by omega)).mono ?_
     rintro e w1 ⟨⟨z,rfl,-⟩,hr,hc⟩;exact ⟨_,rfl,hK _ _ ⟨⟨z,rfl⟩,hc,hr.mono (by omega)⟩⟩
    refine ⟨jZw [(20,some 6)] (by kernel_rfl) rfl ?_,?_⟩
    ·intro mm act w' hm' hR hI h1;obtain ⟨hk,hf⟩:=evkf act;generalize act.eval=ρ at *;have hm:mm<23:=hm';replace h1:(fun v _=>∃ z:Int,v=.int .i64 z) (ρ (.tmp 20)) w':=h1;refine jZx (fun K hK=>?_);have hrl:=hI.lt;obtain ⟨z1,h1⟩:=h1;go_simp;exact hK _ _ ⟨TL.lit (by omega) (by simp;omega) (by simp) (by simp [isI]),(Chg.refl _ _).alloc _,(hI.alloc _).mono (by omega)⟩
    refine ⟨jZw [(18,some 4),(21,some 7)] (by kernel_rfl) rfl ?_,?_⟩
    ·intro mm act w' hm' hR hI h1 h2;obtain ⟨hk,hf⟩:=evkf act;generalize act.eval=ρ at *;have hm:mm<23:=hm';replace h1:ρ (.tmp 18)=.pointer (some ⟨rb,0,none⟩):=h1;replace h2:(TL B [rb] 4) (ρ (.tmp 21)) w':=h2;refine jZx (fun K hK=>?_);go_simp
     with_reducible refine (tZ1 _ hI (by omega) h2 (by omega) (by omega)).mono ?_
     rintro e w1 ⟨⟨z,rfl⟩,hr,hc⟩;exact ⟨_,rfl,hK _ _ ⟨⟨z,rfl⟩,hc,hr.mono (by omega)⟩⟩
    refine ⟨jZw [(0,none)] (by kernel_rfl) rfl ?_,?_⟩
    ·intro mm act w' hm' hR hI h1;obtain ⟨hk,hf⟩:=evkf act;generalize act.eval=ρ at *;have hm:mm<23:=hm';replace h1:ρ (.tmp 0)=.pointer (some ⟨rb,0,none⟩):=h1;refine jZx (fun K hK=>?_);go_simp;exact hK _ _ ⟨rfl,Chg.refl _ _,hI.mono (by omega)⟩
    refine ⟨jZw [(0,none)] (by kernel_rfl) rfl ?_,?_⟩
    ·intro mm act w' hm' hR hI h1;obtain ⟨hk,hf⟩:=evkf act;generalize act.eval=ρ at *;have hm:mm<23:=hm';replace h1:ρ (.tmp 0)=.pointer (some ⟨rb,0,none⟩):=h1;refine jZx (fun K hK=>?_);go_simp;exact hK _ _ ⟨rfl,Chg.refl _ _,hI.mono (by omega)⟩
    refine ⟨jZw [(24,some 10)] (by kernel_rfl) rfl ?_,?_⟩
    ·intro mm act w' hm' hR hI h1;obtain ⟨hk,hf⟩:=evkf act;generalize act.eval=ρ at *;have hm:mm<23:=hm';replace h1:ρ (.tmp 24)=.pointer (some ⟨rb,0,none⟩):=h1;refine jZx (fun K hK=>?_);go_simp
     with_reducible refine (kZe _ _ hI (by omega)).mono ?_
     rintro e w1 ⟨⟨z,rfl,-⟩,hr,hc⟩;exact ⟨_,rfl,hK _ _ ⟨⟨z,rfl⟩,hc,hr.mono (by omega)⟩⟩
    refine ⟨jZw [(25,some 11)] (by kernel_rfl) rfl ?_,?_⟩
    ·intro mm act w' hm' hR hI h1;obtain ⟨hk,hf⟩:=evkf act;generalize act.eval=ρ at *;have hm:mm<23:=hm';replace h1:(fun v _=>∃ z:Int,v=.int .i64 z) (ρ (.tmp 25)) w':=h1;refine jZx (fun K hK=>?_);have hrl:=hI.lt;obtain ⟨z1,h1⟩:=h1;go_simp;exact hK _ _ ⟨TL.lit (by omega) (by simp;omega) (by simp) (by simp [isI]),(Chg.refl _ _).alloc _,(hI.alloc _).mono (by omega)⟩
    refine ⟨jZw [(23,some 9),(26,some 12)] (by kernel_rfl) rfl ?_,?_⟩
    ·intro mm act w' hm' hR hI h1 h2;obtain ⟨hk,hf⟩:=evkf act;generalize act.eval=ρ at *;have hm:mm<23:=hm';replace h1:ρ (.tmp 23)=.pointer (some ⟨rb,0,none⟩):=h1;replace h2:(TL B [rb] 4) (ρ (.tmp 26)) w':=h2;refine jZx (fun K hK=>?_);go_simp
     with_reducible refine (tZ1 _ hI (by omega) h2 (by omega) (by omega)).mono ?_
     rintro e w1 ⟨⟨z,rfl⟩,hr,hc⟩;exact ⟨_,rfl,hK _ _ ⟨⟨z,rfl⟩,hc,hr.mono (by omega)⟩⟩
    refine ⟨jZw [(0,none)] (by kernel_rfl) rfl ?_,?_⟩
    ·intro mm act w' hm' hR hI h1;obtain ⟨hk,hf⟩:=evkf act;generalize act.eval=ρ at *;have hm:mm<23:=hm';replace h1:ρ (.tmp 0)=.pointer (some ⟨rb,0,none⟩):=h1;refine jZx (fun K hK=>?_);go_simp;exact hK _ _ ⟨rfl,Chg.refl _ _,hI.mono (by omega)⟩
    refine ⟨jZw [(28,some 14)] (by kernel_rfl) rfl ?_,?_⟩
    ·intro mm act w' hm' hR hI h1;obtain ⟨hk,hf⟩:=evkf act;generalize act.eval=ρ at *;have hm:mm<23:=hm';replace h1:ρ (.tmp 28)=.pointer (some ⟨rb,0,none⟩):=h1;refine jZx (fun K hK=>?_);go_simp
     with_reducible refine (kZe _ _ hI (by omega)).mono ?_
     rintro e w1 ⟨⟨z,rfl,-⟩,hr,hc⟩;exact ⟨_,rfl,hK _ _ ⟨⟨z,rfl⟩,hc,hr.mono (by omega)⟩⟩
    refine ⟨jZw [(29,some 15)] (by kernel_rfl) rfl ?_,?_⟩
    ·intro mm act w' hm' hR hI h1;obtain ⟨hk,hf⟩:=evkf act;generalize act.eval=ρ at *;have hm:mm<23:=hm';replace h1:(fun v _=>∃ z:Int,v=.int .i64 z) (ρ (.tmp 29)) w':=h1;refine jZx (fun K hK=>?_);obtain ⟨z1,h1⟩:=h1;go_simp;exact hK _ _ ⟨⟨_,rfl⟩,Chg.refl _ _,hI.mono (by omega)⟩
    refine ⟨jZw [(0,none)] (by kernel_rfl) rfl ?_,?_⟩
    ·intro mm act w' hm' hR hI h1;obtain ⟨hk,hf⟩:=evkf act;generalize act.eval=ρ at *;have hm:mm<23:=hm';replace h1:ρ (.tmp 0)=.pointer (some ⟨rb,0,none⟩):=h1;refine jZx (fun K hK=>?_);go_simp;exact hK _ _ ⟨rfl,Chg.refl _ _,hI.mono (by omega)⟩
    refine ⟨jZw [] (by kernel_rfl) rfl ?_,?_⟩
    ·intro mm act w' hm' hR hI;obtain ⟨hk,hf⟩:=evkf act;generalize act.eval=ρ at *;have hm:mm<23:=hm';refine jZx (fun K hK=>?_);have hrl:=hI.lt;go_simp;exact hK _ _ ⟨TL.lit (by omega) (by simp;omega) (by simp) (by simp [isI]),(Chg.refl _ _).alloc _,(hI.alloc _).mono (by omega)⟩
    refine ⟨jZw [(31,some 17),(32,some 18)] (by kernel_rfl) rfl ?_,?_⟩
    ·intro mm act w' hm' hR hI h1 h2;obtain ⟨hk,hf⟩:=evkf act;generalize act.eval=ρ at *;have hm:mm<23:=hm';replace h1:ρ (.tmp 31)=.pointer (some ⟨rb,0,none⟩):=h1;replace h2:(TL B [rb] 4) (ρ (.tmp 32)) w':=h2;refine jZx (fun K hK=>?_);go_simp
     with_reducible refine (tZ1 _ hI (by omega) h2 (by omega) (by omega)).mono ?_
     rintro e w1 ⟨⟨z,rfl⟩,hr,hc⟩;exact ⟨_,rfl,hK _ _ ⟨⟨z,rfl⟩,hc,hr.mono (by omega)⟩⟩
    refine ⟨jZw [(17,some 3),(22,some 8),(27,some 13),(30,some 16),(33,some 19)] (by kernel_rfl) rfl ?_,?_⟩
    ·intro mm act w' hm' hR hI h1 h2 h3 h4 h5;obtain ⟨hk,hf⟩:=evkf act;generalize act.eval=ρ at *;have hm:mm<23:=hm';replace h1:ρ (.tmp 17)=.int .i64 ((R.length:Int)-1):=h1;replace h2:(fun v _=>∃ z:Int,v=.int .i64 z) (ρ (.tmp 22)) w':=h2;replace h3:(fun v _=>∃ z:Int,v=.int .i64 z) (ρ (.tmp 27)) w':=h3;replace h4:(fun v _=>∃ b:Bool,v=.bool b) (ρ (.tmp 30)) w':=h4
     replace h5:(fun v _=>∃ z:Int,v=.int .i64 z) (ρ (.tmp 33)) w':=h5;refine jZx (fun K hK=>?_);obtain ⟨z2,h2⟩:=h2;obtain ⟨z3,h3⟩:=h3;obtain ⟨z4,h4⟩:=h4;obtain ⟨z5,h5⟩:=h5;have hbn:=run_bN ((R.length:Int)-1) z2 z3 z4 z5 w';go_simp;exact hK _ _ ⟨⟨z2,z3,z4,z5,rfl⟩,Chg.refl _ _,hI.mono (by omega)⟩
    refine ⟨jZw [] (by kernel_rfl) rfl ?_,?_⟩
    ·intro mm act w' hm' hR hI;obtain ⟨hk,hf⟩:=evkf act;generalize act.eval=ρ at *;have hm:mm<23:=hm';refine jZx (fun K hK=>?_);have hsr:=hR.size;go_simp;exact hK _ _ ⟨⟨_,rfl,hsr,newS w' (.cells (jZj (nx 0 0 0 false 0)).toArray 43)⟩,(Chg.refl _ _).alloc _,(hI.alloc _).mono (by omega)⟩
    exact trivial
   case hTs =>
    intro k v x y hv hc
    exact rZi (by
     intro T hT;simp only [List.mem_cons,List.not_mem_nil,or_false] at hT
     rcases hT with rfl | rfl | rfl | rfl | rfl | rfl | rfl | rfl | rfl | rfl | rfl | rfl | rfl | rfl | rfl | rfl | rfl | rfl | rfl | rfl | rfl | rfl <;> first | exact fun v a b h _=>h | exact fun v a b h hc=>AXN.keep h hc (by omega) | exact fun v a b h hc=>TL.keep h hc)
     k v x y hv hc
   case hI0=>exact (HRO.out.drew).mono (by omega)
   case hfin =>
    intro w6 hR6 hI6;intro v14 t14 v15 t15 v16 t16 v17 t17 v18 t18 v19 t19 v20 t20 v21 t21 v22 t22 v23 t23 v24 t24 v25 t25 v26 t26 v27 t27 v28 t28 v29 t29 v30 t30 v31 t31 v32 t32 v33 t33 v34 t34 v5 t5;obtain ⟨ww,hh,ke,ki,rfl⟩:∃ (ww hh:Int) (ke:Bool) (ki:Int),v34=.agg (jZj (nx ((R.length:Int)-1) ww hh ke ki)).toArray:=t34;obtain ⟨bx,rfl,hbxl,hx⟩:AXN wr.heap.size v5 w6:=t5
    clear t14 t15 t16 t17 t18 t19 t20 t21 t22 t23 t24 t25 t26 t27 t28 t29 t30 t31 t32 t33;simp only [List.take,finP,Act.put,List.setIfInBounds_toArray,List.set_cons_succ,List.set_cons_zero]
    have hown:∀ q,(.slice a0 R.length c0:Value).ownBlock=some q→q≠bx:=fun q hq=>by have:=HT.out.own.lt q hq;omega
    have HR:=hD (show Rd B rb A l c (mR+22) w6 from hI6);have HT:=hD (HT.out.drew.call HRO.out.drew hR6 hrw hbt hbr);have HX:=hD (show XB bx (nx 0 0 0 false 0) w6 from hx)
    have hbx1:bt≠bx:=by omega
    have hbx2:w.heap.size≠bx:=by omega
    have hbx3:w.heap.size≤bx:=by omega
    have hbx4:bx≠rb:=by omega
    have hbx5:B≤bx:=by omega
    clear hR6 hI6 HRO HBX hbtl hx hbxl;refine vZt 22 43 (.tmp 5) (.tmp 34) bx 0 (jZj (nx ((R.length:Int)-1) ww hh ke ki)) (by kernel_rfl) (by kernel_rfl) (by kernel_rfl) rfl rfl (pZb HX.out (by simp [jZj])) (by kernel_rfl) (rZ9 _) ?_
    refine hZu (fun W=>XB bx (nx ((R.length:Int)-1) ww hh ke ki) W∧TrS w w.heap.size w.heap.size bt rb R (.slice a0 R.length c0) W∧Rd B rb A l c (mR+22) W) ⟨full_setT HX.out,HT.out.sets HX.out hbx1 hbx2 hbx3 hown 0 _,HR.out.sets hbx5 hbx4 0 _⟩ ?_;clear HX HT HR;rintro W8 ⟨hx,ht,hr⟩;have HX:=hD hx;have HT:=hD ht;have HR:=hD hr;clear hx ht hr w6;have cb0:=jZc HT.out.box 0
    go_upto_if 38 with (fail)
    go_cut [4] (fun iv wx=>iv=.int .i64 (((k+1:Nat):Int))∧∃ pa:Int,XB bx (nx pa ww hh ke ki) wx∧TrS w w.heap.size w.heap.size bt rb R (.slice a0 R.length c0) wx∧Rd B rb A l c (mR+24) wx∧((R.length=0∧pa=-1)∨(0≤pa∧pa<R.length)))
    case first =>
     by_cases h0:R.length=0
     ·have hg:decide ((R.length:Int)>0)=false:=decide_eq_false (by omega);go_wp2
      go_meet
      exact ⟨rfl,_,HX.out,HT.out,HR.out.mono (by omega),.inl ⟨h0,by omega⟩⟩
     ·have hg:decide ((R.length:Int)>0)=true:=decide_eq_true (by omega)
      go_wp2_with fail
      with_reducible refine (kZe _ _ HR.out (by omega)).mono ?_
      rintro e w7 ⟨⟨z,rfl,hz⟩,hr,hc⟩;obtain ⟨z0,z1⟩:=hz (by omega);have HX2:=hD (HX.out.call hc hbx4);have HT2:=hD (HT.out.call HR.out hc hrw hbt hbr);have HR2:=hD hr;clear hr hc hz cb0;have d0:=HX2.out.cell 0;simp only [jZj,nx] at d0;have f0:=HX2.out.frz 0
      go_upto_region 8 with (fail)
      refine hZu (fun W=>XB bx (nx z ww hh ke ki) W∧TrS w w.heap.size w.heap.size bt rb R (.slice a0 R.length c0) W∧Rd B rb A l c (mR+23) W) ⟨HX2.out.sets 0 [.int .i64 z] (by kernel_rfl),HT2.out.sets HX2.out hbx1 hbx2 hbx3 hown 0 [.int .i64 z],HR2.out.sets hbx5 hbx4 0 [.int .i64 z]⟩ ?_;rintro W9 ⟨hx,ht,hr⟩;have HX3:=hD hx;have HT3:=hD ht;clear hx ht d0 f0 HX2 HT2 HR2
      go_wp2_with fail
      with_reducible refine (kZe _ _ hr (by omega)).mono ?_
      rintro e w8 ⟨⟨q,rfl,-⟩,hr8,hc⟩;have HX4:=hD (HX3.out.call hc hbx4);have HT4:=hD (HT3.out.call hr hc hrw hbt hbr);have HR4:=hD hr8;clear hr hr8 hc HX3 HT3
      by_cases hq:q=0
      ·subst hq;have d0:=HX4.out.cell 0;simp only [jZj,nx] at d0;have f0:=HX4.out.frz 0;go_wp2
       go_meet
       exact ⟨rfl,0,HX4.out.sets 0 [.int .i64 0] (by kernel_rfl),HT4.out.sets HX4.out hbx1 hbx2 hbx3 hown 0 [.int .i64 0],HR4.out.sets hbx5 hbx4 0 [.int .i64 0],.inr ⟨by omega,by omega⟩⟩
      ·have hqb:(q == 0)=false:=by simpa using hq
       go_wp2
       go_meet
       exact ⟨rfl,z,HX4.out,HT4.out,HR4.out,.inr ⟨z0,z1⟩⟩
    case rest =>
    obtain ⟨hiv,pa,hx,ht,hr,hpa⟩:=hcut;subst hiv;have HX:=hD hx;have HT:=hD ht;have HR:=hD hr;have HPA:=hD hpa;clear hx ht hr hpa cb0;have d4:=HX.out.cell 4;simp only [jZj,nx] at d4
    go_upto_if 51 with (fail)
    go_cut [4] (fun iv wx=>iv=.int .i64 (((k+1:Nat):Int))∧∃ p:Nr,p.n.pa=pa∧kiL p∧XB bx p wx∧TrS w w.heap.size w.heap.size bt rb R (.slice a0 R.length c0) wx∧Rd B rb A l c (mR+64) wx∧NL wx p)
    case first =>
     by_cases hki:ki=1
     ·subst hki;clear d4
      go_wp2_with fail
      with_reducible refine (uZt _ HR.out (by omega)).mono ?_
      rintro e w7 ⟨⟨v1,L1,rfl,ho1,l1,l5⟩,hr,hc⟩;obtain ⟨A1,cc1,rfl,hcc1,hk1⟩:=LnK.own ho1 rfl;have HX2:=hD (HX.out.call hc hbx4);have HT2:=hD (HT.out.call HR.out hc hrw hbt hbr);have HR2:=hD hr;have HK1:=hD hk1;clear hr hc ho1 hk1;have d5:=HX2.out.cell 5;simp only [jZj,nx] at d5;have f5:=HX2.out.frz 5
      go_upto_region 12 with (fail)
      refine hZu (fun W=>XB bx ⟨{ (nx pa ww hh ke 1).n with cs:=L1 },A1,cc1,none,0⟩ W∧TrS w w.heap.size w.heap.size bt rb R (.slice a0 R.length c0) W∧Rd B rb A l c (mR+44) W∧LnK W A1 L1) ⟨HX2.out.sets 5 [.slice A1 L1.length cc1] (by kernel_rfl),HT2.out.sets HX2.out hbx1 hbx2 hbx3 hown 5 [.slice A1 L1.length cc1],HR2.out.sets hbx5 hbx4 5 [.slice A1 L1.length cc1],HK1.out.kp (kp_nd HX2.out 5 [.slice A1 L1.length cc1])⟩ ?_
      rintro W9 ⟨hx,ht,hr,hk1⟩;have HX3:=hD hx;have HT3:=hD ht;replace HK1:=hD hk1;clear hx ht d5 f5 HX2 HT2 HR2 hk1
      go_wp2_with fail
      with_reducible refine (uZt _ hr (by omega)).mono ?_
      rintro e w8 ⟨⟨v2,L2,rfl,ho2,l1',l5'⟩,hr8,hc⟩;obtain ⟨A2,cc2,rfl,hcc2,hk2⟩:=LnK.own ho2 rfl;have HX4:=hD (HX3.out.call hc hbx4);have HT4:=hD (HT3.out.call hr hc hrw hbt hbr);have HR4:=hD hr8;have HK2:=hD hk2;replace HK1:=hD (HK1.out.kp (kp_rd hr hc));clear hr hr8 hc ho2 hk2 HX3 HT3;have d6:=HX4.out.cell 6;simp only [jZj,nx] at d6;have f6:=HX4.out.frz 6;go_wp2
      go_meet
      exact ⟨rfl,⟨{ (nx pa ww hh ke 1).n with cs:=L1,rs:=L2 },A1,cc1,A2,cc2⟩,rfl,fun _=>⟨l1,l1'⟩,HX4.out.sets 6 [.slice A2 L2.length cc2] (by kernel_rfl),HT4.out.sets HX4.out hbx1 hbx2 hbx3 hown 6 [.slice A2 L2.length cc2],HR4.out.sets hbx5 hbx4 6 [.slice A2 L2.length cc2],⟨HK1.out.kp (kp_nd HX4.out 6 [.slice A2 L2.length cc2]),HK2.out.kp (kp_nd HX4.out 6 [.slice A2 L2.length cc2]),hcc1,hcc2,l5,l5'⟩⟩
     ·have hkb:(ki == 1)=false:=by simpa using hki
      go_wp2
      go_meet
      exact ⟨rfl,nx pa ww hh ke ki,rfl,fun h=>absurd h hki,HX.out,HT.out,HR.out.mono (by omega),⟨.inl rfl,.inl rfl,Nat.le_refl _,Nat.le_refl _,by simp [nx],by simp [nx]⟩⟩
    case rest =>
    obtain ⟨hiv,p,hpp,hkl,hx,ht,hr,hn⟩:=hcut;subst hiv;replace HX:=hD hx;replace HT:=hD ht;replace HR:=hD hr;have HNL:=hD hn;have HKL:=hD hkl;have HPP:=hD hpp;clear hx ht hr hn hkl hpp d4
    go_wp2_with fail
    with_reducible refine (fZy _ HR.out (by omega)).mono ?_
    rintro e w9 ⟨⟨g0,g1,g2,g3,g4,g5,g6,g7,g8,rfl⟩,hr,hc⟩;replace HX:=hD (HX.out.call hc hbx4);replace HT:=hD (HT.out.call HR.out hc hrw hbt hbr);replace HNL:=hD (HNL.out.call HR.out hc);replace HR:=hD hr;clear hr hc;have d7:=HX.out.cell 7;simp only [jZj,nx,Nr.pkN,Nr.plN,Nr.ceN] at d7;have f7:=HX.out.frz 7;have d8:=HX.out.cell 8;simp only [jZj,nx,Nr.pkN,Nr.plN,Nr.ceN] at d8
    have f8:=HX.out.frz 8;have d9:=HX.out.cell 9;simp only [jZj,nx,Nr.pkN,Nr.plN,Nr.ceN] at d9;have f9:=HX.out.frz 9;have d10:=HX.out.cell 10;simp only [jZj,nx,Nr.pkN,Nr.plN,Nr.ceN] at d10;have f10:=HX.out.frz 10;have d11:=HX.out.cell 11;simp only [jZj,nx,Nr.pkN,Nr.plN,Nr.ceN] at d11;have f11:=HX.out.frz 11;have d12:=HX.out.cell 12;simp only [jZj,nx,Nr.pkN,Nr.plN,Nr.ceN] at d12
    have f12:=HX.out.frz 12;have d13:=HX.out.cell 13;simp only [jZj,nx,Nr.pkN,Nr.plN,Nr.ceN] at d13;have f13:=HX.out.frz 13;have d14:=HX.out.cell 14;simp only [jZj,nx,Nr.pkN,Nr.plN,Nr.ceN] at d14;have f14:=HX.out.frz 14;have d15:=HX.out.cell 15;simp only [jZj,nx,Nr.pkN,Nr.plN,Nr.ceN] at d15;have f15:=HX.out.frz 15
    go_upto_region 14 with (fail)
    refine hZu (fun W=>XB bx (p.pkN ⟨g0,g1,g2,g3,g4,g5,g6,g7,g8⟩) W∧TrS w w.heap.size w.heap.size bt rb R (.slice a0 R.length c0) W∧Rd B rb A l c (mR+84) W∧NL W p) ⟨HX.out.sets 7 (vals9 ⟨g0,g1,g2,g3,g4,g5,g6,g7,g8⟩) (by kernel_rfl),HT.out.sets HX.out hbx1 hbx2 hbx3 hown 7 (vals9 ⟨g0,g1,g2,g3,g4,g5,g6,g7,g8⟩),HR.out.sets hbx5 hbx4 7 (vals9 ⟨g0,g1,g2,g3,g4,g5,g6,g7,g8⟩),HNL.out.sets HX.out 7 (vals9 ⟨g0,g1,g2,g3,g4,g5,g6,g7,g8⟩)⟩ ?_
    clear HX HT HR HNL d7 f7 d8 f8 d9 f9 d10 f10 d11 f11 d12 f12 d13 f13 d14 f14 d15 f15;rintro WA ⟨hx,ht,hr,hn⟩;have HX:=hD hx;have HT:=hD ht;have HR:=hD hr;have HNL:=hD hn;clear hx ht hr hn;have d7:=HX.out.cell 7;simp only [jZj,nx,Nr.pkN,Nr.plN,Nr.ceN] at d7;have f7:=HX.out.frz 7;have d8:=HX.out.cell 8;simp only [jZj,nx,Nr.pkN,Nr.plN,Nr.ceN] at d8;have f8:=HX.out.frz 8
    go_upto_region 16 with (fail)
    refine hZu (fun W=>XB bx (p.pkN ⟨0,0,g2,g3,g4,g5,g6,g7,g8⟩) W∧TrS w w.heap.size w.heap.size bt rb R (.slice a0 R.length c0) W∧Rd B rb A l c (mR+84) W∧NL W p) ⟨HX.out.sets 7 [.int .i64 0,.int .i64 0] (by kernel_rfl),HT.out.sets HX.out hbx1 hbx2 hbx3 hown 7 [.int .i64 0,.int .i64 0],HR.out.sets hbx5 hbx4 7 [.int .i64 0,.int .i64 0],HNL.out.sets HX.out 7 [.int .i64 0,.int .i64 0]⟩ ?_
    clear HX HT HR HNL d7 f7 d8 f8;rintro WB ⟨hx,ht,hr,hn⟩;have HX:=hD hx;have HT:=hD ht;have HR:=hD hr;have HNL:=hD hn;clear hx ht hr hn
    go_wp2_with fail
    with_reducible refine (eZy _ HR.out (by omega)).mono ?_
    rintro e wC ⟨⟨y0,y1,y2,y3,y4,y5,y6,y7,y8,rfl⟩,hr,hc⟩;replace HX:=hD (HX.out.call hc hbx4);replace HT:=hD (HT.out.call HR.out hc hrw hbt hbr);replace HNL:=hD (HNL.out.call HR.out hc);replace HR:=hD hr;clear hr hc;have d25:=HX.out.cell 25;simp only [jZj,nx,Nr.pkN,Nr.plN,Nr.ceN] at d25;have f25:=HX.out.frz 25;have d26:=HX.out.cell 26;simp only [jZj,nx,Nr.pkN,Nr.plN,Nr.ceN] at d26
    have f26:=HX.out.frz 26;have d27:=HX.out.cell 27;simp only [jZj,nx,Nr.pkN,Nr.plN,Nr.ceN] at d27;have f27:=HX.out.frz 27;have d28:=HX.out.cell 28;simp only [jZj,nx,Nr.pkN,Nr.plN,Nr.ceN] at d28;have f28:=HX.out.frz 28;have d29:=HX.out.cell 29;simp only [jZj,nx,Nr.pkN,Nr.plN,Nr.ceN] at d29;have f29:=HX.out.frz 29;have d30:=HX.out.cell 30;simp only [jZj,nx,Nr.pkN,Nr.plN,Nr.ceN] at d30
    have f30:=HX.out.frz 30;have d31:=HX.out.cell 31;simp only [jZj,nx,Nr.pkN,Nr.plN,Nr.ceN] at d31;have f31:=HX.out.frz 31;have d32:=HX.out.cell 32;simp only [jZj,nx,Nr.pkN,Nr.plN,Nr.ceN] at d32;have f32:=HX.out.frz 32;have d33:=HX.out.cell 33;simp only [jZj,nx,Nr.pkN,Nr.plN,Nr.ceN] at d33;have f33:=HX.out.frz 33
    go_upto_region 17 with (fail)
    refine hZu (fun W=>XB bx ((p.pkN ⟨0,0,g2,g3,g4,g5,g6,g7,g8⟩).plN ⟨y0,y1,y2,y3,y4,y5,y6,y7,y8⟩) W∧TrS w w.heap.size w.heap.size bt rb R (.slice a0 R.length c0) W∧Rd B rb A l c (mR+94) W∧NL W p) ⟨HX.out.sets 25 (dZx ⟨y0,y1,y2,y3,y4,y5,y6,y7,y8⟩) (by kernel_rfl),HT.out.sets HX.out hbx1 hbx2 hbx3 hown 25 (dZx ⟨y0,y1,y2,y3,y4,y5,y6,y7,y8⟩),HR.out.sets hbx5 hbx4 25 (dZx ⟨y0,y1,y2,y3,y4,y5,y6,y7,y8⟩),HNL.out.sets HX.out 25 (dZx ⟨y0,y1,y2,y3,y4,y5,y6,y7,y8⟩)⟩ ?_
    clear HX HT HR HNL d25 f25 d26 f26 d27 f27 d28 f28 d29 f29 d30 f30 d31 f31 d32 f32 d33 f33;rintro WD ⟨hx,ht,hr,hn⟩;have HX:=hD hx;have HT:=hD ht;have HR:=hD hr;have HNL:=hD hn;clear hx ht hr hn
    obtain ⟨pq,hpq⟩:∃ pq,(p.pkN ⟨0,0,g2,g3,g4,g5,g6,g7,g8⟩).plN ⟨y0,y1,y2,y3,y4,y5,y6,y7,y8⟩=pq:=⟨_,rfl⟩
    have hpqa:pq.n.pa=pa:=by rw [<- hpq];exact HPP.out
    replace HNL:=hD (show NL WD pq by rw [<- hpq];exact ⟨HNL.out.c,HNL.out.r,HNL.out.cl,HNL.out.rl,HNL.out.c5,HNL.out.r5⟩);replace HKL:=hD (show kiL pq by rw [<- hpq];exact HKL.out);rw [hpq] at HX;clear hpq HPP;have d0:WD.cell? ⟨bx,0,none⟩=some (.int .i64 pa):=(HX.out.cell 0).trans (by rw [<- hpqa];rfl);have HPQ:=hD hpqa;have cb0:=jZc HT.out.box 0;clear hpqa
    go_cut [80] (fun s wx=>wx=WD∧∃ b:Bool,s=.bool b∧(b=true→∃ (j:Nat) (p0:Nr),pa=(j:Int)∧R[j]?=some p0∧p0.n.ki=1))
    case first =>
     rcases HPA.out with ⟨h0,h1⟩ | ⟨h0,h1⟩
     ·have hg:decide (pa≥0)=false:=decide_eq_false (by omega);go_wp2
      go_meet
      exact ⟨rfl,false,rfl,fun h=>by cases h⟩
     ·have hg:decide (pa≥0)=true:=decide_eq_true (by omega);obtain ⟨j,rfl⟩:=Int.eq_ofNat_of_zero_le h0
      obtain ⟨p0,hp0⟩:∃ p0,R[j]?=some p0:=⟨_,List.getElem?_eq_getElem (by omega)⟩
      rcases own_nr HT.out.own rfl with ⟨he,hR0⟩ | ⟨g,cap,cs,he,hgl,hcap,hh,hcs,hin⟩
      ·subst hR0;simp at hp0
      ·obtain ⟨rfl,rfl⟩:a0=some ⟨g,0,none⟩∧c0=cap:=by simpa using he
       have cq4:WD.cell? ⟨g,j*34+4,none⟩=some (.int .i64 p0.n.ki):=(jZc hh _).trans (hin j p0 hp0 4 _ rfl);have HP0:=hD hp0;clear hin hh he hp0;go_wp2
       go_meet
       refine ⟨rfl,(p0.n.ki == 1),rfl,fun h=>⟨j,p0,rfl,HP0.out,by simpa using h⟩⟩
    case rest =>
    obtain ⟨hwd,b,hs80,hb80⟩:=hcut;subst hwd hs80;have HB8:=hD hb80;clear hb80
    go_upto_if 80 with (fail)
    go_cut [4] (fun iv wx=>iv=.int .i64 (((k+1:Nat):Int))∧∃ q:Ce,XB bx (pq.ceN q) wx∧TrS w w.heap.size w.heap.size bt rb R (.slice a0 R.length c0) wx∧Rd B rb A l c (mR+650) wx∧NL wx pq)
    case first =>
     cases b
     ·go_wp2
      go_meet
      exact ⟨rfl,pq.n.ce,HX.out,HT.out,HR.out.mono (by omega),HNL.out⟩
     ·obtain ⟨j,p0,hj,hp0,hki0⟩:=HB8.out rfl;subst hj;obtain ⟨hn0,hk0⟩:=HT.out.lns p0 (List.mem_of_getElem? hp0);obtain ⟨q1,q2⟩:=hk0 hki0;have q3:=hn0.c5;have q4:=hn0.r5;have hjl:j<R.length:=(List.getElem?_eq_some_iff.1 hp0).1
      have hjli:(j:Int)<(R.length:Int):=by omega
      rcases own_nr HT.out.own rfl with ⟨he,hR0⟩ | ⟨g,cap,cs,he,hgl,hcap,hh,hcs,hin⟩
      ·subst hR0;simp at hp0
      ·obtain ⟨rfl,rfl⟩:a0=some ⟨g,0,none⟩∧c0=cap:=by simpa using he
       have HH:=hD hh;have HC5:=hD (hin j p0 hp0 5 _ rfl);have HC6:=hD (hin j p0 hp0 6 _ rfl)
       have hgr:g≠rb:=by omega
       have hgs:=ltS hh;have hbs:=ltS HX.out;have hts:=ltS HT.out.box
       obtain ⟨n1,hn1⟩:∃ n1,p0.n.cs.length=n1:=⟨_,rfl⟩
       obtain ⟨n2,hn2⟩:∃ n2,p0.n.rs.length=n2:=⟨_,rfl⟩
       rw [hn1] at HC5 q1 q3;rw [hn2] at HC6 q2 q4;have HD0:=hD d0;clear hin hh he hp0 hn0 hk0 hki0 hcs hn1 hn2 d0 cb0
       go_wp2_with fail
       refine qZt (fun k=>((fun v _=>v=.pointer (some ⟨rb,0,none⟩)) :: (fun v _=>v=.pointer (some ⟨bt,0,none⟩)) :: (fun v _=>v=.slice (some ⟨g,0,none⟩) R.length c0) :: (fun v _=>v=.pointer (some ⟨bx,0,none⟩)) :: (fun v _=>v=.int .i64 (j:Int)) :: (fun v _=>v=.pointer (some ⟨g,j*34,none⟩)) :: (fun v _=>v=.pointer (some ⟨g,j*34+5,none⟩)) :: (fun v _=>v=.slice p0.ca n1 p0.cc) :: (fun v _=>v=.int .i64 (n1:Int)) :: (fun v _=>v=.pointer (some ⟨bt,0,none⟩)) :: (fun v _=>v=.slice (some ⟨g,0,none⟩) R.length c0) :: (fun v _=>v=.pointer (some ⟨bx,0,none⟩)) :: (fun v _=>v=.int .i64 (j:Int)) :: (fun v _=>v=.pointer (some ⟨g,j*34,none⟩)) :: (fun v _=>v=.pointer (some ⟨g,j*34+6,none⟩)) :: (fun v _=>v=.slice p0.ra n2 p0.rc) :: (fun v _=>v=.int .i64 (n2:Int)) :: (fun v _=>∃ q:Ce,v=.agg (kZn q).toArray) :: (fun v _=>v=.pointer (some ⟨bx,16,none⟩)) :: []).getD k (fun _ _=>True)) (Chg [rb]) (fun mm w=>Rd B rb A l c (mR+94+21*mm) w) 19 (by kernel_rfl) (by kernel_rfl) (by kernel_rfl) (fun a=>Chg.refl _ a) (fun _ _ _ h k=>h.trans k) ?hTs ?hI0 ?hops ?hfin
       case hops =>
        refine ⟨jZw [(0,none)] (by kernel_rfl) rfl ?_,?_⟩
        ·intro mm act w' hm' hR hI h1;obtain ⟨hk,hf⟩:=evkf act;generalize act.eval=ρ at *;have hm:mm<20:=hm';replace h1:ρ (.tmp 0)=.pointer (some ⟨rb,0,none⟩):=h1;refine jZx (fun K hK=>?_);go_simp;exact hK _ _ ⟨rfl,Chg.refl _ _,hI.mono (by omega)⟩
        refine ⟨jZw [(3,none)] (by kernel_rfl) rfl ?_,?_⟩
        ·intro mm act w' hm' hR hI h1;obtain ⟨hk,hf⟩:=evkf act;generalize act.eval=ρ at *;have hm:mm<20:=hm';replace h1:ρ (.tmp 3)=.pointer (some ⟨bt,0,none⟩):=h1;refine jZx (fun K hK=>?_);go_simp;exact hK _ _ ⟨rfl,Chg.refl _ _,hI.mono (by omega)⟩
        refine ⟨jZw [(82,some 1)] (by kernel_rfl) rfl ?_,?_⟩
        ·intro mm act w' hm' hR hI h1;obtain ⟨hk,hf⟩:=evkf act;generalize act.eval=ρ at *;have hm:mm<20:=hm';replace h1:ρ (.tmp 82)=.pointer (some ⟨bt,0,none⟩):=h1;refine jZx (fun K hK=>?_);have d0:=jZc ((hR.block bt (by simpa using hts) (by simpa using hbt)).trans HT.out.box) 0;go_simp;exact hK _ _ ⟨rfl,Chg.refl _ _,hI.mono (by omega)⟩
        refine ⟨jZw [(5,none)] (by kernel_rfl) rfl ?_,?_⟩
        ·intro mm act w' hm' hR hI h1;obtain ⟨hk,hf⟩:=evkf act;generalize act.eval=ρ at *;have hm:mm<20:=hm';replace h1:ρ (.tmp 5)=.pointer (some ⟨bx,0,none⟩):=h1;refine jZx (fun K hK=>?_);go_simp;exact hK _ _ ⟨rfl,Chg.refl _ _,hI.mono (by omega)⟩
        refine ⟨jZw [(84,some 3)] (by kernel_rfl) rfl ?_,?_⟩
        ·intro mm act w' hm' hR hI h1;obtain ⟨hk,hf⟩:=evkf act;generalize act.eval=ρ at *;have hm:mm<20:=hm';replace h1:ρ (.tmp 84)=.pointer (some ⟨bx,0,none⟩):=h1;refine jZx (fun K hK=>?_)
         have d0:=(hR.block bx (by simpa using hbs) (by simpa using hbx4))
         have d0':=(World.cell?_of_block (a:=⟨bx,0,none⟩) d0).trans HD0.out;clear d0;go_simp;exact hK _ _ ⟨rfl,Chg.refl _ _,hI.mono (by omega)⟩
        refine ⟨jZw [(83,some 2),(85,some 4)] (by kernel_rfl) rfl ?_,?_⟩
        ·intro mm act w' hm' hR hI h1 h2;obtain ⟨hk,hf⟩:=evkf act;generalize act.eval=ρ at *;have hm:mm<20:=hm';replace h1:ρ (.tmp 83)=.slice (some ⟨g,0,none⟩) R.length c0:=h1;replace h2:ρ (.tmp 85)=.int .i64 (j:Int):=h2;refine jZx (fun K hK=>?_);go_simp;exact hK _ _ ⟨rfl,Chg.refl _ _,hI.mono (by omega)⟩
        refine ⟨jZw [(86,some 5)] (by kernel_rfl) rfl ?_,?_⟩
        ·intro mm act w' hm' hR hI h1;obtain ⟨hk,hf⟩:=evkf act;generalize act.eval=ρ at *;have hm:mm<20:=hm';replace h1:ρ (.tmp 86)=.pointer (some ⟨g,j*34,none⟩):=h1;refine jZx (fun K hK=>?_);go_simp;exact hK _ _ ⟨rfl,Chg.refl _ _,hI.mono (by omega)⟩
        refine ⟨jZw [(87,some 6)] (by kernel_rfl) rfl ?_,?_⟩
        ·intro mm act w' hm' hR hI h1;obtain ⟨hk,hf⟩:=evkf act;generalize act.eval=ρ at *;have hm:mm<20:=hm';replace h1:ρ (.tmp 87)=.pointer (some ⟨g,j*34+5,none⟩):=h1;refine jZx (fun K hK=>?_);have d0:=(jZc ((hR.block g (by simpa using hgs) (by simpa using hgr)).trans HH.out) (j*34+5)).trans HC5.out;go_simp;exact hK _ _ ⟨rfl,Chg.refl _ _,hI.mono (by omega)⟩
        refine ⟨jZw [(88,some 7)] (by kernel_rfl) rfl ?_,?_⟩
        ·intro mm act w' hm' hR hI h1;obtain ⟨hk,hf⟩:=evkf act;generalize act.eval=ρ at *;have hm:mm<20:=hm';replace h1:ρ (.tmp 88)=.slice p0.ca n1 p0.cc:=h1;refine jZx (fun K hK=>?_);go_simp;exact hK _ _ ⟨rfl,Chg.refl _ _,hI.mono (by omega)⟩
        refine ⟨jZw [(3,none)] (by kernel_rfl) rfl ?_,?_⟩
        ·intro mm act w' hm' hR hI h1;obtain ⟨hk,hf⟩:=evkf act;generalize act.eval=ρ at *;have hm:mm<20:=hm';replace h1:ρ (.tmp 3)=.pointer (some ⟨bt,0,none⟩):=h1;refine jZx (fun K hK=>?_);go_simp;exact hK _ _ ⟨rfl,Chg.refl _ _,hI.mono (by omega)⟩
        refine ⟨jZw [(90,some 9)] (by kernel_rfl) rfl ?_,?_⟩
        ·intro mm act w' hm' hR hI h1;obtain ⟨hk,hf⟩:=evkf act;generalize act.eval=ρ at *;have hm:mm<20:=hm';replace h1:ρ (.tmp 90)=.pointer (some ⟨bt,0,none⟩):=h1;refine jZx (fun K hK=>?_);have d0:=jZc ((hR.block bt (by simpa using hts) (by simpa using hbt)).trans HT.out.box) 0;go_simp;exact hK _ _ ⟨rfl,Chg.refl _ _,hI.mono (by omega)⟩
        refine ⟨jZw [(5,none)] (by kernel_rfl) rfl ?_,?_⟩
        ·intro mm act w' hm' hR hI h1;obtain ⟨hk,hf⟩:=evkf act;generalize act.eval=ρ at *;have hm:mm<20:=hm';replace h1:ρ (.tmp 5)=.pointer (some ⟨bx,0,none⟩):=h1;refine jZx (fun K hK=>?_);go_simp;exact hK _ _ ⟨rfl,Chg.refl _ _,hI.mono (by omega)⟩
        refine ⟨jZw [(92,some 11)] (by kernel_rfl) rfl ?_,?_⟩
        ·intro mm act w' hm' hR hI h1;obtain ⟨hk,hf⟩:=evkf act;generalize act.eval=ρ at *;have hm:mm<20:=hm';replace h1:ρ (.tmp 92)=.pointer (some ⟨bx,0,none⟩):=h1;refine jZx (fun K hK=>?_)
         have d0:=(hR.block bx (by simpa using hbs) (by simpa using hbx4))
         have d0':=(World.cell?_of_block (a:=⟨bx,0,none⟩) d0).trans HD0.out;clear d0;go_simp;exact hK _ _ ⟨rfl,Chg.refl _ _,hI.mono (by omega)⟩
        refine ⟨jZw [(91,some 10),(93,some 12)] (by kernel_rfl) rfl ?_,?_⟩
        ·intro mm act w' hm' hR hI h1 h2;obtain ⟨hk,hf⟩:=evkf act;generalize act.eval=ρ at *;have hm:mm<20:=hm';replace h1:ρ (.tmp 91)=.slice (some ⟨g,0,none⟩) R.length c0:=h1;replace h2:ρ (.tmp 93)=.int .i64 (j:Int):=h2;refine jZx (fun K hK=>?_);go_simp;exact hK _ _ ⟨rfl,Chg.refl _ _,hI.mono (by omega)⟩
        refine ⟨jZw [(94,some 13)] (by kernel_rfl) rfl ?_,?_⟩
        ·intro mm act w' hm' hR hI h1;obtain ⟨hk,hf⟩:=evkf act;generalize act.eval=ρ at *;have hm:mm<20:=hm';replace h1:ρ (.tmp 94)=.pointer (some ⟨g,j*34,none⟩):=h1;refine jZx (fun K hK=>?_);go_simp;exact hK _ _ ⟨rfl,Chg.refl _ _,hI.mono (by omega)⟩
        refine ⟨jZw [(95,some 14)] (by kernel_rfl) rfl ?_,?_⟩
        ·intro mm act w' hm' hR hI h1;obtain ⟨hk,hf⟩:=evkf act;generalize act.eval=ρ at *;have hm:mm<20:=hm';replace h1:ρ (.tmp 95)=.pointer (some ⟨g,j*34+6,none⟩):=h1;refine jZx (fun K hK=>?_);have d0:=(jZc ((hR.block g (by simpa using hgs) (by simpa using hgr)).trans HH.out) (j*34+6)).trans HC6.out;go_simp;exact hK _ _ ⟨rfl,Chg.refl _ _,hI.mono (by omega)⟩
        refine ⟨jZw [(96,some 15)] (by kernel_rfl) rfl ?_,?_⟩
        ·intro mm act w' hm' hR hI h1;obtain ⟨hk,hf⟩:=evkf act;generalize act.eval=ρ at *;have hm:mm<20:=hm';replace h1:ρ (.tmp 96)=.slice p0.ra n2 p0.rc:=h1;refine jZx (fun K hK=>?_);go_simp;exact hK _ _ ⟨rfl,Chg.refl _ _,hI.mono (by omega)⟩
        refine ⟨jZw [(81,some 0),(89,some 8),(97,some 16)] (by kernel_rfl) rfl ?_,?_⟩
        ·intro mm act w' hm' hR hI h1 h2 h3;obtain ⟨hk,hf⟩:=evkf act;generalize act.eval=ρ at *;have hm:mm<20:=hm';replace h1:ρ (.tmp 81)=.pointer (some ⟨rb,0,none⟩):=h1;replace h2:ρ (.tmp 89)=.int .i64 (n1:Int):=h2;replace h3:ρ (.tmp 97)=.int .i64 (n2:Int):=h3;refine jZx (fun K hK=>?_);go_simp
         with_reducible refine (gZb n1 n2 _ hI (by omega) q1 q3 q2 q4).mono ?_
         rintro e w1 ⟨⟨q,rfl⟩,hr,hc⟩;exact ⟨_,rfl,hK _ _ ⟨⟨q,rfl⟩,hc,hr.mono (by omega)⟩⟩
        refine ⟨jZw [(5,none)] (by kernel_rfl) rfl ?_,?_⟩
        ·intro mm act w' hm' hR hI h1;obtain ⟨hk,hf⟩:=evkf act;generalize act.eval=ρ at *;have hm:mm<20:=hm';replace h1:ρ (.tmp 5)=.pointer (some ⟨bx,0,none⟩):=h1;refine jZx (fun K hK=>?_);go_simp;exact hK _ _ ⟨rfl,Chg.refl _ _,hI.mono (by omega)⟩
        exact trivial
       case hTs =>
        intro k v x y hv hc
        exact rZi (by
         intro T hT;simp only [List.mem_cons,List.not_mem_nil,or_false] at hT
         rcases hT with rfl | rfl | rfl | rfl | rfl | rfl | rfl | rfl | rfl | rfl | rfl | rfl | rfl | rfl | rfl | rfl | rfl | rfl | rfl <;> first | exact fun v a b h _=>h | exact fun v a b h hc=>AXN.keep h hc (by omega) | exact fun v a b h hc=>AXN.keep h hc (by omega) | exact fun v a b h hc=>TL.keep h hc)
         k v x y hv hc
       case hI0=>exact (HR.out.drew).mono (by omega)
       case hfin =>
        intro w6 hR6 hI6;intro v81 t81 v82 t82 v83 t83 v84 t84 v85 t85 v86 t86 v87 t87 v88 t88 v89 t89 v90 t90 v91 t91 v92 t92 v93 t93 v94 t94 v95 t95 v96 t96 v97 t97 v98 t98 v99 t99;obtain ⟨q,rfl⟩:∃ q:Ce,v98=.agg (kZn q).toArray:=t98;obtain rfl:v99=.pointer (some ⟨bx,16,none⟩):=t99;clear t81 t82 t83 t84 t85 t86 t87 t88 t89 t90 t91 t92 t93 t94 t95 t96 t97
        simp only [List.take,finP,Act.put,List.setIfInBounds_toArray,List.set_cons_succ,List.set_cons_zero];replace HNL:=hD (HNL.out.kp ((KpL.below (Below.refl _ _).drew).trans (kp_rd HR.out.drew hR6)));replace HT:=hD (HT.out.drew.call HR.out.drew hR6 hrw hbt hbr);replace HX:=hD (show XB bx pq w6 from (hR6.block bx (by simpa using hbs) (by simpa using hbx4)).trans HX.out)
        replace HR:=hD (show Rd B rb A l c (mR+94+21*19) w6 from hI6);clear hR6 hI6 HH HC5 HC6 HD0;refine vZt 19 39 (.tmp 99) (.tmp 98) bx 16 (kZn q) (by kernel_rfl) (by kernel_rfl) (by kernel_rfl) rfl rfl (pZb HX.out (by simp [jZj,kZn])) (by kernel_rfl) (hZf _) ?_
        refine hZu (fun W=>XB bx (pq.ceN q) W∧TrS w w.heap.size w.heap.size bt rb R (.slice (some ⟨g,0,none⟩) R.length c0) W∧Rd B rb A l c (mR+650) W∧NL W pq) ⟨HX.out.sets 16 _ (by kernel_rfl),HT.out.sets HX.out hbx1 hbx2 hbx3 hown 16 _,(HR.out.sets hbx5 hbx4 16 _).mono (by omega),HNL.out.sets HX.out 16 _⟩ ?_;clear HX HT HR HNL;rintro WF ⟨hx,ht,hr,hn⟩;have HX:=hD hx;have HT:=hD ht;have HR:=hD hr
        have HNL:=hD hn;clear hx ht hr hn;have d20:=HX.out.cell 20;simp only [jZj,nx,Nr.pkN,Nr.plN,Nr.ceN] at d20;have f20:=HX.out.frz 20;have d21:=HX.out.cell 21;simp only [jZj,nx,Nr.pkN,Nr.plN,Nr.ceN] at d21;have f21:=HX.out.frz 21;go_wp2
        go_meet
        exact ⟨rfl,⟨q.co,q.ro,q.mc,q.mr,0,0,q.sk,q.px,q.py⟩,HX.out.sets 20 [.int .i64 0,.int .i64 0] (by kernel_rfl),HT.out.sets HX.out hbx1 hbx2 hbx3 hown 20 [.int .i64 0,.int .i64 0],HR.out.sets hbx5 hbx4 20 [.int .i64 0,.int .i64 0],HNL.out.sets HX.out 20 [.int .i64 0,.int .i64 0]⟩
    case rest =>
    obtain ⟨hiv,q,hx,ht,hr,hn⟩:=hcut;subst hiv;have HX:=hD hx;have HT:=hD ht;have HR:=hD hr;have HNL:=hD hn;clear hx ht hr hn d0 cb0
    obtain ⟨pz,hpz⟩:∃ pz,pq.ceN q=pz:=⟨_,rfl⟩
    rw [hpz] at HX;replace HNL:=hD (show NL wc pz by rw [<- hpz];exact ⟨HNL.out.c,HNL.out.r,HNL.out.cl,HNL.out.rl,HNL.out.c5,HNL.out.r5⟩);replace HKL:=hD (show kiL pz by rw [<- hpz];exact HKL.out);clear hpz;have cb0:=jZc HT.out.box 0;have hob:=HT.out.own.lt;have hwz:w.heap.size≤wc.heap.size:=HT.out.chg.size;have HOA:=hD (HT.out.own.alloc (.cells (jZj pz).toArray 43))
    go_wp2_with (first|((with_reducible show wpList _ _ _ _ _ _);refine ldN (.tmp 5) pz bx 0 rfl rfl rfl (kZ6 HX.out) ?_;refine bsN (.tmp 106) pz rfl rfl rfl ?_)|(at_builtin;refine wpList_append_own _ rfl _ _ 23 rfl w.heap.size 43 ti tz 34 288 Tryz.underlying23 ti1 ti2 ti3 ti4 ti5 (by decide) (.slice a0 R.length c0) R.length (qZy R) rfl HOA.out ⟨wc.heap.size,0,none⟩ 1 1 (jZj pz) rfl rfl (new34 _ pz _) (rZ9 _) (by simp only [maxLen];omega) (by omega) (by simp;omega) ?_))
    clear HOA;intro v5 w5 how5 hgr5 _;obtain ⟨h5a,h5b,h5c,h5d,h5e,h5f⟩:=HT.out.add HNL.out HKL.out (Nat.le_refl _) hgr5 how5;have HR5:=hD (eZ9 HR.out hgr5 hob hrw);obtain ⟨a1,c1,rfl⟩:=own_slN how5;have z0:=jZc h5c 0;have zf:=jZm h5c 0;have H5:=hD (And.intro h5b (And.intro h5c (And.intro h5d (And.intro h5e h5f))));clear h5a h5b h5c h5d h5e h5f how5 hgr5 hob HX HNL HKL cb0;go_wp2
    go_roundw
    case rel =>
     obtain ⟨h5b,h5c,h5d,h5e,h5f⟩:=H5.out
     refine ⟨k,R ++ [pz],.slice a1 (R.length+1) c1,by go_num,by simp;omega,⟨(Below.heap_setCell _ ⟨bt,0,none⟩ _ w.heap.size (show w.heap.size≠bt by omega)).trans h5b,putS h5c _,own_tree h5d h5c _,fun p hp=>⟨(h5e p hp).1.kp (hZt h5c _),(h5e p hp).2⟩,h5f.setCell (p:=⟨bt,0,none⟩) (.inr (by show w.heap.size≤bt;omega)) _⟩,(HR5.out.setCell (p:=⟨bt,0,none⟩) (by show B≤bt;omega) hbt _).mono (by simp;omega)⟩
    case measure=>simp [intOf]
end
section
attribute [local go_sem] jZ0 jZ5 jZ2
structure TK (W:World) (lo g:Nat) (R:List Nr):Prop where
  lo:lo≤g
  blk:∃ cs:Array Value,W.heap[g]?=some (.cells cs 43 (0,0))∧R.length*34≤cs.size∧∀ (i:Nat) (r:Nr),R[i]?=some r→InS cs (i*34) (jZj r)
  ns:∀ p∈R,NL W p
theorem TK.nrv {W:World} {lo g:Nat} {R:List Nr} (h:TK W lo g R):NrV W (some ⟨g,0,none⟩) R:=⟨fun _=>by
  obtain ⟨cs,hh,_,hin⟩:=h.blk
  refine ⟨g,0,rfl,ltS hh,fun i p hp j u hj=>?_⟩
  rw [Nat.zero_add]
  exact (jZc hh _).trans (hin i p hp j u hj)⟩
theorem TK.keep {W W':World} {lo g:Nat} {R:List Nr} (h:TK W lo g R) (hb:Below W.heap.size W W'):TK W' lo g R :=
  ⟨h.lo,let ⟨cs,hh,h1,h2⟩:=h.blk;⟨cs,(hb.block g (ltS hh)).trans hh,h1,h2⟩,fun p hp=>(h.ns p hp).kp (KpL.below hb)⟩
theorem TK.call {B rb n c m lo g:Nat} {A:Option Addr} {R:List Nr} {W W':World} (h:TK W lo g R) (hr:Rd B rb A n c m W) (hc:Chg [rb] W W') (hg:rb<lo):TK W' lo g R :=
  ⟨h.lo,let ⟨cs,hh,h1,h2⟩:=h.blk;⟨cs,(hc.block g (ltS hh) (by have:=h.lo;simp;omega)).trans hh,h1,h2⟩,fun p hp=>(h.ns p hp).call hr hc⟩
theorem put_nr {cs:Array Value} {R:List Nr} {j o:Nat} {p q:Nr} {u:Value} (hin:∀ (i:Nat) (r:Nr),R[i]?=some r→InS cs (i*34) (jZj r)) (hs:R.length*34≤cs.size) (hp:R[j]?=some p) (ho:o<34) (he:wrAt (jZj p).toArray o [u]=(jZj q).toArray) :
    ∀ (i:Nat) (r:Nr),(R.set j q)[i]?=some r→InS (cs.setIfInBounds (j*34+o) u) (i*34) (jZj r):=by
  intro i r hr k v hv
  have hj:j<R.length:=(List.getElem?_eq_some_iff.1 hp).1
  have hk:k<34:=by have:=(List.getElem?_eq_some_iff.1 hv).1;rwa [pZ8] at this
  rw [Array.getElem?_setIfInBounds]
  by_cases hij:i=j
  · subst hij
    rw [List.getElem?_set_self hj] at hr
    obtain rfl:=Option.some.inj hr
    have e2:((jZj p).toArray.setIfInBounds o u)[k]?=(jZj q).toArray[k]?:=by rw [<- he];rfl
    rw [Array.getElem?_setIfInBounds] at e2
    by_cases hok:o=k
    · subst hok
      rw [if_pos rfl,if_pos (by rw [List.size_toArray,pZ8];exact ho)] at e2
      rw [if_pos rfl,if_pos (by omega)]
      rw [e2];simpa using hv
    · rw [if_neg hok] at e2
      rw [if_neg (by omega)]
      exact hin i p hp k v (by have:(jZj p)[k]?=(jZj q)[k]?:=by simpa using e2
                               rw [this];exact hv)
  · rw [List.getElem?_set_ne (Ne.symm hij)] at hr
    rw [if_neg (by omega)]
    exact hin i r hr k v hv
structure TvS (a:World) (lo br bt rb g c0:Nat) (R:List Nr) (W:World):Prop where
  res:W.heap[br]?=some (.cells #[.slice none 0 0] 25 (0,0))
  box:W.heap[bt]?=some (.cells #[.slice (some ⟨g,0,none⟩) R.length c0] 25 (0,0))
  tk:TK W lo g R
  chg:Chg [rb] a W
theorem TvS.call {a:World} {lo br bt rb g c0 B n c m:Nat} {A:Option Addr} {R:List Nr} {W W':World} (h:TvS a lo br bt rb g c0 R W) (hr:Rd B rb A n c m W) (hc:Chg [rb] W W') (h1:rb<lo) (h2:bt≠rb) (h3:br≠rb):TvS a lo br bt rb g c0 R W' :=
  ⟨(hc.block br (ltS h.res) (by simpa using h3)).trans h.res,(hc.block bt (ltS h.box) (by simpa using h2)).trans h.box,h.tk.call hr hc h1,h.chg.trans hc⟩
theorem TvS.drew {a:World} {lo br bt rb g c0:Nat} {R:List Nr} {W:World} (h:TvS a lo br bt rb g c0 R W):TvS a lo br bt rb g c0 R W.drew :=
  ⟨h.res,h.box,h.tk.keep (Below.refl _ _).drew,h.chg.drew⟩
theorem TvS.cellAt {a:World} {lo br bt rb g c0:Nat} {R:List Nr} {W:World} (h:TvS a lo br bt rb g c0 R W) {j:Nat} {p:Nr} (hp:R[j]?=some p) (o:Nat) (v:Value) (hv:(jZj p)[o]?=some v):W.cell? ⟨g,j*34+o,none⟩=some v:=by
  obtain ⟨cs,hh,_,hin⟩:=h.tk.blk
  exact (jZc hh _).trans (hin j p hp o v hv)
theorem TvS.frzAt {a:World} {lo br bt rb g c0:Nat} {R:List Nr} {W:World} (h:TvS a lo br bt rb g c0 R W) (o:Nat):W.frozen? ⟨g,o,none⟩=false:=by
  obtain ⟨cs,hh,_,hin⟩:=h.tk.blk
  exact jZm hh o
theorem TvS.put {a:World} {lo br bt rb g c0:Nat} {R:List Nr} {W:World} (h:TvS a lo br bt rb g c0 R W) (ha:a.heap.size≤lo) (h2:bt≠g) (h3:br≠g) {j o:Nat} {p q:Nr} (u:Value) (hp:R[j]?=some p) (ho:o<34) (he:wrAt (jZj p).toArray o [u]=(jZj q).toArray) (e1:q.ca=p.ca) (e2:q.cc=p.cc) (e3:q.ra=p.ra) (e4:q.rc=p.rc) (e5:q.n.cs=p.n.cs) (e6:q.n.rs=p.n.rs) :
    TvS a lo br bt rb g c0 (R.set j q) (W.setCell ⟨g,j*34+o,none⟩ u):=by
  obtain ⟨cs,hh,hs,hin⟩:=h.tk.blk
  have hkp:KpL W (W.setCell ⟨g,j*34+o,none⟩ u):=KpL.grown (bZ7 (rZz W g) _ u) (fun g' cs' e e'=>by cases e';rw [hh] at e;have:=Option.some.inj e;simp at this)
  refine ⟨(Below.heap_setCell _ ⟨g,_,none⟩ _ br h3).trans h.res,by rw [List.length_set];exact (Below.heap_setCell _ ⟨g,_,none⟩ _ bt h2).trans h.box,⟨h.tk.lo,⟨_,putS hh u,by simpa using hs,put_nr hin hs hp ho he⟩,fun r hr=>?_⟩,Chg.of_grown h.chg (bZ7 (rZz W g) _ u) (.inr (Nat.le_trans ha h.tk.lo))⟩
  rcases List.mem_or_eq_of_mem_set hr with hr | rfl
  · exact (h.tk.ns r hr).kp hkp
  · have hn:=(h.tk.ns p (List.mem_of_getElem? hp)).kp hkp
    exact ⟨by rw [e1,e5];exact hn.c,by rw [e3,e6];exact hn.r,by rw [e2,e5];exact hn.cl,by rw [e4,e6];exact hn.rl,by rw [e5];exact hn.c5,by rw [e6];exact hn.r5⟩
theorem TK.res {W:World} {lo g br:Nat} {R:List Nr} {cs:Array Value} (h:TK W lo g R) (hb:W.heap[br]?=some (.cells cs 25 (0,0))) (hn:br≠g) (u:Value):TK (W.setCell ⟨br,0,none⟩ u) lo g R :=
  ⟨h.lo,let ⟨cs,hh,h1,h2⟩:=h.blk;⟨cs,(Below.heap_setCell _ ⟨br,0,none⟩ _ g (fun e=>hn e.symm)).trans hh,h1,h2⟩,fun p hp=>(h.ns p hp).kp (hZt hb u)⟩
theorem fZ6 {B rb:Nat} {A:Option Addr} {l c m:Nat} (w:World) (h:Rd B rb A l c m w) (hm:m≤10000) :
    Calls Tryz.prog 67 #[.pointer (some ⟨rb,0,none⟩)] w fun e w'=>(∃ (g c0:Nat) (R:List Nr),e=.returned (.agg #[.slice (some ⟨g,0,none⟩) R.length c0])∧TK w' w.heap.size g R∧R.length≤c0∧1≤R.length∧R.length≤10)∧Rd B rb A l c (m+9000) w'∧Chg [rb] w w':=by
  have hrw:rb<w.heap.size:=h.lt
  have hrB:B≤rb:=h.base
  have hbr:w.heap.size≠rb:=by omega
  go_enter Tryz.func67,Tryz.ntmps67
  go_wp2_with fail
  obtain ⟨W0,hW0⟩:∃ W0,w.alloc (.cells #[.slice none 0 0] 25 (0,0))=W0:=⟨_,rfl⟩
  have hr0:W0.heap[w.heap.size]?=some (.cells #[.slice none 0 0] 25 (0,0)):=by rw [<- hW0];exact newS w _
  have hc0:Chg [rb] w W0:=by rw [<- hW0];exact (Chg.refl [rb] w).alloc _
  have hs0:W0.heap.size=w.heap.size+1:=by rw [<- hW0];simp
  have HR0:=hD (show Rd B rb A l c m W0 by rw [<- hW0];exact h.alloc _)
  rw [hW0]
  clear hW0 h
  with_reducible refine (fZo _ HR0.out (by omega)).mono ?_
  rintro e w1 ⟨⟨v,R,rfl,ho,hl,r1,r2⟩,hr,hc⟩
  rcases own_nr ho rfl with ⟨-,hR0⟩ | ⟨g,c0,cs,rfl,hgl,hcap,hh,hcs,hin⟩
  · subst hR0;simp at r1
  obtain ⟨bt,hbtE⟩:∃ bt,w1.heap.size=bt:=⟨_,rfl⟩
  have hgb:=ltS hh
  have hbt:bt≠rb:=by have:=hr.lt;omega
  have hw1:w.heap.size<w1.heap.size:=by have:=ltS hr0;have:=hc.size;omega
  have htv:TvS w w.heap.size w.heap.size bt rb g c0 R (w1.alloc (.cells #[.slice (some ⟨g,0,none⟩) R.length c0] 25 (0,0))):=by
    rw [<- hbtE]
    exact ⟨(Below.heap_alloc _ _ _ hw1).trans ((hc.block _ (ltS hr0) (by simpa using hbr)).trans hr0),newS w1 _,⟨by omega,⟨cs,(Below.heap_alloc _ _ _ hgb).trans hh,by rw [hcs];exact Nat.mul_le_mul_right _ hcap,hin⟩,fun p hp=>(hl p hp).1.kp (KpL.below (jZd (Below.refl _ _)))⟩,(hc0.trans hc).alloc _⟩
  obtain ⟨wt,hwt⟩:∃ wt,w1.alloc (.cells #[.slice (some ⟨g,0,none⟩) R.length c0] 25 (0,0))=wt:=⟨_,rfl⟩
  have HT:=hD (show TvS w w.heap.size w.heap.size bt rb g c0 R wt by rw [<- hwt];exact htv)
  have HR:=hD (show Rd B rb A l c (m+8000) wt by rw [<- hwt];exact hr.alloc _)
  have cb0:=jZc HT.out.box 0
  clear htv hr hr0 hc0 hc HR0 ho hl hh hin
  go_upto_region 2 with (fail)
  clear hwt
  go_wp2_with fail
  with_reducible refine (kZe _ _ HR.out (by omega)).mono ?_
  rintro e w2 ⟨⟨z,rfl,hz⟩,hr,hc⟩
  obtain ⟨z0,z1⟩:=hz (by omega)
  obtain ⟨j,rfl⟩:=Int.eq_ofNat_of_zero_le z0
  have hjl:j<R.length:=by omega
  have hjli:(j:Int)<(R.length:Int):=by omega
  replace HT:=hD (HT.out.call HR.out hc hrw hbt hbr)
  replace HR:=hD hr
  clear hr hc cb0 hz
  go_wp2_with fail
  with_reducible refine (kZe _ _ HR.out (by omega)).mono ?_
  rintro e w3 ⟨⟨y,rfl,-⟩,hr,hc⟩
  replace HT:=hD (HT.out.call HR.out hc hrw hbt hbr)
  replace HR:=hD hr
  clear hr hc
  obtain ⟨mR,hmR⟩:∃ mR,m+8002=mR:=⟨_,rfl⟩
  replace HR:=hD (show Rd B rb A l c mR w3 from hmR ▸ HR.out)
  have hmR2:mR≤20000:=by omega
  obtain ⟨p,hpj⟩:∃ p,R[j]?=some p:=⟨_,List.getElem?_eq_getElem hjl⟩
  have hgr:g≠rb:=by omega
  have hgB:B≤g:=by omega
  have hbtg:bt≠g:=by omega
  have hbrg:w.heap.size≠g:=by omega
  have hgs:=(let ⟨_,hh,_⟩:=HT.out.tk.blk;ltS hh:g<w3.heap.size)
  have hts:=ltS HT.out.box
  go_upto_block 0 with (fail)
  go_cut [4] (fun iv wx=>iv=.int .i64 (j:Int)∧∃ R':List Nr,R'.length=R.length∧TvS w w.heap.size w.heap.size bt rb g c0 R' wx∧Rd B rb A l c (mR+250) wx)
  case first =>
    by_cases y0:y=0
    · subst y0
      go_upto_region 5 with (fail)
      refine qZt (fun k=>((fun v _=>v=.pointer (some ⟨bt,0,none⟩)) :: (fun v _=>v=.slice (some ⟨g,0,none⟩) R.length c0) :: (fun v _=>v=.int .i64 (j:Int)) :: (fun v _=>v=.pointer (some ⟨rb,0,none⟩)) :: (fun v _=>v=.int .i64 (j:Int)) :: (TL B [rb] 3) :: (fun v _=>∃ z:Int,v=.int .i64 z) :: (fun v _=>v=.pointer (some ⟨g,j*34,none⟩)) :: (fun v _=>v=.pointer (some ⟨g,j*34+0,none⟩)) :: []).getD k (fun _ _=>True)) (Chg [rb]) (fun mm w=>Rd B rb A l c (mR+21*mm) w) 9 (by kernel_rfl) (by kernel_rfl) (by kernel_rfl) (fun a=>Chg.refl _ a) (fun _ _ _ h k=>h.trans k) ?hTs ?hI0 ?hops ?hfin
      case hops =>
        refine ⟨jZw [(3,none)] (by kernel_rfl) rfl ?_,?_⟩
        · intro mm act w' hm' hR hI h1
          obtain ⟨hk,hf⟩:=evkf act
          generalize act.eval=ρ at *
          have hm:mm<10:=hm'
          replace h1:ρ (.tmp 3)=.pointer (some ⟨bt,0,none⟩):=h1
          refine jZx (fun K hK=>?_)
          go_simp
          exact hK _ _ ⟨rfl,Chg.refl _ _,hI.mono (by omega)⟩
        refine ⟨jZw [(16,some 0)] (by kernel_rfl) rfl ?_,?_⟩
        · intro mm act w' hm' hR hI h1
          obtain ⟨hk,hf⟩:=evkf act
          generalize act.eval=ρ at *
          have hm:mm<10:=hm'
          replace h1:ρ (.tmp 16)=.pointer (some ⟨bt,0,none⟩):=h1
          refine jZx (fun K hK=>?_)
          have d0:=jZc ((hR.block bt (by simpa using hts) (by simpa using hbt)).trans HT.out.box) 0
          go_simp
          exact hK _ _ ⟨rfl,Chg.refl _ _,hI.mono (by omega)⟩
        refine ⟨jZw [(4,none)] (by kernel_rfl) rfl ?_,?_⟩
        · intro mm act w' hm' hR hI h1
          obtain ⟨hk,hf⟩:=evkf act
          generalize act.eval=ρ at *
          have hm:mm<10:=hm'
          replace h1:ρ (.tmp 4)=.int .i64 (j:Int):=h1
          refine jZx (fun K hK=>?_)
          go_simp
          exact hK _ _ ⟨rfl,Chg.refl _ _,hI.mono (by omega)⟩
        refine ⟨jZw [(0,none)] (by kernel_rfl) rfl ?_,?_⟩
        · intro mm act w' hm' hR hI h1
          obtain ⟨hk,hf⟩:=evkf act
          generalize act.eval=ρ at *
          have hm:mm<10:=hm'
          replace h1:ρ (.tmp 0)=.pointer (some ⟨rb,0,none⟩):=h1
          refine jZx (fun K hK=>?_)
          go_simp
          exact hK _ _ ⟨rfl,Chg.refl _ _,hI.mono (by omega)⟩
        refine ⟨jZw [(4,none)] (by kernel_rfl) rfl ?_,?_⟩
        · intro mm act w' hm' hR hI h1
          obtain ⟨hk,hf⟩:=evkf act
          generalize act.eval=ρ at *
          have hm:mm<10:=hm'
          replace h1:ρ (.tmp 4)=.int .i64 (j:Int):=h1
          refine jZx (fun K hK=>?_)
          go_simp
          exact hK _ _ ⟨rfl,Chg.refl _ _,hI.mono (by omega)⟩
        refine ⟨jZw [(20,some 4)] (by kernel_rfl) rfl ?_,?_⟩
        · intro mm act w' hm' hR hI h1
          obtain ⟨hk,hf⟩:=evkf act
          generalize act.eval=ρ at *
          have hm:mm<10:=hm'
          replace h1:ρ (.tmp 20)=.int .i64 (j:Int):=h1
          refine jZx (fun K hK=>?_)
          have hrl:=hI.lt
          go_simp
          exact hK _ _ ⟨TL.lit (by omega) (by simp;omega) (by simp) (by simp [isI]),(Chg.refl _ _).alloc _,(hI.alloc _).mono (by omega)⟩
        refine ⟨jZw [(19,some 3),(21,some 5)] (by kernel_rfl) rfl ?_,?_⟩
        · intro mm act w' hm' hR hI h1 h2
          obtain ⟨hk,hf⟩:=evkf act
          generalize act.eval=ρ at *
          have hm:mm<10:=hm'
          replace h1:ρ (.tmp 19)=.pointer (some ⟨rb,0,none⟩):=h1
          replace h2:(TL B [rb] 3) (ρ (.tmp 21)) w':=h2
          refine jZx (fun K hK=>?_)
          go_simp
          with_reducible refine (tZ1 _ hI (by omega) h2 (by omega) (by omega)).mono ?_
          rintro e w1 ⟨⟨z,rfl⟩,hr,hc⟩
          exact ⟨_,rfl,hK _ _ ⟨⟨z,rfl⟩,hc,hr.mono (by omega)⟩⟩
        refine ⟨jZw [(17,some 1),(18,some 2)] (by kernel_rfl) rfl ?_,?_⟩
        · intro mm act w' hm' hR hI h1 h2
          obtain ⟨hk,hf⟩:=evkf act
          generalize act.eval=ρ at *
          have hm:mm<10:=hm'
          replace h1:ρ (.tmp 17)=.slice (some ⟨g,0,none⟩) R.length c0:=h1
          replace h2:ρ (.tmp 18)=.int .i64 (j:Int):=h2
          refine jZx (fun K hK=>?_)
          go_simp
          exact hK _ _ ⟨rfl,Chg.refl _ _,hI.mono (by omega)⟩
        refine ⟨jZw [(23,some 7)] (by kernel_rfl) rfl ?_,?_⟩
        · intro mm act w' hm' hR hI h1
          obtain ⟨hk,hf⟩:=evkf act
          generalize act.eval=ρ at *
          have hm:mm<10:=hm'
          replace h1:ρ (.tmp 23)=.pointer (some ⟨g,j*34,none⟩):=h1
          refine jZx (fun K hK=>?_)
          go_simp
          exact hK _ _ ⟨rfl,Chg.refl _ _,hI.mono (by omega)⟩
        exact trivial
      case hTs =>
        intro k v x y hv hc
        exact rZi (by
          intro T hT
          simp only [List.mem_cons,List.not_mem_nil,or_false] at hT
          rcases hT with rfl | rfl | rfl | rfl | rfl | rfl | rfl | rfl | rfl <;> first | exact fun v a b h _=>h | exact fun v a b h hc=>TL.keep h hc)
          k v x y hv hc
      case hI0=>exact (HR.out.drew).mono (by omega)
      case hfin =>
        intro w6 hR6 hI6
        intro v16 t16 v17 t17 v18 t18 v19 t19 v20 t20 v21 t21 v22 t22 v23 t23 v24 t24
        obtain ⟨q,rfl⟩:∃ q:Int,v22=.int .i64 q:=t22
        obtain rfl:v24=.pointer (some ⟨g,j*34+0,none⟩):=t24
        clear t16 t17 t18 t19 t20 t21 t23
        simp only [List.take,finP,Act.put,List.setIfInBounds_toArray,List.set_cons_succ,List.set_cons_zero]
        replace HT:=hD (HT.out.drew.call HR.out.drew hR6 hrw hbt hbr)
        replace HR:=hD (show Rd B rb A l c (mR+21*9) w6 from hI6)
        clear hR6 hI6
        have cg:w6.cell? ⟨g,j*34,none⟩=_:=HT.out.cellAt hpj 0 _ rfl
        have fg:w6.frozen? ⟨g,j*34,none⟩=false:=HT.out.frzAt _
        refine jZn (f:=0) (i:=9) (by kernel_rfl) rfl rfl ?_
        go_simp
        refine jZq (by kernel_rfl) ?_
        go_wp2
        go_meet
        exact ⟨rfl,R.set j (⟨{ p.n with pa:=q },p.ca,p.cc,p.ra,p.rc⟩),by simp,HT.out.put (Nat.le_refl _) hbtg hbrg (.int .i64 q) hpj (show 0<34 by decide) (by kernel_rfl) rfl rfl rfl rfl rfl rfl,(HR.out.sets hgB hgr (j*34+0) [.int .i64 q]).mono (by omega)⟩
    · have n0:(y == 0)=false:=by simpa using y0
      by_cases y1:y=1
      · subst y1
        go_upto_region 7 with (fail)
        refine qZt (fun k=>((fun v _=>v=.pointer (some ⟨bt,0,none⟩)) :: (fun v _=>v=.slice (some ⟨g,0,none⟩) R.length c0) :: (fun v _=>v=.int .i64 (j:Int)) :: (fun v _=>v=.pointer (some ⟨rb,0,none⟩)) :: (TL B [rb] 2) :: (fun v _=>∃ z:Int,v=.int .i64 z) :: (fun v _=>v=.pointer (some ⟨g,j*34,none⟩)) :: (fun v _=>v=.pointer (some ⟨g,j*34+1,none⟩)) :: []).getD k (fun _ _=>True)) (Chg [rb]) (fun mm w=>Rd B rb A l c (mR+21*mm) w) 8 (by kernel_rfl) (by kernel_rfl) (by kernel_rfl) (fun a=>Chg.refl _ a) (fun _ _ _ h k=>h.trans k) ?hTs ?hI0 ?hops ?hfin
        case hops =>
          refine ⟨jZw [(3,none)] (by kernel_rfl) rfl ?_,?_⟩
          · intro mm act w' hm' hR hI h1
            obtain ⟨hk,hf⟩:=evkf act
            generalize act.eval=ρ at *
            have hm:mm<9:=hm'
            replace h1:ρ (.tmp 3)=.pointer (some ⟨bt,0,none⟩):=h1
            refine jZx (fun K hK=>?_)
            go_simp
            exact hK _ _ ⟨rfl,Chg.refl _ _,hI.mono (by omega)⟩
          refine ⟨jZw [(27,some 0)] (by kernel_rfl) rfl ?_,?_⟩
          · intro mm act w' hm' hR hI h1
            obtain ⟨hk,hf⟩:=evkf act
            generalize act.eval=ρ at *
            have hm:mm<9:=hm'
            replace h1:ρ (.tmp 27)=.pointer (some ⟨bt,0,none⟩):=h1
            refine jZx (fun K hK=>?_)
            have d0:=jZc ((hR.block bt (by simpa using hts) (by simpa using hbt)).trans HT.out.box) 0
            go_simp
            exact hK _ _ ⟨rfl,Chg.refl _ _,hI.mono (by omega)⟩
          refine ⟨jZw [(4,none)] (by kernel_rfl) rfl ?_,?_⟩
          · intro mm act w' hm' hR hI h1
            obtain ⟨hk,hf⟩:=evkf act
            generalize act.eval=ρ at *
            have hm:mm<9:=hm'
            replace h1:ρ (.tmp 4)=.int .i64 (j:Int):=h1
            refine jZx (fun K hK=>?_)
            go_simp
            exact hK _ _ ⟨rfl,Chg.refl _ _,hI.mono (by omega)⟩
          refine ⟨jZw [(0,none)] (by kernel_rfl) rfl ?_,?_⟩
          · intro mm act w' hm' hR hI h1
            obtain ⟨hk,hf⟩:=evkf act
            generalize act.eval=ρ at *
            have hm:mm<9:=hm'
            replace h1:ρ (.tmp 0)=.pointer (some ⟨rb,0,none⟩):=h1
            refine jZx (fun K hK=>?_)
            go_simp
            exact hK _ _ ⟨rfl,Chg.refl _ _,hI.mono (by omega)⟩
          refine ⟨jZw [] (by kernel_rfl) rfl ?_,?_⟩
          · intro mm act w' hm' hR hI
            obtain ⟨hk,hf⟩:=evkf act
            generalize act.eval=ρ at *
            have hm:mm<9:=hm'
            refine jZx (fun K hK=>?_)
            have hrl:=hI.lt
            go_simp
            exact hK _ _ ⟨TL.lit (by omega) (by simp;omega) (by simp) (by simp [isI]),(Chg.refl _ _).alloc _,(hI.alloc _).mono (by omega)⟩
          refine ⟨jZw [(30,some 3),(31,some 4)] (by kernel_rfl) rfl ?_,?_⟩
          · intro mm act w' hm' hR hI h1 h2
            obtain ⟨hk,hf⟩:=evkf act
            generalize act.eval=ρ at *
            have hm:mm<9:=hm'
            replace h1:ρ (.tmp 30)=.pointer (some ⟨rb,0,none⟩):=h1
            replace h2:(TL B [rb] 2) (ρ (.tmp 31)) w':=h2
            refine jZx (fun K hK=>?_)
            go_simp
            with_reducible refine (tZ1 _ hI (by omega) h2 (by omega) (by omega)).mono ?_
            rintro e w1 ⟨⟨z,rfl⟩,hr,hc⟩
            exact ⟨_,rfl,hK _ _ ⟨⟨z,rfl⟩,hc,hr.mono (by omega)⟩⟩
          refine ⟨jZw [(28,some 1),(29,some 2)] (by kernel_rfl) rfl ?_,?_⟩
          · intro mm act w' hm' hR hI h1 h2
            obtain ⟨hk,hf⟩:=evkf act
            generalize act.eval=ρ at *
            have hm:mm<9:=hm'
            replace h1:ρ (.tmp 28)=.slice (some ⟨g,0,none⟩) R.length c0:=h1
            replace h2:ρ (.tmp 29)=.int .i64 (j:Int):=h2
            refine jZx (fun K hK=>?_)
            go_simp
            exact hK _ _ ⟨rfl,Chg.refl _ _,hI.mono (by omega)⟩
          refine ⟨jZw [(33,some 6)] (by kernel_rfl) rfl ?_,?_⟩
          · intro mm act w' hm' hR hI h1
            obtain ⟨hk,hf⟩:=evkf act
            generalize act.eval=ρ at *
            have hm:mm<9:=hm'
            replace h1:ρ (.tmp 33)=.pointer (some ⟨g,j*34,none⟩):=h1
            refine jZx (fun K hK=>?_)
            go_simp
            exact hK _ _ ⟨rfl,Chg.refl _ _,hI.mono (by omega)⟩
          exact trivial
        case hTs =>
          intro k v x y hv hc
          exact rZi (by
            intro T hT
            simp only [List.mem_cons,List.not_mem_nil,or_false] at hT
            rcases hT with rfl | rfl | rfl | rfl | rfl | rfl | rfl | rfl <;> first | exact fun v a b h _=>h | exact fun v a b h hc=>TL.keep h hc)
            k v x y hv hc
        case hI0=>exact (HR.out.drew).mono (by omega)
        case hfin =>
          intro w6 hR6 hI6
          intro v27 t27 v28 t28 v29 t29 v30 t30 v31 t31 v32 t32 v33 t33 v34 t34
          obtain ⟨q,rfl⟩:∃ q:Int,v32=.int .i64 q:=t32
          obtain rfl:v34=.pointer (some ⟨g,j*34+1,none⟩):=t34
          clear t27 t28 t29 t30 t31 t33
          simp only [List.take,finP,Act.put,List.setIfInBounds_toArray,List.set_cons_succ,List.set_cons_zero]
          replace HT:=hD (HT.out.drew.call HR.out.drew hR6 hrw hbt hbr)
          replace HR:=hD (show Rd B rb A l c (mR+21*8) w6 from hI6)
          clear hR6 hI6
          have cg:w6.cell? ⟨g,j*34+1,none⟩=_:=HT.out.cellAt hpj 1 _ rfl
          have fg:w6.frozen? ⟨g,j*34+1,none⟩=false:=HT.out.frzAt _
          refine jZn (f:=0) (i:=8) (by kernel_rfl) rfl rfl ?_
          go_simp
          refine jZq (by kernel_rfl) ?_
          go_wp2
          go_meet
          exact ⟨rfl,R.set j (⟨{ p.n with ww:=q },p.ca,p.cc,p.ra,p.rc⟩),by simp,HT.out.put (Nat.le_refl _) hbtg hbrg (.int .i64 q) hpj (show 1<34 by decide) (by kernel_rfl) rfl rfl rfl rfl rfl rfl,(HR.out.sets hgB hgr (j*34+1) [.int .i64 q]).mono (by omega)⟩
      · have n1:(y == 1)=false:=by simpa using y1
        by_cases y2:y=2
        · subst y2
          go_upto_region 9 with (fail)
          refine qZt (fun k=>((fun v _=>v=.pointer (some ⟨bt,0,none⟩)) :: (fun v _=>v=.slice (some ⟨g,0,none⟩) R.length c0) :: (fun v _=>v=.int .i64 (j:Int)) :: (fun v _=>v=.pointer (some ⟨rb,0,none⟩)) :: (TL B [rb] 4) :: (fun v _=>∃ z:Int,v=.int .i64 z) :: (fun v _=>v=.pointer (some ⟨g,j*34,none⟩)) :: (fun v _=>v=.pointer (some ⟨g,j*34+4,none⟩)) :: []).getD k (fun _ _=>True)) (Chg [rb]) (fun mm w=>Rd B rb A l c (mR+21*mm) w) 8 (by kernel_rfl) (by kernel_rfl) (by kernel_rfl) (fun a=>Chg.refl _ a) (fun _ _ _ h k=>h.trans k) ?hTs ?hI0 ?hops ?hfin
          case hops =>
            refine ⟨jZw [(3,none)] (by kernel_rfl) rfl ?_,?_⟩
            · intro mm act w' hm' hR hI h1
              obtain ⟨hk,hf⟩:=evkf act
              generalize act.eval=ρ at *
              have hm:mm<9:=hm'
              replace h1:ρ (.tmp 3)=.pointer (some ⟨bt,0,none⟩):=h1
              refine jZx (fun K hK=>?_)
              go_simp
              exact hK _ _ ⟨rfl,Chg.refl _ _,hI.mono (by omega)⟩
            refine ⟨jZw [(37,some 0)] (by kernel_rfl) rfl ?_,?_⟩
            · intro mm act w' hm' hR hI h1
              obtain ⟨hk,hf⟩:=evkf act
              generalize act.eval=ρ at *
              have hm:mm<9:=hm'
              replace h1:ρ (.tmp 37)=.pointer (some ⟨bt,0,none⟩):=h1
              refine jZx (fun K hK=>?_)
              have d0:=jZc ((hR.block bt (by simpa using hts) (by simpa using hbt)).trans HT.out.box) 0
              go_simp
              exact hK _ _ ⟨rfl,Chg.refl _ _,hI.mono (by omega)⟩
            refine ⟨jZw [(4,none)] (by kernel_rfl) rfl ?_,?_⟩
            · intro mm act w' hm' hR hI h1
              obtain ⟨hk,hf⟩:=evkf act
              generalize act.eval=ρ at *
              have hm:mm<9:=hm'
              replace h1:ρ (.tmp 4)=.int .i64 (j:Int):=h1
              refine jZx (fun K hK=>?_)
              go_simp
              exact hK _ _ ⟨rfl,Chg.refl _ _,hI.mono (by omega)⟩
            refine ⟨jZw [(0,none)] (by kernel_rfl) rfl ?_,?_⟩
            · intro mm act w' hm' hR hI h1
              obtain ⟨hk,hf⟩:=evkf act
              generalize act.eval=ρ at *
              have hm:mm<9:=hm'
              replace h1:ρ (.tmp 0)=.pointer (some ⟨rb,0,none⟩):=h1
              refine jZx (fun K hK=>?_)
              go_simp
              exact hK _ _ ⟨rfl,Chg.refl _ _,hI.mono (by omega)⟩
            refine ⟨jZw [] (by kernel_rfl) rfl ?_,?_⟩
            · intro mm act w' hm' hR hI
              obtain ⟨hk,hf⟩:=evkf act
              generalize act.eval=ρ at *
              have hm:mm<9:=hm'
              refine jZx (fun K hK=>?_)
              have hrl:=hI.lt
              go_simp
              exact hK _ _ ⟨TL.lit (by omega) (by simp;omega) (by simp) (by simp [isI]),(Chg.refl _ _).alloc _,(hI.alloc _).mono (by omega)⟩
            refine ⟨jZw [(40,some 3),(41,some 4)] (by kernel_rfl) rfl ?_,?_⟩
            · intro mm act w' hm' hR hI h1 h2
              obtain ⟨hk,hf⟩:=evkf act
              generalize act.eval=ρ at *
              have hm:mm<9:=hm'
              replace h1:ρ (.tmp 40)=.pointer (some ⟨rb,0,none⟩):=h1
              replace h2:(TL B [rb] 4) (ρ (.tmp 41)) w':=h2
              refine jZx (fun K hK=>?_)
              go_simp
              with_reducible refine (tZ1 _ hI (by omega) h2 (by omega) (by omega)).mono ?_
              rintro e w1 ⟨⟨z,rfl⟩,hr,hc⟩
              exact ⟨_,rfl,hK _ _ ⟨⟨z,rfl⟩,hc,hr.mono (by omega)⟩⟩
            refine ⟨jZw [(38,some 1),(39,some 2)] (by kernel_rfl) rfl ?_,?_⟩
            · intro mm act w' hm' hR hI h1 h2
              obtain ⟨hk,hf⟩:=evkf act
              generalize act.eval=ρ at *
              have hm:mm<9:=hm'
              replace h1:ρ (.tmp 38)=.slice (some ⟨g,0,none⟩) R.length c0:=h1
              replace h2:ρ (.tmp 39)=.int .i64 (j:Int):=h2
              refine jZx (fun K hK=>?_)
              go_simp
              exact hK _ _ ⟨rfl,Chg.refl _ _,hI.mono (by omega)⟩
            refine ⟨jZw [(43,some 6)] (by kernel_rfl) rfl ?_,?_⟩
            · intro mm act w' hm' hR hI h1
              obtain ⟨hk,hf⟩:=evkf act
              generalize act.eval=ρ at *
              have hm:mm<9:=hm'
              replace h1:ρ (.tmp 43)=.pointer (some ⟨g,j*34,none⟩):=h1
              refine jZx (fun K hK=>?_)
              go_simp
              exact hK _ _ ⟨rfl,Chg.refl _ _,hI.mono (by omega)⟩
            exact trivial
          case hTs =>
            intro k v x y hv hc
            exact rZi (by
              intro T hT
              simp only [List.mem_cons,List.not_mem_nil,or_false] at hT
              rcases hT with rfl | rfl | rfl | rfl | rfl | rfl | rfl | rfl <;> first | exact fun v a b h _=>h | exact fun v a b h hc=>TL.keep h hc)
              k v x y hv hc
          case hI0=>exact (HR.out.drew).mono (by omega)
          case hfin =>
            intro w6 hR6 hI6
            intro v37 t37 v38 t38 v39 t39 v40 t40 v41 t41 v42 t42 v43 t43 v44 t44
            obtain ⟨q,rfl⟩:∃ q:Int,v42=.int .i64 q:=t42
            obtain rfl:v44=.pointer (some ⟨g,j*34+4,none⟩):=t44
            clear t37 t38 t39 t40 t41 t43
            simp only [List.take,finP,Act.put,List.setIfInBounds_toArray,List.set_cons_succ,List.set_cons_zero]
            replace HT:=hD (HT.out.drew.call HR.out.drew hR6 hrw hbt hbr)
            replace HR:=hD (show Rd B rb A l c (mR+21*8) w6 from hI6)
            clear hR6 hI6
            have cg:w6.cell? ⟨g,j*34+4,none⟩=_:=HT.out.cellAt hpj 4 _ rfl
            have fg:w6.frozen? ⟨g,j*34+4,none⟩=false:=HT.out.frzAt _
            refine jZn (f:=0) (i:=8) (by kernel_rfl) rfl rfl ?_
            go_simp
            refine jZq (by kernel_rfl) ?_
            go_wp2
            go_meet
            exact ⟨rfl,R.set j (⟨{ p.n with ki:=q },p.ca,p.cc,p.ra,p.rc⟩),by simp,HT.out.put (Nat.le_refl _) hbtg hbrg (.int .i64 q) hpj (show 4<34 by decide) (by kernel_rfl) rfl rfl rfl rfl rfl rfl,(HR.out.sets hgB hgr (j*34+4) [.int .i64 q]).mono (by omega)⟩
        · have n2:(y == 2)=false:=by simpa using y2
          by_cases y3:y=3
          · subst y3
            go_upto_region 11 with (fail)
            have cb0:=jZc HT.out.box 0
            have cg:=HT.out.cellAt hpj 7 _ rfl
            have fg:=HT.out.frzAt (j*34+7)
            go_wp2
            go_meet
            exact ⟨rfl,R.set j (⟨{ p.n with pk:={ p.n.pk with w:=1 } },p.ca,p.cc,p.ra,p.rc⟩),by simp,HT.out.put (Nat.le_refl _) hbtg hbrg (.int .i64 1) hpj (by decide) (by kernel_rfl) rfl rfl rfl rfl rfl rfl,(HR.out.sets hgB hgr (j*34+7) [.int .i64 1]).mono (by omega)⟩
          · have n3:(y == 3)=false:=by simpa using y3
            go_wp2
            go_meet
            exact ⟨rfl,R,rfl,HT.out,HR.out.mono (by omega)⟩
  case rest =>
  obtain ⟨hiv,R',hl',ht,hr⟩:=hcut
  subst hiv
  have cb0:=jZc ht.box 0
  have cr0:=jZc ht.res 0
  have cf0:=jZm ht.res 0
  go_wp2
  refine vZc (fun W=>TK W w.heap.size g R'∧Rd B rb A l c (m+9000) W∧Chg [rb] w W∧W.heap[w.heap.size]?=some (.cells #[.slice (some ⟨g,0,none⟩) R.length c0] 25 (0,0))) ⟨ht.tk.res ht.res hbrg _,(hr.setCell (p:=⟨w.heap.size,0,none⟩) (by show B≤w.heap.size;omega) hbr _).mono (by omega),ht.chg.setCell (p:=⟨w.heap.size,0,none⟩) (.inr (Nat.le_refl _)) _,putS ht.res _⟩ ?_
  clear ht hr cb0 cr0 cf0 HT HR
  rintro W ⟨h1,h2,h3,hz⟩
  have z0:=jZc hz 0
  exact bodyPost_ret (v:=.agg #[.slice (some ⟨g,0,none⟩) R.length c0]) (by simp only [results,Tryz.results67];go_simp) rfl ⟨⟨g,c0,R',by rw [hl'],h1,by omega,by omega,by omega⟩,h2,h3⟩
end
section
attribute [local go_sem] jZ0 jZ5 jZ2
end
theorem TK.rdr {W:World} {lo g:Nat} {R:List Nr} (h:TK W lo g R):RdR W R:=fun p hp=>(h.ns p hp).rd
theorem TK.mx {W:World} {lo g:Nat} {R:List Nr} (h:TK W lo g R):∀ p∈R,p.n.cs.length≤1048576∧p.n.rs.length≤1048576:=fun p hp=>by
 have:=(h.ns p hp).c5
 have:=(h.ns p hp).r5
 omega
theorem TK.cellAt {W:World} {lo g j:Nat} {R:List Nr} {p:Nr} (h:TK W lo g R) (hp:R[j]?=some p) (o:Nat) (v:Value) (hv:(jZj p)[o]?=some v):W.cell? ⟨g,j*34+o,none⟩=some v:=by
 obtain ⟨cs,hh,_,hin⟩:=h.blk;exact (jZc hh _).trans (hin j p hp o v hv)


theorem kZ7 {P:Program} {f:FuncId} {fn:Func} {c:Code} {args:Array Value} {w:World} {R:Ending→World→Prop} (hf:P.funcs[f]?=some fn) (hb:fn.body=some c) (N:Nat) (hN:fn.ntmps=N) (hle:args.size≤N)
  (h:∀ tm:Array Value,tm.size=N→(∀ i v,args[i]?=some v→tm.getD i undef=v)→c.wp P (bodyPost P fn R) ⟨tm,[]⟩ w):Calls P f args w R:=by
 refine calls_of_wp hf hb (h _ ?_ ?_)
 ·simp [hN];omega
 ·intro i v hi;have hlt:=(gE hi).1;rw [Array.getD_eq_getD_getElem?,Array.getElem?_append_left hlt,hi]
  rfl
theorem pZl {tm:Array Value} {i:Nat} {v d:Value} (h:i<tm.size) (e:tm.getD i d=v):tm[i]?=some v:=by
 rw [Array.getD_eq_getD_getElem?,Array.getElem?_eq_getElem h] at e;rw [Array.getElem?_eq_getElem h];simpa using e
theorem jZe {P:Program} {Q:Exit→Act→World→Prop} {a:Act} {w:World} {x y:Code} (h:∀ K:Act→World→Prop,Hid (∀ a w,y.wp P Q a w→K a w)→x.wp P (Exit.then K Q) a w):(Code.seq x y).wp P Q a w:=wp_seq_k fun K hK=>h K (hD hK)
theorem jZy {P:Program} {Q:Exit→Act→World→Prop} {tm:Array Value} {w:World} {c:Code} (F:Array Value→World→Prop) (hF:F tm w) (h:∀ t W,F t W→c.wp P Q ⟨t,[]⟩ W):c.wp P Q ⟨tm,[]⟩ w:=h tm w hF
end Go.Proofs.YtfnpdlnepjhljaaGreat
