import Derived.Test.YtfnpdlnepjhljaaGreatRows
import Derived.WalkKit
import Derived.ProofKit
import Derived.OpenShut
import Derived.ShutString
import Derived.ChangeOld
import Derived.Below
import Derived.Lib.SmallJoins
import Derived.Orders
import Derived.Deep.Draws
import Derived.Laws.OwnMore
import Derived.Lib.Hide
import Derived.Outline
import Derived.RegionTactic
import Derived.Deep.QuietTactic
import Derived.BigQuiet
import Derived.IntWalk
import Derived.Deep.Cut
import Derived.Laws.Bits64
import Derived.RowKit
set_option linter.unusedVariables false
set_option linter.unusedSimpArgs false
set_option maxRecDepth 100000
set_option maxHeartbeats 16000000
namespace Go.Proofs.YtfnpdlnepjhljaaGreat
open Go.RowKit
theorem gE {α : Type _} {xs : Array α} {i : Nat} {b : α} (h : xs[i]? = some b) : ∃ h : i < xs.size, xs[i] = b := Array.getElem?_eq_some_iff.1 h
theorem hD {p : Prop} (h : p) : Go.RowKit.Hid p := h
theorem evk (act : Act) : ∀ v, act.eval (.const v) = v := fun _ => rfl
theorem evkf (act : Act) : (∀ v, act.eval (.const v) = v) ∧ ∀ f, act.eval (.func f) = .func (.func f) #[] #[] := ⟨fun _ => rfl, fun _ => rfl⟩
theorem hbk {g : Nat} {w w' : World} {o : Obj} (hb : Below w.heap.size w w') (h : Go.RowKit.Hid (w.heap[g]? = some o)) : Go.RowKit.Hid (w'.heap[g]? = some o) := (hb.block _ (gE h).1).trans h
theorem evf (act : Act) : ∀ f, act.eval (.func f) = .func (.func f) #[] #[] := fun _ => rfl
section
open Go.ChangeShapes Go.WideShapes Go.ChangeAt Go.RowKit
theorem own:ownKnob Tryz.prog.godebug=none:=by kernel_rfl
theorem laidOut:laidOutB Tryz.prog=true:=by kernel_rfl
def IsRow (k:IntKind) (w:World) (a:Option Addr) (len cap:Nat) (zs:List Int):Prop :=
 (a=none∧len=0∧cap=0∧zs=[]) ∨
 ∃ x,a=some x∧len≤cap∧cap≤maxLen∧zs.length=cap∧(∀ i,i<zs.length→w.cell? (x.add i)=some (.int k (zs.getD i 0)))∧∀ n∈zs,(Lit.int k n).wf=true
end
section
section
variable {P:Program}
def kZx (P:Program) (K:Value→World→Prop):Result Next→Prop
  | .ok (.value v) w'=>K v w'
  | .ok .skip w'=>K undef w'
  | .ok (.enter f args) w'=>Calls P f args w' fun e w''=>∃ v,e=.returned v∧K v w''
  | _=>False
theorem jZ0 (K:Value→World→Prop) (v:Value) (w:World):kZx P K (.ok (.value v) w)=K v w:=rfl
theorem jZ5 (K:Value→World→Prop) (w:World):kZx P K (.ok .skip w)=K undef w:=rfl
theorem jZ2 (K:Value→World→Prop) (f:FuncId) (args:Array Value) (w:World):kZx P K (.ok (.enter f args) w)=Calls P f args w fun e w''=>∃ v,e=.returned v∧K v w'':=rfl
def pZy (t:Tmp):List Oper→Nat→Option Nat
  | [],_=>none
  | o :: r,k=>if o.dst=some t then some k else pZy t r (k+1)
theorem rZr {t:Tmp}:∀ {l:List Oper} {k:Nat},pZy t l k=none→∀ o∈l,o.dst≠some t
  | [],_,_,_,h=>by cases h
  | x :: r,k,h,o,ho=>by
    unfold pZy at h
    split at h
    · cases h
    · rename_i hne
      rcases List.mem_cons.1 ho with rfl | ho
      · exact hne
      · exact rZr h o ho
theorem sZp {t:Tmp}:∀ {l:List Oper} {k j:Nat},pZy t l k=some j→k≤j∧∃ o,l[j-k]?=some o∧o.dst=some t
  | [],_,_,h=>by cases h
  | x :: r,k,j,h=>by
    unfold pZy at h
    split at h
    · rename_i he
      injection h with h
      subst h
      exact ⟨Nat.le_refl _,x,by simp,he⟩
    · obtain ⟨h1,o,h2,h3⟩:=sZp h
      refine ⟨by omega,o,?_,h3⟩
      rw [show j-k=(j-(k+1))+1 from by omega]
      simpa using h2
def tv (a:Act) (t:Tmp):Value:=a.tmps.getD t undef
def look (ops:List Oper) (T:Nat→Value→World→Prop) (a0 a:Act) (w:World):List Tmp→Prop→Prop
  | [],G=>G
  | t :: r,G=>(match pZy t ops 0 with | some j=>T j (tv a t) w | none=>tv a t=tv a0 t)→look ops T a0 a w r G
def opOK (P:Program) (ops:List Oper) (T:Nat→Value→World→Prop) (R:World→World→Prop) (I:Nat→World→Prop) (a0:Act) (w0:World) (k:Nat) (o:Oper):Prop :=
  ∀ (m:Nat) (a:Act) (w:World),m<ops.length→R w0 w→I m w →
    look ops T a0 a w (o.looksAt ops.toArray)
      (match o.guard with
       | none=>kZx P (fun v w'=>T k v w'∧R w w'∧I (m+1) w') ((execOp a.eval o).run P w)
       | some _=>(Region.wanted o (yielded ops.toArray a.tmps)=true→kZx P (fun v w'=>T k v w'∧R w w'∧I (m+1) w') ((execOp a.eval o).run P w)) ∧
          (Region.wanted o (yielded ops.toArray a.tmps)=false→T k undef w∧I (m+1) w))
def cZf (P:Program) (ops:List Oper) (T:Nat→Value→World→Prop) (R:World→World→Prop) (I:Nat→World→Prop) (a0:Act) (w0:World):List Oper→Nat→Prop
  | [],_=>True
  | o :: r,k=>opOK P ops T R I a0 w0 k o∧cZf P ops T R I a0 w0 r (k+1)
def finP (T:Nat→Value→World→Prop) (w:World) (F:Act→Prop):List Oper→Nat→Act→Prop
  | [],_,a=>F a
  | o :: r,k,a=>match o.dst with
    | none=>finP T w F r (k+1) a
    | some d=>∀ v,T k v w→finP T w F r (k+1) (a.put (some d) v)
def rgB (l:List Oper) (size:Nat):Bool :=
  Region.noSelect l.toArray &&
  ((List.range l.length).all fun i=>match l[i]? with
    | none=>true
    | some o=>(o.after.toList.all fun e=>decide (e.on<i)) &&
      (o.dst.all fun d=>decide (d<size)&&pZy d l 0 == some i) &&
      ((o.looksAt l.toArray).all fun t=>match pZy t l 0 with
        | none=>true
        | some j=>o.after.toList.any fun e=>e.on == j&&Region.binds .any e))
def cntF (f:Nat→Bool):Nat→Nat
  | 0=>0
  | n+1=>cntF f n+(if f n then 0 else 1)
theorem uZz {f:Nat→Bool}:∀ {n:Nat},cntF f n=0→∀ i,i<n→f i=true
  | 0,_,i,hi=>by omega
  | n+1,h,i,hi=>by
    simp only [cntF] at h
    by_cases e:i=n
    · subst e;by_cases hf:f i=true
      · exact hf
      · simp [hf] at h
    · exact uZz (n:=n) (by omega) i (by omega)
theorem sZ6 {f g:Nat→Bool}:∀ {n:Nat},(∀ i,i<n→f i=g i)→cntF f n=cntF g n
  | 0,_=>rfl
  | n+1,h=>by simp only [cntF];rw [sZ6 fun i hi=>h i (by omega),h n (by omega)]
theorem uZa {f g:Nat→Bool} {i:Nat} (hf:f i=false) (hg:g i=true) (h:∀ j,j≠i→g j=f j):∀ {n:Nat},i<n→cntF f n=cntF g n+1
  | 0,hi=>by omega
  | n+1,hi=>by
    simp only [cntF]
    by_cases e:i=n
    · subst e
      rw [sZ6 (f:=f) (g:=g) fun j hj=>(h j (by omega)).symm]
      simp [hf,hg]
    · rw [uZa hf hg h (n:=n) (by omega),h n (by omega)];omega
def vof (a:Act):Option Tmp→Value
  | none=>undef
  | some d=>tv a d
def RJ (l:List Oper) (T:Nat→Value→World→Prop) (R:World→World→Prop) (I:Nat→World→Prop) (a0:Act) (w0:World) (m:Nat) (listed:Array Bool) (a:Act) (w:World):Prop :=
  R w0 w∧I m w∧a.defers=a0.defers∧a.tmps.size=a0.tmps.size ∧
  (∀ t,(∀ j o,l[j]?=some o→listed.getD j false=true→o.dst≠some t)→a.tmps[t]?=a0.tmps[t]?) ∧
  (∀ j o,l[j]?=some o→listed.getD j false=true→o.dst≠none→T j (vof a o.dst) w)
theorem dZ4 {ops:List Oper} {T:Nat→Value→World→Prop} {a0 a:Act} {w:World} {G:Prop}:∀ {ts:List Tmp},(∀ t∈ts,match pZy t ops 0 with | some j=>T j (tv a t) w | none=>tv a t=tv a0 t)→look ops T a0 a w ts G→G
  | [],_,h=>h
  | t :: r,hts,h=>dZ4 (fun x hx=>hts x (List.mem_cons_of_mem _ hx)) (h (hts t List.mem_cons_self))
theorem bZi {ops:List Oper} {T:Nat→Value→World→Prop} {R:World→World→Prop} {I:Nat→World→Prop} {a0:Act} {w0:World}:∀ {l:List Oper} {k:Nat},cZf P ops T R I a0 w0 l k→∀ {i:Nat} {o:Oper},l[i]?=some o→opOK P ops T R I a0 w0 (k+i) o
  | [],_,_,i,o,h=>by simp at h
  | x :: r,k,h,0,o,ho=>by
    obtain rfl:x=o:=by simpa using ho
    exact h.1
  | x :: r,k,h,i+1,o,ho=>by
    have:=bZi (k:=k+1) h.2 (i:=i) (o:=o) (by simpa using ho)
    rwa [show k+(i+1)=k+1+i from by omega]
theorem tZc (a:Act) (d:Option Tmp) (v:Value):(a.put d v).tmps.size=a.tmps.size:=by cases d <;> simp [Act.put]
theorem rZq (a:Act) (d:Option Tmp) (v:Value):(a.put d v).defers=a.defers:=by cases d <;> rfl
theorem uZp (a:Act) (d:Option Tmp) (v:Value) {t:Nat} (h:d≠some t):(a.put d v).tmps[t]?=a.tmps[t]?:=by
  cases d with
  | none=>rfl
  | some d=>exact Array.getElem?_setIfInBounds_ne (fun e=>h (by rw [e]))
theorem uZi (a:Act) (d:Tmp) (v:Value) (h:d<a.tmps.size):(a.put (some d) v).tmps[d]?=some v:=by
  simp [Act.put,h]
theorem fZk {a b:Act} {t:Tmp} (h:a.tmps[t]?=b.tmps[t]?):tv a t=tv b t:=by
  unfold tv;rw [Array.getD_eq_getD_getElem?,Array.getD_eq_getD_getElem?,h]
theorem bZ1 {T:Nat→Value→World→Prop} {w:World} {F:Act→Prop} {a':Act}:∀ {l:List Oper} {k:Nat} {b:Act},b.defers=a'.defers→b.tmps.size=a'.tmps.size →
    (∀ t,(∀ o∈l,o.dst≠some t)→b.tmps[t]?=a'.tmps[t]?)→(∀ j o,l[j]?=some o→o.dst≠none→T (k+j) (vof a' o.dst) w)→finP T w F l k b→F a'
  | [],k,b,hd,hs,hb,hT,h=>by
    have e:b=a':=by
      obtain ⟨bt,bd⟩:=b
      obtain ⟨at',ad⟩:=a'
      simp only at hd hs hb
      subst hd
      congr 1
      exact Array.ext_getElem? fun t=>hb t (by simp)
    rw [<- e];exact h
  | o :: r,k,b,hd,hs,hb,hT,h=>by
    unfold finP at h
    cases ho:o.dst with
    | none =>
      rw [ho] at h
      refine bZ1 hd hs (fun t ht=>hb t (fun x hx=>?_)) (fun j x hx hn=>?_) h
      · rcases List.mem_cons.1 hx with rfl | hx
        · rw [ho];simp
        · exact ht x hx
      · have:=hT (j+1) x (by simpa using hx) hn
        rwa [show k+(j+1)=k+1+j from by omega] at this
    | some d =>
      rw [ho] at h
      have h0:=hT 0 o (by simp) (by rw [ho];simp)
      rw [ho] at h0
      have h1:=h (vof a' (some d)) h0
      refine bZ1 (by rw [rZq];exact hd) (by rw [tZc];exact hs) (fun t ht=>?_) (fun j x hx hn=>?_) h1
      · by_cases e:d=t
        · subst e
          rcases Nat.lt_or_ge d b.tmps.size with hlt | hge
          · rw [uZi _ _ _ hlt]
            simp only [vof,tv]
            rw [Array.getD_eq_getD_getElem?,Array.getElem?_eq_getElem (by omega)]
            rfl
          · rw [Array.getElem?_eq_none (by rw [tZc];omega),Array.getElem?_eq_none (by omega)]
        · rw [uZp _ _ _ (by simpa using e)]
          refine hb t fun x hx=>?_
          rcases List.mem_cons.1 hx with rfl | hx
          · rw [ho];simpa using e
          · exact ht x hx
      · have:=hT (j+1) x (by simpa using hx) hn
        rwa [show k+(j+1)=k+1+j from by omega] at this
theorem qZ3 {o:Oper} {a:Act} {w:World} {K:Value→World→Prop} {N:Act→World→Prop} {Q:Exit→Act→World→Prop} (h:kZx P K ((execOp a.eval o).run P w)) (hN:∀ v w',K v w'→N (a.put o.dst v) w'):o.wp P a w N Q:=by
  unfold Oper.wp
  generalize (execOp a.eval o).run P w=r at *
  cases r with
  | ok n w' =>
    cases n <;> simp only [kZx] at h <;> simp only [Oper.upon]
    case value u=>exact hN _ _ h
    case skip=>exact hN _ _ h
    case enter f args=>exact h.mono fun e w'' ⟨v,he,hk⟩=>by subst he;exact hN _ _ hk
  | halt x w'=>simp only [kZx] at h
theorem gZp {id:Nat} {l:List Oper} {Q:Exit→Act→World→Prop} {a0:Act} {w:World} (T:Nat→Value→World→Prop) (R:World→World→Prop) (I:Nat→World→Prop)
    (hm:P.follows .mixedOrders=true) (hB:rgB l a0.tmps.size=true) (hRr:∀ a,R a a) (hRt:∀ a b c,R a b→R b c→R a c) (hTs:∀ k v a b,T k v a→R a b→T k v b) (hI0:I 0 w.drew)
    (hops:cZf P l T R I a0 w.drew l 0) (hfin:∀ w',R w.drew w'→I l.length w'→finP T w' (fun a'=>Q .normal a' w') l 0 a0):(Code.region id l.toArray true).wp P Q a0 w:=by
  simp only [rgB,Bool.and_eq_true] at hB
  obtain ⟨hns,hB⟩:=hB
  have hB':∀ (i:Nat) (o:Oper),l[i]?=some o→(∀ e∈o.after,e.on<i)∧(∀ d,o.dst=some d→d<a0.tmps.size∧pZy d l 0=some i)∧(∀ t∈o.looksAt l.toArray,∀ j,pZy t l 0=some j→∃ e∈o.after,e.on=j∧Region.binds .any e=true):=by
    intro i o ho
    have hlt:=(List.getElem?_eq_some_iff.1 ho).1
    have h1:=List.all_eq_true.1 hB i (List.mem_range.2 hlt)
    simp only [ho,Bool.and_eq_true] at h1
    obtain ⟨⟨h1,h2⟩,h3⟩:=h1
    refine ⟨fun e he=>by have:=List.all_eq_true.1 h1 e (by simpa using he);simpa using this,fun d hd=>?_,fun t ht j hj=>?_⟩
    · rw [hd] at h2
      simp only [Option.all_some,Bool.and_eq_true,decide_eq_true_eq,beq_iff_eq] at h2
      exact h2
    · have h4:=List.all_eq_true.1 h3 t ht
      rw [hj] at h4
      obtain ⟨e,he,h5⟩:=List.any_eq_true.1 h4
      simp only [Bool.and_eq_true,beq_iff_eq] at h5
      exact ⟨e,by simpa using he,h5⟩
  have hdist:∀ (i:Nat) (o:Oper) (j:Nat) (p:Oper),l[i]?=some o→l[j]?=some p→i≠j→∀ d,o.dst=some d→p.dst≠some d:=by
    intro i o j p ho hp hij d hd hpd
    have h1:=((hB' i o ho).2.1 d hd).2
    rw [((hB' j p hp).2.1 d hpd).2] at h1
    injection h1 with h1
    exact hij h1.symm
  have main:∀ (fuel m:Nat) (listed:Array Bool) (a:Act) (w':World),cntF (fun i=>listed.getD i true) l.length=fuel→listed.size=l.length→fuel+m=l.length→RJ l T R I a0 w.drew m listed a w' →
      wpAny P .any l.toArray Q fuel listed a w':=by
    intro fuel
    have hdone:∀ (m:Nat) (listed:Array Bool) (a:Act) (w':World),m=l.length→(∀ i,i<l.length→listed.getD i false=true)→RJ l T R I a0 w.drew m listed a w'→Q .normal a w':=by
      rintro m listed a w' rfl hall ⟨hR,hI,hd,hs,ht,hT⟩
      refine bZ1 (T:=T) (w:=w') (F:=fun a'=>Q .normal a' w') (l:=l) (k:=0) (b:=a0) hd.symm hs.symm (fun t h=>?_) (fun j o ho hn=>?_) (hfin w' hR hI)
      · exact (ht t fun j o ho _=>h o (List.mem_of_getElem? ho)).symm
      · rw [Nat.zero_add];exact hT j o ho (hall j (List.getElem?_eq_some_iff.1 ho).1) hn
    have hnil:∀ (listed:Array Bool),listed.size=l.length→Region.ready .any l.toArray listed=[]→∀ i,i<l.length→listed.getD i false=true:=by
      intro listed hls hr i
      induction i using Nat.strongRecOn with
      | ind i ih =>
        intro hi
        by_cases hl:listed.getD i false=true
        · exact hl
        · exfalso
          have ho:l[i]?=some l[i]:=List.getElem?_eq_getElem hi
          have hmem:i∈Region.ready .any l.toArray listed:=mem_ready.2 ⟨by
            rw [Array.getD_eq_getD_getElem?,Array.getElem?_eq_getElem (by omega)] at *
            simp only [Option.getD_some,Bool.not_eq_true] at *
            exact hl,l[i],by simp,fun e he _=>ih e.on ((hB' i _ ho).1 e he) (by have:=(hB' i _ ho).1 e he;omega)⟩
          rw [hr] at hmem
          cases hmem
    induction fuel with
    | zero =>
      intro m listed a w' hc hls hm' hJ
      have hall:∀ i,i<l.length→listed.getD i false=true:=fun i hi=>by
        have:=uZz hc i hi
        rw [Array.getD_eq_getD_getElem?,Array.getElem?_eq_getElem (by omega)] at *
        simpa using this
      refine ⟨?_,hdone m listed a w' (by omega) hall hJ⟩
      cases hr:Region.ready .any l.toArray listed with
      | nil=>rfl
      | cons x xs =>
        exfalso
        obtain ⟨h0,o,ho,_⟩:=mem_ready.1 (show x∈Region.ready .any l.toArray listed by rw [hr];exact List.mem_cons_self)
        have hlt:x<l.length:=by have:=(gE ho).1;simpa using this
        have:=hall x hlt
        rw [Array.getD_eq_getD_getElem?,Array.getElem?_eq_getElem (by omega)] at *
        simp at h0 this
        rw [h0] at this
        cases this
    | succ fuel ih =>
      intro m listed a w' hc hls hm' hJ
      refine ⟨fun hr=>?_,fun i hi=>?_⟩
      · exfalso
        have hall:=hnil listed hls hr
        have:cntF (fun i=>listed.getD i true) l.length=0:=by
          rw [sZ6 (g:=fun _=>true) (fun i hi=>by
            have:=hall i hi
            rw [Array.getD_eq_getD_getElem?,Array.getElem?_eq_getElem (by omega)] at *
            simpa using this)]
          clear hc hm' hls
          induction l.length with
          | zero=>rfl
          | succ n ihn=>simp [cntF,ihn]
        omega
      · obtain ⟨h0,o,ho',hall⟩:=mem_ready.1 hi
        have ho:l[i]?=some o:=by simpa using ho'
        have hlt:i<l.length:=(List.getElem?_eq_some_iff.1 ho).1
        obtain ⟨hR,hI,hd,hs,ht,hT⟩:=hJ
        obtain ⟨b1,b2,b3⟩:=hB' i o ho
        have hlook:∀ t∈o.looksAt l.toArray,match pZy t l 0 with | some j=>T j (tv a t) w' | none=>tv a t=tv a0 t:=by
          intro t htm
          cases hj:pZy t l 0 with
          | none =>
            refine fZk (ht t fun j p hp _=>rZr hj p (List.mem_of_getElem? hp))
          | some j =>
            obtain ⟨e,he,rfl,hb⟩:=b3 t htm j hj
            obtain ⟨_,p,hp,hpd⟩:=sZp hj
            have:=hT e.on p (by simpa using hp) (hall e he hb) (by rw [hpd];simp)
            rw [hpd] at this
            exact this
        have hop:=dZ4 hlook (bZi hops ho m a w' (by omega) hR hI)
        rw [Nat.zero_add] at hop
        have hget:∀ d,(listed.setIfInBounds i true).getD i d=true:=fun d=>by
          rw [Array.getD_eq_getD_getElem?,Array.getElem?_setIfInBounds_self_of_lt (by omega)];rfl
        have next:∀ v w1,T i v w1→R w' w1→I (m+1) w1→wpAny P .any l.toArray Q fuel (listed.setIfInBounds i true) (a.put o.dst v) w1:=by
          intro v w1 hTv hR1 hI1
          refine ih (m+1) _ _ _ ?_ (by simpa using hls) (by omega) ⟨hRt _ _ _ hR hR1,hI1,(rZq _ _ _).trans hd,(tZc _ _ _).trans hs,fun t h=>?_,fun j p hp hl hn=>?_⟩
          · have:=uZa (f:=fun i=>listed.getD i true) (g:=fun j=>(listed.setIfInBounds i true).getD j true) (i:=i) h0 (hget true) (fun j hj=>getD_set_ne true (Ne.symm hj)) hlt
            omega
          · have hne:o.dst≠some t:=h i o ho (hget false)
            rw [uZp _ _ _ hne]
            exact ht t fun j p hp hl=>h j p hp (getD_set_true hl)
          · by_cases e:i=j
            · subst e
              rw [ho] at hp
              obtain rfl:=Option.some.inj hp
              cases hod:o.dst with
              | none=>exact absurd hod hn
              | some d =>
                have:tv (a.put (some d) v) d=v:=by
                  unfold tv
                  rw [Array.getD_eq_getD_getElem?,uZi _ _ _ (by rw [hs];exact (b2 d hod).1)]
                  rfl
                simp only [vof]
                rw [this]
                exact hTv
            · rw [getD_set_ne false e] at hl
              have h2:=hTs j _ w' w1 (hT j p hp hl hn) hR1
              cases hpd:p.dst with
              | none=>exact absurd hpd hn
              | some d =>
                rw [hpd] at h2
                simp only [vof] at h2 ⊢
                rw [show tv (a.put o.dst v) d=tv a d from fZk (uZp _ _ _ (fun hod=>hdist i o j p ho hp e d hod hpd))]
                exact h2
        unfold wpOp
        simp only [ho']
        cases hg:o.guard with
        | none =>
          rw [hg] at hop
          rw [if_pos (by simp [Region.wanted,hg])]
          exact .inl (qZ3 hop fun v w1 ⟨h1,h2,h3⟩=>next v w1 h1 h2 h3)
        | some g =>
          rw [hg] at hop
          obtain ⟨g1,g2⟩:=hop
          split
          · rename_i hw
            exact .inl (qZ3 (g1 hw) fun v w1 ⟨h1,h2,h3⟩=>next v w1 h1 h2 h3)
          · rename_i hw
            obtain ⟨h1,h2⟩:=g2 (by simpa using hw)
            exact next undef w' h1 (hRr _) h2
  refine wp_region_any hm ?_
  refine main l.toArray.size 0 _ a0 w.drew ?_ (by simp) (by simp) ⟨hRr _,hI0,rfl,rfl,fun t _=>rfl,fun j o ho hl=>?_⟩
  · have:∀ n,n≤l.length→cntF (fun i=>(Array.replicate l.toArray.size false).getD i true) n=n:=by
      intro n
      induction n with
      | zero=>intro _;rfl
      | succ n ihn =>
        intro hn
        simp only [cntF]
        rw [ihn (by omega)]
        have:(Array.replicate l.toArray.size false).getD n true=false:=by
          rw [Array.getD_eq_getD_getElem?,Array.getElem?_replicate,if_pos (by simp;omega)];rfl
        rw [if_neg (by rw [this];decide)]
    simpa using this l.length (Nat.le_refl _)
  · exfalso
    rw [Array.getD_eq_getD_getElem?,Array.getElem?_replicate] at hl
    split at hl <;> simp at hl
def eZj (T:Nat→Value→World→Prop) (a0 a:Act) (w:World):List (Tmp × Option Nat)→Prop→Prop
  | [],G=>G
  | (t,some j) :: r,G=>T j (a.eval (.tmp t)) w→eZj T a0 a w r G
  | (t,none) :: r,G=>a.eval (.tmp t)=a0.eval (.tmp t)→eZj T a0 a w r G
def dsB (ops:List Oper) (o:Oper) (ds:List (Tmp × Option Nat)):Bool:=(o.looksAt ops.toArray == ds.map (·.1))&&ds.all fun p=>pZy p.1 ops 0 == p.2
theorem hZr {ops:List Oper} {T:Nat→Value→World→Prop} {a0 a:Act} {w:World} {G:Prop}:∀ {ds:List (Tmp × Option Nat)},(∀ p∈ds,pZy p.1 ops 0=p.2)→eZj T a0 a w ds G→look ops T a0 a w (ds.map (·.1)) G
  | [],_,h=>h
  | (t,some j) :: r,hd,h=>by
    have e:=hd _ List.mem_cons_self
    simp only at e
    unfold eZj at h
    simp only [List.map_cons,look,e]
    exact fun x=>hZr (fun p hp=>hd p (List.mem_cons_of_mem _ hp)) (h x)
  | (t,none) :: r,hd,h=>by
    have e:=hd _ List.mem_cons_self
    simp only at e
    unfold eZj at h
    simp only [List.map_cons,look,e]
    exact fun x=>hZr (fun p hp=>hd p (List.mem_cons_of_mem _ hp)) (h x)
theorem jZw {ops:List Oper} {T:Nat→Value→World→Prop} {R:World→World→Prop} {I:Nat→World→Prop} {a0:Act} {w0:World} {k:Nat} {o:Oper} (ds:List (Tmp × Option Nat)) (hB:dsB ops o ds=true) (hg:o.guard=none)
    (h:∀ (m:Nat) (a:Act) (w:World),m<ops.length→R w0 w→I m w→eZj T a0 a w ds (kZx P (fun v w'=>T k v w'∧R w w'∧I (m+1) w') ((execOp a.eval o).run P w))):opOK P ops T R I a0 w0 k o:=by
  intro m a w hm hR hI
  simp only [dsB,Bool.and_eq_true,beq_iff_eq] at hB
  obtain ⟨h1,h2⟩:=hB
  rw [h1]
  refine hZr (fun p hp=>by have:=List.all_eq_true.1 h2 p hp;simpa using this) ?_
  have:=h m a w hm hR hI
  rw [hg]
  exact this
theorem dZy {id:Nat} {l:List Oper} {Q:Exit→Act→World→Prop} {a0:Act} {w:World} (T:Nat→Value→World→Prop) (R:World→World→Prop) (I:Nat→World→Prop)
    (hm:P.follows .mixedOrders=true) (hB:rgB l a0.tmps.size=true) (hRr:∀ a,R a a) (hRt:∀ a b c,R a b→R b c→R a c) (hTs:∀ k v a b,T k v a→R a b→T k v b) (hI0:I 0 w.drew)
    (hops:cZf P l T R I a0 w.drew l 0) (hfin:∀ w',R w.drew w'→I l.length w'→finP T w' (fun a'=>Q .normal a' w') l 0 a0):(Code.region id l.toArray true).wp P Q a0 w:=gZp T R I hm hB hRr hRt hTs hI0 hops hfin
end
end
section
structure Chg (S:List Nat) (w w':World):Prop where
 os:w'.os=w.os
 tape:w'.tape=w.tape
 output:w'.output=w.output
 size:w.heap.size≤w'.heap.size
 block:∀ k,k<w.heap.size→k ∉ S→w'.heap[k]?=w.heap[k]?
theorem Chg.refl (S:List Nat) (w:World):Chg S w w:=⟨rfl,rfl,rfl,Nat.le_refl _,fun _ _ _=>rfl⟩
theorem Chg.trans {S:List Nat} {a b c:World} (h:Chg S a b) (k:Chg S b c):Chg S a c :=
 ⟨k.os.trans h.os,k.tape.trans h.tape,k.output.trans h.output,Nat.le_trans h.size k.size,fun i hi hs=>(k.block i (Nat.lt_of_lt_of_le hi h.size) hs).trans (h.block i hi hs)⟩
theorem Chg.mono {S S':List Nat} {w w':World} (h:Chg S w w') (hs:∀ x∈S,x∈S'):Chg S' w w':=⟨h.os,h.tape,h.output,h.size,fun k hk hn=>h.block k hk fun hx=>hn (hs k hx)⟩
theorem Chg.drew {S:List Nat} {a w:World} (h:Chg S a w):Chg S a w.drew:=⟨h.os,h.tape,h.output,h.size,h.block⟩
theorem Chg.drewN {S:List Nat} {a w:World} (h:Chg S a w) (n:Nat):Chg S a (w.drewN n):=⟨h.os,h.tape,h.output,h.size,h.block⟩
theorem Chg.alloc {S:List Nat} {a w:World} (h:Chg S a w) (o:Obj):Chg S a (w.alloc o) :=
 h.trans ⟨rfl,rfl,rfl,by simp,fun k hk _=>Below.heap_alloc _ _ _ hk⟩
theorem Chg.setCell {S:List Nat} {a w:World} (h:Chg S a w) {p:Addr} (hp:p.block∈S∨a.heap.size≤p.block) (u:Value):Chg S a (w.setCell p u) :=
 ⟨h.os,h.tape,h.output,by simpa [World.setCell] using h.size,fun k hk hs=>(Below.heap_setCell w p u k (by
  rintro rfl
  rcases hp with hp | hp
  ·exact hs hp
  ·omega)).trans (h.block k hk hs)⟩
theorem Chg.below {S:List Nat} {w w':World} {B:Nat} (h:Chg S w w') (hB:B≤w.heap.size) (hs:∀ x∈S,B≤x):Below B w w' :=
 ⟨h.os,h.tape,h.output,h.size,fun k hk=>h.block k (by omega) fun hx=>by have:=hs k hx;omega⟩
theorem Chg.of_below {S:List Nat} {a w w':World} (h:Chg S a w) (hb:Below w.heap.size w w'):Chg S a w' :=
 h.trans ⟨hb.os,hb.tape,hb.output,hb.size,fun k hk _=>hb.block k hk⟩
theorem Chg.of_grown {S:List Nat} {a w w':World} {g:Nat} (h:Chg S a w) (hb:w.grownBy w' (some g)) (hg:g∈S∨a.heap.size≤g):Chg S a w' :=
 ⟨hb.os.trans h.os,hb.tape.trans h.tape,hb.output.trans h.output,Nat.le_trans h.size hb.size,fun k hk hs=>(hb.block k (Nat.lt_of_lt_of_le hk h.size) (fun e=>by
  injection e with e
  subst e
  rcases hg with hg | hg
  ·exact hs hg
  ·omega)).trans (h.block k hk hs)⟩
theorem Chg.cell {S:List Nat} {w w':World} (h:Chg S w w') {p:Addr} (hp:p.block<w.heap.size) (hs:p.block ∉ S):w'.cell? p=w.cell? p:=World.cell?_of_block (h.block _ hp hs)
theorem lt_of_heap {w:World} {g:Nat} {o:Obj} (h:w.heap[g]?=some o):g<w.heap.size:=(gE h).1
theorem Chg.set1 (w:World) (g o:Nat) (u:Value):Chg [g] w (w.setCell ⟨g,o,none⟩ u):=(Chg.refl _ _).setCell (.inl (by simp)) u
structure Rd (B rb:Nat) (A:Option Addr) (n c:Nat) (m:Nat) (w:World):Prop where
 base:B≤rb
 len:n≤2000
 box:∃ p:Nat,p≤m∧w.heap[rb]?=some (.cells #[.slice A n c,.int .i64 p] 107 (0,0))
 bytes:0<n→∃ ad,A=some ad∧ad.block<B∧∀ i,i<n→∃ z:Int,0≤z∧z<256∧w.cell? (ad.add i)=some (.int .u8 z)
section
variable {B rb:Nat} {A:Option Addr} {n c m:Nat} {w w':World}
theorem rZ5 (a:Addr) (i:Nat):(a.add i).block=a.block:=by unfold Addr.add;split <;> rfl
theorem Rd.lt (h:Rd B rb A n c m w):rb<w.heap.size:=by obtain ⟨p,_,hp⟩:=h.box;exact lt_of_heap hp
theorem Rd.keep (h:Rd B rb A n c m w) {S:List Nat} (hc:Chg S w w') (hs:∀ x∈S,B≤x∧x≠rb):Rd B rb A n c m w':=by
 have hlt:=h.lt;refine ⟨h.base,h.len,?_,fun hn=>?_⟩
 ·obtain ⟨p,hp,hh⟩:=h.box;exact ⟨p,hp,(hc.block rb hlt fun hx=>(hs rb hx).2 rfl).trans hh⟩
 ·obtain ⟨ad,e,hb,hcell⟩:=h.bytes hn;refine ⟨ad,e,hb,fun i hi=>?_⟩;obtain ⟨z,z0,z1,hz⟩:=hcell i hi;exact ⟨z,z0,z1,(hc.cell (by rw [rZ5];have:=h.base;omega) (by rw [rZ5];intro hx;have:=(hs _ hx).1;omega)).trans hz⟩
theorem Rd.mono {m':Nat} (h:Rd B rb A n c m w) (hm:m≤m'):Rd B rb A n c m' w:=⟨h.base,h.len,let ⟨p,hp,hh⟩:=h.box;⟨p,by omega,hh⟩,h.bytes⟩
theorem Rd.drew (h:Rd B rb A n c m w):Rd B rb A n c m w.drew:=⟨h.base,h.len,h.box,h.bytes⟩
theorem Rd.drewN (h:Rd B rb A n c m w) (k:Nat):Rd B rb A n c m (w.drewN k):=⟨h.base,h.len,h.box,h.bytes⟩
theorem Rd.alloc (h:Rd B rb A n c m w) (o:Obj):Rd B rb A n c m (w.alloc o):=h.keep (S:=[]) ((Chg.refl _ _).alloc o) (by simp)
theorem Rd.setCell (h:Rd B rb A n c m w) {p:Addr} (hB:B≤p.block) (hp:p.block≠rb) (u:Value):Rd B rb A n c m (w.setCell p u) :=
 h.keep (S:=[p.block]) ((Chg.refl _ _).setCell (.inl List.mem_cons_self) u) (by simp;exact ⟨hB,hp⟩)
theorem Rd.below (h:Rd B rb A n c m w) (hb:Below w.heap.size w w'):Rd B rb A n c m w':=h.keep (S:=[]) ((Chg.refl _ _).of_below hb) (by simp)
end
def Bts (w:World) (A:Option Addr) (n:Nat):Prop:=0<n→∃ ad,A=some ad∧ad.block<w.heap.size∧∀ i,i<n→∃ z:Int,0≤z∧z<256∧w.cell? (ad.add i)=some (.int .u8 z)
theorem Bts.rd {w:World} {A:Option Addr} {n k c:Nat} (h:Bts w A n) (hk:k≤n) (h2:k≤2000):Rd w.heap.size w.heap.size A k c 0 (w.alloc (.cells #[.slice A k c,.int .i64 0] 107)):=by
 refine ⟨Nat.le_refl _,h2,⟨0,Nat.le_refl _,?_⟩,fun hn=>?_⟩
 ·show (w.heap.push _)[w.heap.size]?=_
  simp
 ·obtain ⟨ad,e,hb,hc⟩:=h (by omega);refine ⟨ad,e,hb,fun i hi=>?_⟩;obtain ⟨z,z0,z1,hz⟩:=hc i (by omega);exact ⟨z,z0,z1,(World.cell?_of_block (Below.heap_alloc _ _ _ (by rw [rZ5];exact hb))).trans hz⟩
def TL (B:Nat) (S:List Nat) (k:Nat):Value→World→Prop:=fun v w=>∃ g,v=.slice (some ⟨g,0,none⟩) k k∧B≤g∧g ∉ S∧g<w.heap.size∧∀ i,i<k→∃ z,w.cell? ⟨g,i,none⟩=some (.int .i64 z)
theorem TL.keep {B:Nat} {S:List Nat} {k:Nat} {v:Value} {a b:World} (h:TL B S k v a) (hc:Chg S a b):TL B S k v b:=by
 obtain ⟨g,e,h0,h1,h2,h3⟩:=h;exact ⟨g,e,h0,h1,Nat.lt_of_lt_of_le h2 hc.size,fun i hi=>let ⟨z,hz⟩:=h3 i hi;⟨z,(hc.cell (p:=⟨g,i,none⟩) h2 h1).trans hz⟩⟩
theorem qZ7 {w:World} {b:Nat} {cs:Array Value} {T:TypeId} {fz:Nat × Nat} (h:w.heap[b]?=some (.cells cs T fz)) (i:Nat):w.cell? ⟨b,i,none⟩=cs[i]?:=by simp [World.cell?,h]
theorem jZ6 {w:World} {b:Nat} {cs:Array Value} {T:TypeId} (h:w.heap[b]?=some (.cells cs T (0,0))) (i:Nat):w.frozen? ⟨b,i,none⟩=false:=by simp [World.frozen?,h]
theorem b4 {w:World} {b:Nat} {a0 a1 a2 a3:Value} {T:TypeId} (h:w.heap[b]?=some (.cells #[a0,a1,a2,a3] T (0,0))) :
  w.cell? ⟨b,0,none⟩=some a0∧w.cell? ⟨b,1,none⟩=some a1∧w.cell? ⟨b,2,none⟩=some a2∧w.cell? ⟨b,3,none⟩=some a3∧w.frozen? ⟨b,0,none⟩=false∧w.frozen? ⟨b,1,none⟩=false∧w.frozen? ⟨b,2,none⟩=false∧w.frozen? ⟨b,3,none⟩=false :=
 ⟨qZ7 h 0,qZ7 h 1,qZ7 h 2,qZ7 h 3,jZ6 h 0,jZ6 h 1,jZ6 h 2,jZ6 h 3⟩
def isI:Value→Bool | .int .i64 _=>true | _=>false
theorem isI_ex {v:Value} (h:isI v=true):∃ z,v=.int .i64 z:=by
 unfold isI at h
 split at h
 ·exact ⟨_,rfl⟩
 ·cases h
theorem TL.lit {B:Nat} {S:List Nat} {k:Nat} {w:World} {cs:Array Value} {T:TypeId} (hB:B≤w.heap.size) (hS:∀ x∈S,x<w.heap.size) (hk:cs.size=k) (ha:cs.toList.all isI=true) :
  TL B S k (.slice (some ⟨w.heap.size,0,none⟩) k k) (w.alloc (.cells cs T)):=by
 refine ⟨w.heap.size,rfl,hB,fun hx=>by have:=hS _ hx;omega,by simp,fun i hi=>?_⟩
 have hc:cs[i]?=some cs[i]:=by simp [hk,hi]
 obtain ⟨z,hz⟩:=isI_ex (List.all_eq_true.1 ha cs[i] (by simp));refine ⟨z,?_⟩;rw [<- hz,<- hc]
 have hh:(w.alloc (.cells cs T)).heap[w.heap.size]?=some (.cells cs T (0,0)):=by show (w.heap.push _)[w.heap.size]?=_;simp
 unfold World.cell?;rw [hh]
 rfl
end
section
theorem wp_genG {P:Program} {c:Code} {Q:Exit→Act→World→Prop} {a:Act} {W:World} (F:World→Prop) (hF:F W) (h:∀ W0,F W0→c.wp P Q a W0):c.wp P Q a W:=h W hF
section
variable {B rb:Nat} {A:Option Addr} {n c m:Nat} {w w':World}
theorem Rd.cells (h:Rd B rb A n c m w):∃ p:Nat,p≤m∧w.cell? ⟨rb,0,none⟩=some (.slice A n c)∧w.cell? ⟨rb,1,none⟩=some (.int .i64 p)∧w.frozen? ⟨rb,1,none⟩=false:=by
 obtain ⟨p,hp,hh⟩:=h.box;exact ⟨p,hp,by simp [World.cell?,hh],by simp [World.cell?,hh],by simp [World.frozen?,hh]⟩
theorem Rd.step (h:Rd B rb A n c m w) {p:Nat} (hp:p≤m) (hc:w.cell? ⟨rb,1,none⟩=some (.int .i64 p)):Rd B rb A n c (m+1) (w.setCell ⟨rb,1,none⟩ (.int .i64 (p+1))):=by
 obtain ⟨p',hp',hh⟩:=h.box
 have:p'=p:=by
  simp [World.cell?,hh] at hc
  exact_mod_cast hc
 subst this;refine ⟨h.base,h.len,⟨p'+1,by omega,?_⟩,fun hn=>?_⟩
 ·simp [World.setCell,Array.getElem?_modify,hh]
 ·obtain ⟨ad,e,hb,hcell⟩:=h.bytes hn;refine ⟨ad,e,hb,fun i hi=>?_⟩;obtain ⟨z,z0,z1,hz⟩:=hcell i hi;exact ⟨z,z0,z1,(World.cell?_of_block (Below.heap_setCell _ _ _ _ (by rw [rZ5];have:=h.base;simp;omega))).trans hz⟩
end
theorem xor_nat (a b:Nat) (ha:a<9223372036854775808) (hb:b<9223372036854775808):bits .xor .i64 (a:Int) (b:Int)=((a ^^^ b:Nat):Int):=by
 have hx:a ^^^ b<2 ^ 63:=Nat.xor_lt_two_pow (by omega) (by omega)
 have h1:(BitVec.ofInt 64 (a:Int)).toNat=a:=by
  rw [BitVec.ofInt_natCast,BitVec.toNat_ofNat];exact Nat.mod_eq_of_lt (by omega)
 have h2:(BitVec.ofInt 64 (b:Int)).toNat=b:=by
  rw [BitVec.ofInt_natCast,BitVec.toNat_ofNat];exact Nat.mod_eq_of_lt (by omega)
 show IntKind.i64.wrap ((BitVec.ofInt 64 (a:Int) ^^^ BitVec.ofInt 64 (b:Int)).toNat:Int)=_
 rw [BitVec.toNat_xor,h1,h2];exact IntWalk.i64_in _ (by omega)
theorem xor_ex (x y:Int) (h1:0≤x) (h2:x<1000000000000) (h3:0≤y) (h4:y<1000000000000):∃ v,bits .xor .i64 x y=v∧0≤v:=by
 obtain ⟨a,rfl⟩:=Int.eq_ofNat_of_zero_le h1;obtain ⟨b,rfl⟩:=Int.eq_ofNat_of_zero_le h3;exact ⟨_,xor_nat a b (by omega) (by omega),by omega⟩
theorem pick_lo {B rb:Nat} {A:Option Addr} {l c m:Nat} (n:Int) (w:World) (h:Rd B rb A l c m w) (hm:m≤1000000) (hn:n<1) :
  Calls Tryz.prog 76 #[.pointer (some ⟨rb,0,none⟩),.int .i64 n] w fun e w'=>e=.returned (.int .i64 0)∧Rd B rb A l c (m+1) w'∧Chg [rb] w w':=by
 obtain ⟨p,hp,c0,c1,f1⟩:=h.cells;have hst:=h.step hp c1;have hch:Chg [rb] w (w.setCell ⟨rb,1,none⟩ (.int .i64 (p+1))):=Chg.set1 _ _ _ _;have Hst:=hD hst;have Hch:=hD hch;clear hst hch
 go_enter Tryz.func76,Tryz.ntmps76
 go_wp2;go_ret;exact ⟨rfl,Hst.out,Hch.out⟩
theorem fZj (A:Option Addr) (n c:Nat) (w:World) (h:Bts w A n) (hn:n≤c) (hc:c≤maxLen) :
  Calls Tryz.prog 52 #[.slice A n c] w fun e w'=>∃ n',n'≤n∧e=.returned (.pointer (some ⟨w.heap.size,0,none⟩))∧Rd w.heap.size w.heap.size A n' c 0 w'∧Chg [] w w':=by
 unfold maxLen at hc
 by_cases h0:n≤2000
 ·have H:=hD (h.rd (c:=c) (Nat.le_refl _) h0);clear h
  go_enter Tryz.func52,Tryz.ntmps52
  go_wp2;go_ret;exact ⟨n,Nat.le_refl _,rfl,H.out,(Chg.refl _ _).alloc _⟩
 ·have H:=hD (h.rd (c:=c) (k:=2000) (by omega) (by omega));clear h
  have h1:(2000:Int)<n:=by omega
  go_enter Tryz.func52,Tryz.ntmps52
  go_wp2;go_ret;exact ⟨2000,by omega,rfl,H.out,(Chg.refl _ _).alloc _⟩
theorem eZe (A:Option Addr) (n c:Nat) (w:World) (h:Bts w A n) (hn:n≤c) (hc:c≤maxLen) :
  Calls Tryz.prog 52 #[.slice A n c] w fun e w'=>∃ n',e=.returned (.pointer (some ⟨w.heap.size,0,none⟩))∧Rd w.heap.size w.heap.size A n' c 0 w'∧Chg [] w w' :=
 (fZj A n c w h hn hc).mono fun e w' ⟨n',_,h⟩=>⟨n',h⟩
theorem pick_nil {B rb:Nat} {A:Option Addr} {c m:Nat} (n:Int) (w:World) (h:Rd B rb A 0 c m w) (hm:m≤1000000) (hn:1≤n) :
  Calls Tryz.prog 76 #[.pointer (some ⟨rb,0,none⟩),.int .i64 n] w fun e w'=>e=.returned (.int .i64 0)∧Rd B rb A 0 c (m+1) w'∧Chg [rb] w w':=by
 obtain ⟨p,hp,c0,c1,f1⟩:=h.cells;have hst:=h.step hp c1;have hch:Chg [rb] w (w.setCell ⟨rb,1,none⟩ (.int .i64 (p+1))):=Chg.set1 _ _ _ _;have Hst:=hD hst;have Hch:=hD hch;clear hst hch
 have hd:decide (n<1)=false:=by simp;omega
 go_enter Tryz.func76,Tryz.ntmps76
 go_wp2;go_ret;exact ⟨rfl,Hst.out,Hch.out⟩
theorem pick_in {B rb:Nat} {A:Option Addr} {l c m:Nat} (n:Int) (w:World) (h:Rd B rb A l c m w) (hm:m≤1000000) (hn:1≤n) (hl:0<l) :
  Calls Tryz.prog 76 #[.pointer (some ⟨rb,0,none⟩),.int .i64 n] w fun e w'=>(∃ v,e=.returned (.int .i64 v)∧0≤v∧v<n)∧Rd B rb A l c (m+1) w'∧Chg [rb] w w':=by
 have hlen:=h.len;obtain ⟨ad,rfl,hb,hby⟩:=h.bytes hl;obtain ⟨p,hp,c0,c1,f1⟩:=h.cells;have hbase:=h.base;have hst:=h.step hp c1;have hch:Chg [rb] w (w.setCell ⟨rb,1,none⟩ (.int .i64 (p+1))):=Chg.set1 _ _ _ _;have Hst:=hD hst;have Hch:=hD hch;clear hst hch
 have hd:decide (n<1)=false:=by simp;omega
 have hl0:((l:Int) == 0)=false:=by simp;omega
 have hF:∃ W0:World,W0=w.setCell ⟨rb,1,none⟩ (.int .i64 (p+1))∧W0.cell? ⟨rb,0,none⟩=some (.slice (some ad) l c)∧W0.cell? ⟨rb,1,none⟩=some (.int .i64 (p+1))∧(∀ i,i<l→∃ z:Int,0≤z∧z<256∧W0.cell? (ad.add i)=some (.int .u8 z)):=by
  obtain ⟨q,hq,g0,g1,g2⟩:=Hst.out.cells;clear h;refine ⟨_,rfl,g0,by clear g0 g1 g2;go_simp,fun i hi=>?_⟩;obtain ⟨ad',e,_,hby'⟩:=Hst.out.bytes hl
  injection e with e
  subst e;exact hby' i hi
 obtain ⟨W0,hW0,g0,g1,hby0⟩:=hF;rw [<- hW0] at Hst Hch;have HW:=hD hW0;clear hW0 h hby
 by_cases hk:p<l
 ·have hkk:decide ((p:Int)<(l:Int))=true:=by simpa using hk
  obtain ⟨z,z0,z1,hz⟩:=hby0 p hk;clear hby0
  go_enter Tryz.func76,Tryz.ntmps76
  go_upto_region 2 with (fail)
  rw [<- HW.out];clear HW c0 c1 f1;go_wp2;go_ret;exact ⟨⟨_,rfl,Int.emod_nonneg _ (by omega),Int.emod_lt_of_pos _ (by omega)⟩,Hst.out,Hch.out⟩
 ·have hkk:decide ((p:Int)<(l:Int))=false:=by simp;omega
  have hl1:¬ l=0:=by omega
  obtain ⟨q1,hq1,e1⟩:∃ q:Nat,q<l∧(p:Int).tmod (l:Int)=(q:Int):=⟨p % l,Nat.mod_lt _ hl,rfl⟩
  obtain ⟨q2,hq2,e2⟩:∃ q:Nat,q<l∧((p:Int)*7+3).tmod (l:Int)=(q:Int):=⟨(p*7+3) % l,Nat.mod_lt _ hl,rfl⟩
  obtain ⟨q3,hq3,e3⟩:∃ q:Nat,q≤p∧(p:Int).tdiv (l:Int)=(q:Int):=⟨p / l,Nat.div_le_self _ _,rfl⟩
  obtain ⟨y1,a1,a2,hy1⟩:=hby0 q1 hq1;obtain ⟨y2,a3,a4,hy2⟩:=hby0 q2 hq2;clear hby0
  go_enter Tryz.func76,Tryz.ntmps76
  go_upto_region 2 with (fail)
  rw [<- HW.out];clear HW c0 c1 f1
  go_upto_region 7 with (fail)
  go_quiet (fail)
  go_upto_region 8 with (fail)
  have hX:∃ X:Int,X=y1*131+y2*1117+(p:Int)*29+(q3:Int)*53∧0≤X∧X<1000000000000:=⟨_,rfl,by omega,by omega⟩
  obtain ⟨X,eX,x0,x1⟩:=hX;rw [<- eX];clear eX;obtain ⟨V,eV,v0⟩:=xor_ex X (X / 64) x0 x1 (by omega) (by omega);clear e1 e2 e3;go_wp2;go_ret;exact ⟨⟨_,rfl,Int.emod_nonneg _ (by omega),Int.emod_lt_of_pos _ (by omega)⟩,Hst.out.drewN _,Hch.out.drewN _⟩
theorem kZe {B rb:Nat} {A:Option Addr} {l c m:Nat} (n:Int) (w:World) (h:Rd B rb A l c m w) (hm:m≤1000000) :
  Calls Tryz.prog 76 #[.pointer (some ⟨rb,0,none⟩),.int .i64 n] w fun e w'=>(∃ v,e=.returned (.int .i64 v)∧(1≤n→0≤v∧v<n))∧Rd B rb A l c (m+1) w'∧Chg [rb] w w':=by
 by_cases hn:1≤n
 ·rcases Nat.eq_zero_or_pos l with rfl | hl
  ·exact (pick_nil n w h hm hn).mono fun e w' ⟨he,h1,h2⟩=>⟨⟨0,he,fun _=>⟨by omega,by omega⟩⟩,h1,h2⟩
  ·exact (pick_in n w h hm hn hl).mono fun e w' ⟨⟨v,he,h3⟩,h1,h2⟩=>⟨⟨v,he,fun _=>h3⟩,h1,h2⟩
 ·exact (pick_lo n w h hm (by omega)).mono fun e w' ⟨he,h1,h2⟩=>⟨⟨0,he,fun h=>absurd h hn⟩,h1,h2⟩
end
theorem tZ1 {B rb:Nat} {A:Option Addr} {l c m k:Nat} {v:Value} (w:World) (h:Rd B rb A l c m w) (hm:m≤1000000) (hT:TL B [rb] k v w) (hk:1≤k) (hk2:k≤100) :
  Calls Tryz.prog 60 #[.pointer (some ⟨rb,0,none⟩),v] w fun e w'=>(∃ z,e=.returned (.int .i64 z))∧Rd B rb A l c (m+1) w'∧Chg [rb] w w':=by
 obtain ⟨g,rfl,hg1,hg2,hg3,hg4⟩:=hT
 go_enter Tryz.func60,Tryz.ntmps60
 go_wp2_with fail
 refine (kZe _ _ h hm).mono ?_;rintro e w1 ⟨⟨v,rfl,hv⟩,hr,hc⟩;obtain ⟨v0,v1⟩:=hv (by omega);obtain ⟨j,rfl⟩:=Int.eq_ofNat_of_zero_le v0;obtain ⟨z,hz⟩:=hg4 j (by omega);have hz':=(hc.cell (p:=⟨g,j,none⟩) hg3 hg2).trans hz
 have hjk:j<k:=by omega
 have Hr:=hD hr;have Hc:=hD hc;clear hr hc hv hz hg4 h;go_wp2;go_ret;exact ⟨⟨_,rfl⟩,Hr.out,Hc.out⟩
theorem qZ9 {B rb:Nat} {A:Option Addr} {l c m k:Nat} {cs:Array Value} {T:TypeId} (w:World) (h:Rd B rb A l c m w) (hm:m≤1000000) (hk:cs.size=k) (h1:1≤k) (h2:k≤100) (ha:cs.toList.all isI=true) :
  Calls Tryz.prog 60 #[.pointer (some ⟨rb,0,none⟩),.slice (some ⟨w.heap.size,0,none⟩) k k] (w.alloc (.cells cs T)) fun e w'=>(∃ z,e=.returned (.int .i64 z))∧Rd B rb A l c (m+1) w'∧Chg [rb] w w' :=
 (tZ1 _ (h.alloc _) hm (TL.lit (by have:=h.lt;have:=h.base;omega) (by have:=h.lt;simpa using this) hk ha) h1 h2).mono fun e w' ⟨h1,h2,h3⟩=>⟨h1,h2,((Chg.refl _ _).alloc _).trans h3⟩
theorem Bts.alloc {w:World} {A:Option Addr} {n:Nat} (h:Bts w A n) (o:Obj):Bts (w.alloc o) A n:=by
 intro hn;obtain ⟨ad,e,hb,hc⟩:=h hn;refine ⟨ad,e,by simp;omega,fun i hi=>?_⟩;obtain ⟨z,z0,z1,hz⟩:=hc i hi;exact ⟨z,z0,z1,(World.cell?_of_block (Below.heap_alloc _ _ _ (by rw [rZ5];exact hb))).trans hz⟩
theorem bp_gen {P:Program} {f:Func} {R:Ending→World→Prop} {e:Exit} {a:Act} {W:World} (F:World→Prop) (hF:F W) (h:∀ W0,F W0→bodyPost P f R e a W0):bodyPost P f R e a W:=h W hF
theorem uZq {w:World} {b i:Nat} {cs:Array Value} {T:TypeId} {fz:Nat × Nat} (h:w.heap[b]?=some (.cells cs T fz)) (u:Value):(w.setCell ⟨b,i,none⟩ u).heap[b]?=some (.cells (cs.setIfInBounds i u) T fz):=by
 simp [World.setCell,Array.getElem?_modify,h]
def vr (x y w h:Int):Bool:=decide (0≤w∧w≤400∧0≤h∧h≤400∧-1000≤x∧x+w≤1000∧-1000≤y∧y+h≤1000)
def vs (a s:Int):Bool:=decide (-1000≤a∧0≤s∧s≤400∧a+s≤1000)
def rng (n a b:Int):Bool:=decide (a≤n∧n≤b)
theorem pZa {n a b:Int}:rng n a b=true↔(a≤n∧n≤b):=by simp [rng]
def mx (a b:Int):Int:=if b>a then b else a
def mn (a b:Int):Int:=if b<a then b else a
theorem kZc (a b:Int):a≤mx a b∧b≤mx a b∧(mx a b=a∨mx a b=b):=by unfold mx;split <;> omega
theorem jZz (a b:Int):mn a b≤a∧mn a b≤b∧(mn a b=a∨mn a b=b):=by unfold mn;split <;> omega
def hitB (x y u v x' y' u' v':Int):Bool:=decide (0<mn (x+u) (x'+u')-mx x x'∧0<mn (y+v) (y'+v')-mx y y')
theorem uZ0 {x y u v x' y' u' v':Int}:hitB x y u v x' y' u' v'=true↔(0<mn (x+u) (x'+u')-mx x x'∧0<mn (y+v) (y'+v')-mx y y'):=by simp only [hitB,decide_eq_true_eq]
theorem hitB_not {x y u v x' y' u' v':Int}:hitB x y u v x' y' u' v'=false↔(mn (x+u) (x'+u')-mx x x'≤0∨mn (y+v) (y'+v')-mx y y'≤0):=by
 unfold hitB;rw [decide_eq_false_iff_not];omega
section
theorem jZ8 {a b:Bool} (h:a=b):Ending.returned (.bool a)=.returned (.bool b):=by rw [h]
theorem sZv {k:IntKind} {a b:Int} (h:a=b):Ending.returned (.int k a)=.returned (.int k b):=by rw [h]
theorem kZk {P:Program} {w:World} (ts:Array TypeId) (t:TypeId) (k k':IntKind) (x y:Int):(Builtin.max_ ts t #[.int k x,.int k' y]).run P w=.ok (.int k (mx x y)) w:=run_max_int2 w ts t k k' x y
theorem kZj {P:Program} {w:World} (ts:Array TypeId) (t:TypeId) (k k':IntKind) (x y:Int):(Builtin.min_ ts t #[.int k x,.int k' y]).run P w=.ok (.int k (mn x y)) w:=run_min_int2 w ts t k k' x y
attribute [local go_sem 5000] kZk kZj
theorem kZi {W w1:World} (hb:Below W.heap.size W w1):(∀ b o,b<W.heap.size→w1.cell? ⟨b,o,none⟩=W.cell? ⟨b,o,none⟩)∧(∀ b o,b<W.heap.size→w1.frozen? ⟨b,o,none⟩=W.frozen? ⟨b,o,none⟩) :=
 ⟨fun b o h=>hb.cell (p:=⟨b,o,none⟩) h,fun b o h=>hb.frozen (p:=⟨b,o,none⟩) h⟩
theorem bcell4 {W w1:World} (hb:Below W.heap.size W w1):(∀ b o,b<W.heap.size→w1.cell? ⟨b,o,none⟩=W.cell? ⟨b,o,none⟩)∧(∀ b o,b<W.heap.size→w1.frozen? ⟨b,o,none⟩=W.frozen? ⟨b,o,none⟩)∧(∀ b,b<W.heap.size→b<w1.heap.size)∧(∀ b,b<W.heap.size→(b=w1.heap.size)=False) :=
 ⟨fun b o h=>hb.cell (p:=⟨b,o,none⟩) h,fun b o h=>hb.frozen (p:=⟨b,o,none⟩) h,fun b h=>Nat.lt_of_lt_of_le h hb.size,fun b h=>eq_false (Nat.ne_of_lt (Nat.lt_of_lt_of_le h hb.size))⟩
theorem kZq {W w1:World} (hb:Below W.heap.size W w1):∀ b o,(W.cell? ⟨b,o,none⟩).isSome=true→w1.cell? ⟨b,o,none⟩=W.cell? ⟨b,o,none⟩:=fun b o h=>by
 obtain ⟨v,hv⟩:=Option.isSome_iff_exists.1 h;exact hb.cell (p:=⟨b,o,none⟩) (World.block_lt_of_cell? W _ hv)
theorem pZe (n a b:Int) (w:World):Calls Tryz.prog 94 #[.int .i64 n,.int .i64 a,.int .i64 b] w fun e w'=>e=.returned (.bool (rng n a b))∧w=w':=by
 by_cases h1:a≤n <;> by_cases h2:n≤b
 all_goals
  go_enter Tryz.func94,Tryz.ntmps94
  go_wp2;go_ret;exact ⟨jZ8 (by simp [rng,h1,h2]),rfl⟩
theorem kZ3 (n a b:Int) (w:World):Calls Tryz.prog 79 #[.int .i64 n,.int .i64 a,.int .i64 b] w fun e w'=>e=.returned (.bool (rng n a b))∧w=w':=by
 by_cases h1:a≤n <;> by_cases h2:n≤b
 all_goals
  go_enter Tryz.func79,Tryz.ntmps79
  go_wp2;go_ret;exact ⟨jZ8 (by simp [rng,h1,h2]),rfl⟩
theorem kZm (a b:Int) (t:Bool) (w:World) (h:(rng a 0 30&&rng b 0 30)=t):Calls Tryz.prog 103 #[.int .i64 a,.int .i64 b] w fun e w'=>e=.returned (.bool t)∧w=w':=by
 subst h
 cases h1:rng a 0 30
 all_goals
  go_enter Tryz.func103,Tryz.ntmps103
  go_wp2_with (go_at_call 94;refine (pZe _ _ _ _).mono ?_;rintro e w' ⟨rfl,rfl⟩)
  go_ret;exact ⟨jZ8 (by simp),rfl⟩
end
section
section
variable {P:Program} {ops:Array Oper} {md:Region.Mode} {Q:Exit→Act→World→Prop}
def Gr (w w':World):Prop:=Below w.heap.size w w'
theorem Gr.refl (w:World):Gr w w:=Below.refl _ _
theorem Gr.trans {a b c:World} (h:Gr a b) (k:Gr b c):Gr a c:=Below.trans h (Below.mono k h.size)
theorem Gr.alloc (w:World) (o:Obj):Gr w (w.alloc o):=(Below.refl _ _).alloc (Nat.le_refl _) o
theorem Gr.out {w w':World} (h:Gr w w'):Below w.heap.size w w':=h
def qZx (P:Program) (w:World) (v:Value):Result Next→Prop
 | .ok (.value u) w'=>w'=w∧u=v
 | .ok .skip w'=>w'=w∧v=undef
 | .ok (.enter f args) w'=>w'=w∧Calls P f args w (fun e w''=>e=.returned v∧Gr w w'')
 | _=>False
theorem kZb (w:World) (u v:Value):qZx P w v (.ok (.value u) w)=(u=v):=by simp [qZx]
theorem kZp (w:World) (v:Value):qZx P w v (.ok .skip w)=(v=undef):=by simp [qZx]
theorem kZg (w:World) (v:Value) (f:FuncId) (args:Array Value):qZx P w v (.ok (.enter f args) w)=Calls P f args w (fun e w''=>e=.returned v∧Gr w w''):=by simp [qZx]
def pZ9 (P:Program) (ops:Array Oper) (o:Oper) (v:Value) (a:Act) (w:World):Prop :=
 (Region.wanted o (yielded ops a.tmps)=true∧∀ w',Gr w w'→qZx P w' v ((execOp a.eval o).run P w'))∨(Region.wanted o (yielded ops a.tmps)=false∧v=undef)
theorem pZ9.mono {o:Oper} {v:Value} {a:Act} {w w':World} (h:pZ9 P ops o v a w) (g:Gr w w'):pZ9 P ops o v a w' :=
 h.imp (fun ⟨h1,h2⟩=>⟨h1,fun x hx=>h2 x (g.trans hx)⟩) id
theorem pZ9.of_same {o:Oper} {v:Value} {a a':Act} {w:World} (hy:pZ9 P ops o v a w) (he:execOp a'.eval o=execOp a.eval o)
  (hw:Region.wanted o (yielded ops a'.tmps)=Region.wanted o (yielded ops a.tmps)):pZ9 P ops o v a' w:=by
 unfold pZ9 at *;rw [he,hw];exact hy
theorem pZ9.wpOp {i:Nat} {o:Oper} {v:Value} {a:Act} {w:World} (hi:ops[i]?=some o) (hy:pZ9 P ops o v a w) {K:Act→World→Prop} (h:∀ w',Gr w w'→K (a.put o.dst v) w'):wpOp P ops Q i K a w:=by
 unfold Go.wpOp;simp only [hi]
 rcases hy with ⟨hw,hv⟩ | ⟨hw,rfl⟩
 ·simp only [hw,if_true]
  left
  have h3:=hv w (Gr.refl w);unfold Oper.wp;generalize (execOp a.eval o).run P w=r at *
  cases r with
  | ok n w' =>
   cases n <;> simp only [qZx] at h3 <;> simp only [Oper.upon]
   case value u=>obtain ⟨e1,e2⟩:=h3;rw [e1,e2];exact h _ (Gr.refl _)
   case skip=>obtain ⟨e1,e2⟩:=h3;rw [e1,<- e2];exact h _ (Gr.refl _)
   case enter f args =>
    obtain ⟨e1,hc⟩:=h3;rw [e1]
    exact hc.mono fun e w'' ⟨he,hw''⟩=>by subst he;exact h _ hw''
  | halt x w'=>simp only [qZx] at h3
 ·simp only [hw,Bool.false_eq_true,if_false];exact h _ (Gr.refl _)
theorem fZ5 {j:Nat} {oi oj:Oper} {v:Value} {w0:World} (hj:ops[j]?=some oj) (hap:oi.apart ops oj=true)
  (hsi:∀ cs b,oi.op≠.select cs b) (hsj:∀ cs b,oj.op≠.select cs b)
  (hQ:∀ c a w,Q (.panic c) (a.put oi.dst v) w→Q (.panic c) a w) {K:Act→World→Prop} {a:Act} {w:World}
  (hy:pZ9 P ops oi v a w0) (h:wpOp P ops Q j K (a.put oi.dst v) w) :
  wpOp P ops Q j (fun a' w'=>pZ9 P ops oi v a' w0∧K (a'.put oi.dst v) w') a w:=by
 obtain ⟨h1,h2,h3⟩:=Oper.apart_spec hap
 have keep:∀ (a:Act),pZ9 P ops oi v a w0→∀ u,pZ9 P ops oi v (a.put oj.dst u) w0:=fun a hy u =>
  hy.of_same (execOp_put oi hsi a oj.dst u h3) (wanted_put oi a oj.dst u h3)
 have keepD:∀ d,pZ9 P ops oi v { a with defers:=d :: a.defers } w0:=fun d=>hy.of_same rfl rfl
 unfold wpOp at *;simp only [hj] at *;rw [wanted_put oj a oi.dst v h1] at h
 split
 ·rename_i hw
  simp only [hw,if_true] at h
  rcases h with h | ⟨hasks,hlets⟩
  case inr=>exact .inr ⟨by unfold Oper.asks at *;rw [execOp_put oj hsj a oi.dst v h1] at hasks;exact hasks,hlets⟩
  refine .inl ?_;unfold Oper.wp at *;rw [execOp_put oj hsj a oi.dst v h1] at h;generalize (execOp a.eval oj).run P w=r at *
  cases r with
  | ok n w' =>
   cases n <;> simp only [Oper.upon] at h ⊢
   case value u=>exact ⟨keep a hy u,by rw [<- Act.put_comm a v u h2];exact h⟩
   case skip=>exact ⟨keep a hy _,by rw [<- Act.put_comm a v undef h2];exact h⟩
   case defer d =>
    refine ⟨keep _ (keepD d) _,?_⟩;rw [<- Act.put_comm _ v undef h2,<- Act.put_defers];exact h
   case enter f args =>
    refine Calls.mono h fun e w'' he=>?_
    cases e with
    | returned u=>exact ⟨keep a hy u,by rw [<- Act.put_comm a v u h2];exact he⟩
    | panicked c=>exact hQ _ _ _ he
    | outgrown=>exact he
   case row row args=>exact Rows.mono h fun u w'' he=>⟨keep a hy u,by rw [<- Act.put_comm a v u h2];exact he⟩
  | halt x w' =>
   cases x <;> simp only [Oper.upon] at h ⊢
   case panic u=>exact hQ _ _ _ h
 ·rename_i hw
  simp only [hw] at h;exact ⟨keep a hy _,by rw [<- Act.put_comm a v undef h2];exact h⟩
def eZg (o:Oper):Bool:=o.guard.isNone&&match o.op with | .extract _ _=>true | _=>false
theorem cZx {o:Oper} (h:eZg o=true) (ρ:Operand→Value):(∃ u,∀ w,(execOp ρ o).run P w=.ok (.value u) w∧noRoomEvent ∉ ((execOp ρ o).runT P w #[]).2)∨(∀ w,(∀ n w',(execOp ρ o).run P w≠.ok n w')∧(∀ v w',(execOp ρ o).run P w≠.halt (.panic v) w')∧noRoomEvent ∉ ((execOp ρ o).runT P w #[]).2):=by
 obtain ⟨dst,op,type,pos,after,guard⟩:=o;simp only [eZg,Bool.and_eq_true] at h
 cases op <;> simp only [Bool.false_eq_true,and_false] at h
 rename_i t ix
 simp only [execOp]
 cases hv:ρ t
 case tuple vs =>
  simp only [Instr.extract]
  cases hx:vs[ix]? with
  | some v=>exact .inl ⟨v,fun w=>⟨rfl,by show noRoomEvent ∉ (#[]:Array _);simp⟩⟩
  | none=>exact .inr fun w=>⟨fun n w' e=>(by cases e),fun v w' e=>(by cases e),by show noRoomEvent ∉ (#[]:Array _);simp⟩
 all_goals
  simp only [Instr.extract]
  exact .inr fun w=>⟨fun n w' e=>(by cases e),fun v w' e=>(by cases e),by show noRoomEvent ∉ (#[]:Array _);simp⟩
def qZ5 (ops:Array Oper) (pre:Nat→Bool) (listed:Array Bool):Bool:=(List.range ops.size).all fun i=>!pre i || listed.getD i false
def vZ3 (md:Region.Mode) (ops:Array Oper) (listed:Array Bool):Prop :=
 ∀ k o,ops[k]?=some o→listed.getD k false=true→∀ e∈o.after,Region.binds md e=true→listed.getD e.on false=true
def hZd (l:List Nat) (m:Array Bool):Array Bool:=l.foldl (fun m j=>m.setIfInBounds j true) m
def uZ8 (md:Region.Mode) (ops:Array Oper) (k:Nat):List Nat:=match ops[k]? with
 | none=>[]
 | some o=>(o.after.toList.filter (Region.binds md)).map (·.on)
def downB (md:Region.Mode) (ops:Array Oper):Nat→Array Bool→Array Bool
 | 0,m=>m
 | i+1,m=>downB md ops i (if m.getD i false then hZd (uZ8 md ops i) m else m)
def tailB (md:Region.Mode) (ops:Array Oper) (pre:Nat→Bool):Bool :=
 (List.range ops.size).all fun k=>pre k || (((ops[k]?).map eZg).getD false) || (List.range ops.size).all fun i=>!pre i || (downB md ops ops.size (hZd (uZ8 md ops k) (Array.replicate ops.size false))).getD i false
theorem tZ7 {listed:Array Bool}:∀ (l:List Nat) (m:Array Bool),(∀ j,m.getD j false=true→listed.getD j false=true)→(∀ j∈l,listed.getD j false=true) →
  ∀ j,(hZd l m).getD j false=true→listed.getD j false=true
 | [],m,h,_,j,hj=>h j hj
 | x :: l,m,h,hl,j,hj=>by
  refine tZ7 l (m.setIfInBounds x true) (fun y hy=>?_) (fun y hy=>hl y (List.mem_cons_of_mem _ hy)) j hj
  by_cases e:x=y
  ·subst e;exact hl x List.mem_cons_self
  ·rw [getD_set_ne false e] at hy;exact h y hy
theorem fZ9 {listed:Array Bool} (hs:vZ3 md ops listed) {i:Nat} (hi:listed.getD i false=true):∀ j∈uZ8 md ops i,listed.getD j false=true:=by
 intro j hj;unfold uZ8 at hj
 split at hj
 ·cases hj
 ·rename_i o ho
  obtain ⟨e,he,rfl⟩:=List.mem_map.1 hj;obtain ⟨he1,he2⟩:=List.mem_filter.1 he;exact hs i o ho hi e (by simpa using he1) he2
theorem gZl {listed:Array Bool} (hs:vZ3 md ops listed):∀ (n:Nat) (m:Array Bool),(∀ j,m.getD j false=true→listed.getD j false=true)→∀ j,(downB md ops n m).getD j false=true→listed.getD j false=true
 | 0,m,h,j,hj=>h j hj
 | n+1,m,h,j,hj=>by
  refine gZl hs n _ ?_ j hj
  split
  ·rename_i hm
   exact tZ7 _ _ h (fZ9 hs (h n hm))
  ·exact h
theorem tail_ready {pre:Nat→Bool} {listed:Array Bool} (hT:tailB md ops pre=true) (hs:vZ3 md ops listed) {k:Nat} (hk:k∈Region.ready md ops listed) (hp:pre k=false) {ok:Oper} (hok:ops[k]?=some ok) (hl:eZg ok=false) :
  ∀ i,i<ops.size→pre i=true→listed.getD i false=true:=by
 intro i hi hpi;obtain ⟨_,o,ho,hall⟩:=mem_ready.1 hk;have hlt:=(gE ho).1;have h1:=List.all_eq_true.1 hT k (List.mem_range.2 hlt);simp only [hp,hok,hl,Option.map_some,Option.getD_some,Bool.false_or] at h1;have h2:=List.all_eq_true.1 h1 i (List.mem_range.2 hi);simp only [hpi,Bool.not_true,Bool.false_or] at h2;refine gZl hs _ _ ?_ i h2;refine tZ7 _ _ (fun j hj=>?_) ?_
 ·rw [Array.getD_eq_getD_getElem?,Array.getElem?_replicate] at hj
  split at hj <;> simp at hj
 ·intro j hj;unfold uZ8 at hj;rw [ho] at hj;obtain ⟨e,he,rfl⟩:=List.mem_map.1 hj;obtain ⟨he1,he2⟩:=List.mem_filter.1 he;exact hall e (by simpa using he1) he2
theorem vZ3.set {listed:Array Bool} (hs:vZ3 md ops listed) {j:Nat} (hj:j∈Region.ready md ops listed):vZ3 md ops (listed.setIfInBounds j true):=by
 intro k o ho hk e he hb;obtain ⟨_,oj,hoj,hall⟩:=mem_ready.1 hj
 by_cases hjk:j=k
 ·subst hjk;rw [ho] at hoj;obtain rfl:=Option.some.inj hoj;exact getD_set_true (hall e he hb)
 ·rw [getD_set_ne false hjk] at hk;exact getD_set_true (hs k o ho hk e he hb)
theorem vZ3.none (n:Nat):vZ3 md ops (Array.replicate n false):=by
 intro k o ho hk;rw [Array.getD_eq_getD_getElem?,Array.getElem?_replicate] at hk
 split at hk <;> simp at hk
def wpK (P:Program) (md:Region.Mode) (ops:Array Oper) (Q:Exit→Act→World→Prop) (pre:Nat→Bool):Nat→Array Bool→Act→World→Prop
 | 0,listed,a,w=>∀ w',Gr w w'→wpAny P md ops Q 0 listed a w'
 | f+1,listed,a,w=>(qZ5 ops pre listed=true∧∀ w',Gr w w'→wpAny P md ops Q (f+1) listed a w') ∨
   (qZ5 ops pre listed=false∧∀ w',Gr w w'→(Region.ready md ops listed=[]→Q .normal a w')∧∀ j∈Region.ready md ops listed,wpOp P ops Q j (fun a' w1=>Gr w' w1∧wpK P md ops Q pre f (listed.setIfInBounds j true) a' w1) a w')
theorem bZc {pre:Nat→Bool}:∀ {f:Nat} {listed:Array Bool} {a:Act} {w w':World},wpK P md ops Q pre f listed a w→Gr w w'→wpK P md ops Q pre f listed a w'
 | 0,_,_,_,_,h,g=>fun x hx=>h x (g.trans hx)
 | _+1,_,_,_,_,h,g=>h.imp (fun ⟨h1,h2⟩=>⟨h1,fun x hx=>h2 x (g.trans hx)⟩) (fun ⟨h1,h2⟩=>⟨h1,fun x hx=>h2 x (g.trans hx)⟩)
theorem vZd {pre:Nat→Bool}:∀ (f:Nat) (listed:Array Bool) (a:Act) (w:World),wpK P md ops Q pre f listed a w→wpAny P md ops Q f listed a w
 | 0,_,_,w,h=>h w (Gr.refl w)
 | f+1,_,_,w,.inl h=>h.2 w (Gr.refl w)
 | f+1,_,_,w,.inr h=>⟨(h.2 w (Gr.refl w)).1,fun i hi=>wpOp_mono (fun a' w' h'=>vZd f _ a' w' h'.2) ((h.2 w (Gr.refl w)).2 i hi)⟩
theorem jZ1 {pre:Nat→Bool} {f:Nat} {listed:Array Bool} {a:Act} {w:World} (hp:qZ5 ops pre listed=true) (h:∀ w',Gr w w'→wpAny P md ops Q f listed a w'):wpK P md ops Q pre f listed a w:=by
 cases f with
 | zero=>exact h
 | succ f=>exact .inl ⟨hp,h⟩
theorem cZ1 {pre:Nat→Bool} {listed:Array Bool} (h:qZ5 ops pre listed=true) (j:Nat):qZ5 ops pre (listed.setIfInBounds j true)=true:=by
 unfold qZ5 at *;rw [List.all_eq_true] at *;intro k hk
 have:=h k hk
 rw [Bool.or_eq_true] at *;exact this.imp id getD_set_true
theorem wpK_first {pre:Nat→Bool} {i:Nat} {oi:Oper} {v:Value} (hi:ops[i]?=some oi) (hsel:∀ (j:Nat) (o:Oper) cs b,ops[j]?=some o→o.op≠.select cs b)
  (hQ:∀ c a w,Q (.panic c) (a.put oi.dst v) w→Q (.panic c) a w) (hpi:pre i=true) (hT:tailB md ops pre=true) :
  ∀ (f:Nat) (listed:Array Bool) (a:Act) (w:World),vZ3 md ops listed →
   (∀ j oj,ops[j]?=some oj→j≠i→listed.getD j true=false→(∀ e∈oj.after,Region.binds md e=true→e.on≠i)→oi.apart ops oj=true) →
   i∈Region.ready md ops listed→pZ9 P ops oi v a w→wpK P md ops Q pre f (listed.setIfInBounds i true) (a.put oi.dst v) w→wpK P md ops Q pre (f+1) listed a w:=by
 have hlt:=(gE hi).1
 have hnotpre:∀ listed,i∈Region.ready md ops listed→qZ5 ops pre listed=false:=fun listed hr=>by
  rw [Bool.eq_false_iff];intro hall;have h1:=List.all_eq_true.1 hall i (List.mem_range.2 hlt);simp only [hpi,Bool.not_true,Bool.false_or] at h1;have h0:=(mem_ready.1 hr).1
  rcases Nat.lt_or_ge i listed.size with h' | h'
  ·simp [h'] at h0 h1;rw [h0] at h1;cases h1
  ·simp [Array.getElem?_eq_none h'] at h1
 intro f
 induction f with
 | zero =>
  intro listed a w hsh hfree hr hy H;refine .inr ⟨hnotpre listed hr,fun w' hw'=>⟨fun h=>(by rw [h] at hr;cases hr),fun j hj=>?_⟩⟩
  by_cases hji:j=i
  ·subst hji;exact (hy.mono hw').wpOp hi fun w1 hw1=>⟨hw1,bZc H (hw'.trans hw1)⟩
  ·have:=ready_mono hj hji
   rw [(H w (Gr.refl w)).1] at this
   cases this
 | succ f ih =>
  intro listed a w hsh hfree hr hy H;refine .inr ⟨hnotpre listed hr,fun w' hw'=>⟨fun h=>(by rw [h] at hr;cases hr),fun j hj=>?_⟩⟩
  by_cases hji:j=i
  ·subst hji;exact (hy.mono hw').wpOp hi fun w1 hw1=>⟨hw1,bZc H (hw'.trans hw1)⟩
  ·obtain ⟨hjun,oj,hoj,hall⟩:=mem_ready.1 hj
   have hnot:∀ e∈oj.after,Region.binds md e=true→e.on≠i:=fun e he hb heq=>by
    have h1:=hall e he hb;have h0:=(mem_ready.1 hr).1;rw [heq] at h1
    rcases Nat.lt_or_ge i listed.size with h' | h'
    ·simp [h'] at h0 h1;rw [h0] at h1;cases h1
    ·simp [Array.getElem?_eq_none h'] at h1
   rcases H with ⟨hp,H⟩ | ⟨hp,H⟩
   ·have hpj:pre j=false:=by
     rw [Bool.eq_false_iff];intro hpj;have hjlt:=(gE hoj).1;have h1:=List.all_eq_true.1 hp j (List.mem_range.2 hjlt);simp only [hpj,Bool.not_true,Bool.false_or] at h1;rw [getD_set_ne false (Ne.symm hji)] at h1
     rcases Nat.lt_or_ge j listed.size with h' | h'
     ·simp [h'] at hjun h1;rw [hjun] at h1;cases h1
     ·simp [Array.getElem?_eq_none h'] at h1
    cases hl:eZg oj
    ·exfalso
     have h1:=tail_ready hT hsh hj hpj hoj hl i hlt hpi;have h0:=(mem_ready.1 hr).1
     rcases Nat.lt_or_ge i listed.size with h' | h'
     ·simp [h'] at h0 h1;rw [h0] at h1;cases h1
     ·simp [Array.getElem?_eq_none h'] at h1
    ·obtain ⟨p1,p2,p3⟩:=Oper.apart_spec (hfree j oj hoj hji hjun hnot)
     have hg:oj.guard=none:=by
      simp only [eZg,Bool.and_eq_true,Option.isNone_iff_eq_none] at hl;exact hl.1
     have hwant:∀ x:Act,Region.wanted oj (yielded ops x.tmps)=true:=fun x=>by simp [Region.wanted,hg]
     have hex:=execOp_put oj (fun cs b=>hsel j oj cs b hoj) a oi.dst v p1
     have hall:∀ w'',Gr w w''→wpOp P ops Q j (wpAny P md ops Q f ((listed.setIfInBounds i true).setIfInBounds j true)) (a.put oi.dst v) w'':=fun w'' hw''=>(H w'' hw'').2 j (ready_mono hj hji)
     have hsplit:∀ w'',Gr w w''→oj.wp P (a.put oi.dst v) w'' (wpAny P md ops Q f ((listed.setIfInBounds i true).setIfInBounds j true)) Q∨noRoomEvent∈((execOp a.eval oj).runT P w'' #[]).2:=fun w'' hw''=>by
      have h1:=hall w'' hw'';unfold wpOp at h1;simp only [hoj,hwant,if_true] at h1
      rcases h1 with h1 | ⟨h1,_⟩
      ·exact .inl h1
      ·unfold Oper.asks at h1;rw [hex] at h1;exact .inr h1.1
     rcases cZx (P:=P) hl a.eval with ⟨u,hu⟩ | hst
     ·have hK:∀ w'',Gr w w''→wpAny P md ops Q f ((listed.setIfInBounds i true).setIfInBounds j true) ((a.put oi.dst v).put oj.dst u) w'':=fun w'' hw''=>by
       rcases hsplit w'' hw'' with h1 | h1
       ·unfold Oper.wp at h1;rw [hex,(hu w'').1] at h1;exact h1
       ·exact absurd h1 (hu w'').2
      unfold wpOp;simp only [hoj,hwant,if_true];refine .inl ?_;unfold Oper.wp;rw [(hu w').1];refine ⟨Gr.refl _,?_⟩
      have hfree':∀ k ok,ops[k]?=some ok→k≠i→(listed.setIfInBounds j true).getD k true=false →
        (∀ e∈ok.after,Region.binds md e=true→e.on≠i)→oi.apart ops ok=true:=fun k ok hk hki hun hno=>by
       refine hfree k ok hk hki ?_ hno
       by_cases hjk:j=k
       ·subst hjk;exact hjun
       ·rw [getD_set_ne true hjk] at hun;exact hun
      refine ih (listed.setIfInBounds j true) (a.put oj.dst u) w' (hsh.set hj) hfree' (ready_mono hr (Ne.symm hji)) ((hy.of_same (execOp_put oi (fun cs b=>hsel i oi cs b hi) a oj.dst u p3) (wanted_put oi a oj.dst u p3)).mono hw') ?_
      refine jZ1 ?_ fun w'' hw''=>?_
      ·rw [Array.setIfInBounds_comm _ _ hji];exact cZ1 hp j
      ·rw [Array.setIfInBounds_comm _ _ hji,<- Act.put_comm a v u p2];exact hK w'' (hw'.trans hw'')
     ·exfalso
      rcases hsplit w' hw' with h1 | h1
      ·unfold Oper.wp at h1;rw [hex] at h1;obtain ⟨s1,s2,_⟩:=hst w';generalize (execOp a.eval oj).run P w'=r at *
       cases r with
       | ok n w1=>exact s1 n w1 rfl
       | halt x w1 =>
        cases x <;> simp only [Oper.upon] at h1
        exact s2 _ _ rfl
      ·exact (hst w').2.2 h1
   ·have h1:=(H w' hw').2 j (ready_mono hj hji);have h2:=fZ5 (w0:=w) hoj (hfree j oj hoj hji hjun hnot) (fun cs b=>hsel i oi cs b hi) (fun cs b=>hsel j oj cs b hoj) hQ hy h1
    have hfree':∀ k ok,ops[k]?=some ok→k≠i→(listed.setIfInBounds j true).getD k true=false →
      (∀ e∈ok.after,Region.binds md e=true→e.on≠i)→oi.apart ops ok=true:=fun k ok hk hki hun hno=>by
     refine hfree k ok hk hki ?_ hno
     by_cases hjk:j=k
     ·subst hjk;exact hjun
     ·rw [getD_set_ne true hjk] at hun;exact hun
    refine wpOp_mono (fun a' w1 h3=>⟨h3.2.1,ih (listed.setIfInBounds j true) a' w1 (hsh.set hj) hfree' (ready_mono hr (Ne.symm hji)) (h3.1.mono (hw'.trans h3.2.1)) ?_⟩) h2;rw [Array.setIfInBounds_comm _ _ hji];exact h3.2.2
theorem gZx {o:Oper} {v:Value} {a:Act} {w:World} (hl:eZg o=true) (hy:pZ9 P ops o v a w):Yields P ops o v a:=by
 rcases hy with ⟨hw,hv⟩ | h
 ·refine .inl ⟨hw,?_⟩;have h1:=hv w (Gr.refl w)
  rcases cZx (P:=P) hl a.eval with ⟨u,hu⟩ | hst
  ·rw [(hu w).1,kZb] at h1;subst h1
   exact fun w'=>(hu w').1
  ·exfalso
   obtain ⟨s1,s2,_⟩:=hst w;generalize (execOp a.eval o).run P w=r at *
   cases r with
   | ok n w1=>exact s1 n w1 rfl
   | halt x w1=>simp only [qZx] at h1
 ·exact .inr h
theorem wpK_lone {pre:Nat→Bool} {i:Nat} {oi:Oper} {v:Value} (hi:ops[i]?=some oi) (hsel:∀ (j:Nat) (o:Oper) cs b,ops[j]?=some o→o.op≠.select cs b)
  (hQ:∀ c a w,Q (.panic c) (a.put oi.dst v) w→Q (.panic c) a w) (hpi:pre i=false) (hl:eZg oi=true) :
  ∀ (f:Nat) (listed:Array Bool) (a:Act) (w:World),
   (∀ j oj,ops[j]?=some oj→j≠i→listed.getD j true=false→(∀ e∈oj.after,Region.binds md e=true→e.on≠i)→oi.apart ops oj=true) →
   i∈Region.ready md ops listed→pZ9 P ops oi v a w→wpK P md ops Q pre f (listed.setIfInBounds i true) (a.put oi.dst v) w→wpK P md ops Q pre (f+1) listed a w:=by
 have hpre:∀ listed,qZ5 ops pre (listed.setIfInBounds i true)=true→qZ5 ops pre listed=true:=fun listed h=>by
  unfold qZ5 at *;rw [List.all_eq_true] at *;intro k hk;have h1:=h k hk
  by_cases e:i=k
  ·subst e;simp [hpi]
  ·rw [getD_set_ne false e] at h1;exact h1
 have tailcase:∀ (f:Nat) (listed:Array Bool) (a:Act) (w:World),
   (∀ j oj,ops[j]?=some oj→j≠i→listed.getD j true=false→(∀ e∈oj.after,Region.binds md e=true→e.on≠i)→oi.apart ops oj=true) →
   i∈Region.ready md ops listed→pZ9 P ops oi v a w→qZ5 ops pre listed=true→wpK P md ops Q pre f (listed.setIfInBounds i true) (a.put oi.dst v) w→wpK P md ops Q pre (f+1) listed a w:=by
  intro f listed a w hfree hr hy hp H
  have hany:∀ w',Gr w w'→wpAny P md ops Q f (listed.setIfInBounds i true) (a.put oi.dst v) w':=by
   cases f with
   | zero=>exact H
   | succ f =>
    rcases H with ⟨_,H⟩ | ⟨hp',_⟩
    ·exact H
    ·rw [cZ1 hp i] at hp';cases hp'
  exact .inl ⟨hp,fun w' hw'=>wpAny_first hi hsel hQ f listed a w' hfree hr (gZx hl hy) (hany w' hw')⟩
 intro f
 induction f with
 | zero =>
  intro listed a w hfree hr hy H
  cases hp:qZ5 ops pre listed with
  | true=>exact tailcase 0 listed a w hfree hr hy hp H
  | false =>
   refine .inr ⟨hp,fun w' hw'=>⟨fun h=>(by rw [h] at hr;cases hr),fun j hj=>?_⟩⟩
   by_cases hji:j=i
   ·subst hji;exact (hy.mono hw').wpOp hi fun w1 hw1=>⟨hw1,bZc H (hw'.trans hw1)⟩
   ·have:=ready_mono hj hji
    rw [(H w (Gr.refl w)).1] at this
    cases this
 | succ f ih =>
  intro listed a w hfree hr hy H
  cases hp:qZ5 ops pre listed with
  | true=>exact tailcase _ listed a w hfree hr hy hp H
  | false =>
   refine .inr ⟨hp,fun w' hw'=>⟨fun h=>(by rw [h] at hr;cases hr),fun j hj=>?_⟩⟩
   by_cases hji:j=i
   ·subst hji;exact (hy.mono hw').wpOp hi fun w1 hw1=>⟨hw1,bZc H (hw'.trans hw1)⟩
   ·obtain ⟨hjun,oj,hoj,hall⟩:=mem_ready.1 hj
    have hnot:∀ e∈oj.after,Region.binds md e=true→e.on≠i:=fun e he hb heq=>by
     have h1:=hall e he hb;have h0:=(mem_ready.1 hr).1;rw [heq] at h1
     rcases Nat.lt_or_ge i listed.size with h' | h'
     ·simp [h'] at h0 h1;rw [h0] at h1;cases h1
     ·simp [Array.getElem?_eq_none h'] at h1
    rcases H with ⟨hp',_⟩ | ⟨_,H⟩
    ·rw [hpre _ hp'] at hp;cases hp
    ·have h1:=(H w' hw').2 j (ready_mono hj hji);have h2:=fZ5 (w0:=w) hoj (hfree j oj hoj hji hjun hnot) (fun cs b=>hsel i oi cs b hi) (fun cs b=>hsel j oj cs b hoj) hQ hy h1
     have hfree':∀ k ok,ops[k]?=some ok→k≠i→(listed.setIfInBounds j true).getD k true=false →
       (∀ e∈ok.after,Region.binds md e=true→e.on≠i)→oi.apart ops ok=true:=fun k ok hk hki hun hno=>by
      refine hfree k ok hk hki ?_ hno
      by_cases hjk:j=k
      ·subst hjk;exact hjun
      ·rw [getD_set_ne true hjk] at hun;exact hun
     refine wpOp_mono (fun a' w1 h3=>⟨h3.2.1,ih (listed.setIfInBounds j true) a' w1 hfree' (ready_mono hr (Ne.symm hji)) (h3.1.mono (hw'.trans h3.2.1)) ?_⟩) h2;rw [Array.setIfInBounds_comm _ _ hji];exact h3.2.2
def gsB (md:Region.Mode) (ops:Array Oper) (pre:Nat→Bool):Nat→Nat→Array Bool→Bool
 | 0,_,_=>true
 | m+1,k,listed=>(pre k || (((ops[k]?).map eZg).getD false))&&(Region.ready md ops listed).contains k&&Region.free md ops listed k&&gsB md ops pre m (k+1) (listed.setIfInBounds k true)
def kZy:Nat→Nat→Array Bool→Array Bool
 | 0,_,l=>l
 | m+1,k,l=>kZy m (k+1) (l.setIfInBounds k true)
def wpG (P:Program) (ops:Array Oper) (w:World) (F:Act→Prop):List Oper→Act→Prop
 | [],a=>F a
 | o :: r,a=>∃ v,pZ9 P ops o v a w∧wpG P ops w F r (a.put o.dst v)
theorem eZb {pre:Nat→Bool} {w:World} (hs:Region.noSelect ops=true) (hQ:∀ c a w,¬ Q (.panic c) a w) (hT:tailB md ops pre=true) (g:Nat):∀ (m k:Nat) (l:List Oper) (listed:Array Bool) (a:Act),l.length=m→(∀ j,j<m→ops[k+j]?=l[j]?) →
  vZ3 md ops listed→gsB md ops pre m k listed=true→wpG P ops w (fun a'=>wpK P md ops Q pre g (kZy m k listed) a' w) l a→wpK P md ops Q pre (g+m) listed a w
 | 0,k,l,listed,a,hl,_,_,_,h=>by
  obtain rfl:=List.length_eq_zero_iff.1 hl;exact h
 | m+1,k,[],listed,a,hl,_,_,_,h=>by simp at hl
 | m+1,k,o :: l,listed,a,hl,hops,hsh,hB,h=>by
  have h0:ops[k]?=some o:=by simpa using hops 0 (by omega)
  simp only [gsB,Bool.and_eq_true] at hB;obtain ⟨⟨⟨hp,hr⟩,hf⟩,hB'⟩:=hB;obtain ⟨v,hy,hK⟩:=h
  have hr':k∈Region.ready md ops listed:=by simpa using hr
  have hrest:=eZb hs hQ hT g m (k+1) l _ _ (by simpa using hl) (fun j hj=>by have:=hops (j+1) (by omega);simpa [Nat.add_assoc,Nat.add_comm 1 j] using this) (hsh.set hr') hB' hK
  cases hpk:pre k with
  | true=>exact wpK_first h0 (Region.noSelect_spec hs) (fun c a w h=>(hQ _ _ _ h).elim) hpk hT (g+m) listed a w hsh (Region.free_spec h0 hf) hr' hy hrest
  | false =>
   rw [hpk,h0,Option.map_some,Option.getD_some,Bool.false_or] at hp;exact wpK_lone h0 (Region.noSelect_spec hs) (fun c a w h=>(hQ _ _ _ h).elim) hpk hp (g+m) listed a w (Region.free_spec h0 hf) hr' hy hrest
def kZ0 (Q:Exit→Act→World→Prop):Exit→Act→World→Prop
 | .panic _,_,_=>False
 | e,a,w=>Q e a w
theorem kZ0.imp {Q:Exit→Act→World→Prop}:∀ (e:Exit) (a:Act) (w:World),kZ0 Q e a w→Q e a w:=fun e a w h=>by
 cases e <;> first | exact h | exact (h:False).elim
def growB (ops:Array Oper) (m:Nat) (pre:Nat→Bool):Bool:=Region.noSelect ops&&tailB .any ops pre&&gsB .any ops pre m 0 (Array.replicate ops.size false)&&decide (m≤ops.size)
theorem jZg {id:Nat} {a:Act} {w:World} {l:List Oper} (m g:Nat) (pre:Nat→Bool) (hm:P.follows .mixedOrders=true) (hB:growB l.toArray m pre=true) (hg:l.length=g+m)
  (h:wpG P l.toArray w.drew (fun a'=>wpK P .any l.toArray (kZ0 Q) pre g (kZy m 0 (Array.replicate l.toArray.size false)) a' w.drew) (l.take m) a):(Code.region id l.toArray true).wp P Q a w:=by
 simp only [growB,Bool.and_eq_true,decide_eq_true_eq] at hB;obtain ⟨⟨⟨hs,hT⟩,hgs⟩,hle⟩:=hB
 have hle':m≤l.length:=by simpa using hle
 refine Code.wp_mono kZ0.imp (wp_region_any hm (vZd (pre:=pre) _ _ _ _ ?_))
 have:=eZb (md:=.any) (w:=w.drew) (Q:=kZ0 Q) hs (fun c a w h=>h) hT g m 0 (l.take m) _ a (by simp;omega) (fun j hj=>by simp [hj]) (vZ3.none _) hgs h
 have e:g+m=l.toArray.size:=by simp;omega
 rw [e] at this;exact this
theorem bZm {c:Code} {a:Act} {w:World} (h:∀ W0,W0=w→c.wp P Q a w):c.wp P Q a w:=h w rfl
theorem kZ0.gen {K:Act→World→Prop} {Q:Exit→Act→World→Prop} {a:Act} {w:World} (F:World→Prop) (hF:F w) (h:∀ w,F w→K a w):kZ0 (Exit.then K Q) .normal a w:=h w hF
theorem kZ0.thn {K:Act→World→Prop} {Q:Exit→Act→World→Prop} {a:Act} {w:World} (h:K a w):kZ0 (Exit.then K Q) .normal a w:=h
theorem bset {W0 w:World} {a:Addr} {u:Value} (h:Below W0.heap.size W0 w) (ha:W0.heap.size≤a.block):Below W0.heap.size W0 (w.setCell a u):=h.setCell ha u
theorem sZz {W0 w1 w2:World} (h:Below W0.heap.size W0 w1) (hb:Gr w1 w2):Below W0.heap.size W0 w2:=h.trans (hb.mono h.size)
theorem jZd {W0 w:World} {o:Obj} (h:Below W0.heap.size W0 w):Below W0.heap.size W0 (w.alloc o):=h.alloc h.size o
theorem jZ3 {w:World} {F:Act→Prop} {a:Act} {o:Oper} {r:List Oper} (h:∀ K:Act→Prop,(∀ a,wpG P ops w F r a→K a)→∃ v,pZ9 P ops o v a w∧K (a.put o.dst v)):wpG P ops w F (o :: r) a:=h _ fun _ h=>h
theorem jZ9 {w:World} {F:Act→Prop} {a:Act} (h:F a):wpG P ops w F [] a:=h
theorem grow_run {o:Oper} {a:Act} {w:World} {K:Act→Prop} (v:Value) (hw:Region.wanted o (yielded ops a.tmps)=true) (h:∀ w',Gr w w'→qZx P w' v ((execOp a.eval o).run P w')) (hK:K (a.put o.dst v)):∃ v,pZ9 P ops o v a w∧K (a.put o.dst v):=⟨v,.inl ⟨hw,h⟩,hK⟩
theorem kZr {o:Oper} {a:Act} {w:World} {K:Act→Prop} (hw:Region.wanted o (yielded ops a.tmps)=false) (hK:K (a.put o.dst undef)):∃ v,pZ9 P ops o v a w∧K (a.put o.dst v):=⟨undef,.inr ⟨hw,rfl⟩,hK⟩
theorem bZk {i:Nat} {o:Oper} {K:Act→World→Prop} {a:Act} {w:World} (ho:ops[i]?=some o) (hg:o.guard=none) (h:o.wp P a w K Q):wpOp P ops Q i K a w:=by
 unfold wpOp;simp only [ho];rw [if_pos (by simp [Region.wanted,hg])];exact .inl h
theorem sZ1 {pre:Nat→Bool} {f:Nat} {listed:Array Bool} {a:Act} {w:World} {i:Nat} {o:Oper} (hr:Region.ready md ops listed=[i]) (ho:ops[i]?=some o) (hg:o.guard=none) (hp:qZ5 ops pre listed=false)
  (h:∀ w',Gr w w'→o.wp P a w' (fun a' w1=>Gr w' w1∧wpK P md ops Q pre f (listed.setIfInBounds i true) a' w1) Q):wpK P md ops Q pre (f+1) listed a w :=
 .inr ⟨hp,fun w' hw'=>⟨fun h0=>(by rw [hr] at h0;cases h0),fun j hj=>by
  rw [hr] at hj;obtain rfl:=List.mem_singleton.1 hj
  exact bZk ho hg (h w' hw')⟩⟩
theorem jZn {f:Nat} {listed:Array Bool} {a:Act} {w:World} {i:Nat} {o:Oper} (hr:Region.ready md ops listed=[i]) (ho:ops[i]?=some o) (hg:o.guard=none)
  (h:o.wp P a w (wpAny P md ops Q f (listed.setIfInBounds i true)) Q):wpAny P md ops Q (f+1) listed a w :=
 ⟨fun h0=>(by rw [hr] at h0;cases h0),fun j hj=>by
  rw [hr] at hj;obtain rfl:=List.mem_singleton.1 hj
  exact bZk ho hg h⟩
theorem jZq {f:Nat} {listed:Array Bool} {a:Act} {w:World} (hr:Region.ready md ops listed=[]) (h:Q .normal a w):wpAny P md ops Q f listed a w:=by
 cases f with
 | zero=>exact ⟨hr,h⟩
 | succ f=>exact ⟨fun _=>h,by rw [hr];simp⟩
end
end
end Go.Proofs.YtfnpdlnepjhljaaGreat
