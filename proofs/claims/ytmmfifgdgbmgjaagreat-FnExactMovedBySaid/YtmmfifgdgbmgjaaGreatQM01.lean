import Derived.Test.YtmmfifgdgbmgjaaGreatRows
import Derived.WalkKit
import Derived.ProofKit
import Derived.OpenShut
import Derived.ShutString
import Derived.ChangeOld
import Derived.Below
import Derived.Lib.SmallJoins
import Derived.Orders
import Derived.RowKit
set_option linter.unusedVariables false
set_option linter.unusedSimpArgs false
set_option maxRecDepth 100000
set_option maxHeartbeats 16000000
namespace Go.Proofs.YtmmfifgdgbmgjaaGreat
open Go.RowKit
theorem gE {α : Type _} {xs : Array α} {i : Nat} {b : α} (h : xs[i]? = some b) : ∃ h : i < xs.size, xs[i] = b := Array.getElem?_eq_some_iff.1 h
theorem hD {p : Prop} (h : p) : Go.RowKit.Hid p := h
theorem evk (act : Act) : ∀ v, act.eval (.const v) = v := fun _ => rfl
theorem evkf (act : Act) : (∀ v, act.eval (.const v) = v) ∧ ∀ f, act.eval (.func f) = .func (.func f) #[] #[] := ⟨fun _ => rfl, fun _ => rfl⟩
theorem hbk {g : Nat} {w w' : World} {o : Obj} (hb : Below w.heap.size w w') (h : Go.RowKit.Hid (w.heap[g]? = some o)) : Go.RowKit.Hid (w'.heap[g]? = some o) := (hb.block _ (gE h).1).trans h
theorem evf (act : Act) : ∀ f, act.eval (.func f) = .func (.func f) #[] #[] := fun _ => rfl
section
open Go.ChangeShapes Go.WideShapes Go.ChangeAt Go.RowKit
theorem own:ownKnob Tryz.prog.godebug=none:=by kernel_rfl
theorem laidOut:laidOutB Tryz.prog=true:=by kernel_rfl
end
section
open Go.Joins Go.ChangeShapes Go.WideShapes Go.RowKit Go.Deep
section
variable {H:Type} {enc:TypeId × Value→H} {P:Program} {w:World} {base:Nat} {spare:Nat→Bool} {held:Bool}
end
end
section
section
variable {P:Program} {ops:Array Oper} {md:Region.Mode} {Q:Exit→Act→World→Prop}
def Gr (w w':World):Prop:=Below w.heap.size w w'
theorem Gr.refl (w:World):Gr w w:=Below.refl _ _
theorem Gr.trans {a b c:World} (h:Gr a b) (k:Gr b c):Gr a c:=Below.trans h (Below.mono k h.size)
theorem Gr.alloc (w:World) (o:Obj):Gr w (w.alloc o):=(Below.refl _ _).alloc (Nat.le_refl _) o
theorem Gr.out {w w':World} (h:Gr w w'):Below w.heap.size w w':=h
theorem Gr.of {w w':World} (h:Below w.heap.size w w'):Gr w w':=h
def growUpon (P:Program) (w:World) (v:Value):Result Next→Prop
 | .ok (.value u) w'=>w'=w∧u=v
 | .ok .skip w'=>w'=w∧v=undef
 | .ok (.enter f args) w'=>w'=w∧Calls P f args w (fun e w''=>e=.returned v∧Gr w w'')
 | _=>False
theorem growUpon_value (w:World) (u v:Value):growUpon P w v (.ok (.value u) w)=(u=v):=by simp [growUpon]
theorem growUpon_skip (w:World) (v:Value):growUpon P w v (.ok .skip w)=(v=undef):=by simp [growUpon]
theorem growUpon_enter (w:World) (v:Value) (f:FuncId) (args:Array Value):growUpon P w v (.ok (.enter f args) w)=Calls P f args w (fun e w''=>e=.returned v∧Gr w w''):=by simp [growUpon]
def GrowIn (P:Program) (ops:Array Oper) (o:Oper) (v:Value) (a:Act) (w:World):Prop :=
 (Region.wanted o (yielded ops a.tmps)=true∧∀ w',Gr w w'→growUpon P w' v ((execOp a.eval o).run P w'))∨(Region.wanted o (yielded ops a.tmps)=false∧v=undef)
theorem GrowIn.mono {o:Oper} {v:Value} {a:Act} {w w':World} (h:GrowIn P ops o v a w) (g:Gr w w'):GrowIn P ops o v a w' :=
 h.imp (fun ⟨h1,h2⟩=>⟨h1,fun x hx=>h2 x (g.trans hx)⟩) id
theorem GrowIn.of_same {o:Oper} {v:Value} {a a':Act} {w:World} (hy:GrowIn P ops o v a w) (he:execOp a'.eval o=execOp a.eval o)
  (hw:Region.wanted o (yielded ops a'.tmps)=Region.wanted o (yielded ops a.tmps)):GrowIn P ops o v a' w:=by
 unfold GrowIn at *;rw [he,hw];exact hy
theorem GrowIn.wpOp {i:Nat} {o:Oper} {v:Value} {a:Act} {w:World} (hi:ops[i]?=some o) (hy:GrowIn P ops o v a w) {K:Act→World→Prop} (h:∀ w',Gr w w'→K (a.put o.dst v) w'):wpOp P ops Q i K a w:=by
 unfold Go.wpOp;simp only [hi]
 rcases hy with ⟨hw,hv⟩ | ⟨hw,rfl⟩
 ·simp only [hw,if_true]
  left
  have h3:=hv w (Gr.refl w);unfold Oper.wp;generalize (execOp a.eval o).run P w=r at *
  cases r with
  | ok n w' =>
   cases n <;> simp only [growUpon] at h3 <;> simp only [Oper.upon]
   case value u=>obtain ⟨e1,e2⟩:=h3;rw [e1,e2];exact h _ (Gr.refl _)
   case skip=>obtain ⟨e1,e2⟩:=h3;rw [e1,<- e2];exact h _ (Gr.refl _)
   case enter f args =>
    obtain ⟨e1,hc⟩:=h3;rw [e1]
    exact hc.mono fun e w'' ⟨he,hw''⟩=>by subst he;exact h _ hw''
  | halt x w'=>simp only [growUpon] at h3
 ·simp only [hw,Bool.false_eq_true,if_false];exact h _ (Gr.refl _)
theorem wpOp_putG {j:Nat} {oi oj:Oper} {v:Value} {w0:World} (hj:ops[j]?=some oj) (hap:oi.apart ops oj=true)
  (hsi:∀ cs b,oi.op≠.select cs b) (hsj:∀ cs b,oj.op≠.select cs b)
  (hQ:∀ c a w,Q (.panic c) (a.put oi.dst v) w→Q (.panic c) a w) {K:Act→World→Prop} {a:Act} {w:World}
  (hy:GrowIn P ops oi v a w0) (h:wpOp P ops Q j K (a.put oi.dst v) w) :
  wpOp P ops Q j (fun a' w'=>GrowIn P ops oi v a' w0∧K (a'.put oi.dst v) w') a w:=by
 obtain ⟨h1,h2,h3⟩:=Oper.apart_spec hap
 have keep:∀ (a:Act),GrowIn P ops oi v a w0→∀ u,GrowIn P ops oi v (a.put oj.dst u) w0:=fun a hy u =>
  hy.of_same (execOp_put oi hsi a oj.dst u h3) (wanted_put oi a oj.dst u h3)
 have keepD:∀ d,GrowIn P ops oi v { a with defers:=d :: a.defers } w0:=fun d=>hy.of_same rfl rfl
 unfold wpOp at *;simp only [hj] at *;rw [wanted_put oj a oi.dst v h1] at h
 split
 ·rename_i hw
  simp only [hw,if_true] at h
  rcases h with h | ⟨hasks,hlets⟩
  case inr=>exact .inr ⟨by unfold Oper.asks at *;rw [execOp_put oj hsj a oi.dst v h1] at hasks;exact hasks,hlets⟩
  refine .inl ?_;unfold Oper.wp at *;rw [execOp_put oj hsj a oi.dst v h1] at h;generalize (execOp a.eval oj).run P w=r at *
  cases r with
  | ok n w' =>
   cases n <;> simp only [Oper.upon] at h ⊢
   case value u=>exact ⟨keep a hy u,by rw [<- Act.put_comm a v u h2];exact h⟩
   case skip=>exact ⟨keep a hy _,by rw [<- Act.put_comm a v undef h2];exact h⟩
   case defer d =>
    refine ⟨keep _ (keepD d) _,?_⟩;rw [<- Act.put_comm _ v undef h2,<- Act.put_defers];exact h
   case enter f args =>
    refine Calls.mono h fun e w'' he=>?_
    cases e with
    | returned u=>exact ⟨keep a hy u,by rw [<- Act.put_comm a v u h2];exact he⟩
    | panicked c=>exact hQ _ _ _ he
    | outgrown=>exact he
   case row row args=>exact Rows.mono h fun u w'' he=>⟨keep a hy u,by rw [<- Act.put_comm a v u h2];exact he⟩
  | halt x w' =>
   cases x <;> simp only [Oper.upon] at h ⊢
   case panic u=>exact hQ _ _ _ h
 ·rename_i hw
  simp only [hw] at h;exact ⟨keep a hy _,by rw [<- Act.put_comm a v undef h2];exact h⟩
def loneB (o:Oper):Bool:=o.guard.isNone&&match o.op with | .extract _ _=>true | _=>false
theorem lone_cases {o:Oper} (h:loneB o=true) (ρ:Operand→Value):(∃ u,∀ w,(execOp ρ o).run P w=.ok (.value u) w∧noRoomEvent ∉ ((execOp ρ o).runT P w #[]).2)∨(∀ w,(∀ n w',(execOp ρ o).run P w≠.ok n w')∧(∀ v w',(execOp ρ o).run P w≠.halt (.panic v) w')∧noRoomEvent ∉ ((execOp ρ o).runT P w #[]).2):=by
 obtain ⟨dst,op,type,pos,after,guard⟩:=o;simp only [loneB,Bool.and_eq_true] at h
 cases op <;> simp only [Bool.false_eq_true,and_false] at h
 rename_i t ix
 simp only [execOp]
 cases hv:ρ t
 case tuple vs =>
  simp only [Instr.extract]
  cases hx:vs[ix]? with
  | some v=>exact .inl ⟨v,fun w=>⟨rfl,by show noRoomEvent ∉ (#[]:Array _);simp⟩⟩
  | none=>exact .inr fun w=>⟨fun n w' e=>(by cases e),fun v w' e=>(by cases e),by show noRoomEvent ∉ (#[]:Array _);simp⟩
 all_goals
  simp only [Instr.extract]
  exact .inr fun w=>⟨fun n w' e=>(by cases e),fun v w' e=>(by cases e),by show noRoomEvent ∉ (#[]:Array _);simp⟩
def allPre (ops:Array Oper) (pre:Nat→Bool) (listed:Array Bool):Bool:=(List.range ops.size).all fun i=>!pre i || listed.getD i false
def Shutl (md:Region.Mode) (ops:Array Oper) (listed:Array Bool):Prop :=
 ∀ k o,ops[k]?=some o→listed.getD k false=true→∀ e∈o.after,Region.binds md e=true→listed.getD e.on false=true
def markAll (l:List Nat) (m:Array Bool):Array Bool:=l.foldl (fun m j=>m.setIfInBounds j true) m
def aftersOf (md:Region.Mode) (ops:Array Oper) (k:Nat):List Nat:=match ops[k]? with
 | none=>[]
 | some o=>(o.after.toList.filter (Region.binds md)).map (·.on)
def downB (md:Region.Mode) (ops:Array Oper):Nat→Array Bool→Array Bool
 | 0,m=>m
 | i+1,m=>downB md ops i (if m.getD i false then markAll (aftersOf md ops i) m else m)
def tailB (md:Region.Mode) (ops:Array Oper) (pre:Nat→Bool):Bool :=
 (List.range ops.size).all fun k=>pre k || (((ops[k]?).map loneB).getD false) || (List.range ops.size).all fun i=>!pre i || (downB md ops ops.size (markAll (aftersOf md ops k) (Array.replicate ops.size false))).getD i false
theorem markAll_sub {listed:Array Bool}:∀ (l:List Nat) (m:Array Bool),(∀ j,m.getD j false=true→listed.getD j false=true)→(∀ j∈l,listed.getD j false=true) →
  ∀ j,(markAll l m).getD j false=true→listed.getD j false=true
 | [],m,h,_,j,hj=>h j hj
 | x :: l,m,h,hl,j,hj=>by
  refine markAll_sub l (m.setIfInBounds x true) (fun y hy=>?_) (fun y hy=>hl y (List.mem_cons_of_mem _ hy)) j hj
  by_cases e:x=y
  ·subst e;exact hl x List.mem_cons_self
  ·rw [getD_set_ne false e] at hy;exact h y hy
theorem aftersOf_sub {listed:Array Bool} (hs:Shutl md ops listed) {i:Nat} (hi:listed.getD i false=true):∀ j∈aftersOf md ops i,listed.getD j false=true:=by
 intro j hj;unfold aftersOf at hj
 split at hj
 ·cases hj
 ·rename_i o ho
  obtain ⟨e,he,rfl⟩:=List.mem_map.1 hj;obtain ⟨he1,he2⟩:=List.mem_filter.1 he;exact hs i o ho hi e (by simpa using he1) he2
theorem downB_sub {listed:Array Bool} (hs:Shutl md ops listed):∀ (n:Nat) (m:Array Bool),(∀ j,m.getD j false=true→listed.getD j false=true)→∀ j,(downB md ops n m).getD j false=true→listed.getD j false=true
 | 0,m,h,j,hj=>h j hj
 | n+1,m,h,j,hj=>by
  refine downB_sub hs n _ ?_ j hj
  split
  ·rename_i hm
   exact markAll_sub _ _ h (aftersOf_sub hs (h n hm))
  ·exact h
theorem tail_ready {pre:Nat→Bool} {listed:Array Bool} (hT:tailB md ops pre=true) (hs:Shutl md ops listed) {k:Nat} (hk:k∈Region.ready md ops listed) (hp:pre k=false) {ok:Oper} (hok:ops[k]?=some ok) (hl:loneB ok=false) :
  ∀ i,i<ops.size→pre i=true→listed.getD i false=true:=by
 intro i hi hpi;obtain ⟨_,o,ho,hall⟩:=mem_ready.1 hk;have hlt:=(gE ho).1;have h1:=List.all_eq_true.1 hT k (List.mem_range.2 hlt);simp only [hp,hok,hl,Option.map_some,Option.getD_some,Bool.false_or] at h1;have h2:=List.all_eq_true.1 h1 i (List.mem_range.2 hi);simp only [hpi,Bool.not_true,Bool.false_or] at h2;refine downB_sub hs _ _ ?_ i h2;refine markAll_sub _ _ (fun j hj=>?_) ?_
 ·rw [Array.getD_eq_getD_getElem?,Array.getElem?_replicate] at hj
  split at hj <;> simp at hj
 ·intro j hj;unfold aftersOf at hj;rw [ho] at hj;obtain ⟨e,he,rfl⟩:=List.mem_map.1 hj;obtain ⟨he1,he2⟩:=List.mem_filter.1 he;exact hall e (by simpa using he1) he2
theorem Shutl.set {listed:Array Bool} (hs:Shutl md ops listed) {j:Nat} (hj:j∈Region.ready md ops listed):Shutl md ops (listed.setIfInBounds j true):=by
 intro k o ho hk e he hb;obtain ⟨_,oj,hoj,hall⟩:=mem_ready.1 hj
 by_cases hjk:j=k
 ·subst hjk;rw [ho] at hoj;obtain rfl:=Option.some.inj hoj;exact getD_set_true (hall e he hb)
 ·rw [getD_set_ne false hjk] at hk;exact getD_set_true (hs k o ho hk e he hb)
theorem Shutl.none (n:Nat):Shutl md ops (Array.replicate n false):=by
 intro k o ho hk;rw [Array.getD_eq_getD_getElem?,Array.getElem?_replicate] at hk
 split at hk <;> simp at hk
def wpK (P:Program) (md:Region.Mode) (ops:Array Oper) (Q:Exit→Act→World→Prop) (pre:Nat→Bool):Nat→Array Bool→Act→World→Prop
 | 0,listed,a,w=>∀ w',Gr w w'→wpAny P md ops Q 0 listed a w'
 | f+1,listed,a,w=>(allPre ops pre listed=true∧∀ w',Gr w w'→wpAny P md ops Q (f+1) listed a w') ∨
   (allPre ops pre listed=false∧∀ w',Gr w w'→(Region.ready md ops listed=[]→Q .normal a w')∧∀ j∈Region.ready md ops listed,wpOp P ops Q j (fun a' w1=>Gr w' w1∧wpK P md ops Q pre f (listed.setIfInBounds j true) a' w1) a w')
theorem wpK_mono {pre:Nat→Bool}:∀ {f:Nat} {listed:Array Bool} {a:Act} {w w':World},wpK P md ops Q pre f listed a w→Gr w w'→wpK P md ops Q pre f listed a w'
 | 0,_,_,_,_,h,g=>fun x hx=>h x (g.trans hx)
 | _+1,_,_,_,_,h,g=>h.imp (fun ⟨h1,h2⟩=>⟨h1,fun x hx=>h2 x (g.trans hx)⟩) (fun ⟨h1,h2⟩=>⟨h1,fun x hx=>h2 x (g.trans hx)⟩)
theorem wpAny_of_K {pre:Nat→Bool}:∀ (f:Nat) (listed:Array Bool) (a:Act) (w:World),wpK P md ops Q pre f listed a w→wpAny P md ops Q f listed a w
 | 0,_,_,w,h=>h w (Gr.refl w)
 | f+1,_,_,w,.inl h=>h.2 w (Gr.refl w)
 | f+1,_,_,w,.inr h=>⟨(h.2 w (Gr.refl w)).1,fun i hi=>wpOp_mono (fun a' w' h'=>wpAny_of_K f _ a' w' h'.2) ((h.2 w (Gr.refl w)).2 i hi)⟩
theorem wpK_tail {pre:Nat→Bool} {f:Nat} {listed:Array Bool} {a:Act} {w:World} (hp:allPre ops pre listed=true) (h:∀ w',Gr w w'→wpAny P md ops Q f listed a w'):wpK P md ops Q pre f listed a w:=by
 cases f with
 | zero=>exact h
 | succ f=>exact .inl ⟨hp,h⟩
theorem allPre_set {pre:Nat→Bool} {listed:Array Bool} (h:allPre ops pre listed=true) (j:Nat):allPre ops pre (listed.setIfInBounds j true)=true:=by
 unfold allPre at *;rw [List.all_eq_true] at *;intro k hk
 have:=h k hk
 rw [Bool.or_eq_true] at *;exact this.imp id getD_set_true
theorem wpK_first {pre:Nat→Bool} {i:Nat} {oi:Oper} {v:Value} (hi:ops[i]?=some oi) (hsel:∀ (j:Nat) (o:Oper) cs b,ops[j]?=some o→o.op≠.select cs b)
  (hQ:∀ c a w,Q (.panic c) (a.put oi.dst v) w→Q (.panic c) a w) (hpi:pre i=true) (hT:tailB md ops pre=true) :
  ∀ (f:Nat) (listed:Array Bool) (a:Act) (w:World),Shutl md ops listed →
   (∀ j oj,ops[j]?=some oj→j≠i→listed.getD j true=false→(∀ e∈oj.after,Region.binds md e=true→e.on≠i)→oi.apart ops oj=true) →
   i∈Region.ready md ops listed→GrowIn P ops oi v a w→wpK P md ops Q pre f (listed.setIfInBounds i true) (a.put oi.dst v) w→wpK P md ops Q pre (f+1) listed a w:=by
 have hlt:=(gE hi).1
 have hnotpre:∀ listed,i∈Region.ready md ops listed→allPre ops pre listed=false:=fun listed hr=>by
  rw [Bool.eq_false_iff];intro hall;have h1:=List.all_eq_true.1 hall i (List.mem_range.2 hlt);simp only [hpi,Bool.not_true,Bool.false_or] at h1;have h0:=(mem_ready.1 hr).1
  rcases Nat.lt_or_ge i listed.size with h' | h'
  ·simp [h'] at h0 h1;rw [h0] at h1;cases h1
  ·simp [Array.getElem?_eq_none h'] at h1
 intro f
 induction f with
 | zero =>
  intro listed a w hsh hfree hr hy H;refine .inr ⟨hnotpre listed hr,fun w' hw'=>⟨fun h=>(by rw [h] at hr;cases hr),fun j hj=>?_⟩⟩
  by_cases hji:j=i
  ·subst hji;exact (hy.mono hw').wpOp hi fun w1 hw1=>⟨hw1,wpK_mono H (hw'.trans hw1)⟩
  ·have:=ready_mono hj hji
   rw [(H w (Gr.refl w)).1] at this
   cases this
 | succ f ih =>
  intro listed a w hsh hfree hr hy H;refine .inr ⟨hnotpre listed hr,fun w' hw'=>⟨fun h=>(by rw [h] at hr;cases hr),fun j hj=>?_⟩⟩
  by_cases hji:j=i
  ·subst hji;exact (hy.mono hw').wpOp hi fun w1 hw1=>⟨hw1,wpK_mono H (hw'.trans hw1)⟩
  ·obtain ⟨hjun,oj,hoj,hall⟩:=mem_ready.1 hj
   have hnot:∀ e∈oj.after,Region.binds md e=true→e.on≠i:=fun e he hb heq=>by
    have h1:=hall e he hb;have h0:=(mem_ready.1 hr).1;rw [heq] at h1
    rcases Nat.lt_or_ge i listed.size with h' | h'
    ·simp [h'] at h0 h1;rw [h0] at h1;cases h1
    ·simp [Array.getElem?_eq_none h'] at h1
   rcases H with ⟨hp,H⟩ | ⟨hp,H⟩
   ·have hpj:pre j=false:=by
     rw [Bool.eq_false_iff];intro hpj;have hjlt:=(gE hoj).1;have h1:=List.all_eq_true.1 hp j (List.mem_range.2 hjlt);simp only [hpj,Bool.not_true,Bool.false_or] at h1;rw [getD_set_ne false (Ne.symm hji)] at h1
     rcases Nat.lt_or_ge j listed.size with h' | h'
     ·simp [h'] at hjun h1;rw [hjun] at h1;cases h1
     ·simp [Array.getElem?_eq_none h'] at h1
    cases hl:loneB oj
    ·exfalso
     have h1:=tail_ready hT hsh hj hpj hoj hl i hlt hpi;have h0:=(mem_ready.1 hr).1
     rcases Nat.lt_or_ge i listed.size with h' | h'
     ·simp [h'] at h0 h1;rw [h0] at h1;cases h1
     ·simp [Array.getElem?_eq_none h'] at h1
    ·obtain ⟨p1,p2,p3⟩:=Oper.apart_spec (hfree j oj hoj hji hjun hnot)
     have hg:oj.guard=none:=by
      simp only [loneB,Bool.and_eq_true,Option.isNone_iff_eq_none] at hl;exact hl.1
     have hwant:∀ x:Act,Region.wanted oj (yielded ops x.tmps)=true:=fun x=>by simp [Region.wanted,hg]
     have hex:=execOp_put oj (fun cs b=>hsel j oj cs b hoj) a oi.dst v p1
     have hall:∀ w'',Gr w w''→wpOp P ops Q j (wpAny P md ops Q f ((listed.setIfInBounds i true).setIfInBounds j true)) (a.put oi.dst v) w'':=fun w'' hw''=>(H w'' hw'').2 j (ready_mono hj hji)
     have hsplit:∀ w'',Gr w w''→oj.wp P (a.put oi.dst v) w'' (wpAny P md ops Q f ((listed.setIfInBounds i true).setIfInBounds j true)) Q∨noRoomEvent∈((execOp a.eval oj).runT P w'' #[]).2:=fun w'' hw''=>by
      have h1:=hall w'' hw'';unfold wpOp at h1;simp only [hoj,hwant,if_true] at h1
      rcases h1 with h1 | ⟨h1,_⟩
      ·exact .inl h1
      ·unfold Oper.asks at h1;rw [hex] at h1;exact .inr h1.1
     rcases lone_cases (P:=P) hl a.eval with ⟨u,hu⟩ | hst
     ·have hK:∀ w'',Gr w w''→wpAny P md ops Q f ((listed.setIfInBounds i true).setIfInBounds j true) ((a.put oi.dst v).put oj.dst u) w'':=fun w'' hw''=>by
       rcases hsplit w'' hw'' with h1 | h1
       ·unfold Oper.wp at h1;rw [hex,(hu w'').1] at h1;exact h1
       ·exact absurd h1 (hu w'').2
      unfold wpOp;simp only [hoj,hwant,if_true];refine .inl ?_;unfold Oper.wp;rw [(hu w').1];refine ⟨Gr.refl _,?_⟩
      have hfree':∀ k ok,ops[k]?=some ok→k≠i→(listed.setIfInBounds j true).getD k true=false →
        (∀ e∈ok.after,Region.binds md e=true→e.on≠i)→oi.apart ops ok=true:=fun k ok hk hki hun hno=>by
       refine hfree k ok hk hki ?_ hno
       by_cases hjk:j=k
       ·subst hjk;exact hjun
       ·rw [getD_set_ne true hjk] at hun;exact hun
      refine ih (listed.setIfInBounds j true) (a.put oj.dst u) w' (hsh.set hj) hfree' (ready_mono hr (Ne.symm hji)) ((hy.of_same (execOp_put oi (fun cs b=>hsel i oi cs b hi) a oj.dst u p3) (wanted_put oi a oj.dst u p3)).mono hw') ?_
      refine wpK_tail ?_ fun w'' hw''=>?_
      ·rw [Array.setIfInBounds_comm _ _ hji];exact allPre_set hp j
      ·rw [Array.setIfInBounds_comm _ _ hji,<- Act.put_comm a v u p2];exact hK w'' (hw'.trans hw'')
     ·exfalso
      rcases hsplit w' hw' with h1 | h1
      ·unfold Oper.wp at h1;rw [hex] at h1;obtain ⟨s1,s2,_⟩:=hst w';generalize (execOp a.eval oj).run P w'=r at *
       cases r with
       | ok n w1=>exact s1 n w1 rfl
       | halt x w1 =>
        cases x <;> simp only [Oper.upon] at h1
        exact s2 _ _ rfl
      ·exact (hst w').2.2 h1
   ·have h1:=(H w' hw').2 j (ready_mono hj hji);have h2:=wpOp_putG (w0:=w) hoj (hfree j oj hoj hji hjun hnot) (fun cs b=>hsel i oi cs b hi) (fun cs b=>hsel j oj cs b hoj) hQ hy h1
    have hfree':∀ k ok,ops[k]?=some ok→k≠i→(listed.setIfInBounds j true).getD k true=false →
      (∀ e∈ok.after,Region.binds md e=true→e.on≠i)→oi.apart ops ok=true:=fun k ok hk hki hun hno=>by
     refine hfree k ok hk hki ?_ hno
     by_cases hjk:j=k
     ·subst hjk;exact hjun
     ·rw [getD_set_ne true hjk] at hun;exact hun
    refine wpOp_mono (fun a' w1 h3=>⟨h3.2.1,ih (listed.setIfInBounds j true) a' w1 (hsh.set hj) hfree' (ready_mono hr (Ne.symm hji)) (h3.1.mono (hw'.trans h3.2.1)) ?_⟩) h2;rw [Array.setIfInBounds_comm _ _ hji];exact h3.2.2
theorem lone_yields {o:Oper} {v:Value} {a:Act} {w:World} (hl:loneB o=true) (hy:GrowIn P ops o v a w):Yields P ops o v a:=by
 rcases hy with ⟨hw,hv⟩ | h
 ·refine .inl ⟨hw,?_⟩;have h1:=hv w (Gr.refl w)
  rcases lone_cases (P:=P) hl a.eval with ⟨u,hu⟩ | hst
  ·rw [(hu w).1,growUpon_value] at h1;subst h1
   exact fun w'=>(hu w').1
  ·exfalso
   obtain ⟨s1,s2,_⟩:=hst w;generalize (execOp a.eval o).run P w=r at *
   cases r with
   | ok n w1=>exact s1 n w1 rfl
   | halt x w1=>simp only [growUpon] at h1
 ·exact .inr h
theorem wpK_lone {pre:Nat→Bool} {i:Nat} {oi:Oper} {v:Value} (hi:ops[i]?=some oi) (hsel:∀ (j:Nat) (o:Oper) cs b,ops[j]?=some o→o.op≠.select cs b)
  (hQ:∀ c a w,Q (.panic c) (a.put oi.dst v) w→Q (.panic c) a w) (hpi:pre i=false) (hl:loneB oi=true) :
  ∀ (f:Nat) (listed:Array Bool) (a:Act) (w:World),
   (∀ j oj,ops[j]?=some oj→j≠i→listed.getD j true=false→(∀ e∈oj.after,Region.binds md e=true→e.on≠i)→oi.apart ops oj=true) →
   i∈Region.ready md ops listed→GrowIn P ops oi v a w→wpK P md ops Q pre f (listed.setIfInBounds i true) (a.put oi.dst v) w→wpK P md ops Q pre (f+1) listed a w:=by
 have hpre:∀ listed,allPre ops pre (listed.setIfInBounds i true)=true→allPre ops pre listed=true:=fun listed h=>by
  unfold allPre at *;rw [List.all_eq_true] at *;intro k hk;have h1:=h k hk
  by_cases e:i=k
  ·subst e;simp [hpi]
  ·rw [getD_set_ne false e] at h1;exact h1
 have tailcase:∀ (f:Nat) (listed:Array Bool) (a:Act) (w:World),
   (∀ j oj,ops[j]?=some oj→j≠i→listed.getD j true=false→(∀ e∈oj.after,Region.binds md e=true→e.on≠i)→oi.apart ops oj=true) →
   i∈Region.ready md ops listed→GrowIn P ops oi v a w→allPre ops pre listed=true→wpK P md ops Q pre f (listed.setIfInBounds i true) (a.put oi.dst v) w→wpK P md ops Q pre (f+1) listed a w:=by
  intro f listed a w hfree hr hy hp H
  have hany:∀ w',Gr w w'→wpAny P md ops Q f (listed.setIfInBounds i true) (a.put oi.dst v) w':=by
   cases f with
   | zero=>exact H
   | succ f =>
    rcases H with ⟨_,H⟩ | ⟨hp',_⟩
    ·exact H
    ·rw [allPre_set hp i] at hp';cases hp'
  exact .inl ⟨hp,fun w' hw'=>wpAny_first hi hsel hQ f listed a w' hfree hr (lone_yields hl hy) (hany w' hw')⟩
 intro f
 induction f with
 | zero =>
  intro listed a w hfree hr hy H
  cases hp:allPre ops pre listed with
  | true=>exact tailcase 0 listed a w hfree hr hy hp H
  | false =>
   refine .inr ⟨hp,fun w' hw'=>⟨fun h=>(by rw [h] at hr;cases hr),fun j hj=>?_⟩⟩
   by_cases hji:j=i
   ·subst hji;exact (hy.mono hw').wpOp hi fun w1 hw1=>⟨hw1,wpK_mono H (hw'.trans hw1)⟩
   ·have:=ready_mono hj hji
    rw [(H w (Gr.refl w)).1] at this
    cases this
 | succ f ih =>
  intro listed a w hfree hr hy H
  cases hp:allPre ops pre listed with
  | true=>exact tailcase _ listed a w hfree hr hy hp H
  | false =>
   refine .inr ⟨hp,fun w' hw'=>⟨fun h=>(by rw [h] at hr;cases hr),fun j hj=>?_⟩⟩
   by_cases hji:j=i
   ·subst hji;exact (hy.mono hw').wpOp hi fun w1 hw1=>⟨hw1,wpK_mono H (hw'.trans hw1)⟩
   ·obtain ⟨hjun,oj,hoj,hall⟩:=mem_ready.1 hj
    have hnot:∀ e∈oj.after,Region.binds md e=true→e.on≠i:=fun e he hb heq=>by
     have h1:=hall e he hb;have h0:=(mem_ready.1 hr).1;rw [heq] at h1
     rcases Nat.lt_or_ge i listed.size with h' | h'
     ·simp [h'] at h0 h1;rw [h0] at h1;cases h1
     ·simp [Array.getElem?_eq_none h'] at h1
    rcases H with ⟨hp',_⟩ | ⟨_,H⟩
    ·rw [hpre _ hp'] at hp;cases hp
    ·have h1:=(H w' hw').2 j (ready_mono hj hji);have h2:=wpOp_putG (w0:=w) hoj (hfree j oj hoj hji hjun hnot) (fun cs b=>hsel i oi cs b hi) (fun cs b=>hsel j oj cs b hoj) hQ hy h1
     have hfree':∀ k ok,ops[k]?=some ok→k≠i→(listed.setIfInBounds j true).getD k true=false →
       (∀ e∈ok.after,Region.binds md e=true→e.on≠i)→oi.apart ops ok=true:=fun k ok hk hki hun hno=>by
      refine hfree k ok hk hki ?_ hno
      by_cases hjk:j=k
      ·subst hjk;exact hjun
      ·rw [getD_set_ne true hjk] at hun;exact hun
     refine wpOp_mono (fun a' w1 h3=>⟨h3.2.1,ih (listed.setIfInBounds j true) a' w1 hfree' (ready_mono hr (Ne.symm hji)) (h3.1.mono (hw'.trans h3.2.1)) ?_⟩) h2;rw [Array.setIfInBounds_comm _ _ hji];exact h3.2.2
def gsB (md:Region.Mode) (ops:Array Oper) (pre:Nat→Bool):Nat→Nat→Array Bool→Bool
 | 0,_,_=>true
 | m+1,k,listed=>(pre k || (((ops[k]?).map loneB).getD false))&&(Region.ready md ops listed).contains k&&Region.free md ops listed k&&gsB md ops pre m (k+1) (listed.setIfInBounds k true)
def listedTo:Nat→Nat→Array Bool→Array Bool
 | 0,_,l=>l
 | m+1,k,l=>listedTo m (k+1) (l.setIfInBounds k true)
def wpG (P:Program) (ops:Array Oper) (w:World) (F:Act→Prop):List Oper→Act→Prop
 | [],a=>F a
 | o :: r,a=>∃ v,GrowIn P ops o v a w∧wpG P ops w F r (a.put o.dst v)
theorem wpG_text {pre:Nat→Bool} {w:World} (hs:Region.noSelect ops=true) (hQ:∀ c a w,¬ Q (.panic c) a w) (hT:tailB md ops pre=true) (g:Nat):∀ (m k:Nat) (l:List Oper) (listed:Array Bool) (a:Act),l.length=m→(∀ j,j<m→ops[k+j]?=l[j]?) →
  Shutl md ops listed→gsB md ops pre m k listed=true→wpG P ops w (fun a'=>wpK P md ops Q pre g (listedTo m k listed) a' w) l a→wpK P md ops Q pre (g+m) listed a w
 | 0,k,l,listed,a,hl,_,_,_,h=>by
  obtain rfl:=List.length_eq_zero_iff.1 hl;exact h
 | m+1,k,[],listed,a,hl,_,_,_,h=>by simp at hl
 | m+1,k,o :: l,listed,a,hl,hops,hsh,hB,h=>by
  have h0:ops[k]?=some o:=by simpa using hops 0 (by omega)
  simp only [gsB,Bool.and_eq_true] at hB;obtain ⟨⟨⟨hp,hr⟩,hf⟩,hB'⟩:=hB;obtain ⟨v,hy,hK⟩:=h
  have hr':k∈Region.ready md ops listed:=by simpa using hr
  have hrest:=wpG_text hs hQ hT g m (k+1) l _ _ (by simpa using hl) (fun j hj=>by have:=hops (j+1) (by omega);simpa [Nat.add_assoc,Nat.add_comm 1 j] using this) (hsh.set hr') hB' hK
  cases hpk:pre k with
  | true=>exact wpK_first h0 (Region.noSelect_spec hs) (fun c a w h=>(hQ _ _ _ h).elim) hpk hT (g+m) listed a w hsh (Region.free_spec h0 hf) hr' hy hrest
  | false =>
   rw [hpk,h0,Option.map_some,Option.getD_some,Bool.false_or] at hp;exact wpK_lone h0 (Region.noSelect_spec hs) (fun c a w h=>(hQ _ _ _ h).elim) hpk hp (g+m) listed a w (Region.free_spec h0 hf) hr' hy hrest
def NoPan (Q:Exit→Act→World→Prop):Exit→Act→World→Prop
 | .panic _,_,_=>False
 | e,a,w=>Q e a w
theorem NoPan.imp {Q:Exit→Act→World→Prop}:∀ (e:Exit) (a:Act) (w:World),NoPan Q e a w→Q e a w:=fun e a w h=>by
 cases e <;> first | exact h | exact (h:False).elim
def growB (ops:Array Oper) (m:Nat) (pre:Nat→Bool):Bool:=Region.noSelect ops&&tailB .any ops pre&&gsB .any ops pre m 0 (Array.replicate ops.size false)&&decide (m≤ops.size)
theorem wp_region_grow {id:Nat} {a:Act} {w:World} {l:List Oper} (m g:Nat) (pre:Nat→Bool) (hm:P.follows .mixedOrders=true) (hB:growB l.toArray m pre=true) (hg:l.length=g+m)
  (h:wpG P l.toArray w.drew (fun a'=>wpK P .any l.toArray (NoPan Q) pre g (listedTo m 0 (Array.replicate l.toArray.size false)) a' w.drew) (l.take m) a):(Code.region id l.toArray true).wp P Q a w:=by
 simp only [growB,Bool.and_eq_true,decide_eq_true_eq] at hB;obtain ⟨⟨⟨hs,hT⟩,hgs⟩,hle⟩:=hB
 have hle':m≤l.length:=by simpa using hle
 refine Code.wp_mono NoPan.imp (wp_region_any hm (wpAny_of_K (pre:=pre) _ _ _ _ ?_))
 have:=wpG_text (md:=.any) (w:=w.drew) (Q:=NoPan Q) hs (fun c a w h=>h) hT g m 0 (l.take m) _ a (by simp;omega) (fun j hj=>by simp [hj]) (Shutl.none _) hgs h
 have e:g+m=l.toArray.size:=by simp;omega
 rw [e] at this;exact this
theorem wp_named {c:Code} {a:Act} {w:World} (h:∀ W0,W0=w→c.wp P Q a w):c.wp P Q a w:=h w rfl
theorem NoPan.gen {K:Act→World→Prop} {Q:Exit→Act→World→Prop} {a:Act} {w:World} (F:World→Prop) (hF:F w) (h:∀ w,F w→K a w):NoPan (Exit.then K Q) .normal a w:=h w hF
theorem NoPan.thn {K:Act→World→Prop} {Q:Exit→Act→World→Prop} {a:Act} {w:World} (h:K a w):NoPan (Exit.then K Q) .normal a w:=h
theorem bset {W0 w:World} {a:Addr} {u:Value} (h:Below W0.heap.size W0 w) (ha:W0.heap.size≤a.block):Below W0.heap.size W0 (w.setCell a u):=h.setCell ha u
theorem bgrow {W0 w1 w2:World} (h:Below W0.heap.size W0 w1) (hb:Gr w1 w2):Below W0.heap.size W0 w2:=h.trans (hb.mono h.size)
theorem balloc {W0 w:World} {o:Obj} (h:Below W0.heap.size W0 w):Below W0.heap.size W0 (w.alloc o):=h.alloc h.size o
theorem wpG_step {w:World} {F:Act→Prop} {a:Act} {o:Oper} {r:List Oper} (h:∀ K:Act→Prop,(∀ a,wpG P ops w F r a→K a)→∃ v,GrowIn P ops o v a w∧K (a.put o.dst v)):wpG P ops w F (o :: r) a:=h _ fun _ h=>h
theorem wpG_nil {w:World} {F:Act→Prop} {a:Act} (h:F a):wpG P ops w F [] a:=h
theorem grow_run {o:Oper} {a:Act} {w:World} {K:Act→Prop} (v:Value) (hw:Region.wanted o (yielded ops a.tmps)=true) (h:∀ w',Gr w w'→growUpon P w' v ((execOp a.eval o).run P w')) (hK:K (a.put o.dst v)):∃ v,GrowIn P ops o v a w∧K (a.put o.dst v):=⟨v,.inl ⟨hw,h⟩,hK⟩
theorem grow_skip {o:Oper} {a:Act} {w:World} {K:Act→Prop} (hw:Region.wanted o (yielded ops a.tmps)=false) (hK:K (a.put o.dst undef)):∃ v,GrowIn P ops o v a w∧K (a.put o.dst v):=⟨undef,.inr ⟨hw,rfl⟩,hK⟩
theorem wpOp_one {i:Nat} {o:Oper} {K:Act→World→Prop} {a:Act} {w:World} (ho:ops[i]?=some o) (hg:o.guard=none) (h:o.wp P a w K Q):wpOp P ops Q i K a w:=by
 unfold wpOp;simp only [ho];rw [if_pos (by simp [Region.wanted,hg])];exact .inl h
theorem wpK_one {pre:Nat→Bool} {f:Nat} {listed:Array Bool} {a:Act} {w:World} {i:Nat} {o:Oper} (hr:Region.ready md ops listed=[i]) (ho:ops[i]?=some o) (hg:o.guard=none) (hp:allPre ops pre listed=false)
  (h:∀ w',Gr w w'→o.wp P a w' (fun a' w1=>Gr w' w1∧wpK P md ops Q pre f (listed.setIfInBounds i true) a' w1) Q):wpK P md ops Q pre (f+1) listed a w :=
 .inr ⟨hp,fun w' hw'=>⟨fun h0=>(by rw [hr] at h0;cases h0),fun j hj=>by
  rw [hr] at hj;obtain rfl:=List.mem_singleton.1 hj
  exact wpOp_one ho hg (h w' hw')⟩⟩
theorem wpAny_one {f:Nat} {listed:Array Bool} {a:Act} {w:World} {i:Nat} {o:Oper} (hr:Region.ready md ops listed=[i]) (ho:ops[i]?=some o) (hg:o.guard=none)
  (h:o.wp P a w (wpAny P md ops Q f (listed.setIfInBounds i true)) Q):wpAny P md ops Q (f+1) listed a w :=
 ⟨fun h0=>(by rw [hr] at h0;cases h0),fun j hj=>by
  rw [hr] at hj;obtain rfl:=List.mem_singleton.1 hj
  exact wpOp_one ho hg h⟩
theorem wpAny_end {f:Nat} {listed:Array Bool} {a:Act} {w:World} (hr:Region.ready md ops listed=[]) (h:Q .normal a w):wpAny P md ops Q f listed a w:=by
 cases f with
 | zero=>exact ⟨hr,h⟩
 | succ f=>exact ⟨fun _=>h,by rw [hr];simp⟩
end
end
end Go.Proofs.YtmmfifgdgbmgjaaGreat
