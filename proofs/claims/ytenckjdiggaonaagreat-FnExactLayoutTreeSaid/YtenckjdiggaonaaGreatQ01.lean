import Derived.Test.YtenckjdiggaonaaGreatRows
import Derived.WalkKit
import Derived.ProofKit
import Derived.OpenShut
import Derived.ShutString
import Derived.ChangeOld
import Derived.Below
import Derived.Lib.SmallJoins
import Derived.Orders
import Derived.Lib.Hide
import Derived.Outline
import Derived.RegionTactic
import Derived.Deep.QuietTactic
import Derived.BigQuiet
import Derived.Deep.RegionHeld3
import Derived.Deep.DrawnRows
import Derived.Deep.RegionWith
import Derived.LoopTactic
import Derived.OwnWalk
import Derived.RowKit
set_option linter.unusedVariables false
set_option maxRecDepth 100000
namespace Go.Proofs.YtenckjdiggaonaaGreat
theorem gE {α : Type _} {xs : Array α} {i : Nat} {b : α} (h : xs[i]? = some b) : ∃ h : i < xs.size, xs[i] = b := Array.getElem?_eq_some_iff.1 h
theorem hD {p : Prop} (h : p) : Go.RowKit.Hid p := h
theorem evk (act : Act) : ∀ v, act.eval (.const v) = v := fun _ => rfl
theorem evf (act : Act) : ∀ f, act.eval (.func f) = .func (.func f) #[] #[] := fun _ => rfl
section
open Go.ChangeShapes Go.WideShapes Go.ChangeAt Go.RowKit
theorem own:ownKnob Tryz.prog.godebug=none:=by kernel_rfl
theorem laidOut:laidOutB Tryz.prog=true:=by kernel_rfl
def IsRow (k:IntKind) (w:World) (a:Option Addr) (len cap:Nat) (zs:List Int):Prop :=
 (a=none∧len=0∧cap=0∧zs=[]) ∨
 ∃ x,a=some x∧len≤cap∧cap≤maxLen∧zs.length=cap∧(∀ i,i<zs.length→w.cell? (x.add i)=some (.int k (zs.getD i 0)))∧∀ n ∈ zs,(Lit.int k n).wf=true
end
section
open Go.Joins Go.ChangeShapes Go.WideShapes Go.RowKit Go.Deep
section
variable {H:Type} {enc:TypeId × Value→H} {P:Program} {w:World} {base:Nat} {spare:Nat→Bool} {held:Bool}
end
end
section
open Go Go.RowKit
section
variable {P:Program} {ops:Array Oper} {md:Region.Mode} {Q:Exit→Act→World→Prop}
def Gr (w w':World):Prop:=Below w.heap.size w w'
theorem Gr.refl (w:World):Gr w w:=Below.refl _ _
theorem Gr.trans {a b c:World} (h:Gr a b) (k:Gr b c):Gr a c:=Below.trans h (Below.mono k h.size)
theorem Gr.alloc (w:World) (o:Obj):Gr w (w.alloc o):=(Below.refl _ _).alloc (Nat.le_refl _) o
theorem Gr.out {w w':World} (h:Gr w w'):Below w.heap.size w w':=h
theorem Gr.of {w w':World} (h:Below w.heap.size w w'):Gr w w':=h
def growUpon (P:Program) (w:World) (v:Value):Result Next→Prop
 | .ok (.value u) w'=>w'=w∧u=v
 | .ok .skip w'=>w'=w∧v=undef
 | .ok (.enter f args) w'=>w'=w∧Calls P f args w (fun e w''=>e=.returned v∧Gr w w'')
 | _=>False
theorem growUpon_value (w:World) (u v:Value):growUpon P w v (.ok (.value u) w)=(u=v):=by simp [growUpon]
theorem growUpon_skip (w:World) (v:Value):growUpon P w v (.ok .skip w)=(v=undef):=by simp [growUpon]
theorem growUpon_enter (w:World) (v:Value) (f:FuncId) (args:Array Value):growUpon P w v (.ok (.enter f args) w)=Calls P f args w (fun e w''=>e=.returned v∧Gr w w''):=by simp [growUpon]
def GrowIn (P:Program) (ops:Array Oper) (o:Oper) (v:Value) (a:Act) (w:World):Prop :=
 (Region.wanted o (yielded ops a.tmps)=true∧∀ w',Gr w w'→growUpon P w' v ((execOp a.eval o).run P w')) ∨ (Region.wanted o (yielded ops a.tmps)=false∧v=undef)
theorem GrowIn.mono {o:Oper} {v:Value} {a:Act} {w w':World} (h:GrowIn P ops o v a w) (g:Gr w w'):GrowIn P ops o v a w' :=
 h.imp (fun ⟨h1,h2⟩=>⟨h1,fun x hx=>h2 x (g.trans hx)⟩) id
theorem GrowIn.of_same {o:Oper} {v:Value} {a a':Act} {w:World} (hy:GrowIn P ops o v a w) (he:execOp a'.eval o=execOp a.eval o)
  (hw:Region.wanted o (yielded ops a'.tmps)=Region.wanted o (yielded ops a.tmps)):GrowIn P ops o v a' w:=by
 unfold GrowIn at *
 rw [he,hw]
 exact hy
theorem GrowIn.wpOp {i:Nat} {o:Oper} {v:Value} {a:Act} {w:World} (hi:ops[i]?=some o) (hy:GrowIn P ops o v a w) {K:Act→World→Prop} (h:∀ w',Gr w w'→K (a.put o.dst v) w'):wpOp P ops Q i K a w:=by
 unfold Go.wpOp
 simp only [hi]
 rcases hy with ⟨hw,hv⟩ | ⟨hw,rfl⟩
 ·simp only [hw,if_true]
  left
  have h3:=hv w (Gr.refl w)
  unfold Oper.wp
  generalize (execOp a.eval o).run P w=r at *
  cases r with
  | ok n w' =>
   cases n <;> simp only [growUpon] at h3 <;> simp only [Oper.upon]
   case value u=>obtain ⟨e1,e2⟩:=h3;rw [e1,e2];exact h _ (Gr.refl _)
   case skip=>obtain ⟨e1,e2⟩:=h3;rw [e1,<- e2];exact h _ (Gr.refl _)
   case enter f args =>
    obtain ⟨e1,hc⟩:=h3
    rw [e1]
    exact hc.mono fun e w'' ⟨he,hw''⟩=>by subst he;exact h _ hw''
  | halt x w'=>simp only [growUpon] at h3
 ·simp only [hw,Bool.false_eq_true,if_false];exact h _ (Gr.refl _)
theorem wpOp_putG {j:Nat} {oi oj:Oper} {v:Value} {w0:World} (hj:ops[j]?=some oj) (hap:oi.apart ops oj=true)
  (hsi:∀ cs b,oi.op ≠ .select cs b) (hsj:∀ cs b,oj.op ≠ .select cs b)
  (hQ:∀ c a w,Q (.panic c) (a.put oi.dst v) w→Q (.panic c) a w) {K:Act→World→Prop} {a:Act} {w:World}
  (hy:GrowIn P ops oi v a w0) (h:wpOp P ops Q j K (a.put oi.dst v) w) :
  wpOp P ops Q j (fun a' w'=>GrowIn P ops oi v a' w0∧K (a'.put oi.dst v) w') a w:=by
 obtain ⟨h1,h2,h3⟩:=Oper.apart_spec hap
 have keep:∀ (a:Act),GrowIn P ops oi v a w0→∀ u,GrowIn P ops oi v (a.put oj.dst u) w0:=fun a hy u =>
  hy.of_same (execOp_put oi hsi a oj.dst u h3) (wanted_put oi a oj.dst u h3)
 have keepD:∀ d,GrowIn P ops oi v { a with defers:=d :: a.defers } w0:=fun d=>hy.of_same rfl rfl
 unfold wpOp at *
 simp only [hj] at *
 rw [wanted_put oj a oi.dst v h1] at h
 split
 ·rename_i hw
  simp only [hw,if_true] at h
  rcases h with h | ⟨hasks,hlets⟩
  case inr=>exact .inr ⟨by unfold Oper.asks at *;rw [execOp_put oj hsj a oi.dst v h1] at hasks;exact hasks,hlets⟩
  refine .inl ?_
  unfold Oper.wp at *
  rw [execOp_put oj hsj a oi.dst v h1] at h
  generalize (execOp a.eval oj).run P w=r at *
  cases r with
  | ok n w' =>
   cases n <;> simp only [Oper.upon] at h ⊢
   case value u=>exact ⟨keep a hy u,by rw [<- Act.put_comm a v u h2];exact h⟩
   case skip=>exact ⟨keep a hy _,by rw [<- Act.put_comm a v undef h2];exact h⟩
   case defer d =>
    refine ⟨keep _ (keepD d) _,?_⟩
    rw [<- Act.put_comm _ v undef h2,<- Act.put_defers]
    exact h
   case enter f args =>
    refine Calls.mono h fun e w'' he=>?_
    cases e with
    | returned u=>exact ⟨keep a hy u,by rw [<- Act.put_comm a v u h2];exact he⟩
    | panicked c=>exact hQ _ _ _ he
    | outgrown=>exact he
   case row row args=>exact Rows.mono h fun u w'' he=>⟨keep a hy u,by rw [<- Act.put_comm a v u h2];exact he⟩
  | halt x w' =>
   cases x <;> simp only [Oper.upon] at h ⊢
   case panic u=>exact hQ _ _ _ h
 ·rename_i hw
  simp only [hw] at h
  exact ⟨keep a hy _,by rw [<- Act.put_comm a v undef h2];exact h⟩
def loneB (o:Oper):Bool:=o.guard.isNone && match o.op with | .extract _ _=>true | _=>false
theorem lone_cases {o:Oper} (h:loneB o=true) (ρ:Operand→Value):(∃ u,∀ w,(execOp ρ o).run P w=.ok (.value u) w∧noRoomEvent ∉ ((execOp ρ o).runT P w #[]).2) ∨ (∀ w,(∀ n w',(execOp ρ o).run P w ≠ .ok n w')∧(∀ v w',(execOp ρ o).run P w ≠ .halt (.panic v) w')∧noRoomEvent ∉ ((execOp ρ o).runT P w #[]).2):=by
 obtain ⟨dst,op,type,pos,after,guard⟩:=o
 simp only [loneB,Bool.and_eq_true] at h
 cases op <;> simp only [Bool.false_eq_true,and_false] at h
 rename_i t ix
 simp only [execOp]
 cases hv:ρ t
 case tuple vs =>
  simp only [Instr.extract]
  cases hx:vs[ix]? with
  | some v=>exact .inl ⟨v,fun w=>⟨rfl,by show noRoomEvent ∉ (#[]:Array _);simp⟩⟩
  | none=>exact .inr fun w=>⟨fun n w' e=>(by cases e),fun v w' e=>(by cases e),by show noRoomEvent ∉ (#[]:Array _);simp⟩
 all_goals
  simp only [Instr.extract]
  exact .inr fun w=>⟨fun n w' e=>(by cases e),fun v w' e=>(by cases e),by show noRoomEvent ∉ (#[]:Array _);simp⟩
def allPre (ops:Array Oper) (pre:Nat→Bool) (listed:Array Bool):Bool:=(List.range ops.size).all fun i=>!pre i || listed.getD i false
def Shutl (md:Region.Mode) (ops:Array Oper) (listed:Array Bool):Prop :=
 ∀ k o,ops[k]?=some o→listed.getD k false=true→∀ e ∈ o.after,Region.binds md e=true→listed.getD e.on false=true
def markAll (l:List Nat) (m:Array Bool):Array Bool:=l.foldl (fun m j=>m.setIfInBounds j true) m
def aftersOf (md:Region.Mode) (ops:Array Oper) (k:Nat):List Nat:=match ops[k]? with
 | none=>[]
 | some o=>(o.after.toList.filter (Region.binds md)).map (·.on)
def downB (md:Region.Mode) (ops:Array Oper):Nat→Array Bool→Array Bool
 | 0,m=>m
 | i+1,m=>downB md ops i (if m.getD i false then markAll (aftersOf md ops i) m else m)
def tailB (md:Region.Mode) (ops:Array Oper) (pre:Nat→Bool):Bool :=
 (List.range ops.size).all fun k=>pre k || (((ops[k]?).map loneB).getD false) || (List.range ops.size).all fun i=>!pre i || (downB md ops ops.size (markAll (aftersOf md ops k) (Array.replicate ops.size false))).getD i false
theorem markAll_sub {listed:Array Bool}:∀ (l:List Nat) (m:Array Bool),(∀ j,m.getD j false=true→listed.getD j false=true)→(∀ j ∈ l,listed.getD j false=true) →
  ∀ j,(markAll l m).getD j false=true→listed.getD j false=true
 | [],m,h,_,j,hj=>h j hj
 | x :: l,m,h,hl,j,hj=>by
  refine markAll_sub l (m.setIfInBounds x true) (fun y hy=>?_) (fun y hy=>hl y (List.mem_cons_of_mem _ hy)) j hj
  by_cases e:x=y
  ·subst e;exact hl x List.mem_cons_self
  ·rw [getD_set_ne false e] at hy;exact h y hy
theorem aftersOf_sub {listed:Array Bool} (hs:Shutl md ops listed) {i:Nat} (hi:listed.getD i false=true):∀ j ∈ aftersOf md ops i,listed.getD j false=true:=by
 intro j hj
 unfold aftersOf at hj
 split at hj
 ·cases hj
 ·rename_i o ho
  obtain ⟨e,he,rfl⟩:=List.mem_map.1 hj
  obtain ⟨he1,he2⟩:=List.mem_filter.1 he
  exact hs i o ho hi e (by simpa using he1) he2
theorem downB_sub {listed:Array Bool} (hs:Shutl md ops listed):∀ (n:Nat) (m:Array Bool),(∀ j,m.getD j false=true→listed.getD j false=true)→∀ j,(downB md ops n m).getD j false=true→listed.getD j false=true
 | 0,m,h,j,hj=>h j hj
 | n+1,m,h,j,hj=>by
  refine downB_sub hs n _ ?_ j hj
  split
  ·rename_i hm
   exact markAll_sub _ _ h (aftersOf_sub hs (h n hm))
  ·exact h
theorem tail_ready {pre:Nat→Bool} {listed:Array Bool} (hT:tailB md ops pre=true) (hs:Shutl md ops listed) {k:Nat} (hk:k ∈ Region.ready md ops listed) (hp:pre k=false) {ok:Oper} (hok:ops[k]?=some ok) (hl:loneB ok=false) :
  ∀ i,i<ops.size→pre i=true→listed.getD i false=true:=by
 intro i hi hpi
 obtain ⟨_,o,ho,hall⟩:=mem_ready.1 hk
 have hlt:=(gE ho).1
 have h1:=List.all_eq_true.1 hT k (List.mem_range.2 hlt)
 simp only [hp,hok,hl,Option.map_some,Option.getD_some,Bool.false_or] at h1
 have h2:=List.all_eq_true.1 h1 i (List.mem_range.2 hi)
 simp only [hpi,Bool.not_true,Bool.false_or] at h2
 refine downB_sub hs _ _ ?_ i h2
 refine markAll_sub _ _ (fun j hj=>?_) ?_
 ·rw [Array.getD_eq_getD_getElem?,Array.getElem?_replicate] at hj
  split at hj <;> simp at hj
 ·intro j hj
  unfold aftersOf at hj
  rw [ho] at hj
  obtain ⟨e,he,rfl⟩:=List.mem_map.1 hj
  obtain ⟨he1,he2⟩:=List.mem_filter.1 he
  exact hall e (by simpa using he1) he2
theorem Shutl.set {listed:Array Bool} (hs:Shutl md ops listed) {j:Nat} (hj:j ∈ Region.ready md ops listed):Shutl md ops (listed.setIfInBounds j true):=by
 intro k o ho hk e he hb
 obtain ⟨_,oj,hoj,hall⟩:=mem_ready.1 hj
 by_cases hjk:j=k
 ·subst hjk
  rw [ho] at hoj
  obtain rfl:=Option.some.inj hoj
  exact getD_set_true (hall e he hb)
 ·rw [getD_set_ne false hjk] at hk
  exact getD_set_true (hs k o ho hk e he hb)
theorem Shutl.none (n:Nat):Shutl md ops (Array.replicate n false):=by
 intro k o ho hk
 rw [Array.getD_eq_getD_getElem?,Array.getElem?_replicate] at hk
 split at hk <;> simp at hk
def wpK (P:Program) (md:Region.Mode) (ops:Array Oper) (Q:Exit→Act→World→Prop) (pre:Nat→Bool):Nat→Array Bool→Act→World→Prop
 | 0,listed,a,w=>∀ w',Gr w w'→wpAny P md ops Q 0 listed a w'
 | f+1,listed,a,w=>(allPre ops pre listed=true∧∀ w',Gr w w'→wpAny P md ops Q (f+1) listed a w') ∨
   (allPre ops pre listed=false∧∀ w',Gr w w'→(Region.ready md ops listed=[]→Q .normal a w')∧∀ j ∈ Region.ready md ops listed,wpOp P ops Q j (fun a' w1=>Gr w' w1∧wpK P md ops Q pre f (listed.setIfInBounds j true) a' w1) a w')
theorem wpK_mono {pre:Nat→Bool}:∀ {f:Nat} {listed:Array Bool} {a:Act} {w w':World},wpK P md ops Q pre f listed a w→Gr w w'→wpK P md ops Q pre f listed a w'
 | 0,_,_,_,_,h,g=>fun x hx=>h x (g.trans hx)
 | _+1,_,_,_,_,h,g=>h.imp (fun ⟨h1,h2⟩=>⟨h1,fun x hx=>h2 x (g.trans hx)⟩) (fun ⟨h1,h2⟩=>⟨h1,fun x hx=>h2 x (g.trans hx)⟩)
theorem wpAny_of_K {pre:Nat→Bool}:∀ (f:Nat) (listed:Array Bool) (a:Act) (w:World),wpK P md ops Q pre f listed a w→wpAny P md ops Q f listed a w
 | 0,_,_,w,h=>h w (Gr.refl w)
 | f+1,_,_,w,.inl h=>h.2 w (Gr.refl w)
 | f+1,_,_,w,.inr h=>⟨(h.2 w (Gr.refl w)).1,fun i hi=>wpOp_mono (fun a' w' h'=>wpAny_of_K f _ a' w' h'.2) ((h.2 w (Gr.refl w)).2 i hi)⟩
theorem wpK_tail {pre:Nat→Bool} {f:Nat} {listed:Array Bool} {a:Act} {w:World} (hp:allPre ops pre listed=true) (h:∀ w',Gr w w'→wpAny P md ops Q f listed a w'):wpK P md ops Q pre f listed a w:=by
 cases f with
 | zero=>exact h
 | succ f=>exact .inl ⟨hp,h⟩
theorem allPre_set {pre:Nat→Bool} {listed:Array Bool} (h:allPre ops pre listed=true) (j:Nat):allPre ops pre (listed.setIfInBounds j true)=true:=by
 unfold allPre at *
 rw [List.all_eq_true] at *
 intro k hk
 have:=h k hk
 rw [Bool.or_eq_true] at *
 exact this.imp id getD_set_true
theorem wpK_first {pre:Nat→Bool} {i:Nat} {oi:Oper} {v:Value} (hi:ops[i]?=some oi) (hsel:∀ (j:Nat) (o:Oper) cs b,ops[j]?=some o→o.op ≠ .select cs b)
  (hQ:∀ c a w,Q (.panic c) (a.put oi.dst v) w→Q (.panic c) a w) (hpi:pre i=true) (hT:tailB md ops pre=true) :
  ∀ (f:Nat) (listed:Array Bool) (a:Act) (w:World),Shutl md ops listed →
   (∀ j oj,ops[j]?=some oj→j ≠ i→listed.getD j true=false→(∀ e ∈ oj.after,Region.binds md e=true→e.on ≠ i)→oi.apart ops oj=true) →
   i ∈ Region.ready md ops listed→GrowIn P ops oi v a w→wpK P md ops Q pre f (listed.setIfInBounds i true) (a.put oi.dst v) w→wpK P md ops Q pre (f+1) listed a w:=by
 have hlt:=(gE hi).1
 have hnotpre:∀ listed,i ∈ Region.ready md ops listed→allPre ops pre listed=false:=fun listed hr=>by
  rw [Bool.eq_false_iff]
  intro hall
  have h1:=List.all_eq_true.1 hall i (List.mem_range.2 hlt)
  simp only [hpi,Bool.not_true,Bool.false_or] at h1
  have h0:=(mem_ready.1 hr).1
  rcases Nat.lt_or_ge i listed.size with h' | h'
  ·simp [h'] at h0 h1;rw [h0] at h1;cases h1
  ·simp [Array.getElem?_eq_none h'] at h1
 intro f
 induction f with
 | zero =>
  intro listed a w hsh hfree hr hy H
  refine .inr ⟨hnotpre listed hr,fun w' hw'=>⟨fun h=>(by rw [h] at hr;cases hr),fun j hj=>?_⟩⟩
  by_cases hji:j=i
  ·subst hji;exact (hy.mono hw').wpOp hi fun w1 hw1=>⟨hw1,wpK_mono H (hw'.trans hw1)⟩
  ·have:=ready_mono hj hji
   rw [(H w (Gr.refl w)).1] at this
   cases this
 | succ f ih =>
  intro listed a w hsh hfree hr hy H
  refine .inr ⟨hnotpre listed hr,fun w' hw'=>⟨fun h=>(by rw [h] at hr;cases hr),fun j hj=>?_⟩⟩
  by_cases hji:j=i
  ·subst hji;exact (hy.mono hw').wpOp hi fun w1 hw1=>⟨hw1,wpK_mono H (hw'.trans hw1)⟩
  ·obtain ⟨hjun,oj,hoj,hall⟩:=mem_ready.1 hj
   have hnot:∀ e ∈ oj.after,Region.binds md e=true→e.on ≠ i:=fun e he hb heq=>by
    have h1:=hall e he hb
    have h0:=(mem_ready.1 hr).1
    rw [heq] at h1
    rcases Nat.lt_or_ge i listed.size with h' | h'
    ·simp [h'] at h0 h1;rw [h0] at h1;cases h1
    ·simp [Array.getElem?_eq_none h'] at h1
   rcases H with ⟨hp,H⟩ | ⟨hp,H⟩
   ·have hpj:pre j=false:=by
     rw [Bool.eq_false_iff]
     intro hpj
     have hjlt:=(gE hoj).1
     have h1:=List.all_eq_true.1 hp j (List.mem_range.2 hjlt)
     simp only [hpj,Bool.not_true,Bool.false_or] at h1
     rw [getD_set_ne false (Ne.symm hji)] at h1
     rcases Nat.lt_or_ge j listed.size with h' | h'
     ·simp [h'] at hjun h1;rw [hjun] at h1;cases h1
     ·simp [Array.getElem?_eq_none h'] at h1
    cases hl:loneB oj
    ·exfalso
     have h1:=tail_ready hT hsh hj hpj hoj hl i hlt hpi
     have h0:=(mem_ready.1 hr).1
     rcases Nat.lt_or_ge i listed.size with h' | h'
     ·simp [h'] at h0 h1;rw [h0] at h1;cases h1
     ·simp [Array.getElem?_eq_none h'] at h1
    ·obtain ⟨p1,p2,p3⟩:=Oper.apart_spec (hfree j oj hoj hji hjun hnot)
     have hg:oj.guard=none:=by
      simp only [loneB,Bool.and_eq_true,Option.isNone_iff_eq_none] at hl
      exact hl.1
     have hwant:∀ x:Act,Region.wanted oj (yielded ops x.tmps)=true:=fun x=>by simp [Region.wanted,hg]
     have hex:=execOp_put oj (fun cs b=>hsel j oj cs b hoj) a oi.dst v p1
     have hall:∀ w'',Gr w w''→wpOp P ops Q j (wpAny P md ops Q f ((listed.setIfInBounds i true).setIfInBounds j true)) (a.put oi.dst v) w'':=fun w'' hw''=>(H w'' hw'').2 j (ready_mono hj hji)
     have hsplit:∀ w'',Gr w w''→oj.wp P (a.put oi.dst v) w'' (wpAny P md ops Q f ((listed.setIfInBounds i true).setIfInBounds j true)) Q ∨ noRoomEvent ∈ ((execOp a.eval oj).runT P w'' #[]).2:=fun w'' hw''=>by
      have h1:=hall w'' hw''
      unfold wpOp at h1
      simp only [hoj,hwant,if_true] at h1
      rcases h1 with h1 | ⟨h1,_⟩
      ·exact .inl h1
      ·unfold Oper.asks at h1
       rw [hex] at h1
       exact .inr h1.1
     rcases lone_cases (P:=P) hl a.eval with ⟨u,hu⟩ | hst
     ·have hK:∀ w'',Gr w w''→wpAny P md ops Q f ((listed.setIfInBounds i true).setIfInBounds j true) ((a.put oi.dst v).put oj.dst u) w'':=fun w'' hw''=>by
       rcases hsplit w'' hw'' with h1 | h1
       ·unfold Oper.wp at h1
        rw [hex,(hu w'').1] at h1
        exact h1
       ·exact absurd h1 (hu w'').2
      unfold wpOp
      simp only [hoj,hwant,if_true]
      refine .inl ?_
      unfold Oper.wp
      rw [(hu w').1]
      refine ⟨Gr.refl _,?_⟩
      have hfree':∀ k ok,ops[k]?=some ok→k ≠ i→(listed.setIfInBounds j true).getD k true=false →
        (∀ e ∈ ok.after,Region.binds md e=true→e.on ≠ i)→oi.apart ops ok=true:=fun k ok hk hki hun hno=>by
       refine hfree k ok hk hki ?_ hno
       by_cases hjk:j=k
       ·subst hjk;exact hjun
       ·rw [getD_set_ne true hjk] at hun;exact hun
      refine ih (listed.setIfInBounds j true) (a.put oj.dst u) w' (hsh.set hj) hfree' (ready_mono hr (Ne.symm hji)) ((hy.of_same (execOp_put oi (fun cs b=>hsel i oi cs b hi) a oj.dst u p3) (wanted_put oi a oj.dst u p3)).mono hw') ?_
      refine wpK_tail ?_ fun w'' hw''=>?_
      ·rw [Array.setIfInBounds_comm _ _ hji]
       exact allPre_set hp j
      ·rw [Array.setIfInBounds_comm _ _ hji,<- Act.put_comm a v u p2]
       exact hK w'' (hw'.trans hw'')
     ·exfalso
      rcases hsplit w' hw' with h1 | h1
      ·unfold Oper.wp at h1
       rw [hex] at h1
       obtain ⟨s1,s2,_⟩:=hst w'
       generalize (execOp a.eval oj).run P w'=r at *
       cases r with
       | ok n w1=>exact s1 n w1 rfl
       | halt x w1 =>
        cases x <;> simp only [Oper.upon] at h1
        exact s2 _ _ rfl
      ·exact (hst w').2.2 h1
   ·have h1:=(H w' hw').2 j (ready_mono hj hji)
    have h2:=wpOp_putG (w0:=w) hoj (hfree j oj hoj hji hjun hnot) (fun cs b=>hsel i oi cs b hi) (fun cs b=>hsel j oj cs b hoj) hQ hy h1
    have hfree':∀ k ok,ops[k]?=some ok→k ≠ i→(listed.setIfInBounds j true).getD k true=false →
      (∀ e ∈ ok.after,Region.binds md e=true→e.on ≠ i)→oi.apart ops ok=true:=fun k ok hk hki hun hno=>by
     refine hfree k ok hk hki ?_ hno
     by_cases hjk:j=k
     ·subst hjk;exact hjun
     ·rw [getD_set_ne true hjk] at hun;exact hun
    refine wpOp_mono (fun a' w1 h3=>⟨h3.2.1,ih (listed.setIfInBounds j true) a' w1 (hsh.set hj) hfree' (ready_mono hr (Ne.symm hji)) (h3.1.mono (hw'.trans h3.2.1)) ?_⟩) h2
    rw [Array.setIfInBounds_comm _ _ hji]
    exact h3.2.2
theorem lone_yields {o:Oper} {v:Value} {a:Act} {w:World} (hl:loneB o=true) (hy:GrowIn P ops o v a w):Yields P ops o v a:=by
 rcases hy with ⟨hw,hv⟩ | h
 ·refine .inl ⟨hw,?_⟩
  have h1:=hv w (Gr.refl w)
  rcases lone_cases (P:=P) hl a.eval with ⟨u,hu⟩ | hst
  ·rw [(hu w).1,growUpon_value] at h1
   subst h1
   exact fun w'=>(hu w').1
  ·exfalso
   obtain ⟨s1,s2,_⟩:=hst w
   generalize (execOp a.eval o).run P w=r at *
   cases r with
   | ok n w1=>exact s1 n w1 rfl
   | halt x w1=>simp only [growUpon] at h1
 ·exact .inr h
theorem wpK_lone {pre:Nat→Bool} {i:Nat} {oi:Oper} {v:Value} (hi:ops[i]?=some oi) (hsel:∀ (j:Nat) (o:Oper) cs b,ops[j]?=some o→o.op ≠ .select cs b)
  (hQ:∀ c a w,Q (.panic c) (a.put oi.dst v) w→Q (.panic c) a w) (hpi:pre i=false) (hl:loneB oi=true) :
  ∀ (f:Nat) (listed:Array Bool) (a:Act) (w:World),
   (∀ j oj,ops[j]?=some oj→j ≠ i→listed.getD j true=false→(∀ e ∈ oj.after,Region.binds md e=true→e.on ≠ i)→oi.apart ops oj=true) →
   i ∈ Region.ready md ops listed→GrowIn P ops oi v a w→wpK P md ops Q pre f (listed.setIfInBounds i true) (a.put oi.dst v) w→wpK P md ops Q pre (f+1) listed a w:=by
 have hpre:∀ listed,allPre ops pre (listed.setIfInBounds i true)=true→allPre ops pre listed=true:=fun listed h=>by
  unfold allPre at *
  rw [List.all_eq_true] at *
  intro k hk
  have h1:=h k hk
  by_cases e:i=k
  ·subst e;simp [hpi]
  ·rw [getD_set_ne false e] at h1;exact h1
 have tailcase:∀ (f:Nat) (listed:Array Bool) (a:Act) (w:World),
   (∀ j oj,ops[j]?=some oj→j ≠ i→listed.getD j true=false→(∀ e ∈ oj.after,Region.binds md e=true→e.on ≠ i)→oi.apart ops oj=true) →
   i ∈ Region.ready md ops listed→GrowIn P ops oi v a w→allPre ops pre listed=true→wpK P md ops Q pre f (listed.setIfInBounds i true) (a.put oi.dst v) w→wpK P md ops Q pre (f+1) listed a w:=by
  intro f listed a w hfree hr hy hp H
  have hany:∀ w',Gr w w'→wpAny P md ops Q f (listed.setIfInBounds i true) (a.put oi.dst v) w':=by
   cases f with
   | zero=>exact H
   | succ f =>
    rcases H with ⟨_,H⟩ | ⟨hp',_⟩
    ·exact H
    ·rw [allPre_set hp i] at hp';cases hp'
  exact .inl ⟨hp,fun w' hw'=>wpAny_first hi hsel hQ f listed a w' hfree hr (lone_yields hl hy) (hany w' hw')⟩
 intro f
 induction f with
 | zero =>
  intro listed a w hfree hr hy H
  cases hp:allPre ops pre listed with
  | true=>exact tailcase 0 listed a w hfree hr hy hp H
  | false =>
   refine .inr ⟨hp,fun w' hw'=>⟨fun h=>(by rw [h] at hr;cases hr),fun j hj=>?_⟩⟩
   by_cases hji:j=i
   ·subst hji;exact (hy.mono hw').wpOp hi fun w1 hw1=>⟨hw1,wpK_mono H (hw'.trans hw1)⟩
   ·have:=ready_mono hj hji
    rw [(H w (Gr.refl w)).1] at this
    cases this
 | succ f ih =>
  intro listed a w hfree hr hy H
  cases hp:allPre ops pre listed with
  | true=>exact tailcase _ listed a w hfree hr hy hp H
  | false =>
   refine .inr ⟨hp,fun w' hw'=>⟨fun h=>(by rw [h] at hr;cases hr),fun j hj=>?_⟩⟩
   by_cases hji:j=i
   ·subst hji;exact (hy.mono hw').wpOp hi fun w1 hw1=>⟨hw1,wpK_mono H (hw'.trans hw1)⟩
   ·obtain ⟨hjun,oj,hoj,hall⟩:=mem_ready.1 hj
    have hnot:∀ e ∈ oj.after,Region.binds md e=true→e.on ≠ i:=fun e he hb heq=>by
     have h1:=hall e he hb
     have h0:=(mem_ready.1 hr).1
     rw [heq] at h1
     rcases Nat.lt_or_ge i listed.size with h' | h'
     ·simp [h'] at h0 h1;rw [h0] at h1;cases h1
     ·simp [Array.getElem?_eq_none h'] at h1
    rcases H with ⟨hp',_⟩ | ⟨_,H⟩
    ·rw [hpre _ hp'] at hp;cases hp
    ·have h1:=(H w' hw').2 j (ready_mono hj hji)
     have h2:=wpOp_putG (w0:=w) hoj (hfree j oj hoj hji hjun hnot) (fun cs b=>hsel i oi cs b hi) (fun cs b=>hsel j oj cs b hoj) hQ hy h1
     have hfree':∀ k ok,ops[k]?=some ok→k ≠ i→(listed.setIfInBounds j true).getD k true=false →
       (∀ e ∈ ok.after,Region.binds md e=true→e.on ≠ i)→oi.apart ops ok=true:=fun k ok hk hki hun hno=>by
      refine hfree k ok hk hki ?_ hno
      by_cases hjk:j=k
      ·subst hjk;exact hjun
      ·rw [getD_set_ne true hjk] at hun;exact hun
     refine wpOp_mono (fun a' w1 h3=>⟨h3.2.1,ih (listed.setIfInBounds j true) a' w1 hfree' (ready_mono hr (Ne.symm hji)) (h3.1.mono (hw'.trans h3.2.1)) ?_⟩) h2
     rw [Array.setIfInBounds_comm _ _ hji]
     exact h3.2.2
def gsB (md:Region.Mode) (ops:Array Oper) (pre:Nat→Bool):Nat→Nat→Array Bool→Bool
 | 0,_,_=>true
 | m+1,k,listed=>(pre k || (((ops[k]?).map loneB).getD false)) && (Region.ready md ops listed).contains k && Region.free md ops listed k && gsB md ops pre m (k+1) (listed.setIfInBounds k true)
def listedTo:Nat→Nat→Array Bool→Array Bool
 | 0,_,l=>l
 | m+1,k,l=>listedTo m (k+1) (l.setIfInBounds k true)
def wpG (P:Program) (ops:Array Oper) (w:World) (F:Act→Prop):List Oper→Act→Prop
 | [],a=>F a
 | o :: r,a=>∃ v,GrowIn P ops o v a w∧wpG P ops w F r (a.put o.dst v)
theorem wpG_text {pre:Nat→Bool} {w:World} (hs:Region.noSelect ops=true) (hQ:∀ c a w,¬ Q (.panic c) a w) (hT:tailB md ops pre=true) (g:Nat):∀ (m k:Nat) (l:List Oper) (listed:Array Bool) (a:Act),l.length=m→(∀ j,j<m→ops[k+j]?=l[j]?) →
  Shutl md ops listed→gsB md ops pre m k listed=true→wpG P ops w (fun a'=>wpK P md ops Q pre g (listedTo m k listed) a' w) l a→wpK P md ops Q pre (g+m) listed a w
 | 0,k,l,listed,a,hl,_,_,_,h=>by
  obtain rfl:=List.length_eq_zero_iff.1 hl
  exact h
 | m+1,k,[],listed,a,hl,_,_,_,h=>by simp at hl
 | m+1,k,o :: l,listed,a,hl,hops,hsh,hB,h=>by
  have h0:ops[k]?=some o:=by simpa using hops 0 (by omega)
  simp only [gsB,Bool.and_eq_true] at hB
  obtain ⟨⟨⟨hp,hr⟩,hf⟩,hB'⟩:=hB
  obtain ⟨v,hy,hK⟩:=h
  have hr':k ∈ Region.ready md ops listed:=by simpa using hr
  have hrest:=wpG_text hs hQ hT g m (k+1) l _ _ (by simpa using hl) (fun j hj=>by have:=hops (j+1) (by omega);simpa [Nat.add_assoc,Nat.add_comm 1 j] using this) (hsh.set hr') hB' hK
  cases hpk:pre k with
  | true=>exact wpK_first h0 (Region.noSelect_spec hs) (fun c a w h=>(hQ _ _ _ h).elim) hpk hT (g+m) listed a w hsh (Region.free_spec h0 hf) hr' hy hrest
  | false =>
   rw [hpk,h0,Option.map_some,Option.getD_some,Bool.false_or] at hp
   exact wpK_lone h0 (Region.noSelect_spec hs) (fun c a w h=>(hQ _ _ _ h).elim) hpk hp (g+m) listed a w (Region.free_spec h0 hf) hr' hy hrest
def NoPan (Q:Exit→Act→World→Prop):Exit→Act→World→Prop
 | .panic _,_,_=>False
 | e,a,w=>Q e a w
theorem NoPan.imp {Q:Exit→Act→World→Prop}:∀ (e:Exit) (a:Act) (w:World),NoPan Q e a w→Q e a w:=fun e a w h=>by
 cases e <;> first | exact h | exact (h:False).elim
def growB (ops:Array Oper) (m:Nat) (pre:Nat→Bool):Bool:=Region.noSelect ops && tailB .any ops pre && gsB .any ops pre m 0 (Array.replicate ops.size false) && decide (m≤ops.size)
theorem wp_region_grow {id:Nat} {a:Act} {w:World} {l:List Oper} (m g:Nat) (pre:Nat→Bool) (hm:P.follows .mixedOrders=true) (hB:growB l.toArray m pre=true) (hg:l.length=g+m)
  (h:wpG P l.toArray w.drew (fun a'=>wpK P .any l.toArray (NoPan Q) pre g (listedTo m 0 (Array.replicate l.toArray.size false)) a' w.drew) (l.take m) a):(Code.region id l.toArray true).wp P Q a w:=by
 simp only [growB,Bool.and_eq_true,decide_eq_true_eq] at hB
 obtain ⟨⟨⟨hs,hT⟩,hgs⟩,hle⟩:=hB
 have hle':m≤l.length:=by simpa using hle
 refine Code.wp_mono NoPan.imp (wp_region_any hm (wpAny_of_K (pre:=pre) _ _ _ _ ?_))
 have:=wpG_text (md:=.any) (w:=w.drew) (Q:=NoPan Q) hs (fun c a w h=>h) hT g m 0 (l.take m) _ a (by simp;omega) (fun j hj=>by simp [hj]) (Shutl.none _) hgs h
 have e:g+m=l.toArray.size:=by simp;omega
 rw [e] at this
 exact this
theorem wp_named {c:Code} {a:Act} {w:World} (h:∀ W0,W0=w→c.wp P Q a w):c.wp P Q a w:=h w rfl
theorem NoPan.gen {K:Act→World→Prop} {Q:Exit→Act→World→Prop} {a:Act} {w:World} (F:World→Prop) (hF:F w) (h:∀ w,F w→K a w):NoPan (Exit.then K Q) .normal a w:=h w hF
theorem NoPan.thn {K:Act→World→Prop} {Q:Exit→Act→World→Prop} {a:Act} {w:World} (h:K a w):NoPan (Exit.then K Q) .normal a w:=h
theorem bset {W0 w:World} {a:Addr} {u:Value} (h:Below W0.heap.size W0 w) (ha:W0.heap.size≤a.block):Below W0.heap.size W0 (w.setCell a u):=h.setCell ha u
theorem bgrow {W0 w1 w2:World} (h:Below W0.heap.size W0 w1) (hb:Gr w1 w2):Below W0.heap.size W0 w2:=h.trans (hb.mono h.size)
theorem balloc {W0 w:World} {o:Obj} (h:Below W0.heap.size W0 w):Below W0.heap.size W0 (w.alloc o):=h.alloc h.size o
theorem wpG_step {w:World} {F:Act→Prop} {a:Act} {o:Oper} {r:List Oper} (h:∀ K:Act→Prop,(∀ a,wpG P ops w F r a→K a)→∃ v,GrowIn P ops o v a w∧K (a.put o.dst v)):wpG P ops w F (o :: r) a:=h _ fun _ h=>h
theorem wpG_nil {w:World} {F:Act→Prop} {a:Act} (h:F a):wpG P ops w F [] a:=h
theorem grow_run {o:Oper} {a:Act} {w:World} {K:Act→Prop} (v:Value) (hw:Region.wanted o (yielded ops a.tmps)=true) (h:∀ w',Gr w w'→growUpon P w' v ((execOp a.eval o).run P w')) (hK:K (a.put o.dst v)):∃ v,GrowIn P ops o v a w∧K (a.put o.dst v):=⟨v,.inl ⟨hw,h⟩,hK⟩
theorem grow_skip {o:Oper} {a:Act} {w:World} {K:Act→Prop} (hw:Region.wanted o (yielded ops a.tmps)=false) (hK:K (a.put o.dst undef)):∃ v,GrowIn P ops o v a w∧K (a.put o.dst v):=⟨undef,.inr ⟨hw,rfl⟩,hK⟩
theorem wpOp_one {i:Nat} {o:Oper} {K:Act→World→Prop} {a:Act} {w:World} (ho:ops[i]?=some o) (hg:o.guard=none) (h:o.wp P a w K Q):wpOp P ops Q i K a w:=by
 unfold wpOp
 simp only [ho]
 rw [if_pos (by simp [Region.wanted,hg])]
 exact .inl h
theorem wpK_one {pre:Nat→Bool} {f:Nat} {listed:Array Bool} {a:Act} {w:World} {i:Nat} {o:Oper} (hr:Region.ready md ops listed=[i]) (ho:ops[i]?=some o) (hg:o.guard=none) (hp:allPre ops pre listed=false)
  (h:∀ w',Gr w w'→o.wp P a w' (fun a' w1=>Gr w' w1∧wpK P md ops Q pre f (listed.setIfInBounds i true) a' w1) Q):wpK P md ops Q pre (f+1) listed a w :=
 .inr ⟨hp,fun w' hw'=>⟨fun h0=>(by rw [hr] at h0;cases h0),fun j hj=>by
  rw [hr] at hj
  obtain rfl:=List.mem_singleton.1 hj
  exact wpOp_one ho hg (h w' hw')⟩⟩
theorem wpAny_one {f:Nat} {listed:Array Bool} {a:Act} {w:World} {i:Nat} {o:Oper} (hr:Region.ready md ops listed=[i]) (ho:ops[i]?=some o) (hg:o.guard=none)
  (h:o.wp P a w (wpAny P md ops Q f (listed.setIfInBounds i true)) Q):wpAny P md ops Q (f+1) listed a w :=
 ⟨fun h0=>(by rw [hr] at h0;cases h0),fun j hj=>by
  rw [hr] at hj
  obtain rfl:=List.mem_singleton.1 hj
  exact wpOp_one ho hg h⟩
theorem wpAny_end {f:Nat} {listed:Array Bool} {a:Act} {w:World} (hr:Region.ready md ops listed=[]) (h:Q .normal a w):wpAny P md ops Q f listed a w:=by
 cases f with
 | zero=>exact ⟨hr,h⟩
 | succ f=>exact ⟨fun _=>h,by rw [hr];simp⟩
end
end
end Go.Proofs.YtenckjdiggaonaaGreat
section
namespace Go.Proofs.YtenckjdiggaonaaGreat
def vr (x y w h:Int):Bool:=decide (0≤w∧w≤400∧0≤h∧h≤400∧-1000≤x∧x+w≤1000∧-1000≤y∧y+h≤1000)
def vs (a s:Int):Bool:=decide (-1000≤a∧0≤s∧s≤400∧a+s≤1000)
def rng (n a b:Int):Bool:=decide (a≤n∧n≤b)
theorem rng_iff {n a b:Int}:rng n a b=true ↔ (a≤n∧n≤b):=by simp [rng]
end Go.Proofs.YtenckjdiggaonaaGreat
namespace Go.Proofs.YtenckjdiggaonaaGreat
end Go.Proofs.YtenckjdiggaonaaGreat
namespace Go.Proofs.YtenckjdiggaonaaGreat
def mx (a b:Int):Int:=if b > a then b else a
def mn (a b:Int):Int:=if b<a then b else a
theorem mx_spec (a b:Int):a≤mx a b∧b≤mx a b∧(mx a b=a ∨ mx a b=b):=by unfold mx;split <;> omega
theorem mn_spec (a b:Int):mn a b≤a∧mn a b≤b∧(mn a b=a ∨ mn a b=b):=by unfold mn;split <;> omega
end Go.Proofs.YtenckjdiggaonaaGreat
namespace Go.Proofs.YtenckjdiggaonaaGreat
def Sm (a b c d:Int):Prop:=(-8000≤a∧a≤8000)∧(-8000≤b∧b≤8000)∧(-8000≤c∧c≤8000)∧(-8000≤d∧d≤8000)
theorem Sm.out {a b c d:Int} (h:Sm a b c d):(-8000≤a∧a≤8000)∧(-8000≤b∧b≤8000)∧(-8000≤c∧c≤8000)∧(-8000≤d∧d≤8000):=h
end Go.Proofs.YtenckjdiggaonaaGreat
namespace Go.Proofs.YtenckjdiggaonaaGreat
def hitB (x y u v x' y' u' v':Int):Bool:=decide (0<mn (x+u) (x'+u') - mx x x'∧0<mn (y+v) (y'+v') - mx y y')
end Go.Proofs.YtenckjdiggaonaaGreat
namespace Go.Proofs.YtenckjdiggaonaaGreat
def eqR (x y u v x' y' u' v':Int):Bool:=decide (x=x'∧y=y'∧u=u'∧v=v')
end Go.Proofs.YtenckjdiggaonaaGreat
end
namespace Go.Proofs.YtenckjdiggaonaaGreat
section
open Go.RowKit
theorem ret_bool {a b:Bool} (h:a=b):Ending.returned (.bool a)=.returned (.bool b):=by rw [h]
theorem ret_int {k:IntKind} {a b:Int} (h:a=b):Ending.returned (.int k a)=.returned (.int k b):=by rw [h]
theorem run_mx {P:Program} {w:World} (ts:Array TypeId) (t:TypeId) (k k':IntKind) (x y:Int):(Builtin.max_ ts t #[.int k x,.int k' y]).run P w=.ok (.int k (mx x y)) w:=run_max_int2 w ts t k k' x y
theorem run_mn {P:Program} {w:World} (ts:Array TypeId) (t:TypeId) (k k':IntKind) (x y:Int):(Builtin.min_ ts t #[.int k x,.int k' y]).run P w=.ok (.int k (mn x y)) w:=run_min_int2 w ts t k k' x y
attribute [local go_sem 5000] run_mx run_mn
theorem bcell {W w1:World} (hb:Below W.heap.size W w1):(∀ b o,b<W.heap.size→w1.cell? ⟨b,o,none⟩=W.cell? ⟨b,o,none⟩)∧(∀ b o,b<W.heap.size→w1.frozen? ⟨b,o,none⟩=W.frozen? ⟨b,o,none⟩) :=
 ⟨fun b o h=>hb.cell (p:=⟨b,o,none⟩) h,fun b o h=>hb.frozen (p:=⟨b,o,none⟩) h⟩
theorem bcell4 {W w1:World} (hb:Below W.heap.size W w1):(∀ b o,b<W.heap.size→w1.cell? ⟨b,o,none⟩=W.cell? ⟨b,o,none⟩)∧(∀ b o,b<W.heap.size→w1.frozen? ⟨b,o,none⟩=W.frozen? ⟨b,o,none⟩)∧(∀ b,b<W.heap.size→b<w1.heap.size)∧(∀ b,b<W.heap.size→(b=w1.heap.size)=False) :=
 ⟨fun b o h=>hb.cell (p:=⟨b,o,none⟩) h,fun b o h=>hb.frozen (p:=⟨b,o,none⟩) h,fun b h=>Nat.lt_of_lt_of_le h hb.size,fun b h=>eq_false (Nat.ne_of_lt (Nat.lt_of_lt_of_le h hb.size))⟩
theorem bcellS {W w1:World} (hb:Below W.heap.size W w1):∀ b o,(W.cell? ⟨b,o,none⟩).isSome=true→w1.cell? ⟨b,o,none⟩=W.cell? ⟨b,o,none⟩:=fun b o h=>by
 obtain ⟨v,hv⟩:=Option.isSome_iff_exists.1 h
 exact hb.cell (p:=⟨b,o,none⟩) (World.block_lt_of_cell? W _ hv)
theorem within_any (n a b:Int) (w:World):Calls Tryz.prog 83 #[.int .i64 n,.int .i64 a,.int .i64 b] w fun e w'=>e=.returned (.bool (rng n a b))∧w=w':=by
 by_cases h1:a≤n <;> by_cases h2:n≤b
 all_goals
  go_enter Tryz.func83,Tryz.ntmps83
  go_wp2
  go_ret
  exact ⟨ret_bool (by simp [rng,h1,h2]),rfl⟩
theorem inRange_any (n a b:Int) (w:World):Calls Tryz.prog 61 #[.int .i64 n,.int .i64 a,.int .i64 b] w fun e w'=>e=.returned (.bool (rng n a b))∧w=w':=by
 by_cases h1:a≤n <;> by_cases h2:n≤b
 all_goals
  go_enter Tryz.func61,Tryz.ntmps61
  go_wp2
  go_ret
  exact ⟨ret_bool (by simp [rng,h1,h2]),rfl⟩
theorem validWish_w (a b:Int) (t:Bool) (w:World) (h:(rng a 0 30 && rng b 0 30)=t):Calls Tryz.prog 92 #[.int .i64 a,.int .i64 b] w fun e w'=>e=.returned (.bool t)∧w=w':=by
 subst h
 cases h1:rng a 0 30
 all_goals
  go_enter Tryz.func92,Tryz.ntmps92
  go_wp2_with (go_at_call 83;refine (within_any _ _ _ _).mono ?_;rintro e w' ⟨rfl,rfl⟩)
  go_ret
  exact ⟨ret_bool (by simp),rfl⟩
theorem run_eqlR (x y u v x' y' u' v':Int) (w:World):(binOp .eql 45 (.agg #[.int .i64 (x),.int .i64 (y),.int .i64 (u),.int .i64 (v)]) (.agg #[.int .i64 (x'),.int .i64 (y'),.int .i64 (u'),.int .i64 (v')])).run Tryz.prog w=.ok (.bool (eqR x y u v x' y' u' v')) w:=by
 by_cases h1:x=x' <;> by_cases h2:y=y' <;> by_cases h3:u=u' <;> by_cases h4:v=v' <;> go_simp <;> simp [eqR,h1,h2,h3,h4]
theorem run_neqR (x y u v x' y' u' v':Int) (w:World):(binOp .neq 45 (.agg #[.int .i64 (x),.int .i64 (y),.int .i64 (u),.int .i64 (v)]) (.agg #[.int .i64 (x'),.int .i64 (y'),.int .i64 (u'),.int .i64 (v')])).run Tryz.prog w=.ok (.bool (!eqR x y u v x' y' u' v')) w:=by
 by_cases h1:x=x' <;> by_cases h2:y=y' <;> by_cases h3:u=u' <;> by_cases h4:v=v' <;> go_simp <;> simp [eqR,h1,h2,h3,h4]
end
section
open Go.RowKit
attribute [local go_sem 5000] run_mx run_mn
attribute [local go_sem ↓] Go.wp_at_zero Go.wp_at_succ
attribute [local go_sem] growUpon_value growUpon_skip growUpon_enter
theorem wp_gen {P:Program} {c:Code} {Q:Exit→Act→World→Prop} {a:Act} {W:World} (F:World→Prop) (hF:F W) (h:∀ W0,F W0→c.wp P Q a W0):c.wp P Q a W:=h W hF
theorem bkeep2 {W0 w1 w2:World} (h:Below W0.heap.size W0 w1) (hb:Below w1.heap.size w1 w2):Below W0.heap.size W0 w2:=h.trans (hb.mono h.size)
end
section
open Go.RowKit
theorem bdrewn {W w':World} (h:Below W.drew.heap.size W.drew w'):Below W.heap.size W w':=(Below.refl _ _).drew.trans h
end
section
open Go.RowKit
set_option maxHeartbeats 1000000
def wrAt (cs:Array Value) (o:Nat):List Value→Array Value
 | []=>cs
 | v :: r=>wrAt (cs.setIfInBounds o v) (o+1) r
theorem wrAt_size:∀ (vs:List Value) (cs:Array Value) (o:Nat),(wrAt cs o vs).size=cs.size
 | [],cs,o=>rfl
 | v :: r,cs,o=>by unfold wrAt;rw [wrAt_size r];simp
theorem wrAt_lo:∀ (vs:List Value) (cs:Array Value) (o i:Nat),i<o→(wrAt cs o vs)[i]?=cs[i]?
 | [],cs,o,i,_=>rfl
 | v :: r,cs,o,i,h=>by unfold wrAt;rw [wrAt_lo r _ _ _ (by omega),Array.getElem?_setIfInBounds_ne (by omega)]
theorem wrAt_hi:∀ (vs:List Value) (cs:Array Value) (o i:Nat),o+vs.length≤i→(wrAt cs o vs)[i]?=cs[i]?
 | [],cs,o,i,_=>rfl
 | v :: r,cs,o,i,h=>by
  simp only [List.length_cons] at h
  unfold wrAt;rw [wrAt_hi r _ _ _ (by omega),Array.getElem?_setIfInBounds_ne (by omega)]
theorem wrAt_in:∀ (vs:List Value) (cs:Array Value) (o j:Nat),o+vs.length≤cs.size→j<vs.length→(wrAt cs o vs)[o+j]?=vs[j]?
 | [],cs,o,j,_,h=>by simp at h
 | v :: r,cs,o,0,h,_=>by
  simp only [List.length_cons] at h
  unfold wrAt;rw [wrAt_lo r _ _ _ (by omega),Nat.add_zero,Array.getElem?_setIfInBounds_self_of_lt (by omega)]
  rfl
 | v :: r,cs,o,j+1,h,hj=>by
  simp only [List.length_cons] at h hj
  unfold wrAt
  rw [show o+(j+1)=o+1+j from by omega,wrAt_in r _ _ _ (by simp;omega) (by omega)]
  simp
theorem putS {w:World} {b i:Nat} {cs:Array Value} {T:TypeId} {fz:Nat × Nat} (h:w.heap[b]?=some (.cells cs T fz)) (u:Value):(w.setCell ⟨b,i,none⟩ u).heap[b]?=some (.cells (cs.setIfInBounds i u) T fz):=by
 simp [World.setCell,Array.getElem?_modify,h]
theorem cellS {w:World} {b:Nat} {cs:Array Value} {T:TypeId} {fz:Nat × Nat} (h:w.heap[b]?=some (.cells cs T fz)) (i:Nat):w.cell? ⟨b,i,none⟩=cs[i]?:=by simp [World.cell?,h]
theorem frozenS {w:World} {b:Nat} {cs:Array Value} {T:TypeId} (h:w.heap[b]?=some (.cells cs T (0,0))) (i:Nat):w.frozen? ⟨b,i,none⟩=false:=by simp [World.frozen?,h]
theorem thereS {w:World} {b:Nat} {cs:Array Value} {T:TypeId} {fz:Nat × Nat} (h:w.heap[b]?=some (.cells cs T fz)) {i:Nat} (hi:i<cs.size):∃ v,w.cell? ⟨b,i,none⟩=some v:=⟨cs[i],(cellS h i).trans (by simp [hi])⟩
theorem newS (w:World) (o:Obj):(w.alloc o).heap[w.heap.size]?=some o:=by
 show (w.heap.push _)[w.heap.size]?=_
 simp
theorem ltS {w:World} {g:Nat} {o:Obj} (h:w.heap[g]?=some o):g<w.heap.size:=(gE h).1
theorem gsetS {w w':World} {g:Nat} (h:w.grownBy w' (some g)) (o:Nat) (v:Value):w.grownBy (w'.setCell ⟨g,o,none⟩ v) (some g) :=
 ⟨h.os,h.tape,h.output,by simpa [World.setCell] using h.size,fun k hk hne=>(Below.heap_setCell w' ⟨g,o,none⟩ v k (by rintro rfl;exact hne rfl)).trans (h.block k hk hne)⟩
theorem greflS (w:World) (g:Nat):w.grownBy w (some g):=⟨rfl,rfl,rfl,Nat.le_refl _,fun _ _ _=>rfl⟩
def InS (cs:Array Value) (o:Nat) (l:List Value):Prop:=∀ j u,l[j]?=some u→cs[o+j]?=some u
theorem InS.write {cs:Array Value} {o:Nat} {l:List Value} (h:o+l.length≤cs.size):InS (wrAt cs o l) o l:=fun j u hu=>by
 have hj:=(List.getElem?_eq_some_iff.1 hu).1
 rw [wrAt_in _ _ _ _ h hj,hu]
theorem InS.keepS {cs:Array Value} {o o':Nat} {l m:List Value} (h:InS cs o' m) (hd:o'+m.length≤o ∨ o+l.length≤o'):InS (wrAt cs o l) o' m:=fun j u hu=>by
 have hj:=(List.getElem?_eq_some_iff.1 hu).1
 rcases hd with hd | hd
 ·rw [wrAt_lo _ _ _ _ (by omega)];exact h j u hu
 ·rw [wrAt_hi _ _ _ _ (by omega)];exact h j u hu
end
section
open Go.RowKit
set_option maxHeartbeats 1000000
attribute [local go_sem] growUpon_value growUpon_skip growUpon_enter
structure Ln where
 wt:Int
 mi:Int
def valsLn (p:Ln):List Value:=[.int .i64 p.wt,.int .i64 p.mi]
structure LnV (w:World) (A:Option Addr) (L:List Ln):Prop where
 cells:0<L.length→∃ b off,A=some ⟨b,off,none⟩∧b<w.heap.size∧∀ i p,L[i]?=some p→w.cell? ⟨b,off+i*2,none⟩=some (.int .i64 p.wt)∧w.cell? ⟨b,off+i*2+1,none⟩=some (.int .i64 p.mi)
theorem LnV.keep {w w':World} {A:Option Addr} {L:List Ln} (h:LnV w A L) (hb:Below w.heap.size w w'):LnV w' A L :=
 ⟨fun h0=>let ⟨b,off,e,hl,hp⟩:=h.cells h0;⟨b,off,e,Nat.lt_of_lt_of_le hl hb.size,fun i p hi=>by
  obtain ⟨c0,c1⟩:=hp i p hi
  exact ⟨(hb.cell (p:=⟨b,off+i*2,none⟩) hl).trans c0,(hb.cell (p:=⟨b,off+i*2+1,none⟩) hl).trans c1⟩⟩⟩
theorem LnV.nil (w:World) (A:Option Addr):LnV w A []:=⟨fun h=>absurd h (by simp)⟩
def LnB (w:World) (g:Nat) (L:List Ln):Prop:=∃ cs:Array Value,w.heap[g]?=some (.cells cs 174 (0,0))∧cs.size=L.length*2∧∀ i p,L[i]?=some p→InS cs (i*2) (valsLn p)
theorem LnB.v {w:World} {g:Nat} {L:List Ln} (h:LnB w g L):LnV w (some ⟨g,0,none⟩) L:=by
 obtain ⟨cs,hh,hs,hc⟩:=h
 refine ⟨fun _=>⟨g,0,rfl,ltS hh,fun i p hp=>?_⟩⟩
 have hi:=hc i p hp
 simp only [Nat.zero_add]
 exact ⟨(cellS hh _).trans (hi 0 _ rfl),(cellS hh _).trans (hi 1 _ rfl)⟩
theorem LnB.lt {w:World} {g:Nat} {L:List Ln} (h:LnB w g L):g<w.heap.size:=by obtain ⟨cs,hh,_⟩:=h;exact ltS hh
theorem LnB.keep {w w':World} {g:Nat} {L:List Ln} (h:LnB w g L) (hb:Below w.heap.size w w'):LnB w' g L:=by
 obtain ⟨cs,hh,hs,hc⟩:=h
 exact ⟨cs,(hb.block g (ltS hh)).trans hh,hs,hc⟩
theorem LnB.but {w w':World} {g h:Nat} {L:List Ln} (hi:LnB w h L) (hg:w.grownBy w' (some g)) (hne:h ≠ g):LnB w' h L:=by
 obtain ⟨cs,hh,hs,hc⟩:=hi
 exact ⟨cs,(hg.block h (ltS hh) (fun e=>hne (Option.some.inj e))).trans hh,hs,hc⟩
theorem madeLn:∃ f:Nat→Array Value,(∀ n,(f n).size=n*2)∧∀ (n:Nat) (w:World),n≤1048576→(Instr.makeSlice 76 (.int .i64 (n:Int)) (.int .i64 (n:Int))).run Tryz.prog w=.ok (.slice (some ⟨w.heap.size,0,none⟩) n n) (w.alloc (.cells (f n) 174)):=by
 have hinfo:(Tryz.prog.info? 174).map (fun i=>(i.zero,i.size,i.bytes))=some (some (.agg #[.int .i64 0,.int .i64 0]),2,16):=by kernel_rfl
 obtain ⟨i,hi,h1,h2,h3⟩:=info_parts hinfo
 refine ⟨fun n=>madeCells (Value.agg #[.int .i64 0,.int .i64 0]).cells (n*2),fun n=>size_madeCells _ _,fun n w hn=>?_⟩
 have hr:=run_make (P:=Tryz.prog) w 76 174 i _ Tryz.underlying76 hi h1 .i64 .i64 n n (by omega) (Int.le_refl _) (by rw [h3];omega) (by omega)
 rw [h2] at hr
 simpa using hr
theorem toLn_v (p:Ln) (w:World):Calls Tryz.prog 159 #[.agg #[.int .i64 p.wt,.int .i64 p.mi]] w fun e w'=>e=.returned (.agg #[.int .i64 p.wt,.int .i64 p.mi])∧Below w.heap.size w w':=by
 obtain ⟨x0,x1⟩:=p
 go_enter Tryz.func159,Tryz.ntmps159
 go_wp2
 exact bodyPost_ret (v:=.agg #[.int .i64 x0,.int .i64 x1]) (by simp only [results,Tryz.results159];go_simp) rfl ⟨rfl,(by repeat (first | with_reducible exact Below.refl _ _ | with_reducible assumption | with_reducible refine balloc ?_ | (with_reducible refine bset ?_ ?_;rotate_left;((try dsimp only);omega)) | refine bkeep2 ?_ (by assumption) | with_reducible refine Below.drew ?_))⟩
theorem putLn {w:World} {b:Nat} {cs:Array Value} {T:TypeId} {fz:Nat × Nat} (h:w.heap[b]?=some (.cells cs T fz)) (o:Nat) (p:Ln) :
  (((w.setCell ⟨b,o,none⟩ (.int .i64 p.wt)).setCell ⟨b,o+1,none⟩ (.int .i64 p.mi))).heap[b]?=some (.cells (wrAt cs o (valsLn p)) T fz) :=
 putS (putS h _) _
theorem putLnb {B b:Nat} {a w:World} (h:Below B a w) (hb:B≤b) (o:Nat) (p:Ln):Below B a (((w.setCell ⟨b,o,none⟩ (.int .i64 p.wt)).setCell ⟨b,o+1,none⟩ (.int .i64 p.mi))) :=
 ((h).setCell hb _).setCell hb _
theorem toLnS_any (A:Option Addr) (c:Nat) (L:List Ln) (w:World) (h:LnV w A L) (hL:L.length≤1048576) :
  Calls Tryz.prog 117 #[.slice A L.length c] w fun e w'=>e=.returned (.slice (some ⟨w.heap.size,0,none⟩) L.length L.length)∧LnB w' w.heap.size L∧Below w.heap.size w w':=by
 obtain ⟨f,hf,hmk0⟩:=madeLn
 have hmk:∀ w:World,(Instr.makeSlice 76 (.int .i64 (L.length:Int)) (.int .i64 (L.length:Int))).run Tryz.prog w=.ok (.slice (some ⟨w.heap.size,0,none⟩) L.length L.length) (w.alloc (.cells (f L.length) 174)):=fun w=>hmk0 L.length w hL
 go_enter Tryz.func117,Tryz.ntmps117
 go_wp2_with fail
 have HWW:Hid (∃ cs:Array Value,(w.alloc (.cells (f L.length) 174)).heap[w.heap.size]?=some (.cells cs 174 (0,0))∧cs.size=L.length*2∧∀ i p,i<0→L[i]?=some p→InS cs (i*2) (valsLn p)):=hD ⟨_,newS _ _,hf _,fun i p hi=>absurd hi (by omega)⟩
 clear hmk hmk0 hf
 go_loopw [4] (fun i wr=>∃ k:Nat,k≤L.length∧i=.int .i64 k∧(∃ cs:Array Value,wr.heap[w.heap.size]?=some (.cells cs 174 (0,0))∧cs.size=L.length*2∧∀ i p,i<k→L[i]?=some p→InS cs (i*2) (valsLn p))∧Below w.heap.size w wr) (fun i _=>L.length - (intOf i).toNat)
 case atStart=>exact ⟨0,by omega,rfl,HWW.out,balloc (Below.refl _ _)⟩
 case round =>
  obtain ⟨k,hk,rfl,⟨cs,hh,hs,hc⟩,hB⟩:=hrel
  clear HWW
  by_cases hlt:k<L.length
  ·have hd:decide ((k:Int)<(L.length:Int))=true:=by simpa using hlt
   obtain ⟨b,off,rfl,hb,hp⟩:=(h.keep hB).cells (by omega)
   have hget:L[k]?=some L[k]:=List.getElem?_eq_getElem hlt
   obtain ⟨c0,c1⟩:=hp k _ hget
   generalize hx:L[k]=p at *
   have HG:=hD hget
   have HX:=hD hx
   have HH:=hD hh
   have HS:=hD hs
   have HC:=hD hc
   have HBB:=hD hB
   have HP:=hD hp
   clear hget hx hh hs hc hB hp
   go_wp2_with fail
   refine (toLn_v p _).mono ?_
   rintro e w1 ⟨rfl,hb1⟩
   have hlg:w.heap.size<wr.heap.size:=ltS HH.out
   replace HH:=hD ((hb1.block _ hlg).trans HH.out)
   replace HBB:=hD (HBB.out.trans (hb1.mono HBB.out.size))
   clear hb1 c0 c1 hlg
   have hsz:k*2+2≤cs.size:=by rw [HS.out];omega
   obtain ⟨y0,d0⟩:=thereS HH.out (i:=k*2) (by omega)
   obtain ⟨y1,d1⟩:=thereS HH.out (i:=k*2+1) (by omega)
   have f0:=frozenS HH.out (k*2)
   have f1:=frozenS HH.out (k*2+1)
   have E1:=hD (putLn HH.out (k*2) p)
   have E2:=hD (putLnb HBB.out (Nat.le_refl _) (k*2) p)
   go_wp2
   go_roundw
   case rel=>exact ⟨k+1,by omega,by go_num,⟨_,E1.out,(wrAt_size _ _ _).trans HS.out,fun i q hi hq=>by
    by_cases e:i=k
    ·subst e
     obtain rfl:p=q:=by have:=HG.out;rw [this] at hq;exact Option.some.inj hq
     exact InS.write (by simp only [valsLn,List.length_cons,List.length_nil];omega)
    ·exact (HC.out i q (by omega) hq).keepS (.inl (by simp only [valsLn,List.length_cons,List.length_nil];omega))⟩,E2.out⟩
   case measure=>simp [intOf];omega
  ·have hd:decide ((k:Int)<(L.length:Int))=false:=by simp;omega
   obtain rfl:k=L.length:=by omega
   have HR:=hD (show LnB wr w.heap.size L from ⟨cs,hh,hs,fun i p hp=>hc i p (List.getElem?_eq_some_iff.1 hp).1 hp⟩)
   have HBB:=hD hB
   clear hh hs hc hB
   go_wp2
   go_ret
   exact ⟨rfl,HR.out,HBB.out⟩
theorem eqLn_same (p:Ln) (w:World):Calls Tryz.prog 168 #[.agg #[.int .i64 p.wt,.int .i64 p.mi],.agg #[.int .i64 p.wt,.int .i64 p.mi]] w fun e w'=>e=.returned (.bool true)∧Below w.heap.size w w':=by
 go_enter Tryz.func168,Tryz.ntmps168
 go_wp2
 go_ret
 exact ⟨rfl,balloc (balloc (Below.refl _ _))⟩
theorem eqLnS_same (A B:Option Addr) (c c':Nat) (L:List Ln) (w:World) (h:LnV w A L) (h':LnV w B L) (hL:L.length≤1048576) :
  Calls Tryz.prog 134 #[.slice A L.length c,.slice B L.length c'] w fun e w'=>e=.returned (.bool true)∧Below w.heap.size w w':=by
 go_enter Tryz.func134,Tryz.ntmps134
 go_wp2_with fail
 go_loopw [5] (fun i wr=>∃ k:Nat,k≤L.length∧i=.int .i64 k∧Below w.heap.size w wr) (fun i _=>L.length - (intOf i).toNat)
 case atStart=>exact ⟨0,by omega,rfl,Below.refl _ _⟩
 case round =>
  obtain ⟨k,hk,rfl,hB⟩:=hrel
  by_cases hlt:k<L.length
  ·have hd:decide ((k:Int)<(L.length:Int))=true:=by simpa using hlt
   obtain ⟨b,off,rfl,hb,hp⟩:=(h.keep hB).cells (by omega)
   obtain ⟨b',off',rfl,hb',hp'⟩:=(h'.keep hB).cells (by omega)
   obtain ⟨c0,c1⟩:=hp k _ (List.getElem?_eq_getElem hlt)
   obtain ⟨d0,d1⟩:=hp' k _ (List.getElem?_eq_getElem hlt)
   generalize hx:L[k]=p at *
   have HX:=hD hx
   have HBB:=hD hB
   clear hx hp hp' hB
   go_wp2_with fail
   refine wp_region_grow 10 0 (·<10) (by kernel_rfl) (by kernel_rfl) rfl ?_
   iterate 10 (refine wpG_step (fun K hK=>?_);first | (refine grow_skip rfl ?_;go_simp;refine hK _ ?_;clear hK K) | (apply Exists.intro;refine ⟨.inl ⟨rfl,fun w' hw'=>?_⟩,?_⟩;(focus ((obtain ⟨hc,hf⟩:=bcell hw'.out);(have hcS:=bcellS hw'.out);go_simp <;> first | rfl | (go_at_call 168;exact eqLn_same p _)));(go_simp;refine hK _ ?_;clear hK K)))
   refine wpG_nil ?_
   refine wpK_tail (by kernel_rfl) (fun w1 hg1=>?_)
   have hb1:=bdrewn hg1.out
   refine wpAny_end (by kernel_rfl) ?_
   refine NoPan.thn ?_
   clear hg1
   replace HBB:=hD (HBB.out.trans (hb1.mono HBB.out.size))
   clear hb1 c0 c1 d0 d1
   go_wp2
   go_roundw
   case rel=>exact ⟨k+1,by omega,by go_num,HBB.out⟩
   case measure=>simp [intOf];omega
  ·have hd:decide ((k:Int)<(L.length:Int))=false:=by simp;omega
   have HBB:=hD hB
   clear hB
   go_wp2
   go_ret
   exact ⟨rfl,HBB.out⟩
theorem szLnS_yes (A:Option Addr) (c n:Nat) (z:Int) (w:World) (h:(n:Int)≤z) (hz:z≤1048576):Calls Tryz.prog 109 #[.slice A n c,.int .i64 z] w fun e w'=>e=.returned (.int .i64 (z - n))∧w'=w:=by
 have h1:decide (z - (n:Int)<0)=false:=by simp;omega
 go_enter Tryz.func109,Tryz.ntmps109
 go_wp2
 go_ret
 exact ⟨rfl,rfl⟩
theorem szLnS_no (A:Option Addr) (c n:Nat) (z:Int) (w:World) (h:¬ (n:Int)≤z) (h0:0≤z) (hz:z≤1048576) (hn:n≤maxLen):Calls Tryz.prog 109 #[.slice A n c,.int .i64 z] w fun e w'=>e=.returned (.int .i64 (-1))∧w'=w:=by
 unfold maxLen at hn
 have h1:decide (z - (n:Int)<0)=true:=by simp;omega
 go_enter Tryz.func109,Tryz.ntmps109
 go_wp2
 go_ret
 exact ⟨rfl,rfl⟩
theorem markLnS_v (g n:Nat) (z:Int) (L:List Ln) (w:World) (h:LnB w g L) (hn:n=L.length) (hL:L.length≤1048576) (h0:1≤z) (hz:z≤1000000000) :
  Calls Tryz.prog 91 #[.slice (some ⟨g,0,none⟩) n n,.int .i64 z] w fun e w'=>e=.returned (.int .i64 ((L.length:Int)*2+z))∧w.grownBy w' (some g):=by
 subst hn
 obtain ⟨cs0,hh0,hs0,_⟩:=h
 have H0:=hD (And.intro hh0 hs0)
 clear hh0 hs0
 go_enter Tryz.func91,Tryz.ntmps91
 go_wp2_with fail
 go_loopw [1,5] (fun kk i wr=>∃ k:Nat,k≤L.length∧i=.int .i64 k∧kk=.int .i64 ((k:Int)*2+z)∧(∃ cs:Array Value,wr.heap[g]?=some (.cells cs 174 (0,0))∧cs.size=L.length*2)∧w.grownBy wr (some g)) (fun _ i _=>L.length - (intOf i).toNat)
 case atStart=>exact ⟨0,by omega,rfl,by simp,⟨_,H0.out.1,H0.out.2⟩,greflS _ _⟩
 case round =>
  obtain ⟨k,hk,rfl,rfl,⟨cs,hh,hs⟩,hB⟩:=hrel
  clear H0
  by_cases hlt:k<L.length
  ·have hd:decide ((k:Int)<(L.length:Int))=true:=by simpa using hlt
   obtain ⟨y0,d0⟩:=thereS hh (i:=k*2) (by omega)
   obtain ⟨y1,d1⟩:=thereS hh (i:=k*2+1) (by omega)
   have f0:=frozenS hh (k*2)
   have f1:=frozenS hh (k*2+1)
   have HH:=hD hh
   have HS:=hD hs
   have HB:=hD hB
   clear hh hs hB
   go_wp2_with fail
   go_roundw
   case rel =>
    refine ⟨k+1,by omega,by go_num,by go_num,⟨_,putS (putS (HH.out) _) _,by simpa using HS.out⟩,?_⟩
    exact gsetS (gsetS (HB.out) _ _) _ _
   case measure=>simp [intOf];omega
  ·have hd:decide ((k:Int)<(L.length:Int))=false:=by simp;omega
   obtain rfl:k=L.length:=by omega
   have HB:=hD hB
   clear hh hs hB
   go_wp2
   go_ret
   exact ⟨rfl,HB.out⟩
end
end Go.Proofs.YtenckjdiggaonaaGreat
