import Derived.Test.YtenckjdiggaonaaGreatQu23
set_option linter.unusedVariables false
set_option linter.unusedSimpArgs false
set_option maxRecDepth 100000
set_option maxHeartbeats 16000000
namespace Go.Proofs.YtenckjdiggaonaaGreat
open Go.RowKit
attribute [local go_sem] growUpon_value growUpon_skip growUpon_enter
section
def KeepsC (B:Nat) (W W':World):Prop:=Below B W W'∧∀ (k:Nat) (o:Obj),W.heap[k]?=some o→o.isCells=true→W'.heap[k]?=some o
theorem keepsC_alloc {B:Nat} {W:World} (o:Obj) (h:B≤W.heap.size):KeepsC B W (W.alloc o) :=
 ⟨(Below.refl _ _).alloc h o,fun k o' hk _=>(Below.heap_alloc _ _ _ (gE hk).1).trans hk⟩
theorem keepsC_put {w W:World} {l:Nat} {o o':Obj} (hl:w.heap.size≤l) (h:W.heap[l]?=some o) (hc:o.isCells=false) (hw:o.isWalk=false):KeepsC w.heap.size W (W.putObj l o') :=
 ⟨belowK_b (w:=w) (Nat.le_refl _) W l o o' hl h hc hw,fun k o2 hk h2=>by
  by_cases e:k=l
  ·subst e;rw [h] at hk;obtain rfl:=Option.some.inj hk;rw [hc] at h2
   cases h2
  ·exact (World.putObj_heap_other e).trans hk⟩
theorem KeepsC.trans {B:Nat} {W1 W2 W3:World} (h:KeepsC B W1 W2) (k:KeepsC B W2 W3):KeepsC B W1 W3:=⟨h.1.trans k.1,fun i o hi hc=>k.2 i o (h.2 i o hi hc) hc⟩
theorem KeepsC.cells {B k:Nat} {W W':World} {cs:Array Value} {T:TypeId} {fz:Nat × Nat} (h:KeepsC B W W') (hk:W.heap[k]?=some (.cells cs T fz)):W'.heap[k]?=some (.cells cs T fz):=h.2 k _ hk rfl
theorem KeepsC.block {B k:Nat} {W W':World} {cs:Array Value} {T:TypeId} {fz:Nat × Nat} (h:KeepsC B W W') (hk:W.heap[k]?=some (.cells cs T fz)):W'.heap[k]?=W.heap[k]?:=(h.cells hk).trans hk.symm
def SeqCnt (F:Fence) (n:Nat) (P:Program) (g:Nat) (lb:Array Value) (enc:Nat→Array Value) (Nd:World→Prop) (N:Nat):Prop :=
 ∀ (l:Nat) (J:Nat→World→Prop) (W:World),
  (∀ k W1,k<N→J k W1→YieldAt F (n - 1) P l (enc k) W1 fun e W'=>e=.returned (.bool true)∧J (k+1) W') →
  (∀ k W1,J k W1→Nd W1)→J 0 W→CallsIn F n P g (#[.func (.yield l) #[] #[]] ++ lb) W fun e W'=>(∃ v,e=.returned v)∧J N W'
theorem wpIn_rangeFunc_cnt {F:Fence} {n:Nat} {P:Program} {g:Operand} {ps:Array Tmp} {assign body:Code} {Q:Exit→Act→World→Prop} {a:Act} {w:World}
  (hro:F.round=none) (h1:1≤n) {gf:Nat} {lb:Array Value} (hg:a.eval g=.func (.func gf) #[] lb) (hFg:F.fn gf) (eg:∀ args w,(callFunc gf args).run P w=.ok (.enter gf args) w)
  {enc:Nat→Array Value} {Nd:World→Prop} {N:Nat} (hseq:SeqCnt F (n - 1) P gf lb enc Nd N) (hps:∀ k,(enc k).size=ps.size)
  (I:Nat→World→Prop) (hI:∀ k W W',I k W→KeepsC w.heap.size W W'→I k W') (hN:∀ k W,I k W→Nd W) (h0:I 0 w)
  (Ax:Nat→Act→World→Prop) (hAx:∀ k a' W W',Ax k a' W→KeepsC w.heap.size W W'→Ax k a' W')
  (hassign:∀ (l k:Nat) (W:World) (K:Act→World→Prop),k<N→I k W→(∀ a' W',KeepsFrom w.heap.size W W'→I k W'→Ax k a' W'→K a' W') →
   assign.wpIn (F.inRound l) (n - 1 - 1) P (Exit.then K (fun _ _ _=>False)) { tmps:=(ps.zip (enc k)).foldl (fun t (p,v)=>t.setIfInBounds p v) a.tmps,defers:=[] } W)
  (hbody:∀ (l k:Nat) (a':Act) (W:World),k<N→I k W→Ax k a' W→body.wpIn (F.inRound l) (n - 1 - 1) P (fun e _ W'=>e=.normal∧KeepsFrom w.heap.size W W'∧I (k+1) W') a' W)
  (hdone:∀ (D:Nat) (W:World),w.heap.size≤D→I N W→W.heap[D]?=some (.deferred (some []))→Q .normal { a with defers:={ target:=.collected D,args:=#[] } :: a.defers } W) :
  (Code.rangeFunc g ps assign body).wpIn F n P Q a w:=by
 refine wpIn_rangeFunc fun fn hfn=>?_
 rw [hro]
 obtain ⟨mk,hmk⟩:∃ mk:LoopState→Loop,∀ st,mk st={ state:=st,pending:=none,fn,tmps:=a.tmps,params:=ps,assign,body,defers:=w.heap.size }:=⟨_,fun _=>rfl⟩
 obtain ⟨Bk,hBk⟩:∃ Bk:LoopState→World→Prop,∀ st W,Bk st W ↔ W.heap[w.heap.size+1]?=some (.loop (mk st))∧W.heap[w.heap.size]?=some (.deferred (some [])):=⟨_,fun _ _=>Iff.rfl⟩
 have keep:∀ st W W',Bk st W→KeepsFrom w.heap.size W W'→Bk st W':=fun st W W' hb hk=>by
  rw [hBk] at hb ⊢;exact ⟨hk.same _ _ (by omega) hb.1 rfl,hk.same _ _ (Nat.le_refl _) hb.2 rfl⟩
 have turn:∀ st st' W,Bk st W→Bk st' (W.putObj (w.heap.size+1) (.loop (mk st')))∧KeepsC w.heap.size W (W.putObj (w.heap.size+1) (.loop (mk st'))):=fun st st' W hb=>by
  rw [hBk] at hb ⊢;exact ⟨⟨World.putObj_heap_same (gE hb.1).1,(World.putObj_heap_other (by omega)).trans hb.2⟩,keepsC_put (by omega) hb.1 rfl rfl⟩
 obtain ⟨W1,hW1⟩:∃ W1,(w.alloc (.deferred (some []))).alloc (.loop (mk .ready))=W1:=⟨_,rfl⟩
 have b1:Bk .ready W1:=by
  rw [hBk,<- hW1];refine ⟨?_,(Below.heap_alloc _ _ _ (by simp)).trans (World.alloc_heap_new w _)⟩
  have:=World.alloc_heap_new (w.alloc (.deferred (some []))) (.loop (mk .ready))
  rwa [World.size_alloc] at this
 have i1:I 0 W1:=by
  rw [<- hW1];exact hI _ _ _ (hI _ _ _ h0 (keepsC_alloc _ (Nat.le_refl _))) (keepsC_alloc _ (by simp))
 refine ⟨w.heap.size+1,[{ target:=.collected w.heap.size,args:=#[] }],W1,{ target:=.fn (.func gf) lb,args:=#[.func (.yield (w.heap.size+1)) #[] #[]] },W1,gf,
  #[.func (.yield (w.heap.size+1)) #[] #[]] ++ lb,W1,?_,?_,?_,?_,fun _=>h1,?_⟩
 ·rw [<- hW1,hmk];exact run_enterLoop_outer _ _ _ _ _
 ·simp only [resolve,hg]
  simp [go_sem]
 ·intro f' hf'
  simp [Target.leads] at hf'
  subst hf';exact hFg
 ·simp [invoke,go_sem,eg]
 ·refine (hseq (w.heap.size+1) (fun k W=>I k W∧Bk .ready W) W1 ?_ (fun k W h=>hN k W h.1) ⟨i1,b1⟩).mono ?_
  ·rintro k W hk ⟨hi,hb⟩;have hl:=((hBk _ _).1 hb).1;have hy:=run_yield (P:=P) (args:=enc k) hl (by rw [hmk];exact hps k);rw [hmk] at hy;refine ⟨fn,_,assign,body,hy,roundIn_of_wpIn hfn (hassign _ k W _ hk hi ?_)⟩;intro a' Wa hka hia hax;have hba:=keep _ _ _ hb hka;have hla:=((hBk _ _).1 hba).1;have hbr:=run_beginRound (P:=P) hla (by rw [hmk])
   rw [show ({ mk .ready with state:=.busy }:Loop)=mk .busy by rw [hmk,hmk]] at hbr;obtain ⟨hbb,hcb⟩:=turn _ .busy _ hba;refine ⟨_,hbr,wpIn_mono (hbody _ k a' _ hk (hI _ _ _ hia hcb) (hAx _ _ _ _ hax hcb)) ?_⟩;rintro e a3 W3 ⟨rfl,hk3,hi3⟩;have hb3:=keep _ _ _ hbb hk3;have her:=run_endRound (P:=P) none ((hBk _ _).1 hb3).1
   rw [show ({ mk .busy with state:=if (none:Option Code).isNone then .ready else .done,pending:=none }:Loop)=mk .ready by rw [hmk,hmk];rfl] at her;obtain ⟨hb4,hc4⟩:=turn _ .ready _ hb3;exact ⟨_,_,her,rfl,hI _ _ _ hi3 hc4,hb4⟩
  ·rintro e W2 ⟨⟨v,rfl⟩,hi,hb⟩;have hl:=((hBk _ _).1 hb).1;have hel:=run_endLoop (P:=P) hl (by rw [hmk];simp);rw [show (mk .ready).pending=none by rw [hmk]] at hel;exact ⟨none,_,hel,hdone _ _ (Nat.le_refl _) (hI _ _ _ hi (keepsC_put (by omega) hl rfl rfl)) ((World.putObj_heap_other (by omega)).trans ((hBk _ _).1 hb).2)⟩
end
section
attribute [local go_sem] Oper.semAt_some
def zeroNr:Nr:=⟨⟨0,0,0,false,0,[],[],⟨0,0,0,false,false,false,0,0,0⟩,⟨0,0,0,0,0,0,0,0,0⟩,⟨0,0,0,0,0,0,0,0,0⟩⟩,none,0,none,0⟩
def nrAt (R:List Nr) (i:Nat):Nr:=(R[i]?).getD zeroNr
theorem nrAt_get {R:List Nr} {i:Nat} {p:Nr} (h:R[i]?=some p):nrAt R i=p:=by unfold nrAt;rw [h];rfl
def encR (R:List Nr) (k:Nat):Array Value:=#[.int .i64 ((R.length - 1 - k:Nat):Int),.agg (valsNr (nrAt R (R.length - 1 - k))).toArray]
theorem encR_at {R:List Nr} {j:Nat} {p:Nr} (h:R[j]?=some p):encR R (R.length - (j+1))=#[.int .i64 (j:Int),.agg (valsNr p).toArray]:=by
 have hj:=(List.getElem?_eq_some_iff.1 h).1;unfold encR;rw [show R.length - 1 - (R.length - (j+1))=j by omega,nrAt_get h]
theorem bkc_in (F:Fence) (n:Nat) (hF:F.fn 167) (hro:F.round=none) (hn:1≤n) (Bs:Nat) (A:Option Addr) (c:Nat) (R:List Nr) (hL:R.length≤1048576) :
  SeqCnt F n Tryz.prog 167 #[.pointer (some ⟨Bs,0,none⟩)] (encR R) (fun W=>W.cell? ⟨Bs,0,none⟩=some (.slice A R.length c)∧NrV W A R) R.length:=by
 intro l J W hY hJN h0;have hcs:=(hJN _ _ h0).1;refine callsIn_of_wp Tryz.func167 rfl hF ?_ hro;simp only [Tryz.ntmps167,List.size_toArray,List.length_cons,List.length_nil,Nat.reduceAdd,Nat.reduceSub,Array.replicate_succ,Array.replicate_zero,List.push_toArray,List.append_toArray,List.nil_append,List.cons_append]
 gi_wp2
 clear hcs
 gi_loopw [3] (fun i wr=>∃ k:Nat,k≤R.length∧i=.int .i64 ((k:Int) - 1)∧J (R.length - k) wr)
  (fun i _=>(intOf i+1).toNat)
 case atStart=>exact ⟨R.length,Nat.le_refl _,rfl,by rw [Nat.sub_self];exact h0⟩
 case round =>
  obtain ⟨k,hk,rfl,hJs⟩:=hrel
  rcases k with _ | j
  ·have hd:decide (((0:Nat):Int) - 1 ≥ 0)=false:=by simp
   gi_wp2
   go_end0
   exact ⟨⟨_,rfl⟩,hJs⟩
  ·have e1:((j+1:Nat):Int) - 1=(j:Int):=by omega
   rw [e1]
   have hlt:j<R.length:=by omega
   have hd:decide ((j:Int) ≥ 0)=true:=by simp
   have hd2:decide ((0:Int)≤(j:Int))=true:=by simp
   obtain ⟨hcs,hp⟩:=hJN _ _ hJs;obtain ⟨b,off,rfl,hb,hps⟩:=hp.cells (by omega);have hget:R[j]?=some R[j]:=List.getElem?_eq_getElem hlt;have hc:=hps j _ hget;have he:=encR_at hget;generalize hx:R[j]=p at *;obtain ⟨fn,tmps,assign,body,hy,hR⟩:=hY (R.length - (j+1)) wr (by omega) hJs;rw [he] at hy;have HC:=hD hc;have HE:Hid (R.length - (j+1)+1=R.length - j):=hD (by omega);clear hc hget hx hps e1 hp he
   have hjs:IntKind.i64.wrap ((j:Int) - 1)=(j:Int) - 1:=IntWalk.i64_in _ (by omega)
   gi_wp2_with (refine ldNI 84 _ (valsNr p) b (off+j*34) rfl rfl rfl HC.out Tryz.underlying84 rfl (by rw [valsNr_len];kernel_rfl) ?_)
   refine hR.mono ?_;rintro e W3 ⟨rfl,hJ3⟩;rw [HE.out] at hJ3
   gi_wp2
   go_roundw
   case rel=>exact ⟨j,by omega,by go_num,hJ3⟩
   case measure=>simp [intOf]
end
end Go.Proofs.YtenckjdiggaonaaGreat
