import Derived.Test.YtfnpdlnepjhljaaGreatQH07
import Derived.RangeFuncBox
import Derived.Maps.AppendAt
set_option linter.unusedVariables false
set_option linter.unusedSimpArgs false
set_option maxRecDepth 100000
set_option maxHeartbeats 16000000
namespace Go.Proofs.YtfnpdlnepjhljaaGreat
open Go.RowKit
attribute [local go_sem] kZb kZp kZg
theorem fZt {w:World} {o:Obj} {cs:Array Value} {T:TypeId} (p:Nr) (ho:o=.cells cs T (0,0)) (hs:cs.size=34):((w.alloc o).setCells w.heap.size 0 (jZj p)).heap[w.heap.size]?=some (.cells (jZj p).toArray T (0,0)):=by
 subst ho;rw [jZ4 (jZj p) 0 _ _ (newS w _),pZ3 (by rw [hs];rfl)]
theorem uZs {a b c d:Int} (h1:a=c) (h2:b=d):Ending.returned (.tuple #[.int .i64 a,.int .i64 b])=.returned (.tuple #[.int .i64 c,.int .i64 d]):=by rw [h1,h2]
theorem eZ2 {L:List Nd} {g:Nat→Int × Int} {ks:List Nat} (hk:∀ x∈ks,x<L.length):(pksF L g ks).length=ks.length:=by
 have:=uZg (g:=g) hk ks.length (Nat.le_refl _)
 rwa [List.take_length] at this
theorem dZ9 {L:List Nd} {g:Nat→Int × Int} {ks:List Nat} (hk:∀ x∈ks,x<L.length):(cesF L g ks).length=ks.length:=by
 have:=uZ1 (g:=g) hk ks.length (Nat.le_refl _)
 rwa [List.take_length] at this
theorem sZ8 {L:List Nd} {f:Nat→Int × Int} {i:Nat} {n:Nd} (h:n.ke=true∨kidD L i=[]∨n.ki=2):askN L f i n=(n.ww,n.hh):=by unfold askN;rw [if_pos h]
theorem askN_pk {L:List Nd} {f:Nat→Int × Int} {i:Nat} {n:Nd} {ks:List Nat} (hks:kidD L i=ks) (h1:n.ke=false) (h2:ks≠[]) (h3:n.ki=0):askN L f i n=reqM (pksF L f ks):=by
 subst hks;unfold askN;rw [if_neg (by simp [h1,h2,h3]),if_pos h3]
theorem askN_gr {L:List Nd} {f:Nat→Int × Int} {i:Nat} {n:Nd} {ks:List Nat} (hks:kidD L i=ks) (h1:n.ke=false) (h2:ks≠[]) (h3:n.ki=1):askN L f i n=vZh n.cs n.rs (cesF L f ks):=by
 subst hks;unfold askN;rw [if_neg (by simp [h1,h2,h3]),if_neg (by omega)]
theorem sizeOf_v (A:Option Addr) (c:Nat) (R:List Nr) (hT:TrOK (R.map Nr.n)):∀ (f i:Nat) (w:World),R.length≤f+i→i<R.length→NrV w A R→RdR w R →
  Calls Tryz.prog 68 #[.agg #[.slice A R.length c],.int .i64 (i:Int)] w fun e w'=>e=.returned (.tuple #[.int .i64 (szM (R.map Nr.n) i).1,.int .i64 (szM (R.map Nr.n) i).2])∧Below w.heap.size w w':=by
 intro f
 induction f with
 | zero=>intro i w h1 h2;omega
 | succ f ih =>
 intro i w hf hi h hr;have hget:R[i]?=some R[i]:=List.getElem?_eq_getElem hi
 have hmg:(R.map Nr.n)[i]?=some R[i].n:=by rw [List.getElem?_map,hget];rfl
 have hsz0:=szM_eq hT hmg;have hr1:=hr _ (List.getElem_mem hi);have hkis:=(hT.sz i _ hmg).2.2;generalize hp0:R[i]=p at *;obtain ⟨b,off,rfl,hb,hc⟩:=h.cells (by omega);have hcp:=hc i p hget
 have hL10:R.length≤10:=by have:=hT.l10;simpa using this
 have hL1:1≤R.length:=by omega
 have hdi:(i:Int)<(R.length:Int):=by omega
 have hB0:Below w.heap.size w (w.alloc (.cells #[.slice (some ⟨b,off,none⟩) R.length c] 25 (0,0))):=jZd (Below.refl _ _);have HX:=hD (newS w (.cells #[.slice (some ⟨b,off,none⟩) R.length c] 25 (0,0)));have HB:=hD hB0;have HNR:=hD (h.keep hB0);have HRD:=hD (hr.keep hB0);have HR1:=hD (hr1.keep hB0);have HC:=hD (pZi hcp (hB0.block b hb));have HSZ:=hD hsz0;have HMG:=hD hmg;have HKI:=hD hkis
 have HGI:=hD hget
 have HIH:=hD (show ∀ k∈kidD (R.map Nr.n) i,∀ W,Below w.heap.size w W→Calls Tryz.prog 68 #[.agg #[.slice (some ⟨b,off,none⟩) R.length c],.int .i64 (k:Int)] W fun e W'=>e=.returned (.tuple #[.int .i64 (szM (R.map Nr.n) k).1,.int .i64 (szM (R.map Nr.n) k).2])∧Below W.heap.size W W' from fun k hk W hW=>by
  have:=vZq hT hk
  have hkl:=rZb hk;rw [List.length_map] at hkl
  exact ih k W (by omega) hkl (h.keep hW) (hr.keep hW))
 have x0:=jZc HX.out 0;have lx:=ltS HX.out;clear h hr hr1 hcp hsz0 hc hget hmg ih hp0 hkis hB0
 go_enter Tryz.func68,Tryz.ntmps68
 go_upto_region 1 with fail
 refine kZf (fun W=>W=w.alloc (.cells #[.slice (some ⟨b,off,none⟩) R.length c] 25 (0,0))) rfl (fun W1 e1=>?_);rw [<- e1] at x0 lx;replace HX:=hD (e1 ▸ HX.out);replace HB:=hD (e1 ▸ HB.out);replace HNR:=hD (e1 ▸ HNR.out);replace HRD:=hD (e1 ▸ HRD.out);replace HR1:=hD (e1 ▸ HR1.out);replace HC:=hD (e1 ▸ HC.out);clear e1
 go_upto_region 2 with (first|(refine ldN _ p b (off+i*34) rfl rfl rfl HC.out ?_)|(refine stN (.tmp 6) (.tmp 12) p W1.heap.size 0 rfl rfl rfl rfl (newS _ _) (by show (0+34:Nat)≤34;omega) ?_))
 refine kZf (fun W=>W.heap[W1.heap.size]?=some (.cells (jZj p).toArray 43 (0,0))∧Below W1.heap.size W1 W) ⟨fZt p rfl rfl,jZi (Nat.le_refl _) _ _ _ (jZd (Below.refl _ _))⟩ (fun W2 h0=>?_);obtain ⟨hn,hb2⟩:=h0;have HN:=hD hn;have ln:=ltS hn;clear hn x0 lx HC hdi;replace HX:=hbk hb2 HX;replace HNR:=hD (HNR.out.keep hb2);replace HRD:=hD (HRD.out.keep hb2)
 replace HR1:=hD (HR1.out.keep hb2);replace HB:=hD (jZa HB.out hb2);clear hb2;have x0:=jZc HX.out 0;have lx:=ltS HX.out
 go_wp2_with fail
 with_reducible refine (skidsOf_v (some ⟨b,off,none⟩) c R (i:Int) _ HNR.out hL1 (by omega) (kid_no0 hT i)).mono ?_
 rintro e W3 ⟨⟨kv,rfl,hkv⟩,hb3⟩;rw [eZv] at hkv;obtain ⟨kA,kc,hkv,hkn,-⟩:=hkv;rw [List.length_map] at hkv;subst hkv;have ln3:=Nat.lt_of_lt_of_le ln hb3.size;clear x0 lx ln;replace HX:=hbk hb3 HX;replace HN:=hbk hb3 HN;replace HNR:=hD (HNR.out.keep hb3);replace HRD:=hD (HRD.out.keep hb3);replace HR1:=hD (HR1.out.keep hb3);replace HB:=hD (jZa HB.out hb3);clear hb3;have HKN:=hD hkn;clear hkn
 have hkl10:(kidD (R.map Nr.n) i).length≤10:=Nat.le_trans (sZo _ _) (by simpa using hL10)
 have hkl:∀ k∈kidD (R.map Nr.n) i,k<(R.map Nr.n).length:=fun k hk=>rZb hk
 have HCW:=hD (show p.n.ki=1→_ from fun h1=>ces_w hT HMG.out h1);have HLI:=hD (show p.n.ki=1→_ from fun h1=>hT.li i p.n HMG.out h1);have HPB:=hD (hZc hT (kidD (R.map Nr.n) i))
 obtain ⟨ks,hks⟩:∃ ks,kidD (R.map Nr.n) i=ks:=⟨_,rfl⟩
 rw [hks] at HKN hkl10 hkl HIH HCW HPB ⊢;have HPL:=hD (eZ2 (g:=szM (R.map Nr.n)) hkl);have HCL:=hD (dZ9 (g:=szM (R.map Nr.n)) hkl);have HKL:=hD hkl;have HKS:=hD hks;clear hkl hks;have x0:=jZc HX.out 0;have lx:=ltS HX.out;have y1:W3.cell? ⟨W1.heap.size,1,none⟩=some (.int .i64 p.n.ww):=jZc HN.out 1;have y2:W3.cell? ⟨W1.heap.size,2,none⟩=some (.int .i64 p.n.hh):=jZc HN.out 2
 have y3:W3.cell? ⟨W1.heap.size,3,none⟩=some (.bool p.n.ke):=jZc HN.out 3;have y4:W3.cell? ⟨W1.heap.size,4,none⟩=some (.int .i64 p.n.ki):=jZc HN.out 4
 have hC:(p.n.ke=true)∨(p.n.ke=false∧ks=[])∨(p.n.ke=false∧ks≠[]∧p.n.ki=2)∨(p.n.ke=false∧ks≠[]∧p.n.ki≠2):=by
  cases p.n.ke <;> by_cases h1:ks=[] <;> by_cases h2:p.n.ki=2 <;> simp [h1,h2]
 rcases hC with hke | ⟨hke,hnil⟩ | ⟨hke,hnil,hk2⟩ | ⟨hke,hnil,hk2⟩
 ·rw [hke] at y3;have HKE:=hD hke;clear hke;have hz:szM (R.map Nr.n) i=(p.n.ww,p.n.hh):=HSZ.out.trans (sZ8 (.inl HKE.out));have HZ:=hD hz;clear hz
  go_wp2_with fail
  go_quiet (fail)
  go_wp2;go_ret2;exact ⟨uZs (by rw [HZ.out]) (by rw [HZ.out]),dZu HB.out _⟩
 ·rw [hke] at y3
  have hl0:((ks.length:Int) == 0)=true:=by simp [hnil]
  have HNI:=hD hnil;clear hke hnil;have hz:szM (R.map Nr.n) i=(p.n.ww,p.n.hh):=HSZ.out.trans (sZ8 (.inr (.inl (HKS.out.trans HNI.out))));have HZ:=hD hz;clear hz
  go_wp2_with fail
  go_quiet (fail)
  go_wp2;go_ret2;exact ⟨uZs (by rw [HZ.out]) (by rw [HZ.out]),dZu HB.out _⟩
 ·rw [hke] at y3
  have hl0:((ks.length:Int) == 0)=false:=by have:=List.length_pos_iff.2 hnil;rw [beq_eq_false_iff_ne];omega
  have hk22:(p.n.ki == 2)=true:=by simp [hk2]
  have HK2:=hD hk2;clear hke hnil hk2;have hz:szM (R.map Nr.n) i=(p.n.ww,p.n.hh):=HSZ.out.trans (sZ8 (.inr (.inr HK2.out)));have HZ:=hD hz;clear hz
  go_wp2_with fail
  go_quiet (fail)
  go_wp2;go_ret2;exact ⟨uZs (by rw [HZ.out]) (by rw [HZ.out]),dZu HB.out _⟩
 ·rw [hke] at y3
  have hl0:((ks.length:Int) == 0)=false:=by have:=List.length_pos_iff.2 hnil;rw [beq_eq_false_iff_ne];omega
  have hk22:(p.n.ki == 2)=false:=by simp [hk2]
  by_cases hk0:p.n.ki=0
  ·have hk00:(p.n.ki == 0)=true:=by simp [hk0]
   have HZ:=hD (HSZ.out.trans (askN_pk HKS.out hke hnil hk0));clear hke hnil hk2 hk0
   go_wp2_with fail
   with_reducible refine (fZr (some ⟨b,off,none⟩) c R ks kA kc ks.length (szM (R.map Nr.n)) _ HNR.out hL1 (by omega) HKN.out rfl (by omega) (fun k hk=>by have:=HKL.out k hk;rwa [List.length_map] at this) (fun k hk W hW=>HIH.out k hk W (jZa HB.out hW))).mono ?_
   rintro e W4 ⟨⟨A',c',rfl,hpv,-⟩,hb4⟩;have HRQ:=hD (show Calls Tryz.prog 110 #[.slice A' ks.length c'] W4 _ from HPL.out ▸ request_w A' c' _ W4 hpv HPB.out (by rw [HPL.out];omega));clear hpv x0 lx y1 y2 y3 y4;replace HB:=hD (jZa HB.out hb4);clear hb4
   go_wp2_with fail
   with_reducible refine (HRQ.out).mono ?_
   rintro e W5 ⟨rfl,hb5⟩;replace HB:=hD (jZa HB.out hb5);clear hb5;go_wp2;go_ret2;exact ⟨uZs (by rw [HZ.out]) (by rw [HZ.out]),HB.out⟩
  ·have hk00:(p.n.ki == 0)=false:=by simp [hk0]
   have hk1:p.n.ki=1:=by have:=HKI.out;omega
   have HZ:=hD (HSZ.out.trans (askN_gr HKS.out hke hnil hk1));have HC1:=hD (HCW.out hk1);have HL1:=hD (HLI.out hk1);clear hke hnil hk2 hk0 hk1
   go_wp2_with fail
   with_reducible refine (gridOf_v (some ⟨b,off,none⟩) c R i p ks kA kc ks.length (szM (R.map Nr.n)) _ HNR.out HGI.out (by omega) HKN.out rfl (by omega) (fun k hk=>by have:=HKL.out k hk;rwa [List.length_map] at this) (fun k hk W hW=>HIH.out k hk W (jZa HB.out hW))).mono ?_
   rintro e W4 ⟨⟨A',c',rfl,hcv⟩,hb4⟩;have HRQ:=hD (show Calls Tryz.prog 112 #[.agg (qZk p (.slice A' ks.length c')).toArray] W4 _ from HCL.out ▸ cZs p.ca p.cc p.n.cs p.ra p.rc p.n.rs A' c' _ W4 (HR1.out.keep hb4).c (HR1.out.keep hb4).r hcv HL1.out.1 HL1.out.2 HC1.out.2.2.2 HC1.out.1 HC1.out.2.1 HC1.out.2.2.1 HR1.out.cl HR1.out.rl);clear hcv x0 lx y1 y2 y3 y4
   replace HB:=hD (jZa HB.out hb4);clear hb4
   go_wp2_with fail
   with_reducible refine (HRQ.out).mono ?_
   rintro e W5 ⟨rfl,hb5⟩;replace HB:=hD (jZa HB.out hb5);clear hb5;go_wp2;go_ret2;exact ⟨uZs (by rw [HZ.out];rfl) (by rw [HZ.out];rfl),HB.out⟩
section
attribute [local go_sem 5000] kZk kZj
attribute [local go_sem] Oper.semAt_some
theorem ldNI {F:Fence} {n:Nat} {P:Program} {ops:Array Oper} {rest:List Oper} {op:Oper} {a:Act} {w:World} {Q:Exit→Act→World→Prop} (T:TypeId) (x:Operand) (vs:List Value) (b o:Nat) {d:TypeDesc} (hgd:op.guard=none) (ho:op.op=.load T x) (hx:a.eval x=.pointer (some ⟨b,o,none⟩))
  (hc:w.rangeAt b o vs) (hu:P.underlying T=some d) (hd:d.isRow=true) (hi:(P.info? T).map (·.size)=some vs.length)
  (h:wpListIn F n P ops Q rest (a.put op.dst (.agg vs.toArray)) w):wpListIn F n P ops Q (op :: rest) a w:=by
 refine wpListIn_plain hgd fun K hK=>⟨fun f hf=>?_,?_⟩
 ·simp [Oper.about,ho] at hf
 ·rw [Oper.semAt_eq _ _ _ (fun c e=>by rw [ho] at e;cases e)];unfold execOp;simp only [ho,hx,Instr.loadAt,Instr.sureAddr,Sem.run_bind,Sem.run_pure,Result.andThen_ok,run_loadVar_mid w b o T vs d hc hu hd hi];exact hK _ _ h
theorem gZa (F:Fence) (n:Nat) (hF:F.fn 127) (hro:F.round=none) (a:Option Addr) (len cap:Nat) (w:World) :
  CallsIn F n Tryz.prog 127 #[.slice a len cap] w fun e w'=>e=.returned (.func (.func 165) #[] #[.pointer (some ⟨w.heap.size,0,none⟩)])∧w'=w.alloc (.cells #[.slice a len cap] 23):=by
 refine callsIn_of_wp Tryz.func127 rfl hF ?_ hro;simp only [Tryz.ntmps127,List.size_toArray,List.length_cons,List.length_nil,Nat.reduceAdd,Nat.reduceSub,Array.replicate_succ,Array.replicate_zero,List.push_toArray,List.append_toArray,List.nil_append,List.cons_append]
 gi_wp2
 go_ret;exact ⟨rfl,rfl⟩
end
def tZu (B:Nat) (W W':World):Prop:=Below B W W'∧∀ (k:Nat) (o:Obj),W.heap[k]?=some o→o.isCells=true→W'.heap[k]?=some o
theorem vZr {B:Nat} {W:World} (o:Obj) (h:B≤W.heap.size):tZu B W (W.alloc o) :=
 ⟨(Below.refl _ _).alloc h o,fun k o' hk _=>(Below.heap_alloc _ _ _ (gE hk).1).trans hk⟩
theorem vZi {w W:World} {l:Nat} {o o':Obj} (hl:w.heap.size≤l) (h:W.heap[l]?=some o) (hc:o.isCells=false) (hw:o.isWalk=false):tZu w.heap.size W (W.putObj l o') :=
 ⟨belowK_b (w:=w) (Nat.le_refl _) W l o o' hl h hc hw,fun k o2 hk h2=>by
  by_cases e:k=l
  ·subst e;rw [h] at hk;obtain rfl:=Option.some.inj hk;rw [hc] at h2
   cases h2
  ·exact (World.putObj_heap_other e).trans hk⟩
theorem tZu.cells {B k:Nat} {W W':World} {cs:Array Value} {T:TypeId} {fz:Nat × Nat} (h:tZu B W W') (hk:W.heap[k]?=some (.cells cs T fz)):W'.heap[k]?=some (.cells cs T fz):=h.2 k _ hk rfl
theorem tZu.block {B k:Nat} {W W':World} {cs:Array Value} {T:TypeId} {fz:Nat × Nat} (h:tZu B W W') (hk:W.heap[k]?=some (.cells cs T fz)):W'.heap[k]?=W.heap[k]?:=(h.cells hk).trans hk.symm
def SeqCnt (F:Fence) (n:Nat) (P:Program) (g:Nat) (lb:Array Value) (enc:Nat→Array Value) (Nd:World→Prop) (N:Nat):Prop :=
 ∀ (l:Nat) (J:Nat→World→Prop) (W:World),
  (∀ k W1,k<N→J k W1→YieldAt F (n-1) P l (enc k) W1 fun e W'=>e=.returned (.bool true)∧J (k+1) W') →
  (∀ k W1,J k W1→Nd W1)→J 0 W→CallsIn F n P g (#[.func (.yield l) #[] #[]] ++ lb) W fun e W'=>(∃ v,e=.returned v)∧J N W'
theorem uZe {F:Fence} {n:Nat} {P:Program} {g:Operand} {ps:Array Tmp} {assign body:Code} {Q:Exit→Act→World→Prop} {a:Act} {w:World}
  (hro:F.round=none) (h1:1≤n) {gf:Nat} {lb:Array Value} (hg:a.eval g=.func (.func gf) #[] lb) (hFg:F.fn gf) (eg:∀ args w,(callFunc gf args).run P w=.ok (.enter gf args) w)
  {enc:Nat→Array Value} {Nd:World→Prop} {N:Nat} (hseq:SeqCnt F (n-1) P gf lb enc Nd N) (hps:∀ k,(enc k).size=ps.size)
  (I:Nat→World→Prop) (hI:∀ k W W',I k W→tZu w.heap.size W W'→I k W') (hN:∀ k W,I k W→Nd W) (h0:I 0 w)
  (Ax:Nat→Act→World→Prop) (hAx:∀ k a' W W',Ax k a' W→tZu w.heap.size W W'→Ax k a' W')
  (hassign:∀ (l k:Nat) (W:World) (K:Act→World→Prop),k<N→I k W→(∀ a' W',KeepsFrom w.heap.size W W'→I k W'→Ax k a' W'→K a' W') →
   assign.wpIn (F.inRound l) (n-1-1) P (Exit.then K (fun _ _ _=>False)) { tmps:=(ps.zip (enc k)).foldl (fun t (p,v)=>t.setIfInBounds p v) a.tmps,defers:=[] } W)
  (hbody:∀ (l k:Nat) (a':Act) (W:World),k<N→I k W→Ax k a' W→body.wpIn (F.inRound l) (n-1-1) P (fun e _ W'=>e=.normal∧KeepsFrom w.heap.size W W'∧I (k+1) W') a' W)
  (hdone:∀ (D:Nat) (W:World),w.heap.size≤D→I N W→W.heap[D]?=some (.deferred (some []))→Q .normal { a with defers:={ target:=.collected D,args:=#[] } :: a.defers } W) :
  (Code.rangeFunc g ps assign body).wpIn F n P Q a w:=by
 refine wpIn_rangeFunc fun fn hfn=>?_
 rw [hro]
 obtain ⟨mk,hmk⟩:∃ mk:LoopState→Loop,∀ st,mk st={ state:=st,pending:=none,fn,tmps:=a.tmps,params:=ps,assign,body,defers:=w.heap.size }:=⟨_,fun _=>rfl⟩
 obtain ⟨Bk,hBk⟩:∃ Bk:LoopState→World→Prop,∀ st W,Bk st W↔W.heap[w.heap.size+1]?=some (.loop (mk st))∧W.heap[w.heap.size]?=some (.deferred (some [])):=⟨_,fun _ _=>Iff.rfl⟩
 have keep:∀ st W W',Bk st W→KeepsFrom w.heap.size W W'→Bk st W':=fun st W W' hb hk=>by
  rw [hBk] at hb ⊢;exact ⟨hk.same _ _ (by omega) hb.1 rfl,hk.same _ _ (Nat.le_refl _) hb.2 rfl⟩
 have turn:∀ st st' W,Bk st W→Bk st' (W.putObj (w.heap.size+1) (.loop (mk st')))∧tZu w.heap.size W (W.putObj (w.heap.size+1) (.loop (mk st'))):=fun st st' W hb=>by
  rw [hBk] at hb ⊢;exact ⟨⟨World.putObj_heap_same (gE hb.1).1,(World.putObj_heap_other (by omega)).trans hb.2⟩,vZi (by omega) hb.1 rfl rfl⟩
 obtain ⟨W1,hW1⟩:∃ W1,(w.alloc (.deferred (some []))).alloc (.loop (mk .ready))=W1:=⟨_,rfl⟩
 have b1:Bk .ready W1:=by
  rw [hBk,<- hW1];refine ⟨?_,(Below.heap_alloc _ _ _ (by simp)).trans (World.alloc_heap_new w _)⟩
  have:=World.alloc_heap_new (w.alloc (.deferred (some []))) (.loop (mk .ready))
  rwa [World.size_alloc] at this
 have i1:I 0 W1:=by
  rw [<- hW1];exact hI _ _ _ (hI _ _ _ h0 (vZr _ (Nat.le_refl _))) (vZr _ (by simp))
 refine ⟨w.heap.size+1,[{ target:=.collected w.heap.size,args:=#[] }],W1,{ target:=.fn (.func gf) lb,args:=#[.func (.yield (w.heap.size+1)) #[] #[]] },W1,gf,
  #[.func (.yield (w.heap.size+1)) #[] #[]] ++ lb,W1,?_,?_,?_,?_,fun _=>h1,?_⟩
 ·rw [<- hW1,hmk];exact run_enterLoop_outer _ _ _ _ _
 ·simp only [resolve,hg]
  simp [go_sem]
 ·intro f' hf'
  simp [Target.leads] at hf'
  subst hf';exact hFg
 ·simp [invoke,go_sem,eg]
 ·refine (hseq (w.heap.size+1) (fun k W=>I k W∧Bk .ready W) W1 ?_ (fun k W h=>hN k W h.1) ⟨i1,b1⟩).mono ?_
  ·rintro k W hk ⟨hi,hb⟩;have hl:=((hBk _ _).1 hb).1;have hy:=run_yield (P:=P) (args:=enc k) hl (by rw [hmk];exact hps k);rw [hmk] at hy;refine ⟨fn,_,assign,body,hy,roundIn_of_wpIn hfn (hassign _ k W _ hk hi ?_)⟩;intro a' Wa hka hia hax;have hba:=keep _ _ _ hb hka;have hla:=((hBk _ _).1 hba).1;have hbr:=run_beginRound (P:=P) hla (by rw [hmk])
   rw [show ({ mk .ready with state:=.busy }:Loop)=mk .busy by rw [hmk,hmk]] at hbr;obtain ⟨hbb,hcb⟩:=turn _ .busy _ hba;refine ⟨_,hbr,wpIn_mono (hbody _ k a' _ hk (hI _ _ _ hia hcb) (hAx _ _ _ _ hax hcb)) ?_⟩;rintro e a3 W3 ⟨rfl,hk3,hi3⟩;have hb3:=keep _ _ _ hbb hk3;have her:=run_endRound (P:=P) none ((hBk _ _).1 hb3).1
   rw [show ({ mk .busy with state:=if (none:Option Code).isNone then .ready else .done,pending:=none }:Loop)=mk .ready by rw [hmk,hmk];rfl] at her;obtain ⟨hb4,hc4⟩:=turn _ .ready _ hb3;exact ⟨_,_,her,rfl,hI _ _ _ hi3 hc4,hb4⟩
  ·rintro e W2 ⟨⟨v,rfl⟩,hi,hb⟩;have hl:=((hBk _ _).1 hb).1;have hel:=run_endLoop (P:=P) hl (by rw [hmk];simp);rw [show (mk .ready).pending=none by rw [hmk]] at hel;exact ⟨none,_,hel,hdone _ _ (Nat.le_refl _) (hI _ _ _ hi (vZi (by omega) hl rfl rfl)) ((World.putObj_heap_other (by omega)).trans ((hBk _ _).1 hb).2)⟩
section
attribute [local go_sem] Oper.semAt_some
def zeroNr:Nr:=⟨⟨0,0,0,false,0,[],[],⟨0,0,0,false,false,false,0,0,0⟩,⟨0,0,0,0,0,0,0,0,0⟩,⟨0,0,0,0,0,0,0,0,0⟩⟩,none,0,none,0⟩
def nrAt (R:List Nr) (i:Nat):Nr:=(R[i]?).getD zeroNr
theorem hZ9 {R:List Nr} {i:Nat} {p:Nr} (h:R[i]?=some p):nrAt R i=p:=by unfold nrAt;rw [h];rfl
def encR (R:List Nr) (k:Nat):Array Value:=#[.int .i64 ((R.length-1-k:Nat):Int),.agg (jZj (nrAt R (R.length-1-k))).toArray]
theorem encR_at {R:List Nr} {j:Nat} {p:Nr} (h:R[j]?=some p):encR R (R.length-(j+1))=#[.int .i64 (j:Int),.agg (jZj p).toArray]:=by
 have hj:=(List.getElem?_eq_some_iff.1 h).1;unfold encR;rw [show R.length-1-(R.length-(j+1))=j by omega,hZ9 h]
theorem bkc_in (F:Fence) (n:Nat) (hF:F.fn 165) (hro:F.round=none) (hn:1≤n) (Bs:Nat) (A:Option Addr) (c:Nat) (R:List Nr) (hL:R.length≤1048576) :
  SeqCnt F n Tryz.prog 165 #[.pointer (some ⟨Bs,0,none⟩)] (encR R) (fun W=>W.cell? ⟨Bs,0,none⟩=some (.slice A R.length c)∧NrV W A R) R.length:=by
 intro l J W hY hJN h0;have hcs:=(hJN _ _ h0).1;refine callsIn_of_wp Tryz.func165 rfl hF ?_ hro;simp only [Tryz.ntmps165,List.size_toArray,List.length_cons,List.length_nil,Nat.reduceAdd,Nat.reduceSub,Array.replicate_succ,Array.replicate_zero,List.push_toArray,List.append_toArray,List.nil_append,List.cons_append]
 gi_wp2
 clear hcs
 gi_loopw [3] (fun i wr=>∃ k:Nat,k≤R.length∧i=.int .i64 ((k:Int)-1)∧J (R.length-k) wr)
  (fun i _=>(intOf i+1).toNat)
 case atStart=>exact ⟨R.length,Nat.le_refl _,rfl,by rw [Nat.sub_self];exact h0⟩
 case round =>
  obtain ⟨k,hk,rfl,hJs⟩:=hrel
  rcases k with _ | j
  ·have hd:decide (((0:Nat):Int)-1≥0)=false:=by simp
   gi_wp2
   go_end0
   exact ⟨⟨_,rfl⟩,hJs⟩
  ·have e1:((j+1:Nat):Int)-1=(j:Int):=by omega
   rw [e1]
   have hlt:j<R.length:=by omega
   have hd:decide ((j:Int)≥0)=true:=by simp
   have hd2:decide ((0:Int)≤(j:Int))=true:=by simp
   obtain ⟨hcs,hp⟩:=hJN _ _ hJs;obtain ⟨b,off,rfl,hb,hps⟩:=hp.cells (by omega);have hget:R[j]?=some R[j]:=List.getElem?_eq_getElem hlt;have hc:=hps j _ hget;have he:=encR_at hget;generalize hx:R[j]=p at *;obtain ⟨fn,tmps,assign,body,hy,hR⟩:=hY (R.length-(j+1)) wr (by omega) hJs;rw [he] at hy;have HC:=hD hc;have HE:Hid (R.length-(j+1)+1=R.length-j):=hD (by omega);clear hc hget hx hps e1 hp he
   have hjs:IntKind.i64.wrap ((j:Int)-1)=(j:Int)-1:=IntWalk.i64_in _ (by omega)
   gi_wp2_with (refine ldNI 43 _ (jZj p) b (off+j*34) rfl rfl rfl HC.out Tryz.underlying43 rfl (by rw [pZ8];kernel_rfl) ?_)
   refine hR.mono ?_;rintro e W3 ⟨rfl,hJ3⟩;rw [HE.out] at hJ3
   gi_wp2
   go_roundw
   case rel=>exact ⟨j,by omega,by go_num,hJ3⟩
   case measure=>simp [intOf]
end

theorem OB.sameL {w w':World} {g cap:Nat} {L:List Int} (h:OB w g cap L) (e:w'.heap[g]?=w.heap[g]?):OB w' g cap L:=by
 obtain ⟨hl,cs,hh,hs,hc⟩:=h;exact ⟨hl,cs,e.trans hh,hs,hc⟩
theorem OB.nr {w:World} {g cap n:Nat} {L:List Int} (h:OB w g cap L) (hn:n=L.length) (m:Nat):NR w (.slice (some ⟨g,0,none⟩) n m) L:=⟨_,m,by rw [hn],h.nv⟩
def GO (lo:Nat) (w:World) (v:Value) (M:List Int):Prop:=(v=.slice none 0 0∧M=[])∨∃ g cap n,v=.slice (some ⟨g,0,none⟩) n cap∧n=M.length∧lo≤g∧OB w g cap M
theorem GO.of {lo n:Nat} {w:World} {v:Value} {M:List Int} (h:w.ownsRow lo 3 1 v n (kZt M)) (hn:n=M.length):GO lo w v M :=
 (vZk h hn).imp id fun ⟨g,cap,h1,h2,h3⟩=>⟨g,cap,n,h1,hn,h2,h3⟩
theorem GO.nr {lo:Nat} {w:World} {v:Value} {L:List Int} (h:GO lo w v L):NR w v L:=by
 rcases h with ⟨rfl,rfl⟩ | ⟨g,cap,n,rfl,hn,_,hk⟩
 ·exact ⟨none,0,rfl,NV.nil _ _⟩
 ·exact hk.nr hn cap
theorem GO.keep {lo:Nat} {w w':World} {v:Value} {L:List Int} (h:GO lo w v L) (hb:Below w.heap.size w w'):GO lo w' v L:=h.imp id fun ⟨g,cap,n,h1,h2,h3,hk⟩=>⟨g,cap,n,h1,h2,h3,hk.keep hb⟩
theorem GO.mono {lo lo':Nat} {w:World} {v:Value} {L:List Int} (h:GO lo w v L) (hl:lo'≤lo):GO lo' w v L:=h.imp id fun ⟨g,cap,n,h1,h2,h3,hk⟩=>⟨g,cap,n,h1,h2,Nat.le_trans hl h3,hk⟩
theorem indicesF_v (n:Nat) (f:Nat→Bool) (caps:Array Value) (w:World) (hn:n≤1048576)
  (hf:∀ k,k<n→∀ W,Below w.heap.size w W→Calls Tryz.prog 122 (#[.int .i64 (k:Int)] ++ caps) W fun e W'=>e=.returned (.bool (f k))∧Below W.heap.size W W') :
  Calls Tryz.prog 81 #[.int .i64 (n:Int),.func (.func 122) #[] caps] w fun e w'=>(∃ v,e=.returned v∧GO w.heap.size w' v (idsM f n))∧Below w.heap.size w w' :=
 (cZ0 122 (enters_of Tryz.func122 (by kernel_rfl) rfl) n f caps w hn hf).mono fun e w' ⟨⟨v,h1,h2⟩,h3⟩=>⟨⟨v,h1,GO.of h2 rfl⟩,h3⟩
theorem kidsOf_f (A:Option Addr) (c:Nat) (R:List Nr) (i:Int) (w:World) (h:NrV w A R) (hL:R.length≤1048576) :
  Calls Tryz.prog 88 #[.agg #[.slice A R.length c],.int .i64 i] w fun e w'=>(∃ v,e=.returned v∧GO w.heap.size w' v (kidsM R i))∧Below w.heap.size w w':=by
 have hB0:Below w.heap.size w ((w.alloc (.cells #[.slice A R.length c] 25 (0,0))).alloc (.cells #[.int .i64 i] 3 (0,0))):=(jZd (Below.refl _ _)).trans ((jZd (Below.refl _ _)).mono (by simp))
 have H1:=hD (show ((w.alloc (.cells #[.slice A R.length c] 25 (0,0))).alloc (.cells #[.int .i64 i] 3 (0,0))).heap[w.heap.size]?=some (.cells #[.slice A R.length c] 25 (0,0)) from (Below.heap_alloc _ _ _ (by simp)).trans (newS _ _))
 have H2:=hD (show ((w.alloc (.cells #[.slice A R.length c] 25 (0,0))).alloc (.cells #[.int .i64 i] 3 (0,0))).heap[w.heap.size+1]?=some (.cells #[.int .i64 i] 3 (0,0)) from by have:=newS (w.alloc (.cells #[.slice A R.length c] 25 (0,0))) (.cells #[.int .i64 i] 3 (0,0));simpa using this);have HV:=hD (h.keep hB0);have HB:=hD hB0;clear hB0 h
 go_enter Tryz.func88,Tryz.ntmps88
 go_wp2_with fail
 refine (indicesF_v R.length (sZb R i) #[.pointer (some ⟨w.heap.size,0,none⟩),.pointer (some ⟨w.heap.size+1,0,none⟩)] _ hL (fun k hk W hW=>kid1_v A c R i k _ _ W (HV.out.keep hW) hk ((jZc ((hW.block _ (ltS H1.out)).trans H1.out) 0)) ((jZc ((hW.block _ (ltS H2.out)).trans H2.out) 0)) (Nat.lt_of_lt_of_le (ltS H1.out) hW.size) (Nat.lt_of_lt_of_le (ltS H2.out) hW.size) hL)).mono ?_
 rintro e w1 ⟨⟨v,rfl,hv⟩,hb1⟩;have HK:Hid (GO w.heap.size w1 v (kidsM R i)):=hD (hv.mono (by simp <;> omega));replace HB:=hD (jZa HB.out hb1);clear hv hb1 H1 H2 HV;go_wp2;go_ret;exact ⟨⟨v,rfl,HK.out⟩,HB.out⟩
theorem nc_pk (v:Value) (w:World):(nilAhead (Tryz.prog.types.size+Made.depth) 155 v "loop.example/widgetroom/impl.request").run Tryz.prog w=.ok (some false) w:=by kernel_rfl
theorem nc_gr (v:Value) (w:World):(nilAhead (Tryz.prog.types.size+Made.depth) 149 v "loop.example/widgetroom/impl.request").run Tryz.prog w=.ok (some false) w:=by kernel_rfl
theorem nc_pl (v:Value) (w:World):(nilAhead (Tryz.prog.types.size+Made.depth) 151 v "loop.example/widgetroom/impl.request").run Tryz.prog w=.ok (some false) w:=by kernel_rfl
theorem cm_pk (v u:Value) (w:World):(callMethod (.iface 155 v) "loop.example/widgetroom/impl.request" #[u]).run Tryz.prog w=.ok (.enter 235 #[v,u]) w:=by kernel_rfl
theorem cm_gr (v u:Value) (w:World):(callMethod (.iface 149 v) "loop.example/widgetroom/impl.request" #[u]).run Tryz.prog w=.ok (.enter 205 #[v,u]) w:=by kernel_rfl
theorem cm_pl (v u:Value) (w:World):(callMethod (.iface 151 v) "loop.example/widgetroom/impl.request" #[u]).run Tryz.prog w=.ok (.enter 227 #[v,u]) w:=by kernel_rfl
theorem run_inv {P:Program} {ρ:Operand→Value} {o:Oper} {w:World} {T:TypeId} {v u:Value} {x y:Operand} {name:String} {ts:Array TypeId} {F:FuncId} (ho:o.op=.call { callee:=.invoke x name,args:=#[y],argTypes:=ts }) (hx:ρ x=.iface T v) (hy:ρ y=u) (hc:(callMethod (.iface T v) name #[u]).run P w=.ok (.enter F #[v,u]) w):(execOp ρ o).run P w=.ok (.enter F #[v,u]) w:=by
 unfold execOp;simp only [ho,resolve,List.map_toArray,List.map_cons,List.map_nil,hx,hy,Sem.run_bind,Sem.run_pure,Result.andThen_ok,invoke]
 simpa using hc
theorem run_mf {P:Program} {ρ:Operand→Value} {o:Oper} {w:World} {x:Operand} {name:String} (ho:o.op=.makeFunc (.method name) #[x] #[]):(execOp ρ o).run P w=.ok (.value (.func (.method name) #[ρ x] #[])) w:=by
 unfold execOp;simp only [ho]
 simp [Instr.makeFunc,Sem.run_pure]
theorem run_nc {P:Program} {ρ:Operand→Value} {o:Oper} {w:World} {T:TypeId} {v:Value} {x:Operand} {name:String} (ho:o.op=.nilCheck x) (hx:ρ x=.func (.method name) #[.iface T v] #[]) (hn:(nilAhead (P.types.size+Made.depth) T v name).run P w=.ok (some false) w):(execOp ρ o).run P w=.ok (.value (ρ x)) w:=by
 unfold execOp;simp only [ho,hx]
 simp [Sem.run_bind,hn]
theorem arReq {v:Value} {x:Wd} {p:Nr} {Y:List Wd} {w:World} {ww hh:Int} {q:Int × Int} (h:ArV w v x Y) (hx:x.p=p) (hr:RdN w p) (hl:Y.length≤10)
  (c0:p.n.ki≠1→p.n.ki≠2→(∀ r∈Y.map pkW,r.big)∧reqM (Y.map pkW)=q)
  (c1:p.n.ki=1→(kZd p.n.cs=true∧kZd p.n.rs=true)∧((∀ r∈Y.map ceW,smW r)∧pZ7 p.n.cs.length ((Y.map ceW).map acM)∧pZ7 p.n.rs.length ((Y.map ceW).map dnM))∧vZh p.n.cs p.n.rs (Y.map ceW)=q)
  (c2:p.n.ki=2→(ww,hh)=q) :
  ∃ T u F,v=.iface T u∧(nilAhead (Tryz.prog.types.size+Made.depth) T u "loop.example/widgetroom/impl.request").run Tryz.prog w=.ok (some false) w ∧
   (∀ z w,(callMethod (.iface T u) "loop.example/widgetroom/impl.request" #[z]).run Tryz.prog w=.ok (.enter F #[u,z]) w) ∧
   Calls Tryz.prog F #[u,.agg (kZs (ww,hh)).toArray] w fun e w'=>e=.returned (.agg (kZs q).toArray)∧Below w.heap.size w w':=by
 subst hx;obtain ⟨g,hg,⟨k1,rfl,hv⟩ | ⟨k1,rfl,hv⟩ | ⟨k1,k2,rfl,hv⟩⟩:=h
 ·obtain ⟨⟨l1,l2⟩,⟨s1,s2,s3⟩,rfl⟩:=c1 k1;refine ⟨_,_,_,rfl,nc_gr _ _,fun _ _=>cm_gr _ _ _,?_⟩;exact gridReq_v _ _ _ _ _ _ _ _ _ (Y.map ceW) ww hh w hr.c hr.r (cev_of (by rw [List.map_map];exact hv)) (by rw [List.length_map]) l1 l2 (by rw [List.length_map];exact hl) s1 s2 s3
 ·obtain rfl:=c2 k1;exact ⟨_,_,_,rfl,nc_pl _ _,fun _ _=>cm_pl _ _ _,placeReq_v _ ww hh w⟩
 ·obtain ⟨b1,rfl⟩:=c0 k1 k2;refine ⟨_,_,_,rfl,nc_pk _ _,fun _ _=>cm_pk _ _ _,?_⟩;exact packReq_v _ _ _ (Y.map pkW) ww hh w (pv_of (by rw [List.map_map];exact hv)) (by rw [List.length_map]) b1 (by rw [List.length_map];exact hl)
def MfV (w:World) (v:Value) (x:Wd) (Y:List Wd):Prop:=∃ u,v=.func (.method "loop.example/widgetroom/impl.request") #[u] #[]∧ArV w u x Y
theorem MfV.keep {w w':World} {v:Value} {x:Wd} {Y:List Wd} (h:MfV w v x Y) (hb:Below w.heap.size w w'):MfV w' v x Y:=let ⟨u,e,k⟩:=h;⟨u,e,k.keep hb⟩
theorem hZk {R:List Nr} {X:List Wd} {f:Nat→Int × Int}:∀ {ks:List Nat},(∀ k∈ks,∃ y p,X[k]?=some y∧R[k]?=some p∧y.p=p∧(y.sw,y.sh)=f k)→(pZf X ks).map pkW=pksF (R.map Nr.n) f ks∧(pZf X ks).map ceW=cesF (R.map Nr.n) f ks
 | [],_=>⟨rfl,rfl⟩
 | k :: t,h=>by
  obtain ⟨y,p,h1,h2,h3,h4⟩:=h k (List.mem_cons_self ..)
  obtain ⟨i1,i2⟩:=hZk (X:=X) (R:=R) (f:=f) (ks:=t) fun k hk=>h k (List.mem_cons_of_mem _ hk)
  have e:(R.map Nr.n)[k]?=some p.n:=by rw [List.getElem?_map,h2];rfl
  unfold pZf at i1 i2 ⊢;unfold pksF at i1 ⊢;unfold cesF at i2 ⊢;rw [List.filterMap_cons_some (b:=y) h1,List.filterMap_cons_some (b:=pkOf p.n (f k)) (by rw [e];rfl),List.filterMap_cons_some (b:=ceOf p.n (f k)) (by rw [e];rfl)];rw [List.map_cons,List.map_cons,i1,i2];refine ⟨?_,?_⟩
  ·congr 1
   unfold pkW pkOf;rw [h3,<- h4]
  ·congr 1
   unfold ceW ceOf;rw [h3,<- h4]
section
attribute [local go_sem] Oper.semAt_some
attribute [local go_sem] jZ0 jZ5 jZ2
def zeroNrA:Array Value:=(jZj zeroNr).toArray
def zeroWd:Wd:=⟨zeroNr,0,0,none,0,0⟩
theorem made_zero:∃ f:Nat→Array Value,(∀ n,(f n).size=n*37)∧(∀ n i,i<n→InS (f n) (i*37) (valsWd zeroWd))∧∀ (n:Nat) (w:World),n≤1048576→(Instr.makeSlice 109 (.int .i64 (n:Int)) (.int .i64 (n:Int))).run Tryz.prog w=.ok (.slice (some ⟨w.heap.size,0,none⟩) n n) (w.alloc (.cells (f n) 112)):=by
 obtain ⟨i,z,hi,h1,h2,h3,h4⟩:∃ (i:TypeInfo) (z:Value),Tryz.prog.info? 112=some i∧i.zero=some z∧i.size=37∧i.bytes≤512∧z.cells=(valsWd zeroWd).toArray:=by
  have h:(Tryz.prog.info? 112).map (fun i=>(i.size,decide (i.bytes≤512),i.zero.map Value.cells))=some (37,true,some (valsWd zeroWd).toArray):=by kernel_rfl
  cases hq:Tryz.prog.info? 112 with
  | none=>rw [hq] at h;cases h
  | some i =>
   rw [hq] at h;simp only [Option.map_some,Option.some.injEq,Prod.mk.injEq] at h;obtain ⟨e1,e2,e3⟩:=h
   cases hz:i.zero with
   | none=>rw [hz] at e3;cases e3
   | some z=>rw [hz] at e3;exact ⟨i,z,rfl,hz,e1,by simpa using e2,by simpa using e3⟩
 refine ⟨fun n=>madeCells z.cells (n*37),fun n=>size_madeCells _ _,fun n k hk j u hj=>?_,fun n w hn=>?_⟩
 ·have hj37:j<37:=by have:=(List.getElem?_eq_some_iff.1 hj).1;rwa [rZg] at this
  have hlt:k*37+j<n*37:=by
   have:(k+1)*37≤n*37:=Nat.mul_le_mul_right 37 hk
   omega
  have hm:(k*37+j) % 37=j:=by omega
  have hs:z.cells.size=37:=by rw [h4];rfl
  have hq:z.cells[j]?=some u:=by rw [h4];simpa only [List.getElem?_toArray] using hj
  obtain ⟨hlt2,he⟩:=gE hq;clear hj h4;unfold madeCells;rw [Array.getElem?_map,Array.getElem?_range,if_pos hlt,Option.map_some,hs,hm,getElem!_pos z.cells j hlt2,he]
 ·have e:((i.bytes*n:Nat):Int)≤((512*1048576:Nat):Int):=Int.ofNat_le.2 (Nat.mul_le_mul h3 hn);rw [Int.natCast_mul] at e;have hr:=run_make (P:=Tryz.prog) w 109 112 i _ Tryz.underlying109 hi h1 .i64 .i64 n n (by omega) (Int.le_refl _) (Int.le_trans e (by decide)) (by omega);rw [h2] at hr
  simpa using hr
def KidA (lo:Nat) (w:World) (A:Option Addr) (M:List Int):Prop:=(A=none∧M=[])∨∃ g cap,A=some ⟨g,0,none⟩∧lo≤g∧OB w g cap M
theorem KidA.nv {lo:Nat} {w:World} {A:Option Addr} {M:List Int} (h:KidA lo w A M):NV w A M:=by
 rcases h with ⟨rfl,rfl⟩ | ⟨g,cap,rfl,_,h⟩
 ·exact NV.nil _ _
 ·exact h.nv
theorem KidA.same {lo:Nat} {w w':World} {A:Option Addr} {M:List Int} (h:KidA lo w A M) (hs:∀ (g:Nat),lo≤g→∀ cs:Array Value,w.heap[g]?=some (.cells cs 3 (0,0))→w'.heap[g]?=w.heap[g]?):KidA lo w' A M:=by
 rcases h with ⟨rfl,rfl⟩ | ⟨g,cap,rfl,hl,h⟩
 ·exact .inl ⟨rfl,rfl⟩
 ·obtain ⟨_,cs,hh,_⟩:=id h;exact .inr ⟨g,cap,rfl,hl,h.sameL (hs g hl cs hh)⟩
theorem KidA.keep {lo:Nat} {w w':World} {A:Option Addr} {M:List Int} (h:KidA lo w A M) (hb:Below w.heap.size w w'):KidA lo w' A M:=h.same fun g _ cs hg=>hb.block g (ltS hg)
def KdA (lo:Nat) (w:World) (v:Value) (M:List Int):Prop:=∃ A c,v=.slice A M.length c∧KidA lo w A M
theorem KdA.keep {lo:Nat} {w w':World} {v:Value} {M:List Int} (h:KdA lo w v M) (hb:Below w.heap.size w w'):KdA lo w' v M:=let ⟨A,c,e,k⟩:=h;⟨A,c,e,k.keep hb⟩
theorem KdA.of {lo lo':Nat} {w:World} {v:Value} {M:List Int} (h:GO lo' w v M) (hl:lo≤lo'):KdA lo w v M:=by
 rcases h with ⟨rfl,rfl⟩ | ⟨g,cap,n,rfl,rfl,h1,h2⟩
 ·exact ⟨none,0,rfl,.inl ⟨rfl,rfl⟩⟩
 ·exact ⟨_,cap,rfl,.inr ⟨g,cap,rfl,by omega,h2⟩⟩
def IsWd (lo:Nat) (w:World) (x:Wd) (p:Nr) (q:Int × Int) (M:List Int):Prop:=x.p=p∧(x.sw,x.sh)=q∧x.kn=M.length∧KidA lo w x.ka M
theorem IsWd.keep {lo:Nat} {w w':World} {x:Wd} {p:Nr} {q:Int × Int} {M:List Int} (h:IsWd lo w x p q M) (hb:Below w.heap.size w w'):IsWd lo w' x p q M:=⟨h.1,h.2.1,h.2.2.1,h.2.2.2.keep hb⟩
def WdV (lo:Nat) (w:World) (v:Value) (p:Nr) (q:Int × Int) (M:List Int):Prop:=∃ x:Wd,v=.agg (valsWd x).toArray∧IsWd lo w x p q M
theorem WdV.keep {lo:Nat} {w w':World} {v:Value} {p:Nr} {q:Int × Int} {M:List Int} (h:WdV lo w v p q M) (hb:Below w.heap.size w w'):WdV lo w' v p q M:=let ⟨x,e,k⟩:=h;⟨x,e,k.keep hb⟩
theorem run_bW (p:Nr) (a b:Int) (A:Option Addr) (n c:Nat) (w:World):(Instr.build 112 #[(0,.agg (jZj p).toArray),(1,.agg #[.int .i64 a,.int .i64 b]),(2,.slice A n c)]).run Tryz.prog w=.ok (.agg (valsWd ⟨p,a,b,A,n,c⟩).toArray) w:=by kernel_rfl
def WdK (lo:Nat) (w:World) (R:List Nr) (i:Nat) (x:Wd):Prop:=∃ p,R[i]?=some p∧IsWd lo w x p (szM (R.map Nr.n) i) ((kidD (R.map Nr.n) i).map fun (k:Nat)=>(k:Int))
structure StW (w:World) (A:Option Addr) (c:Nat) (R:List Nr) (k:Nat) (W:World):Prop where
 t:W.heap[w.heap.size]?=some (.cells #[.slice A R.length c] 25 (0,0))
 s:W.heap[w.heap.size+1+1]?=some (.cells #[.slice (some ⟨w.heap.size+1,0,none⟩) R.length R.length] 109 (0,0))
 b:W.heap[w.heap.size+1+1+1]?=some (.cells #[.slice A R.length c] 23 (0,0))
 x:∃ X:List Wd,X.length=R.length∧RbK 37 W (w.heap.size+1) 112 (X.map valsWd)∧∀ i x,X[i]?=some x→R.length≤i+k→WdK (w.heap.size+4) W R i x
 l:Below w.heap.size w W
 z:w.heap.size+4≤W.heap.size
theorem StW.same {w W W':World} {A:Option Addr} {c:Nat} {R:List Nr} {k:Nat} (h:StW w A c R k W) (hb:Below w.heap.size W W') (hc:∀ (g:Nat) (cs:Array Value) (T:TypeId),W.heap[g]?=some (.cells cs T (0,0))→W'.heap[g]?=W.heap[g]?):StW w A c R k W':=by
 obtain ⟨t,s,b,⟨X,x1,x2,x3⟩,l,z⟩:=h;have x2':=x2;obtain ⟨cs,hh,_⟩:=x2';refine ⟨(hc _ _ _ t).trans t,(hc _ _ _ s).trans s,(hc _ _ _ b).trans b,⟨X,x1,x2.keep' (hc _ _ _ hh),fun i x hx hi=>?_⟩,l.trans hb,Nat.le_trans z hb.size⟩;obtain ⟨p,hp,k1,k2,k3,k4⟩:=x3 i x hx hi;exact ⟨p,hp,k1,k2,k3,k4.same fun g _ cs hg=>hc g cs _ hg⟩
theorem StW.below {w W W':World} {A:Option Addr} {c:Nat} {R:List Nr} {k:Nat} (h:StW w A c R k W) (hb:Below W.heap.size W W'):StW w A c R k W':=h.same (hb.mono (by have:=h.z;omega)) fun g cs T hg=>hb.block g (ltS hg)
theorem rZl {cs:Array Value} {o:Nat} {A B:List Value}:InS cs o (A ++ B)↔InS cs o A∧InS cs (o+A.length) B:=by
 constructor
 ·intro h;refine ⟨fun j u hj=>h j u ?_,fun j u hj=>?_⟩
  ·rw [List.getElem?_append_left (List.getElem?_eq_some_iff.1 hj).1];exact hj
  ·rw [Nat.add_assoc];refine h (A.length+j) u ?_;rw [List.getElem?_append_right (by omega)]
   simpa using hj
 ·rintro ⟨h1,h2⟩ j u hj
  by_cases hl:j<A.length
  ·rw [List.getElem?_append_left hl] at hj;exact h1 j u hj
  ·rw [List.getElem?_append_right (by omega)] at hj
   have:=h2 _ u hj
   rwa [show o+A.length+(j-A.length)=o+j by omega] at this
theorem RbK.set {k:Nat} {w:World} {g:Nat} {T:TypeId} {R:List (List Value)} (h:RbK k w g T R) (hR:∀ vs∈R,vs.length=k) {j:Nat} {vs:List Value} (hv:vs.length=k) (hj:j<R.length):RbK k (w.setCells g (j*k) vs) g T (R.set j vs):=by
 obtain ⟨cs,hh,hs,hc⟩:=h;have e:(j+1)*k≤R.length*k:=Nat.mul_le_mul_right k hj;rw [Nat.add_mul,Nat.one_mul] at e;refine ⟨_,jZ4 vs (j*k) _ _ hh,by rw [pZ6,hs,List.length_set],fun i us hi hu=>?_⟩
 by_cases ei:i=j
 ·subst ei;rw [List.getElem?_set_self (by simpa using hj)] at hu;obtain rfl:=Option.some.inj hu;exact InS.write (by rw [hv,hs];omega)
 ·rw [List.getElem?_set_ne (fun e=>ei e.symm)] at hu;have hil:=(List.getElem?_eq_some_iff.1 hu).1;refine (hc i us hil hu).keepS ?_;rw [hR us (List.mem_of_getElem? hu),hv]
  rcases Nat.lt_or_gt_of_ne ei with hlt | hlt
  ·left
   have e2:(i+1)*k≤j*k:=Nat.mul_le_mul_right k hlt;rw [Nat.add_mul,Nat.one_mul] at e2;omega
  ·right
   have e2:(j+1)*k≤i*k:=Nat.mul_le_mul_right k hlt;rw [Nat.add_mul,Nat.one_mul] at e2;omega
theorem RbK.wish {w:World} {g:Nat} {T:TypeId} {X:List Wd} (h:RbK 37 w g T (X.map valsWd)) {j:Nat} {x:Wd} (hx:X[j]?=some x) (a b:Int):RbK 37 (w.setCells g (j*37+34) (kZs (a,b))) g T ((X.set j { x with sw:=a,sh:=b }).map valsWd):=by
 obtain ⟨cs,hh,hs,hc⟩:=h;have hj:=(List.getElem?_eq_some_iff.1 hx).1;rw [List.length_map] at hs;have e:(j+1)*37≤X.length*37:=Nat.mul_le_mul_right 37 hj;refine ⟨_,jZ4 _ (j*37+34) _ _ hh,by rw [pZ6,hs,List.length_map,List.length_set],fun i us hi hu=>?_⟩;rw [List.getElem?_map] at hu
 by_cases ei:i=j
 ·subst ei;rw [List.getElem?_set_self hj] at hu;obtain rfl:=Option.some.inj hu;have h0:=hc i (valsWd x) (by rw [List.length_map];exact hj) (by rw [List.getElem?_map,hx];rfl);unfold valsWd at h0 ⊢;rw [show ([.int .i64 x.sw,.int .i64 x.sh,.slice x.ka x.kn x.kc]:List Value)=kZs (x.sw,x.sh) ++ [.slice x.ka x.kn x.kc] from rfl,rZl,rZl] at h0
  rw [show ([.int .i64 a,.int .i64 b,.slice x.ka x.kn x.kc]:List Value)=kZs (a,b) ++ [.slice x.ka x.kn x.kc] from rfl,rZl,rZl];refine ⟨h0.1.keepS (.inl (by rw [pZ8];omega)),InS.write (by rw [hs];show _+34+2≤_;omega),h0.2.2.keepS (.inr ?_)⟩
  show i*37+34+2≤i*37+34+2
  omega
 ·rw [List.getElem?_set_ne (fun e=>ei e.symm)] at hu
  cases hxi:X[i]? with
  | none=>rw [hxi] at hu;cases hu
  | some y =>
   rw [hxi] at hu;obtain rfl:=Option.some.inj hu;have hil:=(List.getElem?_eq_some_iff.1 hxi).1;refine (hc i (valsWd y) (by rw [List.length_map];exact hil) (by rw [List.getElem?_map,hxi];rfl)).keepS ?_;rw [rZg]
   show _∨j*37+34+2≤_
   omega
theorem KidA.sets {lo g o:Nat} {w:World} {A:Option Addr} {M:List Int} (h:KidA lo w A M) (hg:g<lo) (vs:List Value):KidA lo (w.setCells g o vs) A M:=h.same fun b hb cs _=>jZv (by omega) vs o w
structure StM (w:World) (A:Option Addr) (c:Nat) (R:List Nr) (j:Nat) (x:Wd) (W:World):Prop where
 t:W.heap[w.heap.size]?=some (.cells #[.slice A R.length c] 25 (0,0))
 s:W.heap[w.heap.size+1+1]?=some (.cells #[.slice (some ⟨w.heap.size+1,0,none⟩) R.length R.length] 109 (0,0))
 b:W.heap[w.heap.size+1+1+1]?=some (.cells #[.slice A R.length c] 23 (0,0))
 x:∃ X:List Wd,X.length=R.length∧RbK 37 W (w.heap.size+1) 112 (X.map valsWd)∧X[j]?=some x∧∀ i x,X[i]?=some x→j<i→WdK (w.heap.size+4) W R i x
 l:Below w.heap.size w W
 z:w.heap.size+4≤W.heap.size
theorem WdK.sets {lo g o i:Nat} {w:World} {R:List Nr} {x:Wd} (h:WdK lo w R i x) (hg:g<lo) (vs:List Value):WdK lo (w.setCells g o vs) R i x:=let ⟨p,hp,a,b,c,d⟩:=h;⟨p,hp,a,b,c,d.sets hg vs⟩
theorem WdK.keep {lo i:Nat} {w w':World} {R:List Nr} {x:Wd} (h:WdK lo w R i x) (hb:Below w.heap.size w w'):WdK lo w' R i x:=let ⟨p,hp,a⟩:=h;⟨p,hp,a.keep hb⟩
theorem StM.keep {w W W':World} {A:Option Addr} {c:Nat} {R:List Nr} {j:Nat} {x:Wd} (h:StM w A c R j x W) (hb:Below W.heap.size W W'):StM w A c R j x W':=by
 obtain ⟨t,s,b,⟨X,x1,x2,x3,x4⟩,l,z⟩:=h;exact ⟨(hb.block _ (ltS t)).trans t,(hb.block _ (ltS s)).trans s,(hb.block _ (ltS b)).trans b,⟨X,x1,x2.keep hb,x3,fun i x hx hi=>(x4 i x hx hi).keep hb⟩,jZa l hb,Nat.le_trans z hb.size⟩
theorem StM.wish {w W:World} {A:Option Addr} {c:Nat} {R:List Nr} {j:Nat} {x:Wd} (h:StM w A c R j x W) (a b:Int):StM w A c R j { x with sw:=a,sh:=b } (W.setCells (w.heap.size+1) (j*37+34) (kZs (a,b))):=by
 obtain ⟨t,s,b',⟨X,x1,x2,x3,x4⟩,l,z⟩:=h;refine ⟨(jZv (by omega) _ _ _).trans t,(jZv (by omega) _ _ _).trans s,(jZv (by omega) _ _ _).trans b',⟨_,by rw [List.length_set,x1],x2.wish x3 a b,List.getElem?_set_self (List.getElem?_eq_some_iff.1 x3).1,fun i y hy hi=>?_⟩,jZi (by omega) _ _ _ l,by rw [pZr];exact z⟩
 rw [List.getElem?_set_ne (by omega)] at hy;exact (x4 i y hy hi).sets (by omega) _
theorem StM.done {w W:World} {A:Option Addr} {c:Nat} {R:List Nr} {j k:Nat} {x:Wd} (h:StM w A c R j x W) (hx:WdK (w.heap.size+4) W R j x) (hj:j+(k+1)=R.length):StW w A c R (k+1) W:=by
 obtain ⟨t,s,b,⟨X,x1,x2,x3,x4⟩,l,z⟩:=h;refine ⟨t,s,b,⟨X,x1,x2,fun i y hy hi=>?_⟩,l,z⟩
 by_cases e:i=j
 ·subst e;rw [x3] at hy;obtain rfl:=Option.some.inj hy;exact hx
 ·exact x4 i y hy (by omega)
theorem StW.put {w W:World} {A:Option Addr} {c:Nat} {R:List Nr} {j k:Nat} (h:StW w A c R k W) (hj:R.length≤j+(k+1)) (hj2:j+k<R.length) (x:Wd):StM w A c R j x (W.setCells (w.heap.size+1) (j*37) (valsWd x)):=by
 obtain ⟨t,s,b',⟨X,x1,x2,x4⟩,l,z⟩:=h;refine ⟨(jZv (by omega) _ _ _).trans t,(jZv (by omega) _ _ _).trans s,(jZv (by omega) _ _ _).trans b',⟨X.set j x,by rw [List.length_set,x1],?_,List.getElem?_set_self (by omega),fun i y hy hi=>?_⟩,jZi (by omega) _ _ _ l,by rw [pZr];exact z⟩
 ·rw [List.map_set];exact x2.set (fun vs hv=>by obtain ⟨y,_,rfl⟩:=List.mem_map.1 hv;exact rZg y) (rZg x) (by rw [List.length_map];omega)
 ·rw [List.getElem?_set_ne (by omega)] at hy;exact (x4 i y hy (by omega)).sets (by omega) _
theorem pZp {B g:Nat}:∀ (vs:List Value) (o:Nat) (w:World),KeepsFrom B w (w.setCells g o vs)
 | [],o,w=>KeepsFrom.refl B w
 | v :: r,o,w=>((KeepsOthers.setCell w ⟨g,o,none⟩ v).from B).trans (pZp r (o+1) (w.setCell ⟨g,o,none⟩ v))
theorem KidA.any {lo:Nat} {w:World} {A:Option Addr} {M:List Int} (h:KidA lo w A M):KidA 0 w A M:=by
 rcases h with h | ⟨g,cap,e,_,h⟩
 ·exact .inl h
 ·exact .inr ⟨g,cap,e,Nat.zero_le _,h⟩
def SetV (lo:Nat) (w:World) (R:List Nr) (v:Value):Prop:=∃ (g:Nat) (X:List Wd),v=.slice (some ⟨g,0,none⟩) R.length R.length∧lo≤g∧X.length=R.length∧RbK 37 w g 112 (X.map valsWd)∧∀ i x,X[i]?=some x→WdK 0 w R i x
theorem StW.all {w W:World} {A:Option Addr} {c:Nat} {R:List Nr} (h:StW w A c R R.length W):SetV w.heap.size W R (.slice (some ⟨w.heap.size+1,0,none⟩) R.length R.length):=by
 obtain ⟨t,s,b,⟨X,x1,x2,x3⟩,l,z⟩:=h;exact ⟨_,X,rfl,by omega,x1,x2,fun i x hx=>let ⟨p,hp,a1,a2,a3,a4⟩:=x3 i x hx (by omega);⟨p,hp,a1,a2,a3,a4.any⟩⟩
theorem four (w:World) (o1 o2 o3 o4:Obj):∃ W,(((w.alloc o1).alloc o2).alloc o3).alloc o4=W∧W.heap[w.heap.size]?=some o1∧W.heap[w.heap.size+1]?=some o2∧W.heap[w.heap.size+1+1]?=some o3∧W.heap[w.heap.size+1+1+1]?=some o4∧W.heap.size=w.heap.size+4∧Below w.heap.size w W:=by
 have n1:=World.alloc_heap_new w o1;have n2:=World.alloc_heap_new (w.alloc o1) o2;have n3:=World.alloc_heap_new ((w.alloc o1).alloc o2) o3;have n4:=World.alloc_heap_new (((w.alloc o1).alloc o2).alloc o3) o4;simp only [World.size_alloc] at n1 n2 n3 n4;refine ⟨_,rfl,?_,?_,?_,n4,by simp,?_⟩
 ·exact (Below.heap_alloc _ _ _ (by simp;omega)).trans ((Below.heap_alloc _ _ _ (by simp;omega)).trans ((Below.heap_alloc _ _ _ (by simp)).trans n1))
 ·exact (Below.heap_alloc _ _ _ (by simp)).trans ((Below.heap_alloc _ _ _ (by simp)).trans n2)
 ·exact (Below.heap_alloc _ _ _ (by simp)).trans n3
 ·exact ((((Below.refl _ w).alloc (Nat.le_refl _) _).alloc (by simp) _).alloc (by simp;omega) _).alloc (by simp;omega) _
theorem stNI {l n:Nat} {P:Program} {ops:Array Oper} {rest:List Oper} {op:Oper} {a:Act} {w:World} {Q:Exit→Act→World→Prop} (T:TypeId) (x y:Operand) (vs:List Value) (b o:Nat) (hgd:op.guard=none) (ho:op.op=.store T x y) (hx:a.eval x=.pointer (some ⟨b,o,none⟩)) (hy:a.eval y=.agg vs.toArray)
  (ht:w.there b o vs.length) (hi:(P.info? T).map (·.size)=some vs.length) (h1:one vs)
  (h:wpListIn (Fence.wide.inRound l) n P ops Q rest (a.put op.dst undef) (w.setCells b o vs)):wpListIn (Fence.wide.inRound l) n P ops Q (op :: rest) a w :=
 wpListIn_plain hgd fun K hK=>opLift (Q0:=fun _ _ _=>False) (by unfold cZq;rw [ho]) (fun _ _ _ _ h=>h) (fun _ _ h=>h) (wp_store_mid T x y ho b o vs.toArray hx hy (by simpa using ht) (by simpa using hi) (all_oneCell_toArray h1) (hK _ _ (by simpa using h)))
theorem settled_v (A:Option Addr) (c:Nat) (R:List Nr) (hT:TrOK (R.map Nr.n)) (w:World) (h:NrV w A R) (hr:RdR w R) (hL:R.length≤10) :
  Calls Tryz.prog 98 #[.agg #[.slice A R.length c]] w fun e w'=>(∃ v,e=.returned v∧SetV w.heap.size w' R v)∧Below w.heap.size w w':=by
 obtain ⟨fm,hfm,hfz,hmk0⟩:=made_zero
 have hmk:=fun w=>hmk0 R.length w (by omega)
 have HFM:=Lib.hid hfm;have HFZ:=Lib.hid hfz;have HNV:=Lib.hid h;have HRD:=Lib.hid hr;clear hmk0 hfm hfz h hr;refine (callsIn_wide (n:=6)).1 ?_;refine callsIn_of_wp_marks Tryz.func98 rfl trivial ?_ rfl
 simp only [Tryz.ntmps98,List.size_toArray,List.length_cons,List.length_nil,Nat.reduceAdd,Nat.reduceSub,Array.replicate_succ,Array.replicate_zero,List.push_toArray,List.append_toArray,List.nil_append,List.cons_append]
 gi_wp2_with (refine ⟨trivial,?_⟩;gi_at_call 127;refine (gZa Fence.wide _ trivial rfl _ _ _ _).mono ?_;rintro e w' ⟨rfl,rfl⟩)
 clear hmk;obtain ⟨W0,hW0,n1,n2,n3,n4,hz,hb0⟩:=four w (.cells #[.slice A R.length c] 25) (.cells (fm R.length) 112) (.cells #[.slice (some ⟨w.heap.size+1,0,none⟩) R.length R.length] 109) (.cells #[.slice A R.length c] 23);rw [hW0];clear hW0
 have hst:StW w A c R 0 W0:=⟨n1,n3,n4,⟨List.replicate R.length zeroWd,by simp,⟨_,n2,by rw [HFM.out];simp,fun i vs hi hv=>by
   simp at hi
   simp only [List.map_replicate,List.getElem?_replicate,if_pos hi,Option.some.injEq] at hv;subst hv
   exact HFZ.out _ _ hi⟩,fun i x hx hi=>by have:=(List.getElem?_eq_some_iff.1 hx).1;simp at this;omega⟩,hb0,by omega⟩
 clear n1 n2 n3 n4 hb0
 refine uZe rfl (by omega) (gf:=165) (lb:=#[.pointer (some ⟨w.heap.size+1+1+1,0,none⟩)]) rfl trivial (enters_of Tryz.func165 (by kernel_rfl) rfl)
  (bkc_in Fence.wide _ trivial rfl (by omega) (w.heap.size+1+1+1) A c R (by omega)) (fun _=>rfl)
  (StW w A c R) (fun k W W' h hk=>h.same (hk.1.mono (by omega)) fun g cs T hg=>hk.block hg) (fun k W h=>⟨jZc h.b 0,HNV.out.keep h.l⟩) hst
  (fun k a' W=>∃ nb,w.heap.size+4≤nb∧W.heap[nb]?=some (.cells (jZj (nrAt R (R.length-1-k))).toArray 43 (0,0))∧a'={ tmps:=#[.agg #[.slice A R.length c],.pointer (some ⟨w.heap.size,0,none⟩),.slice none 0 0,.pointer (some ⟨w.heap.size+1+1,0,none⟩),.int .i64 ((R.length-1-k:Nat):Int),.pointer (some ⟨nb,0,none⟩),.pointer (some ⟨w.heap.size,0,none⟩),.slice A R.length c,.int .i64 (R.length:Int),.slice (some ⟨w.heap.size+1,0,none⟩) R.length R.length,.pointer (some ⟨w.heap.size,0,none⟩),.slice A R.length c,.func (.func 165) #[] #[.pointer (some ⟨w.heap.size+1+1+1,0,none⟩)],.int .i64 ((R.length-1-k:Nat):Int),.agg (jZj (nrAt R (R.length-1-k))).toArray,undef,undef,undef,undef,undef,undef,undef,undef,undef,undef,undef,undef,undef,undef,undef,undef,undef,undef,undef,undef,undef,undef,undef,undef,undef,undef,undef,undef,undef,undef,undef,undef,undef,undef,undef,undef,undef,undef,undef,undef,undef,undef],defers:=[] })
  (fun k a' W W' h hk=>let ⟨nb,h1,h2,h3⟩:=h;⟨nb,h1,hk.cells h2,h3⟩)
  ?assign ?body ?done
 case assign =>
  rintro l k W K hk hI hK;simp only [encR]
  gi_wp2_with (refine stNI 43 (.tmp 5) (.tmp 14) (jZj (nrAt R (R.length-1-k))) W.heap.size 0 rfl rfl rfl rfl (pZb (newS _ _) (by show (0+34:Nat)≤34;omega)) (by rw [pZ8];kernel_rfl) (rZ9 _) ?_)
  have hbN:Below W.heap.size W ((W.alloc (.cells zeroNrA 43)).setCells W.heap.size 0 (jZj (nrAt R (R.length-1-k)))):=jZi (Nat.le_refl _) _ _ _ (jZd (Below.refl _ _));exact hK _ _ (pZv hbN) (hI.below hbN) ⟨W.heap.size,hI.z,fZt _ rfl rfl,rfl⟩
 case body =>
  rintro l k a' W hk hI ⟨nb,hnb,hn,rfl⟩
  obtain ⟨j,hj⟩:∃ j,R.length-1-k=j:=⟨_,rfl⟩
  rw [hj] at hn ⊢
  have hjl:j<R.length:=by omega
  have hget:R[j]?=some R[j]:=List.getElem?_eq_getElem hjl;rw [hZ9 hget] at hn ⊢
  have hmg:(R.map Nr.n)[j]?=some R[j].n:=by rw [List.getElem?_map,hget];rfl
  generalize hp0:R[j]=p at *;have HI:=Lib.hid hI;have HN:=Lib.hid hn;have HG:=Lib.hid hget;have HMG:=Lib.hid hmg;have HJ:=Lib.hid hj;have ln:=ltS hn;have lt:=ltS hI.t;have ls:=ltS hI.s;have x1:W.cell? ⟨nb,1,none⟩=some (.int .i64 p.n.ww):=jZc hn 1;have x2:W.cell? ⟨nb,2,none⟩=some (.int .i64 p.n.hh):=jZc hn 2;have xt:=jZc hI.t 0;have xs:=jZc hI.s 0
  have hdj:(j:Int)<(R.length:Int):=by omega
  have hV:=HNV.out.keep hI.l
  obtain ⟨ks,hks⟩:∃ ks,(kidD (R.map Nr.n) j).map (fun (k:Nat)=>(k:Int))=ks:=⟨_,rfl⟩
  have HKS:=Lib.hid hks;have hge:w.heap.size+4≤W.heap.size:=hI.z;clear hI hn hget hmg hp0 hks hj;refine wpIn_block ?_
  refine wpIn_seq_k fun K1 hK1=>?_
  refine rZo (by kernel_rfl) (by kernel_rfl) ?_
  refine rZu 13 1 #[true,true,true,true,true,true,true,true,true,true,true,true,true,false] (by kernel_rfl) (by kernel_rfl) (XV (.slice (some ⟨w.heap.size+1,0,none⟩) R.length R.length) :: XV (.int .i64 (j:Int)) :: XV (.agg (jZj p).toArray) :: XV (.pointer (some ⟨nb,1,none⟩)) :: XV (.int .i64 p.n.ww) :: XV (.pointer (some ⟨nb,2,none⟩)) :: XV (.int .i64 p.n.hh) :: XV (.agg #[.int .i64 p.n.ww,.int .i64 p.n.hh]) :: XV (.agg #[.slice A R.length c]) :: XV (.int .i64 (j:Int)) :: (fun v z=>KdA (w.heap.size+4) z v ks) :: (fun v z=>WdV (w.heap.size+4) z v p (p.n.ww,p.n.hh) ks) :: XV (.pointer (some ⟨w.heap.size+1,j*37,none⟩)) :: []) (by kernel_rfl) (by kernel_rfl) ?hTs ?hops ?hfin
  case hTs =>
   intro T hT;simp only [List.mem_cons,List.not_mem_nil,or_false] at hT
   rcases hT with rfl | rfl | rfl | rfl | rfl | rfl | rfl | rfl | rfl | rfl | rfl | rfl | rfl <;> first | exact qZn _ | exact qZo | exact kZh (fun v a b x g=>x.keep g) | exact kZh (fun v a b x g=>x)
  case hops =>
   refine ⟨jZb [(3,none)] (by kernel_rfl) rfl ?_,?_⟩
   ·intro act w' hw' h1;obtain ⟨hk,hf⟩:=evkf act;generalize act.eval=ρ at *;replace h1:ρ (.tmp 3)=.pointer (some ⟨w.heap.size+1+1,0,none⟩):=h1
    refine gxB hw' fun K hK hc hf'=>?_
    go_simp;exact hK _ _ ⟨rfl,Gr.refl _⟩
   refine ⟨jZb [(4,none)] (by kernel_rfl) rfl ?_,?_⟩
   ·intro act w' hw' h1;obtain ⟨hk,hf⟩:=evkf act;generalize act.eval=ρ at *;replace h1:ρ (.tmp 4)=.int .i64 (j:Int):=h1
    refine gxB hw' fun K hK hc hf'=>?_
    go_simp;exact hK _ _ ⟨rfl,Gr.refl _⟩
   refine ⟨jZb [(5,none)] (by kernel_rfl) rfl ?_,?_⟩
   ·intro act w' hw' h1;obtain ⟨hk,hf⟩:=evkf act;generalize act.eval=ρ at *;replace h1:ρ (.tmp 5)=.pointer (some ⟨nb,0,none⟩):=h1;refine qZs (fun K hK=>?_)
    simp only [execOp,h1,Instr.loadAt,Instr.sureAddr,Sem.run_bind,Sem.run_pure,Result.andThen_ok,run_loadVar_mid w' nb 0 43 (jZj p) _ (pZi (kZ6 HN.out) ((jZs hw'.out).block nb ln)) Tryz.underlying43 rfl (by rw [pZ8];kernel_rfl)];exact hK _ _ ⟨rfl,Gr.refl _⟩
   refine ⟨jZb [(5,none)] (by kernel_rfl) rfl ?_,?_⟩
   ·intro act w' hw' h1;obtain ⟨hk,hf⟩:=evkf act;generalize act.eval=ρ at *;replace h1:ρ (.tmp 5)=.pointer (some ⟨nb,0,none⟩):=h1
    refine gxB hw' fun K hK hc hf'=>?_
    go_simp;exact hK _ _ ⟨rfl,Gr.refl _⟩
   refine ⟨jZb [(18,some 3)] (by kernel_rfl) rfl ?_,?_⟩
   ·intro act w' hw' h1;obtain ⟨hk,hf⟩:=evkf act;generalize act.eval=ρ at *;replace h1:ρ (.tmp 18)=.pointer (some ⟨nb,1,none⟩):=h1
    refine gxB hw' fun K hK hc hf'=>?_
    go_simp;exact hK _ _ ⟨rfl,Gr.refl _⟩
   refine ⟨jZb [(5,none)] (by kernel_rfl) rfl ?_,?_⟩
   ·intro act w' hw' h1;obtain ⟨hk,hf⟩:=evkf act;generalize act.eval=ρ at *;replace h1:ρ (.tmp 5)=.pointer (some ⟨nb,0,none⟩):=h1
    refine gxB hw' fun K hK hc hf'=>?_
    go_simp;exact hK _ _ ⟨rfl,Gr.refl _⟩
   refine ⟨jZb [(20,some 5)] (by kernel_rfl) rfl ?_,?_⟩
   ·intro act w' hw' h1;obtain ⟨hk,hf⟩:=evkf act;generalize act.eval=ρ at *;replace h1:ρ (.tmp 20)=.pointer (some ⟨nb,2,none⟩):=h1
    refine gxB hw' fun K hK hc hf'=>?_
    go_simp;exact hK _ _ ⟨rfl,Gr.refl _⟩
   refine ⟨jZb [(19,some 4),(21,some 6)] (by kernel_rfl) rfl ?_,?_⟩
   ·intro act w' hw' h1 h2;obtain ⟨hk,hf⟩:=evkf act;generalize act.eval=ρ at *;replace h1:ρ (.tmp 19)=.int .i64 p.n.ww:=h1;replace h2:ρ (.tmp 21)=.int .i64 p.n.hh:=h2
    refine gxB hw' fun K hK hc hf'=>?_
    go_simp;exact hK _ _ ⟨rfl,Gr.refl _⟩
   refine ⟨jZb [(1,none)] (by kernel_rfl) rfl ?_,?_⟩
   ·intro act w' hw' h1;obtain ⟨hk,hf⟩:=evkf act;generalize act.eval=ρ at *;replace h1:ρ (.tmp 1)=.pointer (some ⟨w.heap.size,0,none⟩):=h1
    refine gxB hw' fun K hK hc hf'=>?_
    go_simp;exact hK _ _ ⟨rfl,Gr.refl _⟩
   refine ⟨jZb [(4,none)] (by kernel_rfl) rfl ?_,?_⟩
   ·intro act w' hw' h1;obtain ⟨hk,hf⟩:=evkf act;generalize act.eval=ρ at *;replace h1:ρ (.tmp 4)=.int .i64 (j:Int):=h1
    refine gxB hw' fun K hK hc hf'=>?_
    go_simp;exact hK _ _ ⟨rfl,Gr.refl _⟩
   refine ⟨jZb [(23,some 8),(24,some 9)] (by kernel_rfl) rfl ?_,?_⟩
   ·intro act w' hw' h1 h2;obtain ⟨hk,hf⟩:=evkf act;generalize act.eval=ρ at *;replace h1:ρ (.tmp 23)=.agg #[.slice A R.length c]:=h1;replace h2:ρ (.tmp 24)=.int .i64 (j:Int):=h2
    refine gxB hw' fun K hK hc hf'=>?_
    go_simp
    (refine (kidsOf_f A c R (j:Int) _ (hV.keep (jZs hw'.out)) (by omega)).mono ?_);rintro e w1 ⟨⟨v,rfl,hv⟩,hb1⟩;rw [eZv,HKS.out] at hv;exact ⟨_,rfl,hK _ _ ⟨KdA.of hv (Nat.le_trans hge (jZs hw'.out).size),hb1⟩⟩
   refine ⟨jZb [(17,some 2),(22,some 7),(25,some 10)] (by kernel_rfl) rfl ?_,?_⟩
   ·intro act w' hw' h1 h2 h3;obtain ⟨hk,hf⟩:=evkf act;generalize act.eval=ρ at *;replace h1:ρ (.tmp 17)=.agg (jZj p).toArray:=h1;replace h2:ρ (.tmp 22)=.agg #[.int .i64 p.n.ww,.int .i64 p.n.hh]:=h2;replace h3:(fun v z=>KdA (w.heap.size+4) z v ks) (ρ (.tmp 25)) w':=h3;refine qZs (fun K hK=>?_)
    obtain ⟨kA,kc,e3,hk3⟩:=h3;simp only [execOp,List.map_toArray,List.map_cons,List.map_nil,h1,h2,e3,Sem.run_bind,Sem.run_pure,run_bW,Result.andThen_ok];exact hK _ _ ⟨⟨_,rfl,rfl,rfl,rfl,hk3⟩,Gr.refl _⟩
   refine ⟨jZb [(15,some 0),(16,some 1)] (by kernel_rfl) rfl ?_,?_⟩
   ·intro act w' hw' h1 h2;obtain ⟨hk,hf⟩:=evkf act;generalize act.eval=ρ at *;replace h1:ρ (.tmp 15)=.slice (some ⟨w.heap.size+1,0,none⟩) R.length R.length:=h1;replace h2:ρ (.tmp 16)=.int .i64 (j:Int):=h2
    refine gxB hw' fun K hK hc hf'=>?_
    go_simp;exact hK _ _ ⟨rfl,Gr.refl _⟩
   exact trivial
  case hfin =>
   intro w5 hg5;intro v15 t15;replace t15:v15=.slice (some ⟨w.heap.size+1,0,none⟩) R.length R.length:=t15;subst t15;intro v16 t16;replace t16:v16=.int .i64 (j:Int):=t16;subst t16;intro v17 t17;replace t17:v17=.agg (jZj p).toArray:=t17;subst t17;intro v18 t18;replace t18:v18=.pointer (some ⟨nb,1,none⟩):=t18;subst t18;intro v19 t19;replace t19:v19=.int .i64 p.n.ww:=t19;subst t19;intro v20 t20
   replace t20:v20=.pointer (some ⟨nb,2,none⟩):=t20;subst t20;intro v21 t21;replace t21:v21=.int .i64 p.n.hh:=t21;subst t21;intro v22 t22;replace t22:v22=.agg #[.int .i64 p.n.ww,.int .i64 p.n.hh]:=t22;subst t22;intro v23 t23;replace t23:v23=.agg #[.slice A R.length c]:=t23;subst t23;intro v24 t24;replace t24:v24=.int .i64 (j:Int):=t24;subst t24;intro v25 t25
   replace t25:(fun v z=>KdA (w.heap.size+4) z v ks) v25 w5:=t25;intro v26 t26;replace t26:(fun v z=>WdV (w.heap.size+4) z v p (p.n.ww,p.n.hh) ks) v26 w5:=t26;intro v27 t27;replace t27:v27=.pointer (some ⟨w.heap.size+1,j*37,none⟩):=t27;subst t27;have hb5:=jZs hg5.out;clear hg5
   simp only [finP,List.take_succ_cons,List.take_zero,Act.put,List.setIfInBounds_toArray,List.set_cons_succ,List.set_cons_zero];obtain ⟨x,rfl,hx1,hx2,hx3,hx4⟩:=t26
   have hjk:j+(k+1)=R.length:=by have:=HJ.out;omega
   have hI5:=HI.out.below hb5;have hM:=hI5.put (j:=j) (by omega) (by omega) x;obtain ⟨X,X1,X2,-⟩:=hI5.x;refine qZ1 13 112 (.tmp 27) (.tmp 26) (w.heap.size+1) (j*37) (valsWd x) (by kernel_rfl) (by kernel_rfl) (by kernel_rfl) rfl rfl (by rw [rZg];exact RpK.there X2 (by rw [List.length_map];omega)) (by rw [rZg];kernel_rfl) (rZj _) ?_;simp only [Exit.then]
   refine hK1 _ _ ?_;clear hK1 K1;have hKF:KeepsFrom W0.heap.size W (w5.setCells (w.heap.size+1) (j*37) (valsWd x)):=(pZv hb5).trans (pZp _ _ _);have hN6:(w5.setCells (w.heap.size+1) (j*37) (valsWd x)).heap[nb]?=some (.cells (jZj p).toArray 43 (0,0)):=(jZv (by omega) _ _ _).trans ((hb5.block nb ln).trans HN.out)
   have hx6:KidA (w.heap.size+4) (w5.setCells (w.heap.size+1) (j*37) (valsWd x)) x.ka ks:=hx4.sets (by omega) _;clear hI5 X1 X2 hb5 t25 X hx4 x1 x2 xt xs ls lt ln hge hV HI
   revert hKF hN6 hx6 hM
   generalize w5.setCells (w.heap.size+1) (j*37) (valsWd x)=W6;intro hM hKF hN6 hx6;clear w5;have HM:=Lib.hid hM;have HK:=Lib.hid hKF;have HN:=Lib.hid hN6;have HX6:=Lib.hid hx6;have HX1:=Lib.hid hx1;have HX2:=Lib.hid hx2;have HX3:=Lib.hid hx3;have HJK:=Lib.hid hjk;have ln:=ltS hN6;have ls:=ltS hM.s;have y3:W6.cell? ⟨nb,3,none⟩=some (.bool p.n.ke):=jZc hN6 3;have xs:=jZc hM.s 0
   obtain ⟨X,X1,X2,X3,X4⟩:=hM.x;obtain ⟨cs,hcs,hss,hcc⟩:=X2;have hi6:InS cs (j*37) (valsWd x):=hcc j (valsWd x) (by rw [List.length_map];omega) (by rw [List.getElem?_map,X3];rfl)
   have x36:W6.cell? ⟨w.heap.size+1,j*37+36,none⟩=some (.slice x.ka ks.length x.kc):=by rw [jZc hcs,hi6 36 _ rfl];show some (Value.slice x.ka x.kn x.kc)=_;rw [hx3]
   have lw:=ltS hcs;clear X1 X3 X4 X hcs hss hcc hi6 cs hM hKF hN6 hx6 hx1 hx2 hx3 hjk
   refine wpIn_seq_k fun K2 hK2=>?_
   refine qZl (by kernel_rfl) ?_
   cases hke:p.n.ke
   ·by_cases hnil:ks=[]
    ·rw [hke] at y3
     have hl0:decide ((ks.length:Int)>0)=false:=by simp [hnil]
     have hl1:decide ((0:Int)<(ks.length:Int))=false:=by simp [hnil]
     go_wp2;refine wpIn_cond_false rfl ?_;refine wpIn_skip ?_;simp only [Exit.inBlock];refine ⟨by first | rfl | trivial,HK.out,HM.out.done ⟨p,HG.out,HX1.out,?_,by rw [HKS.out];exact HX3.out,by rw [HKS.out];exact HX6.out⟩ HJK.out⟩;rw [HX2.out,szM_eq hT HMG.out];exact (sZ8 (.inr (.inl (List.map_eq_nil_iff.1 (HKS.out.trans hnil))))).symm
    ·rw [hke] at y3;have hlp:=List.length_pos_iff.2 hnil
     have hl0:decide ((ks.length:Int)>0)=true:=by simp;omega
     have hl1:decide ((0:Int)<(ks.length:Int))=true:=by simp;omega
     go_wp2;refine wpIn_cond_true rfl ?_
     obtain ⟨q,hq⟩:∃ q,szM (R.map Nr.n) j=q:=⟨_,rfl⟩
     have hkd:kidD (R.map Nr.n) j≠[]:=fun e=>hnil (by rw [<- HKS.out,e];rfl)
     have hkl:∀ k∈kidD (R.map Nr.n) j,k<R.length:=fun k hk=>by have:=rZb hk;rwa [List.length_map] at this
     have hk10:(kidD (R.map Nr.n) j).length≤10:=Nat.le_trans (sZo _ _) (by rw [List.length_map];exact hL);obtain ⟨X,X1,X2,X3,X4⟩:=HM.out.x
     obtain ⟨hp1,hp2⟩:=hZk (R:=R) (X:=X) (f:=szM (R.map Nr.n)) (ks:=kidD (R.map Nr.n) j) fun k hk=>by
      have hgt:=vZq hT hk;have hlt:=hkl k hk;have hy:X[k]?=some X[k]:=List.getElem?_eq_getElem (by omega);obtain ⟨r,hr,e1,e2,_⟩:=X4 k _ hy hgt;exact ⟨_,r,hy,hr,e1,e2⟩
     have hYl:(pZf X (kidD (R.map Nr.n) j)).length≤10:=by rw [cZn (fun k hk=>by have:=hkl k hk;omega)];exact hk10
     have hM1:=szM_eq hT HMG.out;rw [hq] at hM1
     have C0:=Lib.hid (show p.n.ki≠1→p.n.ki≠2→(∀ r∈(pZf X (kidD (R.map Nr.n) j)).map pkW,r.big)∧reqM ((pZf X (kidD (R.map Nr.n) j)).map pkW)=q from fun a1 a2=>by
      rw [hp1]
      exact ⟨hZc hT _,(hM1.trans (askN_pk rfl hke hkd (by have:=(hT.sz j _ HMG.out).2.2;omega))).symm⟩)
     have C1:=Lib.hid (show p.n.ki=1→(kZd p.n.cs=true∧kZd p.n.rs=true)∧((∀ r∈(pZf X (kidD (R.map Nr.n) j)).map ceW,smW r)∧pZ7 p.n.cs.length (((pZf X (kidD (R.map Nr.n) j)).map ceW).map acM)∧pZ7 p.n.rs.length (((pZf X (kidD (R.map Nr.n) j)).map ceW).map dnM))∧vZh p.n.cs p.n.rs ((pZf X (kidD (R.map Nr.n) j)).map ceW)=q from fun a1=>by
      rw [hp2];obtain ⟨z1,z2,z3,_⟩:=ces_w hT HMG.out a1
      exact ⟨hT.li j _ HMG.out a1,⟨z1,z2,z3⟩,(hM1.trans (askN_gr rfl hke hkd a1)).symm⟩)
     have C2:=Lib.hid (show p.n.ki=2→(p.n.ww,p.n.hh)=q from fun a1=>(hM1.trans (sZ8 (.inr (.inr a1)))).symm)
     have HAR:=Lib.hid (show ∀ W',Below W6.heap.size W6 W'→Calls Tryz.prog 99 #[.slice (some ⟨w.heap.size+1,0,none⟩) R.length R.length,.int .i64 (j:Int)] W' (fun e w'=>(∃ v,e=.returned v∧ArV w' v x (pZf X (kidD (R.map Nr.n) j)))∧Below W'.heap.size W' w') from fun W' hW'=>by
      have:=cZ3 (some ⟨w.heap.size+1,0,none⟩) R.length j X x (kidD (R.map Nr.n) j) W' (X2.v.keep hW') X3 (by omega) (fun k hk=>by have:=hkl k hk;omega) (by rw [HKS.out];exact HX6.out.nv.keep hW') (by rw [HX3.out,<- HKS.out,List.length_map]) (by rw [HX3.out,<- HKS.out,List.length_map];omega)
      rw [X1] at this
      exact this)
     have HRW:=Lib.hid (show W6.rangeAt (w.heap.size+1) (j*37+34) (kZs (p.n.ww,p.n.hh)) from by
      obtain ⟨cs,hcs,hss,hcc⟩:=X2;have hi6:InS cs (j*37) (valsWd x):=hcc j (valsWd x) (by rw [List.length_map];omega) (by rw [List.getElem?_map,X3];rfl);unfold valsWd at hi6;rw [show ([.int .i64 x.sw,.int .i64 x.sh,.slice x.ka x.kn x.kc]:List Value)=kZs (x.sw,x.sh) ++ [.slice x.ka x.kn x.kc] from rfl,rZl,rZl,HX2.out] at hi6
      exact fun m v hm=>(jZc hcs _).trans (hi6.2.1 m v hm))
     have HR1:=Lib.hid ((HRD.out.keep HM.out.l) p (List.mem_of_getElem? HG.out));have HQ:=Lib.hid hq;have HY:=Lib.hid hYl;have HWT:=Lib.hid (show W6.there (w.heap.size+1) (j*37) 37 from RpK.there X2 (by rw [List.length_map];omega));clear hq hkd hkl hk10 X1 X2 X3 X4 hp1 hp2 hYl hM1 hlp hl0 hl1 y3 x36 hke hnil ln;refine rZo (by kernel_rfl) (by kernel_rfl) ?_
     refine rZu 16 1 #[true,true,true,true,true,true,true,true,true,true,true,true,true,true,true,true,false] (by kernel_rfl) (by kernel_rfl) (XV (.slice (some ⟨w.heap.size+1,0,none⟩) R.length R.length) :: XV (.int .i64 (j:Int)) :: XV (.slice (some ⟨w.heap.size+1,0,none⟩) R.length R.length) :: XV (.int .i64 (j:Int)) :: (fun v z=>ArV z v x (pZf X (kidD (R.map Nr.n) j))) :: XV (.slice (some ⟨w.heap.size+1,0,none⟩) R.length R.length) :: XV (.int .i64 (j:Int)) :: XV (.pointer (some ⟨w.heap.size+1,j*37,none⟩)) :: XV (.pointer (some ⟨w.heap.size+1,j*37+34,none⟩)) :: XV (.agg (kZs (p.n.ww,p.n.hh)).toArray) :: (fun v z=>MfV z v x (pZf X (kidD (R.map Nr.n) j))) :: (fun v z=>MfV z v x (pZf X (kidD (R.map Nr.n) j))) :: (fun v z=>ArV z v x (pZf X (kidD (R.map Nr.n) j))) :: XV (.agg (kZs q).toArray) :: XV (.pointer (some ⟨w.heap.size+1,j*37,none⟩)) :: XV (.pointer (some ⟨w.heap.size+1,j*37+34,none⟩)) :: []) (by kernel_rfl) (by kernel_rfl) ?hTs ?hops ?hfin
     case hTs =>
      intro T hT;simp only [List.mem_cons,List.not_mem_nil,or_false] at hT
      rcases hT with rfl | rfl | rfl | rfl | rfl | rfl | rfl | rfl | rfl | rfl | rfl | rfl | rfl | rfl | rfl | rfl <;> first | exact qZn _ | exact qZo | exact kZh (fun v a b x g=>x.keep g) | exact kZh (fun v a b x g=>x)
     case hops =>
      refine ⟨jZb [(3,none)] (by kernel_rfl) rfl ?_,?_⟩
      ·intro act w' hw' h1;obtain ⟨hk,hf⟩:=evkf act;generalize act.eval=ρ at *;replace h1:ρ (.tmp 3)=.pointer (some ⟨w.heap.size+1+1,0,none⟩):=h1
       refine gxB hw' fun K hK hc hf'=>?_
       go_simp;exact hK _ _ ⟨rfl,Gr.refl _⟩
      refine ⟨jZb [(4,none)] (by kernel_rfl) rfl ?_,?_⟩
      ·intro act w' hw' h1;obtain ⟨hk,hf⟩:=evkf act;generalize act.eval=ρ at *;replace h1:ρ (.tmp 4)=.int .i64 (j:Int):=h1
       refine gxB hw' fun K hK hc hf'=>?_
       go_simp;exact hK _ _ ⟨rfl,Gr.refl _⟩
      refine ⟨jZb [(3,none)] (by kernel_rfl) rfl ?_,?_⟩
      ·intro act w' hw' h1;obtain ⟨hk,hf⟩:=evkf act;generalize act.eval=ρ at *;replace h1:ρ (.tmp 3)=.pointer (some ⟨w.heap.size+1+1,0,none⟩):=h1
       refine gxB hw' fun K hK hc hf'=>?_
       go_simp;exact hK _ _ ⟨rfl,Gr.refl _⟩
      refine ⟨jZb [(4,none)] (by kernel_rfl) rfl ?_,?_⟩
      ·intro act w' hw' h1;obtain ⟨hk,hf⟩:=evkf act;generalize act.eval=ρ at *;replace h1:ρ (.tmp 4)=.int .i64 (j:Int):=h1
       refine gxB hw' fun K hK hc hf'=>?_
       go_simp;exact hK _ _ ⟨rfl,Gr.refl _⟩
      refine ⟨jZb [(42,some 2),(43,some 3)] (by kernel_rfl) rfl ?_,?_⟩
      ·intro act w' hw' h1 h2;obtain ⟨hk,hf⟩:=evkf act;generalize act.eval=ρ at *;replace h1:ρ (.tmp 42)=.slice (some ⟨w.heap.size+1,0,none⟩) R.length R.length:=h1;replace h2:ρ (.tmp 43)=.int .i64 (j:Int):=h2
       refine gxB hw' fun K hK hc hf'=>?_
       go_simp
       (refine (HAR.out _ (jZs hw'.out)).mono ?_);rintro e w1 ⟨⟨v,rfl,hv⟩,hb1⟩;exact ⟨_,rfl,hK _ _ ⟨hv,hb1⟩⟩
      refine ⟨jZb [(3,none)] (by kernel_rfl) rfl ?_,?_⟩
      ·intro act w' hw' h1;obtain ⟨hk,hf⟩:=evkf act;generalize act.eval=ρ at *;replace h1:ρ (.tmp 3)=.pointer (some ⟨w.heap.size+1+1,0,none⟩):=h1
       refine gxB hw' fun K hK hc hf'=>?_
       go_simp;exact hK _ _ ⟨rfl,Gr.refl _⟩
      refine ⟨jZb [(4,none)] (by kernel_rfl) rfl ?_,?_⟩
      ·intro act w' hw' h1;obtain ⟨hk,hf⟩:=evkf act;generalize act.eval=ρ at *;replace h1:ρ (.tmp 4)=.int .i64 (j:Int):=h1
       refine gxB hw' fun K hK hc hf'=>?_
       go_simp;exact hK _ _ ⟨rfl,Gr.refl _⟩
      refine ⟨jZb [(45,some 5),(46,some 6)] (by kernel_rfl) rfl ?_,?_⟩
      ·intro act w' hw' h1 h2;obtain ⟨hk,hf⟩:=evkf act;generalize act.eval=ρ at *;replace h1:ρ (.tmp 45)=.slice (some ⟨w.heap.size+1,0,none⟩) R.length R.length:=h1;replace h2:ρ (.tmp 46)=.int .i64 (j:Int):=h2
       refine gxB hw' fun K hK hc hf'=>?_
       go_simp;exact hK _ _ ⟨rfl,Gr.refl _⟩
      refine ⟨jZb [(47,some 7)] (by kernel_rfl) rfl ?_,?_⟩
      ·intro act w' hw' h1;obtain ⟨hk,hf⟩:=evkf act;generalize act.eval=ρ at *;replace h1:ρ (.tmp 47)=.pointer (some ⟨w.heap.size+1,j*37,none⟩):=h1
       refine gxB hw' fun K hK hc hf'=>?_
       go_simp;exact hK _ _ ⟨rfl,Gr.refl _⟩
      refine ⟨jZb [(48,some 8)] (by kernel_rfl) rfl ?_,?_⟩
      ·intro act w' hw' h1;obtain ⟨hk,hf⟩:=evkf act;generalize act.eval=ρ at *;replace h1:ρ (.tmp 48)=.pointer (some ⟨w.heap.size+1,j*37+34,none⟩):=h1;refine qZs (fun K hK=>?_)
       simp only [execOp,h1,Instr.loadAt,Instr.sureAddr,Sem.run_bind,Sem.run_pure,Result.andThen_ok,run_loadVar_mid w' (w.heap.size+1) (j*37+34) 82 (kZs (p.n.ww,p.n.hh)) _ (pZi HRW.out ((jZs hw'.out).block _ lw)) Tryz.underlying82 rfl (by kernel_rfl)];exact hK _ _ ⟨rfl,Gr.refl _⟩
      refine ⟨jZb [(44,some 4)] (by kernel_rfl) rfl ?_,?_⟩
      ·intro act w' hw' h1;obtain ⟨hk,hf⟩:=evkf act;generalize act.eval=ρ at *;replace h1:(fun v z=>ArV z v x (pZf X (kidD (R.map Nr.n) j))) (ρ (.tmp 44)) w':=h1;refine qZs (fun K hK=>?_);rw [run_mf rfl];exact hK _ _ ⟨⟨_,rfl,h1⟩,Gr.refl _⟩
      refine ⟨jZb [(50,some 10)] (by kernel_rfl) rfl ?_,?_⟩
      ·intro act w' hw' h1;obtain ⟨hk,hf⟩:=evkf act;generalize act.eval=ρ at *;replace h1:(fun v z=>MfV z v x (pZf X (kidD (R.map Nr.n) j))) (ρ (.tmp 50)) w':=h1;refine qZs (fun K hK=>?_)
       obtain ⟨u,e,hu⟩:=h1;obtain ⟨T,u2,F,rfl,hn,hc,hcall⟩:=arReq (ww:=p.n.ww) (hh:=p.n.hh) hu HX1.out (HR1.out.keep (jZs hw'.out)) HY.out C0.out C1.out C2.out;rw [run_nc rfl e hn];exact hK _ _ ⟨⟨_,e,hu⟩,Gr.refl _⟩
      refine ⟨jZb [(44,some 4)] (by kernel_rfl) rfl ?_,?_⟩
      ·intro act w' hw' h1;obtain ⟨hk,hf⟩:=evkf act;generalize act.eval=ρ at *;replace h1:(fun v z=>ArV z v x (pZf X (kidD (R.map Nr.n) j))) (ρ (.tmp 44)) w':=h1
       refine gxB hw' fun K hK hc hf'=>?_
       go_simp;exact hK _ _ ⟨h1,Gr.refl _⟩
      refine ⟨jZb [(52,some 12),(49,some 9)] (by kernel_rfl) rfl ?_,?_⟩
      ·intro act w' hw' h1 h2;obtain ⟨hk,hf⟩:=evkf act;generalize act.eval=ρ at *;replace h1:(fun v z=>ArV z v x (pZf X (kidD (R.map Nr.n) j))) (ρ (.tmp 52)) w':=h1;replace h2:ρ (.tmp 49)=.agg (kZs (p.n.ww,p.n.hh)).toArray:=h2;refine qZs (fun K hK=>?_)
       obtain ⟨T,u,F,e,hn,hc,hcall⟩:=arReq (ww:=p.n.ww) (hh:=p.n.hh) h1 HX1.out (HR1.out.keep (jZs hw'.out)) HY.out C0.out C1.out C2.out;rw [run_inv rfl e h2 (hc _ _)];refine hcall.mono ?_;rintro e' w1 ⟨rfl,hb1⟩;exact ⟨_,rfl,hK _ _ ⟨rfl,hb1⟩⟩
      refine ⟨jZb [(40,some 0),(41,some 1)] (by kernel_rfl) rfl ?_,?_⟩
      ·intro act w' hw' h1 h2;obtain ⟨hk,hf⟩:=evkf act;generalize act.eval=ρ at *;replace h1:ρ (.tmp 40)=.slice (some ⟨w.heap.size+1,0,none⟩) R.length R.length:=h1;replace h2:ρ (.tmp 41)=.int .i64 (j:Int):=h2
       refine gxB hw' fun K hK hc hf'=>?_
       go_simp;exact hK _ _ ⟨rfl,Gr.refl _⟩
      refine ⟨jZb [(54,some 14)] (by kernel_rfl) rfl ?_,?_⟩
      ·intro act w' hw' h1;obtain ⟨hk,hf⟩:=evkf act;generalize act.eval=ρ at *;replace h1:ρ (.tmp 54)=.pointer (some ⟨w.heap.size+1,j*37,none⟩):=h1
       refine gxB hw' fun K hK hc hf'=>?_
       go_simp;exact hK _ _ ⟨rfl,Gr.refl _⟩
      exact trivial
     case hfin =>
      intro w7 hg7;intro v40 t40;replace t40:v40=.slice (some ⟨w.heap.size+1,0,none⟩) R.length R.length:=t40;subst t40;intro v41 t41;replace t41:v41=.int .i64 (j:Int):=t41;subst t41;intro v42 t42;replace t42:v42=.slice (some ⟨w.heap.size+1,0,none⟩) R.length R.length:=t42;subst t42;intro v43 t43;replace t43:v43=.int .i64 (j:Int):=t43;subst t43;intro v44 t44
      replace t44:(fun v z=>ArV z v x (pZf X (kidD (R.map Nr.n) j))) v44 w7:=t44;intro v45 t45;replace t45:v45=.slice (some ⟨w.heap.size+1,0,none⟩) R.length R.length:=t45;subst t45;intro v46 t46;replace t46:v46=.int .i64 (j:Int):=t46;subst t46;intro v47 t47;replace t47:v47=.pointer (some ⟨w.heap.size+1,j*37,none⟩):=t47;subst t47;intro v48 t48
      replace t48:v48=.pointer (some ⟨w.heap.size+1,j*37+34,none⟩):=t48;subst t48;intro v49 t49;replace t49:v49=.agg (kZs (p.n.ww,p.n.hh)).toArray:=t49;subst t49;intro v50 t50;replace t50:(fun v z=>MfV z v x (pZf X (kidD (R.map Nr.n) j))) v50 w7:=t50;intro v51 t51;replace t51:(fun v z=>MfV z v x (pZf X (kidD (R.map Nr.n) j))) v51 w7:=t51;intro v52 t52
      replace t52:(fun v z=>ArV z v x (pZf X (kidD (R.map Nr.n) j))) v52 w7:=t52;intro v53 t53;replace t53:v53=.agg (kZs q).toArray:=t53;subst t53;intro v54 t54;replace t54:v54=.pointer (some ⟨w.heap.size+1,j*37,none⟩):=t54;subst t54;intro v55 t55;replace t55:v55=.pointer (some ⟨w.heap.size+1,j*37+34,none⟩):=t55;subst t55;have hb7:=jZs hg7.out;clear hg7
      simp only [finP,List.take_succ_cons,List.take_zero,Act.put,List.setIfInBounds_toArray,List.set_cons_succ,List.set_cons_zero]
      have hth:w7.there (w.heap.size+1) (j*37+34) (kZs q).length:=by
       obtain ⟨X',Y1,Y2,Y3,Y4⟩:=(HM.out.keep hb7).x;obtain ⟨cs,hcs,hss,_⟩:=Y2;exact pZb hcs (by rw [hss,List.length_map,Y1];show j*37+34+2≤_;omega)
      refine qZ1 16 82 (.tmp 55) (.tmp 53) (w.heap.size+1) (j*37+34) (kZs q) (by kernel_rfl) (by kernel_rfl) (by kernel_rfl) rfl rfl hth (by kernel_rfl) (tZb _) ?_;simp only [Exit.then,Exit.inBlock]
      refine ⟨by first | rfl | trivial,HK.out.trans ((pZv hb7).trans (pZp _ _ _)),StM.done ((HM.out.keep hb7).wish q.1 q.2) ⟨p,HG.out,HX1.out,?_,by rw [HKS.out];exact HX3.out,by rw [HKS.out];exact (HX6.out.keep hb7).sets (by omega) _⟩ HJK.out⟩;rw [HQ.out]
   ·rw [hke] at y3;go_wp2;refine wpIn_cond_false rfl ?_;refine wpIn_skip ?_;simp only [Exit.inBlock];refine ⟨by first | rfl | trivial,HK.out,HM.out.done ⟨p,HG.out,HX1.out,?_,by rw [HKS.out];exact HX3.out,by rw [HKS.out];exact HX6.out⟩ HJK.out⟩;rw [HX2.out,szM_eq hT HMG.out];exact (sZ8 (.inl hke)).symm
 case done =>
  rintro D W hD hI hK;have xs:=jZc hI.s 0
  gi_wp2
  have hkc:tZu W0.heap.size W (W.putObj D (.deferred none)):=vZi hD hK rfl rfl;refine ⟨by simp,.inl ⟨_,_,rfl,run_takeDeferred hK,?_⟩⟩
  have hf:=StW.same hI (hkc.1.mono (by omega)) fun g cs T hg=>hkc.block hg
  refine ⟨_,results_tmp rfl _ _ _,⟨_,rfl,?_⟩,hf.l⟩;exact hf.all
end
def ownB (n:Nd):Bool:=if n.ki=1 then kZd n.cs&&kZd n.rs else decide (n.cs.length=0)&&decide (n.rs.length=0)
def ndB (n:Nd):Bool:=(rng n.ww 0 30&&rng n.hh 0 30)&&(rng n.ki 0 2&&(ownB n&&(n.pk.ok&&(decide (n.pk.w=0)&&(decide (n.pk.h=0)&&(decide (n.ce.cw=0)&&(decide (n.ce.ch=0)&&plB n.pl)))))))
theorem pZg (p:Nr) (b:Bool) (w:World) (h:RdN w p) (k1:p.n.cs.length≤1048576) (k2:p.n.rs.length≤1048576) (hb:ownB p.n=b) :
  Calls Tryz.prog 123 #[.agg (jZj p).toArray] w fun e w'=>e=.returned (.bool b)∧Below w.heap.size w w':=by
 have hB0:Below w.heap.size w (w.alloc (.cells (jZj p).toArray 43 (0,0))):=jZd (Below.refl _ _);have HX:=hD (newS w (.cells (jZj p).toArray 43 (0,0)));have HC:=hD (h.c.keep hB0);have HR:=hD (h.r.keep hB0);have HB:=hD hB0;clear hB0 h;have x4:(w.alloc (.cells (jZj p).toArray 43 (0,0))).cell? ⟨w.heap.size,4,none⟩=some (.int .i64 p.n.ki):=jZc HX.out 4
 have x5:(w.alloc (.cells (jZj p).toArray 43 (0,0))).cell? ⟨w.heap.size,5,none⟩=some (.slice p.ca p.n.cs.length p.cc):=jZc HX.out 5;have x6:(w.alloc (.cells (jZj p).toArray 43 (0,0))).cell? ⟨w.heap.size,6,none⟩=some (.slice p.ra p.n.rs.length p.rc):=jZc HX.out 6;unfold ownB at hb
 by_cases hk:p.n.ki=1
 ·rw [if_pos hk] at hb;rw [hk] at x4;have HK:=hD hk;clear hk
  cases h1:kZd p.n.cs
  ·obtain rfl:false=b:=by rw [<- hb,h1];rfl
   go_enter Tryz.func123,Tryz.ntmps123
   go_wp2_with fail
   with_reducible refine (sZ2 p.ca p.cc p.n.cs false _ HC.out k1 h1).mono ?_
   rintro e w1 ⟨rfl,hb1⟩;clear x4 x5 x6;replace HB:=hD (jZa HB.out hb1);clear hb1;go_wp2;go_ret;exact ⟨rfl,HB.out⟩
  ·have h2:kZd p.n.rs=b:=by rw [<- hb,h1];rfl
   clear hb
   cases b
   all_goals
    go_enter Tryz.func123,Tryz.ntmps123
    go_wp2_with fail
    with_reducible refine (sZ2 p.ca p.cc p.n.cs true _ HC.out k1 h1).mono ?_
    rintro e w1 ⟨rfl,hb1⟩;clear x4 x5 x6;replace HX:=hbk hb1 HX;replace HR:=hD (HR.out.keep hb1);replace HB:=hD (jZa HB.out hb1);clear hb1;have x6:w1.cell? ⟨w.heap.size,6,none⟩=some (.slice p.ra p.n.rs.length p.rc):=jZc HX.out 6
    go_wp2_with fail
    with_reducible refine (sZ2 p.ra p.rc p.n.rs _ _ HR.out k2 h2).mono ?_
    rintro e w2 ⟨rfl,hb2⟩;clear x6;replace HB:=hD (jZa HB.out hb2);clear hb2;go_wp2;go_ret;exact ⟨rfl,HB.out⟩
 ·rw [if_neg hk] at hb
  have e1:(p.n.ki == 1)=false:=by rw [beq_eq_false_iff_ne];exact hk
  have e1':decide (p.n.ki=1)=false:=decide_eq_false hk;have HK:=hD hk;clear hk
  by_cases h1:p.n.cs.length=0
  ·have e2:(((p.n.cs.length:Nat):Int) == 0)=true:=by rw [h1];rfl
   have e2':decide (((p.n.cs.length:Nat):Int)=0)=true:=decide_eq_true (by omega)
   by_cases h2:p.n.rs.length=0
   ·have e3:(((p.n.rs.length:Nat):Int) == 0)=true:=by rw [h2];rfl
    have e3':decide (((p.n.rs.length:Nat):Int)=0)=true:=decide_eq_true (by omega)
    obtain rfl:true=b:=by rw [<- hb,h1,h2];rfl
    clear h1 h2 hb
    go_enter Tryz.func123,Tryz.ntmps123
    go_wp2;go_ret;exact ⟨rfl,HB.out⟩
   ·have e3:(((p.n.rs.length:Nat):Int) == 0)=false:=by rw [beq_eq_false_iff_ne];omega
    have e3':decide (((p.n.rs.length:Nat):Int)=0)=false:=decide_eq_false (by omega)
    obtain rfl:false=b:=by rw [<- hb,decide_eq_false h2,Bool.and_false]
    clear h1 h2 hb
    go_enter Tryz.func123,Tryz.ntmps123
    go_wp2;go_ret;exact ⟨rfl,HB.out⟩
  ·have e2:(((p.n.cs.length:Nat):Int) == 0)=false:=by rw [beq_eq_false_iff_ne];omega
   have e2':decide (((p.n.cs.length:Nat):Int)=0)=false:=decide_eq_false (by omega)
   obtain rfl:false=b:=by rw [<- hb,decide_eq_false h1,Bool.false_and]
   clear h1 hb
   go_enter Tryz.func123,Tryz.ntmps123
   go_wp2;go_ret;exact ⟨rfl,HB.out⟩
theorem eqb_t {x:Int} (h:decide (x=0)=true):(x == 0)=true:=by have:=of_decide_eq_true h;rw [this];rfl
theorem eqb_f {x:Int} (h:decide (x=0)=false):(x == 0)=false:=by have:=of_decide_eq_false h;rw [beq_eq_false_iff_ne];exact this
theorem cZa (p:Nr) (b:Bool) (w:World) (h:RdN w p) (k1:p.n.cs.length≤1048576) (k2:p.n.rs.length≤1048576) (hb:ndB p.n=b) :
  Calls Tryz.prog 95 #[.agg (jZj p).toArray] w fun e w'=>e=.returned (.bool b)∧Below w.heap.size w w':=by
 have HX:=hD (newS w (.cells (jZj p).toArray 43 (0,0)));have HB:=hD (show Below w.heap.size w (w.alloc (.cells (jZj p).toArray 43 (0,0))) from jZd (Below.refl _ _));have HD:=hD h;clear h
 cases h1:(rng p.n.ww 0 30&&rng p.n.hh 0 30)
 ·obtain rfl:false=b:=by rw [<- hb];simp only [ndB,h1,Bool.false_and,Bool.true_and]
  clear hb;obtain ⟨x1,x2,x4,x7,x8,x20,x21⟩:=jZp HX.out;obtain ⟨HR,HRP,HRL,-⟩:=hrs HX.out
  go_enter Tryz.func95,Tryz.ntmps95
  go_wp2_with (first|(refine ldNr p w.heap.size 0 rfl rfl rfl HR.out ?_)|(refine jZo HRP rfl rfl rfl ?_)|(refine jZk HRL rfl rfl rfl ?_))
  with_reducible refine (kZm p.n.ww p.n.hh false _ h1).mono ?_
  rintro e wq ⟨rfl,rfl⟩
  go_wp2_with (first|(refine ldNr p w.heap.size 0 rfl rfl rfl HR.out ?_)|(refine jZo HRP rfl rfl rfl ?_)|(refine jZk HRL rfl rfl rfl ?_))
  go_ret;exact ⟨rfl,HB.out⟩
 cases h2:rng p.n.ki 0 2
 ·obtain rfl:false=b:=by rw [<- hb];simp only [ndB,h1,h2,Bool.false_and,Bool.true_and]
  clear hb;obtain ⟨x1,x2,x4,x7,x8,x20,x21⟩:=jZp HX.out;obtain ⟨HR,HRP,HRL,-⟩:=hrs HX.out
  go_enter Tryz.func95,Tryz.ntmps95
  go_wp2_with (first|(refine ldNr p w.heap.size 0 rfl rfl rfl HR.out ?_)|(refine jZo HRP rfl rfl rfl ?_)|(refine jZk HRL rfl rfl rfl ?_))
  with_reducible refine (kZm p.n.ww p.n.hh true _ h1).mono ?_
  rintro e wq ⟨rfl,rfl⟩
  go_wp2_with (first|(refine ldNr p w.heap.size 0 rfl rfl rfl HR.out ?_)|(refine jZo HRP rfl rfl rfl ?_)|(refine jZk HRL rfl rfl rfl ?_))
  with_reducible refine (kZu _ 0 2 false _ h2).mono ?_
  rintro e wq ⟨rfl,rfl⟩
  go_wp2_with (first|(refine ldNr p w.heap.size 0 rfl rfl rfl HR.out ?_)|(refine jZo HRP rfl rfl rfl ?_)|(refine jZk HRL rfl rfl rfl ?_))
  go_ret;exact ⟨rfl,HB.out⟩
 cases h3:ownB p.n
 ·obtain rfl:false=b:=by rw [<- hb];simp only [ndB,h1,h2,h3,Bool.false_and,Bool.true_and]
  clear hb;obtain ⟨x1,x2,x4,x7,x8,x20,x21⟩:=jZp HX.out;obtain ⟨HR,HRP,HRL,-⟩:=hrs HX.out
  go_enter Tryz.func95,Tryz.ntmps95
  go_wp2_with (first|(refine ldNr p w.heap.size 0 rfl rfl rfl HR.out ?_)|(refine jZo HRP rfl rfl rfl ?_)|(refine jZk HRL rfl rfl rfl ?_))
  with_reducible refine (kZm p.n.ww p.n.hh true _ h1).mono ?_
  rintro e wq ⟨rfl,rfl⟩
  go_wp2_with (first|(refine ldNr p w.heap.size 0 rfl rfl rfl HR.out ?_)|(refine jZo HRP rfl rfl rfl ?_)|(refine jZk HRL rfl rfl rfl ?_))
  with_reducible refine (kZu _ 0 2 true _ h2).mono ?_
  rintro e wq ⟨rfl,rfl⟩
  go_wp2_with (first|(refine ldNr p w.heap.size 0 rfl rfl rfl HR.out ?_)|(refine jZo HRP rfl rfl rfl ?_)|(refine jZk HRL rfl rfl rfl ?_))
  with_reducible refine (pZg p false _ (HD.out.keep HB.out) k1 k2 h3).mono ?_
  rintro e w1 ⟨rfl,hb1⟩;clear x1 x2 x4 x7 x8 x20 x21 HR HRP HRL;replace HX:=hbk hb1 HX;replace HB:=hD (jZa HB.out hb1);clear hb1;obtain ⟨x1,x2,x4,x7,x8,x20,x21⟩:=jZp HX.out;obtain ⟨HR,HRP,HRL,-⟩:=hrs HX.out
  go_wp2_with (first|(refine ldNr p w.heap.size 0 rfl rfl rfl HR.out ?_)|(refine jZo HRP rfl rfl rfl ?_)|(refine jZk HRL rfl rfl rfl ?_))
  go_ret;exact ⟨rfl,HB.out⟩
 cases h4:p.n.pk.ok
 ·obtain rfl:false=b:=by rw [<- hb];simp only [ndB,h1,h2,h3,h4,Bool.false_and,Bool.true_and]
  clear hb;obtain ⟨x1,x2,x4,x7,x8,x20,x21⟩:=jZp HX.out;obtain ⟨HR,HRP,HRL,-⟩:=hrs HX.out
  go_enter Tryz.func95,Tryz.ntmps95
  go_wp2_with (first|(refine ldNr p w.heap.size 0 rfl rfl rfl HR.out ?_)|(refine jZo HRP rfl rfl rfl ?_)|(refine jZk HRL rfl rfl rfl ?_))
  with_reducible refine (kZm p.n.ww p.n.hh true _ h1).mono ?_
  rintro e wq ⟨rfl,rfl⟩
  go_wp2_with (first|(refine ldNr p w.heap.size 0 rfl rfl rfl HR.out ?_)|(refine jZo HRP rfl rfl rfl ?_)|(refine jZk HRL rfl rfl rfl ?_))
  with_reducible refine (kZu _ 0 2 true _ h2).mono ?_
  rintro e wq ⟨rfl,rfl⟩
  go_wp2_with (first|(refine ldNr p w.heap.size 0 rfl rfl rfl HR.out ?_)|(refine jZo HRP rfl rfl rfl ?_)|(refine jZk HRL rfl rfl rfl ?_))
  with_reducible refine (pZg p true _ (HD.out.keep HB.out) k1 k2 h3).mono ?_
  rintro e w1 ⟨rfl,hb1⟩;clear x1 x2 x4 x7 x8 x20 x21 HR HRP HRL;replace HX:=hbk hb1 HX;replace HB:=hD (jZa HB.out hb1);clear hb1;obtain ⟨x1,x2,x4,x7,x8,x20,x21⟩:=jZp HX.out;obtain ⟨HR,HRP,HRL,-⟩:=hrs HX.out
  go_wp2_with (first|(refine ldNr p w.heap.size 0 rfl rfl rfl HR.out ?_)|(refine jZo HRP rfl rfl rfl ?_)|(refine jZk HRL rfl rfl rfl ?_))
  with_reducible refine (vp_v p.n.pk false h4 _).mono ?_
  rintro e w2 ⟨rfl,hb1⟩;clear x1 x2 x4 x7 x8 x20 x21 HR HRP HRL;replace HX:=hbk hb1 HX;replace HB:=hD (jZa HB.out hb1);clear hb1;obtain ⟨x1,x2,x4,x7,x8,x20,x21⟩:=jZp HX.out;obtain ⟨HR,HRP,HRL,-⟩:=hrs HX.out
  go_wp2_with (first|(refine ldNr p w.heap.size 0 rfl rfl rfl HR.out ?_)|(refine jZo HRP rfl rfl rfl ?_)|(refine jZk HRL rfl rfl rfl ?_))
  go_ret;exact ⟨rfl,HB.out⟩
 cases h5:decide (p.n.pk.w=0)
 ·obtain rfl:false=b:=by rw [<- hb];simp only [ndB,h1,h2,h3,h4,h5,Bool.false_and,Bool.true_and]
  clear hb;have e5:=eqb_f h5;obtain ⟨x1,x2,x4,x7,x8,x20,x21⟩:=jZp HX.out;obtain ⟨HR,HRP,HRL,-⟩:=hrs HX.out
  go_enter Tryz.func95,Tryz.ntmps95
  go_wp2_with (first|(refine ldNr p w.heap.size 0 rfl rfl rfl HR.out ?_)|(refine jZo HRP rfl rfl rfl ?_)|(refine jZk HRL rfl rfl rfl ?_))
  with_reducible refine (kZm p.n.ww p.n.hh true _ h1).mono ?_
  rintro e wq ⟨rfl,rfl⟩
  go_wp2_with (first|(refine ldNr p w.heap.size 0 rfl rfl rfl HR.out ?_)|(refine jZo HRP rfl rfl rfl ?_)|(refine jZk HRL rfl rfl rfl ?_))
  with_reducible refine (kZu _ 0 2 true _ h2).mono ?_
  rintro e wq ⟨rfl,rfl⟩
  go_wp2_with (first|(refine ldNr p w.heap.size 0 rfl rfl rfl HR.out ?_)|(refine jZo HRP rfl rfl rfl ?_)|(refine jZk HRL rfl rfl rfl ?_))
  with_reducible refine (pZg p true _ (HD.out.keep HB.out) k1 k2 h3).mono ?_
  rintro e w1 ⟨rfl,hb1⟩;clear x1 x2 x4 x7 x8 x20 x21 HR HRP HRL;replace HX:=hbk hb1 HX;replace HB:=hD (jZa HB.out hb1);clear hb1;obtain ⟨x1,x2,x4,x7,x8,x20,x21⟩:=jZp HX.out;obtain ⟨HR,HRP,HRL,-⟩:=hrs HX.out
  go_wp2_with (first|(refine ldNr p w.heap.size 0 rfl rfl rfl HR.out ?_)|(refine jZo HRP rfl rfl rfl ?_)|(refine jZk HRL rfl rfl rfl ?_))
  with_reducible refine (vp_v p.n.pk true h4 _).mono ?_
  rintro e w2 ⟨rfl,hb1⟩;clear x1 x2 x4 x7 x8 x20 x21 HR HRP HRL;replace HX:=hbk hb1 HX;replace HB:=hD (jZa HB.out hb1);clear hb1;obtain ⟨x1,x2,x4,x7,x8,x20,x21⟩:=jZp HX.out;obtain ⟨HR,HRP,HRL,-⟩:=hrs HX.out
  go_wp2_with (first|(refine ldNr p w.heap.size 0 rfl rfl rfl HR.out ?_)|(refine jZo HRP rfl rfl rfl ?_)|(refine jZk HRL rfl rfl rfl ?_))
  go_ret;exact ⟨rfl,HB.out⟩
 have e5:=eqb_t h5
 cases h6:decide (p.n.pk.h=0)
 ·obtain rfl:false=b:=by rw [<- hb];simp only [ndB,h1,h2,h3,h4,h5,h6,Bool.false_and,Bool.true_and]
  clear hb;have e6:=eqb_f h6;obtain ⟨x1,x2,x4,x7,x8,x20,x21⟩:=jZp HX.out;obtain ⟨HR,HRP,HRL,-⟩:=hrs HX.out
  go_enter Tryz.func95,Tryz.ntmps95
  go_wp2_with (first|(refine ldNr p w.heap.size 0 rfl rfl rfl HR.out ?_)|(refine jZo HRP rfl rfl rfl ?_)|(refine jZk HRL rfl rfl rfl ?_))
  with_reducible refine (kZm p.n.ww p.n.hh true _ h1).mono ?_
  rintro e wq ⟨rfl,rfl⟩
  go_wp2_with (first|(refine ldNr p w.heap.size 0 rfl rfl rfl HR.out ?_)|(refine jZo HRP rfl rfl rfl ?_)|(refine jZk HRL rfl rfl rfl ?_))
  with_reducible refine (kZu _ 0 2 true _ h2).mono ?_
  rintro e wq ⟨rfl,rfl⟩
  go_wp2_with (first|(refine ldNr p w.heap.size 0 rfl rfl rfl HR.out ?_)|(refine jZo HRP rfl rfl rfl ?_)|(refine jZk HRL rfl rfl rfl ?_))
  with_reducible refine (pZg p true _ (HD.out.keep HB.out) k1 k2 h3).mono ?_
  rintro e w1 ⟨rfl,hb1⟩;clear x1 x2 x4 x7 x8 x20 x21 HR HRP HRL;replace HX:=hbk hb1 HX;replace HB:=hD (jZa HB.out hb1);clear hb1;obtain ⟨x1,x2,x4,x7,x8,x20,x21⟩:=jZp HX.out;obtain ⟨HR,HRP,HRL,-⟩:=hrs HX.out
  go_wp2_with (first|(refine ldNr p w.heap.size 0 rfl rfl rfl HR.out ?_)|(refine jZo HRP rfl rfl rfl ?_)|(refine jZk HRL rfl rfl rfl ?_))
  with_reducible refine (vp_v p.n.pk true h4 _).mono ?_
  rintro e w2 ⟨rfl,hb1⟩;clear x1 x2 x4 x7 x8 x20 x21 HR HRP HRL;replace HX:=hbk hb1 HX;replace HB:=hD (jZa HB.out hb1);clear hb1;obtain ⟨x1,x2,x4,x7,x8,x20,x21⟩:=jZp HX.out;obtain ⟨HR,HRP,HRL,-⟩:=hrs HX.out
  go_wp2_with (first|(refine ldNr p w.heap.size 0 rfl rfl rfl HR.out ?_)|(refine jZo HRP rfl rfl rfl ?_)|(refine jZk HRL rfl rfl rfl ?_))
  go_ret;exact ⟨rfl,HB.out⟩
 have e6:=eqb_t h6
 cases h7:decide (p.n.ce.cw=0)
 ·obtain rfl:false=b:=by rw [<- hb];simp only [ndB,h1,h2,h3,h4,h5,h6,h7,Bool.false_and,Bool.true_and]
  clear hb;have e7:=eqb_f h7;obtain ⟨x1,x2,x4,x7,x8,x20,x21⟩:=jZp HX.out;obtain ⟨HR,HRP,HRL,-⟩:=hrs HX.out
  go_enter Tryz.func95,Tryz.ntmps95
  go_wp2_with (first|(refine ldNr p w.heap.size 0 rfl rfl rfl HR.out ?_)|(refine jZo HRP rfl rfl rfl ?_)|(refine jZk HRL rfl rfl rfl ?_))
  with_reducible refine (kZm p.n.ww p.n.hh true _ h1).mono ?_
  rintro e wq ⟨rfl,rfl⟩
  go_wp2_with (first|(refine ldNr p w.heap.size 0 rfl rfl rfl HR.out ?_)|(refine jZo HRP rfl rfl rfl ?_)|(refine jZk HRL rfl rfl rfl ?_))
  with_reducible refine (kZu _ 0 2 true _ h2).mono ?_
  rintro e wq ⟨rfl,rfl⟩
  go_wp2_with (first|(refine ldNr p w.heap.size 0 rfl rfl rfl HR.out ?_)|(refine jZo HRP rfl rfl rfl ?_)|(refine jZk HRL rfl rfl rfl ?_))
  with_reducible refine (pZg p true _ (HD.out.keep HB.out) k1 k2 h3).mono ?_
  rintro e w1 ⟨rfl,hb1⟩;clear x1 x2 x4 x7 x8 x20 x21 HR HRP HRL;replace HX:=hbk hb1 HX;replace HB:=hD (jZa HB.out hb1);clear hb1;obtain ⟨x1,x2,x4,x7,x8,x20,x21⟩:=jZp HX.out;obtain ⟨HR,HRP,HRL,-⟩:=hrs HX.out
  go_wp2_with (first|(refine ldNr p w.heap.size 0 rfl rfl rfl HR.out ?_)|(refine jZo HRP rfl rfl rfl ?_)|(refine jZk HRL rfl rfl rfl ?_))
  with_reducible refine (vp_v p.n.pk true h4 _).mono ?_
  rintro e w2 ⟨rfl,hb1⟩;clear x1 x2 x4 x7 x8 x20 x21 HR HRP HRL;replace HX:=hbk hb1 HX;replace HB:=hD (jZa HB.out hb1);clear hb1;obtain ⟨x1,x2,x4,x7,x8,x20,x21⟩:=jZp HX.out;obtain ⟨HR,HRP,HRL,-⟩:=hrs HX.out
  go_wp2_with (first|(refine ldNr p w.heap.size 0 rfl rfl rfl HR.out ?_)|(refine jZo HRP rfl rfl rfl ?_)|(refine jZk HRL rfl rfl rfl ?_))
  go_ret;exact ⟨rfl,HB.out⟩
 have e7:=eqb_t h7
 cases h8:decide (p.n.ce.ch=0)
 ·obtain rfl:false=b:=by rw [<- hb];simp only [ndB,h1,h2,h3,h4,h5,h6,h7,h8,Bool.false_and,Bool.true_and]
  clear hb;have e8:=eqb_f h8;obtain ⟨x1,x2,x4,x7,x8,x20,x21⟩:=jZp HX.out;obtain ⟨HR,HRP,HRL,-⟩:=hrs HX.out
  go_enter Tryz.func95,Tryz.ntmps95
  go_wp2_with (first|(refine ldNr p w.heap.size 0 rfl rfl rfl HR.out ?_)|(refine jZo HRP rfl rfl rfl ?_)|(refine jZk HRL rfl rfl rfl ?_))
  with_reducible refine (kZm p.n.ww p.n.hh true _ h1).mono ?_
  rintro e wq ⟨rfl,rfl⟩
  go_wp2_with (first|(refine ldNr p w.heap.size 0 rfl rfl rfl HR.out ?_)|(refine jZo HRP rfl rfl rfl ?_)|(refine jZk HRL rfl rfl rfl ?_))
  with_reducible refine (kZu _ 0 2 true _ h2).mono ?_
  rintro e wq ⟨rfl,rfl⟩
  go_wp2_with (first|(refine ldNr p w.heap.size 0 rfl rfl rfl HR.out ?_)|(refine jZo HRP rfl rfl rfl ?_)|(refine jZk HRL rfl rfl rfl ?_))
  with_reducible refine (pZg p true _ (HD.out.keep HB.out) k1 k2 h3).mono ?_
  rintro e w1 ⟨rfl,hb1⟩;clear x1 x2 x4 x7 x8 x20 x21 HR HRP HRL;replace HX:=hbk hb1 HX;replace HB:=hD (jZa HB.out hb1);clear hb1;obtain ⟨x1,x2,x4,x7,x8,x20,x21⟩:=jZp HX.out;obtain ⟨HR,HRP,HRL,-⟩:=hrs HX.out
  go_wp2_with (first|(refine ldNr p w.heap.size 0 rfl rfl rfl HR.out ?_)|(refine jZo HRP rfl rfl rfl ?_)|(refine jZk HRL rfl rfl rfl ?_))
  with_reducible refine (vp_v p.n.pk true h4 _).mono ?_
  rintro e w2 ⟨rfl,hb1⟩;clear x1 x2 x4 x7 x8 x20 x21 HR HRP HRL;replace HX:=hbk hb1 HX;replace HB:=hD (jZa HB.out hb1);clear hb1;obtain ⟨x1,x2,x4,x7,x8,x20,x21⟩:=jZp HX.out;obtain ⟨HR,HRP,HRL,-⟩:=hrs HX.out
  go_wp2_with (first|(refine ldNr p w.heap.size 0 rfl rfl rfl HR.out ?_)|(refine jZo HRP rfl rfl rfl ?_)|(refine jZk HRL rfl rfl rfl ?_))
  go_ret;exact ⟨rfl,HB.out⟩
 have e8:=eqb_t h8
 have h9:plB p.n.pl=b:=by rw [<- hb];simp only [ndB,h1,h2,h3,h4,h5,h6,h7,h8,Bool.true_and]
 clear hb
 cases b
 all_goals
  obtain ⟨x1,x2,x4,x7,x8,x20,x21⟩:=jZp HX.out;obtain ⟨HR,HRP,HRL,-⟩:=hrs HX.out
  go_enter Tryz.func95,Tryz.ntmps95
  go_wp2_with (first|(refine ldNr p w.heap.size 0 rfl rfl rfl HR.out ?_)|(refine jZo HRP rfl rfl rfl ?_)|(refine jZk HRL rfl rfl rfl ?_))
  with_reducible refine (kZm p.n.ww p.n.hh true _ h1).mono ?_
  rintro e wq ⟨rfl,rfl⟩
  go_wp2_with (first|(refine ldNr p w.heap.size 0 rfl rfl rfl HR.out ?_)|(refine jZo HRP rfl rfl rfl ?_)|(refine jZk HRL rfl rfl rfl ?_))
  with_reducible refine (kZu _ 0 2 true _ h2).mono ?_
  rintro e wq ⟨rfl,rfl⟩
  go_wp2_with (first|(refine ldNr p w.heap.size 0 rfl rfl rfl HR.out ?_)|(refine jZo HRP rfl rfl rfl ?_)|(refine jZk HRL rfl rfl rfl ?_))
  with_reducible refine (pZg p true _ (HD.out.keep HB.out) k1 k2 h3).mono ?_
  rintro e w1 ⟨rfl,hb1⟩;clear x1 x2 x4 x7 x8 x20 x21 HR HRP HRL;replace HX:=hbk hb1 HX;replace HB:=hD (jZa HB.out hb1);clear hb1;obtain ⟨x1,x2,x4,x7,x8,x20,x21⟩:=jZp HX.out;obtain ⟨HR,HRP,HRL,-⟩:=hrs HX.out
  go_wp2_with (first|(refine ldNr p w.heap.size 0 rfl rfl rfl HR.out ?_)|(refine jZo HRP rfl rfl rfl ?_)|(refine jZk HRL rfl rfl rfl ?_))
  with_reducible refine (vp_v p.n.pk true h4 _).mono ?_
  rintro e w2 ⟨rfl,hb1⟩;clear x1 x2 x4 x7 x8 x20 x21 HR HRP HRL;replace HX:=hbk hb1 HX;replace HB:=hD (jZa HB.out hb1);clear hb1;obtain ⟨x1,x2,x4,x7,x8,x20,x21⟩:=jZp HX.out;obtain ⟨HR,HRP,HRL,-⟩:=hrs HX.out
  go_wp2_with (first|(refine ldNr p w.heap.size 0 rfl rfl rfl HR.out ?_)|(refine jZo HRP rfl rfl rfl ?_)|(refine jZk HRL rfl rfl rfl ?_))
  with_reducible refine (gZn p.n.pl _ _ h9).mono ?_
  rintro e w3 ⟨rfl,hb1⟩;clear x1 x2 x4 x7 x8 x20 x21 HR HRP HRL;replace HX:=hbk hb1 HX;replace HB:=hD (jZa HB.out hb1);clear hb1;obtain ⟨x1,x2,x4,x7,x8,x20,x21⟩:=jZp HX.out;obtain ⟨HR,HRP,HRL,-⟩:=hrs HX.out
  go_wp2_with (first|(refine ldNr p w.heap.size 0 rfl rfl rfl HR.out ?_)|(refine jZo HRP rfl rfl rfl ?_)|(refine jZk HRL rfl rfl rfl ?_))
  go_ret;exact ⟨rfl,HB.out⟩
def upB (i:Nat) (n:Nd):Bool:=if i=0 then decide (n.pa=-1) else rng n.pa 0 ((i:Int)-1)
def clB (L:List Nd) (i:Nat) (n:Nd):Bool:=if i=0 then true else match L[n.pa.toNat]? with
 | some u=>decide (u.ki≠1) || rZa u.cs.length u.rs.length n.ce
 | none=>true
def nokB (L:List Nd) (i:Nat):Bool:=match L[i]? with
 | some n=>ndB n&&(upB i n&&clB L i n)
 | none=>true
def sZj (L:List Nd):Bool:=rng L.length 1 10&&(List.range L.length).all (nokB L)
theorem eZ0 {L:List Nd} {i:Nat} {n:Nd} (h:L[i]?=some n):nokB L i=(ndB n&&(upB i n&&clB L i n)):=by unfold nokB;rw [h]
theorem tZt {f:Nat→Bool} {k:Nat}:(List.range (k+1)).all f=((List.range k).all f&&f k):=by
 rw [List.range_succ,List.all_append];simp
theorem fZ3 {n:Nd} (h:ndB n=true) (hk:n.ki=1):kZd n.cs=true∧kZd n.rs=true:=by
 simp only [ndB,Bool.and_eq_true] at h
 have:=h.2.2.1
 unfold ownB at this;rw [if_pos hk] at this
 simpa [Bool.and_eq_true] using this
theorem sZx (A:Option Addr) (c:Nat) (R:List Nr) (i:Nat) (p:Nr) (b:Bool) (w:World) (h:NrV w A R) (hp:R[i]?=some p) (hL:R.length≤10) (hb:upB i p.n=b) :
  Calls Tryz.prog 96 #[.agg #[.slice A R.length c],.int .i64 i] w fun e w'=>e=.returned (.bool b)∧Below w.heap.size w w':=by
 have hi:i<R.length:=(List.getElem?_eq_some_iff.1 hp).1;obtain ⟨bl,off,rfl,hbl,hc⟩:=h.cells (by omega);have x0:w.cell? ⟨bl,off+i*34,none⟩=some (.int .i64 p.n.pa):=hc i p hp 0 _ rfl
 have hii:(i:Int)<(R.length:Int):=by omega
 have hne:¬ bl=w.heap.size:=by omega
 unfold upB at hb;clear hc h hp
 by_cases h0:i=0
 ·subst h0;rw [if_pos rfl] at hb;simp only [Nat.zero_mul,Nat.add_zero] at x0
  have hlr:(0:Int)<(R.length:Int):=by omega
  clear hii
  have e1:(p.n.pa == -1)=b:=by rw [<- hb];rfl
  have HE:=hD e1;clear hb e1
  go_enter Tryz.func96,Tryz.ntmps96
  go_wp2;go_ret;exact ⟨jZ8 HE.out,jZd (Below.refl _ _)⟩
 ·rw [if_neg h0] at hb
  have e0:((i:Int) == 0)=false:=by rw [beq_eq_false_iff_ne];omega
  have e0':decide ((i:Int)=0)=false:=decide_eq_false (by omega)
  go_enter Tryz.func96,Tryz.ntmps96
  go_wp2_with fail
  with_reducible refine (kZu p.n.pa 0 ((i:Int)-1) b _ hb).mono ?_
  rintro e w' ⟨rfl,rfl⟩;go_wp2;go_ret;exact ⟨rfl,jZd (Below.refl _ _)⟩
theorem cZo (A:Option Addr) (c n:Nat) (w:World) :
  Calls Tryz.prog 97 #[.agg #[.slice A n c],.int .i64 0] w fun e w'=>e=.returned (.bool true)∧Below w.heap.size w w':=by
 go_enter Tryz.func97,Tryz.ntmps97
 go_wp2;go_ret;exact ⟨rfl,jZd (Below.refl _ _)⟩
theorem cZp (A:Option Addr) (c:Nat) (R:List Nr) (i m:Nat) (p u:Nr) (b:Bool) (w:World) (h:NrV w A R) (hp:R[i]?=some p) (hL:R.length≤10) (h0:i≠0) (hpa:p.n.pa=m) (hm:m<i) (hu:R[m]?=some u)
  (hl:u.n.ki=1→(1≤u.n.cs.length∧u.n.cs.length≤5)∧(1≤u.n.rs.length∧u.n.rs.length≤5)) (hb:(decide (u.n.ki≠1) || rZa u.n.cs.length u.n.rs.length p.n.ce)=b) :
  Calls Tryz.prog 97 #[.agg #[.slice A R.length c],.int .i64 i] w fun e w'=>e=.returned (.bool b)∧Below w.heap.size w w':=by
 have hi:i<R.length:=(List.getElem?_eq_some_iff.1 hp).1;obtain ⟨bl,off,rfl,hbl,hc⟩:=h.cells (by omega);have hB0:Below w.heap.size w (w.alloc (.cells #[.slice (some ⟨bl,off,none⟩) R.length c] 25 (0,0))):=jZd (Below.refl _ _);have HX:=hD (newS w (.cells #[.slice (some ⟨bl,off,none⟩) R.length c] 25 (0,0)));have HP:=hD (pZi (hc i p hp) (hB0.block bl hbl))
 have HU:=hD (pZi (hc m u hu) (hB0.block bl hbl));have HB:=hD hB0
 have hii:(i:Int)<(R.length:Int):=by omega
 have hmm:(m:Int)<(R.length:Int):=by omega
 have e0:((i:Int) == 0)=false:=by rw [beq_eq_false_iff_ne];omega
 have e0':decide ((i:Int)=0)=false:=decide_eq_false (by omega);have HPA:=hD hpa;have HBB:=hD hb;have HLL:=hD hl;clear hc h hp hu hpa hb hl hB0
 go_enter Tryz.func97,Tryz.ntmps97
 go_upto_region 3 with (fail)
 refine kZf (fun W=>W.heap[w.heap.size]?=some (.cells #[.slice (some ⟨bl,off,none⟩) R.length c] 25 (0,0))∧W.rangeAt bl (off+i*34) (jZj p)∧W.rangeAt bl (off+m*34) (jZj u)∧Below w.heap.size w W∧bl<W.heap.size) ⟨HX.out,HP.out,HU.out,HB.out,by simp;omega⟩ (fun W h0=>?_);clear HX HP HU HB;obtain ⟨hx,hp,hu,hb,hbw⟩:=h0;have x0:=jZc hx 0
 have q0:W.cell? ⟨bl,off+i*34,none⟩=some (.int .i64 (m:Int)):=by rw [<- HPA.out];exact hp 0 _ rfl
 have lx:=ltS hx;have HX:=hD hx;have HP:=hD hp;have HU:=hD hu;have HB:=hD hb;clear hx hp hu hb;refine jZg 10 2 (·<11) (by kernel_rfl) (by kernel_rfl) rfl ?_
 iterate 10 (refine jZ3 (fun K hK=>?_);first|(refine grow_ldN _ u bl (off+m*34) rfl rfl rfl hbw (pZi HU.out rfl) ?_;refine hK _ ?_;clear hK K)|(apply Exists.intro;refine ⟨.inl ⟨rfl,fun w' hw'=>?_⟩,?_⟩;(focus ((obtain ⟨hc,hf⟩:=kZi hw'.out);(have hcS:=kZq hw'.out);go_simp <;> rfl));(go_simp;refine hK _ ?_;clear hK K)))
 refine jZ9 ?_;refine sZ1 (i:=10) (by kernel_rfl) rfl rfl (by kernel_rfl) (fun w5 h5=>?_);go_simp;refine ⟨Gr.alloc _ _,?_⟩;refine jZ1 (by kernel_rfl) (fun w9 h9=>?_);refine jZn (i:=11) (by kernel_rfl) rfl rfl ?_;have hnew:=(h9.out.block w5.heap.size (by simp)).trans (newS w5 _)
 refine wp_store_mid 43 (.tmp 5) (.tmp 17) rfl w5.heap.size 0 (jZj u).toArray rfl rfl (pZb hnew (by show (0+34:Nat)≤34;omega)) (by kernel_rfl) (dZc u) ?_;refine jZq (by kernel_rfl) ?_
 have hfull:(w9.setCells w5.heap.size 0 (jZj u)).heap[w5.heap.size]?=some (.cells (jZj u).toArray 43 (0,0)):=by
  rw [jZ4 (jZj u) 0 w9 _ hnew,pZ3 (by rfl)]
 have hlow:W.heap.size≤w5.heap.size:=h5.out.size
 have hbel:Below W.heap.size W (w9.setCells w5.heap.size 0 (jZj u)) :=
  jZi hlow _ _ _ (sZz (jZd (sZz (Below.refl _ _).drew h5)) h9)
 refine kZ0.gen (fun wf=>W.heap.size≤w5.heap.size∧wf.heap[w5.heap.size]?=some (.cells (jZj u).toArray 43 (0,0))∧Below W.heap.size W wf) ⟨hlow,hfull,hbel⟩ (fun wf hwf=>?_);clear hnew hfull hlow hbel h9
 obtain ⟨b5,hb5⟩:∃ b5,w5.heap.size=b5:=⟨_,rfl⟩
 simp only [hb5] at hwf ⊢;clear hb5 h5 w5 w9;obtain ⟨hlow,hh5,hB⟩:=hwf;replace HX:=hD ((hB.block _ lx).trans HX.out);replace HP:=hD (pZi HP.out (hB.block _ hbw));replace HB:=hD (jZa HB.out hB);have hbw2:bl<wf.heap.size:=Nat.lt_of_lt_of_le hbw hB.size;have H5:=hD hh5;clear x0 q0 HU hh5 hB hbw;have x0:=jZc HX.out 0;have lx2:=ltS HX.out
 have k4:wf.cell? ⟨b5,4,none⟩=some (.int .i64 u.n.ki):=jZc H5.out 4;have k5:wf.cell? ⟨b5,5,none⟩=some (.slice u.ca u.n.cs.length u.cc):=jZc H5.out 5;have k6:wf.cell? ⟨b5,6,none⟩=some (.slice u.ra u.n.rs.length u.rc):=jZc H5.out 6;have l5:=ltS H5.out
 by_cases hk:u.n.ki=1
 ·have hb':rZa u.n.cs.length u.n.rs.length p.n.ce=b:=by rw [<- HBB.out];simp [hk]
  obtain ⟨⟨l1,l2⟩,l3,l4⟩:=HLL.out hk;rw [hk] at k4;have hce:=kZw HP.out;have HCE:=hD hce;have HBR:=hD hb';clear hk hce hb' HBB HLL
  go_upto_region 4 with (fail)
  refine jZg 18 1 (·<18) (by kernel_rfl) (by kernel_rfl) rfl ?_
  iterate 18 (refine jZ3 (fun K hK=>?_);first|(refine cZy 39 _ [.int .i64 p.n.ce.co,.int .i64 p.n.ce.ro,.int .i64 p.n.ce.mc,.int .i64 p.n.ce.mr,.int .i64 p.n.ce.cw,.int .i64 p.n.ce.ch,.int .i64 p.n.ce.sk,.int .i64 p.n.ce.px,.int .i64 p.n.ce.py] bl (off+i*34+16) rfl rfl rfl Tryz.underlying39 rfl (by kernel_rfl) (fun w' hw'=>pZi HCE.out (hw'.out.block bl hbw2)) ?_;refine hK _ ?_;clear hK K)|(refine kZr rfl ?_;go_simp;refine hK _ ?_;clear hK K)|(apply Exists.intro;refine ⟨.inl ⟨rfl,fun w' hw'=>?_⟩,?_⟩;(focus ((obtain ⟨hc,hf⟩:=kZi hw'.out);(have hcS:=kZq hw'.out);go_simp <;> first | rfl|(go_at_call 126;exact gZ9 p.n.ce u.n.cs.length u.n.rs.length b _ (by omega) (by omega) (by omega) (by omega) HBR.out)));(go_simp;refine hK _ ?_;clear hK K)))
  refine jZ9 ?_;refine jZ1 (by kernel_rfl) (fun w9 hg9=>?_);have hb9:=jZs hg9.out;obtain ⟨hc9,hf9⟩:=kZi hb9;refine jZn (i:=18) (by kernel_rfl) rfl rfl ?_;go_simp;refine jZq (by kernel_rfl) ?_;refine kZ0.thn ?_;clear hc9 hf9;clear hg9;replace HB:=hD (jZa HB.out hb9);clear hb9;go_wp2;go_ret;exact ⟨rfl,HB.out⟩
 ·have hb':true=b:=by rw [<- HBB.out];simp [hk]
  subst hb'
  have f1:(u.n.ki == 1)=false:=by rw [beq_eq_false_iff_ne];exact hk
  have f2:(u.n.ki != 1)=true:=by simp [bne,f1]
  have f3:decide (u.n.ki=1)=false:=decide_eq_false hk;have HK:=hD hk;clear hk HBB HLL
  go_upto_region 4 with (fail)
  refine jZg 18 1 (·<18) (by kernel_rfl) (by kernel_rfl) rfl ?_
  iterate 18 (refine jZ3 (fun K hK=>?_);first|(refine kZr rfl ?_;go_simp;refine hK _ ?_;clear hK K)|(apply Exists.intro;refine ⟨.inl ⟨rfl,fun w' hw'=>?_⟩,?_⟩;(focus ((obtain ⟨hc,hf⟩:=kZi hw'.out);(have hcS:=kZq hw'.out);go_simp <;> first | rfl|(fail)));(go_simp;refine hK _ ?_;clear hK K)))
  refine jZ9 ?_;refine jZ1 (by kernel_rfl) (fun w8 hg8=>?_);have hb8:=jZs hg8.out;obtain ⟨hc8,hf8⟩:=kZi hb8;refine jZn (i:=18) (by kernel_rfl) rfl rfl ?_;go_simp;refine jZq (by kernel_rfl) ?_;refine kZ0.thn ?_;clear hc8 hf8;clear hg8;replace HB:=hD (jZa HB.out hb8);clear hb8;go_wp2;go_ret;exact ⟨rfl,HB.out⟩
section
attribute [local go_sem] Oper.semAt_some
def IsUp (L:List Nd):Int→List Int→Prop
 | p,[]=>p=-1
 | p,x :: xs=>x=p∧0≤p∧∃ n:Nd,L[p.toNat]?=some n∧n.pa<p∧-1≤n.pa∧IsUp L n.pa xs
theorem IsUp.cons {L:List Nd} {p:Int} {xs:List Int} {n:Nd} (h0:0≤p) (hn:L[p.toNat]?=some n) (h1:n.pa<p) (h2:-1≤n.pa) (h:IsUp L n.pa xs):IsUp L p (p :: xs):=by
 unfold IsUp;exact ⟨rfl,h0,n,hn,h1,h2,h⟩
theorem IsUp.nil {L:List Nd}:IsUp L (-1) []:=by unfold IsUp;rfl
theorem tZl {L:List Nd} (h:sZj L=true) {k:Nat} {n:Nd} (hn:L[k]?=some n):ndB n=true∧upB k n=true∧clB L k n=true:=by
 unfold sZj at h;rw [Bool.and_eq_true] at h;have hk:k<L.length:=(List.getElem?_eq_some_iff.1 hn).1
 have:=List.all_eq_true.1 h.2 k (List.mem_range.2 hk)
 rw [eZ0 hn,Bool.and_eq_true,Bool.and_eq_true] at this;exact this
theorem vZ9 {L:List Nd} (h:sZj L=true):1≤L.length∧L.length≤10:=by
 unfold sZj at h;rw [Bool.and_eq_true,pZa] at h;omega
def KU (Bi Bt b:Nat) (X Y:World):Prop:=Y.heap[Bi]?=X.heap[Bi]?∧Y.heap[Bt]?=X.heap[Bt]?∧Y.heap[b]?=X.heap[b]?
theorem KU.trans {Bi Bt b:Nat} {A B C:World} (h:KU Bi Bt b A B) (k:KU Bi Bt b B C):KU Bi Bt b A C:=⟨k.1.trans h.1,k.2.1.trans h.2.1,k.2.2.trans h.2.2⟩
theorem KU.of {Bi Bt b n0:Nat} {A B:World} (h:Below n0 A B) (h1:Bi<n0) (h2:Bt<n0) (h3:b<n0):KU Bi Bt b A B:=⟨h.block _ h1,h.block _ h2,h.block _ h3⟩
structure UpAt (W:World) (Bi Bt b off len c:Nat) (i:Int) (R:List Nr):Prop where
 hi:W.cell? ⟨Bi,0,none⟩=some (.int .i64 i)
 ht:W.cell? ⟨Bt,0,none⟩=some (.slice (some ⟨b,off,none⟩) len c)
 hn:∀ (k:Nat) (p:Nr),R[k]?=some p→W.rangeAt b (off+k*34) (jZj p)
theorem UpAt.keep {W W':World} {Bi Bt b off len c:Nat} {i:Int} {R:List Nr} (h:UpAt W Bi Bt b off len c i R) (hk:KU Bi Bt b W W'):UpAt W' Bi Bt b off len c i R :=
 ⟨(World.cell?_of_block (a:=⟨Bi,0,none⟩) hk.1).trans h.hi,(World.cell?_of_block (a:=⟨Bt,0,none⟩) hk.2.1).trans h.ht,fun k p hp=>pZi (h.hn k p hp) hk.2.2⟩
theorem upFrom_v (A:Option Addr) (m c:Nat) (i:Int) (w:World) :
  Calls Tryz.prog 75 #[.agg #[.slice A m c],.int .i64 i] w fun e w'=>e=.returned (.func (.func 116) #[] #[.pointer (some ⟨w.heap.size+1,0,none⟩),.pointer (some ⟨w.heap.size,0,none⟩)])∧w'=(w.alloc (.cells #[.slice A m c] 25)).alloc (.cells #[.int .i64 i] 3):=by
 go_enter Tryz.func75,Tryz.ntmps75
 go_wp2;go_ret;exact ⟨rfl,rfl⟩
end
theorem eZw {w:World} {o:Obj} {cs:Array Value} {T:TypeId} (p:Nr) (ho:o=.cells cs T (0,0)) (hs:cs.size=34):((w.alloc o).setCells w.heap.size 0 (jZj p)).heap[w.heap.size]?=some (.cells (jZj p).toArray T (0,0)):=by
 subst ho;rw [jZ4 (jZj p) 0 _ _ (newS w _),pZ3 (by rw [hs];rfl)]
theorem nok_kids {R:List Nr} {k:Nat} {p:Nr} (hall:(List.range k).all (nokB (R.map Nr.n))=true) (hp:R[k]?=some p) (hup:upB k p.n=true) (h0:k≠0) :
  ∃ (m:Nat) (u:Nr),p.n.pa=m∧m<k∧R[m]?=some u∧(u.n.ki=1→(1≤u.n.cs.length∧u.n.cs.length≤5)∧(1≤u.n.rs.length∧u.n.rs.length≤5))∧clB (R.map Nr.n) k p.n=(decide (u.n.ki≠1) || rZa u.n.cs.length u.n.rs.length p.n.ce):=by
 unfold upB at hup;rw [if_neg h0,pZa] at hup;obtain ⟨m,hm⟩:=Int.eq_ofNat_of_zero_le hup.1
 have hmk:m<k:=by omega
 have hkl:=(List.getElem?_eq_some_iff.1 hp).1
 have hml:m<R.length:=by omega
 have hu:R[m]?=some R[m]:=List.getElem?_eq_getElem hml;refine ⟨m,R[m],hm,hmk,hu,fun hk=>?_,?_⟩
 ·have h1:=List.all_eq_true.1 hall m (List.mem_range.2 hmk);rw [eZ0 (n:=(R[m]).n) (by rw [List.getElem?_map,hu];rfl)] at h1;simp only [Bool.and_eq_true] at h1;obtain ⟨l1,l2⟩:=fZ3 h1.1 hk;exact ⟨bZu l1,bZu l2⟩
 ·unfold clB;rw [if_neg h0,hm];simp only [Int.toNat_natCast];rw [List.getElem?_map,hu]
  rfl
theorem gZ5 (A:Option Addr) (c:Nat) (R:List Nr) (b:Bool) (w:World) (h:NrV w A R) (hr:RdR w R) (hL:R.length≤1048576) (hm:∀ p∈R,p.n.cs.length≤1048576∧p.n.rs.length≤1048576) (hb:sZj (R.map Nr.n)=b) :
  Calls Tryz.prog 53 #[.agg #[.slice A R.length c]] w fun e w'=>e=.returned (.bool b)∧Below w.heap.size w w':=by
 have hB0:Below w.heap.size w (w.alloc (.cells #[.slice A R.length c] 25 (0,0))):=jZd (Below.refl _ _);have HX:=hD (newS w (.cells #[.slice A R.length c] 25 (0,0)));have HB:=hD hB0;have HV:=hD (h.keep hB0);have HR:=hD (hr.keep hB0);have HM:=hD hm;have x0:=jZc HX.out 0;have lx:=ltS HX.out;clear hB0 h hr hm
 cases hl:rng R.length 1 10
 ·obtain rfl:false=b:=by rw [<- hb];unfold sZj;rw [List.length_map,hl];rfl
  go_enter Tryz.func53,Tryz.ntmps53
  go_wp2_with fail
  with_reducible refine (kZu _ 1 10 false _ hl).mono ?_
  rintro e w' ⟨rfl,rfl⟩;go_wp2;go_ret;exact ⟨rfl,HB.out⟩
 ·have hl2:1≤R.length∧R.length≤10:=by rw [pZa] at hl;omega
  have hb2:(List.range R.length).all (nokB (R.map Nr.n))=b:=by rw [<- hb];unfold sZj;rw [List.length_map,hl];rfl
  have HBB:=hD hb2;clear hb hb2;obtain ⟨hl3,hl4⟩:=hl2
  go_enter Tryz.func53,Tryz.ntmps53
  go_wp2_with fail
  with_reducible refine (kZu _ 1 10 true _ hl).mono ?_
  rintro e w' ⟨rfl,rfl⟩
  go_wp2_with fail
  go_loopw [13] (fun i wr=>∃ k:Nat,k≤R.length∧i=.int .i64 k∧(List.range k).all (nokB (R.map Nr.n))=true∧wr.heap[w.heap.size]?=some (.cells #[.slice A R.length c] 25 (0,0))∧NrV wr A R∧RdR wr R∧Below w.heap.size w wr) (fun i _=>R.length-(intOf i).toNat)
  case atStart=>exact ⟨0,by omega,rfl,rfl,HX.out,HV.out,HR.out,HB.out⟩
  case round =>
   obtain ⟨k,hk,rfl,hall,hx,hv,hr,hB⟩:=hrel;clear HX HV HR HB x0 lx
   by_cases hlt:k<R.length
   ·have hd:decide ((k:Int)<(R.length:Int))=true:=by simpa using hlt
    have hget:R[k]?=some R[k]:=List.getElem?_eq_getElem hlt;obtain ⟨bl,off,rfl,hbl,hp⟩:=hv.cells (by omega);have hLR:=hp k _ hget;have hrd:=hr _ (List.mem_of_getElem? hget);have hmm:=HM.out _ (List.mem_of_getElem? hget);generalize R[k]=p at *;obtain ⟨m1,m2⟩:=hmm;have hnb:nokB (R.map Nr.n) k=(ndB p.n&&(upB k p.n&&clB (R.map Nr.n) k p.n)):=eZ0 (by rw [List.getElem?_map,hget];rfl)
    have HNB:=hD hnb;have HLR:=hD hLR;have HG:=hD hget;have HALL:=hD hall;have HX:=hD hx;have HV:=hD hv;have HR:=hD hr;have HD:=hD hrd;have HB:=hD hB;have lx:=ltS hx;clear hget hp hLR hrd hall hx hv hr hB hnb
    go_upto_region 6 with (first|(refine ldN _ p bl (off+k*34) rfl rfl rfl HLR.out ?_)|(refine stN (.tmp 4) (.tmp 17) p wr.heap.size 0 rfl rfl rfl rfl (newS _ _) (by show (0+34:Nat)≤34;omega) ?_))
    refine kZf (fun W=>W.heap[wr.heap.size]?=some (.cells (jZj p).toArray 43 (0,0))∧Below wr.heap.size wr W) ⟨eZw p rfl rfl,jZi (Nat.le_refl _) _ _ _ (jZd (Below.refl _ _))⟩ (fun W h0=>?_);obtain ⟨hn,hb⟩:=h0;replace HX:=hD ((hb.block _ lx).trans HX.out);replace HV:=hD (HV.out.keep hb);replace HR:=hD (HR.out.keep hb);replace HD:=hD (HD.out.keep hb)
    replace HB:=hD (jZa HB.out hb);have HN:=hD hn;clear hn hb lx HLR
    cases h1:ndB p.n
    ·go_wp2_with (refine ldN _ p wr.heap.size 0 rfl rfl rfl (kZ6 HN.out) ?_)
     with_reducible refine (cZa p false _ HD.out m1 m2 h1).mono ?_
     rintro e w1 ⟨rfl,hb⟩;replace HB:=hD (jZa HB.out hb);clear hb;go_wp2;go_ret;exact ⟨jZ8 (by rw [<- HBB.out];exact (rZk (k:=k) (p:=k) (by rw [List.getElem?_range (by omega)]) (by rw [HNB.out,h1];rfl)).symm),HB.out⟩
    ·have hx0:=jZc HX.out 0
     go_wp2_with (refine ldN _ p wr.heap.size 0 rfl rfl rfl (kZ6 HN.out) ?_)
     with_reducible refine (cZa p true _ HD.out m1 m2 h1).mono ?_
     rintro e w1 ⟨rfl,hb⟩;clear hx0;replace HX:=hbk hb HX;replace HV:=hD (HV.out.keep hb);replace HR:=hD (HR.out.keep hb);replace HB:=hD (jZa HB.out hb);clear hb;have hx0:=jZc HX.out 0
     cases h2:upB k p.n
     ·go_wp2_with fail
      with_reducible refine (sZx _ c R k p false _ HV.out HG.out hl4 h2).mono ?_
      rintro e w2 ⟨rfl,hb⟩;clear hx0;replace HB:=hD (jZa HB.out hb);clear hb;go_wp2;go_ret;exact ⟨jZ8 (by rw [<- HBB.out];exact (rZk (k:=k) (p:=k) (by rw [List.getElem?_range (by omega)]) (by rw [HNB.out,h1,h2];rfl)).symm),HB.out⟩
     ·go_wp2_with fail
      with_reducible refine (sZx _ c R k p true _ HV.out HG.out hl4 h2).mono ?_
      rintro e w2 ⟨rfl,hb⟩;clear hx0;replace HX:=hbk hb HX;replace HV:=hD (HV.out.keep hb);replace HR:=hD (HR.out.keep hb);replace HB:=hD (jZa HB.out hb);clear hb;have hx0:=jZc HX.out 0
      have hcv:∀ cb,clB (R.map Nr.n) k p.n=cb→Calls Tryz.prog 97 #[.agg #[.slice (some ⟨bl,off,none⟩) R.length c],.int .i64 k] w2 fun e w'=>e=.returned (.bool cb)∧Below w2.heap.size w2 w':=by
       intro cb hcb
       by_cases hz:k=0
       ·subst hz
        obtain rfl:true=cb:=by rw [<- hcb];rfl
        exact cZo _ _ _ _
       ·obtain ⟨m,u,e1,e2,e3,e4,e5⟩:=nok_kids HALL.out HG.out h2 hz;exact cZp _ c R k m p u cb _ HV.out HG.out hl4 hz e1 e2 e3 e4 (by rw [<- e5];exact hcb)
      cases h3:clB (R.map Nr.n) k p.n
      ·have HC:=hD (hcv false h3);clear hcv
       go_wp2_with fail
       with_reducible refine (HC.out).mono ?_
       rintro e w3 ⟨rfl,hb⟩;clear hx0 HC;replace HB:=hD (jZa HB.out hb);clear hb;go_wp2;go_ret;exact ⟨jZ8 (by rw [<- HBB.out];exact (rZk (k:=k) (p:=k) (by rw [List.getElem?_range (by omega)]) (by rw [HNB.out,h1,h2,h3];rfl)).symm),HB.out⟩
      ·have HC:=hD (hcv true h3);clear hcv
       go_wp2_with fail
       with_reducible refine (HC.out).mono ?_
       rintro e w3 ⟨rfl,hb⟩;clear hx0 HC;replace HX:=hbk hb HX;replace HV:=hD (HV.out.keep hb);replace HR:=hD (HR.out.keep hb);replace HB:=hD (jZa HB.out hb);clear hb;go_wp2
       go_roundw
       case rel=>exact ⟨k+1,by omega,by go_num,by rw [tZt,HALL.out,HNB.out,h1,h2,h3];rfl,HX.out,HV.out,HR.out,HB.out⟩
       case measure=>simp [intOf];omega
   ·have hd:decide ((k:Int)<(R.length:Int))=false:=decide_eq_false (by omega)
    obtain rfl:k=R.length:=by omega
    have HB:=hD hB;have HALL:=hD hall;clear hx hv hr hB hall;go_wp2;go_ret;exact ⟨jZ8 (by rw [<- HBB.out,HALL.out]),HB.out⟩
end Go.Proofs.YtfnpdlnepjhljaaGreat
