import Derived.Test.YtfnpdlnepjhljaaGreatQH03
import Derived.Shelf.Abstract
set_option linter.unusedVariables false
set_option linter.unusedSimpArgs false
set_option maxRecDepth 100000
set_option maxHeartbeats 16000000
namespace Go.Proofs.YtfnpdlnepjhljaaGreat
open Go.RowKit
attribute [local go_sem] kZb kZp kZg
def RvK (k:Nat) (w:World) (A:Option Addr) (R:List (List Value)):Prop:=0<R.length→∃ b off,A=some ⟨b,off,none⟩∧b<w.heap.size∧∀ i vs,R[i]?=some vs→w.rangeAt b (off+i*k) vs
theorem RvK.keep {k:Nat} {w w':World} {A:Option Addr} {R:List (List Value)} (h:RvK k w A R) (hb:Below w.heap.size w w'):RvK k w' A R:=fun h0 =>
 let ⟨b,off,e,hl,hp⟩:=h h0;⟨b,off,e,Nat.lt_of_lt_of_le hl hb.size,fun i vs hi=>pZi (hp i vs hi) (hb.block b hl)⟩
theorem RvK.nil (k:Nat) (w:World) (A:Option Addr):RvK k w A []:=fun h=>absurd h (by simp)
def RpK (k:Nat) (w:World) (g:Nat) (T:TypeId) (n j:Nat) (R:List (List Value)):Prop:=∃ cs:Array Value,w.heap[g]?=some (.cells cs T (0,0))∧cs.size=n*k∧∀ i vs,i<j→R[i]?=some vs→InS cs (i*k) vs
theorem RpK.lt {k:Nat} {w:World} {g:Nat} {T:TypeId} {n j:Nat} {R:List (List Value)} (h:RpK k w g T n j R):g<w.heap.size:=by obtain ⟨cs,hh,_⟩:=h;exact ltS hh
theorem RpK.keep' {k:Nat} {w w':World} {g:Nat} {T:TypeId} {n j:Nat} {R:List (List Value)} (h:RpK k w g T n j R) (hb:w'.heap[g]?=w.heap[g]?):RpK k w' g T n j R:=by
 obtain ⟨cs,hh,r⟩:=h;exact ⟨cs,hb.trans hh,r⟩
theorem RpK.keep {k:Nat} {w w':World} {g:Nat} {T:TypeId} {n j:Nat} {R:List (List Value)} (h:RpK k w g T n j R) (hb:Below w.heap.size w w'):RpK k w' g T n j R:=h.keep' (hb.block g h.lt)
theorem RpK.there {k:Nat} {w:World} {g:Nat} {T:TypeId} {n j:Nat} {R:List (List Value)} (h:RpK k w g T n j R) {i:Nat} (hi:i<n):w.there g (i*k) k:=by
 obtain ⟨cs,hh,hs,_⟩:=h;refine pZb hh ?_;rw [hs]
 calc i*k+k=(i+1)*k:=by rw [Nat.add_mul,Nat.one_mul]
  _≤n*k:=Nat.mul_le_mul_right k hi
theorem RpK.step {k:Nat} {w:World} {g:Nat} {T:TypeId} {n j:Nat} {R:List (List Value)} (h:RpK k w g T n j R) (hR:∀ vs∈R,vs.length=k) {vs:List Value} (hv:R[j]?=some vs) (hj:j<n):RpK k (w.setCells g (j*k) vs) g T n (j+1) R:=by
 obtain ⟨cs,hh,hs,hc⟩:=h;have hl:=hR vs (List.mem_of_getElem? hv);have e:(j+1)*k≤n*k:=Nat.mul_le_mul_right k hj;rw [Nat.add_mul,Nat.one_mul] at e;refine ⟨_,jZ4 vs (j*k) _ _ hh,(pZ6 _ _ _).trans hs,fun i us hi hu=>?_⟩
 by_cases ei:i=j
 ·subst ei;rw [hv] at hu;obtain rfl:=Option.some.inj hu;exact InS.write (by rw [hl,hs];omega)
 ·have e2:(i+1)*k≤j*k:=Nat.mul_le_mul_right k (by omega);rw [Nat.add_mul,Nat.one_mul] at e2;exact (hc i us (by omega) hu).keepS (.inl (by rw [hR us (List.mem_of_getElem? hu)];omega))
theorem RpK.new {k:Nat} {w:World} {f:Array Value} {T:TypeId} {n:Nat} (R:List (List Value)) (hf:f.size=n*k):RpK k (w.alloc (.cells f T)) w.heap.size T n 0 R:=⟨f,newS _ _,hf,fun i vs hi=>absurd hi (by omega)⟩
def RbK (k:Nat) (w:World) (g:Nat) (T:TypeId) (R:List (List Value)):Prop:=RpK k w g T R.length R.length R
theorem RbK.v {k:Nat} {w:World} {g:Nat} {T:TypeId} {R:List (List Value)} (h:RbK k w g T R):RvK k w (some ⟨g,0,none⟩) R:=fun _=>by
 obtain ⟨cs,hh,hs,hc⟩:=h;refine ⟨g,0,rfl,ltS hh,fun i vs hv j v hj=>?_⟩;rw [Nat.zero_add];exact (jZc hh _).trans (hc i vs (List.getElem?_eq_some_iff.1 hv).1 hv j v hj)
theorem RpK.whole {k:Nat} {w:World} {g:Nat} {T:TypeId} {n j:Nat} {R:List (List Value)} (h:RpK k w g T n j R) (hn:n=R.length) (hj:n≤j):RbK k w g T R:=by
 subst hn;obtain ⟨cs,hh,hs,hc⟩:=h;exact ⟨cs,hh,hs,fun i vs hi hv=>hc i vs (by omega) hv⟩
def one (vs:List Value):Prop:=∀ v∈vs,v.oneCell'=true
theorem ldK {P:Program} {ops:Array Oper} {rest:List Oper} {op:Oper} {a:Act} {w:World} {Q:Exit→Act→World→Prop} (T:TypeId) (x:Operand) (vs:List Value) (b o:Nat) {d:TypeDesc} (hgd:op.guard=none) (ho:op.op=.load T x)
  (hc:w.rangeAt b o vs) (hu:P.underlying T=some d) (hd:d.isRow=true) (hi:(P.info? T).map (·.size)=some vs.length) (hx:a.eval x=.pointer (some ⟨b,o,none⟩))
  (h:wpList P ops Q rest (a.put op.dst (.agg vs.toArray)) w):wpList P ops Q (op :: rest) a w :=
 wpList_load_mid hgd T x ho b o hx vs d hc hu hd hi h
theorem stK {P:Program} {ops:Array Oper} {rest:List Oper} {op:Oper} {a:Act} {w:World} {Q:Exit→Act→World→Prop} (T:TypeId) (x y:Operand) (vs:List Value) (b o:Nat) (hgd:op.guard=none) (ho:op.op=.store T x y)
  (ht:w.there b o vs.length) (hi:(P.info? T).map (·.size)=some vs.length) (h1:one vs) (hx:a.eval x=.pointer (some ⟨b,o,none⟩)) (hy:a.eval y=.agg vs.toArray)
  (h:wpList P ops Q rest (a.put op.dst undef) (w.setCells b o vs)):wpList P ops Q (op :: rest) a w:=by
 refine wpList_store_mid hgd T x y ho b o vs.toArray hx hy (by simpa using ht) (by simpa using hi) (all_oneCell_toArray h1) ?_
 simpa using h
theorem sZa {P:Program} {ops:Array Oper} {rest:List Oper} {op:Oper} {a:Act} {w:World} {Q:Exit→Act→World→Prop} (T:TypeId) (k:Nat) (hgd:op.guard=none) (ho:op.op=.alloc T) (hi:∃ i z,P.info? T=some i∧i.zero=some z∧z.cells.size=k)
  (h:∀ f:Array Value,f.size=k→wpList P ops Q rest (a.put op.dst (.pointer (some ⟨w.heap.size,0,none⟩))) (w.alloc (.cells f T))):wpList P ops Q (op :: rest) a w:=by
 obtain ⟨i,z,h1,h2,h3⟩:=hi
 refine wpList_plain hgd fun K hK=>?_
 have:=hK _ _ (h z.cells h3)
 unfold Oper.wp execOp;simp only [ho]
 simpa [Instr.alloc,zeroValue,typeInfo,h1,h2,newVar,go_sem] using this
theorem dZa {P:Program} {T:TypeId} {k:Nat} (h:(P.info? T).map (fun i=>i.zero.map (fun z=>z.cells.size))=some (some k)):∃ i z,P.info? T=some i∧i.zero=some z∧z.cells.size=k:=by
 cases hq:P.info? T with
 | none=>rw [hq] at h;cases h
 | some i =>
  rw [hq] at h;simp only [Option.map_some,Option.some.injEq] at h
  cases hz:i.zero with
  | none=>rw [hz] at h;cases h
  | some z=>rw [hz] at h;simp only [Option.map_some,Option.some.injEq] at h;exact ⟨i,z,rfl,hz,h⟩
theorem madeK (S T:TypeId) (k:Nat) (hk:k≤64) (hu:Tryz.prog.underlying S=some (.slice T)) (hinfo:(Tryz.prog.info? T).map (fun i=>(i.size,decide (i.bytes≤512),i.zero.isSome))=some (k,true,true)):∃ f:Nat→Array Value,(∀ n,(f n).size=n*k)∧∀ (n:Nat) (w:World),n≤1048576→(Instr.makeSlice S (.int .i64 (n:Int)) (.int .i64 (n:Int))).run Tryz.prog w=.ok (.slice (some ⟨w.heap.size,0,none⟩) n n) (w.alloc (.cells (f n) T)):=by
 obtain ⟨i,z,hi,h1,h2,h3⟩:∃ (i:TypeInfo) (z:Value),Tryz.prog.info? T=some i∧i.zero=some z∧i.size=k∧i.bytes≤512:=by
  cases hq:Tryz.prog.info? T with
  | none=>rw [hq] at hinfo;cases hinfo
  | some i =>
   rw [hq] at hinfo;simp only [Option.map_some,Option.some.injEq,Prod.mk.injEq] at hinfo;obtain ⟨e1,e2,e3⟩:=hinfo;obtain ⟨z,hz⟩:=Option.isSome_iff_exists.1 e3;exact ⟨i,z,rfl,hz,e1,by simpa using e2⟩
 refine ⟨fun n=>madeCells z.cells (n*k),fun n=>size_madeCells _ _,fun n w hn=>?_⟩;have e:((i.bytes*n:Nat):Int)≤((512*1048576:Nat):Int):=Int.ofNat_le.2 (Nat.mul_le_mul h3 hn);rw [Int.natCast_mul] at e;have hr:=run_make (P:=Tryz.prog) w S T i _ hu hi h1 .i64 .i64 n n (by omega) (Int.le_refl _) (Int.le_trans e (by decide)) (by omega);rw [h2] at hr
 simpa using hr
theorem kZv:(Tryz.prog.info? 112).map (·.size)=some 37:=by kernel_rfl
theorem rZv:∃ i z,Tryz.prog.info? 112=some i∧i.zero=some z∧z.cells.size=37:=dZa (by kernel_rfl)
theorem gZ8:∃ f:Nat→Array Value,(∀ n,(f n).size=n*37)∧∀ (n:Nat) (w:World),n≤1048576→(Instr.makeSlice 109 (.int .i64 (n:Int)) (.int .i64 (n:Int))).run Tryz.prog w=.ok (.slice (some ⟨w.heap.size,0,none⟩) n n) (w.alloc (.cells (f n) 112)):=madeK _ _ 37 (by omega) Tryz.underlying109 (by kernel_rfl)
theorem sZt:(Tryz.prog.info? 39).map (·.size)=some 9:=by kernel_rfl
theorem fZ1:∃ i z,Tryz.prog.info? 39=some i∧i.zero=some z∧z.cells.size=9:=dZa (by kernel_rfl)
theorem made_Cell:∃ f:Nat→Array Value,(∀ n,(f n).size=n*9)∧∀ (n:Nat) (w:World),n≤1048576→(Instr.makeSlice 126 (.int .i64 (n:Int)) (.int .i64 (n:Int))).run Tryz.prog w=.ok (.slice (some ⟨w.heap.size,0,none⟩) n n) (w.alloc (.cells (f n) 39)):=madeK _ _ 9 (by omega) Tryz.underlying126 (by kernel_rfl)
theorem rZm:(Tryz.prog.info? 41).map (·.size)=some 9:=by kernel_rfl
theorem dZb:∃ i z,Tryz.prog.info? 41=some i∧i.zero=some z∧z.cells.size=9:=dZa (by kernel_rfl)
theorem made_Place:∃ f:Nat→Array Value,(∀ n,(f n).size=n*9)∧∀ (n:Nat) (w:World),n≤1048576→(Instr.makeSlice 150 (.int .i64 (n:Int)) (.int .i64 (n:Int))).run Tryz.prog w=.ok (.slice (some ⟨w.heap.size,0,none⟩) n n) (w.alloc (.cells (f n) 41)):=madeK _ _ 9 (by omega) Tryz.underlying150 (by kernel_rfl)
theorem sZf:(Tryz.prog.info? 37).map (·.size)=some 9:=by kernel_rfl
theorem gZc:∃ i z,Tryz.prog.info? 37=some i∧i.zero=some z∧z.cells.size=9:=dZa (by kernel_rfl)
theorem made_Pack:∃ f:Nat→Array Value,(∀ n,(f n).size=n*9)∧∀ (n:Nat) (w:World),n≤1048576→(Instr.makeSlice 123 (.int .i64 (n:Int)) (.int .i64 (n:Int))).run Tryz.prog w=.ok (.slice (some ⟨w.heap.size,0,none⟩) n n) (w.alloc (.cells (f n) 37)):=madeK _ _ 9 (by omega) Tryz.underlying123 (by kernel_rfl)
theorem sZm:(Tryz.prog.info? 82).map (·.size)=some 2:=by kernel_rfl
theorem bZ9:∃ i z,Tryz.prog.info? 82=some i∧i.zero=some z∧z.cells.size=2:=dZa (by kernel_rfl)
theorem inf_Rect:(Tryz.prog.info? 32).map (·.size)=some 4:=by kernel_rfl
theorem bZr:∃ f:Nat→Array Value,(∀ n,(f n).size=n*4)∧∀ (n:Nat) (w:World),n≤1048576→(Instr.makeSlice 28 (.int .i64 (n:Int)) (.int .i64 (n:Int))).run Tryz.prog w=.ok (.slice (some ⟨w.heap.size,0,none⟩) n n) (w.alloc (.cells (f n) 32)):=madeK _ _ 4 (by omega) Tryz.underlying28 (by kernel_rfl)
structure Wd where
 p:Nr
 sw:Int
 sh:Int
 ka:Option Addr
 kn:Nat
 kc:Nat
def valsWd (x:Wd):List Value:=jZj x.p ++ [.int .i64 x.sw,.int .i64 x.sh,.slice x.ka x.kn x.kc]
theorem rZg (x:Wd):(valsWd x).length=37:=rfl
theorem rZj (x:Wd):one (valsWd x):=by
 intro v hv
 rcases List.mem_append.1 hv with h | h
 ·exact rZ9 _ v h
 ·simp only [List.mem_cons,List.not_mem_nil,or_false] at h
  rcases h with rfl | rfl | rfl <;> rfl
def ceW (x:Wd):Ce:={ x.p.n.ce with cw:=x.sw,ch:=x.sh }
def pkW (x:Wd):Pk:={ x.p.n.pk with w:=x.sw,h:=x.sh }
def pZj (p:Pk):List Value:=[.int .i64 p.w,.int .i64 p.h,.int .i64 p.s,.bool p.fx,.bool p.fy,.bool p.ex,.int .i64 p.an,.int .i64 p.px,.int .i64 p.py]
def rZd (p:Plc):List Value:=[.int .i64 p.x,.int .i64 p.y,.int .i64 p.rx,.int .i64 p.ry,.int .i64 p.ww,.int .i64 p.hh,.int .i64 p.qw,.int .i64 p.qh,.int .i64 p.an]
def kZs (q:Int × Int):List Value:=[.int .i64 q.1,.int .i64 q.2]
def gd (vs:List Value) (i:Nat):Value:=vs.getD i undef
def uCe (vs:List Value):List Value:=[gd vs 16,gd vs 17,gd vs 18,gd vs 19,gd vs 34,gd vs 35,gd vs 22,gd vs 23,gd vs 24]
def uPk (vs:List Value):List Value:=[gd vs 34,gd vs 35,gd vs 9,gd vs 10,gd vs 11,gd vs 12,gd vs 13,gd vs 14,gd vs 15]
def uPl (vs:List Value):List Value:=[gd vs 25,gd vs 26,gd vs 27,gd vs 28,gd vs 29,gd vs 30,gd vs 31,gd vs 32,gd vs 33]
theorem uCe_eq (x:Wd):uCe (valsWd x)=kZn (ceW x):=rfl
theorem uPk_eq (x:Wd):uPk (valsWd x)=pZj (pkW x):=rfl
theorem uPl_eq (x:Wd):uPl (valsWd x)=rZd x.p.n.pl:=rfl
theorem tZf (p:Ce):one (kZn p):=by
 intro v hv;simp only [kZn,List.mem_cons,List.not_mem_nil,or_false] at hv
 rcases hv with rfl | rfl | rfl | rfl | rfl | rfl | rfl | rfl | rfl <;> rfl
theorem tZh (p:Pk):one (pZj p):=by
 intro v hv;simp only [pZj,List.mem_cons,List.not_mem_nil,or_false] at hv
 rcases hv with rfl | rfl | rfl | rfl | rfl | rfl | rfl | rfl | rfl <;> rfl
theorem vZl (p:Plc):one (rZd p):=by
 intro v hv;simp only [rZd,List.mem_cons,List.not_mem_nil,or_false] at hv
 rcases hv with rfl | rfl | rfl | rfl | rfl | rfl | rfl | rfl | rfl <;> rfl
theorem tZb (p:Int × Int):one (kZs p):=by
 intro v hv;simp only [kZs,List.mem_cons,List.not_mem_nil,or_false] at hv
 rcases hv with rfl | rfl <;> rfl
theorem qZm {P:Program} {fn:Func} {R:Ending→World→Prop} {a:Act} {w:World} (t:Nat) (T:TypeId) (g:Nat) (vs:List Value) {d:TypeDesc} (hr:fn.results=#[.cell t T]) (ht:a.tmps.getD t undef=.pointer (some ⟨g,0,none⟩)) (hc:w.rangeAt g 0 vs) (hu:P.underlying T=some d) (hd:d.isRow=true) (hi:(P.info? T).map (·.size)=some vs.length) (h0:a.defers=[]) (hR:R (.returned (.agg vs.toArray)) w):bodyPost P fn R .ret a w:=by
 refine bodyPost_ret (v:=.agg vs.toArray) ?_ h0 hR
 have ht':a.tmps[t]?.getD undef=.pointer (some ⟨g,0,none⟩):=by rw [<- Array.getD_eq_getD_getElem?];exact ht
 simp [results,hr,ht',asAddr,run_loadVar_mid w g 0 T vs d hc hu hd hi]
theorem asCell_v (x:Wd) (w:World):Calls Tryz.prog 131 #[.agg (valsWd x).toArray] w fun e w'=>e=.returned (.agg (kZn (ceW x)).toArray)∧Below w.heap.size w w':=by
 refine kZ7 Tryz.func131 rfl 18 (by simp only [Tryz.ntmps131]) (by simp) (fun t hsz hargs=>?_);have q0:t[0]?=some (.agg (valsWd x).toArray):=pZl (by omega) (hargs 0 _ rfl);clear hargs;obtain ⟨l0,e0⟩:=gE q0
 refine jZe fun K hK=>?_
 apply wp_region_lit
 repeat (first|((with_reducible show wpList _ _ _ _ _ _);refine sZa 39 9 rfl rfl fZ1 (fun z hz=>?_)) | go_step)
 refine hK.out _ _ ?_;clear hK K
 refine jZy (fun t' W'=>t'.size=18∧t'[1]?=some (.pointer (some ⟨w.heap.size,0,none⟩))∧t'[2]?=some (.pointer (some ⟨w.heap.size+1,0,none⟩))∧W'.heap[w.heap.size]?=some (.cells (valsWd x).toArray 112 (0,0))∧(∃ z:Array Value,W'.heap[w.heap.size+1]?=some (.cells z 39 (0,0))∧z.size=9)∧Below w.heap.size w W') ⟨by simp [hsz],by simp [hsz],by simp [hsz],⟨(Below.heap_alloc _ _ _ (by simp)).trans (newS _ _),⟨z,by have:=newS (w.alloc (.cells (valsWd x).toArray 112)) (.cells z 39);simpa using this,hz⟩,(jZd (Below.refl _ _)).trans ((jZd (Below.refl _ _)).mono (by simp))⟩⟩ ?_
 clear hsz q0 l0 e0 t z hz;rintro t W1 ⟨hsz,q1,q2,H1,⟨z,H2,hz⟩,hB⟩;have x34:=jZc H1 34;have x35:=jZc H1 35;have f1:=jZm H1 20;have f2:=jZm H1 21;obtain ⟨y1,z1⟩:=pZz H1 (i:=20) (by show 20<37;omega);obtain ⟨y2,z2⟩:=pZz H1 (i:=21) (by show 21<37;omega);have hlx:=ltS H1;rw [show (valsWd x).toArray[34]?=some (.int .i64 x.sw) from rfl] at x34
 rw [show (valsWd x).toArray[35]?=some (.int .i64 x.sh) from rfl] at x35;obtain ⟨l1,e1⟩:=gE q1;obtain ⟨l2,e2⟩:=gE q2
 refine jZe fun K hK=>?_
 apply wp_region_lit
 repeat (first | go_step)
 refine hK.out _ _ ?_;clear hK K
 refine jZy (fun t' W'=>t'.size=18∧t'[1]?=some (.pointer (some ⟨w.heap.size,0,none⟩))∧t'[2]?=some (.pointer (some ⟨w.heap.size+1,0,none⟩))∧W'.rangeAt w.heap.size 16 (kZn (ceW x))∧(∃ z:Array Value,W'.heap[w.heap.size+1]?=some (.cells z 39 (0,0))∧z.size=9)∧Below w.heap.size w W') ⟨by simp [hsz],by simp [q1],by simp [q2],⟨fun j v hj=>(jZc (putS (putS H1 _) _) _).trans (by (iterate 9 (rcases j with _ | j;first | exact hj | skip));simp [kZn] at hj),⟨z,(Below.heap_setCell _ ⟨w.heap.size,_,none⟩ _ _ (by simp)).trans ((Below.heap_setCell _ ⟨w.heap.size,_,none⟩ _ _ (by simp)).trans H2),hz⟩,(hB.setCell (p:=⟨w.heap.size,_,none⟩) (by simp) _).setCell (p:=⟨w.heap.size,_,none⟩) (by simp) _⟩⟩ ?_
 clear hsz q1 l1 e1 q2 l2 e2 t x34 x35 f1 f2 z1 z2 y1 y2 H1 H2 hB hlx W1 z hz;rintro t W2 ⟨hsz,q1,q2,hr,⟨z,H2,hz⟩,hB⟩;have HR:=hD hr;have hth:W2.there (w.heap.size+1) 0 (kZn (ceW x)).length:=pZb H2 (by rw [hz];show 0+9≤9;omega);have HTH:=hD hth;clear hr hth;obtain ⟨l1,e1⟩:=gE q1;obtain ⟨l2,e2⟩:=gE q2
 refine jZe fun K hK=>?_
 apply wp_region_lit
 repeat (first|((with_reducible show wpList _ _ _ _ _ _);refine ldK 39 _ (kZn (ceW x)) w.heap.size 16 rfl rfl HR.out Tryz.underlying39 rfl sZt (by simp [Act.eval,Act.put,hsz]) ?_)|((with_reducible show wpList _ _ _ _ _ _);refine stK 39 _ _ (kZn (ceW x)) (w.heap.size+1) 0 rfl rfl HTH.out sZt (tZf _) (by simp [Act.eval,Act.put,hsz,e2]) (by simp [Act.eval,Act.put,hsz]) ?_) | go_step)
 refine hK.out _ _ ?_;clear hK K;apply wp_ret;refine qZm 2 39 (w.heap.size+1) (kZn (ceW x)) Tryz.results131 ?_ (World.rangeAt_setCells_same _ _ _ _ HTH.out) Tryz.underlying39 rfl sZt rfl ⟨rfl,jZi (by omega) _ _ _ hB⟩
 simp [Act.put,hsz,e2]
theorem asPack_v (x:Wd) (w:World):Calls Tryz.prog 135 #[.agg (valsWd x).toArray] w fun e w'=>e=.returned (.agg (pZj (pkW x)).toArray)∧Below w.heap.size w w':=by
 refine kZ7 Tryz.func135 rfl 18 (by simp only [Tryz.ntmps135]) (by simp) (fun t hsz hargs=>?_);have q0:t[0]?=some (.agg (valsWd x).toArray):=pZl (by omega) (hargs 0 _ rfl);clear hargs;obtain ⟨l0,e0⟩:=gE q0
 refine jZe fun K hK=>?_
 apply wp_region_lit
 repeat (first|((with_reducible show wpList _ _ _ _ _ _);refine sZa 37 9 rfl rfl gZc (fun z hz=>?_)) | go_step)
 refine hK.out _ _ ?_;clear hK K
 refine jZy (fun t' W'=>t'.size=18∧t'[1]?=some (.pointer (some ⟨w.heap.size,0,none⟩))∧t'[2]?=some (.pointer (some ⟨w.heap.size+1,0,none⟩))∧W'.heap[w.heap.size]?=some (.cells (valsWd x).toArray 112 (0,0))∧(∃ z:Array Value,W'.heap[w.heap.size+1]?=some (.cells z 37 (0,0))∧z.size=9)∧Below w.heap.size w W') ⟨by simp [hsz],by simp [hsz],by simp [hsz],⟨(Below.heap_alloc _ _ _ (by simp)).trans (newS _ _),⟨z,by have:=newS (w.alloc (.cells (valsWd x).toArray 112)) (.cells z 37);simpa using this,hz⟩,(jZd (Below.refl _ _)).trans ((jZd (Below.refl _ _)).mono (by simp))⟩⟩ ?_
 clear hsz q0 l0 e0 t z hz;rintro t W1 ⟨hsz,q1,q2,H1,⟨z,H2,hz⟩,hB⟩;have x34:=jZc H1 34;have x35:=jZc H1 35;have f1:=jZm H1 7;have f2:=jZm H1 8;obtain ⟨y1,z1⟩:=pZz H1 (i:=7) (by show 7<37;omega);obtain ⟨y2,z2⟩:=pZz H1 (i:=8) (by show 8<37;omega);have hlx:=ltS H1;rw [show (valsWd x).toArray[34]?=some (.int .i64 x.sw) from rfl] at x34
 rw [show (valsWd x).toArray[35]?=some (.int .i64 x.sh) from rfl] at x35;obtain ⟨l1,e1⟩:=gE q1;obtain ⟨l2,e2⟩:=gE q2
 refine jZe fun K hK=>?_
 apply wp_region_lit
 repeat (first | go_step)
 refine hK.out _ _ ?_;clear hK K
 refine jZy (fun t' W'=>t'.size=18∧t'[1]?=some (.pointer (some ⟨w.heap.size,0,none⟩))∧t'[2]?=some (.pointer (some ⟨w.heap.size+1,0,none⟩))∧W'.rangeAt w.heap.size 7 (pZj (pkW x))∧(∃ z:Array Value,W'.heap[w.heap.size+1]?=some (.cells z 37 (0,0))∧z.size=9)∧Below w.heap.size w W') ⟨by simp [hsz],by simp [q1],by simp [q2],⟨fun j v hj=>(jZc (putS (putS H1 _) _) _).trans (by (iterate 9 (rcases j with _ | j;first | exact hj | skip));simp [pZj] at hj),⟨z,(Below.heap_setCell _ ⟨w.heap.size,_,none⟩ _ _ (by simp)).trans ((Below.heap_setCell _ ⟨w.heap.size,_,none⟩ _ _ (by simp)).trans H2),hz⟩,(hB.setCell (p:=⟨w.heap.size,_,none⟩) (by simp) _).setCell (p:=⟨w.heap.size,_,none⟩) (by simp) _⟩⟩ ?_
 clear hsz q1 l1 e1 q2 l2 e2 t x34 x35 f1 f2 z1 z2 y1 y2 H1 H2 hB hlx W1 z hz;rintro t W2 ⟨hsz,q1,q2,hr,⟨z,H2,hz⟩,hB⟩;have HR:=hD hr;have hth:W2.there (w.heap.size+1) 0 (pZj (pkW x)).length:=pZb H2 (by rw [hz];show 0+9≤9;omega);have HTH:=hD hth;clear hr hth;obtain ⟨l1,e1⟩:=gE q1;obtain ⟨l2,e2⟩:=gE q2
 refine jZe fun K hK=>?_
 apply wp_region_lit
 repeat (first|((with_reducible show wpList _ _ _ _ _ _);refine ldK 37 _ (pZj (pkW x)) w.heap.size 7 rfl rfl HR.out Tryz.underlying37 rfl sZf (by simp [Act.eval,Act.put,hsz]) ?_)|((with_reducible show wpList _ _ _ _ _ _);refine stK 37 _ _ (pZj (pkW x)) (w.heap.size+1) 0 rfl rfl HTH.out sZf (tZh _) (by simp [Act.eval,Act.put,hsz,e2]) (by simp [Act.eval,Act.put,hsz]) ?_) | go_step)
 refine hK.out _ _ ?_;clear hK K;apply wp_ret;refine qZm 2 37 (w.heap.size+1) (pZj (pkW x)) Tryz.results135 ?_ (World.rangeAt_setCells_same _ _ _ _ HTH.out) Tryz.underlying37 rfl sZf rfl ⟨rfl,jZi (by omega) _ _ _ hB⟩
 simp [Act.put,hsz,e2]
theorem asPlace_v (x:Wd) (w:World):Calls Tryz.prog 133 #[.agg (valsWd x).toArray] w fun e w'=>e=.returned (.agg (rZd x.p.n.pl).toArray)∧Below w.heap.size w w':=by
 refine kZ7 Tryz.func133 rfl 6 (by simp only [Tryz.ntmps133]) (by simp) (fun t hsz hargs=>?_);have q0:t[0]?=some (.agg (valsWd x).toArray):=pZl (by omega) (hargs 0 _ rfl);clear hargs;obtain ⟨l0,e0⟩:=gE q0
 refine jZe fun K hK=>?_
 apply wp_region_lit
 repeat (first|((with_reducible show wpList _ _ _ _ _ _);refine sZa 41 9 rfl rfl dZb (fun z hz=>?_)) | go_step)
 refine hK.out _ _ ?_;clear hK K
 refine jZy (fun t' W'=>t'.size=6∧t'[1]?=some (.pointer (some ⟨w.heap.size,0,none⟩))∧t'[2]?=some (.pointer (some ⟨w.heap.size+1,0,none⟩))∧W'.heap[w.heap.size]?=some (.cells (valsWd x).toArray 112 (0,0))∧(∃ z:Array Value,W'.heap[w.heap.size+1]?=some (.cells z 41 (0,0))∧z.size=9)∧Below w.heap.size w W') ⟨by simp [hsz],by simp [hsz],by simp [hsz],⟨(Below.heap_alloc _ _ _ (by simp)).trans (newS _ _),⟨z,by have:=newS (w.alloc (.cells (valsWd x).toArray 112)) (.cells z 41);simpa using this,hz⟩,(jZd (Below.refl _ _)).trans ((jZd (Below.refl _ _)).mono (by simp))⟩⟩ ?_
 clear hsz q0 l0 e0 t z hz;rintro t W1 ⟨hsz,q1,q2,H1,⟨z,H2,hz⟩,hB⟩
 have hr:W1.rangeAt w.heap.size 25 (rZd x.p.n.pl):=fun j v hj=>(jZc H1 _).trans (by (iterate 9 (rcases j with _ | j;first | exact hj | skip));simp [rZd] at hj)
 clear H1;have HR:=hD hr;have hth:W1.there (w.heap.size+1) 0 (rZd x.p.n.pl).length:=pZb H2 (by rw [hz];show 0+9≤9;omega);have HTH:=hD hth;clear hr hth;obtain ⟨l1,e1⟩:=gE q1;obtain ⟨l2,e2⟩:=gE q2
 refine jZe fun K hK=>?_
 apply wp_region_lit
 repeat (first|((with_reducible show wpList _ _ _ _ _ _);refine ldK 41 _ (rZd x.p.n.pl) w.heap.size 25 rfl rfl HR.out Tryz.underlying41 rfl rZm (by simp [Act.eval,Act.put,hsz]) ?_)|((with_reducible show wpList _ _ _ _ _ _);refine stK 41 _ _ (rZd x.p.n.pl) (w.heap.size+1) 0 rfl rfl HTH.out rZm (vZl _) (by simp [Act.eval,Act.put,hsz,e2]) (by simp [Act.eval,Act.put,hsz]) ?_) | go_step)
 refine hK.out _ _ ?_;clear hK K;apply wp_ret;refine qZm 2 41 (w.heap.size+1) (rZd x.p.n.pl) Tryz.results133 ?_ (World.rangeAt_setCells_same _ _ _ _ HTH.out) Tryz.underlying41 rfl rZm rfl ⟨rfl,jZi (by omega) _ _ _ hB⟩
 simp [Act.put,hsz,e2]
def pZh (n S:Int) (ws:List Int):List Int:=ws.map (fun x=>n*x / S)
def qZu:Int→List Int→List Int→List Int
 | m,x :: ws,b :: bs=>if 0<x∧0<m then (b+1) :: qZu (m-1) ws bs else b :: qZu m ws bs
 | _,_,bs=>bs
def jZt (n:Int) (ws:List Int):List Int :=
 if sumI ws=0 then (List.replicate ws.length 0).set (ws.length-1) n
 else qZu (n-sumI (pZh n (sumI ws) ws)) ws (pZh n (sumI ws) ws)
theorem sZ5 (n S:Int) (ws:List Int):(pZh n S ws).length=ws.length:=by simp [pZh]
theorem gZm:∀ {m:Int} {ws bs:List Int},(qZu m ws bs).length=bs.length
 | m,[],bs=>by simp [qZu]
 | m,x :: ws,[]=>by simp [qZu]
 | m,x :: ws,b :: bs=>by
  unfold qZu
  split <;> simp [gZm]
theorem kZ5 {n:Int} {ws:List Int}:(jZt n ws).length=ws.length:=by
 unfold jZt
 split
 ·simp
 ·rw [gZm,sZ5]
theorem cZ7:∀ {m:Int} {ws bs:List Int},m≤0→qZu m ws bs=bs
 | m,[],bs,h=>by simp [qZu]
 | m,x :: ws,[],h=>by simp [qZu]
 | m,x :: ws,b :: bs,h=>by
  unfold qZu;rw [if_neg (by omega),cZ7 h]
def cntP:List Int→Int
 | []=>0
 | x :: t=>(if 0<x then 1 else 0)+cntP t
theorem bZo:∀ ws:List Int,0≤cntP ws∧cntP ws≤ws.length
 | []=>by simp [cntP]
 | x :: t=>by
  have:=bZo t
  simp only [cntP,List.length_cons]
  split <;> omega
theorem kZ9 {L:List Int} (h:∀ x∈L,0≤x):0≤sumI L:=by
 induction L with
 | nil=>exact Int.le_refl _
 | cons x t ih =>
  have h1:=h x List.mem_cons_self;have h2:=ih (fun q hq=>h q (List.mem_cons_of_mem _ hq));simp only [sumI];omega
theorem left_bd {n S:Int} (hn:0≤n) (hS:0<S):∀ {ws:List Int},(∀ x∈ws,0≤x)→0≤n*sumI ws-S*sumI (pZh n S ws)∧n*sumI ws-S*sumI (pZh n S ws)≤(S-1)*cntP ws
 | [],_=>by simp [sumI,pZh,cntP]
 | x :: t,h=>by
  have ih:=left_bd hn hS (ws:=t) (fun q hq=>h q (List.mem_cons_of_mem _ hq));have hx:=h x List.mem_cons_self;have e:=Int.mul_ediv_add_emod (n*x) S;have r0:=Int.emod_nonneg (n*x) (show S≠0 by omega);have r1:=Int.emod_lt_of_pos (n*x) hS;have eb:sumI (pZh n S (x :: t))=n*x / S+sumI (pZh n S t):=rfl;rw [eb];simp only [sumI,cntP,Int.mul_add];generalize n*x / S=q at *;generalize (n*x) % S=r at *
  generalize n*sumI t=u at *;generalize S*sumI (pZh n S t)=v at *;generalize (S-1)*cntP t=z at *
  by_cases hp:0<x
  ·simp only [if_pos hp,Int.mul_one];omega
  ·have hx0:x=0:=by omega
   subst hx0;simp only [Int.mul_zero] at e ⊢;simp only [Int.lt_irrefl,if_false,Int.mul_zero]
   have hsq:S*q=0∨S*q≠0:=by omega
   have hr:r=0:=by
    have:S*q+r=0:=e
    rcases Int.lt_or_le q 0 with hq | hq
    ·have:S*q≤S*(-1):=Int.mul_le_mul_of_nonneg_left (by omega) (by omega)
     omega
    ·have:0≤S*q:=Int.mul_nonneg (by omega) hq
     omega
   omega
theorem hZl {n:Int} {ws:List Int} (hn:0≤n) (h:∀ x∈ws,0≤x) (hS:sumI ws≠0):0≤n-sumI (pZh n (sumI ws) ws)∧n-sumI (pZh n (sumI ws) ws)≤cntP ws:=by
 have h0:=kZ9 h
 have hS':0<sumI ws:=by omega
 obtain ⟨a1,a2⟩:=left_bd hn hS' h;have hc:=(bZo ws).1;generalize sumI (pZh n (sumI ws) ws)=B at *;generalize hs:sumI ws=S at *
 have e:n*S-S*B=S*(n-B):=by rw [Int.mul_sub,Int.mul_comm n S]
 rw [e] at a1 a2
 have e2:(S-1)*cntP ws=S*cntP ws-cntP ws:=by rw [Int.sub_mul,Int.one_mul]
 rw [e2] at a2;generalize cntP ws=C at *
 constructor
 ·rcases Int.lt_or_le (n-B) 0 with hq | hq
  ·have:S*(n-B)≤S*(-1):=Int.mul_le_mul_of_nonneg_left (by omega) (by omega)
   omega
  ·exact hq
 ·rcases Int.lt_or_le C (n-B) with hq | hq
  ·have:S*(C+1)≤S*(n-B):=Int.mul_le_mul_of_nonneg_left (by omega) (by omega)
   rw [Int.mul_add,Int.mul_one] at this;omega
  ·exact hq
theorem dZw {n S x:Int} (hn:0≤n) (hS:0<S) (h0:0≤x) (hx:x≤S):0≤n*x / S∧n*x / S≤n:=by
 refine ⟨Int.ediv_nonneg (Int.mul_nonneg hn h0) (by omega),?_⟩;have h1:n*x≤n*S:=Int.mul_le_mul_of_nonneg_left hx hn;have h2:=Int.ediv_le_ediv hS h1
 rwa [Int.mul_ediv_cancel _ (by omega)] at h2
theorem qZq:∀ {ws:List Int},(∀ x∈ws,0≤x)→∀ x∈ws,x≤sumI ws
 | [],_,x,hx=>by cases hx
 | y :: t,h,x,hx=>by
  have h1:=h y List.mem_cons_self;have h2:=kZ9 (L:=t) (fun q hq=>h q (List.mem_cons_of_mem _ hq));simp only [sumI]
  rcases List.mem_cons.1 hx with rfl | hx
  ·omega
  ·have:=qZq (ws:=t) (fun q hq=>h q (List.mem_cons_of_mem _ hq)) x hx
   omega
def wsOK (ws:List Int):Prop:=(∀ x∈ws,0≤x∧x≤5)∧1≤ws.length∧ws.length≤5
theorem wsOK.sum {ws:List Int} (h:wsOK ws):0≤sumI ws∧sumI ws≤25:=by
 have:=sZ0 h.1
 have:=h.2.2
 omega
theorem wsOK.smal {ws:List Int} (h:wsOK ws):Smal 1000000000000000 ws:=tZ2 (b:=5) (fun x hx=>by have:=h.1 x hx;omega) (by omega) (by have:=h.2.2;omega)
theorem wsOK.nn {ws:List Int} (h:wsOK ws):∀ x∈ws,0≤x:=fun x hx=>(h.1 x hx).1
theorem tZg {n S:Int} {ws:List Int} {k:Nat} {x:Int} (h:ws[k]?=some x):(pZh n S ws)[k]?=some (n*x / S):=by
 simp [pZh,h]
def mixM (B:List Int) (k:Nat):List Int:=B.take k ++ List.replicate (B.length-k) 0
theorem sZ7 (B:List Int):mixM B 0=List.replicate B.length 0:=by simp [mixM]
theorem uZd (B:List Int):mixM B B.length=B:=by simp [mixM]
theorem uZ5 {B:List Int} {k:Nat} {b:Int} (h:B[k]?=some b):(mixM B k).set k b=mixM B (k+1):=by
 obtain ⟨hk,e⟩:=List.getElem?_eq_some_iff.1 h;unfold mixM;rw [List.set_append_right _ _ (by rw [List.length_take];omega)]
 have h1:B.length-k=(B.length-(k+1))+1:=by omega
 rw [h1,List.replicate_succ]
 have h2:k-(B.take k).length=0:=by rw [List.length_take];omega
 rw [h2,List.set_cons_zero,List.take_succ_eq_append_getElem hk,e]
 simp
theorem uZk {B:List Int} {k:Nat} (hk:k<B.length):∃ x,(mixM B k)[k]?=some x:=by
 unfold mixM;rw [List.getElem?_append_right (by rw [List.length_take];omega)]
 have:k-(B.take k).length=0:=by rw [List.length_take];omega
 rw [this];exact ⟨0,by rw [List.getElem?_replicate,if_pos (by omega)]⟩
theorem mixM_get' {B:List Int} {k:Nat} {b:Int} (h:B[k]?=some b):(mixM B (k+1))[k]?=some b:=by
 obtain ⟨hk,e⟩:=List.getElem?_eq_some_iff.1 h;unfold mixM;rw [List.getElem?_append_left (by rw [List.length_take];omega),List.getElem?_take,if_pos (by omega),h]
theorem fZd {n:Int} {ws:List Int} (hn:0≤n) (hn2:n≤100000000000000) (h:wsOK ws) (hS:sumI ws≠0):Smal 1000000000000000 (pZh n (sumI ws) ws):=by
 refine tZ2 (b:=100000000000000) (fun x hx=>?_) (by omega) (by rw [sZ5];have:=h.2.2;omega);obtain ⟨y,hy,rfl⟩:=List.mem_map.1 hx;have h0:=h.sum
 have:=dZw (n:=n) (S:=sumI ws) (x:=y) hn (by omega) (h.nn y hy) (qZq h.nn y hy)
 omega
theorem hZ4 {n:Int} {ws:List Int} {j:Nat} (hj:ws.length=j+1) (h0:sumI ws=0):(List.replicate ws.length (0:Int)).set j n=jZt n ws:=by
 unfold jZt;rw [if_pos h0]
 congr 1
 omega
theorem bZd {n x:Int} (hn:0≤n) (hn2:n≤100000000000000) (h0:0≤x) (h5:x≤5):0≤n*x∧n*x≤500000000000000 :=
 ⟨Int.mul_nonneg hn h0,Int.le_trans (Int.mul_le_mul hn2 h5 h0 (by omega)) (by omega)⟩
theorem tZm {L:List Int} {k:Nat} {p:Int} (h:L[k]?=some p):L.drop k=p :: L.drop (k+1):=by
 have hk:=(List.getElem?_eq_some_iff.1 h).1;have e:=(List.getElem?_eq_some_iff.1 h).2;rw [List.drop_eq_getElem_cons hk,e]
theorem set_here {P R:List Int} {k:Nat} {y z:Int} (h:P.length=k):(P ++ y :: R).set k z=P ++ z :: R:=by
 rw [List.set_append_right _ _ (by omega)]
 have:k-P.length=0:=by omega
 rw [this,List.set_cons_zero]
theorem onesM_nil (m:Int) (ws:List Int):qZu m ws []=[]:=by cases ws <;> simp [qZu]
theorem sum_n (A:Option Addr) (c n:Nat) (L:List Int) (w:World) (h:NV w A L) (hn:n=L.length) (hL:n≤1048576) (hM:Smal 1000000000000000 L) :
  Calls Tryz.prog 216 #[.slice A n c] w fun e w'=>e=.returned (.int .i64 (sumI L))∧w=w':=by subst hn;exact sum_v A c L w h hL hM
theorem eZ5 (A:Option Addr) (c n:Nat) (L:List Int) (w:World) (h:NV w A L) (hn:n=L.length) (hL:n≤1048576) (hM:Smal 1000000000000000 L) :
  Calls Tryz.prog 151 #[.slice A n c] w fun e w'=>e=.returned (.int .i64 (sumI L))∧w=w':=by subst hn;exact total_v A c L w h hL hM
theorem hZ6 (A:Option Addr) (c:Nat) (n:Int) (ws:List Int) (w:World) (h:NV w A ws) (hw:wsOK ws) (hn:0≤n) (hn2:n≤100000000000000) :
  Calls Tryz.prog 225 #[.int .i64 n,.slice A ws.length c] w fun e w'=>e=.returned (.slice (some ⟨w.heap.size,0,none⟩) ws.length ws.length)∧IB w' w.heap.size (jZt n ws)∧Below w.heap.size w w':=by
 obtain ⟨hw1,hw2,hw3⟩:=id hw;obtain ⟨hs0,hs1⟩:=hw.sum
 have hmk:∀ w:World,(Instr.makeSlice 47 (.int .i64 (ws.length:Int)) (.int .i64 (ws.length:Int))).run Tryz.prog w=.ok (.slice (some ⟨w.heap.size,0,none⟩) ws.length ws.length) (w.alloc (.cells (pZn (List.replicate ws.length 0)) 3)):=fun w=>gZ2 ws.length w (by omega)
 have HW:=hD hw;have HW1:=hD hw1
 obtain ⟨j,hj⟩:∃ j,ws.length=j+1:=⟨ws.length-1,by omega⟩
 have HJ:=hD hj;clear hw1 hw hj
 go_enter Tryz.func225,Tryz.ntmps225
 go_wp2_with fail
 have hI0:=vZe ws.length w;have hB0:Below w.heap.size w (w.alloc (.cells (pZn (List.replicate ws.length 0)) 3)):=jZd (Below.refl _ _)
 obtain ⟨W,hWe⟩:∃ W,w.alloc (.cells (pZn (List.replicate ws.length 0)) 3)=W:=⟨_,rfl⟩
 rw [hWe] at hI0 hB0 ⊢;have HI:=hD hI0;have HB:=hD hB0;have HNW:=hD (h.keep hB0);clear hWe hI0 hB0 hmk
 with_reducible refine (sum_v A c ws _ HNW.out (by omega) HW.out.smal).mono ?_
 rintro e w1 ⟨rfl,rfl⟩
 by_cases hS:sumI ws=0
 ·have hz:(sumI ws == 0)=true:=by simpa using hS
  have hsp:=hZ4 (n:=n) (by rw [HJ.out]:ws.length=j+1) hS
  have e1:(ws.length:Int)-1=(j:Int):=by have:=HJ.out;omega
  have e2:IntKind.i64.wrap ((ws.length:Int)-1)=(j:Int):=by rw [e1];exact IntWalk.i64_in _ (by omega)
  have hjl:j<ws.length:=by have:=HJ.out;omega
  have c0:=HI.out.cell (i:=j) (x:=0) (by simp [hjl]);have f0:=HI.out.frozen j;have HF:=hD (show IB (W.setCell ⟨w.heap.size,j,none⟩ (.int .i64 n)) w.heap.size (jZt n ws) by have:=HI.out.set j n;rwa [hsp] at this);have HB2:=hD (HB.out.setCell (p:=⟨w.heap.size,j,none⟩) (Nat.le_refl _) (.int .i64 n));clear hS hsp HI HB;go_wp2;go_ret;exact ⟨rfl,HF.out,HB2.out⟩
 ·have hz:(sumI ws == 0)=false:=by simpa using hS
  obtain ⟨S,hSe⟩:∃ S,sumI ws=S:=⟨_,rfl⟩
  have hS1:0<S:=by omega
  have hS2:S≤25:=by omega
  have hbl:=sZ5 n S ws;have hmb:=hZl hn HW.out.nn hS;have hsm:=fZd hn hn2 HW.out hS
  have hsp:jZt n ws=qZu (n-sumI (pZh n S ws)) ws (pZh n S ws):=by unfold jZt;rw [if_neg hS,hSe]
  rw [hSe] at hz hmb hsm;have hcb:=bZo ws;have HSP:=hD hsp;have HMB:=hD hmb;have HSM:=hD hsm;have HSE:=hD hSe;have HBL:=hD hbl;rw [hSe]
  have hI0:IB W w.heap.size (mixM (pZh n S ws) 0):=by rw [sZ7,hbl];exact HI.out
  have HI0:=hD hI0
  have hcb2:cntP ws≤5:=by omega
  have hcb1:0≤cntP ws:=by omega
  clear hS hsp hmb hsm hbl hSe HI hI0 hs0 hs1 hcb
  go_wp2_with fail
  go_loopw [26] (fun i wr=>∃ k:Nat,k≤ws.length∧i=.int .i64 k∧IB wr w.heap.size (mixM (pZh n S ws) k)∧Below w.heap.size w wr) (fun i _=>ws.length-(intOf i).toNat)
  case atStart=>exact ⟨0,by omega,rfl,HI0.out,HB.out⟩
  case round =>
   obtain ⟨k,hk,rfl,hI,hBr⟩:=hrel;clear HI0
   by_cases hlt:k<ws.length
   ·have hd:decide ((k:Int)<(ws.length:Int))=true:=by simpa using hlt
    obtain ⟨b,off,rfl,hb,hp⟩:=(h.keep hBr).cells (by omega);have hget:ws[k]?=some ws[k]:=List.getElem?_eq_getElem hlt;have c0:=hp k _ hget;have hx01:=HW1.out _ (List.getElem_mem hlt);generalize hx:ws[k]=x at *;obtain ⟨hx0,hx1⟩:=hx01;obtain ⟨hm0,hm1⟩:=bZd hn hn2 hx0 hx1;have hbk:=tZg (n:=n) (S:=S) hget;obtain ⟨y,hy⟩:=uZk (B:=pZh n S ws) (k:=k) (by rw [HBL.out];exact hlt)
    have d0:=hI.cell hy;have f0:=hI.frozen k;have hI2:=hI.set k (n*x / S);rw [uZ5 hbk] at hI2;have HI2:=hD hI2;have HB2:=hD (hBr.setCell (p:=⟨w.heap.size,k,none⟩) (Nat.le_refl _) (.int .i64 (n*x / S)));clear hI hI2 hBr hp hget hx hy hbk;go_wp2
    go_roundw
    case rel=>exact ⟨k+1,by omega,by go_num,HI2.out,HB2.out⟩
    case measure=>simp [intOf];omega
   ·have hd:decide ((k:Int)<(ws.length:Int))=false:=by simp;omega
    obtain rfl:k=ws.length:=by omega
    rw [<- HBL.out,uZd] at hI;have HIB:=hD hI;have HBR:=hD hBr;clear hI hBr
    go_wp2_with fail
    with_reducible refine (sum_n _ ws.length ws.length (pZh n S ws) _ HIB.out.nv HBL.out.symm (by omega) HSM.out).mono ?_
    rintro e w2 ⟨rfl,rfl⟩
    obtain ⟨m,hm⟩:∃ m,n-sumI (pZh n S ws)=m:=⟨_,rfl⟩
    have hmb:=HMB.out;rw [hm] at hmb;obtain ⟨hm0,hm1⟩:=hmb
    have hmw:IntKind.i64.wrap (n-sumI (pZh n S ws))=m:=by rw [hm];exact IntWalk.i64_in _ (by omega)
    have hsp:=HSP.out;rw [hm] at hsp;have HSP2:=hD hsp
    have hcc:m≤5:=by omega
    clear HSP hsp HMB hm
    go_wp2_with fail
    go_loopw [8,47] (fun mv i wr=>∃ (k:Nat) (m':Int) (P:List Int),k≤ws.length∧i=.int .i64 k∧mv=.int .i64 m'∧P.length=k∧m'≤5∧IB wr w.heap.size (P ++ (pZh n S ws).drop k)∧P ++ qZu m' (ws.drop k) ((pZh n S ws).drop k)=jZt n ws∧Below w.heap.size w wr) (fun _ i _=>ws.length-(intOf i).toNat)
    case atStart=>exact ⟨0,m,[],by omega,rfl,rfl,rfl,hcc,by simpa using HIB.out,by simpa using HSP2.out.symm,HBR.out⟩
    case round =>
     obtain ⟨k,m',P,hk,rfl,rfl,hP,hm5,hI,hf,hBr⟩:=hrel;clear HIB HBR HSP2 hmw hm0 hm1 hcc
     by_cases hlt:k<ws.length
     ·have hd:decide ((k:Int)<(ws.length:Int))=true:=by simpa using hlt
      obtain ⟨b,off,rfl,hb,hp⟩:=(h.keep hBr).cells (by omega);have hget:ws[k]?=some ws[k]:=List.getElem?_eq_getElem hlt;have c0:=hp k _ hget;have hx01:=HW1.out _ (List.getElem_mem hlt);have hbk:=tZg (n:=n) (S:=S) hget;have hdw:=tZm hget;generalize hx:ws[k]=x at *;have hdb:=tZm hbk;obtain ⟨hx0,hx1⟩:=hx01
      have hbb:0≤n*x / S∧n*x / S≤500000000000000:=by
       obtain ⟨q0,q1⟩:=bZd hn hn2 hx0 hx1;exact ⟨Int.ediv_nonneg q0 (by omega),Int.le_trans (Int.ediv_le_self S q0) q1⟩
      generalize n*x / S=y at *;obtain ⟨hb0,hb1⟩:=hbb;rw [hdb] at hI hf;rw [hdw] at hf;have d0:=hI.cell (i:=k) (x:=y) (by rw [List.getElem?_append_right (by omega),hP,Nat.sub_self];rfl);have f0:=hI.frozen k;have HDW:=hD hdw
      by_cases hxp:0<x
      ·have e1:decide (x>0)=true:=by simpa using hxp
       have e1':decide (0<x)=true:=by simpa using hxp
       by_cases hmp:0<m'
       ·have e2:decide (m'>0)=true:=by simpa using hmp
        have e2':decide (0<m')=true:=by simpa using hmp
        rw [qZu,if_pos ⟨hxp,hmp⟩] at hf;have hI2:=hI.set k (y+1);rw [set_here hP] at hI2;have HI2:=hD hI2;have HF2:=hD hf;have HP:=hD hP;have HB2:=hD (hBr.setCell (p:=⟨w.heap.size,k,none⟩) (Nat.le_refl _) (.int .i64 (y+1)));have HXP:=hD hxp;have HMP:=hD hmp;clear hI hI2 hBr hp hget hx hbk hdb hdw hf hP hxp;go_wp2
        go_roundw
        case rel=>exact ⟨k+1,m'-1,P ++ [y+1],by omega,by go_num,rfl,by simp [HP.out],by omega,by simpa using HI2.out,by simpa using HF2.out,HB2.out⟩
        case measure=>simp [intOf];omega
       ·have e2:decide (m'>0)=false:=by simpa using hmp
        have e2':decide (0<m')=false:=by simpa using hmp
        rw [qZu,if_neg (by omega)] at hf;have HI2:=hD hI;have HF2:=hD hf;have HP:=hD hP;have HB2:=hD hBr;have HXP:=hD hxp;have HMP:=hD hmp;clear hI hBr hp hget hx hbk hdb hdw hf hP hxp hmp;go_wp2
        go_roundw
        case rel=>exact ⟨k+1,m',P ++ [y],by omega,by go_num,rfl,by simp [HP.out],by omega,by simpa using HI2.out,by simpa using HF2.out,HB2.out⟩
        case measure=>simp [intOf];omega
      ·have e1:decide (x>0)=false:=by simpa using hxp
       have e1':decide (0<x)=false:=by simpa using hxp
       rw [qZu,if_neg (by omega)] at hf;have HI2:=hD hI;have HF2:=hD hf;have HP:=hD hP;have HB2:=hD hBr;have HXP:=hD hxp;clear hI hBr hp hget hx hbk hdb hdw hf hP hxp;go_wp2
       go_roundw
       case rel=>exact ⟨k+1,m',P ++ [y],by omega,by go_num,rfl,by simp [HP.out],by omega,by simpa using HI2.out,by simpa using HF2.out,HB2.out⟩
       case measure=>simp [intOf];omega
     ·have hd:decide ((k:Int)<(ws.length:Int))=false:=by simp;omega
      have hk':k=ws.length:=by omega
      have hdb:(pZh n S ws).drop k=[]:=List.drop_eq_nil_of_le (by rw [HBL.out];omega);rw [hdb,onesM_nil,List.append_nil] at hf;rw [hdb,List.append_nil,hf] at hI;have HI2:=hD hI;have HB2:=hD hBr;clear hI hBr hf hdb hP;go_wp2;go_ret;exact ⟨rfl,HI2.out,HB2.out⟩
theorem sspread_v (A:Option Addr) (c:Nat) (n:Int) (ws:List Int) (w:World) (h:NV w A ws) (hw:wsOK ws) (hn:0≤n) (hn2:n≤100000000000000) :
  Calls Tryz.prog 176 #[.int .i64 n,.slice A ws.length c] w fun e w'=>e=.returned (.slice (some ⟨w.heap.size,0,none⟩) ws.length ws.length)∧IB w' w.heap.size (jZt n ws)∧Below w.heap.size w w':=by
 obtain ⟨hw1,hw2,hw3⟩:=id hw;obtain ⟨hs0,hs1⟩:=hw.sum
 have hmk:∀ w:World,(Instr.makeSlice 47 (.int .i64 (ws.length:Int)) (.int .i64 (ws.length:Int))).run Tryz.prog w=.ok (.slice (some ⟨w.heap.size,0,none⟩) ws.length ws.length) (w.alloc (.cells (pZn (List.replicate ws.length 0)) 3)):=fun w=>gZ2 ws.length w (by omega)
 have HW:=hD hw;have HW1:=hD hw1
 obtain ⟨j,hj⟩:∃ j,ws.length=j+1:=⟨ws.length-1,by omega⟩
 have HJ:=hD hj;clear hw1 hw hj
 go_enter Tryz.func176,Tryz.ntmps176
 go_wp2_with fail
 have hI0:=vZe ws.length w;have hB0:Below w.heap.size w (w.alloc (.cells (pZn (List.replicate ws.length 0)) 3)):=jZd (Below.refl _ _)
 obtain ⟨W,hWe⟩:∃ W,w.alloc (.cells (pZn (List.replicate ws.length 0)) 3)=W:=⟨_,rfl⟩
 rw [hWe] at hI0 hB0 ⊢;have HI:=hD hI0;have HB:=hD hB0;have HNW:=hD (h.keep hB0);clear hWe hI0 hB0 hmk
 with_reducible refine (total_v A c ws _ HNW.out (by omega) HW.out.smal).mono ?_
 rintro e w1 ⟨rfl,rfl⟩
 by_cases hS:sumI ws=0
 ·have hz:(sumI ws == 0)=true:=by simpa using hS
  have hsp:=hZ4 (n:=n) (by rw [HJ.out]:ws.length=j+1) hS
  have e1:(ws.length:Int)-1=(j:Int):=by have:=HJ.out;omega
  have e2:IntKind.i64.wrap ((ws.length:Int)-1)=(j:Int):=by rw [e1];exact IntWalk.i64_in _ (by omega)
  have hjl:j<ws.length:=by have:=HJ.out;omega
  have hg0:decide ((ws.length:Int)>0)=true:=by simp;omega
  have c0:=HI.out.cell (i:=j) (x:=0) (by simp [hjl]);have f0:=HI.out.frozen j;have HF:=hD (show IB (W.setCell ⟨w.heap.size,j,none⟩ (.int .i64 n)) w.heap.size (jZt n ws) by have:=HI.out.set j n;rwa [hsp] at this);have HB2:=hD (HB.out.setCell (p:=⟨w.heap.size,j,none⟩) (Nat.le_refl _) (.int .i64 n));clear hS hsp HI HB;go_wp2;go_ret;exact ⟨rfl,HF.out,HB2.out⟩
 ·have hz:(sumI ws == 0)=false:=by simpa using hS
  obtain ⟨S,hSe⟩:∃ S,sumI ws=S:=⟨_,rfl⟩
  have hS1:0<S:=by omega
  have hS2:S≤25:=by omega
  have hbl:=sZ5 n S ws;have hmb:=hZl hn HW.out.nn hS;have hsm:=fZd hn hn2 HW.out hS
  have hsp:jZt n ws=qZu (n-sumI (pZh n S ws)) ws (pZh n S ws):=by unfold jZt;rw [if_neg hS,hSe]
  rw [hSe] at hz hmb hsm;have hcb:=bZo ws;have HSP:=hD hsp;have HMB:=hD hmb;have HSM:=hD hsm;have HSE:=hD hSe;have HBL:=hD hbl;rw [hSe]
  have hI0:IB W w.heap.size (mixM (pZh n S ws) 0):=by rw [sZ7,hbl];exact HI.out
  have HI0:=hD hI0
  have hcb2:cntP ws≤5:=by omega
  have hcb1:0≤cntP ws:=by omega
  clear hS hsp hmb hsm hbl hSe HI hI0 hs0 hs1 hcb
  go_wp2_with fail
  have hsb:∀ k,k≤ws.length→-500000000000000≤sumI ((pZh n S ws).take k)∧sumI ((pZh n S ws).take k)≤500000000000000:=fun k hk=>by
   have:=sZ0 (lo:=0) (hi:=100000000000000) (L:=(pZh n S ws).take k) (fun y hy=>by
    obtain ⟨x,hx,rfl⟩:=List.mem_map.1 (List.mem_of_mem_take hy);have h1:=qZq HW.out.nn x hx;rw [HSE.out] at h1
    have:=dZw (n:=n) (S:=S) (x:=x) hn hS1 (HW.out.nn x hx) h1
    omega)
   have h2:((pZh n S ws).take k).length≤5:=by rw [List.length_take,HBL.out];omega
   omega
  have HSB:=hD hsb;clear hsb
  go_loopw [7,8] (fun lv i wr=>∃ k:Nat,k≤ws.length∧i=.int .i64 k∧lv=.int .i64 (n-sumI ((pZh n S ws).take k))∧IB wr w.heap.size (mixM (pZh n S ws) k)∧Below w.heap.size w wr) (fun _ i _=>ws.length-(intOf i).toNat)
  case atStart=>exact ⟨0,by omega,rfl,by simp [sumI],HI0.out,HB.out⟩
  case round =>
   obtain ⟨k,hk,rfl,rfl,hI,hBr⟩:=hrel;clear HI0
   by_cases hlt:k<ws.length
   ·have hd:decide ((k:Int)<(ws.length:Int))=true:=by simpa using hlt
    obtain ⟨b,off,rfl,hb,hp⟩:=(h.keep hBr).cells (by omega);have hget:ws[k]?=some ws[k]:=List.getElem?_eq_getElem hlt;have c0:=hp k _ hget;have hx01:=HW1.out _ (List.getElem_mem hlt);generalize hx:ws[k]=x at *;obtain ⟨hx0,hx1⟩:=hx01;obtain ⟨hm0,hm1⟩:=bZd hn hn2 hx0 hx1;have hbk:=tZg (n:=n) (S:=S) hget;obtain ⟨y,hy⟩:=uZk (B:=pZh n S ws) (k:=k) (by rw [HBL.out];exact hlt)
    have d0:=hI.cell hy;have f0:=hI.frozen k;have hI2:=hI.set k (n*x / S);rw [uZ5 hbk] at hI2;have e0:=hI2.cell (mixM_get' hbk);have hsn:=uZn hbk;have b1:=HSB.out k hk;have b2:=HSB.out (k+1) (by omega);rw [hsn] at b2;have HI2:=hD hI2;have HB2:=hD (hBr.setCell (p:=⟨w.heap.size,k,none⟩) (Nat.le_refl _) (.int .i64 (n*x / S)))
    obtain ⟨q,hq⟩:∃ q,sumI ((pZh n S ws).take k)=q:=⟨_,rfl⟩
    rw [hq] at b1 b2 hsn;rw [hq];have HSN:=hD hsn
    have hbb:0≤n*x / S∧n*x / S≤500000000000000:=⟨Int.ediv_nonneg hm0 (by omega),Int.le_trans (Int.ediv_le_self S hm0) hm1⟩
    obtain ⟨hbb0,hbb1⟩:=hbb;clear hI hI2 hBr hp hget hx hy hbk hsn hq;go_wp2
    go_roundw
    case rel=>exact ⟨k+1,by omega,by go_num,by rw [HSN.out];go_num,HI2.out,HB2.out⟩
    case measure=>simp [intOf];omega
   ·have hd:decide ((k:Int)<(ws.length:Int))=false:=by simp;omega
    obtain rfl:k=ws.length:=by omega
    have htl:(pZh n S ws).take ws.length=pZh n S ws:=List.take_of_length_le (by rw [HBL.out];omega);rw [htl];rw [<- HBL.out,uZd] at hI;have HIB:=hD hI;have HBR:=hD hBr;clear hI hBr htl
    obtain ⟨m,hm⟩:∃ m,n-sumI (pZh n S ws)=m:=⟨_,rfl⟩
    have hmb:=HMB.out;rw [hm] at hmb;obtain ⟨hm0,hm1⟩:=hmb;have hsp:=HSP.out;rw [hm] at hsp;have HSP2:=hD hsp
    have hcc:m≤5:=by omega
    rw [hm];clear HSP hsp HMB hm
    go_wp2_with fail
    go_loopw [7,9] (fun mv i wr=>∃ (k:Nat) (m':Int) (P:List Int),k≤ws.length∧i=.int .i64 k∧mv=.int .i64 m'∧P.length=k∧m'≤5∧m'≤cntP (ws.drop k)∧IB wr w.heap.size (P ++ (pZh n S ws).drop k)∧P ++ qZu m' (ws.drop k) ((pZh n S ws).drop k)=jZt n ws∧Below w.heap.size w wr) (fun _ i _=>ws.length-(intOf i).toNat)
    case atStart=>exact ⟨0,m,[],by omega,rfl,rfl,rfl,hcc,by simpa using hm1,by simpa using HIB.out,by simpa using HSP2.out.symm,HBR.out⟩
    case round =>
     obtain ⟨k,m',P,hk,rfl,rfl,hP,hm5,hmc,hI,hf,hBr⟩:=hrel;clear HIB HBR HSP2 hm0 hm1 hcc
     by_cases hmp:0<m'
     ·have hlt:k<ws.length:=by
       rcases Nat.lt_or_ge k ws.length with h1 | h1
       ·exact h1
       ·rw [List.drop_eq_nil_of_le h1] at hmc;simp [cntP] at hmc;omega
      have e2:decide (m'>0)=true:=by simpa using hmp
      have e2':decide (0<m')=true:=by simpa using hmp
      obtain ⟨b,off,rfl,hb,hp⟩:=(h.keep hBr).cells (by omega);have hget:ws[k]?=some ws[k]:=List.getElem?_eq_getElem hlt;have c0:=hp k _ hget;have hx01:=HW1.out _ (List.getElem_mem hlt);have hbk:=tZg (n:=n) (S:=S) hget;have hdw:=tZm hget;generalize hx:ws[k]=x at *;have hdb:=tZm hbk;obtain ⟨hx0,hx1⟩:=hx01
      have hbb:0≤n*x / S∧n*x / S≤500000000000000:=by
       obtain ⟨q0,q1⟩:=bZd hn hn2 hx0 hx1;exact ⟨Int.ediv_nonneg q0 (by omega),Int.le_trans (Int.ediv_le_self S q0) q1⟩
      generalize n*x / S=y at *;obtain ⟨hb0,hb1⟩:=hbb;rw [hdb] at hI hf;rw [hdw] at hf hmc;have d0:=hI.cell (i:=k) (x:=y) (by rw [List.getElem?_append_right (by omega),hP,Nat.sub_self];rfl);have f0:=hI.frozen k;simp only [cntP] at hmc
      by_cases hxp:0<x
      ·have e1:decide (x>0)=true:=by simpa using hxp
       have e1':decide (0<x)=true:=by simpa using hxp
       rw [if_pos hxp] at hmc;rw [qZu,if_pos ⟨hxp,hmp⟩] at hf;have hI2:=hI.set k (y+1);rw [set_here hP] at hI2;have HI2:=hD hI2;have HF2:=hD hf;have HP:=hD hP;have HB2:=hD (hBr.setCell (p:=⟨w.heap.size,k,none⟩) (Nat.le_refl _) (.int .i64 (y+1)));have HXP:=hD hxp;have HMC:=hD hmc;clear hI hI2 hBr hp hget hx hbk hdb hdw hf hP hxp hmc;go_wp2
       go_roundw
       case rel=>exact ⟨k+1,m'-1,P ++ [y+1],by omega,by go_num,rfl,by simp [HP.out],by omega,by have:=HMC.out;omega,by simpa using HI2.out,by simpa using HF2.out,HB2.out⟩
       case measure=>simp [intOf];omega
      ·have e1:decide (x>0)=false:=by simpa using hxp
       have e1':decide (0<x)=false:=by simpa using hxp
       rw [if_neg hxp] at hmc;rw [qZu,if_neg (by omega)] at hf;have HI2:=hD hI;have HF2:=hD hf;have HP:=hD hP;have HB2:=hD hBr;have HXP:=hD hxp;have HMC:=hD hmc;have HMP:=hD hmp;clear hI hBr hp hget hx hbk hdb hdw hf hP hxp hmc hmp;go_wp2
       go_roundw
       case rel=>exact ⟨k+1,m',P ++ [y],by omega,by go_num,rfl,by simp [HP.out],by omega,by have:=HMC.out;omega,by simpa using HI2.out,by simpa using HF2.out,HB2.out⟩
       case measure=>simp [intOf];omega
     ·have e2:decide (m'>0)=false:=by simpa using hmp
      have e2':decide (0<m')=false:=by simpa using hmp
      rw [cZ7 (by omega)] at hf;rw [hf] at hI;have HI2:=hD hI;have HB2:=hD hBr;clear hI hBr hf hP hmc;go_wp2;go_ret;exact ⟨rfl,HI2.out,HB2.out⟩
def wB (x:Int):Bool:=rng x 0 5
theorem kZu (n a b:Int) (t:Bool) (w:World) (h:rng n a b=t):Calls Tryz.prog 94 #[.int .i64 n,.int .i64 a,.int .i64 b] w fun e w'=>e=.returned (.bool t)∧w=w':=by rw [<- h];exact pZe n a b w
theorem jZh (n a b:Int) (t:Bool) (w:World) (h:rng n a b=t):Calls Tryz.prog 79 #[.int .i64 n,.int .i64 a,.int .i64 b] w fun e w'=>e=.returned (.bool t)∧w=w':=by rw [<- h];exact kZ3 n a b w
theorem fZ0 (n:Int) (t:Bool) (w:World) (h:wB n=t):Calls Tryz.prog 79 #[.int .i64 n,.int .i64 0,.int .i64 5] w fun e w'=>e=.returned (.bool t)∧w=w':=jZh n 0 5 t w h
theorem uZm (n:Int) (t:Bool) (w:World) (h:wB n=t):Calls Tryz.prog 184 #[.int .i64 n] w fun e w'=>e=.returned (.bool t)∧w=w':=by
 go_enter Tryz.func184,Tryz.ntmps184
 go_wp2_with (go_at_call 94;refine (kZu _ _ _ t _ h).mono ?_;rintro e w' ⟨rfl,rfl⟩)
 go_ret;exact ⟨rfl,rfl⟩
def tZs (l:Ln):Bool:=wB l.wt&&rng l.mi 0 30
def kZd (L:List Ln):Bool:=rng L.length 1 5&&L.all tZs
def runB (a m n:Int):Bool:=rng a 0 (n-1)&&rng m 1 (n-a)
theorem fZz {α:Type} {f:α→Bool} {L:List α} {k:Nat} {p:α} (h:L[k]?=some p):(L.take (k+1)).all f=((L.take k).all f&&f p):=by
 have hk:k<L.length:=(List.getElem?_eq_some_iff.1 h).1;have e:L[k]=p:=(List.getElem?_eq_some_iff.1 h).2;rw [List.take_succ_eq_append_getElem hk,e]
 simp
theorem rZk {α:Type} {f:α→Bool} {L:List α} {k:Nat} {p:α} (h:L[k]?=some p) (hp:f p=false):L.all f=false:=by
 rw [Bool.eq_false_iff];intro hh;have h1:=List.all_eq_true.1 hh p (List.mem_of_getElem? h);rw [hp] at h1
 cases h1
theorem bZ6 (l:Ln) (b:Bool) (w:World) (hb:tZs l=b):Calls Tryz.prog 179 #[.agg #[.int .i64 l.wt,.int .i64 l.mi]] w fun e w'=>e=.returned (.bool b)∧Below w.heap.size w w':=by
 cases h1:wB l.wt
 ·have hbf:b=false:=by rw [<- hb];simp [tZs,h1]
  subst hbf
  go_enter Tryz.func179,Tryz.ntmps179
  go_wp2_with fail
  with_reducible refine (uZm _ false _ h1).mono ?_
  rintro e w1 ⟨rfl,rfl⟩;go_wp2;go_ret;exact ⟨rfl,jZd (Below.refl _ _)⟩
 ·have h2:rng l.mi 0 30=b:=by rw [<- hb];simp [tZs,h1]
  cases b
  all_goals
   go_enter Tryz.func179,Tryz.ntmps179
   go_wp2_with fail
   with_reducible refine (uZm _ true _ h1).mono ?_
   rintro e w1 ⟨rfl,rfl⟩
   go_wp2_with fail
   with_reducible refine (kZu _ 0 30 _ _ h2).mono ?_
   rintro e w1 ⟨rfl,rfl⟩;go_wp2;go_ret;exact ⟨rfl,jZd (Below.refl _ _)⟩
theorem allOfLn_v (A:Option Addr) (c:Nat) (L:List Ln) (b:Bool) (w:World) (h:LnV w A L) (hL:L.length≤1048576) (hb0:L.all tZs=b) :
  Calls Tryz.prog 178 #[.slice A L.length c,.func (.func 179) #[] #[]] w fun e w'=>e=.returned (.bool b)∧Below w.heap.size w w':=by
 have HB0:=hD hb0;clear hb0
 go_enter Tryz.func178,Tryz.ntmps178
 go_wp2_with fail
 go_loopw [9] (fun i wr=>∃ k:Nat,k≤L.length∧i=.int .i64 k∧(L.take k).all tZs=true∧Below w.heap.size w wr) (fun i _=>L.length-(intOf i).toNat)
 case atStart=>exact ⟨0,by omega,rfl,rfl,Below.refl _ _⟩
 case round =>
  obtain ⟨k,hk,rfl,hok,hB⟩:=hrel
  by_cases hlt:k<L.length
  ·have hd:decide ((k:Int)<(L.length:Int))=true:=by simpa using hlt
   obtain ⟨b',off,rfl,hb',hp⟩:=(h.keep hB).cells (by omega);have hget:L[k]?=some L[k]:=List.getElem?_eq_getElem hlt;obtain ⟨c0,c1⟩:=hp k _ hget;generalize hx:L[k]=p at *;have HG:=hD hget;have HX:=hD hx;have HO:=hD hok;have HBB:=hD hB;clear hget hx hok hB hp
   cases hv:tZs p
   all_goals
    have Hv:=hD hv;clear hv
    go_wp2_with fail
    first|(with_reducible refine (bZ6 p false _ Hv.out).mono ?_)|(with_reducible refine (bZ6 p true _ Hv.out).mono ?_)
    rintro e w1 ⟨rfl,hb1⟩;replace HBB:=hD (jZa (jZd HBB.out) hb1);clear hb1 c0 c1;go_wp2
   ·go_ret;exact ⟨jZ8 (by rw [<- HB0.out];exact (rZk HG.out Hv.out).symm),HBB.out⟩
   ·go_roundw
    case rel=>exact ⟨k+1,by omega,by go_num,by rw [fZz HG.out,HO.out,Hv.out];rfl,HBB.out⟩
    case measure=>simp [intOf];omega
  ·have hd:decide ((k:Int)<(L.length:Int))=false:=decide_eq_false (by omega);have he:L.take k=L:=List.take_of_length_le (by omega);rw [he] at hok;have HO:=hD hok;have HBB:=hD hB;clear hok hB he;go_wp2;go_ret;exact ⟨jZ8 (by rw [<- HB0.out,HO.out]),HBB.out⟩
theorem sZ2 (A:Option Addr) (c:Nat) (L:List Ln) (b:Bool) (w:World) (h:LnV w A L) (hL:L.length≤1048576) (hb:kZd L=b) :
  Calls Tryz.prog 158 #[.slice A L.length c] w fun e w'=>e=.returned (.bool b)∧Below w.heap.size w w':=by
 cases h1:rng (L.length:Int) 1 5
 ·have hbf:b=false:=by rw [<- hb];simp [kZd,h1]
  subst hbf
  go_enter Tryz.func158,Tryz.ntmps158
  go_wp2_with fail
  with_reducible refine (kZu _ 1 5 false _ h1).mono ?_
  rintro e w1 ⟨rfl,rfl⟩;go_wp2;go_ret;exact ⟨rfl,Below.refl _ _⟩
 ·have h2:L.all tZs=b:=by rw [<- hb];simp [kZd,h1]
  cases b
  all_goals
   go_enter Tryz.func158,Tryz.ntmps158
   go_wp2_with fail
   with_reducible refine (kZu _ 1 5 true _ h1).mono ?_
   rintro e w1 ⟨rfl,rfl⟩
   go_wp2_with fail
   with_reducible refine (allOfLn_v A c L _ _ h hL h2).mono ?_
   rintro e w1 ⟨rfl,hb1⟩;have HB:=hD hb1;clear hb1;go_wp2;go_ret;exact ⟨rfl,HB.out⟩
theorem pZx (a m n:Int) (b:Bool) (w:World) (hn:1≤n) (hn5:n≤5) (hb:runB a m n=b):Calls Tryz.prog 164 #[.int .i64 a,.int .i64 m,.int .i64 n] w fun e w'=>e=.returned (.bool b)∧w=w':=by
 cases h1:rng a 0 (n-1)
 ·have hbf:b=false:=by rw [<- hb];simp [runB,h1]
  subst hbf
  go_enter Tryz.func164,Tryz.ntmps164
  go_wp2_with fail
  with_reducible refine (kZu _ 0 (n-1) false _ h1).mono ?_
  rintro e w1 ⟨rfl,rfl⟩;go_wp2;go_ret;exact ⟨rfl,rfl⟩
 ·have h2:rng m 1 (n-a)=b:=by rw [<- hb];simp [runB,h1]
  have ha:=pZa.1 h1
  cases b
  all_goals
   go_enter Tryz.func164,Tryz.ntmps164
   go_wp2_with fail
   with_reducible refine (kZu _ 0 (n-1) true _ h1).mono ?_
   rintro e w1 ⟨rfl,rfl⟩
   go_wp2_with fail
   with_reducible refine (kZu _ 1 (n-a) _ _ h2).mono ?_
   rintro e w1 ⟨rfl,rfl⟩;go_wp2;go_ret;exact ⟨rfl,rfl⟩
theorem vZ0 (l:Ln) (b:Bool) (w:World) (hb:tZs l=b):Calls Tryz.prog 168 #[.agg #[.int .i64 l.wt,.int .i64 l.mi]] w fun e w'=>e=.returned (.bool b)∧Below w.heap.size w w':=by
 cases h1:wB l.wt
 ·have hbf:b=false:=by rw [<- hb];simp [tZs,h1]
  subst hbf
  go_enter Tryz.func168,Tryz.ntmps168
  go_wp2_with fail
  with_reducible refine (fZ0 _ false _ h1).mono ?_
  rintro e w1 ⟨rfl,rfl⟩;go_wp2;go_ret;exact ⟨rfl,jZd (Below.refl _ _)⟩
 ·have h2:rng l.mi 0 30=b:=by rw [<- hb];simp [tZs,h1]
  cases b
  all_goals
   go_enter Tryz.func168,Tryz.ntmps168
   go_wp2_with fail
   with_reducible refine (fZ0 _ true _ h1).mono ?_
   rintro e w1 ⟨rfl,rfl⟩
   go_wp2_with fail
   with_reducible refine (jZh _ 0 30 _ _ h2).mono ?_
   rintro e w1 ⟨rfl,rfl⟩;go_wp2;go_ret;exact ⟨rfl,jZd (Below.refl _ _)⟩
theorem qZv (A:Option Addr) (c:Nat) (L:List Ln) (b:Bool) (w:World) (h:LnV w A L) (hL:L.length≤1048576) (hb0:kZd L=b) :
  Calls Tryz.prog 138 #[.slice A L.length c] w fun e w'=>e=.returned (.bool b)∧Below w.heap.size w w':=by
 have HB0:=hD hb0;clear hb0
 go_enter Tryz.func138,Tryz.ntmps138
 go_wp2_with fail
 go_loopw [3] (fun i wr=>∃ k:Nat,k≤L.length∧i=.int .i64 k∧(L.take k).all tZs=true∧Below w.heap.size w wr) (fun i _=>L.length-(intOf i).toNat)
 case atStart=>exact ⟨0,by omega,rfl,rfl,Below.refl _ _⟩
 case round =>
  obtain ⟨k,hk,rfl,hok,hB⟩:=hrel
  by_cases hlt:k<L.length
  ·have hd:decide ((k:Int)<(L.length:Int))=true:=by simpa using hlt
   obtain ⟨b',off,rfl,hb',hp⟩:=(h.keep hB).cells (by omega);have hget:L[k]?=some L[k]:=List.getElem?_eq_getElem hlt;obtain ⟨c0,c1⟩:=hp k _ hget;generalize hx:L[k]=p at *;have HG:=hD hget;have HX:=hD hx;have HO:=hD hok;have HBB:=hD hB;clear hget hx hok hB hp
   cases hv:tZs p
   all_goals
    have Hv:=hD hv;clear hv
    go_wp2_with fail
    first|(with_reducible refine (vZ0 p false _ Hv.out).mono ?_)|(with_reducible refine (vZ0 p true _ Hv.out).mono ?_)
    rintro e w1 ⟨rfl,hb1⟩;replace HBB:=hD (jZa HBB.out hb1);clear hb1 c0 c1;go_wp2
   ·go_ret;exact ⟨jZ8 (by rw [<- HB0.out];simp [kZd,rZk HG.out Hv.out]),HBB.out⟩
   ·go_roundw
    case rel=>exact ⟨k+1,by omega,by go_num,by rw [fZz HG.out,HO.out,Hv.out];rfl,HBB.out⟩
    case measure=>simp [intOf];omega
  ·have hd:decide ((k:Int)<(L.length:Int))=false:=decide_eq_false (by omega);have he:L.take k=L:=List.take_of_length_le (by omega);rw [he] at hok
   have h1:rng (L.length:Int) 1 5=b:=by rw [<- HB0.out];simp [kZd,hok]
   have HBB:=hD hB;have H1:=hD h1;clear hok hB he h1
   go_wp2_with fail
   with_reducible refine (jZh _ 1 5 b _ H1.out).mono ?_
   rintro e w1 ⟨rfl,rfl⟩;go_wp2;go_ret;exact ⟨rfl,HBB.out⟩
def addP:List Int→List Int→List Int
 | o :: os,p :: ps=>(o+p) :: addP os ps
 | os,_=>os
theorem eZl (O:List Int):addP O []=O:=by cases O <;> rfl
theorem hZ0:∀ (O P:List Int),(addP O P).length=O.length
 | [],P=>by simp [addP]
 | o :: os,[]=>rfl
 | o :: os,p :: ps=>by simp [addP,hZ0 os ps]
theorem addP_get:∀ {O P:List Int} {i:Nat} {o:Int},O[i]?=some o→P.length≤i→(addP O P)[i]?=some o
 | [],P,i,o,h,_=>by simp at h
 | x :: os,[],i,o,h,_=>h
 | x :: os,p :: ps,0,o,h,hl=>by simp at hl
 | x :: os,p :: ps,i+1,o,h,hl=>by
  simp at h hl
  simpa [addP] using addP_get h hl
theorem gZh:∀ {O P:List Int} {i:Nat} {o p:Int},O[i]?=some o→P[i]?=some p→(addP O (P.take i)).set i (o+p)=addP O (P.take (i+1))
 | [],P,i,o,p,h,_=>by simp at h
 | x :: os,[],i,o,p,_,h=>by simp at h
 | x :: os,q :: ps,0,o,p,h,hp=>by
  simp at h hp
  subst h hp
  simp [addP,eZl]
 | x :: os,q :: ps,i+1,o,p,h,hp=>by
  simp at h hp
  simp [addP,gZh h hp]
def qZg (O:List Int) (k:Nat) (P:List Int):List Int:=O.take k ++ addP (O.drop k) P
theorem uZ6 (O:List Int) (k:Nat) (P:List Int):(qZg O k P).length=O.length:=by
 unfold qZg;rw [List.length_append,hZ0,List.length_take,List.length_drop];omega
theorem bZq (O:List Int) (k:Nat):qZg O k []=O:=by simp [qZg,eZl]
theorem cZh {O P:List Int} {k i:Nat} {o:Int} (h:O[k+i]?=some o) (hl:P.length≤i):(qZg O k P)[k+i]?=some o:=by
 have hk:=(List.getElem?_eq_some_iff.1 h).1
 have e:(O.take k).length=k:=by rw [List.length_take];omega
 unfold qZg;rw [List.getElem?_append_right (by omega),e,Nat.add_sub_cancel_left];exact addP_get (by rw [List.getElem?_drop];exact h) hl
theorem vZn {O P:List Int} {k i:Nat} {o p:Int} (h:O[k+i]?=some o) (hp:P[i]?=some p):(qZg O k (P.take i)).set (k+i) (o+p)=qZg O k (P.take (i+1)):=by
 have hk:=(List.getElem?_eq_some_iff.1 h).1
 have e:(O.take k).length=k:=by rw [List.length_take];omega
 unfold qZg;rw [List.set_append_right _ _ (by omega),e,Nat.add_sub_cancel_left,gZh (by rw [List.getElem?_drop];exact h) hp]
theorem tZ6 {w w':World} {g:Nat} (h:w.grownBy w' (some g)) (o:Nat) (v:Value):w.grownBy (w'.setCell ⟨g,o,none⟩ v) (some g) :=
 ⟨h.os,h.tape,h.output,by simpa [World.setCell] using h.size,fun k hk hne=>(Below.heap_setCell w' ⟨g,o,none⟩ v k (by rintro rfl;exact hne rfl)).trans (h.block k hk hne)⟩
theorem tZy (w:World) (g:Nat):w.grownBy w (some g):=⟨rfl,rfl,rfl,Nat.le_refl _,fun _ _ _=>rfl⟩
def NR (w:World) (v:Value) (L:List Int):Prop:=∃ A c,v=.slice A L.length c∧NV w A L
theorem IB.but {w w':World} {g h:Nat} {L:List Int} (hi:IB w h L) (hg:w.grownBy w' (some g)) (hne:h≠g):IB w' h L:=(hg.block h hi.lt (fun e=>hne (Option.some.inj e))).trans hi
theorem bZn:∀ {m:Int} {ws bs:List Int} {k:Nat} {x b:Int},ws[k]?=some x→bs[k]?=some b→∃ y,(qZu m ws bs)[k]?=some y∧(y=b∨(y=b+1∧0<x))
 | m,[],bs,k,x,b,hx,_=>by simp at hx
 | m,z :: ws,[],k,x,b,_,hb=>by simp at hb
 | m,z :: ws,c :: bs,0,x,b,hx,hb=>by
  simp at hx hb
  subst hx hb;unfold qZu
  split
  ·rename_i h;exact ⟨_,rfl,.inr ⟨rfl,h.1⟩⟩
  ·exact ⟨_,rfl,.inl rfl⟩
 | m,z :: ws,c :: bs,k+1,x,b,hx,hb=>by
  simp at hx hb
  unfold qZu
  split
  ·simpa using bZn (m:=m-1) hx hb
  ·simpa using bZn (m:=m) hx hb
theorem vZ7:∀ {m:Int} {ws bs:List Int},ws.length=bs.length→0≤m→m≤cntP ws→sumI (qZu m ws bs)=sumI bs+m
 | m,[],[],_,h0,h1=>by simp [cntP] at h1;simp [qZu,sumI];omega
 | m,[],b :: bs,h,_,_=>by simp at h
 | m,x :: ws,[],h,_,_=>by simp at h
 | m,x :: ws,b :: bs,h,h0,h1=>by
  have hl:ws.length=bs.length:=by simpa using h
  simp only [cntP] at h1;have hc:=(bZo ws).1;unfold qZu
  split
  ·rename_i hp
   rw [if_pos hp.1] at h1;have ih:=vZ7 (m:=m-1) hl (by omega) (by omega);simp only [sumI,ih];omega
  ·rename_i hp
   by_cases hx:0<x
   ·have hm:m=0:=by
     by_cases hm:0<m
     ·exact absurd ⟨hx,hm⟩ hp
     ·omega
    subst hm;have ih:=vZ7 (m:=0) hl (by omega) hc;simp only [sumI,ih];omega
   ·rw [if_neg hx] at h1;have ih:=vZ7 (m:=m) hl h0 (by omega);simp only [sumI,ih];omega
theorem uZ7:∀ k:Nat,sumI (List.replicate k 0)=0
 | 0=>rfl
 | k+1=>by rw [List.replicate_succ];simp [sumI,uZ7 k]
theorem tZj {n:Int} {ws:List Int} (hn:0≤n) (h:wsOK ws):sumI (jZt n ws)=n:=by
 unfold jZt
 split
 ·obtain ⟨j,hj⟩:∃ j,ws.length=j+1:=⟨ws.length-1,by have:=h.2.1;omega⟩
  have e:ws.length-1=j:=by omega
  rw [e,hj,List.replicate_succ',List.set_append_right _ _ (by simp)]
  simp [qZc,uZ7,sumI]
 ·rename_i hS
  obtain ⟨m0,m1⟩:=hZl hn h.nn hS;rw [vZ7 (by rw [sZ5]) m0 m1];omega
theorem rZ6 {n:Int} {ws:List Int} {k:Nat} {x:Int} (hn:0≤n) (h:wsOK ws) (hx:ws[k]?=some x):∃ y,(jZt n ws)[k]?=some y∧0≤y∧y≤n ∧
  (0<sumI ws→(x=0→y=0)∧y*sumI ws≤n*x+sumI ws∧n*x-sumI ws≤y*sumI ws):=by
 obtain ⟨hk,e⟩:=List.getElem?_eq_some_iff.1 hx;have hxm:x∈ws:=List.mem_of_getElem? hx;have hx0:=h.nn x hxm;have hxs:=qZq h.nn x hxm;have hs0:=h.sum
 by_cases hS:sumI ws=0
 ·have hl:=kZ5 (n:=n) (ws:=ws);refine ⟨(jZt n ws)[k]'(by omega),List.getElem?_eq_getElem (by omega),?_,?_,fun h0=>by omega⟩
  ·have e1:(jZt n ws)=(List.replicate ws.length 0).set (ws.length-1) n:=by unfold jZt;rw [if_pos hS]
   simp only [e1,List.getElem_set,List.getElem_replicate]
   split <;> omega
  ·have e1:(jZt n ws)=(List.replicate ws.length 0).set (ws.length-1) n:=by unfold jZt;rw [if_pos hS]
   simp only [e1,List.getElem_set,List.getElem_replicate]
   split <;> omega
 ·have hSp:0<sumI ws:=by omega
  have hsum:=tZj hn h;have hb:=tZg (n:=n) (S:=sumI ws) hx;obtain ⟨b0,b1⟩:=dZw hn hSp hx0 hxs;obtain ⟨y,hy,hyb⟩:=bZn (m:=n-sumI (pZh n (sumI ws) ws)) hx hb
  have e1:jZt n ws=qZu (n-sumI (pZh n (sumI ws) ws)) ws (pZh n (sumI ws) ws):=by unfold jZt;rw [if_neg hS]
  rw [<- e1] at hy
  have hnn:∀ z∈jZt n ws,0≤z:=fun z hz=>by
   obtain ⟨i,hi,ez⟩:=List.mem_iff_getElem.1 hz;have hl:=kZ5 (n:=n) (ws:=ws)
   have hi':i<ws.length:=by omega
   have hxi:=List.getElem?_eq_getElem hi';obtain ⟨y',hy',hyb'⟩:=bZn (m:=n-sumI (pZh n (sumI ws) ws)) hxi (tZg (n:=n) (S:=sumI ws) hxi);rw [<- e1,List.getElem?_eq_getElem hi,ez] at hy';obtain rfl:=Option.some.inj hy'
   have:=(dZw hn hSp (h.nn _ (List.getElem_mem hi')) (qZq h.nn _ (List.getElem_mem hi'))).1
   omega
  have hyn:=qZq hnn y (List.mem_of_getElem? hy);rw [hsum] at hyn;have em:=Int.mul_ediv_add_emod (n*x) (sumI ws);have r0:=Int.emod_nonneg (n*x) hS;have r1:=Int.emod_lt_of_pos (n*x) hSp;refine ⟨y,hy,by omega,hyn,fun _=>⟨fun hx00=>?_,?_,?_⟩⟩
  ·subst hx00
   rcases hyb with rfl | ⟨_,h0⟩
   ·simp
   ·omega
  ·generalize n*x / sumI ws=q at *;generalize (n*x) % sumI ws=r at *;generalize sumI ws=S at *
   rcases hyb with rfl | ⟨rfl,_⟩
   ·rw [Int.mul_comm y S];omega
   ·rw [Int.add_mul,Int.one_mul,Int.mul_comm q S];omega
  ·generalize n*x / sumI ws=q at *;generalize (n*x) % sumI ws=r at *;generalize sumI ws=S at *
   rcases hyb with rfl | ⟨rfl,_⟩
   ·rw [Int.mul_comm y S];omega
   ·rw [Int.add_mul,Int.one_mul,Int.mul_comm q S];omega
section
attribute [local go_sem 5000] kZk kZj
theorem least_v (l:Ln) (w:World):Calls Tryz.prog 224 #[.agg #[.int .i64 l.wt,.int .i64 l.mi]] w fun e w'=>e=.returned (.int .i64 l.mi)∧Below w.heap.size w w':=by
 go_enter Tryz.func224,Tryz.ntmps224
 go_wp2;go_ret;exact ⟨rfl,jZd (Below.refl _ _)⟩
theorem each_least (A:Option Addr) (c:Nat) (L:List Ln) (w:World) (h:LnV w A L) (hL:L.length≤1048576) :
  Calls Tryz.prog 220 #[.slice A L.length c,.func (.func 224) #[] #[]] w fun e w'=>e=.returned (.slice (some ⟨w.heap.size,0,none⟩) L.length L.length)∧IB w' w.heap.size (L.map Ln.mi)∧Below w.heap.size w w':=by
 have hmk:∀ w:World,(Instr.makeSlice 47 (.int .i64 (L.length:Int)) (.int .i64 (L.length:Int))).run Tryz.prog w=.ok (.slice (some ⟨w.heap.size,0,none⟩) L.length L.length) (w.alloc (.cells (pZn (List.replicate L.length 0)) 3)):=fun w=>gZ2 L.length w hL
 go_enter Tryz.func220,Tryz.ntmps220
 go_wp2_with fail
 have hlm:(L.map Ln.mi).length=L.length:=by simp
 have hI0:=vZe L.length w;have hB0:Below w.heap.size w (w.alloc (.cells (pZn (List.replicate L.length 0)) 3)):=jZd (Below.refl _ _)
 have hI1:IB (w.alloc (.cells (pZn (List.replicate L.length 0)) 3)) w.heap.size (mixM (L.map Ln.mi) 0):=by rw [sZ7,hlm];exact hI0
 have HI0:=hD hI1;have HB0:=hD hB0;have HLM:=hD hlm;clear hmk hI0 hB0 hI1 hlm
 go_loopw [13] (fun i wr=>∃ k:Nat,k≤L.length∧i=.int .i64 k∧IB wr w.heap.size (mixM (L.map Ln.mi) k)∧Below w.heap.size w wr) (fun i _=>L.length-(intOf i).toNat)
 case atStart=>exact ⟨0,by omega,rfl,HI0.out,HB0.out⟩
 case round =>
  obtain ⟨k,hk,rfl,hI,hBr⟩:=hrel;clear HI0 HB0
  by_cases hlt:k<L.length
  ·have hd:decide ((k:Int)<(L.length:Int))=true:=by simpa using hlt
   obtain ⟨b,off,rfl,hb,hp⟩:=(h.keep hBr).cells (by omega);have hget:L[k]?=some L[k]:=List.getElem?_eq_getElem hlt;obtain ⟨c0,c1⟩:=hp k _ hget
   have hgm:(L.map Ln.mi)[k]?=some L[k].mi:=by rw [List.getElem?_map,hget];rfl
   generalize hx:L[k]=x at *;have HI:=hD hI;have HBR:=hD hBr;have HGM:=hD hgm;clear hI hBr hp hget hx hgm
   go_wp2_with fail
   refine (least_v x _).mono ?_;rintro e w1 ⟨rfl,hb1⟩
   have hb01:=(jZa (jZd (Below.refl wr.heap.size wr)) hb1)
   replace HI:=hD (HI.out.keep hb01);replace HBR:=hD (HBR.out.trans (hb01.mono HBR.out.size));clear hb1 hb01 c0 c1;obtain ⟨y,hy⟩:=uZk (B:=L.map Ln.mi) (k:=k) (by rw [HLM.out];exact hlt);have d0:=HI.out.cell hy;have f0:=HI.out.frozen k;have hI2:=HI.out.set k x.mi;rw [uZ5 HGM.out] at hI2;have HI2:=hD hI2
   have HB2:=hD (HBR.out.setCell (p:=⟨w.heap.size,k,none⟩) (Nat.le_refl _) (.int .i64 x.mi));clear hI2 hy HI HBR;go_wp2
   go_roundw
   case rel=>exact ⟨k+1,by omega,by go_num,HI2.out,HB2.out⟩
   case measure=>simp [intOf];omega
  ·have hd:decide ((k:Int)<(L.length:Int))=false:=decide_eq_false (by omega)
   obtain rfl:k=L.length:=by omega
   rw [<- HLM.out,uZd] at hI;have HI2:=hD hI;have HB2:=hD hBr;clear hI hBr;go_wp2;go_ret;exact ⟨rfl,HI2.out,HB2.out⟩
theorem weight_v (l:Ln) (w:World):Calls Tryz.prog 221 #[.agg #[.int .i64 l.wt,.int .i64 l.mi]] w fun e w'=>e=.returned (.int .i64 l.wt)∧Below w.heap.size w w':=by
 go_enter Tryz.func221,Tryz.ntmps221
 go_wp2;go_ret;exact ⟨rfl,jZd (Below.refl _ _)⟩
theorem tZz (A:Option Addr) (c:Nat) (L:List Ln) (w:World) (h:LnV w A L) (hL:L.length≤1048576) :
  Calls Tryz.prog 220 #[.slice A L.length c,.func (.func 221) #[] #[]] w fun e w'=>e=.returned (.slice (some ⟨w.heap.size,0,none⟩) L.length L.length)∧IB w' w.heap.size (L.map Ln.wt)∧Below w.heap.size w w':=by
 have hmk:∀ w:World,(Instr.makeSlice 47 (.int .i64 (L.length:Int)) (.int .i64 (L.length:Int))).run Tryz.prog w=.ok (.slice (some ⟨w.heap.size,0,none⟩) L.length L.length) (w.alloc (.cells (pZn (List.replicate L.length 0)) 3)):=fun w=>gZ2 L.length w hL
 go_enter Tryz.func220,Tryz.ntmps220
 go_wp2_with fail
 have hlm:(L.map Ln.wt).length=L.length:=by simp
 have hI0:=vZe L.length w;have hB0:Below w.heap.size w (w.alloc (.cells (pZn (List.replicate L.length 0)) 3)):=jZd (Below.refl _ _)
 have hI1:IB (w.alloc (.cells (pZn (List.replicate L.length 0)) 3)) w.heap.size (mixM (L.map Ln.wt) 0):=by rw [sZ7,hlm];exact hI0
 have HI0:=hD hI1;have HB0:=hD hB0;have HLM:=hD hlm;clear hmk hI0 hB0 hI1 hlm
 go_loopw [13] (fun i wr=>∃ k:Nat,k≤L.length∧i=.int .i64 k∧IB wr w.heap.size (mixM (L.map Ln.wt) k)∧Below w.heap.size w wr) (fun i _=>L.length-(intOf i).toNat)
 case atStart=>exact ⟨0,by omega,rfl,HI0.out,HB0.out⟩
 case round =>
  obtain ⟨k,hk,rfl,hI,hBr⟩:=hrel;clear HI0 HB0
  by_cases hlt:k<L.length
  ·have hd:decide ((k:Int)<(L.length:Int))=true:=by simpa using hlt
   obtain ⟨b,off,rfl,hb,hp⟩:=(h.keep hBr).cells (by omega);have hget:L[k]?=some L[k]:=List.getElem?_eq_getElem hlt;obtain ⟨c0,c1⟩:=hp k _ hget
   have hgm:(L.map Ln.wt)[k]?=some L[k].wt:=by rw [List.getElem?_map,hget];rfl
   generalize hx:L[k]=x at *;have HI:=hD hI;have HBR:=hD hBr;have HGM:=hD hgm;clear hI hBr hp hget hx hgm
   go_wp2_with fail
   refine (weight_v x _).mono ?_;rintro e w1 ⟨rfl,hb1⟩
   have hb01:=(jZa (jZd (Below.refl wr.heap.size wr)) hb1)
   replace HI:=hD (HI.out.keep hb01);replace HBR:=hD (HBR.out.trans (hb01.mono HBR.out.size));clear hb1 hb01 c0 c1;obtain ⟨y,hy⟩:=uZk (B:=L.map Ln.wt) (k:=k) (by rw [HLM.out];exact hlt);have d0:=HI.out.cell hy;have f0:=HI.out.frozen k;have hI2:=HI.out.set k x.wt;rw [uZ5 HGM.out] at hI2;have HI2:=hD hI2
   have HB2:=hD (HBR.out.setCell (p:=⟨w.heap.size,k,none⟩) (Nat.le_refl _) (.int .i64 x.wt));clear hI2 hy HI HBR;go_wp2
   go_roundw
   case rel=>exact ⟨k+1,by omega,by go_num,HI2.out,HB2.out⟩
   case measure=>simp [intOf];omega
  ·have hd:decide ((k:Int)<(L.length:Int))=false:=decide_eq_false (by omega)
   obtain rfl:k=L.length:=by omega
   rw [<- HLM.out,uZd] at hI;have HI2:=hD hI;have HB2:=hD hBr;clear hI hBr;go_wp2;go_ret;exact ⟨rfl,HI2.out,HB2.out⟩
theorem qZa {w w' w2:World} {g:Nat} (h:w.grownBy w' (some g)) (hb:Below w'.heap.size w' w2):w.grownBy w2 (some g) :=
 ⟨hb.os.trans h.os,hb.tape.trans h.tape,hb.output.trans h.output,Nat.le_trans h.size hb.size,fun k hk hne=>(hb.block k (Nat.lt_of_lt_of_le hk h.size)).trans (h.block k hk hne)⟩
theorem rZ8 {n:Int} {ws:List Int} (hn:0≤n) (h:wsOK ws):∀ y∈jZt n ws,0≤y∧y≤n:=fun y hy=>by
 obtain ⟨k,hk,e⟩:=List.mem_iff_getElem.1 hy;have hl:=kZ5 (n:=n) (ws:=ws);obtain ⟨y',h1,h2,h3,_⟩:=rZ6 hn h (List.getElem?_eq_getElem (show k<ws.length by omega));rw [List.getElem?_eq_getElem hk,e] at h1;obtain rfl:=Option.some.inj h1;exact ⟨h2,h3⟩
theorem fZs (g sa m c:Nat) (B:Option Addr) (c':Nat) (O ws:List Int) (n:Int) (w:World) (hI:IB w g O) (hm:m=ws.length) (hO:sa+m≤O.length) (hOb:∀ x∈O,0≤x∧x≤100000000000000) (h:NV w B ws) (hw:wsOK ws) (hn:0≤n) (hn2:n≤100000000000000) :
  Calls Tryz.prog 223 #[.slice (some ⟨g,sa,none⟩) m c,.int .i64 n,.slice B m c'] w fun e w'=>(∃ v,e=.returned v)∧IB w' g (qZg O sa (jZt n ws))∧w.grownBy w' (some g):=by
 subst hm;have hlm:(jZt n ws).length=ws.length:=kZ5;have HPB:=hD (rZ8 hn hw);have HOB:=hD hOb;have HLM:=hD hlm;have hgl:=hI.lt;have hw5:=hw.2.2;clear hOb hlm
 go_enter Tryz.func223,Tryz.ntmps223
 go_wp2_with fail
 with_reducible refine (hZ6 B c' n ws _ h hw hn hn2).mono ?_
 rintro e w1 ⟨rfl,hp,hb1⟩;have HI:=hD (hI.keep hb1);have HP:=hD hp;have HB:=hD hb1
 have hgn:g≠w.heap.size:=by omega
 clear hp hb1 hI h
 go_wp2_with fail
 go_loopw [12] (fun i wr=>∃ k:Nat,k≤ws.length∧i=.int .i64 k∧IB wr g (qZg O sa ((jZt n ws).take k))∧w1.grownBy wr (some g)) (fun i _=>ws.length-(intOf i).toNat)
 case atStart=>exact ⟨0,by omega,rfl,by rw [List.take_zero,bZq];exact HI.out,tZy _ _⟩
 case round =>
  obtain ⟨k,hk,rfl,hIr,hgr⟩:=hrel;clear HI
  by_cases hlt:k<ws.length
  ·have hd:decide ((k:Int)<(ws.length:Int))=true:=by simpa using hlt
   have hkp:k<(jZt n ws).length:=by have:=HLM.out;omega
   have hgp:(jZt n ws)[k]?=some (jZt n ws)[k]:=List.getElem?_eq_getElem hkp;have hpb:=HPB.out _ (List.getElem_mem hkp)
   have hko:sa+k<O.length:=by omega
   have hgo:O[sa+k]?=some O[sa+k]:=List.getElem?_eq_getElem hko;have hob:=HOB.out _ (List.getElem_mem hko);generalize (jZt n ws)[k]=p at *;generalize O[sa+k]=o at *;have c0:=(HP.out.but hgr (by omega)).cell hgp;have d0:=hIr.cell (cZh hgo (P:=(jZt n ws).take k) (by rw [List.length_take];omega));have f0:=hIr.frozen (sa+k);have hI2:=hIr.set (sa+k) (o+p);rw [vZn hgo hgp] at hI2
   have HI2:=hD hI2;have HG2:=hD (tZ6 hgr (sa+k) (.int .i64 (o+p)));obtain ⟨hp0,hp1⟩:=hpb;obtain ⟨ho0,ho1⟩:=hob;clear hIr hgr hI2 hgp hgo;go_wp2
   go_roundw
   case rel=>exact ⟨k+1,by omega,by go_num,HI2.out,HG2.out⟩
   case measure=>simp [intOf];omega
  ·have hd:decide ((k:Int)<(ws.length:Int))=false:=decide_eq_false (by omega);have hke:(jZt n ws).take k=jZt n ws:=List.take_of_length_le (by have:=HLM.out;omega);rw [hke] at hIr;have HI2:=hD hIr;have HG2:=hD hgr;clear hIr hgr hke;go_wp2
   go_end0
   exact ⟨⟨_,rfl⟩,HI2.out,⟨HG2.out.os.trans HB.out.os,HG2.out.tape.trans HB.out.tape,HG2.out.output.trans HB.out.output,Nat.le_trans HB.out.size HG2.out.size,fun k hk hne=>(HG2.out.block k (Nat.lt_of_lt_of_le hk HB.out.size) hne).trans (HB.out.block k hk)⟩⟩
end
def segI (O:List Int) (a m:Nat):List Int:=(O.drop a).take m
theorem qZw {O:List Int} {a m:Nat} (h:a+m≤O.length):(segI O a m).length=m:=by unfold segI;rw [List.length_take,List.length_drop];omega
theorem sZu {O:List Int} {a m:Nat} {x:Int} (h:x∈segI O a m):x∈O:=List.mem_of_mem_drop (List.mem_of_mem_take h)
def vZj (ws O:List Int) (s:Sp):List Int:=qZg O s.sa.toNat (jZt (mx (s.need-sumI (segI O s.sa.toNat s.many.toNat)) 0) (segI ws s.sa.toNat s.many.toNat))
def rZc (ws:List Int) (m:Int) (S:List Sp) (O:List Int):List Int:=S.foldl (fun O s=>if s.many=m then vZj ws O s else O) O
def reqN (ws:List Int) (S:List Sp) (O:List Int):Nat→List Int
 | 0=>O
 | i+1=>rZc ws ((i:Int)+1) S (reqN ws S O i)
def kZl (L:List Ln) (S:List Sp):List Int:=reqN (L.map Ln.wt) S (L.map Ln.mi) L.length
theorem tZ3 {ws:List Int} {m:Int} {S:List Sp} {O:List Int} {j:Nat} {s:Sp} (h:S[j]?=some s):rZc ws m (S.take (j+1)) O=(if s.many=m then vZj ws (rZc ws m (S.take j) O) s else rZc ws m (S.take j) O):=by
 obtain ⟨hj,e⟩:=List.getElem?_eq_some_iff.1 h;unfold rZc;rw [List.take_succ_eq_append_getElem hj,e,List.foldl_append]
 rfl
theorem sum_addP:∀ {O P:List Int},P.length≤O.length→sumI (addP O P)=sumI O+sumI P
 | O,[],_=>by rw [eZl];simp [sumI]
 | [],p :: ps,h=>by simp at h
 | o :: os,p :: ps,h=>by
  have:=sum_addP (O:=os) (P:=ps) (by simpa using h)
  simp only [addP,sumI,this];omega
theorem fZ2 {O P:List Int} {k:Nat} (h:k+P.length≤O.length):sumI (qZg O k P)=sumI O+sumI P:=by
 unfold qZg;rw [qZc,sum_addP (by rw [List.length_drop];omega)]
 have:=qZc (O.take k) (O.drop k)
 rw [List.take_append_drop] at this;omega
theorem nn_addP:∀ {O P:List Int},(∀ x∈O,0≤x)→(∀ x∈P,0≤x)→∀ x∈addP O P,0≤x
 | [],P,_,_,x,hx=>by simp [addP] at hx
 | o :: os,[],h,_,x,hx=>h x hx
 | o :: os,p :: ps,h,hp,x,hx=>by
  simp only [addP] at hx
  rcases List.mem_cons.1 hx with rfl | hx
  ·have:=h o List.mem_cons_self;have:=hp p List.mem_cons_self;omega
  ·exact nn_addP (fun y hy=>h y (List.mem_cons_of_mem _ hy)) (fun y hy=>hp y (List.mem_cons_of_mem _ hy)) x hx
theorem nn_addAt {O P:List Int} {k:Nat} (h:∀ x∈O,0≤x) (hp:∀ x∈P,0≤x):∀ x∈qZg O k P,0≤x:=fun x hx=>by
 unfold qZg at hx
 rcases List.mem_append.1 hx with hx | hx
 ·exact h x (List.mem_of_mem_take hx)
 ·exact nn_addP (fun y hy=>h y (List.mem_of_mem_drop hy)) hp x hx
theorem uZw {n:Int} {ws:List Int} (hn:0≤n) (h:wsOK ws):∀ y∈jZt n ws,0≤y:=fun y hy=>by
 obtain ⟨k,hk,e⟩:=List.mem_iff_getElem.1 hy;have hl:=kZ5 (n:=n) (ws:=ws);obtain ⟨y',h1,h2,h3,_⟩:=rZ6 hn h (List.getElem?_eq_getElem (show k<ws.length by omega));rw [List.getElem?_eq_getElem hk,e] at h1;obtain rfl:=Option.some.inj h1;exact h2
def Bd (n:Nat) (M:Int) (O:List Int):Prop:=O.length=n∧(∀ x∈O,0≤x)∧sumI O≤M
theorem seg_ok {ws:List Int} {a m:Nat} (hw:wsOK ws) (h1:1≤m) (h:a+m≤ws.length):wsOK (segI ws a m) :=
 ⟨fun x hx=>hw.1 x (sZu hx),by rw [qZw h];exact h1,by rw [qZw h];have:=hw.2.2;omega⟩
theorem tZw {L:List Ln} (h:kZd L=true):Bd L.length 150 (L.map Ln.mi)∧wsOK (L.map Ln.wt):=by
 simp only [kZd,Bool.and_eq_true,pZa,List.all_eq_true,tZs,wB] at h;obtain ⟨⟨h1,h2⟩,h3⟩:=h
 have hm:∀ x∈L.map Ln.mi,0≤x∧x≤30:=fun x hx=>by
  obtain ⟨l,hl,rfl⟩:=List.mem_map.1 hx;exact (h3 l hl).2
 have hs:=sZ0 hm;rw [List.length_map] at hs;refine ⟨⟨by simp,fun x hx=>(hm x hx).1,by omega⟩,fun x hx=>?_,by simp;omega,by simp;omega⟩;obtain ⟨l,hl,rfl⟩:=List.mem_map.1 hx;exact (h3 l hl).1
def vZf (n:Nat) (s:Sp):Prop:=∃ a m:Nat,s.sa=a∧s.many=m∧1≤m∧a+m≤n∧0≤s.need∧s.need≤1000000000020
def pZ7 (n:Nat) (S:List Sp):Prop:=S.length≤10∧∀ s∈S,vZf n s
theorem step_bdW {n:Nat} {M:Int} {ws O:List Int} {s:Sp} (hw:wsOK ws) (hl:ws.length=n) (hs:vZf n s) (h:Bd n M O):Bd n (M+s.need) (vZj ws O s):=by
 obtain ⟨a,m,e1,e2,h1,h2,h3,h4⟩:=hs;obtain ⟨hO,hnn,hsum⟩:=h;have hseg:=seg_ok hw h1 (by omega:a+m≤ws.length);have hnn2:=kZ9 (fun x hx=>hnn x (sZu (a:=a) (m:=m) hx));have mx1:=kZc (s.need-sumI (segI O a m)) 0
 have ea:s.sa.toNat=a:=by omega
 have em:s.many.toNat=m:=by omega
 unfold vZj;rw [ea,em]
 have hn0:0≤mx (s.need-sumI (segI O a m)) 0:=by omega
 refine ⟨by rw [uZ6];exact hO,nn_addAt hnn (uZw hn0 hseg),?_⟩;rw [fZ2 (by rw [kZ5,qZw (by omega)];omega),tZj hn0 hseg];omega
def rZ7 (S:List Sp) (m:Int):Int:=sumI (S.map fun s=>if s.many=m then s.need else 0)
theorem hZm {S:List Sp} {j:Nat} {s:Sp} {m:Int} (h:S[j]?=some s):rZ7 (S.take (j+1)) m=rZ7 (S.take j) m+(if s.many=m then s.need else 0):=by
 obtain ⟨hj,e⟩:=List.getElem?_eq_some_iff.1 h;unfold rZ7;rw [List.take_succ_eq_append_getElem hj,e,List.map_append,qZc]
 simp [sumI]
theorem eZ6 {n:Nat} {ws:List Int} {S:List Sp} {m:Int} (hw:wsOK ws) (hl:ws.length=n) (hs:∀ s∈S,vZf n s):∀ {M:Int} {O:List Int} (j:Nat),j≤S.length→Bd n M O→Bd n (M+rZ7 (S.take j) m) (rZc ws m (S.take j) O):=by
 intro M O j
 induction j with
 | zero=>intro _ h;simpa [rZc,rZ7,sumI] using h
 | succ j ih =>
  intro hj h;have hget:S[j]?=some S[j]:=List.getElem?_eq_getElem (by omega);have h1:=ih (by omega) h;rw [tZ3 hget,hZm hget,<- Int.add_assoc]
  split
  ·exact step_bdW hw hl (hs _ (List.mem_of_getElem? hget)) h1
  ·rw [Int.add_zero];exact h1
def vZz (S:List Sp):Nat→Int
 | 0=>0
 | i+1=>vZz S i+rZ7 S ((i:Int)+1)
theorem hZn {n:Nat} {ws:List Int} {S:List Sp} {M:Int} {O:List Int} (hw:wsOK ws) (hl:ws.length=n) (hs:∀ s∈S,vZf n s) (h:Bd n M O):∀ i:Nat,Bd n (M+vZz S i) (reqN ws S O i)
 | 0=>by simpa [reqN,vZz] using h
 | i+1=>by
  have h1:=hZn hw hl hs h i;have h2:=eZ6 (m:=(i:Int)+1) hw hl hs S.length (Nat.le_refl _) h1;rw [List.take_length] at h2
  show Bd n (M+(vZz S i+rZ7 S ((i:Int)+1))) (rZc ws ((i:Int)+1) S (reqN ws S O i))
  rw [<- Int.add_assoc];exact h2
theorem needs_le {S:List Sp} {n:Nat} (hs:∀ s∈S,vZf n s):∀ i:Nat,vZz S i+(S.map fun s=>if s.many≤(i:Int) then 0 else s.need).foldr (·+·) 0≤(S.map fun s=>s.need).foldr (·+·) 0:=by
 intro i
 induction i with
 | zero =>
  simp only [vZz,Int.zero_add]
  induction S with
  | nil=>simp
  | cons s t ih =>
   obtain ⟨a,m,e1,e2,h1,h2,h3,h4⟩:=hs s List.mem_cons_self
   have:=ih (fun q hq=>hs q (List.mem_cons_of_mem _ hq))
   simp only [List.map_cons,List.foldr_cons]
   have p:¬ s.many≤((0:Nat):Int):=by omega
   rw [if_neg p];omega
 | succ i ih =>
  have ee:((i+1:Nat):Int)=(i:Int)+1:=by omega
  have e:rZ7 S ((i:Int)+1)+(S.map fun s=>if s.many≤(i:Int)+1 then 0 else s.need).foldr (·+·) 0=(S.map fun s=>if s.many≤(i:Int) then 0 else s.need).foldr (·+·) 0:=by
   clear ih hs
   induction S with
   | nil=>simp [rZ7,sumI]
   | cons s t ih =>
    simp only [rZ7,List.map_cons,sumI,List.foldr_cons] at ih ⊢
    by_cases h1:s.many≤(i:Int)
    ·have p1:s.many≤(i:Int)+1:=by omega
     have p2:¬ s.many=(i:Int)+1:=by omega
     rw [if_pos h1,if_pos p1,if_neg p2];omega
    ·by_cases h2:s.many=(i:Int)+1
     ·have p1:s.many≤(i:Int)+1:=by omega
      rw [if_neg h1,if_pos p1,if_pos h2];omega
     ·have p1:¬ s.many≤(i:Int)+1:=by omega
      rw [if_neg h1,if_neg p1,if_neg h2];omega
  rw [ee];simp only [vZz];omega
theorem fZn {S:List Sp} {n:Nat} (hs:∀ s∈S,vZf n s) (i:Nat):vZz S i≤(S.map fun s=>s.need).foldr (·+·) 0:=by
 have h:=needs_le hs i
 have:0≤(S.map fun s=>if s.many≤(i:Int) then 0 else s.need).foldr (·+·) 0:=by
  clear h
  induction S with
  | nil=>simp
  | cons s t ih =>
   obtain ⟨a,m,e1,e2,h1,h2,h3,h4⟩:=hs s List.mem_cons_self
   have:=ih (fun q hq=>hs q (List.mem_cons_of_mem _ hq))
   simp only [List.map_cons,List.foldr_cons]
   split <;> omega
 omega
theorem uZj {S:List Sp} {n:Nat} {B:Int} (hB:0≤B) (hs:∀ s∈S,s.need≤B):(S.map fun s=>s.need).foldr (·+·) 0≤B*S.length:=by
 induction S with
 | nil=>simp
 | cons s t ih =>
  have h1:=hs s List.mem_cons_self;have h2:=ih (fun q hq=>hs q (List.mem_cons_of_mem _ hq));simp only [List.map_cons,List.foldr_cons,List.length_cons]
  have e:B*((t.length+1:Nat):Int)=B*(t.length:Int)+B:=by rw [Int.natCast_add,Int.mul_add];simp
  omega
theorem Bd.eachW {n:Nat} {M:Int} {O:List Int} (h:Bd n M O) (hM:M≤100000000000000):∀ x∈O,0≤x∧x≤100000000000000:=fun x hx=>by
 have h1:=h.2.1 x hx;have h2:=qZq h.2.1 x hx
 have:=h.2.2
 omega
theorem fZx:∀ {O P:List Int},(∀ x∈P,x=0)→addP O P=O
 | [],P,_=>by simp [addP]
 | o :: os,[],_=>rfl
 | o :: os,p :: ps,h=>by
  have:=h p List.mem_cons_self
  subst this
  simp [addP,fZx (fun x hx=>h x (List.mem_cons_of_mem _ hx))]
theorem addAt_zero {O P:List Int} {k:Nat} (h:∀ x∈P,x=0):qZg O k P=O:=by
 unfold qZg;rw [fZx h,List.take_append_drop]
theorem gZ4 {ws:List Int} (h:wsOK ws):∀ x∈jZt 0 ws,x=0:=fun y hy=>by
 obtain ⟨k,hk,e⟩:=List.mem_iff_getElem.1 hy;have hl:=kZ5 (n:=0) (ws:=ws);obtain ⟨y',h1,h2,h3,_⟩:=rZ6 (Int.le_refl 0) h (List.getElem?_eq_getElem (show k<ws.length by omega));rw [List.getElem?_eq_getElem hk,e] at h1;obtain rfl:=Option.some.inj h1;omega
section
attribute [local go_sem 5000] kZk kZj
theorem gZ0 {w:World} {b:Nat} {cs:Array Value} {T:TypeId} {fz:Nat × Nat} (h:w.heap[b]?=some (.cells cs T fz)) (i:Nat):w.cell? ⟨b,i,none⟩=cs[i]?:=by simp [World.cell?,h]
theorem sZs {Q:Exit→Act→World→Prop} {a:Act} {w:World} (h:Q .normal a w):kZ0 Q .normal a w:=h
theorem pZk {w w2 w':World} {g n:Nat} (hb:Below n w w2) (hg:w2.grownBy w' (some g)) (hle:n≤g) (hn:n≤w2.heap.size):Below n w w' :=
 ⟨hg.os.trans hb.os,hg.tape.trans hb.tape,hg.output.trans hb.output,Nat.le_trans hb.size hg.size,fun k hk=>(hg.block k (Nat.lt_of_lt_of_le hk hn) (fun e=>by have:=Option.some.inj e;omega)).trans (hb.block k hk)⟩
theorem sum_b (A:Option Addr) (c n:Nat) (L:List Int) (w:World) (h:NV w A L) (hn:n=L.length) (hL:n≤1048576) (hM:Smal 1000000000000000 L) :
  Calls Tryz.prog 216 #[.slice A n c] w fun e w'=>e=.returned (.int .i64 (sumI L))∧Below w.heap.size w w':=by
 refine (sum_n A c n L w h hn hL hM).mono ?_;rintro e w1 ⟨rfl,rfl⟩;exact ⟨rfl,Below.refl _ _⟩
theorem kZz {L:List Ln} (h:kZd L=true):1≤L.length∧L.length≤5:=by
 simp only [kZd,Bool.and_eq_true,pZa] at h;omega
theorem seg_sum {O:List Int} {a m:Nat} (h:∀ x∈O,0≤x∧x≤100000000000000) (ham:a+m≤O.length) (h5:O.length≤5):0≤sumI (segI O a m)∧sumI (segI O a m)≤500000000000000∧Smal 1000000000000000 (segI O a m):=by
 have hs:∀ x∈segI O a m,0≤x∧x≤100000000000000:=fun x hx=>h x (sZu hx)
 have h1:=sZ0 hs;have h2:=qZw ham;rw [h2] at h1;refine ⟨by omega,by omega,tZ2 (b:=100000000000000) (fun x hx=>by have:=hs x hx;omega) (by omega) (by rw [h2];omega)⟩
theorem IB.seg {w:World} {g:Nat} {L:List Int} (h:IB w g L) (a m:Nat):NV w (some ⟨g,a,none⟩) (segI L a m):=by
 have:=NV.sub (off:=0) h.lt (fun i x hx=>by rw [Nat.zero_add];exact h.cell hx) a m
 rwa [Nat.zero_add] at this
theorem needOf_bd {S:List Sp} {n:Nat} (hs:∀ s∈S,vZf n s) (m:Int):rZ7 S m≤1000000000020*S.length:=by
 induction S with
 | nil=>simp [rZ7,sumI]
 | cons s t ih =>
  obtain ⟨a,q,e1,e2,h1,h2,h3,h4⟩:=hs s List.mem_cons_self
  have:=ih (fun q hq=>hs q (List.mem_cons_of_mem _ hq))
  simp only [rZ7,List.map_cons,sumI,List.length_cons] at this ⊢
  split <;> omega
theorem at_bd {L:List Ln} {S:List Sp} {k j:Nat} (hL:kZd L=true) (hS:pZ7 L.length S) (hk:k≤L.length) (hj:j≤S.length) :
  (rZc (L.map Ln.wt) ((k:Int)+1) (S.take j) (reqN (L.map Ln.wt) S (L.map Ln.mi) k)).length=L.length∧∀ x∈rZc (L.map Ln.wt) ((k:Int)+1) (S.take j) (reqN (L.map Ln.wt) S (L.map Ln.mi) k),0≤x∧x≤100000000000000:=by
 obtain ⟨hO,hW⟩:=tZw hL;obtain ⟨h8,hs⟩:=hS;have hl:=(kZz hL).2;have h1:=hZn (S:=S) hW (by simp) hs hO k;have h2:=eZ6 (m:=(k:Int)+1) hW (by simp) hs j hj h1;have b1:=fZn hs k;have b2:=uZj (B:=1000000000020) (n:=L.length) (by omega) (fun s h=>by obtain ⟨a,m,e1,e2,h1,h2,h3,h4⟩:=hs s h;exact h4)
 have b3:=needOf_bd (S:=S.take j) (fun s h=>hs s (List.mem_of_mem_take h)) ((k:Int)+1)
 have b4:(S.take j).length≤10:=by rw [List.length_take];omega
 exact ⟨h2.1,h2.eachW (by omega)⟩
theorem rZ4 (A:Option Addr) (c:Nat) (L:List Ln) (A':Option Addr) (c':Nat) (S:List Sp) (w:World) (h:LnV w A L) (hL:kZd L=true) (h':SpV w A' S) (hS:pZ7 L.length S) :
  Calls Tryz.prog 215 #[.slice A L.length c,.slice A' S.length c'] w fun e w'=>e=.returned (.slice (some ⟨w.heap.size,0,none⟩) L.length L.length)∧IB w' w.heap.size (kZl L S)∧Below w.heap.size w w':=by
 obtain ⟨hl1,hl5⟩:=kZz hL;obtain ⟨hs8,hsa⟩:=id hS;have hww:=(tZw hL).2;have HL:=hD hL;have HS:=hD hS;have HSA:=hD hsa;have HWW:=hD hww;clear hL hS hsa hww
 go_enter Tryz.func215,Tryz.ntmps215
 go_wp2_with fail
 with_reducible refine (each_least A c L _ h (by omega)).mono ?_
 rintro e w1 ⟨rfl,hI1,hb1⟩;have HLV:=hD (h.keep hb1)
 go_wp2_with fail
 with_reducible refine (tZz A c L _ HLV.out (by omega)).mono ?_
 rintro e w2 ⟨rfl,hI2,hb2⟩;have HI:=hD (hI1.keep hb2);have HB:=hD (jZa hb1 hb2);have hg:w.heap.size<w1.heap.size:=hI1.lt;clear HLV hb1 hb2 hI1;generalize w1.heap.size=g2 at hI2 hg ⊢;have HW:=hD hI2;clear hI2
 go_wp2_with fail
 go_loopw [18] (fun i wr=>∃ k:Nat,k≤L.length∧i=.int .i64 k∧IB wr w.heap.size (reqN (L.map Ln.wt) S (L.map Ln.mi) k)∧IB wr g2 (L.map Ln.wt)∧Below w.heap.size w wr) (fun i _=>L.length-(intOf i).toNat)
 case atStart=>exact ⟨0,by omega,rfl,HI.out,HW.out,HB.out⟩
 case round =>
  obtain ⟨k,hk,rfl,hI,hWr,hBr⟩:=hrel;clear HI HW HB
  by_cases hlt:k<L.length
  ·have hd:decide ((k:Int)<(L.length:Int))=true:=by simpa using hlt
   have HI:=hD hI;have HW:=hD hWr;have HB:=hD hBr;clear hI hWr hBr
   go_wp2_with fail
   go_loopw [23] (fun i wr=>∃ j:Nat,j≤S.length∧i=.int .i64 j∧IB wr w.heap.size (rZc (L.map Ln.wt) ((k:Int)+1) (S.take j) (reqN (L.map Ln.wt) S (L.map Ln.mi) k))∧IB wr g2 (L.map Ln.wt)∧Below w.heap.size w wr) (fun i _=>S.length-(intOf i).toNat)
   case atStart=>exact ⟨0,by omega,rfl,HI.out,HW.out,HB.out⟩
   case round =>
    obtain ⟨j,hj,rfl,hI,hWr,hBr⟩:=hrel;clear HI HW HB
    by_cases hjl:j<S.length
    ·have hd2:decide ((j:Int)<(S.length:Int))=true:=by simpa using hjl
     obtain ⟨b',off,rfl,hb',hp⟩:=(h'.keep hBr).cells (by omega);have hget:S[j]?=some S[j]:=List.getElem?_eq_getElem hjl;obtain ⟨c0,c1,c2⟩:=hp j _ hget;have hsp:=HSA.out _ (List.mem_of_getElem? hget);have hro:=tZ3 (ws:=L.map Ln.wt) (m:=(k:Int)+1) (O:=reqN (L.map Ln.wt) S (L.map Ln.mi) k) hget;obtain ⟨a,m,e1,e2,hm1,ham,hn0,hn50⟩:=hsp;obtain ⟨hol,hob⟩:=at_bd HL.out HS.out hk hj
     generalize S[j]=s at *;obtain ⟨sa,many,need⟩:=s
     dsimp only at e1 e2 hn0 hn50 c0 c1 c2
     subst e1 e2;generalize rZc (L.map Ln.wt) ((k:Int)+1) (S.take j) (reqN (L.map Ln.wt) S (L.map Ln.mi) k)=O at *;have HI:=hD hI;have HW:=hD hWr;have HB:=hD hBr;have HOB:=hD hob;have HOL:=hD hol;clear hI hWr hBr hp hget hob hol
     by_cases hmk:(m:Int)=(k:Int)+1
     ·have hz:((m:Int) == (k:Int)+1)=true:=by simpa using hmk
      have hmn:m=k+1:=by omega
      subst hmn;have HRO:=hD hro;clear hro
      have hal:¬ L.length=a:=by omega
      have hq1:0≤(a:Int)+((k:Int)+1):=by omega
      have hq2:(a:Int)+((k:Int)+1)≤(L.length:Int):=by omega
      have hq3:((a:Int)+((k:Int)+1)).toNat=a+(k+1):=by omega
      have hq4:a≤a+(k+1):=by omega
      have hq5:a+(k+1)-a=k+1:=by omega
      obtain ⟨hm0,hm5,hsm⟩:=seg_sum HOB.out (a:=a) (m:=k+1) (by rw [HOL.out];exact ham) (by rw [HOL.out];exact hl5);have HSM:=hD hsm;have HSL:=hD (qZw (O:=O) (a:=a) (m:=k+1) (by rw [HOL.out];exact ham)).symm;clear hz hsm
      have hz:(((k+1:Nat):Int) == (k:Int)+1)=true:=by simp
      go_wp2_with fail
      refine jZg 9 1 (·<9) (by kernel_rfl) (by kernel_rfl) rfl ?_
      iterate 9 (refine jZ3 (fun K hK=>?_);first|(refine kZr rfl ?_;go_simp;refine hK _ ?_;clear hK K)|(apply Exists.intro;refine ⟨.inl ⟨rfl,fun w' hw'=>?_⟩,?_⟩;(focus ((obtain ⟨hc,hf⟩:=kZi hw'.out);(have hcS:=kZq hw'.out);go_simp <;> first | rfl|(go_at_call 216;exact sum_b _ _ (k+1) (segI O a (k+1)) _ ((HI.out.keep (jZa (jZd (Below.refl _ _)) (jZs hw'.out))).seg a (k+1)) HSL.out (by omega) HSM.out)));(go_simp;refine hK _ ?_;clear hK K)))
      refine jZ9 ?_;refine jZ1 (by kernel_rfl) (fun w3 hg3=>?_);have hb3:=jZs hg3.out;obtain ⟨hc3,hf3⟩:=kZi hb3;refine jZn (i:=9) (by kernel_rfl) rfl rfl ?_;go_simp;refine jZq (by kernel_rfl) ?_;refine kZ0.thn ?_;clear hc3 hf3;clear hg3
      have hx:w3.heap[wr.heap.size]?=some (.cells #[.int .i64 (a:Int),.int .i64 ((k:Int)+1),.int .i64 need] 191 (0,0)):=(hb3.block _ (by simp)).trans (heap_alloc_new _ _);have HI3:=hD (HI.out.keep (jZa (jZd (Below.refl _ _)) hb3));have HW3:=hD (HW.out.keep (jZa (jZd (Below.refl _ _)) hb3));have HB3:=hD (jZa (jZd HB.out) hb3);have hxl:=(gE hx).1
      obtain ⟨x0,x1,x2⟩:w3.cell? ⟨wr.heap.size,0,none⟩=some (.int .i64 (a:Int))∧w3.cell? ⟨wr.heap.size,1,none⟩=some (.int .i64 ((k:Int)+1))∧w3.cell? ⟨wr.heap.size,2,none⟩=some (.int .i64 need):=⟨gZ0 hx 0,gZ0 hx 1,gZ0 hx 2⟩
      obtain ⟨q,hqe⟩:∃ q,sumI (segI O a (k+1))=q:=⟨_,rfl⟩
      rw [hqe] at hm0 hm5;rw [hqe];have HQ:=hD hqe;have mx1:=kZc (need-q) 0
      have hmx0:0≤mx (need-q) 0:=by omega
      have hmx1:mx (need-q) 0≤100000000000000:=by omega
      have hqw:IntKind.i64.wrap (need-q)=need-q:=IntWalk.i64_in _ (by omega);clear HI HW HB hb3 hx hqe c0 c1 c2 mx1;generalize wr.heap.size=bx at *
      go_wp2_with fail
      refine jZg 12 1 (·<12) (by kernel_rfl) (by kernel_rfl) rfl ?_
      iterate 12 (refine jZ3 (fun K hK=>?_);first|(refine kZr rfl ?_;go_simp;refine hK _ ?_;clear hK K)|(apply Exists.intro;refine ⟨.inl ⟨rfl,fun w' hw'=>?_⟩,?_⟩;(focus ((obtain ⟨hc,hf⟩:=kZi hw'.out);(have hcS:=kZq hw'.out);go_simp <;> rfl));(go_simp;refine hK _ ?_;clear hK K)))
      refine jZ9 ?_;refine jZ1 (by kernel_rfl) (fun w4 hg4=>?_);have hb4:=jZs hg4.out;refine jZn (i:=12) (by kernel_rfl) rfl rfl ?_;go_simp;have HI4:=hD (HI3.out.keep hb4);have HW4:=hD (HW3.out.keep hb4);have HB4:=hD (jZa HB3.out hb4);clear HI3 HW3 HB3 hb4 hg4 x0 x1 x2;have hsl:k+1=(segI (L.map Ln.wt) a (k+1)).length:=(qZw (by rw [List.length_map];exact ham)).symm
      refine (fZs w.heap.size a (k+1) _ _ _ O (segI (L.map Ln.wt) a (k+1)) _ _ HI4.out hsl (by rw [HOL.out];exact ham) HOB.out (HW4.out.seg a (k+1)) (seg_ok HWW.out (by omega) (by rw [List.length_map];exact ham)) hmx0 hmx1).mono ?_;rintro e w5 ⟨⟨v,rfl⟩,hi5,hg5⟩;have HW5:=hD (HW4.out.but hg5 (by omega));have HB5:=hD (pZk HB4.out hg5 (Nat.le_refl _) HB4.out.size)
      have hst:vZj (L.map Ln.wt) O ⟨(a:Int),((k+1:Nat):Int),need⟩=qZg O a (jZt (mx (need-q) 0) (segI (L.map Ln.wt) a (k+1))):=by
       unfold vZj;rw [<- HQ.out]
       rfl
      rw [<- hst] at hi5;have HI5:=hD hi5;clear hi5 hst hg5 HI4 HW4 HB4
      dsimp only
      refine jZq (by kernel_rfl) ?_;refine sZs ?_;go_wp2
      go_roundw
      case rel=>exact ⟨j+1,by omega,by go_num,by rw [HRO.out,if_pos (by simp)];exact HI5.out,HW5.out,HB5.out⟩
      case measure=>simp [intOf];omega
     ·have hz:((m:Int) == (k:Int)+1)=false:=by simpa using hmk
      rw [if_neg hmk] at hro;have HRO:=hD hro;have HB:=hD (jZd (o:=(.cells #[.int .i64 (a:Int),.int .i64 (m:Int),.int .i64 need] 191 (0,0))) HB.out);have HI:=hD (HI.out.keep (jZd (o:=(.cells #[.int .i64 (a:Int),.int .i64 (m:Int),.int .i64 need] 191 (0,0))) (Below.refl _ _)))
      have HW:=hD (HW.out.keep (jZd (o:=(.cells #[.int .i64 (a:Int),.int .i64 (m:Int),.int .i64 need] 191 (0,0))) (Below.refl _ _)));clear hro;go_wp2
      go_roundw
      case rel=>exact ⟨j+1,by omega,by go_num,by rw [HRO.out];exact HI.out,HW.out,HB.out⟩
      case measure=>simp [intOf];omega
    ·have hd2:decide ((j:Int)<(S.length:Int))=false:=decide_eq_false (by omega);have he:S.take j=S:=List.take_of_length_le (by omega);rw [he] at hI;have HI:=hD hI;have HW:=hD hWr;have HB:=hD hBr;clear hI hWr hBr he;go_wp2
     go_roundw
     case rel=>exact ⟨k+1,by omega,by go_num,HI.out,HW.out,HB.out⟩
     case measure=>simp [intOf];omega
  ·have hd:decide ((k:Int)<(L.length:Int))=false:=decide_eq_false (by omega)
   obtain rfl:k=L.length:=by omega
   have HI:=hD hI;have HB:=hD hBr;clear hI hBr hWr;go_wp2;go_ret;exact ⟨rfl,HI.out,HB.out⟩
theorem vZ8 {L:List Ln} {S:List Sp} (hL:kZd L=true) (hS:pZ7 L.length S):Bd L.length (150+(S.map fun s=>s.need).foldr (·+·) 0) (kZl L S):=by
 obtain ⟨hO,hW⟩:=tZw hL;have h1:=hZn (S:=S) hW (by simp) hS.2 hO L.length;have b1:=fZn hS.2 L.length;exact ⟨h1.1,h1.2.1,by have:=h1.2.2;show sumI (reqN _ _ _ _)≤_;omega⟩
theorem tZo {L:List Ln} {S:List Sp} (hL:kZd L=true) (hS:pZ7 L.length S):Smal 1000000000000000 (kZl L S)∧(kZl L S).length=L.length:=by
 have h:=vZ8 hL hS;have hl:=(kZz hL).2;have b2:=uZj (n:=L.length) (S:=S) (B:=1000000000020) (by omega) (fun s h=>by obtain ⟨a,m,e1,e2,h1,h2,h3,h4⟩:=hS.2 s h;exact h4);have hS8:=hS.1;have hx:=h.eachW (by omega);exact ⟨tZ2 (b:=100000000000000) (fun x hx'=>by have:=hx x hx';omega) (by omega) (by rw [h.1];omega),h.1⟩
end
def kZt (L:List Int):List Value:=L.map (Value.int .i64)
theorem rZn (L:List Int) (x:Int):kZt L ++ [.int .i64 x]=kZt (L ++ [x]):=by simp [kZt]
def OB (w:World) (g cap:Nat) (L:List Int):Prop:=L.length≤cap∧∃ cs:Array Value,w.heap[g]?=some (.cells cs 3 (0,0))∧cs.size=cap∧∀ (i:Nat) (x:Int),L[i]?=some x→cs[i]?=some (Value.int .i64 x)
theorem OB.lt {w:World} {g cap:Nat} {L:List Int} (h:OB w g cap L):g<w.heap.size:=by obtain ⟨_,cs,hh,_⟩:=h;exact ltS hh
theorem OB.keep {w w':World} {g cap:Nat} {L:List Int} (h:OB w g cap L) (hb:Below w.heap.size w w'):OB w' g cap L:=by
 obtain ⟨hl,cs,hh,hs,hc⟩:=h;exact ⟨hl,cs,(hb.block g (ltS hh)).trans hh,hs,hc⟩
theorem OB.cell {w:World} {g cap i:Nat} {L:List Int} {x:Int} (h:OB w g cap L) (hx:L[i]?=some x):w.cell? ⟨g,i,none⟩=some (.int .i64 x):=by
 obtain ⟨hl,cs,hh,hs,hc⟩:=h;exact (jZc hh i).trans (hc i x hx)
theorem OB.frozen {w:World} {g cap:Nat} {L:List Int} (h:OB w g cap L) (i:Nat):w.frozen? ⟨g,i,none⟩=false:=by
 obtain ⟨hl,cs,hh,hs,hc⟩:=h;exact jZm hh i
theorem OB.set {w:World} {g cap:Nat} {L:List Int} (h:OB w g cap L) (i:Nat) (y:Int) (hi:i<L.length):OB (w.setCell ⟨g,i,none⟩ (.int .i64 y)) g cap (L.set i y):=by
 obtain ⟨hl,cs,hh,hs,hc⟩:=h;refine ⟨by rw [List.length_set];exact hl,_,putS hh _,by simp [hs],fun k x hk=>?_⟩
 by_cases e:i=k
 ·subst e;rw [List.getElem?_set_self hi] at hk;obtain rfl:=Option.some.inj hk;rw [Array.getElem?_setIfInBounds_self_of_lt (by omega)]
 ·rw [List.getElem?_set_ne e] at hk;rw [Array.getElem?_setIfInBounds_ne e];exact hc k x hk
theorem OB.nv {w:World} {g cap:Nat} {L:List Int} (h:OB w g cap L):NV w (some ⟨g,0,none⟩) L :=
 ⟨fun _=>⟨g,0,rfl,h.lt,fun i x hx=>by rw [Nat.zero_add];exact h.cell hx⟩⟩
theorem vZk {w:World} {base n:Nat} {v:Value} {M:List Int} (h:w.ownsRow base 3 1 v n (kZt M)) (hn:n=M.length) :
  (v=.slice none 0 0∧M=[])∨∃ g cap,v=.slice (some ⟨g,0,none⟩) n cap∧base≤g∧OB w g cap M:=by
 rcases h.2 with ⟨rfl,h0⟩ | ⟨g,cap,cur,rfl,hb,hg,hc,_,hs,ht⟩
 ·exact .inl ⟨rfl,List.length_eq_zero_iff.1 (by omega)⟩
 ·refine .inr ⟨g,cap,rfl,hb,by omega,cur,hg,by omega,fun i x hx=>?_⟩
  have e:(kZt M)[i]?=some (Value.int .i64 x):=by simp [kZt,hx]
  have hi:=(List.getElem?_eq_some_iff.1 hx).1;rw [<- ht,List.getElem?_take] at e;rw [if_pos (by omega)] at e
  simpa using e
theorem rZx:∃ (i:TypeInfo) (z:Value),Tryz.prog.info? 3=some i∧i.zero=some z∧i.size=1∧i.bytes=8∧z.cells.size=1:=by
 have hinfo:(Tryz.prog.info? 3).map (fun i=>(i.zero,i.size,i.bytes))=some (some (.int .i64 0),1,8):=by kernel_rfl
 obtain ⟨i,hi,h1,h2,h3⟩:=info_parts hinfo;exact ⟨i,_,hi,h1,h2,h3,rfl⟩
theorem newW (W:World) (x:Int) (T:TypeId):∀ (j:Nat) (u:Value),[Value.int .i64 x][j]?=some u→(W.alloc (.cells #[.int .i64 x] T)).cell? ((⟨W.heap.size,0,none⟩:Addr).add j)=some u:=fun j u h=>by
 have hadd:(⟨W.heap.size,0,none⟩:Addr).add j=⟨W.heap.size,j,none⟩:=by unfold Addr.add;split <;> simp_all
 rw [hadd];exact (jZc (newS W _) j).trans (by simpa using h)
theorem qZr {n:Nat} {a W w5:World} {v:Value} {o:Obj} {lo hi:Nat} (h:Below n a W) (hg:(W.alloc o).grownBy w5 v.ownBlock) (hob:∀ k,v.ownBlock=some k→lo≤k∧k<hi) (hlo:n≤lo) (hn:n≤a.heap.size):Below n a w5 :=
 have h':Below n a (W.alloc o):=h.alloc (Nat.le_trans hn h.size) o
 ⟨hg.os.trans h'.os,hg.tape.trans h'.tape,hg.output.trans h'.output,Nat.le_trans h'.size hg.size,fun k hk=>(hg.block k (Nat.lt_of_lt_of_le (Nat.lt_of_lt_of_le hk hn) h'.size) (fun e=>by have:=hob k e.symm;omega)).trans (h'.block k hk)⟩
section
attribute [local go_sem 5000] kZk kZj
theorem OB.seg {w:World} {g cap:Nat} {L:List Int} (h:OB w g cap L) (a m:Nat):NV w (some ⟨g,a,none⟩) (segI L a m):=by
 have:=NV.sub (off:=0) h.lt (fun i x hx=>by rw [Nat.zero_add];exact h.cell hx) a m
 rwa [Nat.zero_add] at this
theorem LnV.sub {w:World} {b off:Nat} {L:List Ln} (hb:b<w.heap.size) (h:∀ i p,L[i]?=some p→w.cell? ⟨b,off+i*2,none⟩=some (.int .i64 p.wt)∧w.cell? ⟨b,off+i*2+1,none⟩=some (.int .i64 p.mi)) (i j:Nat):LnV w (some ⟨b,off+i*2,none⟩) ((L.drop i).take j) :=
 ⟨fun _=>⟨b,off+i*2,rfl,hb,fun k x hx=>by
  rw [List.getElem?_take] at hx
  split at hx
  ·rw [List.getElem?_drop] at hx
   have:=h (i+k) x hx
   rwa [show off+(i+k)*2=off+i*2+k*2 from by omega] at this
  ·cases hx⟩⟩
theorem cZ9 {α:Type} {f:α→Int} {L:List α} {k:Nat} {x:α} (h:L[k]?=some x):(L.map f).take (k+1)=(L.map f).take k ++ [f x]:=by
 obtain ⟨hk,e⟩:=List.getElem?_eq_some_iff.1 h;rw [List.take_succ_eq_append_getElem (by simpa using hk)]
 simp [e]
theorem tZ9 (A:Option Addr) (c n:Nat) (L:List Ln) (w:World) (h:LnV w A L) (hn:n=L.length) (hL:L.length≤8) :
  Calls Tryz.prog 177 #[.slice A n c] w fun e w'=>(∃ A' c',e=.returned (.slice A' n c')∧NV w' A' (L.map Ln.wt))∧Below w.heap.size w w':=by
 subst hn;obtain ⟨ti,tz,ti1,ti2,ti3,ti4,ti5⟩:=rZx
 go_enter Tryz.func177,Tryz.ntmps177
 go_wp2_with fail
 have ho0:(w.alloc (.cells #[] 3 (0,0))).ownsRow w.heap.size 3 1 (.slice (some ⟨w.heap.size,0,none⟩) 0 0) 0 (kZt []):=World.ownsRow_lit (base:=w.heap.size) (e:=3) (size:=1) w #[] 0 (Nat.le_refl _) (by decide) rfl;have HO:=hD ho0;have HB:=hD (jZd (o:=(.cells #[] 3 (0,0))) (Below.refl w.heap.size w));clear ho0
 go_loopw [3,4] (fun out i wr=>∃ k:Nat,k≤L.length∧i=.int .i64 k∧wr.ownsRow w.heap.size 3 1 out k (kZt ((L.map Ln.wt).take k))∧Below w.heap.size w wr) (fun _ i _=>L.length-(intOf i).toNat)
 case atStart=>exact ⟨0,by omega,rfl,HO.out,HB.out⟩
 case round =>
  obtain ⟨k,hk,rfl,ho,hB⟩:=hrel;clear HO HB
  by_cases hlt:k<L.length
  ·have hd:decide ((k:Int)<(L.length:Int))=true:=by simpa using hlt
   obtain ⟨b,off,rfl,hb,hp⟩:=(h.keep hB).cells (by omega);have hget:L[k]?=some L[k]:=List.getElem?_eq_getElem hlt;obtain ⟨c0,c1⟩:=hp k _ hget;have hts:=cZ9 (f:=Ln.wt) hget;generalize L[k]=x at *;have hob:=ho.lt;have hw3:w.heap.size≤wr.heap.size:=hB.size;have HO:=hD ho;have HB:=hD hB;have HTS:=hD hts;clear ho hB hts hp hget
   go_wp2_with (at_builtin;refine wpList_append_own _ rfl _ _ 47 rfl w.heap.size 3 ti tz 1 8 Tryz.underlying47 ti1 ti2 ti3 ti4 ti5 (by decide) _ _ _ rfl (HO.out.alloc _) ⟨wr.heap.size,0,none⟩ 1 1 [.int .i64 x.wt] rfl rfl (newW _ _ _) (by simp [Value.oneCell']) (by simp only [maxLen];omega) (by omega) (by simp;omega) ?_)
   intro v5 w5 how5 hgr5 _;rw [rZn,<- HTS.out] at how5;replace HB:=hD (qZr HB.out hgr5 hob (Nat.le_refl _) (Nat.le_refl _));replace HO:=hD how5;clear how5 hgr5 hob c0 c1;go_wp2
   go_roundw
   case rel=>exact ⟨k+1,by omega,by go_num,by simpa using HO.out,HB.out⟩
   case measure=>simp [intOf];omega
  ·have hd:decide ((k:Int)<(L.length:Int))=false:=decide_eq_false (by omega)
   obtain rfl:k=L.length:=by omega
   have he:(L.map Ln.wt).take L.length=L.map Ln.wt:=List.take_of_length_le (by simp);rw [he] at ho;have HB:=hD hB
   rcases vZk ho (by simp) with ⟨rfl,hM⟩ | ⟨g,cap,rfl,hbg,hO⟩
   ·have hL0:L.length=0:=by simpa using congrArg List.length hM
    have HM:=hD hM;have HL0:=hD hL0;clear ho hB hM hL0 he;go_wp2;go_ret;exact ⟨⟨none,0,by rw [HL0.out];rfl,⟨fun h0=>absurd h0 (by rw [HM.out];simp)⟩⟩,HB.out⟩
   ·have HO:=hD hO.nv;clear ho hB hO he;go_wp2;go_ret;exact ⟨⟨_,cap,rfl,HO.out⟩,HB.out⟩
end
theorem cZi {w w':World} {base:Nat} {e:TypeId} {size:Nat} {v:Value} {n:Nat} {xs:List Value} (h:w.ownsRow base e size v n xs) (hb:Below w.heap.size w w'):w'.ownsRow base e size v n xs :=
 h.kept (row:=none) ⟨hb.os,hb.tape,hb.output,hb.size,fun k hk _=>hb.block k hk⟩ (by cases v.ownBlock <;> simp)
def idsN (f:Nat→Bool) (n:Nat):List Nat:=(List.range n).filter f
def idsM (f:Nat→Bool) (n:Nat):List Int:=(idsN f n).map (fun (k:Nat)=>(k:Int))
theorem eZi {f:Nat→Bool} {k:Nat} (h:f k=true):idsM f (k+1)=idsM f k ++ [(k:Int)]:=by simp [idsM,idsN,List.range_succ,List.filter_append,h]
theorem eZn {f:Nat→Bool} {k:Nat} (h:f k=false):idsM f (k+1)=idsM f k:=by simp [idsM,idsN,List.range_succ,List.filter_append,h]
theorem vZ4 (f:Nat→Bool) (k:Nat):(idsM f k).length≤k:=by
 unfold idsM idsN;rw [List.length_map];exact Nat.le_trans (List.length_filter_le _ _) (by simp)
def KdV (w:World) (v:Value) (L:List Int):Prop:=∃ A c,v=.slice A L.length c∧NV w A L∧L.length≤c
theorem KdV.of {w:World} {base:Nat} {v:Value} {L:List Int} (h:w.ownsRow base 3 1 v L.length (kZt L)):KdV w v L:=by
 rcases vZk h rfl with ⟨rfl,hM⟩ | ⟨g,cap,rfl,hbg,hO⟩
 ·exact ⟨none,0,by rw [hM];rfl,⟨fun h0=>absurd h0 (by rw [hM];simp)⟩,by rw [hM];simp⟩
 ·exact ⟨_,cap,rfl,hO.nv,hO.1⟩
theorem cZ0 (G:Nat) (hE:∀ args w,(callFunc G args).run Tryz.prog w=.ok (.enter G args) w) (n:Nat) (f:Nat→Bool) (caps:Array Value) (w:World) (hn:n≤1048576)
  (hf:∀ k,k<n→∀ W,Below w.heap.size w W→Calls Tryz.prog G (#[.int .i64 (k:Int)] ++ caps) W fun e W'=>e=.returned (.bool (f k))∧Below W.heap.size W W') :
  Calls Tryz.prog 81 #[.int .i64 (n:Int),.func (.func G) #[] caps] w fun e w'=>(∃ v,e=.returned v∧w'.ownsRow w.heap.size 3 1 v (idsM f n).length (kZt (idsM f n)))∧Below w.heap.size w w':=by
 obtain ⟨ti,tz,ti1,ti2,ti3,ti4,ti5⟩:=rZx;have HF:=hD hf;clear hf;refine kZ7 Tryz.func81 rfl 20 (by simp only [Tryz.ntmps81]) (by simp) (fun t hsz hargs=>?_);have q0:t[0]?=some (.int .i64 (n:Int)):=pZl (by omega) (hargs 0 _ rfl);have q1:t[1]?=some (.func (.func G) #[] caps):=pZl (by omega) (hargs 1 _ rfl);clear hargs;obtain ⟨l0,e0⟩:=gE q0;obtain ⟨l1,e1⟩:=gE q1
 refine jZe fun K hK=>?_
 apply wp_region_lit
 repeat (first | go_step)
 refine hK.out _ _ ?_;clear hK K;refine jZy (fun t' W'=>t'.size=20∧t'[0]?=some (.int .i64 (n:Int))∧t'[1]?=some (.func (.func G) #[] caps)∧w=W') ⟨by simp [hsz],by simp [q0],by simp [q1],rfl⟩ ?_;clear hsz q0 l0 e0 q1 l1 e1 t;rintro t _ ⟨hsz,q0,q1,rfl⟩;obtain ⟨l0,e0⟩:=gE q0;obtain ⟨l1,e1⟩:=gE q1
 refine jZe fun K hK=>?_
 apply wp_region_lit
 repeat (first | go_step)
 refine hK.out _ _ ?_;clear hK K;refine jZy (fun t' W'=>t'.size=20∧t'[0]?=some (.int .i64 (n:Int))∧t'[1]?=some (.func (.func G) #[] caps)∧t'[5]?=some (.slice none 0 0)∧w=W') ⟨by simp [hsz],by simp [q0],by simp [q1],by simp [hsz],rfl⟩ ?_;clear hsz q0 l0 e0 q1 l1 e1 t;rintro t _ ⟨hsz,q0,q1,q5,rfl⟩
 refine jZe fun KE hKE=>?_
 obtain ⟨l0,e0⟩:=gE q0;obtain ⟨l1,e1⟩:=gE q1;obtain ⟨l5,e5⟩:=gE q5
 refine jZe fun K hK=>?_
 apply wp_region_lit
 repeat (first | go_step)
 refine hK.out _ _ ?_;clear hK K;refine jZy (fun t' W'=>t'.size=20∧t'[1]?=some (.func (.func G) #[] caps)∧t'[5]?=some (.slice none 0 0)∧t'[7]?=some (.int .i64 (n:Int))∧t'[8]?=some (.int .i64 ((0:Nat):Int))∧w=W') ⟨by simp [hsz],by simp [q1],by simp [q5],by simp [hsz],by simp [hsz],rfl⟩ ?_;clear hsz q0 l0 e0 q1 l1 e1 q5 l5 e5 t;rintro t _ ⟨hsz,q1,q5,q7,q8,rfl⟩;apply wp_block
 refine wp_loop (fun a W=>∃ (t:Array Value) (k:Nat) (v:Value),a=⟨t,[]⟩∧k≤n∧t.size=20∧t[1]?=some (.func (.func G) #[] caps)∧t[5]?=some (v)∧t[7]?=some (.int .i64 (n:Int))∧t[8]?=some (.int .i64 (k:Int))∧W.ownsRow w.heap.size 3 1 v (idsM f k).length (kZt (idsM f k))∧Below w.heap.size w W) (fun a _=>n-(intOf (a.tmps.getD 8 undef)).toNat) ⟨t,0,.slice none 0 0,rfl,by omega,hsz,q1,q5,q7,q8,⟨rfl,.inl ⟨rfl,rfl⟩⟩,Below.refl _ _⟩ ?_
 clear t hsz q1 q5 q7 q8;rintro a W ⟨t,k,v,rfl,hk,hsz,q1,q5,q7,q8,hO,hB⟩
 have hmu:intOf (t.getD 8 undef)=(k:Int):=by rw [Array.getD_eq_getD_getElem?,q8];rfl
 dsimp only
 rw [hmu];clear hmu;have HO:=hD hO;have HB:=hD hB;clear hO hB
 by_cases hlt:k<n
 ·have hd:decide ((k:Int)<(n:Int))=true:=by simpa using hlt
  obtain ⟨l1,e1⟩:=gE q1;obtain ⟨l5,e5⟩:=gE q5;obtain ⟨l7,e7⟩:=gE q7;obtain ⟨l8,e8⟩:=gE q8
  refine jZe fun K hK=>?_
  apply wp_region_lit
  repeat (first | go_step)
  refine hK.out _ _ ?_;clear hK K;refine jZy (fun t' W'=>t'.size=20∧t'[1]?=some (.func (.func G) #[] caps)∧t'[5]?=some (v)∧t'[7]?=some (.int .i64 (n:Int))∧t'[8]?=some (.int .i64 (k:Int))∧t'[9]?=some (.bool true)∧W=W') ⟨by simp [hsz],by simp [q1],by simp [q5],by simp [q7],by simp [q8],by simp [hsz,hd],rfl⟩ ?_;clear hsz q1 l1 e1 q5 l5 e5 q7 l7 e7 q8 l8 e8 t;rintro t _ ⟨hsz,q1,q5,q7,q8,q9,rfl⟩
  clear hd
  refine jZe fun K1 hK1=>?_
  refine wp_cond_true (by simp [Act.eval,q9]) ?_;apply wp_skip;simp only [Exit.then];refine hK1.out _ _ ?_;clear hK1 K1 q9
  refine jZe fun KB hKB=>?_
  apply wp_block;obtain ⟨l1,e1⟩:=gE q1;obtain ⟨l5,e5⟩:=gE q5;obtain ⟨l7,e7⟩:=gE q7;obtain ⟨l8,e8⟩:=gE q8
  refine jZe fun K hK=>?_
  apply wp_region_lit
  repeat (first | go_step)
  refine hK.out _ _ ?_;clear hK K;refine jZy (fun t' W'=>t'.size=20∧t'[1]?=some (.func (.func G) #[] caps)∧t'[5]?=some (v)∧t'[6]?=some (.int .i64 (k:Int))∧t'[7]?=some (.int .i64 (n:Int))∧t'[8]?=some (.int .i64 (k:Int))∧W=W') ⟨by simp [hsz],by simp [q1],by simp [q5],by simp [hsz],by simp [q7],by simp [q8],rfl⟩ ?_;clear hsz q1 l1 e1 q5 l5 e5 q7 l7 e7 q8 l8 e8 t;rintro t _ ⟨hsz,q1,q5,q6,q7,q8,rfl⟩
  obtain ⟨l1,e1⟩:=gE q1;obtain ⟨l5,e5⟩:=gE q5;obtain ⟨l6,e6⟩:=gE q6;obtain ⟨l7,e7⟩:=gE q7;obtain ⟨l8,e8⟩:=gE q8;have hlen:=vZ4 f k
  refine jZe fun K hK=>?_
  apply wp_region_lit
  repeat go_step
  refine (HF.out k hlt _ HB.out).mono ?_;rintro e W1 ⟨rfl,hb1⟩
  dsimp only
  repeat go_step
  refine hK.out _ _ ?_;clear hK K;have hob:=HO.out.lt;replace HO:=hD (cZi HO.out hb1);replace HB:=hD (jZa HB.out hb1);have hs1:=hb1.size;clear hb1
  refine jZy (fun t' W'=>t'.size=20∧t'[1]?=some (.func (.func G) #[] caps)∧t'[5]?=some (v)∧t'[6]?=some (.int .i64 (k:Int))∧t'[7]?=some (.int .i64 (n:Int))∧t'[8]?=some (.int .i64 (k:Int))∧t'[13]?=some (.bool (f k))∧W1=W') ⟨by simp [hsz],by simp [q1],by simp [q5],by simp [q6],by simp [q7],by simp [q8],by simp [hsz],rfl⟩ ?_;clear hsz q1 l1 e1 q5 l5 e5 q6 l6 e6 q7 l7 e7 q8 l8 e8 t
  rintro t _ ⟨hsz,q1,q5,q6,q7,q8,q13,rfl⟩;obtain ⟨l1,e1⟩:=gE q1
  by_cases hfk:f k=true
  ·have hids:=eZi hfk;rw [hfk] at q13;refine wp_cond_true (by simp [Act.eval,q13]) ?_;clear l1 e1 q13;obtain ⟨l1,e1⟩:=gE q1;obtain ⟨l5,e5⟩:=gE q5;obtain ⟨l6,e6⟩:=gE q6;obtain ⟨l7,e7⟩:=gE q7;obtain ⟨l8,e8⟩:=gE q8;have hob:∀ b,v.ownBlock=some b→w.heap.size≤b∧b<W1.heap.size:=HO.out.lt;have hw1:w.heap.size≤W1.heap.size:=HB.out.size;apply wp_region_lit
   repeat (first|((with_reducible show wpList _ _ _ _ _ _);refine wpList_append_own _ rfl _ _ 47 rfl w.heap.size 3 ti tz 1 8 Tryz.underlying47 ti1 ti2 ti3 ti4 ti5 (by decide) v _ _ (by simp [Act.eval,Act.put,hsz,e5]) (HO.out.alloc _) ⟨W1.heap.size,0,none⟩ 1 1 [.int .i64 (k:Int)] (by simp [Act.eval,Act.put,hsz]) rfl (newW _ _ _) (by simp [Value.oneCell']) (by simp only [maxLen];omega) (by omega) (by simp;omega) ?_) | go_step)
   intro v5 w5 how5 hgr5 _;have hb5:=qZr HB.out hgr5 hob (Nat.le_refl _) (Nat.le_refl _);rw [rZn,<- hids] at how5
   have hlen5:(idsM f k).length+1=(idsM f (k+1)).length:=by rw [hids];simp
   rw [hlen5] at how5;clear hlen5 hids
   repeat go_step
   try simp only [Exit.inBlock]
   refine hKB.out _ _ ?_;clear hKB KB;refine jZy (fun t' W'=>t'.size=20∧t'[1]?=some (.func (.func G) #[] caps)∧t'[5]?=some (v5)∧t'[7]?=some (.int .i64 (n:Int))∧t'[8]?=some (.int .i64 (k:Int))∧w5=W') ⟨by simp [hsz],by simp [q1],by simp [hsz],by simp [q7],by simp [q8],rfl⟩ ?_;clear hsz q1 l1 e1 q5 l5 e5 q6 l6 e6 q7 l7 e7 q8 l8 e8 t hob hw1;rintro t _ ⟨hsz,q1,q5,q7,q8,rfl⟩;obtain ⟨l1,e1⟩:=gE q1
   obtain ⟨l5,e5⟩:=gE q5;obtain ⟨l7,e7⟩:=gE q7;obtain ⟨l8,e8⟩:=gE q8;apply wp_region_lit
   repeat go_step
   try simp only [Exit.then]
   refine ⟨⟨_,k+1,v5,rfl,by omega,by simp [hsz],by simp [q1],by simp [q5],by simp [q7],by simp [hsz],how5,hb5⟩,?_⟩
   ·simp [hsz,intOf]
    omega
  ·have hfk':f k=false:=by simpa using hfk
   have hids:=eZn hfk';rw [hfk'] at q13;refine wp_cond_false (by simp [Act.eval,q13]) ?_;clear l1 e1 q13;apply wp_skip
   try simp only [Exit.inBlock]
   refine hKB.out _ _ ?_;clear hKB KB;obtain ⟨l1,e1⟩:=gE q1;obtain ⟨l5,e5⟩:=gE q5;obtain ⟨l6,e6⟩:=gE q6;obtain ⟨l7,e7⟩:=gE q7;obtain ⟨l8,e8⟩:=gE q8;apply wp_region_lit
   repeat go_step
   try simp only [Exit.then]
   refine ⟨⟨_,k+1,v,rfl,by omega,by simp [hsz],by simp [q1],by simp [q5],by simp [q7],by simp [hsz],by rw [hids];exact HO.out,HB.out⟩,?_⟩
   ·simp [hsz,intOf]
    omega
 ·have hd:decide ((k:Int)<(n:Int))=false:=decide_eq_false (by omega);obtain ⟨l1,e1⟩:=gE q1;obtain ⟨l5,e5⟩:=gE q5;obtain ⟨l7,e7⟩:=gE q7;obtain ⟨l8,e8⟩:=gE q8
  refine jZe fun K hK=>?_
  apply wp_region_lit
  repeat (first | go_step)
  refine hK.out _ _ ?_;clear hK K;refine jZy (fun t' W'=>t'.size=20∧t'[1]?=some (.func (.func G) #[] caps)∧t'[5]?=some (v)∧t'[7]?=some (.int .i64 (n:Int))∧t'[8]?=some (.int .i64 (k:Int))∧t'[9]?=some (.bool false)∧W=W') ⟨by simp [hsz],by simp [q1],by simp [q5],by simp [q7],by simp [q8],by simp [hsz,hd],rfl⟩ ?_;clear hsz q1 l1 e1 q5 l5 e5 q7 l7 e7 q8 l8 e8 t;rintro t _ ⟨hsz,q1,q5,q7,q8,q9,rfl⟩
  refine jZe fun K1 hK1=>?_
  refine wp_cond_false (by simp [Act.eval,q9]) ?_;apply wp_exit;simp only [Exit.then,Exit.inBlock,if_true];refine hKE.out _ _ ?_;clear hd
  obtain rfl:k=n:=by omega
  obtain ⟨l1,e1⟩:=gE q1;obtain ⟨l5,e5⟩:=gE q5;obtain ⟨l7,e7⟩:=gE q7;obtain ⟨l8,e8⟩:=gE q8;obtain ⟨l9,e9⟩:=gE q9
  repeat go_step
  refine bodyPost_ret (results_tmp rfl _ _ _) rfl ?_;exact ⟨⟨v,by simp [hsz],HO.out⟩,HB.out⟩
def sZb (R:List Nr) (i:Int) (k:Nat):Bool:=match R[k]? with
 | some p=>p.n.pa == i
 | none=>false
def kidsN (R:List Nr) (i:Int):List Nat:=idsN (sZb R i) R.length
def kidsM (R:List Nr) (i:Int):List Int:=idsM (sZb R i) R.length
theorem hZv {R:List Nr} {i:Int} {k:Nat} {p:Nr} (h:R[k]?=some p):sZb R i k=(p.n.pa == i):=by unfold sZb;rw [h]
theorem kid1_v (A:Option Addr) (c:Nat) (R:List Nr) (i:Int) (k bt bi:Nat) (w:World) (h:NrV w A R) (hk:k<R.length) (ht:w.cell? ⟨bt,0,none⟩=some (.slice A R.length c)) (hi:w.cell? ⟨bi,0,none⟩=some (.int .i64 i)) (lt:bt<w.heap.size) (li:bi<w.heap.size) (hL:R.length≤1048576) :
  Calls Tryz.prog 122 #[.int .i64 (k:Int),.pointer (some ⟨bt,0,none⟩),.pointer (some ⟨bi,0,none⟩)] w fun e w'=>e=.returned (.bool (sZb R i k))∧Below w.heap.size w w':=by
 have hget:R[k]?=some R[k]:=List.getElem?_eq_getElem hk;obtain ⟨b,off,rfl,hb,hp⟩:=h.cells (by omega);have x0:w.cell? ⟨b,off+k*34,none⟩=some (.int .i64 R[k].n.pa):=hp k _ hget 0 _ rfl;rw [hZv hget];generalize R[k]=p at *
 have hd1:(k:Int)<(R.length:Int):=by omega
 clear hget hp h
 go_enter Tryz.func122,Tryz.ntmps122
 go_wp2_with fail
 refine jZg 8 1 (·<8) (by kernel_rfl) (by kernel_rfl) rfl ?_
 iterate 8 (refine jZ3 (fun K hK=>?_);first|(refine kZr rfl ?_;go_simp;refine hK _ ?_;clear hK K)|(apply Exists.intro;refine ⟨.inl ⟨rfl,fun w' hw'=>?_⟩,?_⟩;(focus ((obtain ⟨hc,hf⟩:=kZi hw'.out);(have hcS:=kZq hw'.out);go_simp <;> first | rfl));(go_simp;refine hK _ ?_;clear hK K)))
 refine jZ9 ?_;refine jZ1 (by kernel_rfl) (fun wa hga=>?_);have hba:=jZs hga.out;obtain ⟨hca,hfa⟩:=kZi hba;refine jZn (i:=8) (by kernel_rfl) rfl rfl ?_;go_simp;refine jZq (by kernel_rfl) ?_;refine kZ0.thn ?_;clear hca hfa;clear hga;go_wp2;go_ret;exact ⟨rfl,hba⟩
section
section
variable {P:Program}
def XV (u:Value):Value→World→Prop:=fun v _=>v=u
def XT:Value→World→Prop:=fun _ _=>True
def Stay (T:Value→World→Prop):Prop:=∀ v a b,T v a→Gr a b→T v b
theorem qZn (u:Value):Stay (XV u):=fun _ _ _ h _=>h
theorem qZo:Stay XT:=fun _ _ _ _ _=>trivial
theorem kZh {F:Value→World→Prop} (h:∀ v a b,F v a→Below a.heap.size a b→F v b):Stay F:=fun v a b x g=>h v a b x g.out
theorem uZ3 {l:List (Value→World→Prop)} (h:∀ T∈l,Stay T):∀ k v a b,(l.getD k XT) v a→Gr a b→(l.getD k XT) v b:=by
 intro k v a b hv g;rw [List.getD_eq_getElem?_getD] at *
 cases hk:l[k]? with
 | none=>trivial
 | some T=>rw [hk] at hv;exact h T (List.mem_of_getElem? hk) v a b hv g
def GIx (_:Nat) (_:World):Prop:=True
theorem qZs {K:Value→World→Prop} {r:Result Next} (h:∀ K':Value→World→Prop,(∀ v w',K v w'→K' v w')→kZx P K' r):kZx P K r:=h K fun _ _ h=>h
theorem cZd {T:Nat→Value→World→Prop} {a0 a:Act} {w:World} {G G':Prop} (hG:G→G'):∀ {ds:List (Tmp × Option Nat)},eZj T a0 a w ds G→eZj T a0 a w ds G'
 | [],h=>hG h
 | (t,some j) :: r,h=>fun x=>cZd (ds:=r) hG (h x)
 | (t,none) :: r,h=>fun x=>cZd (ds:=r) hG (h x)
theorem eZf {K K':Value→World→Prop} (hK:∀ v w,K v w→K' v w) {r:Result Next} (h:kZx P K r):kZx P K' r:=by
 unfold kZx at *
 split at h
 ·exact hK _ _ h
 ·exact hK _ _ h
 ·exact h.mono fun e w' ⟨v,e1,e2⟩=>⟨v,e1,hK _ _ e2⟩
 ·exact h.elim
theorem jZb {ops:List Oper} {T:Nat→Value→World→Prop} {a0:Act} {w0:World} {k:Nat} {o:Oper} (ds:List (Tmp × Option Nat)) (hB:dsB ops o ds=true) (hg:o.guard=none)
  (h:∀ (a:Act) (w:World),Gr w0 w→eZj T a0 a w ds (kZx P (fun v w'=>T k v w'∧Gr w w') ((execOp a.eval o).run P w))):opOK P ops T Gr GIx a0 w0 k o :=
 jZw ds hB hg fun m a w _ hR _=>cZd (fun x=>eZf (fun v w' ⟨h1,h2⟩=>⟨h1,h2,trivial⟩) x) (h a w hR)
theorem kZ8 {id:Nat} {l:List Oper} {Q:Exit→Act→World→Prop} {a0:Act} {w:World} (tl:List (Value→World→Prop))
  (hm:P.follows .mixedOrders=true) (hB:rgB l a0.tmps.size=true) (hTs:∀ T∈tl,Stay T)
  (hops:cZf P l (fun k=>tl.getD k XT) Gr GIx a0 w.drew l 0) (hfin:∀ w',Gr w.drew w'→finP (fun k=>tl.getD k XT) w' (fun a'=>Q .normal a' w') l 0 a0):(Code.region id l.toArray true).wp P Q a0 w :=
 dZy (fun k=>tl.getD k XT) Gr GIx hm hB Gr.refl (fun _ _ _ h k=>h.trans k) (uZ3 hTs) trivial hops fun w' h _=>hfin w' h
end
end
theorem gxB {P:Program} {W w':World} {K:Value→World→Prop} {r:Result Next} (hw:Gr W.drew w') (h:∀ K':Value→World→Prop,(∀ v w',K v w'→K' v w')→(∀ b o,b<W.heap.size→w'.cell? ⟨b,o,none⟩=W.cell? ⟨b,o,none⟩)→(∀ b o,b<W.heap.size→w'.frozen? ⟨b,o,none⟩=W.frozen? ⟨b,o,none⟩)→kZx P K' r):kZx P K r:=h K (fun _ _ h=>h) (kZi (jZs hw.out)).1 (kZi (jZs hw.out)).2
end Go.Proofs.YtfnpdlnepjhljaaGreat
