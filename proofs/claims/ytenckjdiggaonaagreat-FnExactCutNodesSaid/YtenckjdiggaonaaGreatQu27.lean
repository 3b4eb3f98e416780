import Derived.Test.YtenckjdiggaonaaGreatQu26
set_option linter.unusedVariables false
set_option linter.unusedSimpArgs false
set_option maxRecDepth 100000
set_option maxHeartbeats 16000000
namespace Go.Proofs.YtenckjdiggaonaaGreat
open Go.RowKit
attribute [local go_sem] growUpon_value growUpon_skip growUpon_enter
section
attribute [local go_sem] Oper.semAt_some
attribute [local go_sem] givesUpon_value givesUpon_skip givesUpon_enter
def zeroNrA:Array Value:=(valsNr zeroNr).toArray
def zeroWd:Wd:=⟨zeroNr,0,0,none,0,0⟩
theorem made_zero:∃ f:Nat→Array Value,(∀ n,(f n).size=n*37)∧(∀ n i,i<n→InS (f n) (i*37) (valsWd zeroWd))∧∀ (n:Nat) (w:World),n≤1048576→(Instr.makeSlice 105 (.int .i64 (n:Int)) (.int .i64 (n:Int))).run Tryz.prog w=.ok (.slice (some ⟨w.heap.size,0,none⟩) n n) (w.alloc (.cells (f n) 108)):=by
 obtain ⟨i,z,hi,h1,h2,h3,h4⟩:∃ (i:TypeInfo) (z:Value),Tryz.prog.info? 108=some i∧i.zero=some z∧i.size=37∧i.bytes≤512∧z.cells=(valsWd zeroWd).toArray:=by
  have h:(Tryz.prog.info? 108).map (fun i=>(i.size,decide (i.bytes≤512),i.zero.map Value.cells))=some (37,true,some (valsWd zeroWd).toArray):=by kernel_rfl
  cases hq:Tryz.prog.info? 108 with
  | none=>rw [hq] at h;cases h
  | some i =>
   rw [hq] at h;simp only [Option.map_some,Option.some.injEq,Prod.mk.injEq] at h;obtain ⟨e1,e2,e3⟩:=h
   cases hz:i.zero with
   | none=>rw [hz] at e3;cases e3
   | some z=>rw [hz] at e3;exact ⟨i,z,rfl,hz,e1,by simpa using e2,by simpa using e3⟩
 refine ⟨fun n=>madeCells z.cells (n*37),fun n=>size_madeCells _ _,fun n k hk j u hj=>?_,fun n w hn=>?_⟩
 ·have hj37:j<37:=by have:=(List.getElem?_eq_some_iff.1 hj).1;rwa [valsWd_len] at this
  have hlt:k*37+j<n*37:=by
   have:(k+1)*37≤n*37:=Nat.mul_le_mul_right 37 hk
   omega
  have hm:(k*37+j) % 37=j:=by omega
  have hs:z.cells.size=37:=by rw [h4];rfl
  have hq:z.cells[j]?=some u:=by rw [h4];simpa only [List.getElem?_toArray] using hj
  obtain ⟨hlt2,he⟩:=gE hq;clear hj h4;unfold madeCells;rw [Array.getElem?_map,Array.getElem?_range,if_pos hlt,Option.map_some,hs,hm,getElem!_pos z.cells j hlt2,he]
 ·have e:((i.bytes*n:Nat):Int)≤((512*1048576:Nat):Int):=Int.ofNat_le.2 (Nat.mul_le_mul h3 hn);rw [Int.natCast_mul] at e;have hr:=run_make (P:=Tryz.prog) w 105 108 i _ Tryz.underlying105 hi h1 .i64 .i64 n n (by omega) (Int.le_refl _) (Int.le_trans e (by decide)) (by omega);rw [h2] at hr
  simpa using hr
def KidA (lo:Nat) (w:World) (A:Option Addr) (M:List Int):Prop:=(A=none∧M=[]) ∨ ∃ g cap,A=some ⟨g,0,none⟩∧lo≤g∧OB w g cap M
theorem KidA.nv {lo:Nat} {w:World} {A:Option Addr} {M:List Int} (h:KidA lo w A M):NV w A M:=by
 rcases h with ⟨rfl,rfl⟩ | ⟨g,cap,rfl,_,h⟩
 ·exact NV.nil _ _
 ·exact h.nv
theorem KidA.same {lo:Nat} {w w':World} {A:Option Addr} {M:List Int} (h:KidA lo w A M) (hs:∀ (g:Nat),lo≤g→∀ cs:Array Value,w.heap[g]?=some (.cells cs 3 (0,0))→w'.heap[g]?=w.heap[g]?):KidA lo w' A M:=by
 rcases h with ⟨rfl,rfl⟩ | ⟨g,cap,rfl,hl,h⟩
 ·exact .inl ⟨rfl,rfl⟩
 ·obtain ⟨_,cs,hh,_⟩:=id h;exact .inr ⟨g,cap,rfl,hl,h.sameL (hs g hl cs hh)⟩
theorem KidA.keep {lo:Nat} {w w':World} {A:Option Addr} {M:List Int} (h:KidA lo w A M) (hb:Below w.heap.size w w'):KidA lo w' A M:=h.same fun g _ cs hg=>hb.block g (ltS hg)
def KdA (lo:Nat) (w:World) (v:Value) (M:List Int):Prop:=∃ A c,v=.slice A M.length c∧KidA lo w A M
theorem KdA.keep {lo:Nat} {w w':World} {v:Value} {M:List Int} (h:KdA lo w v M) (hb:Below w.heap.size w w'):KdA lo w' v M:=let ⟨A,c,e,k⟩:=h;⟨A,c,e,k.keep hb⟩
theorem KdA.of {lo lo':Nat} {w:World} {v:Value} {M:List Int} (h:GO lo' w v M) (hl:lo≤lo'):KdA lo w v M:=by
 rcases h with ⟨rfl,rfl⟩ | ⟨g,cap,n,rfl,rfl,h1,h2⟩
 ·exact ⟨none,0,rfl,.inl ⟨rfl,rfl⟩⟩
 ·exact ⟨_,cap,rfl,.inr ⟨g,cap,rfl,by omega,h2⟩⟩
def IsWd (lo:Nat) (w:World) (x:Wd) (p:Nr) (q:Int × Int) (M:List Int):Prop:=x.p=p∧(x.sw,x.sh)=q∧x.kn=M.length∧KidA lo w x.ka M
theorem IsWd.keep {lo:Nat} {w w':World} {x:Wd} {p:Nr} {q:Int × Int} {M:List Int} (h:IsWd lo w x p q M) (hb:Below w.heap.size w w'):IsWd lo w' x p q M:=⟨h.1,h.2.1,h.2.2.1,h.2.2.2.keep hb⟩
def WdV (lo:Nat) (w:World) (v:Value) (p:Nr) (q:Int × Int) (M:List Int):Prop:=∃ x:Wd,v=.agg (valsWd x).toArray∧IsWd lo w x p q M
theorem WdV.keep {lo:Nat} {w w':World} {v:Value} {p:Nr} {q:Int × Int} {M:List Int} (h:WdV lo w v p q M) (hb:Below w.heap.size w w'):WdV lo w' v p q M:=let ⟨x,e,k⟩:=h;⟨x,e,k.keep hb⟩
theorem run_bW (p:Nr) (a b:Int) (A:Option Addr) (n c:Nat) (w:World):(Instr.build 108 #[(0,.agg (valsNr p).toArray),(1,.agg #[.int .i64 a,.int .i64 b]),(2,.slice A n c)]).run Tryz.prog w=.ok (.agg (valsWd ⟨p,a,b,A,n,c⟩).toArray) w:=by kernel_rfl
def WdK (lo:Nat) (w:World) (R:List Nr) (i:Nat) (x:Wd):Prop:=∃ p,R[i]?=some p∧IsWd lo w x p (szM (R.map Nr.n) i) ((kidD (R.map Nr.n) i).map fun (k:Nat)=>(k:Int))
structure StW (w:World) (A:Option Addr) (c:Nat) (R:List Nr) (k:Nat) (W:World):Prop where
 t:W.heap[w.heap.size]?=some (.cells #[.slice A R.length c] 30 (0,0))
 s:W.heap[w.heap.size+1+1]?=some (.cells #[.slice (some ⟨w.heap.size+1,0,none⟩) R.length R.length] 105 (0,0))
 b:W.heap[w.heap.size+1+1+1]?=some (.cells #[.slice A R.length c] 28 (0,0))
 x:∃ X:List Wd,X.length=R.length∧RbK 37 W (w.heap.size+1) 108 (X.map valsWd)∧∀ i x,X[i]?=some x→R.length≤i+k→WdK (w.heap.size+4) W R i x
 l:Below w.heap.size w W
 z:w.heap.size+4≤W.heap.size
theorem StW.same {w W W':World} {A:Option Addr} {c:Nat} {R:List Nr} {k:Nat} (h:StW w A c R k W) (hb:Below w.heap.size W W') (hc:∀ (g:Nat) (cs:Array Value) (T:TypeId),W.heap[g]?=some (.cells cs T (0,0))→W'.heap[g]?=W.heap[g]?):StW w A c R k W':=by
 obtain ⟨t,s,b,⟨X,x1,x2,x3⟩,l,z⟩:=h;have x2':=x2;obtain ⟨cs,hh,_⟩:=x2';refine ⟨(hc _ _ _ t).trans t,(hc _ _ _ s).trans s,(hc _ _ _ b).trans b,⟨X,x1,x2.keep' (hc _ _ _ hh),fun i x hx hi=>?_⟩,l.trans hb,Nat.le_trans z hb.size⟩;obtain ⟨p,hp,k1,k2,k3,k4⟩:=x3 i x hx hi;exact ⟨p,hp,k1,k2,k3,k4.same fun g _ cs hg=>hc g cs _ hg⟩
theorem StW.below {w W W':World} {A:Option Addr} {c:Nat} {R:List Nr} {k:Nat} (h:StW w A c R k W) (hb:Below W.heap.size W W'):StW w A c R k W':=h.same (hb.mono (by have:=h.z;omega)) fun g cs T hg=>hb.block g (ltS hg)
theorem InS_append {cs:Array Value} {o:Nat} {A B:List Value}:InS cs o (A ++ B) ↔ InS cs o A∧InS cs (o+A.length) B:=by
 constructor
 ·intro h;refine ⟨fun j u hj=>h j u ?_,fun j u hj=>?_⟩
  ·rw [List.getElem?_append_left (List.getElem?_eq_some_iff.1 hj).1];exact hj
  ·rw [Nat.add_assoc];refine h (A.length+j) u ?_;rw [List.getElem?_append_right (by omega)]
   simpa using hj
 ·rintro ⟨h1,h2⟩ j u hj
  by_cases hl:j<A.length
  ·rw [List.getElem?_append_left hl] at hj;exact h1 j u hj
  ·rw [List.getElem?_append_right (by omega)] at hj
   have:=h2 _ u hj
   rwa [show o+A.length+(j - A.length)=o+j by omega] at this
theorem RbK.set {k:Nat} {w:World} {g:Nat} {T:TypeId} {R:List (List Value)} (h:RbK k w g T R) (hR:∀ vs ∈ R,vs.length=k) {j:Nat} {vs:List Value} (hv:vs.length=k) (hj:j<R.length):RbK k (w.setCells g (j*k) vs) g T (R.set j vs):=by
 obtain ⟨cs,hh,hs,hc⟩:=h;have e:(j+1)*k≤R.length*k:=Nat.mul_le_mul_right k hj;rw [Nat.add_mul,Nat.one_mul] at e;refine ⟨_,heap_setCells vs (j*k) _ _ hh,by rw [wrAt_size,hs,List.length_set],fun i us hi hu=>?_⟩
 by_cases ei:i=j
 ·subst ei;rw [List.getElem?_set_self (by simpa using hj)] at hu;obtain rfl:=Option.some.inj hu;exact InS.write (by rw [hv,hs];omega)
 ·rw [List.getElem?_set_ne (fun e=>ei e.symm)] at hu;have hil:=(List.getElem?_eq_some_iff.1 hu).1;refine (hc i us hil hu).keepS ?_;rw [hR us (List.mem_of_getElem? hu),hv]
  rcases Nat.lt_or_gt_of_ne ei with hlt | hlt
  ·left
   have e2:(i+1)*k≤j*k:=Nat.mul_le_mul_right k hlt;rw [Nat.add_mul,Nat.one_mul] at e2;omega
  ·right
   have e2:(j+1)*k≤i*k:=Nat.mul_le_mul_right k hlt;rw [Nat.add_mul,Nat.one_mul] at e2;omega
theorem RbK.wish {w:World} {g:Nat} {T:TypeId} {X:List Wd} (h:RbK 37 w g T (X.map valsWd)) {j:Nat} {x:Wd} (hx:X[j]?=some x) (a b:Int):RbK 37 (w.setCells g (j*37+34) (valsWi (a,b))) g T ((X.set j { x with sw:=a,sh:=b }).map valsWd):=by
 obtain ⟨cs,hh,hs,hc⟩:=h;have hj:=(List.getElem?_eq_some_iff.1 hx).1;rw [List.length_map] at hs;have e:(j+1)*37≤X.length*37:=Nat.mul_le_mul_right 37 hj;refine ⟨_,heap_setCells _ (j*37+34) _ _ hh,by rw [wrAt_size,hs,List.length_map,List.length_set],fun i us hi hu=>?_⟩;rw [List.getElem?_map] at hu
 by_cases ei:i=j
 ·subst ei;rw [List.getElem?_set_self hj] at hu;obtain rfl:=Option.some.inj hu;have h0:=hc i (valsWd x) (by rw [List.length_map];exact hj) (by rw [List.getElem?_map,hx];rfl);unfold valsWd at h0 ⊢;rw [show ([.int .i64 x.sw,.int .i64 x.sh,.slice x.ka x.kn x.kc]:List Value)=valsWi (x.sw,x.sh) ++ [.slice x.ka x.kn x.kc] from rfl,InS_append,InS_append] at h0
  rw [show ([.int .i64 a,.int .i64 b,.slice x.ka x.kn x.kc]:List Value)=valsWi (a,b) ++ [.slice x.ka x.kn x.kc] from rfl,InS_append,InS_append];refine ⟨h0.1.keepS (.inl (by rw [valsNr_len];omega)),InS.write (by rw [hs];show _+34+2≤_;omega),h0.2.2.keepS (.inr ?_)⟩
  show i*37+34+2≤i*37+34+2
  omega
 ·rw [List.getElem?_set_ne (fun e=>ei e.symm)] at hu
  cases hxi:X[i]? with
  | none=>rw [hxi] at hu;cases hu
  | some y =>
   rw [hxi] at hu;obtain rfl:=Option.some.inj hu;have hil:=(List.getElem?_eq_some_iff.1 hxi).1;refine (hc i (valsWd y) (by rw [List.length_map];exact hil) (by rw [List.getElem?_map,hxi];rfl)).keepS ?_;rw [valsWd_len]
   show _ ∨ j*37+34+2≤_
   omega
theorem KidA.sets {lo g o:Nat} {w:World} {A:Option Addr} {M:List Int} (h:KidA lo w A M) (hg:g<lo) (vs:List Value):KidA lo (w.setCells g o vs) A M:=h.same fun b hb cs _=>heap_setCells_ne (by omega) vs o w
structure StM (w:World) (A:Option Addr) (c:Nat) (R:List Nr) (j:Nat) (x:Wd) (W:World):Prop where
 t:W.heap[w.heap.size]?=some (.cells #[.slice A R.length c] 30 (0,0))
 s:W.heap[w.heap.size+1+1]?=some (.cells #[.slice (some ⟨w.heap.size+1,0,none⟩) R.length R.length] 105 (0,0))
 b:W.heap[w.heap.size+1+1+1]?=some (.cells #[.slice A R.length c] 28 (0,0))
 x:∃ X:List Wd,X.length=R.length∧RbK 37 W (w.heap.size+1) 108 (X.map valsWd)∧X[j]?=some x∧∀ i x,X[i]?=some x→j<i→WdK (w.heap.size+4) W R i x
 l:Below w.heap.size w W
 z:w.heap.size+4≤W.heap.size
theorem WdK.sets {lo g o i:Nat} {w:World} {R:List Nr} {x:Wd} (h:WdK lo w R i x) (hg:g<lo) (vs:List Value):WdK lo (w.setCells g o vs) R i x:=let ⟨p,hp,a,b,c,d⟩:=h;⟨p,hp,a,b,c,d.sets hg vs⟩
theorem WdK.keep {lo i:Nat} {w w':World} {R:List Nr} {x:Wd} (h:WdK lo w R i x) (hb:Below w.heap.size w w'):WdK lo w' R i x:=let ⟨p,hp,a⟩:=h;⟨p,hp,a.keep hb⟩
theorem StM.keep {w W W':World} {A:Option Addr} {c:Nat} {R:List Nr} {j:Nat} {x:Wd} (h:StM w A c R j x W) (hb:Below W.heap.size W W'):StM w A c R j x W':=by
 obtain ⟨t,s,b,⟨X,x1,x2,x3,x4⟩,l,z⟩:=h;exact ⟨(hb.block _ (ltS t)).trans t,(hb.block _ (ltS s)).trans s,(hb.block _ (ltS b)).trans b,⟨X,x1,x2.keep hb,x3,fun i x hx hi=>(x4 i x hx hi).keep hb⟩,bkeep2 l hb,Nat.le_trans z hb.size⟩
theorem StM.wish {w W:World} {A:Option Addr} {c:Nat} {R:List Nr} {j:Nat} {x:Wd} (h:StM w A c R j x W) (a b:Int):StM w A c R j { x with sw:=a,sh:=b } (W.setCells (w.heap.size+1) (j*37+34) (valsWi (a,b))):=by
 obtain ⟨t,s,b',⟨X,x1,x2,x3,x4⟩,l,z⟩:=h;refine ⟨(heap_setCells_ne (by omega) _ _ _).trans t,(heap_setCells_ne (by omega) _ _ _).trans s,(heap_setCells_ne (by omega) _ _ _).trans b',⟨_,by rw [List.length_set,x1],x2.wish x3 a b,List.getElem?_set_self (List.getElem?_eq_some_iff.1 x3).1,fun i y hy hi=>?_⟩,below_setCells (by omega) _ _ _ l,by rw [size_setCellsT];exact z⟩
 rw [List.getElem?_set_ne (by omega)] at hy;exact (x4 i y hy hi).sets (by omega) _
theorem StM.done {w W:World} {A:Option Addr} {c:Nat} {R:List Nr} {j k:Nat} {x:Wd} (h:StM w A c R j x W) (hx:WdK (w.heap.size+4) W R j x) (hj:j+(k+1)=R.length):StW w A c R (k+1) W:=by
 obtain ⟨t,s,b,⟨X,x1,x2,x3,x4⟩,l,z⟩:=h;refine ⟨t,s,b,⟨X,x1,x2,fun i y hy hi=>?_⟩,l,z⟩
 by_cases e:i=j
 ·subst e;rw [x3] at hy;obtain rfl:=Option.some.inj hy;exact hx
 ·exact x4 i y hy (by omega)
theorem StW.put {w W:World} {A:Option Addr} {c:Nat} {R:List Nr} {j k:Nat} (h:StW w A c R k W) (hj:R.length≤j+(k+1)) (hj2:j+k<R.length) (x:Wd):StM w A c R j x (W.setCells (w.heap.size+1) (j*37) (valsWd x)):=by
 obtain ⟨t,s,b',⟨X,x1,x2,x4⟩,l,z⟩:=h;refine ⟨(heap_setCells_ne (by omega) _ _ _).trans t,(heap_setCells_ne (by omega) _ _ _).trans s,(heap_setCells_ne (by omega) _ _ _).trans b',⟨X.set j x,by rw [List.length_set,x1],?_,List.getElem?_set_self (by omega),fun i y hy hi=>?_⟩,below_setCells (by omega) _ _ _ l,by rw [size_setCellsT];exact z⟩
 ·rw [List.map_set];exact x2.set (fun vs hv=>by obtain ⟨y,_,rfl⟩:=List.mem_map.1 hv;exact valsWd_len y) (valsWd_len x) (by rw [List.length_map];omega)
 ·rw [List.getElem?_set_ne (by omega)] at hy;exact (x4 i y hy (by omega)).sets (by omega) _
theorem keepsFrom_setCells {B g:Nat}:∀ (vs:List Value) (o:Nat) (w:World),KeepsFrom B w (w.setCells g o vs)
 | [],o,w=>KeepsFrom.refl B w
 | v :: r,o,w=>((KeepsOthers.setCell w ⟨g,o,none⟩ v).from B).trans (keepsFrom_setCells r (o+1) (w.setCell ⟨g,o,none⟩ v))
theorem KidA.any {lo:Nat} {w:World} {A:Option Addr} {M:List Int} (h:KidA lo w A M):KidA 0 w A M:=by
 rcases h with h | ⟨g,cap,e,_,h⟩
 ·exact .inl h
 ·exact .inr ⟨g,cap,e,Nat.zero_le _,h⟩
def SetV (lo:Nat) (w:World) (R:List Nr) (v:Value):Prop:=∃ (g:Nat) (X:List Wd),v=.slice (some ⟨g,0,none⟩) R.length R.length∧lo≤g∧X.length=R.length∧RbK 37 w g 108 (X.map valsWd)∧∀ i x,X[i]?=some x→WdK 0 w R i x
theorem SetV.keep {lo:Nat} {w w':World} {R:List Nr} {v:Value} (h:SetV lo w R v) (hb:Below w.heap.size w w'):SetV lo w' R v:=let ⟨g,X,e,hl,h1,h2,h3⟩:=h;⟨g,X,e,hl,h1,h2.keep hb,fun i x hx=>(h3 i x hx).keep hb⟩
theorem StW.all {w W:World} {A:Option Addr} {c:Nat} {R:List Nr} (h:StW w A c R R.length W):SetV w.heap.size W R (.slice (some ⟨w.heap.size+1,0,none⟩) R.length R.length):=by
 obtain ⟨t,s,b,⟨X,x1,x2,x3⟩,l,z⟩:=h;exact ⟨_,X,rfl,by omega,x1,x2,fun i x hx=>let ⟨p,hp,a1,a2,a3,a4⟩:=x3 i x hx (by omega);⟨p,hp,a1,a2,a3,a4.any⟩⟩
theorem four (w:World) (o1 o2 o3 o4:Obj):∃ W,(((w.alloc o1).alloc o2).alloc o3).alloc o4=W∧W.heap[w.heap.size]?=some o1∧W.heap[w.heap.size+1]?=some o2∧W.heap[w.heap.size+1+1]?=some o3∧W.heap[w.heap.size+1+1+1]?=some o4∧W.heap.size=w.heap.size+4∧Below w.heap.size w W:=by
 have n1:=World.alloc_heap_new w o1;have n2:=World.alloc_heap_new (w.alloc o1) o2;have n3:=World.alloc_heap_new ((w.alloc o1).alloc o2) o3;have n4:=World.alloc_heap_new (((w.alloc o1).alloc o2).alloc o3) o4;simp only [World.size_alloc] at n1 n2 n3 n4;refine ⟨_,rfl,?_,?_,?_,n4,by simp,?_⟩
 ·exact (Below.heap_alloc _ _ _ (by simp;omega)).trans ((Below.heap_alloc _ _ _ (by simp;omega)).trans ((Below.heap_alloc _ _ _ (by simp)).trans n1))
 ·exact (Below.heap_alloc _ _ _ (by simp)).trans ((Below.heap_alloc _ _ _ (by simp)).trans n2)
 ·exact (Below.heap_alloc _ _ _ (by simp)).trans n3
 ·exact ((((Below.refl _ w).alloc (Nat.le_refl _) _).alloc (by simp) _).alloc (by simp;omega) _).alloc (by simp;omega) _
theorem stNI {l n:Nat} {P:Program} {ops:Array Oper} {rest:List Oper} {op:Oper} {a:Act} {w:World} {Q:Exit→Act→World→Prop} (T:TypeId) (x y:Operand) (vs:List Value) (b o:Nat) (hgd:op.guard=none) (ho:op.op=.store T x y) (hx:a.eval x=.pointer (some ⟨b,o,none⟩)) (hy:a.eval y=.agg vs.toArray)
  (ht:w.there b o vs.length) (hi:(P.info? T).map (·.size)=some vs.length) (h1:one vs)
  (h:wpListIn (Fence.wide.inRound l) n P ops Q rest (a.put op.dst undef) (w.setCells b o vs)):wpListIn (Fence.wide.inRound l) n P ops Q (op :: rest) a w :=
 wpListIn_plain hgd fun K hK=>opLift (Q0:=fun _ _ _=>False) (by unfold noDef;rw [ho]) (fun _ _ _ _ h=>h) (fun _ _ h=>h) (wp_store_mid T x y ho b o vs.toArray hx hy (by simpa using ht) (by simpa using hi) (all_oneCell_toArray h1) (hK _ _ (by simpa using h)))
theorem settled_v (A:Option Addr) (c:Nat) (R:List Nr) (hT:TrOK (R.map Nr.n)) (w:World) (h:NrV w A R) (hr:RdR w R) (hL:R.length≤10) :
  Calls Tryz.prog 87 #[.agg #[.slice A R.length c]] w fun e w'=>(∃ v,e=.returned v∧SetV w.heap.size w' R v)∧Below w.heap.size w w':=by
 obtain ⟨fm,hfm,hfz,hmk0⟩:=made_zero
 have hmk:=fun w=>hmk0 R.length w (by omega)
 have HFM:=Lib.hid hfm;have HFZ:=Lib.hid hfz;have HNV:=Lib.hid h;have HRD:=Lib.hid hr;clear hmk0 hfm hfz h hr;refine (callsIn_wide (n:=6)).1 ?_;refine callsIn_of_wp_marks Tryz.func87 rfl trivial ?_ rfl
 simp only [Tryz.ntmps87,List.size_toArray,List.length_cons,List.length_nil,Nat.reduceAdd,Nat.reduceSub,Array.replicate_succ,Array.replicate_zero,List.push_toArray,List.append_toArray,List.nil_append,List.cons_append]
 gi_wp2_with (refine ⟨trivial,?_⟩;gi_at_call 125;refine (backwardN_in Fence.wide _ trivial rfl _ _ _ _).mono ?_;rintro e w' ⟨rfl,rfl⟩)
 clear hmk;obtain ⟨W0,hW0,n1,n2,n3,n4,hz,hb0⟩:=four w (.cells #[.slice A R.length c] 30) (.cells (fm R.length) 108) (.cells #[.slice (some ⟨w.heap.size+1,0,none⟩) R.length R.length] 105) (.cells #[.slice A R.length c] 28);rw [hW0];clear hW0
 have hst:StW w A c R 0 W0:=⟨n1,n3,n4,⟨List.replicate R.length zeroWd,by simp,⟨_,n2,by rw [HFM.out];simp,fun i vs hi hv=>by
   simp at hi
   simp only [List.map_replicate,List.getElem?_replicate,if_pos hi,Option.some.injEq] at hv;subst hv
   exact HFZ.out _ _ hi⟩,fun i x hx hi=>by have:=(List.getElem?_eq_some_iff.1 hx).1;simp at this;omega⟩,hb0,by omega⟩
 clear n1 n2 n3 n4 hb0
 refine wpIn_rangeFunc_cnt rfl (by omega) (gf:=167) (lb:=#[.pointer (some ⟨w.heap.size+1+1+1,0,none⟩)]) rfl trivial (enters_of Tryz.func167 (by kernel_rfl) rfl)
  (bkc_in Fence.wide _ trivial rfl (by omega) (w.heap.size+1+1+1) A c R (by omega)) (fun _=>rfl)
  (StW w A c R) (fun k W W' h hk=>h.same (hk.1.mono (by omega)) fun g cs T hg=>hk.block hg) (fun k W h=>⟨cellS h.b 0,HNV.out.keep h.l⟩) hst
  (fun k a' W=>∃ nb,w.heap.size+4≤nb∧W.heap[nb]?=some (.cells (valsNr (nrAt R (R.length - 1 - k))).toArray 84 (0,0))∧a'={ tmps:=#[.agg #[.slice A R.length c],.pointer (some ⟨w.heap.size,0,none⟩),.slice none 0 0,.pointer (some ⟨w.heap.size+1+1,0,none⟩),.int .i64 ((R.length - 1 - k:Nat):Int),.pointer (some ⟨nb,0,none⟩),.pointer (some ⟨w.heap.size,0,none⟩),.slice A R.length c,.int .i64 (R.length:Int),.slice (some ⟨w.heap.size+1,0,none⟩) R.length R.length,.pointer (some ⟨w.heap.size,0,none⟩),.slice A R.length c,.func (.func 167) #[] #[.pointer (some ⟨w.heap.size+1+1+1,0,none⟩)],.int .i64 ((R.length - 1 - k:Nat):Int),.agg (valsNr (nrAt R (R.length - 1 - k))).toArray,undef,undef,undef,undef,undef,undef,undef,undef,undef,undef,undef,undef,undef,undef,undef,undef,undef,undef,undef,undef,undef,undef,undef,undef,undef,undef,undef,undef,undef,undef,undef,undef,undef,undef,undef,undef,undef,undef,undef,undef,undef,undef],defers:=[] })
  (fun k a' W W' h hk=>let ⟨nb,h1,h2,h3⟩:=h;⟨nb,h1,hk.cells h2,h3⟩)
  ?assign ?body ?done
 case assign =>
  rintro l k W K hk hI hK;simp only [encR]
  gi_wp2_with (refine stNI 84 (.tmp 5) (.tmp 14) (valsNr (nrAt R (R.length - 1 - k))) W.heap.size 0 rfl rfl rfl rfl (thereB (newS _ _) (by show (0+34:Nat)≤34;omega)) (by rw [valsNr_len];kernel_rfl) (valsNr_one _) ?_)
  have hbN:Below W.heap.size W ((W.alloc (.cells zeroNrA 84)).setCells W.heap.size 0 (valsNr (nrAt R (R.length - 1 - k)))):=below_setCells (Nat.le_refl _) _ _ _ (balloc (Below.refl _ _));exact hK _ _ (keepsFrom_below hbN) (hI.below hbN) ⟨W.heap.size,hI.z,new_fullW _ rfl rfl,rfl⟩
 case body =>
  rintro l k a' W hk hI ⟨nb,hnb,hn,rfl⟩
  obtain ⟨j,hj⟩:∃ j,R.length - 1 - k=j:=⟨_,rfl⟩
  rw [hj] at hn ⊢
  have hjl:j<R.length:=by omega
  have hget:R[j]?=some R[j]:=List.getElem?_eq_getElem hjl;rw [nrAt_get hget] at hn ⊢
  have hmg:(R.map Nr.n)[j]?=some R[j].n:=by rw [List.getElem?_map,hget];rfl
  generalize hp0:R[j]=p at *;have HI:=Lib.hid hI;have HN:=Lib.hid hn;have HG:=Lib.hid hget;have HMG:=Lib.hid hmg;have HJ:=Lib.hid hj;have ln:=ltS hn;have lt:=ltS hI.t;have ls:=ltS hI.s;have x1:W.cell? ⟨nb,1,none⟩=some (.int .i64 p.n.ww):=cellS hn 1;have x2:W.cell? ⟨nb,2,none⟩=some (.int .i64 p.n.hh):=cellS hn 2;have xt:=cellS hI.t 0;have xs:=cellS hI.s 0
  have hdj:(j:Int)<(R.length:Int):=by omega
  have hV:=HNV.out.keep hI.l
  obtain ⟨ks,hks⟩:∃ ks,(kidD (R.map Nr.n) j).map (fun (k:Nat)=>(k:Int))=ks:=⟨_,rfl⟩
  have HKS:=Lib.hid hks;have hge:w.heap.size+4≤W.heap.size:=hI.z;clear hI hn hget hmg hp0 hks hj;refine wpIn_block ?_
  refine wpIn_seq_k fun K1 hK1=>?_
  refine wpIn_region_liftAny (by kernel_rfl) (by kernel_rfl) ?_
  refine wpAny_rxp 13 1 #[true,true,true,true,true,true,true,true,true,true,true,true,true,false] (by kernel_rfl) (by kernel_rfl) (XV (.slice (some ⟨w.heap.size+1,0,none⟩) R.length R.length) :: XV (.int .i64 (j:Int)) :: XV (.agg (valsNr p).toArray) :: XV (.pointer (some ⟨nb,1,none⟩)) :: XV (.int .i64 p.n.ww) :: XV (.pointer (some ⟨nb,2,none⟩)) :: XV (.int .i64 p.n.hh) :: XV (.agg #[.int .i64 p.n.ww,.int .i64 p.n.hh]) :: XV (.agg #[.slice A R.length c]) :: XV (.int .i64 (j:Int)) :: (fun v z=>KdA (w.heap.size+4) z v ks) :: (fun v z=>WdV (w.heap.size+4) z v p (p.n.ww,p.n.hh) ks) :: XV (.pointer (some ⟨w.heap.size+1,j*37,none⟩)) :: []) (by kernel_rfl) (by kernel_rfl) ?hTs ?hops ?hfin
  case hTs =>
   intro T hT;simp only [List.mem_cons,List.not_mem_nil,or_false] at hT
   rcases hT with rfl | rfl | rfl | rfl | rfl | rfl | rfl | rfl | rfl | rfl | rfl | rfl | rfl <;> first | exact stay_V _ | exact stay_T | exact stay_of (fun v a b x g=>x.keep g) | exact stay_of (fun v a b x g=>x)
  case hops =>
   refine ⟨opOK_rx [(3,none)] (by kernel_rfl) rfl ?_,?_⟩
   ·intro act w' hw' h1;obtain ⟨hk,hf⟩:=evkf act;generalize act.eval=ρ at *;replace h1:ρ (.tmp 3)=.pointer (some ⟨w.heap.size+1+1,0,none⟩):=h1;refine gx_gen (fun K hK=>?_);obtain ⟨hc,hf'⟩:=bcell (bdrewn hw'.out);go_simp;exact hK _ _ ⟨rfl,Gr.refl _⟩
   refine ⟨opOK_rx [(4,none)] (by kernel_rfl) rfl ?_,?_⟩
   ·intro act w' hw' h1;obtain ⟨hk,hf⟩:=evkf act;generalize act.eval=ρ at *;replace h1:ρ (.tmp 4)=.int .i64 (j:Int):=h1;refine gx_gen (fun K hK=>?_);obtain ⟨hc,hf'⟩:=bcell (bdrewn hw'.out);go_simp;exact hK _ _ ⟨rfl,Gr.refl _⟩
   refine ⟨opOK_rx [(5,none)] (by kernel_rfl) rfl ?_,?_⟩
   ·intro act w' hw' h1;obtain ⟨hk,hf⟩:=evkf act;generalize act.eval=ρ at *;replace h1:ρ (.tmp 5)=.pointer (some ⟨nb,0,none⟩):=h1;refine gx_gen (fun K hK=>?_)
    simp only [execOp,h1,Instr.loadAt,Instr.sureAddr,Sem.run_bind,Sem.run_pure,Result.andThen_ok,run_loadVar_mid w' nb 0 84 (valsNr p) _ (rangeB (nodeAt HN.out) ((bdrewn hw'.out).block nb ln)) Tryz.underlying84 rfl (by rw [valsNr_len];kernel_rfl)];exact hK _ _ ⟨rfl,Gr.refl _⟩
   refine ⟨opOK_rx [(5,none)] (by kernel_rfl) rfl ?_,?_⟩
   ·intro act w' hw' h1;obtain ⟨hk,hf⟩:=evkf act;generalize act.eval=ρ at *;replace h1:ρ (.tmp 5)=.pointer (some ⟨nb,0,none⟩):=h1;refine gx_gen (fun K hK=>?_);obtain ⟨hc,hf'⟩:=bcell (bdrewn hw'.out);go_simp;exact hK _ _ ⟨rfl,Gr.refl _⟩
   refine ⟨opOK_rx [(18,some 3)] (by kernel_rfl) rfl ?_,?_⟩
   ·intro act w' hw' h1;obtain ⟨hk,hf⟩:=evkf act;generalize act.eval=ρ at *;replace h1:ρ (.tmp 18)=.pointer (some ⟨nb,1,none⟩):=h1;refine gx_gen (fun K hK=>?_);obtain ⟨hc,hf'⟩:=bcell (bdrewn hw'.out);go_simp;exact hK _ _ ⟨rfl,Gr.refl _⟩
   refine ⟨opOK_rx [(5,none)] (by kernel_rfl) rfl ?_,?_⟩
   ·intro act w' hw' h1;obtain ⟨hk,hf⟩:=evkf act;generalize act.eval=ρ at *;replace h1:ρ (.tmp 5)=.pointer (some ⟨nb,0,none⟩):=h1;refine gx_gen (fun K hK=>?_);obtain ⟨hc,hf'⟩:=bcell (bdrewn hw'.out);go_simp;exact hK _ _ ⟨rfl,Gr.refl _⟩
   refine ⟨opOK_rx [(20,some 5)] (by kernel_rfl) rfl ?_,?_⟩
   ·intro act w' hw' h1;obtain ⟨hk,hf⟩:=evkf act;generalize act.eval=ρ at *;replace h1:ρ (.tmp 20)=.pointer (some ⟨nb,2,none⟩):=h1;refine gx_gen (fun K hK=>?_);obtain ⟨hc,hf'⟩:=bcell (bdrewn hw'.out);go_simp;exact hK _ _ ⟨rfl,Gr.refl _⟩
   refine ⟨opOK_rx [(19,some 4),(21,some 6)] (by kernel_rfl) rfl ?_,?_⟩
   ·intro act w' hw' h1 h2;obtain ⟨hk,hf⟩:=evkf act;generalize act.eval=ρ at *;replace h1:ρ (.tmp 19)=.int .i64 p.n.ww:=h1;replace h2:ρ (.tmp 21)=.int .i64 p.n.hh:=h2;refine gx_gen (fun K hK=>?_);obtain ⟨hc,hf'⟩:=bcell (bdrewn hw'.out);go_simp;exact hK _ _ ⟨rfl,Gr.refl _⟩
   refine ⟨opOK_rx [(1,none)] (by kernel_rfl) rfl ?_,?_⟩
   ·intro act w' hw' h1;obtain ⟨hk,hf⟩:=evkf act;generalize act.eval=ρ at *;replace h1:ρ (.tmp 1)=.pointer (some ⟨w.heap.size,0,none⟩):=h1;refine gx_gen (fun K hK=>?_);obtain ⟨hc,hf'⟩:=bcell (bdrewn hw'.out);go_simp;exact hK _ _ ⟨rfl,Gr.refl _⟩
   refine ⟨opOK_rx [(4,none)] (by kernel_rfl) rfl ?_,?_⟩
   ·intro act w' hw' h1;obtain ⟨hk,hf⟩:=evkf act;generalize act.eval=ρ at *;replace h1:ρ (.tmp 4)=.int .i64 (j:Int):=h1;refine gx_gen (fun K hK=>?_);obtain ⟨hc,hf'⟩:=bcell (bdrewn hw'.out);go_simp;exact hK _ _ ⟨rfl,Gr.refl _⟩
   refine ⟨opOK_rx [(23,some 8),(24,some 9)] (by kernel_rfl) rfl ?_,?_⟩
   ·intro act w' hw' h1 h2;obtain ⟨hk,hf⟩:=evkf act;generalize act.eval=ρ at *;replace h1:ρ (.tmp 23)=.agg #[.slice A R.length c]:=h1;replace h2:ρ (.tmp 24)=.int .i64 (j:Int):=h2;refine gx_gen (fun K hK=>?_);obtain ⟨hc,hf'⟩:=bcell (bdrewn hw'.out);go_simp
    (refine (kidsOf_f A c R (j:Int) _ (hV.keep (bdrewn hw'.out)) (by omega)).mono ?_);rintro e w1 ⟨⟨v,rfl,hv⟩,hb1⟩;rw [kidsM_eq,HKS.out] at hv;exact ⟨_,rfl,hK _ _ ⟨KdA.of hv (Nat.le_trans hge (bdrewn hw'.out).size),hb1⟩⟩
   refine ⟨opOK_rx [(17,some 2),(22,some 7),(25,some 10)] (by kernel_rfl) rfl ?_,?_⟩
   ·intro act w' hw' h1 h2 h3;obtain ⟨hk,hf⟩:=evkf act;generalize act.eval=ρ at *;replace h1:ρ (.tmp 17)=.agg (valsNr p).toArray:=h1;replace h2:ρ (.tmp 22)=.agg #[.int .i64 p.n.ww,.int .i64 p.n.hh]:=h2;replace h3:(fun v z=>KdA (w.heap.size+4) z v ks) (ρ (.tmp 25)) w':=h3;refine gx_gen (fun K hK=>?_)
    obtain ⟨kA,kc,e3,hk3⟩:=h3;simp only [execOp,List.map_toArray,List.map_cons,List.map_nil,h1,h2,e3,Sem.run_bind,Sem.run_pure,run_bW,Result.andThen_ok];exact hK _ _ ⟨⟨_,rfl,rfl,rfl,rfl,hk3⟩,Gr.refl _⟩
   refine ⟨opOK_rx [(15,some 0),(16,some 1)] (by kernel_rfl) rfl ?_,?_⟩
   ·intro act w' hw' h1 h2;obtain ⟨hk,hf⟩:=evkf act;generalize act.eval=ρ at *;replace h1:ρ (.tmp 15)=.slice (some ⟨w.heap.size+1,0,none⟩) R.length R.length:=h1;replace h2:ρ (.tmp 16)=.int .i64 (j:Int):=h2;refine gx_gen (fun K hK=>?_);obtain ⟨hc,hf'⟩:=bcell (bdrewn hw'.out);go_simp;exact hK _ _ ⟨rfl,Gr.refl _⟩
   exact trivial
  case hfin =>
   intro w5 hg5;intro v15 t15;replace t15:v15=.slice (some ⟨w.heap.size+1,0,none⟩) R.length R.length:=t15;subst t15;intro v16 t16;replace t16:v16=.int .i64 (j:Int):=t16;subst t16;intro v17 t17;replace t17:v17=.agg (valsNr p).toArray:=t17;subst t17;intro v18 t18;replace t18:v18=.pointer (some ⟨nb,1,none⟩):=t18;subst t18;intro v19 t19;replace t19:v19=.int .i64 p.n.ww:=t19;subst t19;intro v20 t20
   replace t20:v20=.pointer (some ⟨nb,2,none⟩):=t20;subst t20;intro v21 t21;replace t21:v21=.int .i64 p.n.hh:=t21;subst t21;intro v22 t22;replace t22:v22=.agg #[.int .i64 p.n.ww,.int .i64 p.n.hh]:=t22;subst t22;intro v23 t23;replace t23:v23=.agg #[.slice A R.length c]:=t23;subst t23;intro v24 t24;replace t24:v24=.int .i64 (j:Int):=t24;subst t24;intro v25 t25
   replace t25:(fun v z=>KdA (w.heap.size+4) z v ks) v25 w5:=t25;intro v26 t26;replace t26:(fun v z=>WdV (w.heap.size+4) z v p (p.n.ww,p.n.hh) ks) v26 w5:=t26;intro v27 t27;replace t27:v27=.pointer (some ⟨w.heap.size+1,j*37,none⟩):=t27;subst t27;have hb5:=bdrewn hg5.out;clear hg5
   simp only [finP,List.take_succ_cons,List.take_zero,Act.put,List.setIfInBounds_toArray,List.set_cons_succ,List.set_cons_zero];obtain ⟨x,rfl,hx1,hx2,hx3,hx4⟩:=t26
   have hjk:j+(k+1)=R.length:=by have:=HJ.out;omega
   have hI5:=HI.out.below hb5;have hM:=hI5.put (j:=j) (by omega) (by omega) x;obtain ⟨X,X1,X2,-⟩:=hI5.x;refine wpAny_store 13 108 (.tmp 27) (.tmp 26) (w.heap.size+1) (j*37) (valsWd x) (by kernel_rfl) (by kernel_rfl) (by kernel_rfl) rfl rfl (by rw [valsWd_len];exact RpK.there X2 (by rw [List.length_map];omega)) (by rw [valsWd_len];kernel_rfl) (valsWd_one _) ?_;simp only [Exit.then]
   refine hK1 _ _ ?_;clear hK1 K1;have hKF:KeepsFrom W0.heap.size W (w5.setCells (w.heap.size+1) (j*37) (valsWd x)):=(keepsFrom_below hb5).trans (keepsFrom_setCells _ _ _);have hN6:(w5.setCells (w.heap.size+1) (j*37) (valsWd x)).heap[nb]?=some (.cells (valsNr p).toArray 84 (0,0)):=(heap_setCells_ne (by omega) _ _ _).trans ((hb5.block nb ln).trans HN.out)
   have hx6:KidA (w.heap.size+4) (w5.setCells (w.heap.size+1) (j*37) (valsWd x)) x.ka ks:=hx4.sets (by omega) _;clear hI5 X1 X2 hb5 t25 X hx4 x1 x2 xt xs ls lt ln hge hV HI
   revert hKF hN6 hx6 hM
   generalize w5.setCells (w.heap.size+1) (j*37) (valsWd x)=W6;intro hM hKF hN6 hx6;clear w5;have HM:=Lib.hid hM;have HK:=Lib.hid hKF;have HN:=Lib.hid hN6;have HX6:=Lib.hid hx6;have HX1:=Lib.hid hx1;have HX2:=Lib.hid hx2;have HX3:=Lib.hid hx3;have HJK:=Lib.hid hjk;have ln:=ltS hN6;have ls:=ltS hM.s;have y3:W6.cell? ⟨nb,3,none⟩=some (.bool p.n.ke):=cellS hN6 3;have xs:=cellS hM.s 0
   obtain ⟨X,X1,X2,X3,X4⟩:=hM.x;obtain ⟨cs,hcs,hss,hcc⟩:=X2;have hi6:InS cs (j*37) (valsWd x):=hcc j (valsWd x) (by rw [List.length_map];omega) (by rw [List.getElem?_map,X3];rfl)
   have x36:W6.cell? ⟨w.heap.size+1,j*37+36,none⟩=some (.slice x.ka ks.length x.kc):=by rw [cellS hcs,hi6 36 _ rfl];show some (Value.slice x.ka x.kn x.kc)=_;rw [hx3]
   have lw:=ltS hcs;clear X1 X3 X4 X hcs hss hcc hi6 cs hM hKF hN6 hx6 hx1 hx2 hx3 hjk
   refine wpIn_seq_k fun K2 hK2=>?_
   refine wpIn_region_lift (by kernel_rfl) ?_
   cases hke:p.n.ke
   ·by_cases hnil:ks=[]
    ·rw [hke] at y3
     have hl0:decide ((ks.length:Int) > 0)=false:=by simp [hnil]
     have hl1:decide ((0:Int)<(ks.length:Int))=false:=by simp [hnil]
     go_wp2;refine wpIn_cond_false rfl ?_;refine wpIn_skip ?_;simp only [Exit.inBlock];refine ⟨by first | rfl | trivial,HK.out,HM.out.done ⟨p,HG.out,HX1.out,?_,by rw [HKS.out];exact HX3.out,by rw [HKS.out];exact HX6.out⟩ HJK.out⟩;rw [HX2.out,szM_eq hT HMG.out];exact (askN_own (.inr (.inl (List.map_eq_nil_iff.1 (HKS.out.trans hnil))))).symm
    ·rw [hke] at y3;have hlp:=List.length_pos_iff.2 hnil
     have hl0:decide ((ks.length:Int) > 0)=true:=by simp;omega
     have hl1:decide ((0:Int)<(ks.length:Int))=true:=by simp;omega
     go_wp2;refine wpIn_cond_true rfl ?_
     obtain ⟨q,hq⟩:∃ q,szM (R.map Nr.n) j=q:=⟨_,rfl⟩
     have hkd:kidD (R.map Nr.n) j ≠ []:=fun e=>hnil (by rw [<- HKS.out,e];rfl)
     have hkl:∀ k ∈ kidD (R.map Nr.n) j,k<R.length:=fun k hk=>by have:=kidD_lt hk;rwa [List.length_map] at this
     have hk10:(kidD (R.map Nr.n) j).length≤10:=Nat.le_trans (kidD_len _ _) (by rw [List.length_map];exact hL);obtain ⟨X,X1,X2,X3,X4⟩:=HM.out.x
     obtain ⟨hp1,hp2⟩:=pick_pk (R:=R) (X:=X) (f:=szM (R.map Nr.n)) (ks:=kidD (R.map Nr.n) j) fun k hk=>by
      have hgt:=kid_gt hT hk;have hlt:=hkl k hk;have hy:X[k]?=some X[k]:=List.getElem?_eq_getElem (by omega);obtain ⟨r,hr,e1,e2,_⟩:=X4 k _ hy hgt;exact ⟨_,r,hy,hr,e1,e2⟩
     have hYl:(pickW X (kidD (R.map Nr.n) j)).length≤10:=by rw [pickW_len (fun k hk=>by have:=hkl k hk;omega)];exact hk10
     have hM1:=szM_eq hT HMG.out;rw [hq] at hM1
     have C0:=Lib.hid (show p.n.ki ≠ 1→p.n.ki ≠ 2→(∀ r ∈ (pickW X (kidD (R.map Nr.n) j)).map pkW,r.big)∧reqM ((pickW X (kidD (R.map Nr.n) j)).map pkW)=q from fun a1 a2=>by
      rw [hp1]
      exact ⟨pks_big hT _,(hM1.trans (askN_pk rfl hke hkd (by have:=(hT.sz j _ HMG.out).2.2;omega))).symm⟩)
     have C1:=Lib.hid (show p.n.ki=1→(linesB p.n.cs=true∧linesB p.n.rs=true)∧((∀ r ∈ (pickW X (kidD (R.map Nr.n) j)).map ceW,smW r)∧spansW p.n.cs.length (((pickW X (kidD (R.map Nr.n) j)).map ceW).map acM)∧spansW p.n.rs.length (((pickW X (kidD (R.map Nr.n) j)).map ceW).map dnM))∧gridM p.n.cs p.n.rs ((pickW X (kidD (R.map Nr.n) j)).map ceW)=q from fun a1=>by
      rw [hp2];obtain ⟨z1,z2,z3,_⟩:=ces_w hT HMG.out a1
      exact ⟨hT.li j _ HMG.out a1,⟨z1,z2,z3⟩,(hM1.trans (askN_gr rfl hke hkd a1)).symm⟩)
     have C2:=Lib.hid (show p.n.ki=2→(p.n.ww,p.n.hh)=q from fun a1=>(hM1.trans (askN_own (.inr (.inr a1)))).symm)
     have HAR:=Lib.hid (show ∀ W',Below W6.heap.size W6 W'→Calls Tryz.prog 88 #[.slice (some ⟨w.heap.size+1,0,none⟩) R.length R.length,.int .i64 (j:Int)] W' (fun e w'=>(∃ v,e=.returned v∧ArV w' v x (pickW X (kidD (R.map Nr.n) j)))∧Below W'.heap.size W' w') from fun W' hW'=>by
      have:=arranged_v (some ⟨w.heap.size+1,0,none⟩) R.length j X x (kidD (R.map Nr.n) j) W' (X2.v.keep hW') X3 (by omega) (fun k hk=>by have:=hkl k hk;omega) (by rw [HKS.out];exact HX6.out.nv.keep hW') (by rw [HX3.out,<- HKS.out,List.length_map]) (by rw [HX3.out,<- HKS.out,List.length_map];omega)
      rw [X1] at this
      exact this)
     have HRW:=Lib.hid (show W6.rangeAt (w.heap.size+1) (j*37+34) (valsWi (p.n.ww,p.n.hh)) from by
      obtain ⟨cs,hcs,hss,hcc⟩:=X2;have hi6:InS cs (j*37) (valsWd x):=hcc j (valsWd x) (by rw [List.length_map];omega) (by rw [List.getElem?_map,X3];rfl);unfold valsWd at hi6;rw [show ([.int .i64 x.sw,.int .i64 x.sh,.slice x.ka x.kn x.kc]:List Value)=valsWi (x.sw,x.sh) ++ [.slice x.ka x.kn x.kc] from rfl,InS_append,InS_append,HX2.out] at hi6
      exact fun m v hm=>(cellS hcs _).trans (hi6.2.1 m v hm))
     have HR1:=Lib.hid ((HRD.out.keep HM.out.l) p (List.mem_of_getElem? HG.out));have HQ:=Lib.hid hq;have HY:=Lib.hid hYl;have HWT:=Lib.hid (show W6.there (w.heap.size+1) (j*37) 37 from RpK.there X2 (by rw [List.length_map];omega));clear hq hkd hkl hk10 X1 X2 X3 X4 hp1 hp2 hYl hM1 hlp hl0 hl1 y3 x36 hke hnil ln;refine wpIn_region_liftAny (by kernel_rfl) (by kernel_rfl) ?_
     refine wpAny_rxp 16 1 #[true,true,true,true,true,true,true,true,true,true,true,true,true,true,true,true,false] (by kernel_rfl) (by kernel_rfl) (XV (.slice (some ⟨w.heap.size+1,0,none⟩) R.length R.length) :: XV (.int .i64 (j:Int)) :: XV (.slice (some ⟨w.heap.size+1,0,none⟩) R.length R.length) :: XV (.int .i64 (j:Int)) :: (fun v z=>ArV z v x (pickW X (kidD (R.map Nr.n) j))) :: XV (.slice (some ⟨w.heap.size+1,0,none⟩) R.length R.length) :: XV (.int .i64 (j:Int)) :: XV (.pointer (some ⟨w.heap.size+1,j*37,none⟩)) :: XV (.pointer (some ⟨w.heap.size+1,j*37+34,none⟩)) :: XV (.agg (valsWi (p.n.ww,p.n.hh)).toArray) :: (fun v z=>MfV z v x (pickW X (kidD (R.map Nr.n) j))) :: (fun v z=>MfV z v x (pickW X (kidD (R.map Nr.n) j))) :: (fun v z=>ArV z v x (pickW X (kidD (R.map Nr.n) j))) :: XV (.agg (valsWi q).toArray) :: XV (.pointer (some ⟨w.heap.size+1,j*37,none⟩)) :: XV (.pointer (some ⟨w.heap.size+1,j*37+34,none⟩)) :: []) (by kernel_rfl) (by kernel_rfl) ?hTs ?hops ?hfin
     case hTs =>
      intro T hT;simp only [List.mem_cons,List.not_mem_nil,or_false] at hT
      rcases hT with rfl | rfl | rfl | rfl | rfl | rfl | rfl | rfl | rfl | rfl | rfl | rfl | rfl | rfl | rfl | rfl <;> first | exact stay_V _ | exact stay_T | exact stay_of (fun v a b x g=>x.keep g) | exact stay_of (fun v a b x g=>x)
     case hops =>
      refine ⟨opOK_rx [(3,none)] (by kernel_rfl) rfl ?_,?_⟩
      ·intro act w' hw' h1;obtain ⟨hk,hf⟩:=evkf act;generalize act.eval=ρ at *;replace h1:ρ (.tmp 3)=.pointer (some ⟨w.heap.size+1+1,0,none⟩):=h1;refine gx_gen (fun K hK=>?_);obtain ⟨hc,hf'⟩:=bcell (bdrewn hw'.out);go_simp;exact hK _ _ ⟨rfl,Gr.refl _⟩
      refine ⟨opOK_rx [(4,none)] (by kernel_rfl) rfl ?_,?_⟩
      ·intro act w' hw' h1;obtain ⟨hk,hf⟩:=evkf act;generalize act.eval=ρ at *;replace h1:ρ (.tmp 4)=.int .i64 (j:Int):=h1;refine gx_gen (fun K hK=>?_);obtain ⟨hc,hf'⟩:=bcell (bdrewn hw'.out);go_simp;exact hK _ _ ⟨rfl,Gr.refl _⟩
      refine ⟨opOK_rx [(3,none)] (by kernel_rfl) rfl ?_,?_⟩
      ·intro act w' hw' h1;obtain ⟨hk,hf⟩:=evkf act;generalize act.eval=ρ at *;replace h1:ρ (.tmp 3)=.pointer (some ⟨w.heap.size+1+1,0,none⟩):=h1;refine gx_gen (fun K hK=>?_);obtain ⟨hc,hf'⟩:=bcell (bdrewn hw'.out);go_simp;exact hK _ _ ⟨rfl,Gr.refl _⟩
      refine ⟨opOK_rx [(4,none)] (by kernel_rfl) rfl ?_,?_⟩
      ·intro act w' hw' h1;obtain ⟨hk,hf⟩:=evkf act;generalize act.eval=ρ at *;replace h1:ρ (.tmp 4)=.int .i64 (j:Int):=h1;refine gx_gen (fun K hK=>?_);obtain ⟨hc,hf'⟩:=bcell (bdrewn hw'.out);go_simp;exact hK _ _ ⟨rfl,Gr.refl _⟩
      refine ⟨opOK_rx [(42,some 2),(43,some 3)] (by kernel_rfl) rfl ?_,?_⟩
      ·intro act w' hw' h1 h2;obtain ⟨hk,hf⟩:=evkf act;generalize act.eval=ρ at *;replace h1:ρ (.tmp 42)=.slice (some ⟨w.heap.size+1,0,none⟩) R.length R.length:=h1;replace h2:ρ (.tmp 43)=.int .i64 (j:Int):=h2;refine gx_gen (fun K hK=>?_);obtain ⟨hc,hf'⟩:=bcell (bdrewn hw'.out);go_simp
       (refine (HAR.out _ (bdrewn hw'.out)).mono ?_);rintro e w1 ⟨⟨v,rfl,hv⟩,hb1⟩;exact ⟨_,rfl,hK _ _ ⟨hv,hb1⟩⟩
      refine ⟨opOK_rx [(3,none)] (by kernel_rfl) rfl ?_,?_⟩
      ·intro act w' hw' h1;obtain ⟨hk,hf⟩:=evkf act;generalize act.eval=ρ at *;replace h1:ρ (.tmp 3)=.pointer (some ⟨w.heap.size+1+1,0,none⟩):=h1;refine gx_gen (fun K hK=>?_);obtain ⟨hc,hf'⟩:=bcell (bdrewn hw'.out);go_simp;exact hK _ _ ⟨rfl,Gr.refl _⟩
      refine ⟨opOK_rx [(4,none)] (by kernel_rfl) rfl ?_,?_⟩
      ·intro act w' hw' h1;obtain ⟨hk,hf⟩:=evkf act;generalize act.eval=ρ at *;replace h1:ρ (.tmp 4)=.int .i64 (j:Int):=h1;refine gx_gen (fun K hK=>?_);obtain ⟨hc,hf'⟩:=bcell (bdrewn hw'.out);go_simp;exact hK _ _ ⟨rfl,Gr.refl _⟩
      refine ⟨opOK_rx [(45,some 5),(46,some 6)] (by kernel_rfl) rfl ?_,?_⟩
      ·intro act w' hw' h1 h2;obtain ⟨hk,hf⟩:=evkf act;generalize act.eval=ρ at *;replace h1:ρ (.tmp 45)=.slice (some ⟨w.heap.size+1,0,none⟩) R.length R.length:=h1;replace h2:ρ (.tmp 46)=.int .i64 (j:Int):=h2;refine gx_gen (fun K hK=>?_);obtain ⟨hc,hf'⟩:=bcell (bdrewn hw'.out);go_simp;exact hK _ _ ⟨rfl,Gr.refl _⟩
      refine ⟨opOK_rx [(47,some 7)] (by kernel_rfl) rfl ?_,?_⟩
      ·intro act w' hw' h1;obtain ⟨hk,hf⟩:=evkf act;generalize act.eval=ρ at *;replace h1:ρ (.tmp 47)=.pointer (some ⟨w.heap.size+1,j*37,none⟩):=h1;refine gx_gen (fun K hK=>?_);obtain ⟨hc,hf'⟩:=bcell (bdrewn hw'.out);go_simp;exact hK _ _ ⟨rfl,Gr.refl _⟩
      refine ⟨opOK_rx [(48,some 8)] (by kernel_rfl) rfl ?_,?_⟩
      ·intro act w' hw' h1;obtain ⟨hk,hf⟩:=evkf act;generalize act.eval=ρ at *;replace h1:ρ (.tmp 48)=.pointer (some ⟨w.heap.size+1,j*37+34,none⟩):=h1;refine gx_gen (fun K hK=>?_)
       simp only [execOp,h1,Instr.loadAt,Instr.sureAddr,Sem.run_bind,Sem.run_pure,Result.andThen_ok,run_loadVar_mid w' (w.heap.size+1) (j*37+34) 93 (valsWi (p.n.ww,p.n.hh)) _ (rangeB HRW.out ((bdrewn hw'.out).block _ lw)) Tryz.underlying93 rfl (by kernel_rfl)];exact hK _ _ ⟨rfl,Gr.refl _⟩
      refine ⟨opOK_rx [(44,some 4)] (by kernel_rfl) rfl ?_,?_⟩
      ·intro act w' hw' h1;obtain ⟨hk,hf⟩:=evkf act;generalize act.eval=ρ at *;replace h1:(fun v z=>ArV z v x (pickW X (kidD (R.map Nr.n) j))) (ρ (.tmp 44)) w':=h1;refine gx_gen (fun K hK=>?_);rw [run_mf rfl];exact hK _ _ ⟨⟨_,rfl,h1⟩,Gr.refl _⟩
      refine ⟨opOK_rx [(50,some 10)] (by kernel_rfl) rfl ?_,?_⟩
      ·intro act w' hw' h1;obtain ⟨hk,hf⟩:=evkf act;generalize act.eval=ρ at *;replace h1:(fun v z=>MfV z v x (pickW X (kidD (R.map Nr.n) j))) (ρ (.tmp 50)) w':=h1;refine gx_gen (fun K hK=>?_)
       obtain ⟨u,e,hu⟩:=h1;obtain ⟨T,u2,F,rfl,hn,hc,hcall⟩:=arReq (ww:=p.n.ww) (hh:=p.n.hh) hu HX1.out (HR1.out.keep (bdrewn hw'.out)) HY.out C0.out C1.out C2.out;rw [run_nc rfl e hn];exact hK _ _ ⟨⟨_,e,hu⟩,Gr.refl _⟩
      refine ⟨opOK_rx [(44,some 4)] (by kernel_rfl) rfl ?_,?_⟩
      ·intro act w' hw' h1;obtain ⟨hk,hf⟩:=evkf act;generalize act.eval=ρ at *;replace h1:(fun v z=>ArV z v x (pickW X (kidD (R.map Nr.n) j))) (ρ (.tmp 44)) w':=h1;refine gx_gen (fun K hK=>?_);obtain ⟨hc,hf'⟩:=bcell (bdrewn hw'.out);go_simp;exact hK _ _ ⟨h1,Gr.refl _⟩
      refine ⟨opOK_rx [(52,some 12),(49,some 9)] (by kernel_rfl) rfl ?_,?_⟩
      ·intro act w' hw' h1 h2;obtain ⟨hk,hf⟩:=evkf act;generalize act.eval=ρ at *;replace h1:(fun v z=>ArV z v x (pickW X (kidD (R.map Nr.n) j))) (ρ (.tmp 52)) w':=h1;replace h2:ρ (.tmp 49)=.agg (valsWi (p.n.ww,p.n.hh)).toArray:=h2;refine gx_gen (fun K hK=>?_)
       obtain ⟨T,u,F,e,hn,hc,hcall⟩:=arReq (ww:=p.n.ww) (hh:=p.n.hh) h1 HX1.out (HR1.out.keep (bdrewn hw'.out)) HY.out C0.out C1.out C2.out;rw [run_inv rfl e h2 (hc _ _)];refine hcall.mono ?_;rintro e' w1 ⟨rfl,hb1⟩;exact ⟨_,rfl,hK _ _ ⟨rfl,hb1⟩⟩
      refine ⟨opOK_rx [(40,some 0),(41,some 1)] (by kernel_rfl) rfl ?_,?_⟩
      ·intro act w' hw' h1 h2;obtain ⟨hk,hf⟩:=evkf act;generalize act.eval=ρ at *;replace h1:ρ (.tmp 40)=.slice (some ⟨w.heap.size+1,0,none⟩) R.length R.length:=h1;replace h2:ρ (.tmp 41)=.int .i64 (j:Int):=h2;refine gx_gen (fun K hK=>?_);obtain ⟨hc,hf'⟩:=bcell (bdrewn hw'.out);go_simp;exact hK _ _ ⟨rfl,Gr.refl _⟩
      refine ⟨opOK_rx [(54,some 14)] (by kernel_rfl) rfl ?_,?_⟩
      ·intro act w' hw' h1;obtain ⟨hk,hf⟩:=evkf act;generalize act.eval=ρ at *;replace h1:ρ (.tmp 54)=.pointer (some ⟨w.heap.size+1,j*37,none⟩):=h1;refine gx_gen (fun K hK=>?_);obtain ⟨hc,hf'⟩:=bcell (bdrewn hw'.out);go_simp;exact hK _ _ ⟨rfl,Gr.refl _⟩
      exact trivial
     case hfin =>
      intro w7 hg7;intro v40 t40;replace t40:v40=.slice (some ⟨w.heap.size+1,0,none⟩) R.length R.length:=t40;subst t40;intro v41 t41;replace t41:v41=.int .i64 (j:Int):=t41;subst t41;intro v42 t42;replace t42:v42=.slice (some ⟨w.heap.size+1,0,none⟩) R.length R.length:=t42;subst t42;intro v43 t43;replace t43:v43=.int .i64 (j:Int):=t43;subst t43;intro v44 t44
      replace t44:(fun v z=>ArV z v x (pickW X (kidD (R.map Nr.n) j))) v44 w7:=t44;intro v45 t45;replace t45:v45=.slice (some ⟨w.heap.size+1,0,none⟩) R.length R.length:=t45;subst t45;intro v46 t46;replace t46:v46=.int .i64 (j:Int):=t46;subst t46;intro v47 t47;replace t47:v47=.pointer (some ⟨w.heap.size+1,j*37,none⟩):=t47;subst t47;intro v48 t48
      replace t48:v48=.pointer (some ⟨w.heap.size+1,j*37+34,none⟩):=t48;subst t48;intro v49 t49;replace t49:v49=.agg (valsWi (p.n.ww,p.n.hh)).toArray:=t49;subst t49;intro v50 t50;replace t50:(fun v z=>MfV z v x (pickW X (kidD (R.map Nr.n) j))) v50 w7:=t50;intro v51 t51;replace t51:(fun v z=>MfV z v x (pickW X (kidD (R.map Nr.n) j))) v51 w7:=t51;intro v52 t52
      replace t52:(fun v z=>ArV z v x (pickW X (kidD (R.map Nr.n) j))) v52 w7:=t52;intro v53 t53;replace t53:v53=.agg (valsWi q).toArray:=t53;subst t53;intro v54 t54;replace t54:v54=.pointer (some ⟨w.heap.size+1,j*37,none⟩):=t54;subst t54;intro v55 t55;replace t55:v55=.pointer (some ⟨w.heap.size+1,j*37+34,none⟩):=t55;subst t55;have hb7:=bdrewn hg7.out;clear hg7
      simp only [finP,List.take_succ_cons,List.take_zero,Act.put,List.setIfInBounds_toArray,List.set_cons_succ,List.set_cons_zero]
      have hth:w7.there (w.heap.size+1) (j*37+34) (valsWi q).length:=by
       obtain ⟨X',Y1,Y2,Y3,Y4⟩:=(HM.out.keep hb7).x;obtain ⟨cs,hcs,hss,_⟩:=Y2;exact thereB hcs (by rw [hss,List.length_map,Y1];show j*37+34+2≤_;omega)
      refine wpAny_store 16 93 (.tmp 55) (.tmp 53) (w.heap.size+1) (j*37+34) (valsWi q) (by kernel_rfl) (by kernel_rfl) (by kernel_rfl) rfl rfl hth (by kernel_rfl) (valsWi_one _) ?_;simp only [Exit.then,Exit.inBlock]
      refine ⟨by first | rfl | trivial,HK.out.trans ((keepsFrom_below hb7).trans (keepsFrom_setCells _ _ _)),StM.done ((HM.out.keep hb7).wish q.1 q.2) ⟨p,HG.out,HX1.out,?_,by rw [HKS.out];exact HX3.out,by rw [HKS.out];exact (HX6.out.keep hb7).sets (by omega) _⟩ HJK.out⟩;rw [HQ.out]
   ·rw [hke] at y3;go_wp2;refine wpIn_cond_false rfl ?_;refine wpIn_skip ?_;simp only [Exit.inBlock];refine ⟨by first | rfl | trivial,HK.out,HM.out.done ⟨p,HG.out,HX1.out,?_,by rw [HKS.out];exact HX3.out,by rw [HKS.out];exact HX6.out⟩ HJK.out⟩;rw [HX2.out,szM_eq hT HMG.out];exact (askN_own (.inl hke)).symm
 case done =>
  rintro D W hD hI hK;have xs:=cellS hI.s 0
  gi_wp2
  have hkc:KeepsC W0.heap.size W (W.putObj D (.deferred none)):=keepsC_put hD hK rfl rfl;refine ⟨by simp,.inl ⟨_,_,rfl,run_takeDeferred hK,?_⟩⟩
  have hf:=StW.same hI (hkc.1.mono (by omega)) fun g cs T hg=>hkc.block hg
  refine ⟨_,results_tmp rfl _ _ _,⟨_,rfl,?_⟩,hf.l⟩;exact hf.all
end
section
theorem moved_w (x y u v p q:Int) (w:World) (h1:-1000000000000000≤x∧x≤1000000000000000) (h2:-1000000000000000≤y∧y≤1000000000000000) (h3:-1000000000000000≤p∧p≤1000000000000000) (h4:-1000000000000000≤q∧q≤1000000000000000):Calls Tryz.prog 89 #[.agg #[.int .i64 (x),.int .i64 (y),.int .i64 (u),.int .i64 (v)],.int .i64 p,.int .i64 q] w fun e w'=>e=.returned (.agg #[.int .i64 (x+p),.int .i64 (y+q),.int .i64 (u),.int .i64 (v)])∧Below w.heap.size w w':=by
 have e1:IntKind.i64.wrap (x+p)=x+p:=IntWalk.i64_in _ (by omega);have e2:IntKind.i64.wrap (y+q)=y+q:=IntWalk.i64_in _ (by omega);obtain ⟨a1,a2⟩:=h1;obtain ⟨a3,a4⟩:=h2;obtain ⟨b1,b2⟩:=h3;obtain ⟨b3,b4⟩:=h4
 go_enter Tryz.func89,Tryz.ntmps89
 go_wp2
 exact bodyPost_ret (v:=.agg #[.int .i64 (x+p),.int .i64 (y+q),.int .i64 (u),.int .i64 (v)]) (by simp only [results,Tryz.results89];go_simp) rfl ⟨rfl,(by repeat (first | with_reducible exact Below.refl _ _ | with_reducible assumption | with_reducible refine balloc ?_ | (with_reducible refine bset ?_ ?_;rotate_left;((try dsimp only);omega)) | refine bkeep2 ?_ (by assumption) | with_reducible refine Below.drew ?_))⟩
end
end Go.Proofs.YtenckjdiggaonaaGreat
