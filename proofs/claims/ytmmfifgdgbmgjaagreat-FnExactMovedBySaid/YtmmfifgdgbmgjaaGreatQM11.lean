import Derived.Test.YtmmfifgdgbmgjaaGreatQM10
set_option linter.unusedVariables false
set_option linter.unusedSimpArgs false
set_option maxRecDepth 100000
set_option maxHeartbeats 16000000
namespace Go.Proofs.YtmmfifgdgbmgjaaGreat
open Go.RowKit
attribute [local go_sem] growUpon_value growUpon_skip growUpon_enter
section
attribute [local go_sem] Oper.semAt_some
attribute [local go_sem] givesUpon_value givesUpon_skip givesUpon_enter
def zeroNrA:Array Value:=(valsNr zeroNr).toArray
def zeroWd:Wd:=⟨zeroNr,0,0,none,0,0⟩
theorem made_zero:∃ f:Nat→Array Value,(∀ n,(f n).size=n*37)∧(∀ n i,i<n→InS (f n) (i*37) (valsWd zeroWd))∧∀ (n:Nat) (w:World),n≤1048576→(Instr.makeSlice 93 (.int .i64 (n:Int)) (.int .i64 (n:Int))).run Tryz.prog w=.ok (.slice (some ⟨w.heap.size,0,none⟩) n n) (w.alloc (.cells (f n) 98)):=by
 obtain ⟨i,z,hi,h1,h2,h3,h4⟩:∃ (i:TypeInfo) (z:Value),Tryz.prog.info? 98=some i∧i.zero=some z∧i.size=37∧i.bytes≤512∧z.cells=(valsWd zeroWd).toArray:=by
  have h:(Tryz.prog.info? 98).map (fun i=>(i.size,decide (i.bytes≤512),i.zero.map Value.cells))=some (37,true,some (valsWd zeroWd).toArray):=by kernel_rfl
  cases hq:Tryz.prog.info? 98 with
  | none=>rw [hq] at h;cases h
  | some i =>
   rw [hq] at h;simp only [Option.map_some,Option.some.injEq,Prod.mk.injEq] at h;obtain ⟨e1,e2,e3⟩:=h
   cases hz:i.zero with
   | none=>rw [hz] at e3;cases e3
   | some z=>rw [hz] at e3;exact ⟨i,z,rfl,hz,e1,by simpa using e2,by simpa using e3⟩
 refine ⟨fun n=>madeCells z.cells (n*37),fun n=>size_madeCells _ _,fun n k hk j u hj=>?_,fun n w hn=>?_⟩
 ·have hj37:j<37:=by have:=(List.getElem?_eq_some_iff.1 hj).1;rwa [valsWd_len] at this
  have hlt:k*37+j<n*37:=by
   have:(k+1)*37≤n*37:=Nat.mul_le_mul_right 37 hk
   omega
  have hm:(k*37+j) % 37=j:=by omega
  have hs:z.cells.size=37:=by rw [h4];rfl
  have hq:z.cells[j]?=some u:=by rw [h4];simpa only [List.getElem?_toArray] using hj
  obtain ⟨hlt2,he⟩:=gE hq;clear hj h4;unfold madeCells;rw [Array.getElem?_map,Array.getElem?_range,if_pos hlt,Option.map_some,hs,hm,getElem!_pos z.cells j hlt2,he]
 ·have e:((i.bytes*n:Nat):Int)≤((512*1048576:Nat):Int):=Int.ofNat_le.2 (Nat.mul_le_mul h3 hn);rw [Int.natCast_mul] at e;have hr:=run_make (P:=Tryz.prog) w 93 98 i _ Tryz.underlying93 hi h1 .i64 .i64 n n (by omega) (Int.le_refl _) (Int.le_trans e (by decide)) (by omega);rw [h2] at hr
  simpa using hr
def KidA (lo:Nat) (w:World) (A:Option Addr) (M:List Int):Prop:=(A=none∧M=[])∨∃ g cap,A=some ⟨g,0,none⟩∧lo≤g∧OB w g cap M
theorem KidA.nv {lo:Nat} {w:World} {A:Option Addr} {M:List Int} (h:KidA lo w A M):NV w A M:=by
 rcases h with ⟨rfl,rfl⟩ | ⟨g,cap,rfl,_,h⟩
 ·exact NV.nil _ _
 ·exact h.nv
theorem KidA.same {lo:Nat} {w w':World} {A:Option Addr} {M:List Int} (h:KidA lo w A M) (hs:∀ (g:Nat),lo≤g→∀ cs:Array Value,w.heap[g]?=some (.cells cs 3 (0,0))→w'.heap[g]?=w.heap[g]?):KidA lo w' A M:=by
 rcases h with ⟨rfl,rfl⟩ | ⟨g,cap,rfl,hl,h⟩
 ·exact .inl ⟨rfl,rfl⟩
 ·obtain ⟨_,cs,hh,_⟩:=id h;exact .inr ⟨g,cap,rfl,hl,h.sameL (hs g hl cs hh)⟩
theorem KidA.keep {lo:Nat} {w w':World} {A:Option Addr} {M:List Int} (h:KidA lo w A M) (hb:Below w.heap.size w w'):KidA lo w' A M:=h.same fun g _ cs hg=>hb.block g (ltS hg)
def KdA (lo:Nat) (w:World) (v:Value) (M:List Int):Prop:=∃ A c,v=.slice A M.length c∧KidA lo w A M
theorem KdA.keep {lo:Nat} {w w':World} {v:Value} {M:List Int} (h:KdA lo w v M) (hb:Below w.heap.size w w'):KdA lo w' v M:=let ⟨A,c,e,k⟩:=h;⟨A,c,e,k.keep hb⟩
theorem KdA.of {lo lo':Nat} {w:World} {v:Value} {M:List Int} (h:GO lo' w v M) (hl:lo≤lo'):KdA lo w v M:=by
 rcases h with ⟨rfl,rfl⟩ | ⟨g,cap,n,rfl,rfl,h1,h2⟩
 ·exact ⟨none,0,rfl,.inl ⟨rfl,rfl⟩⟩
 ·exact ⟨_,cap,rfl,.inr ⟨g,cap,rfl,by omega,h2⟩⟩
def IsWd (lo:Nat) (w:World) (x:Wd) (p:Nr) (q:Int × Int) (M:List Int):Prop:=x.p=p∧(x.sw,x.sh)=q∧x.kn=M.length∧KidA lo w x.ka M
theorem IsWd.keep {lo:Nat} {w w':World} {x:Wd} {p:Nr} {q:Int × Int} {M:List Int} (h:IsWd lo w x p q M) (hb:Below w.heap.size w w'):IsWd lo w' x p q M:=⟨h.1,h.2.1,h.2.2.1,h.2.2.2.keep hb⟩
def WdV (lo:Nat) (w:World) (v:Value) (p:Nr) (q:Int × Int) (M:List Int):Prop:=∃ x:Wd,v=.agg (valsWd x).toArray∧IsWd lo w x p q M
theorem WdV.keep {lo:Nat} {w w':World} {v:Value} {p:Nr} {q:Int × Int} {M:List Int} (h:WdV lo w v p q M) (hb:Below w.heap.size w w'):WdV lo w' v p q M:=let ⟨x,e,k⟩:=h;⟨x,e,k.keep hb⟩
theorem run_bW (p:Nr) (a b:Int) (A:Option Addr) (n c:Nat) (w:World):(Instr.build 98 #[(0,.agg (valsNr p).toArray),(1,.agg #[.int .i64 a,.int .i64 b]),(2,.slice A n c)]).run Tryz.prog w=.ok (.agg (valsWd ⟨p,a,b,A,n,c⟩).toArray) w:=by kernel_rfl
def WdK (lo:Nat) (w:World) (R:List Nr) (i:Nat) (x:Wd):Prop:=∃ p,R[i]?=some p∧IsWd lo w x p (szM (R.map Nr.n) i) ((kidD (R.map Nr.n) i).map fun (k:Nat)=>(k:Int))
structure StW (w:World) (A:Option Addr) (c:Nat) (R:List Nr) (k:Nat) (W:World):Prop where
 t:W.heap[w.heap.size]?=some (.cells #[.slice A R.length c] 30 (0,0))
 s:W.heap[w.heap.size+1+1]?=some (.cells #[.slice (some ⟨w.heap.size+1,0,none⟩) R.length R.length] 93 (0,0))
 b:W.heap[w.heap.size+1+1+1]?=some (.cells #[.slice A R.length c] 28 (0,0))
 x:∃ X:List Wd,X.length=R.length∧RbK 37 W (w.heap.size+1) 98 (X.map valsWd)∧∀ i x,X[i]?=some x→R.length≤i+k→WdK (w.heap.size+4) W R i x
 l:Below w.heap.size w W
 z:w.heap.size+4≤W.heap.size
theorem StW.same {w W W':World} {A:Option Addr} {c:Nat} {R:List Nr} {k:Nat} (h:StW w A c R k W) (hb:Below w.heap.size W W') (hc:∀ (g:Nat) (cs:Array Value) (T:TypeId),W.heap[g]?=some (.cells cs T (0,0))→W'.heap[g]?=W.heap[g]?):StW w A c R k W':=by
 obtain ⟨t,s,b,⟨X,x1,x2,x3⟩,l,z⟩:=h;have x2':=x2;obtain ⟨cs,hh,_⟩:=x2';refine ⟨(hc _ _ _ t).trans t,(hc _ _ _ s).trans s,(hc _ _ _ b).trans b,⟨X,x1,x2.keep' (hc _ _ _ hh),fun i x hx hi=>?_⟩,l.trans hb,Nat.le_trans z hb.size⟩;obtain ⟨p,hp,k1,k2,k3,k4⟩:=x3 i x hx hi;exact ⟨p,hp,k1,k2,k3,k4.same fun g _ cs hg=>hc g cs _ hg⟩
theorem StW.below {w W W':World} {A:Option Addr} {c:Nat} {R:List Nr} {k:Nat} (h:StW w A c R k W) (hb:Below W.heap.size W W'):StW w A c R k W':=h.same (hb.mono (by have:=h.z;omega)) fun g cs T hg=>hb.block g (ltS hg)
theorem InS_append {cs:Array Value} {o:Nat} {A B:List Value}:InS cs o (A ++ B)↔InS cs o A∧InS cs (o+A.length) B:=by
 constructor
 ·intro h;refine ⟨fun j u hj=>h j u ?_,fun j u hj=>?_⟩
  ·rw [List.getElem?_append_left (List.getElem?_eq_some_iff.1 hj).1];exact hj
  ·rw [Nat.add_assoc];refine h (A.length+j) u ?_;rw [List.getElem?_append_right (by omega)]
   simpa using hj
 ·rintro ⟨h1,h2⟩ j u hj
  by_cases hl:j<A.length
  ·rw [List.getElem?_append_left hl] at hj;exact h1 j u hj
  ·rw [List.getElem?_append_right (by omega)] at hj
   have:=h2 _ u hj
   rwa [show o+A.length+(j-A.length)=o+j by omega] at this
theorem RbK.set {k:Nat} {w:World} {g:Nat} {T:TypeId} {R:List (List Value)} (h:RbK k w g T R) (hR:∀ vs∈R,vs.length=k) {j:Nat} {vs:List Value} (hv:vs.length=k) (hj:j<R.length):RbK k (w.setCells g (j*k) vs) g T (R.set j vs):=by
 obtain ⟨cs,hh,hs,hc⟩:=h;have e:(j+1)*k≤R.length*k:=Nat.mul_le_mul_right k hj;rw [Nat.add_mul,Nat.one_mul] at e;refine ⟨_,heap_setCells vs (j*k) _ _ hh,by rw [wrAt_size,hs,List.length_set],fun i us hi hu=>?_⟩
 by_cases ei:i=j
 ·subst ei;rw [List.getElem?_set_self (by simpa using hj)] at hu;obtain rfl:=Option.some.inj hu;exact InS.write (by rw [hv,hs];omega)
 ·rw [List.getElem?_set_ne (fun e=>ei e.symm)] at hu;have hil:=(List.getElem?_eq_some_iff.1 hu).1;refine (hc i us hil hu).keepS ?_;rw [hR us (List.mem_of_getElem? hu),hv]
  rcases Nat.lt_or_gt_of_ne ei with hlt | hlt
  ·left
   have e2:(i+1)*k≤j*k:=Nat.mul_le_mul_right k hlt;rw [Nat.add_mul,Nat.one_mul] at e2;omega
  ·right
   have e2:(j+1)*k≤i*k:=Nat.mul_le_mul_right k hlt;rw [Nat.add_mul,Nat.one_mul] at e2;omega
theorem RbK.wish {w:World} {g:Nat} {T:TypeId} {X:List Wd} (h:RbK 37 w g T (X.map valsWd)) {j:Nat} {x:Wd} (hx:X[j]?=some x) (a b:Int):RbK 37 (w.setCells g (j*37+34) (valsWi (a,b))) g T ((X.set j { x with sw:=a,sh:=b }).map valsWd):=by
 obtain ⟨cs,hh,hs,hc⟩:=h;have hj:=(List.getElem?_eq_some_iff.1 hx).1;rw [List.length_map] at hs;have e:(j+1)*37≤X.length*37:=Nat.mul_le_mul_right 37 hj;refine ⟨_,heap_setCells _ (j*37+34) _ _ hh,by rw [wrAt_size,hs,List.length_map,List.length_set],fun i us hi hu=>?_⟩;rw [List.getElem?_map] at hu
 by_cases ei:i=j
 ·subst ei;rw [List.getElem?_set_self hj] at hu;obtain rfl:=Option.some.inj hu;have h0:=hc i (valsWd x) (by rw [List.length_map];exact hj) (by rw [List.getElem?_map,hx];rfl);unfold valsWd at h0 ⊢;rw [show ([.int .i64 x.sw,.int .i64 x.sh,.slice x.ka x.kn x.kc]:List Value)=valsWi (x.sw,x.sh) ++ [.slice x.ka x.kn x.kc] from rfl,InS_append,InS_append] at h0
  rw [show ([.int .i64 a,.int .i64 b,.slice x.ka x.kn x.kc]:List Value)=valsWi (a,b) ++ [.slice x.ka x.kn x.kc] from rfl,InS_append,InS_append];refine ⟨h0.1.keepS (.inl (by rw [valsNr_len];omega)),InS.write (by rw [hs];show _+34+2≤_;omega),h0.2.2.keepS (.inr ?_)⟩
  show i*37+34+2≤i*37+34+2
  omega
 ·rw [List.getElem?_set_ne (fun e=>ei e.symm)] at hu
  cases hxi:X[i]? with
  | none=>rw [hxi] at hu;cases hu
  | some y =>
   rw [hxi] at hu;obtain rfl:=Option.some.inj hu;have hil:=(List.getElem?_eq_some_iff.1 hxi).1;refine (hc i (valsWd y) (by rw [List.length_map];exact hil) (by rw [List.getElem?_map,hxi];rfl)).keepS ?_;rw [valsWd_len]
   show _∨j*37+34+2≤_
   omega
theorem KidA.sets {lo g o:Nat} {w:World} {A:Option Addr} {M:List Int} (h:KidA lo w A M) (hg:g<lo) (vs:List Value):KidA lo (w.setCells g o vs) A M:=h.same fun b hb cs _=>heap_setCells_ne (by omega) vs o w
structure StM (w:World) (A:Option Addr) (c:Nat) (R:List Nr) (j:Nat) (x:Wd) (W:World):Prop where
 t:W.heap[w.heap.size]?=some (.cells #[.slice A R.length c] 30 (0,0))
 s:W.heap[w.heap.size+1+1]?=some (.cells #[.slice (some ⟨w.heap.size+1,0,none⟩) R.length R.length] 93 (0,0))
 b:W.heap[w.heap.size+1+1+1]?=some (.cells #[.slice A R.length c] 28 (0,0))
 x:∃ X:List Wd,X.length=R.length∧RbK 37 W (w.heap.size+1) 98 (X.map valsWd)∧X[j]?=some x∧∀ i x,X[i]?=some x→j<i→WdK (w.heap.size+4) W R i x
 l:Below w.heap.size w W
 z:w.heap.size+4≤W.heap.size
theorem WdK.sets {lo g o i:Nat} {w:World} {R:List Nr} {x:Wd} (h:WdK lo w R i x) (hg:g<lo) (vs:List Value):WdK lo (w.setCells g o vs) R i x:=let ⟨p,hp,a,b,c,d⟩:=h;⟨p,hp,a,b,c,d.sets hg vs⟩
theorem WdK.keep {lo i:Nat} {w w':World} {R:List Nr} {x:Wd} (h:WdK lo w R i x) (hb:Below w.heap.size w w'):WdK lo w' R i x:=let ⟨p,hp,a⟩:=h;⟨p,hp,a.keep hb⟩
theorem StM.keep {w W W':World} {A:Option Addr} {c:Nat} {R:List Nr} {j:Nat} {x:Wd} (h:StM w A c R j x W) (hb:Below W.heap.size W W'):StM w A c R j x W':=by
 obtain ⟨t,s,b,⟨X,x1,x2,x3,x4⟩,l,z⟩:=h;exact ⟨(hb.block _ (ltS t)).trans t,(hb.block _ (ltS s)).trans s,(hb.block _ (ltS b)).trans b,⟨X,x1,x2.keep hb,x3,fun i x hx hi=>(x4 i x hx hi).keep hb⟩,bkeep2 l hb,Nat.le_trans z hb.size⟩
theorem StM.wish {w W:World} {A:Option Addr} {c:Nat} {R:List Nr} {j:Nat} {x:Wd} (h:StM w A c R j x W) (a b:Int):StM w A c R j { x with sw:=a,sh:=b } (W.setCells (w.heap.size+1) (j*37+34) (valsWi (a,b))):=by
 obtain ⟨t,s,b',⟨X,x1,x2,x3,x4⟩,l,z⟩:=h;refine ⟨(heap_setCells_ne (by omega) _ _ _).trans t,(heap_setCells_ne (by omega) _ _ _).trans s,(heap_setCells_ne (by omega) _ _ _).trans b',⟨_,by rw [List.length_set,x1],x2.wish x3 a b,List.getElem?_set_self (List.getElem?_eq_some_iff.1 x3).1,fun i y hy hi=>?_⟩,below_setCells (by omega) _ _ _ l,by rw [size_setCellsT];exact z⟩
 rw [List.getElem?_set_ne (by omega)] at hy;exact (x4 i y hy hi).sets (by omega) _
theorem StM.done {w W:World} {A:Option Addr} {c:Nat} {R:List Nr} {j k:Nat} {x:Wd} (h:StM w A c R j x W) (hx:WdK (w.heap.size+4) W R j x) (hj:j+(k+1)=R.length):StW w A c R (k+1) W:=by
 obtain ⟨t,s,b,⟨X,x1,x2,x3,x4⟩,l,z⟩:=h;refine ⟨t,s,b,⟨X,x1,x2,fun i y hy hi=>?_⟩,l,z⟩
 by_cases e:i=j
 ·subst e;rw [x3] at hy;obtain rfl:=Option.some.inj hy;exact hx
 ·exact x4 i y hy (by omega)
theorem StW.put {w W:World} {A:Option Addr} {c:Nat} {R:List Nr} {j k:Nat} (h:StW w A c R k W) (hj:R.length≤j+(k+1)) (hj2:j+k<R.length) (x:Wd):StM w A c R j x (W.setCells (w.heap.size+1) (j*37) (valsWd x)):=by
 obtain ⟨t,s,b',⟨X,x1,x2,x4⟩,l,z⟩:=h;refine ⟨(heap_setCells_ne (by omega) _ _ _).trans t,(heap_setCells_ne (by omega) _ _ _).trans s,(heap_setCells_ne (by omega) _ _ _).trans b',⟨X.set j x,by rw [List.length_set,x1],?_,List.getElem?_set_self (by omega),fun i y hy hi=>?_⟩,below_setCells (by omega) _ _ _ l,by rw [size_setCellsT];exact z⟩
 ·rw [List.map_set];exact x2.set (fun vs hv=>by obtain ⟨y,_,rfl⟩:=List.mem_map.1 hv;exact valsWd_len y) (valsWd_len x) (by rw [List.length_map];omega)
 ·rw [List.getElem?_set_ne (by omega)] at hy;exact (x4 i y hy (by omega)).sets (by omega) _
theorem keepsFrom_setCells {B g:Nat}:∀ (vs:List Value) (o:Nat) (w:World),KeepsFrom B w (w.setCells g o vs)
 | [],o,w=>KeepsFrom.refl B w
 | v :: r,o,w=>((KeepsOthers.setCell w ⟨g,o,none⟩ v).from B).trans (keepsFrom_setCells r (o+1) (w.setCell ⟨g,o,none⟩ v))
theorem KidA.any {lo:Nat} {w:World} {A:Option Addr} {M:List Int} (h:KidA lo w A M):KidA 0 w A M:=by
 rcases h with h | ⟨g,cap,e,_,h⟩
 ·exact .inl h
 ·exact .inr ⟨g,cap,e,Nat.zero_le _,h⟩
def SetV (lo:Nat) (w:World) (R:List Nr) (v:Value):Prop:=∃ (g:Nat) (X:List Wd),v=.slice (some ⟨g,0,none⟩) R.length R.length∧lo≤g∧X.length=R.length∧RbK 37 w g 98 (X.map valsWd)∧∀ i x,X[i]?=some x→WdK 0 w R i x
theorem StW.all {w W:World} {A:Option Addr} {c:Nat} {R:List Nr} (h:StW w A c R R.length W):SetV w.heap.size W R (.slice (some ⟨w.heap.size+1,0,none⟩) R.length R.length):=by
 obtain ⟨t,s,b,⟨X,x1,x2,x3⟩,l,z⟩:=h;exact ⟨_,X,rfl,by omega,x1,x2,fun i x hx=>let ⟨p,hp,a1,a2,a3,a4⟩:=x3 i x hx (by omega);⟨p,hp,a1,a2,a3,a4.any⟩⟩
theorem four (w:World) (o1 o2 o3 o4:Obj):∃ W,(((w.alloc o1).alloc o2).alloc o3).alloc o4=W∧W.heap[w.heap.size]?=some o1∧W.heap[w.heap.size+1]?=some o2∧W.heap[w.heap.size+1+1]?=some o3∧W.heap[w.heap.size+1+1+1]?=some o4∧W.heap.size=w.heap.size+4∧Below w.heap.size w W:=by
 have n1:=World.alloc_heap_new w o1;have n2:=World.alloc_heap_new (w.alloc o1) o2;have n3:=World.alloc_heap_new ((w.alloc o1).alloc o2) o3;have n4:=World.alloc_heap_new (((w.alloc o1).alloc o2).alloc o3) o4;simp only [World.size_alloc] at n1 n2 n3 n4;refine ⟨_,rfl,?_,?_,?_,n4,by simp,?_⟩
 ·exact (Below.heap_alloc _ _ _ (by simp;omega)).trans ((Below.heap_alloc _ _ _ (by simp;omega)).trans ((Below.heap_alloc _ _ _ (by simp)).trans n1))
 ·exact (Below.heap_alloc _ _ _ (by simp)).trans ((Below.heap_alloc _ _ _ (by simp)).trans n2)
 ·exact (Below.heap_alloc _ _ _ (by simp)).trans n3
 ·exact ((((Below.refl _ w).alloc (Nat.le_refl _) _).alloc (by simp) _).alloc (by simp;omega) _).alloc (by simp;omega) _
theorem stNI {l n:Nat} {P:Program} {ops:Array Oper} {rest:List Oper} {op:Oper} {a:Act} {w:World} {Q:Exit→Act→World→Prop} (T:TypeId) (x y:Operand) (vs:List Value) (b o:Nat) (hgd:op.guard=none) (ho:op.op=.store T x y) (hx:a.eval x=.pointer (some ⟨b,o,none⟩)) (hy:a.eval y=.agg vs.toArray)
  (ht:w.there b o vs.length) (hi:(P.info? T).map (·.size)=some vs.length) (h1:one vs)
  (h:wpListIn (Fence.wide.inRound l) n P ops Q rest (a.put op.dst undef) (w.setCells b o vs)):wpListIn (Fence.wide.inRound l) n P ops Q (op :: rest) a w :=
 wpListIn_plain hgd fun K hK=>opLift (Q0:=fun _ _ _=>False) (by unfold noDef;rw [ho]) (fun _ _ _ _ h=>h) (fun _ _ h=>h) (wp_store_mid T x y ho b o vs.toArray hx hy (by simpa using ht) (by simpa using hi) (all_oneCell_toArray h1) (hK _ _ (by simpa using h)))
theorem settled_v (A:Option Addr) (c:Nat) (R:List Nr) (hT:TrOK (R.map Nr.n)) (w:World) (h:NrV w A R) (hr:RdR w R) (hL:R.length≤10) :
  Calls Tryz.prog 63 #[.agg #[.slice A R.length c]] w fun e w'=>(∃ v,e=.returned v∧SetV w.heap.size w' R v)∧Below w.heap.size w w':=by
 obtain ⟨fm,hfm,hfz,hmk0⟩:=made_zero
 have hmk:=fun w=>hmk0 R.length w (by omega)
 have HFM:=Lib.hid hfm;have HFZ:=Lib.hid hfz;have HNV:=Lib.hid h;have HRD:=Lib.hid hr;clear hmk0 hfm hfz h hr;refine (callsIn_wide (n:=6)).1 ?_;refine callsIn_of_wp_marks Tryz.func63 rfl trivial ?_ rfl
 simp only [Tryz.ntmps63,List.size_toArray,List.length_cons,List.length_nil,Nat.reduceAdd,Nat.reduceSub,Array.replicate_succ,Array.replicate_zero,List.push_toArray,List.append_toArray,List.nil_append,List.cons_append]
 gi_wp2_with (refine ⟨trivial,?_⟩;gi_at_call 91;refine (backwardN_in Fence.wide _ trivial rfl _ _ _ _).mono ?_;rintro e w' ⟨rfl,rfl⟩)
 clear hmk;obtain ⟨W0,hW0,n1,n2,n3,n4,hz,hb0⟩:=four w (.cells #[.slice A R.length c] 30) (.cells (fm R.length) 98) (.cells #[.slice (some ⟨w.heap.size+1,0,none⟩) R.length R.length] 93) (.cells #[.slice A R.length c] 28);rw [hW0];clear hW0
 have hst:StW w A c R 0 W0:=⟨n1,n3,n4,⟨List.replicate R.length zeroWd,by simp,⟨_,n2,by rw [HFM.out];simp,fun i vs hi hv=>by
   simp at hi
   simp only [List.map_replicate,List.getElem?_replicate,if_pos hi,Option.some.injEq] at hv;subst hv
   exact HFZ.out _ _ hi⟩,fun i x hx hi=>by have:=(List.getElem?_eq_some_iff.1 hx).1;simp at this;omega⟩,hb0,by omega⟩
 clear n1 n2 n3 n4 hb0
 refine wpIn_rangeFunc_cnt rfl (by omega) (gf:=128) (lb:=#[.pointer (some ⟨w.heap.size+1+1+1,0,none⟩)]) rfl trivial (enters_of Tryz.func128 (by kernel_rfl) rfl)
  (bkc_in Fence.wide _ trivial rfl (by omega) (w.heap.size+1+1+1) A c R (by omega)) (fun _=>rfl)
  (StW w A c R) (fun k W W' h hk=>h.same (hk.1.mono (by omega)) fun g cs T hg=>hk.block hg) (fun k W h=>⟨cellS h.b 0,HNV.out.keep h.l⟩) hst
  (fun k a' W=>∃ nb,w.heap.size+4≤nb∧W.heap[nb]?=some (.cells (valsNr (nrAt R (R.length-1-k))).toArray 90 (0,0))∧a'={ tmps:=#[.agg #[.slice A R.length c],.pointer (some ⟨w.heap.size,0,none⟩),.slice none 0 0,.pointer (some ⟨w.heap.size+1+1,0,none⟩),.int .i64 ((R.length-1-k:Nat):Int),.pointer (some ⟨nb,0,none⟩),.pointer (some ⟨w.heap.size,0,none⟩),.slice A R.length c,.int .i64 (R.length:Int),.slice (some ⟨w.heap.size+1,0,none⟩) R.length R.length,.pointer (some ⟨w.heap.size,0,none⟩),.slice A R.length c,.func (.func 128) #[] #[.pointer (some ⟨w.heap.size+1+1+1,0,none⟩)],.int .i64 ((R.length-1-k:Nat):Int),.agg (valsNr (nrAt R (R.length-1-k))).toArray,undef,undef,undef,undef,undef,undef,undef,undef,undef,undef,undef,undef,undef,undef,undef,undef,undef,undef,undef,undef,undef,undef,undef,undef,undef,undef,undef,undef,undef,undef,undef,undef,undef,undef,undef,undef,undef,undef,undef,undef,undef,undef],defers:=[] })
  (fun k a' W W' h hk=>let ⟨nb,h1,h2,h3⟩:=h;⟨nb,h1,hk.cells h2,h3⟩)
  ?assign ?body ?done
 case assign =>
  rintro l k W K hk hI hK;simp only [encR]
  gi_wp2_with (refine stNI 90 (.tmp 5) (.tmp 14) (valsNr (nrAt R (R.length-1-k))) W.heap.size 0 rfl rfl rfl rfl (thereB (newS _ _) (by show (0+34:Nat)≤34;omega)) (by rw [valsNr_len];kernel_rfl) (valsNr_one _) ?_)
  have hbN:Below W.heap.size W ((W.alloc (.cells zeroNrA 90)).setCells W.heap.size 0 (valsNr (nrAt R (R.length-1-k)))):=below_setCells (Nat.le_refl _) _ _ _ (balloc (Below.refl _ _));exact hK _ _ (keepsFrom_below hbN) (hI.below hbN) ⟨W.heap.size,hI.z,new_fullW _ rfl rfl,rfl⟩
 case body =>
  rintro l k a' W hk hI ⟨nb,hnb,hn,rfl⟩
  obtain ⟨j,hj⟩:∃ j,R.length-1-k=j:=⟨_,rfl⟩
  rw [hj] at hn ⊢
  have hjl:j<R.length:=by omega
  have hget:R[j]?=some R[j]:=List.getElem?_eq_getElem hjl;rw [nrAt_get hget] at hn ⊢
  have hmg:(R.map Nr.n)[j]?=some R[j].n:=by rw [List.getElem?_map,hget];rfl
  generalize hp0:R[j]=p at *;have HI:=Lib.hid hI;have HN:=Lib.hid hn;have HG:=Lib.hid hget;have HMG:=Lib.hid hmg;have HJ:=Lib.hid hj;have ln:=ltS hn;have lt:=ltS hI.t;have ls:=ltS hI.s;have x1:W.cell? ⟨nb,1,none⟩=some (.int .i64 p.n.ww):=cellS hn 1;have x2:W.cell? ⟨nb,2,none⟩=some (.int .i64 p.n.hh):=cellS hn 2;have xt:=cellS hI.t 0;have xs:=cellS hI.s 0
  have hdj:(j:Int)<(R.length:Int):=by omega
  have hV:=HNV.out.keep hI.l
  obtain ⟨ks,hks⟩:∃ ks,(kidD (R.map Nr.n) j).map (fun (k:Nat)=>(k:Int))=ks:=⟨_,rfl⟩
  have HKS:=Lib.hid hks;have hge:w.heap.size+4≤W.heap.size:=hI.z;clear hI hn hget hmg hp0 hks hj;refine wpIn_block ?_
  refine wpIn_seq_k fun K1 hK1=>?_
  refine wpIn_region_liftAny (by kernel_rfl) (by kernel_rfl) ?_
  refine wpAny_rxp 13 1 #[true,true,true,true,true,true,true,true,true,true,true,true,true,false] (by kernel_rfl) (by kernel_rfl) (XV (.slice (some ⟨w.heap.size+1,0,none⟩) R.length R.length) :: XV (.int .i64 (j:Int)) :: XV (.agg (valsNr p).toArray) :: XV (.pointer (some ⟨nb,1,none⟩)) :: XV (.int .i64 p.n.ww) :: XV (.pointer (some ⟨nb,2,none⟩)) :: XV (.int .i64 p.n.hh) :: XV (.agg #[.int .i64 p.n.ww,.int .i64 p.n.hh]) :: XV (.agg #[.slice A R.length c]) :: XV (.int .i64 (j:Int)) :: (fun v z=>KdA (w.heap.size+4) z v ks) :: (fun v z=>WdV (w.heap.size+4) z v p (p.n.ww,p.n.hh) ks) :: XV (.pointer (some ⟨w.heap.size+1,j*37,none⟩)) :: []) (by kernel_rfl) (by kernel_rfl) ?hTs ?hops ?hfin
  case hTs =>
   intro T hT;simp only [List.mem_cons,List.not_mem_nil,or_false] at hT
   rcases hT with rfl | rfl | rfl | rfl | rfl | rfl | rfl | rfl | rfl | rfl | rfl | rfl | rfl <;> first | exact stay_V _ | exact stay_T | exact stay_of (fun v a b x g=>x.keep g) | exact stay_of (fun v a b x g=>x)
  case hops =>
   refine ⟨opOK_rx [(3,none)] (by kernel_rfl) rfl ?_,?_⟩
   ·intro act w' hw' h1;obtain ⟨hk,hf⟩:=evkf act;generalize act.eval=ρ at *;replace h1:ρ (.tmp 3)=.pointer (some ⟨w.heap.size+1+1,0,none⟩):=h1
    refine gxB hw' fun K hK hc hf'=>?_
    go_simp;exact hK _ _ ⟨rfl,Gr.refl _⟩
   refine ⟨opOK_rx [(4,none)] (by kernel_rfl) rfl ?_,?_⟩
   ·intro act w' hw' h1;obtain ⟨hk,hf⟩:=evkf act;generalize act.eval=ρ at *;replace h1:ρ (.tmp 4)=.int .i64 (j:Int):=h1
    refine gxB hw' fun K hK hc hf'=>?_
    go_simp;exact hK _ _ ⟨rfl,Gr.refl _⟩
   refine ⟨opOK_rx [(5,none)] (by kernel_rfl) rfl ?_,?_⟩
   ·intro act w' hw' h1;obtain ⟨hk,hf⟩:=evkf act;generalize act.eval=ρ at *;replace h1:ρ (.tmp 5)=.pointer (some ⟨nb,0,none⟩):=h1;refine gx_gen (fun K hK=>?_)
    simp only [execOp,h1,Instr.loadAt,Instr.sureAddr,Sem.run_bind,Sem.run_pure,Result.andThen_ok,run_loadVar_mid w' nb 0 90 (valsNr p) _ (rangeB (nodeAt HN.out) ((bdrewn hw'.out).block nb ln)) Tryz.underlying90 rfl (by rw [valsNr_len];kernel_rfl)];exact hK _ _ ⟨rfl,Gr.refl _⟩
   refine ⟨opOK_rx [(5,none)] (by kernel_rfl) rfl ?_,?_⟩
   ·intro act w' hw' h1;obtain ⟨hk,hf⟩:=evkf act;generalize act.eval=ρ at *;replace h1:ρ (.tmp 5)=.pointer (some ⟨nb,0,none⟩):=h1
    refine gxB hw' fun K hK hc hf'=>?_
    go_simp;exact hK _ _ ⟨rfl,Gr.refl _⟩
   refine ⟨opOK_rx [(18,some 3)] (by kernel_rfl) rfl ?_,?_⟩
   ·intro act w' hw' h1;obtain ⟨hk,hf⟩:=evkf act;generalize act.eval=ρ at *;replace h1:ρ (.tmp 18)=.pointer (some ⟨nb,1,none⟩):=h1
    refine gxB hw' fun K hK hc hf'=>?_
    go_simp;exact hK _ _ ⟨rfl,Gr.refl _⟩
   refine ⟨opOK_rx [(5,none)] (by kernel_rfl) rfl ?_,?_⟩
   ·intro act w' hw' h1;obtain ⟨hk,hf⟩:=evkf act;generalize act.eval=ρ at *;replace h1:ρ (.tmp 5)=.pointer (some ⟨nb,0,none⟩):=h1
    refine gxB hw' fun K hK hc hf'=>?_
    go_simp;exact hK _ _ ⟨rfl,Gr.refl _⟩
   refine ⟨opOK_rx [(20,some 5)] (by kernel_rfl) rfl ?_,?_⟩
   ·intro act w' hw' h1;obtain ⟨hk,hf⟩:=evkf act;generalize act.eval=ρ at *;replace h1:ρ (.tmp 20)=.pointer (some ⟨nb,2,none⟩):=h1
    refine gxB hw' fun K hK hc hf'=>?_
    go_simp;exact hK _ _ ⟨rfl,Gr.refl _⟩
   refine ⟨opOK_rx [(19,some 4),(21,some 6)] (by kernel_rfl) rfl ?_,?_⟩
   ·intro act w' hw' h1 h2;obtain ⟨hk,hf⟩:=evkf act;generalize act.eval=ρ at *;replace h1:ρ (.tmp 19)=.int .i64 p.n.ww:=h1;replace h2:ρ (.tmp 21)=.int .i64 p.n.hh:=h2
    refine gxB hw' fun K hK hc hf'=>?_
    go_simp;exact hK _ _ ⟨rfl,Gr.refl _⟩
   refine ⟨opOK_rx [(1,none)] (by kernel_rfl) rfl ?_,?_⟩
   ·intro act w' hw' h1;obtain ⟨hk,hf⟩:=evkf act;generalize act.eval=ρ at *;replace h1:ρ (.tmp 1)=.pointer (some ⟨w.heap.size,0,none⟩):=h1
    refine gxB hw' fun K hK hc hf'=>?_
    go_simp;exact hK _ _ ⟨rfl,Gr.refl _⟩
   refine ⟨opOK_rx [(4,none)] (by kernel_rfl) rfl ?_,?_⟩
   ·intro act w' hw' h1;obtain ⟨hk,hf⟩:=evkf act;generalize act.eval=ρ at *;replace h1:ρ (.tmp 4)=.int .i64 (j:Int):=h1
    refine gxB hw' fun K hK hc hf'=>?_
    go_simp;exact hK _ _ ⟨rfl,Gr.refl _⟩
   refine ⟨opOK_rx [(23,some 8),(24,some 9)] (by kernel_rfl) rfl ?_,?_⟩
   ·intro act w' hw' h1 h2;obtain ⟨hk,hf⟩:=evkf act;generalize act.eval=ρ at *;replace h1:ρ (.tmp 23)=.agg #[.slice A R.length c]:=h1;replace h2:ρ (.tmp 24)=.int .i64 (j:Int):=h2
    refine gxB hw' fun K hK hc hf'=>?_
    go_simp
    (refine (kidsOf_f A c R (j:Int) _ (hV.keep (bdrewn hw'.out)) (by omega)).mono ?_);rintro e w1 ⟨⟨v,rfl,hv⟩,hb1⟩;rw [kidsM_eq,HKS.out] at hv;exact ⟨_,rfl,hK _ _ ⟨KdA.of hv (Nat.le_trans hge (bdrewn hw'.out).size),hb1⟩⟩
   refine ⟨opOK_rx [(17,some 2),(22,some 7),(25,some 10)] (by kernel_rfl) rfl ?_,?_⟩
   ·intro act w' hw' h1 h2 h3;obtain ⟨hk,hf⟩:=evkf act;generalize act.eval=ρ at *;replace h1:ρ (.tmp 17)=.agg (valsNr p).toArray:=h1;replace h2:ρ (.tmp 22)=.agg #[.int .i64 p.n.ww,.int .i64 p.n.hh]:=h2;replace h3:(fun v z=>KdA (w.heap.size+4) z v ks) (ρ (.tmp 25)) w':=h3;refine gx_gen (fun K hK=>?_)
    obtain ⟨kA,kc,e3,hk3⟩:=h3;simp only [execOp,List.map_toArray,List.map_cons,List.map_nil,h1,h2,e3,Sem.run_bind,Sem.run_pure,run_bW,Result.andThen_ok];exact hK _ _ ⟨⟨_,rfl,rfl,rfl,rfl,hk3⟩,Gr.refl _⟩
   refine ⟨opOK_rx [(15,some 0),(16,some 1)] (by kernel_rfl) rfl ?_,?_⟩
   ·intro act w' hw' h1 h2;obtain ⟨hk,hf⟩:=evkf act;generalize act.eval=ρ at *;replace h1:ρ (.tmp 15)=.slice (some ⟨w.heap.size+1,0,none⟩) R.length R.length:=h1;replace h2:ρ (.tmp 16)=.int .i64 (j:Int):=h2
    refine gxB hw' fun K hK hc hf'=>?_
    go_simp;exact hK _ _ ⟨rfl,Gr.refl _⟩
   exact trivial
  case hfin =>
   intro w5 hg5;intro v15 t15;replace t15:v15=.slice (some ⟨w.heap.size+1,0,none⟩) R.length R.length:=t15;subst t15;intro v16 t16;replace t16:v16=.int .i64 (j:Int):=t16;subst t16;intro v17 t17;replace t17:v17=.agg (valsNr p).toArray:=t17;subst t17;intro v18 t18;replace t18:v18=.pointer (some ⟨nb,1,none⟩):=t18;subst t18;intro v19 t19;replace t19:v19=.int .i64 p.n.ww:=t19;subst t19;intro v20 t20
   replace t20:v20=.pointer (some ⟨nb,2,none⟩):=t20;subst t20;intro v21 t21;replace t21:v21=.int .i64 p.n.hh:=t21;subst t21;intro v22 t22;replace t22:v22=.agg #[.int .i64 p.n.ww,.int .i64 p.n.hh]:=t22;subst t22;intro v23 t23;replace t23:v23=.agg #[.slice A R.length c]:=t23;subst t23;intro v24 t24;replace t24:v24=.int .i64 (j:Int):=t24;subst t24;intro v25 t25
   replace t25:(fun v z=>KdA (w.heap.size+4) z v ks) v25 w5:=t25;intro v26 t26;replace t26:(fun v z=>WdV (w.heap.size+4) z v p (p.n.ww,p.n.hh) ks) v26 w5:=t26;intro v27 t27;replace t27:v27=.pointer (some ⟨w.heap.size+1,j*37,none⟩):=t27;subst t27;have hb5:=bdrewn hg5.out;clear hg5
   simp only [finP,List.take_succ_cons,List.take_zero,Act.put,List.setIfInBounds_toArray,List.set_cons_succ,List.set_cons_zero];obtain ⟨x,rfl,hx1,hx2,hx3,hx4⟩:=t26
   have hjk:j+(k+1)=R.length:=by have:=HJ.out;omega
   have hI5:=HI.out.below hb5;have hM:=hI5.put (j:=j) (by omega) (by omega) x;obtain ⟨X,X1,X2,-⟩:=hI5.x;refine wpAny_store 13 98 (.tmp 27) (.tmp 26) (w.heap.size+1) (j*37) (valsWd x) (by kernel_rfl) (by kernel_rfl) (by kernel_rfl) rfl rfl (by rw [valsWd_len];exact RpK.there X2 (by rw [List.length_map];omega)) (by rw [valsWd_len];kernel_rfl) (valsWd_one _) ?_;simp only [Exit.then];refine hK1 _ _ ?_
   clear hK1 K1;have hKF:KeepsFrom W0.heap.size W (w5.setCells (w.heap.size+1) (j*37) (valsWd x)):=(keepsFrom_below hb5).trans (keepsFrom_setCells _ _ _);have hN6:(w5.setCells (w.heap.size+1) (j*37) (valsWd x)).heap[nb]?=some (.cells (valsNr p).toArray 90 (0,0)):=(heap_setCells_ne (by omega) _ _ _).trans ((hb5.block nb ln).trans HN.out)
   have hx6:KidA (w.heap.size+4) (w5.setCells (w.heap.size+1) (j*37) (valsWd x)) x.ka ks:=hx4.sets (by omega) _;clear hI5 X1 X2 hb5 t25 X hx4 x1 x2 xt xs ls lt ln hge hV HI
   revert hKF hN6 hx6 hM
   generalize w5.setCells (w.heap.size+1) (j*37) (valsWd x)=W6;intro hM hKF hN6 hx6;clear w5;have HM:=Lib.hid hM;have HK:=Lib.hid hKF;have HN:=Lib.hid hN6;have HX6:=Lib.hid hx6;have HX1:=Lib.hid hx1;have HX2:=Lib.hid hx2;have HX3:=Lib.hid hx3;have HJK:=Lib.hid hjk;have ln:=ltS hN6;have ls:=ltS hM.s;have y3:W6.cell? ⟨nb,3,none⟩=some (.bool p.n.ke):=cellS hN6 3;have xs:=cellS hM.s 0
   obtain ⟨X,X1,X2,X3,X4⟩:=hM.x;obtain ⟨cs,hcs,hss,hcc⟩:=X2;have hi6:InS cs (j*37) (valsWd x):=hcc j (valsWd x) (by rw [List.length_map];omega) (by rw [List.getElem?_map,X3];rfl)
   have x36:W6.cell? ⟨w.heap.size+1,j*37+36,none⟩=some (.slice x.ka ks.length x.kc):=by rw [cellS hcs,hi6 36 _ rfl];show some (Value.slice x.ka x.kn x.kc)=_;rw [hx3]
   have lw:=ltS hcs;clear X1 X3 X4 X hcs hss hcc hi6 cs hM hKF hN6 hx6 hx1 hx2 hx3 hjk
   refine wpIn_seq_k fun K2 hK2=>?_
   refine wpIn_region_lift (by kernel_rfl) ?_
   cases hke:p.n.ke
   ·by_cases hnil:ks=[]
    ·rw [hke] at y3
     have hl0:decide ((ks.length:Int)>0)=false:=by simp [hnil]
     have hl1:decide ((0:Int)<(ks.length:Int))=false:=by simp [hnil]
     go_wp2;refine wpIn_cond_false rfl ?_;refine wpIn_skip ?_;simp only [Exit.inBlock];refine ⟨by first | rfl | trivial,HK.out,HM.out.done ⟨p,HG.out,HX1.out,?_,by rw [HKS.out];exact HX3.out,by rw [HKS.out];exact HX6.out⟩ HJK.out⟩;rw [HX2.out,szM_eq hT HMG.out];exact (askN_own (.inr (.inl (List.map_eq_nil_iff.1 (HKS.out.trans hnil))))).symm
    ·rw [hke] at y3;have hlp:=List.length_pos_iff.2 hnil
     have hl0:decide ((ks.length:Int)>0)=true:=by simp;omega
     have hl1:decide ((0:Int)<(ks.length:Int))=true:=by simp;omega
     go_wp2;refine wpIn_cond_true rfl ?_
     obtain ⟨q,hq⟩:∃ q,szM (R.map Nr.n) j=q:=⟨_,rfl⟩
     have hkd:kidD (R.map Nr.n) j≠[]:=fun e=>hnil (by rw [<- HKS.out,e];rfl)
     have hkl:∀ k∈kidD (R.map Nr.n) j,k<R.length:=fun k hk=>by have:=kidD_lt hk;rwa [List.length_map] at this
     have hk10:(kidD (R.map Nr.n) j).length≤10:=Nat.le_trans (kidD_len _ _) (by rw [List.length_map];exact hL);obtain ⟨X,X1,X2,X3,X4⟩:=HM.out.x
     obtain ⟨hp1,hp2⟩:=pick_pk (R:=R) (X:=X) (f:=szM (R.map Nr.n)) (ks:=kidD (R.map Nr.n) j) fun k hk=>by
      have hgt:=kid_gt hT hk;have hlt:=hkl k hk;have hy:X[k]?=some X[k]:=List.getElem?_eq_getElem (by omega);obtain ⟨r,hr,e1,e2,_⟩:=X4 k _ hy hgt;exact ⟨_,r,hy,hr,e1,e2⟩
     have hYl:(pickW X (kidD (R.map Nr.n) j)).length≤10:=by rw [pickW_len (fun k hk=>by have:=hkl k hk;omega)];exact hk10
     have hM1:=szM_eq hT HMG.out;rw [hq] at hM1
     have C0:=Lib.hid (show p.n.ki≠1→p.n.ki≠2→(∀ r∈(pickW X (kidD (R.map Nr.n) j)).map pkW,r.big)∧reqM ((pickW X (kidD (R.map Nr.n) j)).map pkW)=q from fun a1 a2=>by
      rw [hp1]
      exact ⟨pks_big hT _,(hM1.trans (askN_pk rfl hke hkd (by have:=(hT.sz j _ HMG.out).2.2;omega))).symm⟩)
     have C1:=Lib.hid (show p.n.ki=1→(linesB p.n.cs=true∧linesB p.n.rs=true)∧((∀ r∈(pickW X (kidD (R.map Nr.n) j)).map ceW,smW r)∧spansW p.n.cs.length (((pickW X (kidD (R.map Nr.n) j)).map ceW).map acM)∧spansW p.n.rs.length (((pickW X (kidD (R.map Nr.n) j)).map ceW).map dnM))∧gridM p.n.cs p.n.rs ((pickW X (kidD (R.map Nr.n) j)).map ceW)=q from fun a1=>by
      rw [hp2];obtain ⟨z1,z2,z3,_⟩:=ces_w hT HMG.out a1
      exact ⟨hT.li j _ HMG.out a1,⟨z1,z2,z3⟩,(hM1.trans (askN_gr rfl hke hkd a1)).symm⟩)
     have C2:=Lib.hid (show p.n.ki=2→(p.n.ww,p.n.hh)=q from fun a1=>(hM1.trans (askN_own (.inr (.inr a1)))).symm)
     have HAR:=Lib.hid (show ∀ W',Below W6.heap.size W6 W'→Calls Tryz.prog 64 #[.slice (some ⟨w.heap.size+1,0,none⟩) R.length R.length,.int .i64 (j:Int)] W' (fun e w'=>(∃ v,e=.returned v∧ArV w' v x (pickW X (kidD (R.map Nr.n) j)))∧Below W'.heap.size W' w') from fun W' hW'=>by
      have:=arranged_v (some ⟨w.heap.size+1,0,none⟩) R.length j X x (kidD (R.map Nr.n) j) W' (X2.v.keep hW') X3 (by omega) (fun k hk=>by have:=hkl k hk;omega) (by rw [HKS.out];exact HX6.out.nv.keep hW') (by rw [HX3.out,<- HKS.out,List.length_map]) (by rw [HX3.out,<- HKS.out,List.length_map];omega)
      rw [X1] at this
      exact this)
     have HRW:=Lib.hid (show W6.rangeAt (w.heap.size+1) (j*37+34) (valsWi (p.n.ww,p.n.hh)) from by
      obtain ⟨cs,hcs,hss,hcc⟩:=X2;have hi6:InS cs (j*37) (valsWd x):=hcc j (valsWd x) (by rw [List.length_map];omega) (by rw [List.getElem?_map,X3];rfl);unfold valsWd at hi6;rw [show ([.int .i64 x.sw,.int .i64 x.sh,.slice x.ka x.kn x.kc]:List Value)=valsWi (x.sw,x.sh) ++ [.slice x.ka x.kn x.kc] from rfl,InS_append,InS_append,HX2.out] at hi6
      exact fun m v hm=>(cellS hcs _).trans (hi6.2.1 m v hm))
     have HR1:=Lib.hid ((HRD.out.keep HM.out.l) p (List.mem_of_getElem? HG.out));have HQ:=Lib.hid hq;have HY:=Lib.hid hYl;have HWT:=Lib.hid (show W6.there (w.heap.size+1) (j*37) 37 from RpK.there X2 (by rw [List.length_map];omega));clear hq hkd hkl hk10 X1 X2 X3 X4 hp1 hp2 hYl hM1 hlp hl0 hl1 y3 x36 hke hnil ln;refine wpIn_region_liftAny (by kernel_rfl) (by kernel_rfl) ?_
     refine wpAny_rxp 16 1 #[true,true,true,true,true,true,true,true,true,true,true,true,true,true,true,true,false] (by kernel_rfl) (by kernel_rfl) (XV (.slice (some ⟨w.heap.size+1,0,none⟩) R.length R.length) :: XV (.int .i64 (j:Int)) :: XV (.slice (some ⟨w.heap.size+1,0,none⟩) R.length R.length) :: XV (.int .i64 (j:Int)) :: (fun v z=>ArV z v x (pickW X (kidD (R.map Nr.n) j))) :: XV (.slice (some ⟨w.heap.size+1,0,none⟩) R.length R.length) :: XV (.int .i64 (j:Int)) :: XV (.pointer (some ⟨w.heap.size+1,j*37,none⟩)) :: XV (.pointer (some ⟨w.heap.size+1,j*37+34,none⟩)) :: XV (.agg (valsWi (p.n.ww,p.n.hh)).toArray) :: (fun v z=>MfV z v x (pickW X (kidD (R.map Nr.n) j))) :: (fun v z=>MfV z v x (pickW X (kidD (R.map Nr.n) j))) :: (fun v z=>ArV z v x (pickW X (kidD (R.map Nr.n) j))) :: XV (.agg (valsWi q).toArray) :: XV (.pointer (some ⟨w.heap.size+1,j*37,none⟩)) :: XV (.pointer (some ⟨w.heap.size+1,j*37+34,none⟩)) :: []) (by kernel_rfl) (by kernel_rfl) ?hTs ?hops ?hfin
     case hTs =>
      intro T hT;simp only [List.mem_cons,List.not_mem_nil,or_false] at hT
      rcases hT with rfl | rfl | rfl | rfl | rfl | rfl | rfl | rfl | rfl | rfl | rfl | rfl | rfl | rfl | rfl | rfl <;> first | exact stay_V _ | exact stay_T | exact stay_of (fun v a b x g=>x.keep g) | exact stay_of (fun v a b x g=>x)
     case hops =>
      refine ⟨opOK_rx [(3,none)] (by kernel_rfl) rfl ?_,?_⟩
      ·intro act w' hw' h1;obtain ⟨hk,hf⟩:=evkf act;generalize act.eval=ρ at *;replace h1:ρ (.tmp 3)=.pointer (some ⟨w.heap.size+1+1,0,none⟩):=h1
       refine gxB hw' fun K hK hc hf'=>?_
       go_simp;exact hK _ _ ⟨rfl,Gr.refl _⟩
      refine ⟨opOK_rx [(4,none)] (by kernel_rfl) rfl ?_,?_⟩
      ·intro act w' hw' h1;obtain ⟨hk,hf⟩:=evkf act;generalize act.eval=ρ at *;replace h1:ρ (.tmp 4)=.int .i64 (j:Int):=h1
       refine gxB hw' fun K hK hc hf'=>?_
       go_simp;exact hK _ _ ⟨rfl,Gr.refl _⟩
      refine ⟨opOK_rx [(3,none)] (by kernel_rfl) rfl ?_,?_⟩
      ·intro act w' hw' h1;obtain ⟨hk,hf⟩:=evkf act;generalize act.eval=ρ at *;replace h1:ρ (.tmp 3)=.pointer (some ⟨w.heap.size+1+1,0,none⟩):=h1
       refine gxB hw' fun K hK hc hf'=>?_
       go_simp;exact hK _ _ ⟨rfl,Gr.refl _⟩
      refine ⟨opOK_rx [(4,none)] (by kernel_rfl) rfl ?_,?_⟩
      ·intro act w' hw' h1;obtain ⟨hk,hf⟩:=evkf act;generalize act.eval=ρ at *;replace h1:ρ (.tmp 4)=.int .i64 (j:Int):=h1
       refine gxB hw' fun K hK hc hf'=>?_
       go_simp;exact hK _ _ ⟨rfl,Gr.refl _⟩
      refine ⟨opOK_rx [(42,some 2),(43,some 3)] (by kernel_rfl) rfl ?_,?_⟩
      ·intro act w' hw' h1 h2;obtain ⟨hk,hf⟩:=evkf act;generalize act.eval=ρ at *;replace h1:ρ (.tmp 42)=.slice (some ⟨w.heap.size+1,0,none⟩) R.length R.length:=h1;replace h2:ρ (.tmp 43)=.int .i64 (j:Int):=h2
       refine gxB hw' fun K hK hc hf'=>?_
       go_simp
       (refine (HAR.out _ (bdrewn hw'.out)).mono ?_);rintro e w1 ⟨⟨v,rfl,hv⟩,hb1⟩;exact ⟨_,rfl,hK _ _ ⟨hv,hb1⟩⟩
      refine ⟨opOK_rx [(3,none)] (by kernel_rfl) rfl ?_,?_⟩
      ·intro act w' hw' h1;obtain ⟨hk,hf⟩:=evkf act;generalize act.eval=ρ at *;replace h1:ρ (.tmp 3)=.pointer (some ⟨w.heap.size+1+1,0,none⟩):=h1
       refine gxB hw' fun K hK hc hf'=>?_
       go_simp;exact hK _ _ ⟨rfl,Gr.refl _⟩
      refine ⟨opOK_rx [(4,none)] (by kernel_rfl) rfl ?_,?_⟩
      ·intro act w' hw' h1;obtain ⟨hk,hf⟩:=evkf act;generalize act.eval=ρ at *;replace h1:ρ (.tmp 4)=.int .i64 (j:Int):=h1
       refine gxB hw' fun K hK hc hf'=>?_
       go_simp;exact hK _ _ ⟨rfl,Gr.refl _⟩
      refine ⟨opOK_rx [(45,some 5),(46,some 6)] (by kernel_rfl) rfl ?_,?_⟩
      ·intro act w' hw' h1 h2;obtain ⟨hk,hf⟩:=evkf act;generalize act.eval=ρ at *;replace h1:ρ (.tmp 45)=.slice (some ⟨w.heap.size+1,0,none⟩) R.length R.length:=h1;replace h2:ρ (.tmp 46)=.int .i64 (j:Int):=h2
       refine gxB hw' fun K hK hc hf'=>?_
       go_simp;exact hK _ _ ⟨rfl,Gr.refl _⟩
      refine ⟨opOK_rx [(47,some 7)] (by kernel_rfl) rfl ?_,?_⟩
      ·intro act w' hw' h1;obtain ⟨hk,hf⟩:=evkf act;generalize act.eval=ρ at *;replace h1:ρ (.tmp 47)=.pointer (some ⟨w.heap.size+1,j*37,none⟩):=h1
       refine gxB hw' fun K hK hc hf'=>?_
       go_simp;exact hK _ _ ⟨rfl,Gr.refl _⟩
      refine ⟨opOK_rx [(48,some 8)] (by kernel_rfl) rfl ?_,?_⟩
      ·intro act w' hw' h1;obtain ⟨hk,hf⟩:=evkf act;generalize act.eval=ρ at *;replace h1:ρ (.tmp 48)=.pointer (some ⟨w.heap.size+1,j*37+34,none⟩):=h1;refine gx_gen (fun K hK=>?_)
       simp only [execOp,h1,Instr.loadAt,Instr.sureAddr,Sem.run_bind,Sem.run_pure,Result.andThen_ok,run_loadVar_mid w' (w.heap.size+1) (j*37+34) 96 (valsWi (p.n.ww,p.n.hh)) _ (rangeB HRW.out ((bdrewn hw'.out).block _ lw)) Tryz.underlying96 rfl (by kernel_rfl)];exact hK _ _ ⟨rfl,Gr.refl _⟩
      refine ⟨opOK_rx [(44,some 4)] (by kernel_rfl) rfl ?_,?_⟩
      ·intro act w' hw' h1;obtain ⟨hk,hf⟩:=evkf act;generalize act.eval=ρ at *;replace h1:(fun v z=>ArV z v x (pickW X (kidD (R.map Nr.n) j))) (ρ (.tmp 44)) w':=h1;refine gx_gen (fun K hK=>?_);rw [run_mf rfl];exact hK _ _ ⟨⟨_,rfl,h1⟩,Gr.refl _⟩
      refine ⟨opOK_rx [(50,some 10)] (by kernel_rfl) rfl ?_,?_⟩
      ·intro act w' hw' h1;obtain ⟨hk,hf⟩:=evkf act;generalize act.eval=ρ at *;replace h1:(fun v z=>MfV z v x (pickW X (kidD (R.map Nr.n) j))) (ρ (.tmp 50)) w':=h1;refine gx_gen (fun K hK=>?_)
       obtain ⟨u,e,hu⟩:=h1;obtain ⟨T,u2,F,rfl,hn,hc,hcall⟩:=arReq (ww:=p.n.ww) (hh:=p.n.hh) hu HX1.out (HR1.out.keep (bdrewn hw'.out)) HY.out C0.out C1.out C2.out;rw [run_nc rfl e hn];exact hK _ _ ⟨⟨_,e,hu⟩,Gr.refl _⟩
      refine ⟨opOK_rx [(44,some 4)] (by kernel_rfl) rfl ?_,?_⟩
      ·intro act w' hw' h1;obtain ⟨hk,hf⟩:=evkf act;generalize act.eval=ρ at *;replace h1:(fun v z=>ArV z v x (pickW X (kidD (R.map Nr.n) j))) (ρ (.tmp 44)) w':=h1
       refine gxB hw' fun K hK hc hf'=>?_
       go_simp;exact hK _ _ ⟨h1,Gr.refl _⟩
      refine ⟨opOK_rx [(52,some 12),(49,some 9)] (by kernel_rfl) rfl ?_,?_⟩
      ·intro act w' hw' h1 h2;obtain ⟨hk,hf⟩:=evkf act;generalize act.eval=ρ at *;replace h1:(fun v z=>ArV z v x (pickW X (kidD (R.map Nr.n) j))) (ρ (.tmp 52)) w':=h1;replace h2:ρ (.tmp 49)=.agg (valsWi (p.n.ww,p.n.hh)).toArray:=h2;refine gx_gen (fun K hK=>?_)
       obtain ⟨T,u,F,e,hn,hc,hcall⟩:=arReq (ww:=p.n.ww) (hh:=p.n.hh) h1 HX1.out (HR1.out.keep (bdrewn hw'.out)) HY.out C0.out C1.out C2.out;rw [run_inv rfl e h2 (hc _ _)];refine hcall.mono ?_;rintro e' w1 ⟨rfl,hb1⟩;exact ⟨_,rfl,hK _ _ ⟨rfl,hb1⟩⟩
      refine ⟨opOK_rx [(40,some 0),(41,some 1)] (by kernel_rfl) rfl ?_,?_⟩
      ·intro act w' hw' h1 h2;obtain ⟨hk,hf⟩:=evkf act;generalize act.eval=ρ at *;replace h1:ρ (.tmp 40)=.slice (some ⟨w.heap.size+1,0,none⟩) R.length R.length:=h1;replace h2:ρ (.tmp 41)=.int .i64 (j:Int):=h2
       refine gxB hw' fun K hK hc hf'=>?_
       go_simp;exact hK _ _ ⟨rfl,Gr.refl _⟩
      refine ⟨opOK_rx [(54,some 14)] (by kernel_rfl) rfl ?_,?_⟩
      ·intro act w' hw' h1;obtain ⟨hk,hf⟩:=evkf act;generalize act.eval=ρ at *;replace h1:ρ (.tmp 54)=.pointer (some ⟨w.heap.size+1,j*37,none⟩):=h1
       refine gxB hw' fun K hK hc hf'=>?_
       go_simp;exact hK _ _ ⟨rfl,Gr.refl _⟩
      exact trivial
     case hfin =>
      intro w7 hg7;intro v40 t40;replace t40:v40=.slice (some ⟨w.heap.size+1,0,none⟩) R.length R.length:=t40;subst t40;intro v41 t41;replace t41:v41=.int .i64 (j:Int):=t41;subst t41;intro v42 t42;replace t42:v42=.slice (some ⟨w.heap.size+1,0,none⟩) R.length R.length:=t42;subst t42;intro v43 t43;replace t43:v43=.int .i64 (j:Int):=t43;subst t43;intro v44 t44
      replace t44:(fun v z=>ArV z v x (pickW X (kidD (R.map Nr.n) j))) v44 w7:=t44;intro v45 t45;replace t45:v45=.slice (some ⟨w.heap.size+1,0,none⟩) R.length R.length:=t45;subst t45;intro v46 t46;replace t46:v46=.int .i64 (j:Int):=t46;subst t46;intro v47 t47;replace t47:v47=.pointer (some ⟨w.heap.size+1,j*37,none⟩):=t47;subst t47;intro v48 t48
      replace t48:v48=.pointer (some ⟨w.heap.size+1,j*37+34,none⟩):=t48;subst t48;intro v49 t49;replace t49:v49=.agg (valsWi (p.n.ww,p.n.hh)).toArray:=t49;subst t49;intro v50 t50;replace t50:(fun v z=>MfV z v x (pickW X (kidD (R.map Nr.n) j))) v50 w7:=t50;intro v51 t51;replace t51:(fun v z=>MfV z v x (pickW X (kidD (R.map Nr.n) j))) v51 w7:=t51;intro v52 t52
      replace t52:(fun v z=>ArV z v x (pickW X (kidD (R.map Nr.n) j))) v52 w7:=t52;intro v53 t53;replace t53:v53=.agg (valsWi q).toArray:=t53;subst t53;intro v54 t54;replace t54:v54=.pointer (some ⟨w.heap.size+1,j*37,none⟩):=t54;subst t54;intro v55 t55;replace t55:v55=.pointer (some ⟨w.heap.size+1,j*37+34,none⟩):=t55;subst t55;have hb7:=bdrewn hg7.out;clear hg7
      simp only [finP,List.take_succ_cons,List.take_zero,Act.put,List.setIfInBounds_toArray,List.set_cons_succ,List.set_cons_zero]
      have hth:w7.there (w.heap.size+1) (j*37+34) (valsWi q).length:=by
       obtain ⟨X',Y1,Y2,Y3,Y4⟩:=(HM.out.keep hb7).x;obtain ⟨cs,hcs,hss,_⟩:=Y2;exact thereB hcs (by rw [hss,List.length_map,Y1];show j*37+34+2≤_;omega)
      refine wpAny_store 16 96 (.tmp 55) (.tmp 53) (w.heap.size+1) (j*37+34) (valsWi q) (by kernel_rfl) (by kernel_rfl) (by kernel_rfl) rfl rfl hth (by kernel_rfl) (valsWi_one _) ?_;simp only [Exit.then,Exit.inBlock]
      refine ⟨by first | rfl | trivial,HK.out.trans ((keepsFrom_below hb7).trans (keepsFrom_setCells _ _ _)),StM.done ((HM.out.keep hb7).wish q.1 q.2) ⟨p,HG.out,HX1.out,?_,by rw [HKS.out];exact HX3.out,by rw [HKS.out];exact (HX6.out.keep hb7).sets (by omega) _⟩ HJK.out⟩;rw [HQ.out]
   ·rw [hke] at y3;go_wp2;refine wpIn_cond_false rfl ?_;refine wpIn_skip ?_;simp only [Exit.inBlock];refine ⟨by first | rfl | trivial,HK.out,HM.out.done ⟨p,HG.out,HX1.out,?_,by rw [HKS.out];exact HX3.out,by rw [HKS.out];exact HX6.out⟩ HJK.out⟩;rw [HX2.out,szM_eq hT HMG.out];exact (askN_own (.inl hke)).symm
 case done =>
  rintro D W hD hI hK;have xs:=cellS hI.s 0
  gi_wp2
  have hkc:KeepsC W0.heap.size W (W.putObj D (.deferred none)):=keepsC_put hD hK rfl rfl;refine ⟨by simp,.inl ⟨_,_,rfl,run_takeDeferred hK,?_⟩⟩
  have hf:=StW.same hI (hkc.1.mono (by omega)) fun g cs T hg=>hkc.block hg
  refine ⟨_,results_tmp rfl _ _ _,⟨_,rfl,?_⟩,hf.l⟩;exact hf.all
end
theorem moved_w (x y u v p q:Int) (w:World) (h1:-1000000000000000≤x∧x≤1000000000000000) (h2:-1000000000000000≤y∧y≤1000000000000000) (h3:-1000000000000000≤p∧p≤1000000000000000) (h4:-1000000000000000≤q∧q≤1000000000000000):Calls Tryz.prog 65 #[.agg #[.int .i64 (x),.int .i64 (y),.int .i64 (u),.int .i64 (v)],.int .i64 p,.int .i64 q] w fun e w'=>e=.returned (.agg #[.int .i64 (x+p),.int .i64 (y+q),.int .i64 (u),.int .i64 (v)])∧Below w.heap.size w w':=by
 have e1:IntKind.i64.wrap (x+p)=x+p:=IntWalk.i64_in _ (by omega);have e2:IntKind.i64.wrap (y+q)=y+q:=IntWalk.i64_in _ (by omega);obtain ⟨a1,a2⟩:=h1;obtain ⟨a3,a4⟩:=h2;obtain ⟨b1,b2⟩:=h3;obtain ⟨b3,b4⟩:=h4
 go_enter Tryz.func65,Tryz.ntmps65
 go_wp2
 exact bodyPost_ret (v:=.agg #[.int .i64 (x+p),.int .i64 (y+q),.int .i64 (u),.int .i64 (v)]) (by simp only [results,Tryz.results65];go_simp) rfl ⟨rfl,(by repeat (first | with_reducible exact Below.refl _ _ | with_reducible assumption | with_reducible refine balloc ?_|(with_reducible refine bset ?_ ?_;rotate_left;((try dsimp only);omega)) | refine bkeep2 ?_ (by assumption) | with_reducible refine Below.drew ?_))⟩
section
section
variable {P:Program}
def cloX (l:List Oper) (n:Nat) (X:Nat→Bool):Bool:=decide (n≤l.length)&&(List.range l.length).all fun i=>decide (i<n) || (List.range n).all fun j=>X j || reachB l l.length i j
theorem wpAny_rgpX {l:List Oper} {Q:Exit→Act→World→Prop} {a0:Act} {w:World} (T:Nat→Value→World→Prop) (R:World→World→Prop) (I:Nat→World→Prop)
  (n1:Nat) (hB:rgC l a0.tmps.size=true) (X:Nat→Bool) (hC:cloX l n1 X=true) (hRr:∀ a,R a a) (hRt:∀ a b c,R a b→R b c→R a c) (hTs:∀ k v a b,T k v a→R a b→T k v b) (hI0:I 0 w.drew)
  (hops:opsOK P l T R I a0 w.drew (l.take n1) 0) (hfin:∀ w',R w.drew w'→I n1 w'→finP T w' (fun a'=>wpAny P .any l.toArray Q (l.length-n1) (listedTo n1 0 (Array.replicate l.toArray.size false)) a' w') (l.take n1) 0 a0) :
  ∀ (fuel m:Nat) (listed:Array Bool) (a:Act) (w':World),cntF (fun i=>listed.getD i true) l.length=fuel→listed.size=l.length→fuel+m=l.length→(∀ i,n1≤i→i<l.length→listed.getD i false=false)→(∀ j,X j=true→listed.getD j false=true)→DC l listed→RJ l T R I a0 w.drew m listed a w' →
   wpAny P .any l.toArray Q fuel listed a w':=by
 simp only [rgC,Bool.and_eq_true] at hB;obtain ⟨hns,hB⟩:=hB
 have hB':∀ (i:Nat) (o:Oper),l[i]?=some o→(∀ e∈o.after,Region.binds .any e=true→e.on<i)∧(∀ d,o.dst=some d→d<a0.tmps.size∧dstIdx d l 0=some i)∧(∀ t∈o.looksAt l.toArray,∀ j,dstIdx t l 0=some j→∃ e∈o.after,e.on=j∧Region.binds .any e=true):=by
  intro i o ho;have hlt:=(List.getElem?_eq_some_iff.1 ho).1;have h1:=List.all_eq_true.1 hB i (List.mem_range.2 hlt);simp only [ho,Bool.and_eq_true] at h1;obtain ⟨⟨h1,h2⟩,h3⟩:=h1;refine ⟨fun e he hb=>by have:=List.all_eq_true.1 h1 e (by simpa using he);simpa [hb] using this,fun d hd=>?_,fun t ht j hj=>?_⟩
  ·rw [hd] at h2;simp only [Option.all_some,Bool.and_eq_true,decide_eq_true_eq,beq_iff_eq] at h2;exact h2
  ·have h4:=List.all_eq_true.1 h3 t ht;rw [hj] at h4;obtain ⟨e,he,h5⟩:=List.any_eq_true.1 h4;simp only [Bool.and_eq_true,beq_iff_eq] at h5;exact ⟨e,by simpa using he,h5⟩
 have hdist:∀ (i:Nat) (o:Oper) (j:Nat) (p:Oper),l[i]?=some o→l[j]?=some p→i≠j→∀ d,o.dst=some d→p.dst≠some d:=by
  intro i o j p ho hp hij d hd hpd;have h1:=((hB' i o ho).2.1 d hd).2;rw [((hB' j p hp).2.1 d hpd).2] at h1
  injection h1 with h1
  exact hij h1.symm
 obtain ⟨hle1,hcl⟩:n1≤l.length∧∀ i,n1≤i→i<l.length→∀ j,j<n1→X j=false→reachB l l.length i j=true:=by
  simp only [cloX,Bool.and_eq_true,decide_eq_true_eq,List.all_eq_true,List.mem_range,Bool.or_eq_true] at hC;refine ⟨hC.1,fun i hi hil j hj hX=>?_⟩
  rcases hC.2 i hil with h | h
  ·omega
  ·rcases h j hj with h | h
   ·rw [hX] at h;cases h
   ·exact h
 intro fuel
 have hdone:∀ (m:Nat) (listed:Array Bool) (a:Act) (w':World),cntF (fun i=>listed.getD i true) l.length=l.length-m→listed.size=l.length→m≤l.length→(∀ i,n1≤i→i<l.length→listed.getD i false=false)→(∀ i,i<n1→listed.getD i false=true)→RJ l T R I a0 w.drew m listed a w'→wpAny P .any l.toArray Q (l.length-m) listed a w':=by
  rintro m listed a w' hc hls hml hlow hall ⟨hR,hI,hd,hs,ht,hT⟩
  have hm1:m=n1:=by
   have h1:cntF (fun i=>listed.getD i true) l.length=cntF (fun i=>decide (i<n1)) l.length:=cntF_same (fun i hi=>by
    by_cases h:i<n1
    ·have:=hall i h
     rw [Array.getD_eq_getD_getElem?,Array.getElem?_eq_getElem (by omega)] at *
     simpa [h] using this
    ·have:=hlow i (by omega) hi
     rw [Array.getD_eq_getD_getElem?,Array.getElem?_eq_getElem (by omega)] at *
     simpa [h] using this)
   rw [h1,cntF_lt] at hc;omega
  subst hm1
  have he:listed=listedTo m 0 (Array.replicate l.toArray.size false):=by
   apply Array.ext
   ·rw [listedTo_size];simp [hls]
   ·intro i h1 h2
    have e1:listed[i]=listed.getD i false:=by rw [Array.getD_eq_getD_getElem?,Array.getElem?_eq_getElem h1];rfl
    have e2:(listedTo m 0 (Array.replicate l.toArray.size false))[i]=(listedTo m 0 (Array.replicate l.toArray.size false)).getD i false:=by rw [Array.getD_eq_getD_getElem?,Array.getElem?_eq_getElem h2];rfl
    rw [e1,e2,listedTo_getD (by simpa using (by omega:0+m≤l.length))]
    by_cases h:i<m
    ·rw [hall i h,if_pos (by omega)]
    ·rw [hlow i (by omega) (by omega),if_neg (by omega),Array.getD_eq_getD_getElem?,Array.getElem?_replicate]
     split <;> rfl
  have hlm:∀ (j:Nat) (o:Oper),l[j]?=some o→listed.getD j false=true→j<m:=fun j o ho hl=>by
   by_cases h:j<m
   ·exact h
   ·exfalso
    have:=hlow j (by omega) (List.getElem?_eq_some_iff.1 ho).1
    rw [hl] at this
    cases this
  rw [he];refine finP_to (T:=T) (w:=w') (F:=fun a'=>wpAny P .any l.toArray Q (l.length-m) (listedTo m 0 (Array.replicate l.toArray.size false)) a' w') (l:=l.take m) (k:=0) (b:=a0) hd.symm hs.symm (fun t h=>?_) (fun j o ho hn=>?_) (hfin w' hR hI)
  ·exact (ht t fun j o ho hl=>h o (by
    have hj:=hlm j o ho hl
    exact List.mem_of_getElem? (i:=j) (by rw [List.getElem?_take,if_pos hj];exact ho))).symm
  ·rw [Nat.zero_add];rw [List.getElem?_take] at ho
   split at ho
   ·rename_i hj
    exact hT j o ho (hall j hj) hn
   ·cases ho
 induction fuel with
 | zero =>
  intro m listed a w' hc hls hm' hlow hx hdc hJ
  have hall:∀ i,i<l.length→listed.getD i false=true:=fun i hi=>by
   have:=cntF_zero hc i hi
   rw [Array.getD_eq_getD_getElem?,Array.getElem?_eq_getElem (by omega)] at *
   simpa using this
  have h:=hdone m listed a w' (by rw [hc];omega) hls (by omega) hlow (fun i hi=>hall i (by omega)) hJ
  rwa [show l.length-m=0 by omega] at h
 | succ fuel ih =>
  intro m listed a w' hc hls hm' hlow hx hdc hJ
  by_cases hph:∀ i,i<n1→listed.getD i false=true
  ·have h:=hdone m listed a w' (by rw [hc];omega) hls (by omega) hlow hph hJ
   rwa [show l.length-m=fuel+1 by omega] at h
  have hlt1:∀ (i:Nat) (o:Oper),l[i]?=some o→listed.getD i false=false→(∀ e∈o.after,Region.binds .any e=true→listed.getD e.on false=true)→i<n1:=fun i o ho h0 hall=>by
   by_cases h:i<n1
   ·exact h
   ·exfalso
    apply hph;intro j hj
    by_cases hX:X j=true
    ·exact hx j hX
    have hr:=hcl i (by omega) (List.getElem?_eq_some_iff.1 ho).1 j hj (by simpa using hX)
    have hpos:l.length=(l.length-1)+1:=by have:=(List.getElem?_eq_some_iff.1 ho).1;omega
    rw [hpos] at hr;simp only [reachB,ho,List.any_eq_true,Bool.and_eq_true,Bool.or_eq_true,beq_iff_eq] at hr;obtain ⟨e,he,hb,hr⟩:=hr;have hl:=hall e (by simpa using he) hb
    rcases hr with rfl | hr
    ·exact hl
    ·exact DC.reach hdc _ hl hr
  refine ⟨fun hr=>?_,fun i hi=>?_⟩
  ·exfalso
   apply hph;intro i
   induction i using Nat.strongRecOn with
   | ind i ih' =>
    intro hi
    by_cases hl:listed.getD i false=true
    ·exact hl
    ·exfalso
     have hil:i<l.length:=by omega
     have ho:l[i]?=some l[i]:=List.getElem?_eq_getElem hil
     have hmem:i∈Region.ready .any l.toArray listed:=mem_ready.2 ⟨by
      rw [Array.getD_eq_getD_getElem?,Array.getElem?_eq_getElem (by omega)] at *;simp only [Option.getD_some,Bool.not_eq_true] at *
      exact hl,l[i],by simp,fun e he hb=>ih' e.on ((hB' i _ ho).1 e he hb) (by have:=(hB' i _ ho).1 e he hb;omega)⟩
     rw [hr] at hmem
     cases hmem
  ·obtain ⟨h0,o,ho',hall⟩:=mem_ready.1 hi
   have ho:l[i]?=some o:=by simpa using ho'
   have hlt:i<l.length:=(List.getElem?_eq_some_iff.1 ho).1
   have h0':listed.getD i false=false:=by
    rw [Array.getD_eq_getD_getElem?,Array.getElem?_eq_getElem (by omega)] at *
    simpa using h0
   have hi1:i<n1:=hlt1 i o ho h0' hall
   have hot:(l.take n1)[i]?=some o:=by rw [List.getElem?_take,if_pos hi1];exact ho
   obtain ⟨hR,hI,hd,hs,ht,hT⟩:=hJ;obtain ⟨b1,b2,b3⟩:=hB' i o ho
   have hlook:∀ t∈o.looksAt l.toArray,match dstIdx t l 0 with | some j=>T j (tv a t) w' | none=>tv a t=tv a0 t:=by
    intro t htm
    cases hj:dstIdx t l 0 with
    | none =>
     refine tv_of (ht t fun j p hp _=>dstIdx_none hj p (List.mem_of_getElem? hp))
    | some j =>
     obtain ⟨e,he,rfl,hb⟩:=b3 t htm j hj;obtain ⟨_,p,hp,hpd⟩:=dstIdx_some hj
     have:=hT e.on p (by simpa using hp) (hall e he hb) (by rw [hpd];simp)
     rw [hpd] at this;exact this
   have hop:=look_of hlook (opsOK_at hops hot m a w' (by omega) hR hI);rw [Nat.zero_add] at hop
   have hget:∀ d,(listed.setIfInBounds i true).getD i d=true:=fun d=>by
    rw [Array.getD_eq_getD_getElem?,Array.getElem?_setIfInBounds_self_of_lt (by omega)];rfl
   have next:∀ v w1,T i v w1→R w' w1→I (m+1) w1→wpAny P .any l.toArray Q fuel (listed.setIfInBounds i true) (a.put o.dst v) w1:=by
    intro v w1 hTv hR1 hI1;refine ih (m+1) _ _ _ ?_ (by simpa using hls) (by omega) (fun k hk hkl=>?_) ?_ (hdc.set ho hall) ⟨hRt _ _ _ hR hR1,hI1,(put_defers' _ _ _).trans hd,(put_size _ _ _).trans hs,fun t h=>?_,fun j p hp hl hn=>?_⟩
    ·have:=cntF_set (f:=fun i=>listed.getD i true) (g:=fun j=>(listed.setIfInBounds i true).getD j true) (i:=i) h0 (hget true) (fun j hj=>getD_set_ne true (Ne.symm hj)) hlt
     omega
    ·rw [getD_set_ne false (by omega)];exact hlow k hk hkl
    ·exact fun k hk=>getD_set_true (hx k hk)
    ·have hne:o.dst≠some t:=h i o ho (hget false);rw [put_ne _ _ _ hne]
     exact ht t fun j p hp hl=>h j p hp (getD_set_true hl)
    ·by_cases e:i=j
     ·subst e;rw [ho] at hp;obtain rfl:=Option.some.inj hp
      cases hod:o.dst with
      | none=>exact absurd hod hn
      | some d =>
       have:tv (a.put (some d) v) d=v:=by
        unfold tv;rw [Array.getD_eq_getD_getElem?,put_same _ _ _ (by rw [hs];exact (b2 d hod).1)]
        rfl
       simp only [vof];rw [this];exact hTv
     ·rw [getD_set_ne false e] at hl;have h2:=hTs j _ w' w1 (hT j p hp hl hn) hR1
      cases hpd:p.dst with
      | none=>exact absurd hpd hn
      | some d =>
       rw [hpd] at h2;simp only [vof] at h2 ⊢;rw [show tv (a.put o.dst v) d=tv a d from tv_of (put_ne _ _ _ (fun hod=>hdist i o j p ho hp e d hod hpd))];exact h2
   unfold wpOp;simp only [ho']
   cases hg:o.guard with
   | none =>
    rw [hg] at hop;rw [if_pos (by simp [Region.wanted,hg])];exact .inl (wp_of_gives hop fun v w1 ⟨h1,h2,h3⟩=>next v w1 h1 h2 h3)
   | some g =>
    rw [hg] at hop;obtain ⟨g1,g2⟩:=hop
    split
    ·rename_i hw
     exact .inl (wp_of_gives (g1 hw) fun v w1 ⟨h1,h2,h3⟩=>next v w1 h1 h2 h3)
    ·rename_i hw
     obtain ⟨h1,h2⟩:=g2 (by simpa using hw);exact next undef w' h1 (hRr _) h2
theorem rj_step {l:List Oper} {T:Nat→Value→World→Prop} {R:World→World→Prop} {I:Nat→World→Prop} {a0 a:Act} {w0 w w1:World} {m i:Nat} {listed:Array Bool} {o:Oper} {v:Value}
  (hRt:∀ a b c,R a b→R b c→R a c) (hTs:∀ k v a b,T k v a→R a b→T k v b) (hB:rgC l a0.tmps.size=true) (hls:listed.size=l.length) (ho:l[i]?=some o) (hTv:T i v w1) (hR1:R w w1) (hI1:I (m+1) w1) (hJ:RJ l T R I a0 w0 m listed a w) :
  RJ l T R I a0 w0 (m+1) (listed.setIfInBounds i true) (a.put o.dst v) w1:=by
 obtain ⟨hR,hI,hd,hs,ht,hT⟩:=hJ;simp only [rgC,Bool.and_eq_true] at hB;obtain ⟨hns,hB⟩:=hB
 have hB':∀ (i:Nat) (o:Oper),l[i]?=some o→∀ d,o.dst=some d→d<a0.tmps.size∧dstIdx d l 0=some i:=by
  intro i o ho d hd;have hlt:=(List.getElem?_eq_some_iff.1 ho).1;have h1:=List.all_eq_true.1 hB i (List.mem_range.2 hlt);simp only [ho,Bool.and_eq_true] at h1;obtain ⟨⟨h1,h2⟩,h3⟩:=h1;rw [hd] at h2
  simpa using h2
 have hlt:i<l.length:=(List.getElem?_eq_some_iff.1 ho).1
 have hget:∀ d,(listed.setIfInBounds i true).getD i d=true:=fun d=>by
  rw [Array.getD_eq_getD_getElem?,Array.getElem?_setIfInBounds_self_of_lt (by omega)];rfl
 refine ⟨hRt _ _ _ hR hR1,hI1,(put_defers' _ _ _).trans hd,(put_size _ _ _).trans hs,fun t h=>?_,fun j p hp hl hn=>?_⟩
 ·have hne:o.dst≠some t:=h i o ho (hget false);rw [put_ne _ _ _ hne]
  exact ht t fun j p hp hl=>h j p hp (getD_set_true hl)
 ·by_cases e:i=j
  ·subst e;rw [ho] at hp;obtain rfl:=Option.some.inj hp
   cases hod:o.dst with
   | none=>exact absurd hod hn
   | some d =>
    have:tv (a.put (some d) v) d=v:=by
     unfold tv;rw [Array.getD_eq_getD_getElem?,put_same _ _ _ (by rw [hs];exact (hB' i o ho d hod).1)]
     rfl
    simp only [vof];rw [this];exact hTv
  ·rw [getD_set_ne false e] at hl;have h2:=hTs j _ w w1 (hT j p hp hl hn) hR1
   cases hpd:p.dst with
   | none=>exact absurd hpd hn
   | some d =>
    rw [hpd] at h2;simp only [vof] at h2 ⊢
    rw [show tv (a.put o.dst v) d=tv a d from tv_of (put_ne _ _ _ (fun hod=>by
     have e1:=(hB' i o ho d hod).2;rw [(hB' j p hp d hpd).2] at e1
     exact e (Option.some.inj e1).symm))]
    exact h2
def lonesB (l:List Oper):List (Nat × Nat × Nat)→Array Bool→Bool
 | [],_=>true
 | (x,d,s) :: r,listed=>(match l[x]? with
  | some o=>o.guard.isNone&&(match o.op,o.dst with | .move (.tmp s'),some d'=>s' == s&&d' == d | _,_=>false)&&(o.after.toList.all fun e=>!Region.binds .any e)&&Region.free .any l.toArray listed x&&(Region.ready .any l.toArray listed).contains x&&(dstIdx s l 0).isNone&&!(listed.getD x true)
  | none=>false)&&lonesB l r (listed.setIfInBounds x true)
theorem wpAny_lones {l:List Oper} {Q:Exit→Act→World→Prop} {a0:Act} {w:World} (n1:Nat) (X:Nat→Bool) (tl:List (Value→World→Prop)) (hB:rgC l a0.tmps.size=true) (hC:cloX l n1 X=true) (hTs:∀ T∈tl,Stay T)
  (hops:opsOK P l (fun k=>tl.getD k XT) Gr GIx a0 w.drew (l.take n1) 0) (hfin:∀ w',Gr w.drew w'→finP (fun k=>tl.getD k XT) w' (fun a'=>wpAny P .any l.toArray (NoPan Q) (l.length-n1) (listedTo n1 0 (Array.replicate l.toArray.size false)) a' w') (l.take n1) 0 a0) :
  ∀ (xs:List (Nat × Nat × Nat)) (fuel m:Nat) (listed:Array Bool) (a:Act),lonesB l xs listed=true→(∀ x d s,(x,d,s)∈xs→x<n1∧(tl.getD x XT) (a0.eval (.tmp s)) w.drew) →
   cntF (fun i=>listed.getD i true) l.length=fuel→listed.size=l.length→fuel+m=l.length→(∀ i,n1≤i→i<l.length→listed.getD i false=false)→(∀ j,X j=true→listed.getD j false=true∨∃ d s,(j,d,s)∈xs)→DC l listed→RJ l (fun k=>tl.getD k XT) Gr GIx a0 w.drew m listed a w.drew →
   wpAny P .any l.toArray (NoPan Q) fuel listed a w.drew
 | [],fuel,m,listed,a,_,_,hc,hls,hm,hlow,hX,hdc,hJ =>
  wpAny_rgpX (w:=w) (a0:=a0) (fun k=>tl.getD k XT) Gr GIx n1 hB X hC Gr.refl (fun _ _ _ h k=>h.trans k) (stay_list hTs) trivial hops (fun w' h _=>hfin w' h) fuel m listed a w.drew hc hls hm hlow (fun j hj=>by rcases hX j hj with h | ⟨d,s,h⟩;exact h;simp at h) hdc hJ
 | (x,d,s) :: r,fuel,m,listed,a,hl,hT,hc,hls,hm,hlow,hX,hdc,hJ=>by
  simp only [lonesB,Bool.and_eq_true] at hl;obtain ⟨hl,hlr⟩:=hl
  cases ho:l[x]? with
  | none=>rw [ho] at hl;cases hl
  | some o =>
   rw [ho] at hl;simp only [Bool.and_eq_true,List.all_eq_true,Bool.not_eq_true',Option.isNone_iff_eq_none] at hl;obtain ⟨⟨⟨⟨⟨⟨hg,h2⟩,haf⟩,hfr⟩,hr⟩,hds⟩,hxl⟩:=hl
   obtain ⟨hop,hd⟩:o.op=.move (.tmp s)∧o.dst=some d:=by
    revert h2
    cases hop:o.op <;> cases hd:o.dst <;> simp
    try
     rename_i y z
     cases y <;> simp
     try
      intro a b
      simp [a,b]
   have hlt:x<l.length:=(List.getElem?_eq_some_iff.1 ho).1;have hB2:=hB;simp only [rgC,Bool.and_eq_true] at hB2;obtain ⟨hxn,hTx⟩:=hT x d s List.mem_cons_self
   have hev:a.eval (.tmp s)=a0.eval (.tmp s):=by
    have:=hJ.2.2.2.2.1 s (fun j o' ho' _=>dstIdx_none hds o' (List.mem_of_getElem? ho'))
    exact tv_of this
   have hset:=cntF_set (f:=fun i=>listed.getD i true) (g:=fun j=>(listed.setIfInBounds x true).getD j true) (i:=x) hxl (by
    show (listed.setIfInBounds x true).getD x true=true
    rw [Array.getD_eq_getD_getElem?,Array.getElem?_setIfInBounds_self_of_lt (by omega)];rfl) (fun j hj=>getD_set_ne true (Ne.symm hj)) hlt
   have ho':l.toArray[x]?=some o:=by simpa using ho
   have hpos:fuel=(fuel-1)+1:=by omega
   rw [hpos];refine wpAny_first (i:=x) (oi:=o) (v:=a.eval (.tmp s)) ho' (Region.noSelect_spec hB2.1) (fun c a w h=>(h:False).elim) (fuel-1) _ a w.drew (Region.free_spec ho' hfr) (by simpa using hr) (.inl ⟨?_,?_⟩) ?_
   ·simp [Region.wanted,hg]
   ·intro w';obtain ⟨dst,op,type,pos,after,guard⟩:=o;simp only at hop;subst hop
    rfl
   refine wpAny_lones n1 X tl hB hC hTs hops hfin r (fuel-1) (m+1) _ _ hlr (fun x' d' s' h=>hT x' d' s' (List.mem_cons_of_mem _ h)) (by omega) (by simpa using hls) (by omega) (fun i hi hil=>?_) (fun j hj=>?_) ?_ ?_
   ·rw [getD_set_ne false (by omega)];exact hlow i hi hil
   ·by_cases e:j=x
    ·subst e
     left
     rw [Array.getD_eq_getD_getElem?,Array.getElem?_setIfInBounds_self_of_lt (by omega)];rfl
    ·rcases hX j hj with h | ⟨d',s',h⟩
     ·exact .inl (getD_set_true h)
     ·rcases List.mem_cons.1 h with h | h
      ·cases h;exact absurd rfl e
      ·exact .inr ⟨d',s',h⟩
   ·exact hdc.set ho (fun e he hb=>by rw [haf e (by simpa using he)] at hb;cases hb)
   ·exact rj_step (fun _ _ _ h k=>h.trans k) (stay_list hTs) hB hls ho (by rw [hev];exact hTx) (Gr.refl _) trivial hJ
theorem wp_region_rxl {id:Nat} {l:List Oper} {Q:Exit→Act→World→Prop} {a0:Act} {w:World} (n1 m:Nat) (xs:List (Nat × Nat × Nat)) (listed:Array Bool) (hf:P.follows .mixedOrders=true) (hm:l.length-n1=m) (hls:listedTo n1 0 (Array.replicate l.toArray.size false)=listed) (tl:List (Value→World→Prop)) (hB:rgC l a0.tmps.size=true) (hC:cloX l n1 (fun j=>xs.any fun p=>p.1 == j)=true) (hl:lonesB l xs (Array.replicate l.length false)=true) (hTs:∀ T∈tl,Stay T) (hT:∀ x d s,(x,d,s)∈xs→x<n1∧(tl.getD x XT) (a0.eval (.tmp s)) w.drew)
  (hops:opsOK P l (fun k=>tl.getD k XT) Gr GIx a0 w.drew (l.take n1) 0) (hfin:∀ w',Gr w.drew w'→finP (fun k=>tl.getD k XT) w' (fun a'=>wpAny P .any l.toArray (NoPan Q) m listed a' w') (l.take n1) 0 a0):(Code.region id l.toArray true).wp P Q a0 w:=by
 subst hm hls;refine Code.wp_mono NoPan.imp (wp_region_any hf ?_)
 have hsz':l.toArray.size=l.length:=by simp
 rw [show Array.replicate l.toArray.size false=Array.replicate l.length false from by rw [hsz'],hsz']
 have hrep:∀ j,(Array.replicate l.length false).getD j false=false:=fun j=>by
  rw [Array.getD_eq_getD_getElem?,Array.getElem?_replicate];split <;> rfl
 refine wpAny_lones n1 _ tl hB hC hTs hops hfin xs l.length 0 _ a0 hl hT ?_ (by simp) (by omega) (fun i _ _=>hrep i) (fun j hj=>?_) (fun i o hi hl'=>by rw [hrep] at hl';cases hl') ⟨Gr.refl _,trivial,rfl,rfl,fun t _=>rfl,fun j p hp hl'=>by rw [hrep] at hl';cases hl'⟩
 ·have:∀ n,n≤l.length→cntF (fun i=>(Array.replicate l.length false).getD i true) n=n:=by
   intro n
   induction n with
   | zero=>intro _;rfl
   | succ n ihn =>
    intro hn;simp only [cntF];rw [ihn (by omega)]
    have:(Array.replicate l.length false).getD n true=false:=by
     rw [Array.getD_eq_getD_getElem?,Array.getElem?_replicate,if_pos (by omega)];rfl
    rw [if_neg (by rw [this];decide)]
  exact this l.length (Nat.le_refl _)
 ·obtain ⟨p,hp,he⟩:=List.any_eq_true.1 hj;obtain ⟨x,d,s⟩:=p
  obtain rfl:x=j:=by simpa using he
  exact .inr ⟨d,s,hp⟩
end
end
section
attribute [local go_sem] givesUpon_value givesUpon_skip givesUpon_enter
def LyP (w:World) (g N:Nat) (F:Nat→Re) (K:Nat→Prop):Prop:=∃ cs:Array Value,w.heap[g]?=some (.cells cs 38 (0,0))∧cs.size=N*4∧∀ j,j<N→K j→InS cs (j*4) (valsRe (F j))
theorem LyP.lt {w:World} {g N:Nat} {F:Nat→Re} {K:Nat→Prop} (h:LyP w g N F K):g<w.heap.size:=by obtain ⟨cs,hh,_⟩:=h;exact ltS hh
theorem LyP.same {w w':World} {g N:Nat} {F:Nat→Re} {K:Nat→Prop} (h:LyP w g N F K) (hb:w'.heap[g]?=w.heap[g]?):LyP w' g N F K:=let ⟨cs,hh,r⟩:=h;⟨cs,hb.trans hh,r⟩
theorem LyP.keep {w w':World} {g N:Nat} {F:Nat→Re} {K:Nat→Prop} (h:LyP w g N F K) (hb:Below w.heap.size w w'):LyP w' g N F K:=h.same (hb.block g h.lt)
theorem LyP.mono {w:World} {g N:Nat} {F:Nat→Re} {K K':Nat→Prop} (h:LyP w g N F K) (hK:∀ j,j<N→K' j→K j):LyP w g N F K':=let ⟨cs,hh,hs,hc⟩:=h;⟨cs,hh,hs,fun j hj k=>hc j hj (hK j hj k)⟩
theorem LyP.there {w:World} {g N:Nat} {F:Nat→Re} {K:Nat→Prop} (h:LyP w g N F K) {j:Nat} (hj:j<N):w.there g (j*4) 4:=by
 obtain ⟨cs,hh,hs,_⟩:=h;exact thereB hh (by rw [hs];omega)
theorem LyP.put {w:World} {g N:Nat} {F:Nat→Re} {K K':Nat→Prop} (h:LyP w g N F K) {j:Nat} (hj:j<N) {r:Re} (hr:F j=r) (hK:∀ i,K' i→i=j∨K i):LyP (w.setCells g (j*4) (valsRe r)) g N F K':=by
 obtain ⟨cs,hh,hs,hc⟩:=h;refine ⟨_,heap_setCells _ (j*4) _ _ hh,(wrAt_size _ _ _).trans hs,fun i hi ki=>?_⟩
 by_cases e:i=j
 ·subst e;rw [hr];exact InS.write (by rw [hs];show i*4+4≤_;omega)
 ·rcases hK i ki with h1 | h1
  ·exact absurd h1 e
  ·refine (hc i hi h1).keepS ?_
   show i*4+4≤_∨j*4+4≤_
   omega
theorem LyP.cell {w:World} {g N:Nat} {F:Nat→Re} {K:Nat→Prop} (h:LyP w g N F K) {j:Nat} (hj:j<N) (k:K j):w.cell? ⟨g,j*4,none⟩=some (.int .i64 (F j).x)∧w.cell? ⟨g,j*4+1,none⟩=some (.int .i64 (F j).y)∧w.cell? ⟨g,j*4+2,none⟩=some (.int .i64 (F j).u)∧w.cell? ⟨g,j*4+3,none⟩=some (.int .i64 (F j).v):=by
 obtain ⟨cs,hh,hs,hc⟩:=h;have hi:=hc j hj k;exact ⟨(cellS hh _).trans (hi 0 _ rfl),(cellS hh _).trans (hi 1 _ rfl),(cellS hh _).trans (hi 2 _ rfl),(cellS hh _).trans (hi 3 _ rfl)⟩
theorem LyP.whole {w:World} {g N:Nat} {F:Nat→Re} {K:Nat→Prop} (h:LyP w g N F K) (hK:∀ j,j<N→K j):ReB w g ((List.range N).map F):=by
 obtain ⟨cs,hh,hs,hc⟩:=h;refine ⟨cs,hh,by rw [hs,List.length_map,List.length_range],fun i p hp=>?_⟩;rw [List.getElem?_map] at hp;obtain ⟨j,hj,rfl⟩:=Option.map_eq_some_iff.1 hp;obtain ⟨h1,h2⟩:=List.getElem?_eq_some_iff.1 hj;rw [List.length_range] at h1;rw [List.getElem_range] at h2;subst h2;exact hc i h1 (hK i h1)
theorem LyP.new {w:World} {g N:Nat} {F:Nat→Re} {cs:Array Value} {r:Re} (hh:w.heap[g]?=some (.cells (wrAt cs 0 (valsRe r)) 38 (0,0))) (hs:cs.size=N*4) (hr:F 0=r):LyP w g N F (fun j=>j=0):=by
 refine ⟨_,hh,(wrAt_size _ _ _).trans hs,fun j hj e=>?_⟩;subst e;rw [hr];exact InS.write (by rw [hs];show 0+4≤_;omega)
def knL (L:List Nd) (i j:Nat):Prop:=j=0∨∃ m,L[j]?=some m∧m.pa<(i:Int)
def knI (L:List Nd) (i m j:Nat):Prop:=knL L i j∨∃ m',m'<m∧(kidD L i)[m']?=some j
theorem knL_zero {L:List Nd} (hT:TrOK L) {j:Nat} (h:knL L 0 j):j=0:=by
 rcases h with h | ⟨m,hm,hp⟩
 ·exact h
 ·rcases hT.up j m hm with ⟨e,_⟩ | ⟨_,h1,_⟩
  ·exact e
  ·omega
theorem knL_own {L:List Nd} (hT:TrOK L) {i:Nat} (hi:i<L.length):knL L i i:=by
 have hm:L[i]?=some L[i]:=List.getElem?_eq_getElem hi
 rcases hT.up i _ hm with ⟨e,_⟩ | ⟨_,_,h⟩
 ·exact .inl e
 ·exact .inr ⟨_,hm,h⟩
theorem knL_all {L:List Nd} (hT:TrOK L) {j:Nat} (hj:j<L.length):knL L L.length j:=by
 have hm:L[j]?=some L[j]:=List.getElem?_eq_getElem hj
 rcases hT.up j _ hm with ⟨e,_⟩ | ⟨_,_,h⟩
 ·exact .inl e
 ·exact .inr ⟨_,hm,by omega⟩
theorem knI_zero {L:List Nd} {i j:Nat} (h:knI L i 0 j):knL L i j:=h.elim id fun ⟨m',h,_⟩=>absurd h (by omega)
theorem knI_step {L:List Nd} {i m j k:Nat} (hk:(kidD L i)[m]?=some k) (h:knI L i (m+1) j):j=k∨knI L i m j:=by
 rcases h with h | ⟨m',h1,h2⟩
 ·exact .inr (.inl h)
 ·by_cases e:m'=m
  ·subst e;rw [hk] at h2;exact .inl (Option.some.inj h2).symm
  ·exact .inr (.inr ⟨m',by omega,h2⟩)
theorem knI_all {L:List Nd} {i j:Nat} (hj:j<L.length) (h:knL L (i+1) j):knI L i (kidD L i).length j:=by
 rcases h with h | ⟨m,hm,hp⟩
 ·exact .inl (.inl h)
 ·by_cases e:m.pa=(i:Int)
  ·obtain ⟨q,hq⟩:=List.getElem?_of_mem (kidD_mem hm e);exact .inr ⟨q,(List.getElem?_eq_some_iff.1 hq).1,hq⟩
  ·exact .inl (.inr ⟨m,hm,by omega⟩)
theorem new_fullWd {w:World} {o:Obj} {cs:Array Value} {T:TypeId} (x:Wd) (ho:o=.cells cs T (0,0)) (hs:cs.size=37):((w.alloc o).setCells w.heap.size 0 (valsWd x)).heap[w.heap.size]?=some (.cells (valsWd x).toArray T (0,0)):=by
 subst ho;rw [heap_setCells (valsWd x) 0 _ _ (newS w _),wrAt_all (by rw [hs];rfl)]
theorem layout_v (A:Option Addr) (c k:Nat) (R:List Nr) (a b:Int) (w:World) (hT:TrOK (R.map Nr.n)) (hk:k=R.length) (h:NrV w A R) (hr:RdR w R) (ha:0≤a∧a≤400) (hb:0≤b∧b≤400) :
  Calls Tryz.prog 35 #[.agg #[.slice A k c],.int .i64 a,.int .i64 b] w fun e w'=>(∃ g,e=.returned (.slice (some ⟨g,0,none⟩) k k)∧w.heap.size≤g∧ReB w' g ((List.range k).map (lrM (R.map Nr.n) a b)))∧Below w.heap.size w w':=by
 subst hk
 have hL:R.length≤10:=by have:=hT.l10;rwa [List.length_map] at this
 have hL1:0<R.length:=by have:=hT.l1;rw [List.length_map] at this;omega
 obtain ⟨fm,hfm,hmk0⟩:=made_Rect
 have hmk:=fun w=>hmk0 R.length w (by omega)
 have HFM:=hD (hfm R.length);have HAB:=hD (And.intro ha hb);have hB0:Below w.heap.size w (w.alloc (.cells #[.slice A R.length c] 30 (0,0))):=balloc (Below.refl _ _);have HX:=hD (newS w (.cells #[.slice A R.length c] 30 (0,0)));have HB:=hD hB0;have HV:=hD (h.keep hB0);have HR:=hD (hr.keep hB0);have x0:=cellS HX.out 0;clear hB0 h hr hmk0 hfm ha hb
 go_enter Tryz.func35,Tryz.ntmps35
 go_wp2_with fail
 refine (settled_v A c R hT _ HV.out HR.out hL).mono ?_;rintro e W0 ⟨⟨v,rfl,gX,X,rfl,hgX,X1,X2,X3⟩,hb0⟩;clear x0 HX;replace HV:=hD (HV.out.keep hb0);replace HR:=hD (HR.out.keep hb0);replace HB:=hD (bkeep2 HB.out hb0);clear hb0;have HX1:=hD X1;have HX2:=hD X2;have HX3:=hD X3;have hgl:gX<W0.heap.size:=RpK.lt X2;have hsz0:w.heap.size≤W0.heap.size:=HB.out.size;clear X1 X2 X3 hgX
 go_upto_region 3 with (fail)
 refine wp_genGG (fun W=>(∃ cs:Array Value,W.heap[W0.heap.size]?=some (.cells cs 38 (0,0))∧cs.size=R.length*4)∧Below W0.heap.size W0 W) ⟨⟨_,newS _ _,HFM.out⟩,balloc (Below.refl _ _)⟩ (fun W1 h1=>?_);obtain ⟨⟨cs0,hc0,hs0⟩,hb1⟩:=h1;have HC0:=hD hc0;have HS0:=hD hs0;have HB1:=hD hb1;obtain ⟨y0,d0⟩:=thereS hc0 (i:=0) (by omega);obtain ⟨y1,d1⟩:=thereS hc0 (i:=1) (by omega)
 obtain ⟨y2,d2⟩:=thereS hc0 (i:=2) (by omega);obtain ⟨y3,d3⟩:=thereS hc0 (i:=3) (by omega);have f0:=frozenS hc0 0;have f1:=frozenS hc0 1;have f2:=frozenS hc0 2;have f3:=frozenS hc0 3;have lg:=ltS hc0;clear hc0 hs0 hb1 HFM hmk
 go_upto_region 4 with (fail)
 refine wp_genGG (fun W=>LyP W W0.heap.size R.length (lrM (R.map Nr.n) a b) (knL (R.map Nr.n) 0)∧Below W0.heap.size W0 W) ⟨(LyP.new (putRe HC0.out 0 ⟨0,0,a,b⟩) HS0.out (lrM_zero _ _ _)).mono fun j _ hj=>knL_zero hT hj,putReb HB1.out (Nat.le_refl _) 0 ⟨0,0,a,b⟩⟩ (fun W2 h2=>?_);obtain ⟨hly2,hb2⟩:=h2;have HLY:=hD hly2;have HB2:=hD hb2
 clear y0 d0 y1 d1 y2 d2 y3 d3 f0 f1 f2 f3 lg HC0 HS0 HB1 hly2 hb2 W1
 go_wp2_with fail
 go_loopw [25] (fun iv wr=>∃ i:Nat,i≤R.length∧iv=.int .i64 (i:Int)∧LyP wr W0.heap.size R.length (lrM (R.map Nr.n) a b) (knL (R.map Nr.n) i)∧Below W0.heap.size W0 wr) (fun iv _=>R.length-(intOf iv).toNat)
 case atStart=>exact ⟨0,by omega,rfl,HLY.out,HB2.out⟩
 case round =>
  obtain ⟨i,hi,rfl,hly,hB⟩:=hrel;clear HLY HB2
  by_cases hlt:i<R.length
  ·have hd:decide ((i:Int)<(R.length:Int))=true:=by simpa using hlt
   have hdi:(i:Int)<(R.length:Int):=by omega
   have hlm:i<(R.map Nr.n).length:=by rw [List.length_map];exact hlt
   obtain ⟨x,hx⟩:∃ x,X[i]?=some x:=⟨_,List.getElem?_eq_getElem (by rw [HX1.out];exact hlt)⟩
   obtain ⟨p,hp,hxp,-,hxn,hxk⟩:=HX3.out i x hx
   have hmg:(R.map Nr.n)[i]?=some p.n:=by rw [List.getElem?_map,hp];rfl
   obtain ⟨b0,off,e0,hb0,hps⟩:=(HX2.out.v.keep hB) (by rw [List.length_map,HX1.out];exact hL1)
   cases e0
   have hc:=hps i (valsWd x) (by rw [List.getElem?_map,hx];rfl);rw [Nat.zero_add] at hc;have HC:=hD hc;have HLY:=hD hly;have HB2:=hD hB;have HP:=hD hp;have HXX:=hD hx;have HXP:=hD hxp;have HXN:=hD hxn;have HXK:=hD hxk;have HMG:=hD hmg;have hsw:W0.heap.size<wr.heap.size:=hly.lt;clear hly hB hps hc hp hx hxp hxn hxk hmg
   go_upto_region 7 with (first|((with_reducible show wpList _ _ _ _ _ _);refine ldK 98 _ (valsWd x) gX (i*37) rfl rfl HC.out Tryz.underlying98 rfl inf_widget rfl ?_)|((with_reducible show wpList _ _ _ _ _ _);refine stK 98 (.tmp 10) (.tmp 29) (valsWd x) wr.heap.size 0 rfl rfl (thereB (newS _ _) (by show (0+37:Nat)≤37;omega)) inf_widget (valsWd_one _) rfl rfl ?_))
   refine wp_genGG (fun W=>W.heap[wr.heap.size]?=some (.cells (valsWd x).toArray 98 (0,0))∧Below wr.heap.size wr W) ⟨new_fullWd x rfl rfl,below_setCells (Nat.le_refl _) _ _ _ (balloc (Below.refl _ _))⟩ (fun W3 h3=>?_);obtain ⟨hxw,hb3⟩:=h3;have HXW:=hD hxw;have lbx:=ltS hxw;have hB3:=bkeep2 HB2.out hb3;replace HLY:=hD (HLY.out.keep hb3);clear hb3 hxw HC;generalize wr.heap.size=bx at *
   have hkl:∀ k∈kidD (R.map Nr.n) i,k<R.length:=fun k hk=>by have:=kidD_lt hk;rwa [List.length_map] at this
   have hk10:(kidD (R.map Nr.n) i).length≤10:=Nat.le_trans (kidD_len _ _) (by rw [List.length_map];exact hL)
   have hpick:∀ k∈kidD (R.map Nr.n) i,∃ y q,X[k]?=some y∧R[k]?=some q∧y.p=q∧(y.sw,y.sh)=szM (R.map Nr.n) k:=fun k hk=>by
    have hlt:=hkl k hk;have hy:X[k]?=some (X[k]'(by rw [HX1.out];exact hlt)):=List.getElem?_eq_getElem _;obtain ⟨q,hq,e1,e2,_⟩:=HX3.out k _ hy;exact ⟨_,q,hy,hq,e1,e2⟩
   obtain ⟨hp1,hp2⟩:=pick_pk hpick
   have hp3:=pick_pl (R:=R) (X:=X) (ks:=kidD (R.map Nr.n) i) fun k hk=>by obtain ⟨y,q,h1,h2,h3,_⟩:=hpick k hk;exact ⟨y,q,h1,h2,h3⟩
   have hpl:=pickW_len (X:=X) (ks:=kidD (R.map Nr.n) i) (fun k hk=>by rw [HX1.out];exact hkl k hk)
   obtain ⟨Y,hY⟩:∃ Y,pickW X (kidD (R.map Nr.n) i)=Y:=⟨_,rfl⟩
   rw [hY] at hp1 hp2 hp3 hpl;have HYL:=hD (show Y.length≤10 by omega);have C0:=hD (show p.n.ki≠1→p.n.ki≠2→bgL (Y.map pkW) from fun _ _=>by rw [hp1];exact bg_of hT i);have C1:=hD (show p.n.ki=1→GW p.n.cs p.n.rs (Y.map ceW) from fun h1=>by rw [hp2];exact gw_of hT HMG.out h1);have C2:=hD (show ∀ y∈Y,plB y.p.n.pl=true from fun y hy=>pls_mem hT _ (hp3 ▸ List.mem_map_of_mem hy))
   obtain ⟨r,hr⟩:∃ r,lrM (R.map Nr.n) a b i=r:=⟨_,rfl⟩
   obtain ⟨hq,hrx,hry⟩:=lrM_room hT HAB.out.1 HAB.out.2 hlm;obtain ⟨-,-,r2,r3⟩:=HLY.out.cell hlt (knL_own hT hlm);rw [hr] at hq hrx hry r2 r3;have HQR:=hD hq;have HRR:=hD hr;have HXY:=hD (And.intro hrx hry);have HM0:=hD (arM_eq (n:=p.n) r.u r.v hp1 hp2 hp3)
   obtain ⟨M,hM⟩:∃ M,arM p.n Y r.u r.v=M:=⟨_,rfl⟩
   rw [hM] at HM0;have HM:=hD hM
   obtain ⟨n2,hn2⟩:∃ n2,Y.length=n2:=⟨_,rfl⟩
   have HN2:=hD hn2;have HNK:=hD (show n2=(kidD (R.map Nr.n) i).length by omega)
   have hn10:n2≤10:=by omega
   have HR1:=hD ((HR.out p (List.mem_of_getElem? HP.out)).keep hB3)
   have HAR:=hD (show ∀ W',Below W3.heap.size W3 W'→Calls Tryz.prog 64 #[.slice (some ⟨gX,0,none⟩) R.length R.length,.int .i64 (i:Int)] W' (fun e w'=>(∃ v,e=.returned v∧ArV w' v x Y)∧Below W'.heap.size W' w') from fun W' hW'=>by
    have:=arranged_v (some ⟨gX,0,none⟩) R.length i X x (kidD (R.map Nr.n) i) W' ((HX2.out.v.keep hB3).keep hW') HXX.out (by rw [HX1.out];omega) (fun k hk=>by rw [HX1.out];exact hkl k hk) ((HXK.out.nv.keep hB3).keep hW') (by rw [HXN.out,List.length_map]) (by rw [HXN.out,List.length_map];omega)
    rw [HX1.out,hY] at this
    exact this)
   have HB3:=hD hB3;have hlg3:W0.heap.size<W3.heap.size:=HLY.out.lt;clear hkl hk10 hpick hp1 hp2 hp3 hpl hY hq hrx hry hr hM hn2 hB3 HX2 HX3
   go_wp2_with fail
   refine wp_region_rx (XV (.slice (some ⟨gX,0,none⟩) R.length R.length) :: XV (.int .i64 (i:Int)) :: (fun v z=>ArV z v x Y) :: XV (.slice (some ⟨W0.heap.size,0,none⟩) R.length R.length) :: XV (.int .i64 (i:Int)) :: XV (.pointer (some ⟨W0.heap.size,i*4,none⟩)) :: XV (.pointer (some ⟨W0.heap.size,i*4+2,none⟩)) :: XV (.int .i64 r.u) :: XV (.slice (some ⟨W0.heap.size,0,none⟩) R.length R.length) :: XV (.int .i64 (i:Int)) :: XV (.pointer (some ⟨W0.heap.size,i*4,none⟩)) :: XV (.pointer (some ⟨W0.heap.size,i*4+3,none⟩)) :: XV (.int .i64 r.v) :: (fun v z=>MrV z v x Y) :: (fun v z=>MrV z v x Y) :: (fun v z=>ArV z v x Y) :: (fun v z=>QrV W3.heap.size z v n2 M) :: XV (.int .i64 (n2:Int)) :: XV (.int .i64 0) :: []) (by kernel_rfl) (by kernel_rfl) ?hTs ?hops ?hfin
   case hTs =>
    intro T hT;simp only [List.mem_cons,List.not_mem_nil,or_false] at hT
    rcases hT with rfl | rfl | rfl | rfl | rfl | rfl | rfl | rfl | rfl | rfl | rfl | rfl | rfl | rfl | rfl | rfl | rfl | rfl | rfl <;> first | exact stay_V _ | exact stay_T | exact stay_of (fun v a b x g=>x.keep g) | exact stay_of (fun v a b x g=>x)
   case hops =>
    refine ⟨opOK_rx [(7,none)] (by kernel_rfl) rfl ?_,?_⟩
    ·intro act w' hw' h1;obtain ⟨hk,hf⟩:=evkf act;generalize act.eval=ρ at *;replace h1:ρ (.tmp 7)=.slice (some ⟨gX,0,none⟩) R.length R.length:=h1
     refine gxB hw' fun K hK hc hf'=>?_
     go_simp;exact hK _ _ ⟨rfl,Gr.refl _⟩
    refine ⟨opOK_rx [(9,none)] (by kernel_rfl) rfl ?_,?_⟩
    ·intro act w' hw' h1;obtain ⟨hk,hf⟩:=evkf act;generalize act.eval=ρ at *;replace h1:ρ (.tmp 9)=.int .i64 (i:Int):=h1
     refine gxB hw' fun K hK hc hf'=>?_
     go_simp;exact hK _ _ ⟨rfl,Gr.refl _⟩
    refine ⟨opOK_rx [(30,some 0),(31,some 1)] (by kernel_rfl) rfl ?_,?_⟩
    ·intro act w' hw' h1 h2;obtain ⟨hk,hf⟩:=evkf act;generalize act.eval=ρ at *;replace h1:ρ (.tmp 30)=.slice (some ⟨gX,0,none⟩) R.length R.length:=h1;replace h2:ρ (.tmp 31)=.int .i64 (i:Int):=h2
     refine gxB hw' fun K hK hc hf'=>?_
     go_simp
     (refine (HAR.out _ (bdrewn hw'.out)).mono ?_);rintro e w1 ⟨⟨v,rfl,hv⟩,hb1⟩;exact ⟨_,rfl,hK _ _ ⟨hv,hb1⟩⟩
    refine ⟨opOK_rx [(8,none)] (by kernel_rfl) rfl ?_,?_⟩
    ·intro act w' hw' h1;obtain ⟨hk,hf⟩:=evkf act;generalize act.eval=ρ at *;replace h1:ρ (.tmp 8)=.slice (some ⟨W0.heap.size,0,none⟩) R.length R.length:=h1
     refine gxB hw' fun K hK hc hf'=>?_
     go_simp;exact hK _ _ ⟨rfl,Gr.refl _⟩
    refine ⟨opOK_rx [(9,none)] (by kernel_rfl) rfl ?_,?_⟩
    ·intro act w' hw' h1;obtain ⟨hk,hf⟩:=evkf act;generalize act.eval=ρ at *;replace h1:ρ (.tmp 9)=.int .i64 (i:Int):=h1
     refine gxB hw' fun K hK hc hf'=>?_
     go_simp;exact hK _ _ ⟨rfl,Gr.refl _⟩
    refine ⟨opOK_rx [(33,some 3),(34,some 4)] (by kernel_rfl) rfl ?_,?_⟩
    ·intro act w' hw' h1 h2;obtain ⟨hk,hf⟩:=evkf act;generalize act.eval=ρ at *;replace h1:ρ (.tmp 33)=.slice (some ⟨W0.heap.size,0,none⟩) R.length R.length:=h1;replace h2:ρ (.tmp 34)=.int .i64 (i:Int):=h2
     refine gxB hw' fun K hK hc hf'=>?_
     go_simp;exact hK _ _ ⟨rfl,Gr.refl _⟩
    refine ⟨opOK_rx [(35,some 5)] (by kernel_rfl) rfl ?_,?_⟩
    ·intro act w' hw' h1;obtain ⟨hk,hf⟩:=evkf act;generalize act.eval=ρ at *;replace h1:ρ (.tmp 35)=.pointer (some ⟨W0.heap.size,i*4,none⟩):=h1
     refine gxB hw' fun K hK hc hf'=>?_
     go_simp;exact hK _ _ ⟨rfl,Gr.refl _⟩
    refine ⟨opOK_rx [(36,some 6)] (by kernel_rfl) rfl ?_,?_⟩
    ·intro act w' hw' h1;obtain ⟨hk,hf⟩:=evkf act;generalize act.eval=ρ at *;replace h1:ρ (.tmp 36)=.pointer (some ⟨W0.heap.size,i*4+2,none⟩):=h1
     refine gxB hw' fun K hK hc hf'=>?_
     go_simp;exact hK _ _ ⟨rfl,Gr.refl _⟩
    refine ⟨opOK_rx [(8,none)] (by kernel_rfl) rfl ?_,?_⟩
    ·intro act w' hw' h1;obtain ⟨hk,hf⟩:=evkf act;generalize act.eval=ρ at *;replace h1:ρ (.tmp 8)=.slice (some ⟨W0.heap.size,0,none⟩) R.length R.length:=h1
     refine gxB hw' fun K hK hc hf'=>?_
     go_simp;exact hK _ _ ⟨rfl,Gr.refl _⟩
    refine ⟨opOK_rx [(9,none)] (by kernel_rfl) rfl ?_,?_⟩
    ·intro act w' hw' h1;obtain ⟨hk,hf⟩:=evkf act;generalize act.eval=ρ at *;replace h1:ρ (.tmp 9)=.int .i64 (i:Int):=h1
     refine gxB hw' fun K hK hc hf'=>?_
     go_simp;exact hK _ _ ⟨rfl,Gr.refl _⟩
    refine ⟨opOK_rx [(38,some 8),(39,some 9)] (by kernel_rfl) rfl ?_,?_⟩
    ·intro act w' hw' h1 h2;obtain ⟨hk,hf⟩:=evkf act;generalize act.eval=ρ at *;replace h1:ρ (.tmp 38)=.slice (some ⟨W0.heap.size,0,none⟩) R.length R.length:=h1;replace h2:ρ (.tmp 39)=.int .i64 (i:Int):=h2
     refine gxB hw' fun K hK hc hf'=>?_
     go_simp;exact hK _ _ ⟨rfl,Gr.refl _⟩
    refine ⟨opOK_rx [(40,some 10)] (by kernel_rfl) rfl ?_,?_⟩
    ·intro act w' hw' h1;obtain ⟨hk,hf⟩:=evkf act;generalize act.eval=ρ at *;replace h1:ρ (.tmp 40)=.pointer (some ⟨W0.heap.size,i*4,none⟩):=h1
     refine gxB hw' fun K hK hc hf'=>?_
     go_simp;exact hK _ _ ⟨rfl,Gr.refl _⟩
    refine ⟨opOK_rx [(41,some 11)] (by kernel_rfl) rfl ?_,?_⟩
    ·intro act w' hw' h1;obtain ⟨hk,hf⟩:=evkf act;generalize act.eval=ρ at *;replace h1:ρ (.tmp 41)=.pointer (some ⟨W0.heap.size,i*4+3,none⟩):=h1
     refine gxB hw' fun K hK hc hf'=>?_
     go_simp;exact hK _ _ ⟨rfl,Gr.refl _⟩
    refine ⟨opOK_rx [(32,some 2)] (by kernel_rfl) rfl ?_,?_⟩
    ·intro act w' hw' h1;obtain ⟨hk,hf⟩:=evkf act;generalize act.eval=ρ at *;replace h1:(fun v z=>ArV z v x Y) (ρ (.tmp 32)) w':=h1;refine gx_gen (fun K hK=>?_);rw [run_mf rfl];exact hK _ _ ⟨⟨_,rfl,h1⟩,Gr.refl _⟩
    refine ⟨opOK_rx [(43,some 13)] (by kernel_rfl) rfl ?_,?_⟩
    ·intro act w' hw' h1;obtain ⟨hk,hf⟩:=evkf act;generalize act.eval=ρ at *;replace h1:(fun v z=>MrV z v x Y) (ρ (.tmp 43)) w':=h1;refine gx_gen (fun K hK=>?_);obtain ⟨u,e,hu⟩:=h1;obtain ⟨T,u2,F,rfl,hn,hc,hcall⟩:=arRects (a:=r.u) (b:=r.v) hu HXP.out (HR1.out.keep (bdrewn hw'.out)) HYL.out HQR.out C0.out C1.out C2.out;rw [run_nc rfl e hn];exact hK _ _ ⟨⟨_,e,hu⟩,Gr.refl _⟩
    refine ⟨opOK_rx [(32,some 2)] (by kernel_rfl) rfl ?_,?_⟩
    ·intro act w' hw' h1;obtain ⟨hk,hf⟩:=evkf act;generalize act.eval=ρ at *;replace h1:(fun v z=>ArV z v x Y) (ρ (.tmp 32)) w':=h1
     refine gxB hw' fun K hK hc hf'=>?_
     go_simp;exact hK _ _ ⟨h1,Gr.refl _⟩
    refine ⟨opOK_rx [(45,some 15),(37,some 7),(42,some 12)] (by kernel_rfl) rfl ?_,?_⟩
    ·intro act w' hw' h1 h2 h3;obtain ⟨hk,hf⟩:=evkf act;generalize act.eval=ρ at *;replace h1:(fun v z=>ArV z v x Y) (ρ (.tmp 45)) w':=h1;replace h2:ρ (.tmp 37)=.int .i64 r.u:=h2;replace h3:ρ (.tmp 42)=.int .i64 r.v:=h3;refine gx_gen (fun K hK=>?_)
     obtain ⟨T,u,F,e,hn,hc,hcall⟩:=arRects (a:=r.u) (b:=r.v) h1 HXP.out (HR1.out.keep (bdrewn hw'.out)) HYL.out HQR.out C0.out C1.out C2.out;rw [HN2.out,HM.out] at hcall;rw [run_inv2 rfl e h2 h3 (hc _ _ _)];refine hcall.mono ?_;rintro e' w1 ⟨⟨g,rfl,hg,hr1⟩,hb1⟩;exact ⟨_,rfl,hK _ _ ⟨⟨g,rfl,Nat.le_trans (bdrewn hw'.out).size hg,hr1⟩,hb1⟩⟩
    refine ⟨opOK_rx [(46,some 16)] (by kernel_rfl) rfl ?_,?_⟩
    ·intro act w' hw' h1;obtain ⟨hk,hf⟩:=evkf act;generalize act.eval=ρ at *;replace h1:(fun v z=>QrV W3.heap.size z v n2 M) (ρ (.tmp 46)) w':=h1;refine gx_gen (fun K hK=>?_);obtain ⟨g,e,hg,hr1⟩:=h1;go_simp;exact hK _ _ ⟨rfl,Gr.refl _⟩
    refine ⟨opOK_rx [] (by kernel_rfl) rfl ?_,?_⟩
    ·intro act w' hw';obtain ⟨hk,hf⟩:=evkf act;generalize act.eval=ρ at *
     refine gxB hw' fun K hK hc hf'=>?_
     go_simp;exact hK _ _ ⟨rfl,Gr.refl _⟩
    exact trivial
   case hfin =>
    intro w7 hg7;intro v30 t30;replace t30:v30=.slice (some ⟨gX,0,none⟩) R.length R.length:=t30;subst t30;intro v31 t31;replace t31:v31=.int .i64 (i:Int):=t31;subst t31;intro v32 t32;replace t32:(fun v z=>ArV z v x Y) v32 w7:=t32;intro v33 t33;replace t33:v33=.slice (some ⟨W0.heap.size,0,none⟩) R.length R.length:=t33;subst t33;intro v34 t34;replace t34:v34=.int .i64 (i:Int):=t34;subst t34
    intro v35 t35;replace t35:v35=.pointer (some ⟨W0.heap.size,i*4,none⟩):=t35;subst t35;intro v36 t36;replace t36:v36=.pointer (some ⟨W0.heap.size,i*4+2,none⟩):=t36;subst t36;intro v37 t37;replace t37:v37=.int .i64 r.u:=t37;subst t37;intro v38 t38;replace t38:v38=.slice (some ⟨W0.heap.size,0,none⟩) R.length R.length:=t38;subst t38;intro v39 t39;replace t39:v39=.int .i64 (i:Int):=t39;subst t39
    intro v40 t40;replace t40:v40=.pointer (some ⟨W0.heap.size,i*4,none⟩):=t40;subst t40;intro v41 t41;replace t41:v41=.pointer (some ⟨W0.heap.size,i*4+3,none⟩):=t41;subst t41;intro v42 t42;replace t42:v42=.int .i64 r.v:=t42;subst t42;intro v43 t43;replace t43:(fun v z=>MrV z v x Y) v43 w7:=t43;intro v44 t44;replace t44:(fun v z=>MrV z v x Y) v44 w7:=t44;intro v45 t45
    replace t45:(fun v z=>ArV z v x Y) v45 w7:=t45;intro v46 t46;replace t46:(fun v z=>QrV W3.heap.size z v n2 M) v46 w7:=t46;intro v47 t47;replace t47:v47=.int .i64 (n2:Int):=t47;subst t47;intro v48 t48;replace t48:v48=.int .i64 0:=t48;subst t48;have hb7:=bdrewn hg7.out;clear hg7;simp only [finP,Act.put,List.setIfInBounds_toArray,List.set_cons_succ,List.set_cons_zero];obtain ⟨gq,rfl,hgq,hRQ⟩:=t46
    clear t32 t43 t44 t45 r2 r3;replace HLY:=hD (HLY.out.keep hb7);replace HXW:=hD ((hb7.block _ lbx).trans HXW.out);replace HB3:=hD (bkeep2 HB3.out hb7);have HRQ:=hD hRQ
    have hne1:gq≠W0.heap.size:=by omega
    have hne2:bx≠W0.heap.size:=by omega
    clear hRQ hb7 HAR HR1 C0 C1 C2 HYL HN2 HM
    go_wp2_with fail
    go_loopw [48] (fun mv wr=>∃ m:Nat,m≤n2∧mv=.int .i64 (m:Int)∧LyP wr W0.heap.size R.length (lrM (R.map Nr.n) a b) (knI (R.map Nr.n) i m)∧ReB wr gq M∧wr.heap[bx]?=some (.cells (valsWd x).toArray 98 (0,0))∧Below W0.heap.size W0 wr) (fun mv _=>n2-(intOf mv).toNat)
    case atStart=>exact ⟨0,by omega,rfl,HLY.out.mono fun j _ hj=>knI_zero hj,HRQ.out,HXW.out,HB3.out⟩
    case round =>
     obtain ⟨m,hm,rfl,hly,hq,hxw,hB⟩:=hrel;clear HLY HRQ HXW HB3
     by_cases hlt2:m<n2
     ·have hd2:decide ((m:Int)<(n2:Int))=true:=by simpa using hlt2
      have hdm:(m:Int)<(n2:Int):=by omega
      obtain ⟨kd,hkd⟩:∃ kd,(kidD (R.map Nr.n) i)[m]?=some kd:=⟨_,List.getElem?_eq_getElem (by rw [<- HNK.out];exact hlt2)⟩
      have hkdl:kd<R.length:=by have:=kidD_lt (List.mem_of_getElem? hkd);rwa [List.length_map] at this
      obtain ⟨q,hq0⟩:∃ q,M[m]?=some q:=⟨_,List.getElem?_eq_getElem (by rw [HM0.out,kidR0_len,<- HNK.out];exact hlt2)⟩
      obtain ⟨b1,off,e1,hb1,hps⟩:=hq.v.cells (by have:=(List.getElem?_eq_some_iff.1 hq0).1;omega)
      cases e1
      obtain ⟨c0,c1,c2,c3⟩:=hps m q hq0;rw [Nat.zero_add] at c0 c1 c2 c3
      have hkid:lrM (R.map Nr.n) a b kd=q.at r.x r.y:=by
       refine lrM_kid hT HMG.out hkd ?_;rw [HRR.out];unfold kidR;rw [List.getElem?_map,<- HM0.out,hq0]
       rfl
      have hbd:(-1000000000000000≤q.x∧q.x≤1000000000000000)∧(-1000000000000000≤q.y∧q.y≤1000000000000000):=by
       obtain ⟨z1,z2⟩:=rqW_iff.1 HQR.out
       have:=kidR0_bd hT HMG.out z1 z2 (by rw [<- HM0.out];exact hq0)
       omega
      obtain ⟨kb,koff,ek,hkb,hkp⟩:=(HXK.out.nv.keep hB).cells (by rw [List.length_map];have:=(List.getElem?_eq_some_iff.1 hkd).1;omega);have ck:=hkp m (kd:Int) (by rw [List.getElem?_map,hkd];rfl);have HLY:=hD hly;have HRQ:=hD hq;have HXW:=hD hxw;have HB3:=hD hB;have HKD:=hD hkd;have HKI:=hD hkid;have HBD:=hD hbd;have HEK:=hD ek;have CK:=hD ck;have lgs:=hly.lt;have lxs:=ltS hxw
      clear hly hq hxw hB hkd hkid hbd hps hkp hq0 ek ck
      go_upto_region 10 with (fail)
      refine wp_genGG (fun W=>W.heap[wr.heap.size]?=some (.cells #[.int .i64 q.x,.int .i64 q.y,.int .i64 q.u,.int .i64 q.v] 38 (0,0))∧Below wr.heap.size wr W) ⟨newS _ _,balloc (Below.refl _ _)⟩ (fun W8 h8=>?_);obtain ⟨hq8,hb8⟩:=h8;replace HLY:=hD (HLY.out.keep hb8);replace HRQ:=hD (HRQ.out.keep hb8);replace HXW:=hD ((hb8.block _ lxs).trans HXW.out);replace HB3:=hD (bkeep2 HB3.out hb8)
      obtain ⟨r0,r1,-,-⟩:=HLY.out.cell hlt (.inl (knL_own hT hlm));rw [HRR.out] at r0 r1;have z0:=cellS hq8 0;have z1:=cellS hq8 1;have z2:=cellS hq8 2;have z3:=cellS hq8 3
      have x36:W8.cell? ⟨bx,36,none⟩=some (.slice (some ⟨kb,koff,none⟩) n2 x.kc):=by
       rw [cellS HXW.out 36]
       show some (Value.slice x.ka x.kn x.kc)=_
       rw [HEK.out,HXN.out,List.length_map,<- HNK.out]
      have ck8:=(hb8.cell (p:=⟨kb,koff+m,none⟩) hkb).trans CK.out;have l1:=ltS HXW.out;have l2:=ltS hq8;have l3:=HLY.out.lt;have l4:kb<W8.heap.size:=Nat.lt_of_lt_of_le hkb hb8.size
      have hkdi:(kd:Int)<(R.length:Int):=by omega
      clear hq8 hb8 c0 c1 c2 c3 lxs lgs hkb CK
      go_wp2_with fail
      refine wp_region_rxl 19 1 [] #[true,true,true,true,true,true,true,true,true,true,true,true,true,true,true,true,true,true,true,false] (by kernel_rfl) (by kernel_rfl) (by kernel_rfl) (XV (.slice (some ⟨W0.heap.size,0,none⟩) R.length R.length) :: XV (.pointer (some ⟨bx,36,none⟩)) :: XV (.slice (some ⟨kb,koff,none⟩) n2 x.kc) :: XV (.int .i64 (m:Int)) :: XV (.pointer (some ⟨kb,koff+m,none⟩)) :: XV (.int .i64 (kd:Int)) :: XV (.agg #[.int .i64 q.x,.int .i64 q.y,.int .i64 q.u,.int .i64 q.v]) :: XV (.slice (some ⟨W0.heap.size,0,none⟩) R.length R.length) :: XV (.int .i64 (i:Int)) :: XV (.pointer (some ⟨W0.heap.size,i*4,none⟩)) :: XV (.pointer (some ⟨W0.heap.size,i*4,none⟩)) :: XV (.int .i64 r.x) :: XV (.slice (some ⟨W0.heap.size,0,none⟩) R.length R.length) :: XV (.int .i64 (i:Int)) :: XV (.pointer (some ⟨W0.heap.size,i*4,none⟩)) :: XV (.pointer (some ⟨W0.heap.size,i*4+1,none⟩)) :: XV (.int .i64 r.y) :: XV (.agg #[.int .i64 (q.x+r.x),.int .i64 (q.y+r.y),.int .i64 q.u,.int .i64 q.v]) :: XV (.pointer (some ⟨W0.heap.size,kd*4,none⟩)) :: []) (by kernel_rfl) (by kernel_rfl) (by kernel_rfl) ?hTs ?hXs ?hops ?hfin
      case hTs =>
       intro T hT;simp only [List.mem_cons,List.not_mem_nil,or_false] at hT
       rcases hT with rfl | rfl | rfl | rfl | rfl | rfl | rfl | rfl | rfl | rfl | rfl | rfl | rfl | rfl | rfl | rfl | rfl | rfl | rfl <;> first | exact stay_V _ | exact stay_T | exact stay_of (fun v a b x g=>x.keep g) | exact stay_of (fun v a b x g=>x)
      case hXs =>
       intro x d s hx;exact absurd hx (List.not_mem_nil)
      case hops =>
       refine ⟨opOK_rx [(8,none)] (by kernel_rfl) rfl ?_,?_⟩
       ·intro act w' hw' h1;obtain ⟨hk,hf⟩:=evkf act;generalize act.eval=ρ at *;replace h1:ρ (.tmp 8)=.slice (some ⟨W0.heap.size,0,none⟩) R.length R.length:=h1
        refine gxB hw' fun K hK hc hf'=>?_
        go_simp;exact hK _ _ ⟨rfl,Gr.refl _⟩
       refine ⟨opOK_rx [(10,none)] (by kernel_rfl) rfl ?_,?_⟩
       ·intro act w' hw' h1;obtain ⟨hk,hf⟩:=evkf act;generalize act.eval=ρ at *;replace h1:ρ (.tmp 10)=.pointer (some ⟨bx,0,none⟩):=h1
        refine gxB hw' fun K hK hc hf'=>?_
        go_simp;exact hK _ _ ⟨rfl,Gr.refl _⟩
       refine ⟨opOK_rx [(54,some 1)] (by kernel_rfl) rfl ?_,?_⟩
       ·intro act w' hw' h1;obtain ⟨hk,hf⟩:=evkf act;generalize act.eval=ρ at *;replace h1:ρ (.tmp 54)=.pointer (some ⟨bx,36,none⟩):=h1
        refine gxB hw' fun K hK hc hf'=>?_
        go_simp;exact hK _ _ ⟨rfl,Gr.refl _⟩
       refine ⟨opOK_rx [(11,none)] (by kernel_rfl) rfl ?_,?_⟩
       ·intro act w' hw' h1;obtain ⟨hk,hf⟩:=evkf act;generalize act.eval=ρ at *;replace h1:ρ (.tmp 11)=.int .i64 (m:Int):=h1
        refine gxB hw' fun K hK hc hf'=>?_
        go_simp;exact hK _ _ ⟨rfl,Gr.refl _⟩
       refine ⟨opOK_rx [(55,some 2),(56,some 3)] (by kernel_rfl) rfl ?_,?_⟩
       ·intro act w' hw' h1 h2;obtain ⟨hk,hf⟩:=evkf act;generalize act.eval=ρ at *;replace h1:ρ (.tmp 55)=.slice (some ⟨kb,koff,none⟩) n2 x.kc:=h1;replace h2:ρ (.tmp 56)=.int .i64 (m:Int):=h2
        refine gxB hw' fun K hK hc hf'=>?_
        go_simp;exact hK _ _ ⟨rfl,Gr.refl _⟩
       refine ⟨opOK_rx [(57,some 4)] (by kernel_rfl) rfl ?_,?_⟩
       ·intro act w' hw' h1;obtain ⟨hk,hf⟩:=evkf act;generalize act.eval=ρ at *;replace h1:ρ (.tmp 57)=.pointer (some ⟨kb,koff+m,none⟩):=h1
        refine gxB hw' fun K hK hc hf'=>?_
        go_simp;exact hK _ _ ⟨rfl,Gr.refl _⟩
       refine ⟨opOK_rx [(12,none)] (by kernel_rfl) rfl ?_,?_⟩
       ·intro act w' hw' h1;obtain ⟨hk,hf⟩:=evkf act;generalize act.eval=ρ at *;replace h1:ρ (.tmp 12)=.pointer (some ⟨wr.heap.size,0,none⟩):=h1
        refine gxB hw' fun K hK hc hf'=>?_
        go_simp;exact hK _ _ ⟨rfl,Gr.refl _⟩
       refine ⟨opOK_rx [(8,none)] (by kernel_rfl) rfl ?_,?_⟩
       ·intro act w' hw' h1;obtain ⟨hk,hf⟩:=evkf act;generalize act.eval=ρ at *;replace h1:ρ (.tmp 8)=.slice (some ⟨W0.heap.size,0,none⟩) R.length R.length:=h1
        refine gxB hw' fun K hK hc hf'=>?_
        go_simp;exact hK _ _ ⟨rfl,Gr.refl _⟩
       refine ⟨opOK_rx [(9,none)] (by kernel_rfl) rfl ?_,?_⟩
       ·intro act w' hw' h1;obtain ⟨hk,hf⟩:=evkf act;generalize act.eval=ρ at *;replace h1:ρ (.tmp 9)=.int .i64 (i:Int):=h1
        refine gxB hw' fun K hK hc hf'=>?_
        go_simp;exact hK _ _ ⟨rfl,Gr.refl _⟩
       refine ⟨opOK_rx [(60,some 7),(61,some 8)] (by kernel_rfl) rfl ?_,?_⟩
       ·intro act w' hw' h1 h2;obtain ⟨hk,hf⟩:=evkf act;generalize act.eval=ρ at *;replace h1:ρ (.tmp 60)=.slice (some ⟨W0.heap.size,0,none⟩) R.length R.length:=h1;replace h2:ρ (.tmp 61)=.int .i64 (i:Int):=h2
        refine gxB hw' fun K hK hc hf'=>?_
        go_simp;exact hK _ _ ⟨rfl,Gr.refl _⟩
       refine ⟨opOK_rx [(62,some 9)] (by kernel_rfl) rfl ?_,?_⟩
       ·intro act w' hw' h1;obtain ⟨hk,hf⟩:=evkf act;generalize act.eval=ρ at *;replace h1:ρ (.tmp 62)=.pointer (some ⟨W0.heap.size,i*4,none⟩):=h1
        refine gxB hw' fun K hK hc hf'=>?_
        go_simp;exact hK _ _ ⟨rfl,Gr.refl _⟩
       refine ⟨opOK_rx [(63,some 10)] (by kernel_rfl) rfl ?_,?_⟩
       ·intro act w' hw' h1;obtain ⟨hk,hf⟩:=evkf act;generalize act.eval=ρ at *;replace h1:ρ (.tmp 63)=.pointer (some ⟨W0.heap.size,i*4,none⟩):=h1
        refine gxB hw' fun K hK hc hf'=>?_
        go_simp;exact hK _ _ ⟨rfl,Gr.refl _⟩
       refine ⟨opOK_rx [(8,none)] (by kernel_rfl) rfl ?_,?_⟩
       ·intro act w' hw' h1;obtain ⟨hk,hf⟩:=evkf act;generalize act.eval=ρ at *;replace h1:ρ (.tmp 8)=.slice (some ⟨W0.heap.size,0,none⟩) R.length R.length:=h1
        refine gxB hw' fun K hK hc hf'=>?_
        go_simp;exact hK _ _ ⟨rfl,Gr.refl _⟩
       refine ⟨opOK_rx [(9,none)] (by kernel_rfl) rfl ?_,?_⟩
       ·intro act w' hw' h1;obtain ⟨hk,hf⟩:=evkf act;generalize act.eval=ρ at *;replace h1:ρ (.tmp 9)=.int .i64 (i:Int):=h1
        refine gxB hw' fun K hK hc hf'=>?_
        go_simp;exact hK _ _ ⟨rfl,Gr.refl _⟩
       refine ⟨opOK_rx [(65,some 12),(66,some 13)] (by kernel_rfl) rfl ?_,?_⟩
       ·intro act w' hw' h1 h2;obtain ⟨hk,hf⟩:=evkf act;generalize act.eval=ρ at *;replace h1:ρ (.tmp 65)=.slice (some ⟨W0.heap.size,0,none⟩) R.length R.length:=h1;replace h2:ρ (.tmp 66)=.int .i64 (i:Int):=h2
        refine gxB hw' fun K hK hc hf'=>?_
        go_simp;exact hK _ _ ⟨rfl,Gr.refl _⟩
       refine ⟨opOK_rx [(67,some 14)] (by kernel_rfl) rfl ?_,?_⟩
       ·intro act w' hw' h1;obtain ⟨hk,hf⟩:=evkf act;generalize act.eval=ρ at *;replace h1:ρ (.tmp 67)=.pointer (some ⟨W0.heap.size,i*4,none⟩):=h1
        refine gxB hw' fun K hK hc hf'=>?_
        go_simp;exact hK _ _ ⟨rfl,Gr.refl _⟩
       refine ⟨opOK_rx [(68,some 15)] (by kernel_rfl) rfl ?_,?_⟩
       ·intro act w' hw' h1;obtain ⟨hk,hf⟩:=evkf act;generalize act.eval=ρ at *;replace h1:ρ (.tmp 68)=.pointer (some ⟨W0.heap.size,i*4+1,none⟩):=h1
        refine gxB hw' fun K hK hc hf'=>?_
        go_simp;exact hK _ _ ⟨rfl,Gr.refl _⟩
       refine ⟨opOK_rx [(59,some 6),(64,some 11),(69,some 16)] (by kernel_rfl) rfl ?_,?_⟩
       ·intro act w' hw' h1 h2 h3;obtain ⟨hk,hf⟩:=evkf act;generalize act.eval=ρ at *;replace h1:ρ (.tmp 59)=.agg #[.int .i64 q.x,.int .i64 q.y,.int .i64 q.u,.int .i64 q.v]:=h1;replace h2:ρ (.tmp 64)=.int .i64 r.x:=h2;replace h3:ρ (.tmp 69)=.int .i64 r.y:=h3
        refine gxB hw' fun K hK hc hf'=>?_
        go_simp
        (refine (moved_w q.x q.y q.u q.v r.x r.y _ HBD.out.1 HBD.out.2 ?_ ?_).mono ?_) <;> first|(have:=HXY.out;have:=rqW_iff.1 HQR.out;omega)|(rintro e w1 ⟨rfl,hb1⟩;exact ⟨_,rfl,hK _ _ ⟨rfl,hb1⟩⟩)
       refine ⟨opOK_rx [(53,some 0),(58,some 5)] (by kernel_rfl) rfl ?_,?_⟩
       ·intro act w' hw' h1 h2;obtain ⟨hk,hf⟩:=evkf act;generalize act.eval=ρ at *;replace h1:ρ (.tmp 53)=.slice (some ⟨W0.heap.size,0,none⟩) R.length R.length:=h1;replace h2:ρ (.tmp 58)=.int .i64 (kd:Int):=h2
        refine gxB hw' fun K hK hc hf'=>?_
        go_simp;exact hK _ _ ⟨rfl,Gr.refl _⟩
       exact trivial
      case hfin =>
       intro w10 hg10;intro v53 t53;replace t53:v53=.slice (some ⟨W0.heap.size,0,none⟩) R.length R.length:=t53;subst t53;intro v54 t54;replace t54:v54=.pointer (some ⟨bx,36,none⟩):=t54;subst t54;intro v55 t55;replace t55:v55=.slice (some ⟨kb,koff,none⟩) n2 x.kc:=t55;subst t55;intro v56 t56;replace t56:v56=.int .i64 (m:Int):=t56;subst t56;intro v57 t57
       replace t57:v57=.pointer (some ⟨kb,koff+m,none⟩):=t57;subst t57;intro v58 t58;replace t58:v58=.int .i64 (kd:Int):=t58;subst t58;intro v59 t59;replace t59:v59=.agg #[.int .i64 q.x,.int .i64 q.y,.int .i64 q.u,.int .i64 q.v]:=t59;subst t59;intro v60 t60;replace t60:v60=.slice (some ⟨W0.heap.size,0,none⟩) R.length R.length:=t60;subst t60;intro v61 t61;replace t61:v61=.int .i64 (i:Int):=t61
       subst t61;intro v62 t62;replace t62:v62=.pointer (some ⟨W0.heap.size,i*4,none⟩):=t62;subst t62;intro v63 t63;replace t63:v63=.pointer (some ⟨W0.heap.size,i*4,none⟩):=t63;subst t63;intro v64 t64;replace t64:v64=.int .i64 r.x:=t64;subst t64;intro v65 t65;replace t65:v65=.slice (some ⟨W0.heap.size,0,none⟩) R.length R.length:=t65;subst t65;intro v66 t66;replace t66:v66=.int .i64 (i:Int):=t66
       subst t66;intro v67 t67;replace t67:v67=.pointer (some ⟨W0.heap.size,i*4,none⟩):=t67;subst t67;intro v68 t68;replace t68:v68=.pointer (some ⟨W0.heap.size,i*4+1,none⟩):=t68;subst t68;intro v69 t69;replace t69:v69=.int .i64 r.y:=t69;subst t69;intro v70 t70;replace t70:v70=.agg #[.int .i64 (q.x+r.x),.int .i64 (q.y+r.y),.int .i64 q.u,.int .i64 q.v]:=t70;subst t70;intro v71 t71
       replace t71:v71=.pointer (some ⟨W0.heap.size,kd*4,none⟩):=t71;subst t71;have hb10:=bdrewn hg10.out;clear hg10;simp only [finP,List.take_succ_cons,List.take_zero,Act.put,List.setIfInBounds_toArray,List.set_cons_succ,List.set_cons_zero];have hth:w10.there W0.heap.size (kd*4) (valsRe (q.at r.x r.y)).length:=(HLY.out.keep hb10).there hkdl
       refine wpAny_store 19 38 (.tmp 71) (.tmp 70) W0.heap.size (kd*4) (valsRe (q.at r.x r.y)) (by kernel_rfl) (by kernel_rfl) (by kernel_rfl) rfl rfl hth (by kernel_rfl) (valsRe_one2 _) ?_;refine nopan_normal ?_;have E1:=hD ((HLY.out.keep hb10).put hkdl HKI.out (fun j hj=>knI_step HKD.out hj));have hRQ:=HRQ.out.keep hb10
       have E2:=hD (show ReB (w10.setCells W0.heap.size (kd*4) (valsRe (q.at r.x r.y))) gq M from let ⟨cs,hh,hs⟩:=hRQ;⟨cs,(heap_setCells_ne hne1 _ _ _).trans hh,hs⟩);have E3:=hD ((heap_setCells_ne hne2 (valsRe (q.at r.x r.y)) (kd*4) w10).trans ((hb10.block _ l1).trans HXW.out));have E4:=hD (below_setCells (Nat.le_refl _) (valsRe (q.at r.x r.y)) (kd*4) _ (bkeep2 HB3.out hb10))
       clear hth hb10 hRQ HLY HRQ HXW HB3 z0 z1 z2 z3 x36 ck8 r0 r1 l1 l2 l3 l4;go_wp2
       go_roundw
       case rel=>exact ⟨m+1,by omega,by go_num,E1.out,E2.out,E3.out,E4.out⟩
       case measure=>simp [intOf];omega
     ·have hd2:decide ((m:Int)<(n2:Int))=false:=by simp;omega
      obtain rfl:m=n2:=by omega
      have HLY:=hD hly;have HB3:=hD hB;clear hly hq hxw hB;go_wp2
      go_roundw
      case rel=>exact ⟨i+1,by omega,by go_num,HLY.out.mono fun j hj hk=>by rw [HNK.out];exact knI_all (by rw [List.length_map];exact hj) hk,HB3.out⟩
      case measure=>simp [intOf];omega
  ·have hd:decide ((i:Int)<(R.length:Int))=false:=by simp;omega
   obtain rfl:i=R.length:=by omega
   have HK:=hD (hly.whole fun j hj=>by have:=knL_all hT (j:=j) (by rw [List.length_map];exact hj);rwa [List.length_map] at this);have HB2:=hD (HB.out.trans (hB.mono hsz0));clear hly hB;go_wp2;go_ret;exact ⟨⟨_,rfl,hsz0,HK.out⟩,HB2.out⟩
end
end Go.Proofs.YtmmfifgdgbmgjaaGreat
