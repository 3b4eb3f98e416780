import Derived.Test.YtenckjdiggaonaaGreatQu02
set_option linter.unusedVariables false
set_option linter.unusedSimpArgs false
set_option maxRecDepth 100000
set_option maxHeartbeats 16000000
namespace Go.Proofs.YtenckjdiggaonaaGreat
open Go.RowKit
attribute [local go_sem] growUpon_value growUpon_skip growUpon_enter
section
open Go.Joins Go.ChangeShapes Go.WideShapes Go.RowKit Go.Deep
theorem slLnT_of {H:Type} {enc:TypeId × Value→H} {W:World} {n:Nat} {v0:Value} {y:DataW H × List MemPlace}
  (h:DataW.trod enc Tryz.prog W 0 (fun _=>true) true n 96 [v0]=some y):∃ a c,∃ L:List Ln,v0=.slice a L.length c∧LnV W a L∧L.length≤maxLen∧L.length≤c:=by
 obtain ⟨a,len,c,rfl,hlc⟩:∃ a len c,v0=.slice a len c∧len≤c:=by
  rcases open_slice Tryz.underlying96 h with ⟨hcs,_⟩ | ⟨x,l,c,m,fu,D,Pl,hcs,_,hl,_⟩
  ·exact ⟨none,0,0,by simpa using hcs,Nat.le_refl _⟩
  ·exact ⟨some x,l,c,by simpa using hcs,hl⟩
 obtain ⟨L,rfl,k,m⟩:=lines_of (enc:=enc) (a:=a) (len:=len) (cap:=c) (d:=y.1) (ps:=y.2) ⟨n,by simpa [Value.cells] using h⟩;exact ⟨a,c,L,rfl,k,m,hlc⟩
section
variable {H:Type} {enc:TypeId × Value→H} {W:World}
theorem pkT_of {n:Nat} {c0 c1 c2 c3 c4 c5 c6 c7 c8:Value} {y:DataW H × List MemPlace} (h:DataW.trod enc Tryz.prog W 0 (fun _=>true) true n 97 [c0,c1,c2,c3,c4,c5,c6,c7,c8]=some y):∃ (z0:Int) (z1:Int) (z2:Int) (z3:Bool) (z4:Bool) (z5:Bool) (z6:Int) (z7:Int) (z8:Int),[c0,c1,c2,c3,c4,c5,c6,c7,c8]=[.int .i64 z0,.int .i64 z1,.int .i64 z2,.bool z3,.bool z4,.bool z5,.int .i64 z6,.int .i64 z7,.int .i64 z8]:=by
 obtain ⟨ys,m,_,_,_,hyl,hg⟩:=DataW.trod_struct Tryz.underlying97 h
 match ys,hyl,hg with
 | [y0,y1,y2,y3,y4,y5,y6,y7,y8],_,hg =>
  have ci:Tryz.prog.cellsOf 3=1:=by kernel_rfl
  have cb:Tryz.prog.cellsOf 4=1:=by kernel_rfl
  have t0:DataW.trod enc Tryz.prog W 0 (fun _=>true) true m 3 [c0]=some y0:=by have g:=hg 0 _ rfl;simpa [ci] using g
  have t1:DataW.trod enc Tryz.prog W 0 (fun _=>true) true m 3 [c1]=some y1:=by have g:=hg 1 _ rfl;simpa [ci] using g
  have t2:DataW.trod enc Tryz.prog W 0 (fun _=>true) true m 3 [c2]=some y2:=by have g:=hg 2 _ rfl;simpa [ci] using g
  have t3:DataW.trod enc Tryz.prog W 0 (fun _=>true) true m 4 [c3]=some y3:=by have g:=hg 3 _ rfl;simpa [cb] using g
  have t4:DataW.trod enc Tryz.prog W 0 (fun _=>true) true m 4 [c4]=some y4:=by have g:=hg 4 _ rfl;simpa [cb] using g
  have t5:DataW.trod enc Tryz.prog W 0 (fun _=>true) true m 4 [c5]=some y5:=by have g:=hg 5 _ rfl;simpa [cb] using g
  have t6:DataW.trod enc Tryz.prog W 0 (fun _=>true) true m 3 [c6]=some y6:=by have g:=hg 6 _ rfl;simpa [ci] using g
  have t7:DataW.trod enc Tryz.prog W 0 (fun _=>true) true m 3 [c7]=some y7:=by have g:=hg 7 _ rfl;simpa [ci] using g
  have t8:DataW.trod enc Tryz.prog W 0 (fun _=>true) true m 3 [c8]=some y8:=by have g:=hg 8 _ rfl;simpa [ci] using g
  obtain ⟨z0,e0,_,_⟩:=DataW.trod_int Tryz.underlying3 t0;obtain ⟨z1,e1,_,_⟩:=DataW.trod_int Tryz.underlying3 t1;obtain ⟨z2,e2,_,_⟩:=DataW.trod_int Tryz.underlying3 t2;obtain ⟨z3,e3,_⟩:=DataW.trod_bool Tryz.underlying4 t3;obtain ⟨z4,e4,_⟩:=DataW.trod_bool Tryz.underlying4 t4;obtain ⟨z5,e5,_⟩:=DataW.trod_bool Tryz.underlying4 t5;obtain ⟨z6,e6,_,_⟩:=DataW.trod_int Tryz.underlying3 t6
  obtain ⟨z7,e7,_,_⟩:=DataW.trod_int Tryz.underlying3 t7;obtain ⟨z8,e8,_,_⟩:=DataW.trod_int Tryz.underlying3 t8;simp only [List.cons.injEq,and_true] at e0 e1 e2 e3 e4 e5 e6 e7 e8;exact ⟨z0,z1,z2,z3,z4,z5,z6,z7,z8,by rw [e0,e1,e2,e3,e4,e5,e6,e7,e8]⟩
theorem ceT_of {n:Nat} {c0 c1 c2 c3 c4 c5 c6 c7 c8:Value} {y:DataW H × List MemPlace} (h:DataW.trod enc Tryz.prog W 0 (fun _=>true) true n 98 [c0,c1,c2,c3,c4,c5,c6,c7,c8]=some y):∃ (z0:Int) (z1:Int) (z2:Int) (z3:Int) (z4:Int) (z5:Int) (z6:Int) (z7:Int) (z8:Int),[c0,c1,c2,c3,c4,c5,c6,c7,c8]=[.int .i64 z0,.int .i64 z1,.int .i64 z2,.int .i64 z3,.int .i64 z4,.int .i64 z5,.int .i64 z6,.int .i64 z7,.int .i64 z8]:=by
 obtain ⟨ys,m,_,_,_,hyl,hg⟩:=DataW.trod_struct Tryz.underlying98 h
 match ys,hyl,hg with
 | [y0,y1,y2,y3,y4,y5,y6,y7,y8],_,hg =>
  have ci:Tryz.prog.cellsOf 3=1:=by kernel_rfl
  have t0:DataW.trod enc Tryz.prog W 0 (fun _=>true) true m 3 [c0]=some y0:=by have g:=hg 0 _ rfl;simpa [ci] using g
  have t1:DataW.trod enc Tryz.prog W 0 (fun _=>true) true m 3 [c1]=some y1:=by have g:=hg 1 _ rfl;simpa [ci] using g
  have t2:DataW.trod enc Tryz.prog W 0 (fun _=>true) true m 3 [c2]=some y2:=by have g:=hg 2 _ rfl;simpa [ci] using g
  have t3:DataW.trod enc Tryz.prog W 0 (fun _=>true) true m 3 [c3]=some y3:=by have g:=hg 3 _ rfl;simpa [ci] using g
  have t4:DataW.trod enc Tryz.prog W 0 (fun _=>true) true m 3 [c4]=some y4:=by have g:=hg 4 _ rfl;simpa [ci] using g
  have t5:DataW.trod enc Tryz.prog W 0 (fun _=>true) true m 3 [c5]=some y5:=by have g:=hg 5 _ rfl;simpa [ci] using g
  have t6:DataW.trod enc Tryz.prog W 0 (fun _=>true) true m 3 [c6]=some y6:=by have g:=hg 6 _ rfl;simpa [ci] using g
  have t7:DataW.trod enc Tryz.prog W 0 (fun _=>true) true m 3 [c7]=some y7:=by have g:=hg 7 _ rfl;simpa [ci] using g
  have t8:DataW.trod enc Tryz.prog W 0 (fun _=>true) true m 3 [c8]=some y8:=by have g:=hg 8 _ rfl;simpa [ci] using g
  obtain ⟨z0,e0,_,_⟩:=DataW.trod_int Tryz.underlying3 t0;obtain ⟨z1,e1,_,_⟩:=DataW.trod_int Tryz.underlying3 t1;obtain ⟨z2,e2,_,_⟩:=DataW.trod_int Tryz.underlying3 t2;obtain ⟨z3,e3,_,_⟩:=DataW.trod_int Tryz.underlying3 t3;obtain ⟨z4,e4,_,_⟩:=DataW.trod_int Tryz.underlying3 t4;obtain ⟨z5,e5,_,_⟩:=DataW.trod_int Tryz.underlying3 t5;obtain ⟨z6,e6,_,_⟩:=DataW.trod_int Tryz.underlying3 t6
  obtain ⟨z7,e7,_,_⟩:=DataW.trod_int Tryz.underlying3 t7;obtain ⟨z8,e8,_,_⟩:=DataW.trod_int Tryz.underlying3 t8;simp only [List.cons.injEq,and_true] at e0 e1 e2 e3 e4 e5 e6 e7 e8;exact ⟨z0,z1,z2,z3,z4,z5,z6,z7,z8,by rw [e0,e1,e2,e3,e4,e5,e6,e7,e8]⟩
theorem plT_of {n:Nat} {c0 c1 c2 c3 c4 c5 c6 c7 c8:Value} {y:DataW H × List MemPlace} (h:DataW.trod enc Tryz.prog W 0 (fun _=>true) true n 99 [c0,c1,c2,c3,c4,c5,c6,c7,c8]=some y):∃ (z0:Int) (z1:Int) (z2:Int) (z3:Int) (z4:Int) (z5:Int) (z6:Int) (z7:Int) (z8:Int),[c0,c1,c2,c3,c4,c5,c6,c7,c8]=[.int .i64 z0,.int .i64 z1,.int .i64 z2,.int .i64 z3,.int .i64 z4,.int .i64 z5,.int .i64 z6,.int .i64 z7,.int .i64 z8]:=by
 obtain ⟨ys,m,_,_,_,hyl,hg⟩:=DataW.trod_struct Tryz.underlying99 h
 match ys,hyl,hg with
 | [y0,y1,y2,y3,y4,y5,y6,y7,y8],_,hg =>
  have ci:Tryz.prog.cellsOf 3=1:=by kernel_rfl
  have t0:DataW.trod enc Tryz.prog W 0 (fun _=>true) true m 3 [c0]=some y0:=by have g:=hg 0 _ rfl;simpa [ci] using g
  have t1:DataW.trod enc Tryz.prog W 0 (fun _=>true) true m 3 [c1]=some y1:=by have g:=hg 1 _ rfl;simpa [ci] using g
  have t2:DataW.trod enc Tryz.prog W 0 (fun _=>true) true m 3 [c2]=some y2:=by have g:=hg 2 _ rfl;simpa [ci] using g
  have t3:DataW.trod enc Tryz.prog W 0 (fun _=>true) true m 3 [c3]=some y3:=by have g:=hg 3 _ rfl;simpa [ci] using g
  have t4:DataW.trod enc Tryz.prog W 0 (fun _=>true) true m 3 [c4]=some y4:=by have g:=hg 4 _ rfl;simpa [ci] using g
  have t5:DataW.trod enc Tryz.prog W 0 (fun _=>true) true m 3 [c5]=some y5:=by have g:=hg 5 _ rfl;simpa [ci] using g
  have t6:DataW.trod enc Tryz.prog W 0 (fun _=>true) true m 3 [c6]=some y6:=by have g:=hg 6 _ rfl;simpa [ci] using g
  have t7:DataW.trod enc Tryz.prog W 0 (fun _=>true) true m 3 [c7]=some y7:=by have g:=hg 7 _ rfl;simpa [ci] using g
  have t8:DataW.trod enc Tryz.prog W 0 (fun _=>true) true m 3 [c8]=some y8:=by have g:=hg 8 _ rfl;simpa [ci] using g
  obtain ⟨z0,e0,_,_⟩:=DataW.trod_int Tryz.underlying3 t0;obtain ⟨z1,e1,_,_⟩:=DataW.trod_int Tryz.underlying3 t1;obtain ⟨z2,e2,_,_⟩:=DataW.trod_int Tryz.underlying3 t2;obtain ⟨z3,e3,_,_⟩:=DataW.trod_int Tryz.underlying3 t3;obtain ⟨z4,e4,_,_⟩:=DataW.trod_int Tryz.underlying3 t4;obtain ⟨z5,e5,_,_⟩:=DataW.trod_int Tryz.underlying3 t5;obtain ⟨z6,e6,_,_⟩:=DataW.trod_int Tryz.underlying3 t6
  obtain ⟨z7,e7,_,_⟩:=DataW.trod_int Tryz.underlying3 t7;obtain ⟨z8,e8,_,_⟩:=DataW.trod_int Tryz.underlying3 t8;simp only [List.cons.injEq,and_true] at e0 e1 e2 e3 e4 e5 e6 e7 e8;exact ⟨z0,z1,z2,z3,z4,z5,z6,z7,z8,by rw [e0,e1,e2,e3,e4,e5,e6,e7,e8]⟩
theorem nodeT_of {n:Nat} {cs:List Value} {y:DataW H × List MemPlace} (hs:cs.length=34) (h:DataW.trod enc Tryz.prog W 0 (fun _=>true) true n 101 cs=some y) :
  ∃ p:Nr,cs=valsNr p∧RdN W p∧p.n.cs.length≤maxLen∧p.n.rs.length≤maxLen:=by
 obtain ⟨ys,m,_,_,_,hyl,hg⟩:=DataW.trod_struct Tryz.underlying101 h
 match cs,hs,hg with
 | k0 :: k1 :: k2 :: k3 :: k4 :: k5 :: k6 :: k7 :: k8 :: k9 :: k10 :: k11 :: k12 :: k13 :: k14 :: k15 :: k16 :: k17 :: k18 :: k19 :: k20 :: k21 :: k22 :: k23 :: k24 :: k25 :: k26 :: k27 :: k28 :: k29 :: k30 :: k31 :: k32 :: k33 :: [],_,hg =>
  match ys,hyl,hg with
  | [y0,y1,y2,y3,y4,y5,y6,y7,y8,y9],_,hg =>
   have ci:Tryz.prog.cellsOf 3=1:=by kernel_rfl
   have cb:Tryz.prog.cellsOf 4=1:=by kernel_rfl
   have cl:Tryz.prog.cellsOf 96=1:=by kernel_rfl
   have cp:Tryz.prog.cellsOf 97=9:=by kernel_rfl
   have cc:Tryz.prog.cellsOf 98=9:=by kernel_rfl
   have ca:Tryz.prog.cellsOf 99=9:=by kernel_rfl
   have t0:DataW.trod enc Tryz.prog W 0 (fun _=>true) true m 3 [k0]=some y0:=by have g:=hg 0 _ rfl;simpa [ci] using g
   have t1:DataW.trod enc Tryz.prog W 0 (fun _=>true) true m 3 [k1]=some y1:=by have g:=hg 1 _ rfl;simpa [ci] using g
   have t2:DataW.trod enc Tryz.prog W 0 (fun _=>true) true m 3 [k2]=some y2:=by have g:=hg 2 _ rfl;simpa [ci] using g
   have t3:DataW.trod enc Tryz.prog W 0 (fun _=>true) true m 4 [k3]=some y3:=by have g:=hg 3 _ rfl;simpa [cb] using g
   have t4:DataW.trod enc Tryz.prog W 0 (fun _=>true) true m 3 [k4]=some y4:=by have g:=hg 4 _ rfl;simpa [ci] using g
   have t5:DataW.trod enc Tryz.prog W 0 (fun _=>true) true m 96 [k5]=some y5:=by have g:=hg 5 _ rfl;simpa [cl] using g
   have t6:DataW.trod enc Tryz.prog W 0 (fun _=>true) true m 96 [k6]=some y6:=by have g:=hg 6 _ rfl;simpa [cl] using g
   have t7:DataW.trod enc Tryz.prog W 0 (fun _=>true) true m 97 [k7,k8,k9,k10,k11,k12,k13,k14,k15]=some y7:=by have g:=hg 7 _ rfl;simpa [cp] using g
   have t8:DataW.trod enc Tryz.prog W 0 (fun _=>true) true m 98 [k16,k17,k18,k19,k20,k21,k22,k23,k24]=some y8:=by have g:=hg 8 _ rfl;simpa [cc] using g
   have t9:DataW.trod enc Tryz.prog W 0 (fun _=>true) true m 99 [k25,k26,k27,k28,k29,k30,k31,k32,k33]=some y9:=by have g:=hg 9 _ rfl;simpa [ca] using g
   obtain ⟨z0,e0,_,_⟩:=DataW.trod_int Tryz.underlying3 t0;obtain ⟨z1,e1,_,_⟩:=DataW.trod_int Tryz.underlying3 t1;obtain ⟨z2,e2,_,_⟩:=DataW.trod_int Tryz.underlying3 t2;obtain ⟨z4,e4,_,_⟩:=DataW.trod_int Tryz.underlying3 t4;obtain ⟨z3,e3,_⟩:=DataW.trod_bool Tryz.underlying4 t3;obtain ⟨a5,c5,L5,e5,l5,m5,n5⟩:=slLnT_of t5;obtain ⟨a6,c6,L6,e6,l6,m6,n6⟩:=slLnT_of t6
   obtain ⟨p0,p1,p2,p3,p4,p5,p6,p7,p8,e7⟩:=pkT_of t7;obtain ⟨q0,q1,q2,q3,q4,q5,q6,q7,q8,e8⟩:=ceT_of t8;obtain ⟨r0,r1,r2,r3,r4,r5,r6,r7,r8,e9⟩:=plT_of t9;simp only [List.cons.injEq,and_true] at e0 e1 e2 e3 e4 e7 e8 e9;subst e0 e1 e2 e3 e4 e5 e6;obtain ⟨rfl,rfl,rfl,rfl,rfl,rfl,rfl,rfl,rfl⟩:=e7;obtain ⟨rfl,rfl,rfl,rfl,rfl,rfl,rfl,rfl,rfl⟩:=e8;obtain ⟨rfl,rfl,rfl,rfl,rfl,rfl,rfl,rfl,rfl⟩:=e9
   exact ⟨⟨⟨z0,z1,z2,z3,z4,L5,L6,⟨p0,p1,p2,p3,p4,p5,p6,p7,p8⟩,⟨q0,q1,q2,q3,q4,q5,q6,q7,q8⟩,⟨r0,r1,r2,r3,r4,r5,r6,r7,r8⟩⟩,a5,c5,a6,c6⟩,rfl,⟨l5,n5,l6,n6⟩,m5,m6⟩
theorem nodes_of {a:Option Addr} {len cap:Nat} {d:DataW H} {ps:List MemPlace}
  (h:DataW.Trod enc Tryz.prog W 0 (fun _=>true) true 22 (.slice a len cap) d ps):∃ R:List Nr,R.length=len∧NrV W a R∧RdR W R∧len≤maxLen∧∀ p ∈ R,p.n.cs.length≤maxLen∧p.n.rs.length≤maxLen:=by
 obtain ⟨fuel,hf⟩:=h
 have h9:Tryz.prog.cellsOf 101=34:=by kernel_rfl
 rcases open_slice Tryz.underlying22 hf with ⟨hcs,_⟩ | ⟨x,l,c,m,fu,D,Pl,hcs,_,hl,hm,hmm,_,hi⟩
 ·simp [Value.cells] at hcs
  obtain ⟨rfl,rfl,rfl⟩:=hcs;exact ⟨[],rfl,NrV.nil _ _,fun p hp=>by simp at hp,by simp,fun p hp=>by simp at hp⟩
 ·simp [Value.cells] at hcs
  obtain ⟨rfl,rfl,rfl⟩:=hcs
  have hlen:len≤m:=by rw [hmm];simp;exact hl
  have each:∀ i,i<len→∃ p:Nr,(∀ j,j<34→W.cell? (x.add (i*34+j))=(valsNr p)[j]?)∧RdN W p∧p.n.cs.length≤maxLen∧p.n.rs.length≤maxLen:=by
   intro i him;obtain ⟨cs,hrow,hread⟩:=hi i (by omega);rw [h9] at hrow;obtain ⟨_,hsz,hat⟩:=World.cells?_some hrow;obtain ⟨p,rfl,hp⟩:=nodeT_of (by simpa using hsz) hread;refine ⟨p,fun j hj=>?_,hp⟩
   have hb:∀ (a:Addr) (i j:Nat),(a.add i).add j=a.add (i+j):=fun a i j=>by
    unfold Addr.add
    by_cases hi:i=0 <;> by_cases hj:j=0 <;> simp [hi,hj,Nat.add_assoc]
   have:=hat j hj
   rw [hb] at this;exact this
  have hch:∃ f:Nat→Nr,∀ i,i<len→(∀ j,j<34→W.cell? (x.add (i*34+j))=(valsNr (f i))[j]?)∧RdN W (f i)∧(f i).n.cs.length≤maxLen∧(f i).n.rs.length≤maxLen:=by
   have z:Nr:=⟨⟨0,0,0,false,0,[],[],⟨0,0,0,false,false,false,0,0,0⟩,⟨0,0,0,0,0,0,0,0,0⟩,⟨0,0,0,0,0,0,0,0,0⟩⟩,none,0,none,0⟩
   refine ⟨fun i=>if h:i<len then Classical.choose (each i h) else z,fun i him=>?_⟩;simp only [him,dif_pos];exact Classical.choose_spec (each i him)
  obtain ⟨f,hfc⟩:=hch
  have mem:∀ p ∈ (List.range len).map f,∃ i,i<len∧p=f i:=by
   intro p hp;obtain ⟨i,hi,rfl⟩:=List.mem_map.1 hp;exact ⟨i,List.mem_range.1 hi,rfl⟩
  refine ⟨(List.range len).map f,by simp,⟨fun h0=>?_⟩,fun p hp=>?_,by omega,fun p hp=>?_⟩
  ·have h0':0<len:=by simpa using h0
   obtain ⟨b,off,spot⟩:=x;have hc:=(hfc 0 h0').1 0 (by omega)
   have hc':W.cell? ⟨b,off,spot⟩=some (.int .i64 (f 0).n.pa):=by simpa [Addr.add,valsNr] using hc
   have hspot:spot=none:=World.cell?_spot hc';subst hspot;refine ⟨b,off,rfl,World.block_lt_of_cell? W _ hc',fun i p hp j v hj=>?_⟩
   have hil:i<len:=by
    have:=(List.getElem?_eq_some_iff.1 hp).1
    simpa using this
   have hpe:p=f i:=by
    rw [List.getElem?_map,List.getElem?_range hil] at hp
    simpa using hp.symm
   subst hpe
   have hadd:∀ n:Nat,(⟨b,off,none⟩:Addr).add n=⟨b,off+n,none⟩:=fun n=>by
    unfold Addr.add
    split
    ·rename_i h;subst h;rfl
    ·rfl
   have hj34:j<34:=(List.getElem?_eq_some_iff.1 hj).1;have hcell:=(hfc i hil).1 j hj34;rw [hadd] at hcell;rw [Nat.add_assoc,hcell];exact hj
  ·obtain ⟨i,hi,rfl⟩:=mem p hp;exact (hfc i hi).2.1
  ·obtain ⟨i,hi,rfl⟩:=mem p hp;exact (hfc i hi).2.2
theorem tree_of {base:Nat} {v:Value} {d:DataW H} {ps:List MemPlace} (hv:Value.okWide Tryz.prog W .any base 24 v) (h:DataW.Trod enc Tryz.prog W 0 (fun _=>true) true 24 v d ps) :
  ∃ a c,∃ R:List Nr,v=.agg #[.slice a R.length c]∧NrV W a R∧RdR W R∧R.length≤maxLen∧∀ p ∈ R,p.n.cs.length≤maxLen∧p.n.rs.length≤maxLen:=by
 obtain ⟨cs,rfl,hsz⟩:=okWide_struct Tryz.underlying24 hv
 have h1:Tryz.prog.cellsOf 24=1:=by kernel_rfl
 have h2:Tryz.prog.cellsOf 22=1:=by kernel_rfl
 obtain ⟨l⟩:=cs
 match l,hsz.trans h1 with
 | [c0],_ =>
  obtain ⟨fuel,hf⟩:=h;obtain ⟨ys,n,_,hx,_,hlen,hg⟩:=DataW.trod_struct Tryz.underlying24 hf
  match ys,hlen,hg with
  | [y0],_,hg =>
   have t0:DataW.trod enc Tryz.prog W 0 (fun _=>true) true n 22 [c0]=some y0:=by have g:=hg 0 _ rfl;simpa [h2,Value.cells] using g
   obtain ⟨a,len,c,rfl⟩:∃ a len c,c0=.slice a len c:=by
    rcases open_slice Tryz.underlying22 t0 with ⟨hcs,_⟩ | ⟨x,l,c,m,fu,D,Pl,hcs,_⟩
    ·exact ⟨none,0,0,by simpa using hcs⟩
    ·exact ⟨some x,l,c,by simpa using hcs⟩
   obtain ⟨R,rfl,k1,k2,k3,k4⟩:=nodes_of (enc:=enc) (a:=a) (len:=len) (cap:=c) (d:=y0.1) (ps:=y0.2) ⟨n,by simpa [Value.cells] using t0⟩;exact ⟨a,c,R,rfl,k1,k2,k3,k4⟩
end
end
section
def szL:List Nr→Nat
 | []=>0
 | p :: t=>p.n.cs.length+p.n.rs.length+szL t
theorem szL_take:∀ {R:List Nr} {k:Nat} {p:Nr},R[k]?=some p→szL (R.take (k+1))=szL (R.take k)+(p.n.cs.length+p.n.rs.length)
 | q :: t,0,p,h=>by simp at h;subst h;simp [szL]
 | q :: t,k+1,p,h=>by
  simp only [List.getElem?_cons_succ] at h;simp only [List.take_succ_cons,szL,szL_take h];omega
 | [],k,p,h=>by simp at h
theorem szL_le:∀ (R:List Nr) (k:Nat),szL (R.take k)≤szL R
 | [],k=>by simp [szL]
 | q :: t,0=>by simp [szL]
 | q :: t,k+1=>by have:=szL_le t k;simp only [List.take_succ_cons,szL];omega
theorem szNode_yes (p:Nr) (z:Int) (w:World) (h:(p.n.cs.length:Int)+p.n.rs.length≤z) (hz:z≤1048576) :
  Calls Tryz.prog 79 #[.agg (valsNr p).toArray,.int .i64 z] w fun e w'=>e=.returned (.int .i64 (z - (p.n.cs.length+p.n.rs.length)))∧Below w.heap.size w w':=by
 have hx:=newS w (.cells (valsNr p).toArray 101 (0,0));have c5:(w.alloc (.cells (valsNr p).toArray 101 (0,0))).cell? ⟨w.heap.size,5,none⟩=some (.slice p.ca p.n.cs.length p.cc):=cellS hx 5;have c6:(w.alloc (.cells (valsNr p).toArray 101 (0,0))).cell? ⟨w.heap.size,6,none⟩=some (.slice p.ra p.n.rs.length p.rc):=cellS hx 6;have d1:decide (z - (p.n.cs.length:Int)<0)=false:=decide_eq_false (by omega)
 have d2:decide (z - (p.n.cs.length:Int) - (p.n.rs.length:Int)<0)=false:=decide_eq_false (by omega);clear hx
 go_enter Tryz.func79,Tryz.ntmps79
 go_wp2_with fail
 with_reducible refine (szLnS_yes p.ca p.cc p.n.cs.length z _ (by omega) (by omega)).mono ?_
 rintro e w1 ⟨rfl,rfl⟩
 go_wp2_with fail
 with_reducible refine (szLnS_yes p.ra p.rc p.n.rs.length _ _ (by omega) (by omega)).mono ?_
 rintro e w1 ⟨rfl,rfl⟩;go_wp2;go_ret;exact ⟨ret_int (by omega),balloc (Below.refl _ _)⟩
theorem szNode_no (p:Nr) (z:Int) (w:World) (h:¬ (p.n.cs.length:Int)+p.n.rs.length≤z) (h0:0≤z) (hz:z≤1048576) (m1:p.n.cs.length≤maxLen) (m2:p.n.rs.length≤maxLen) :
  Calls Tryz.prog 79 #[.agg (valsNr p).toArray,.int .i64 z] w fun e w'=>e=.returned (.int .i64 (-1))∧Below w.heap.size w w':=by
 have hx:=newS w (.cells (valsNr p).toArray 101 (0,0));have c5:(w.alloc (.cells (valsNr p).toArray 101 (0,0))).cell? ⟨w.heap.size,5,none⟩=some (.slice p.ca p.n.cs.length p.cc):=cellS hx 5;have c6:(w.alloc (.cells (valsNr p).toArray 101 (0,0))).cell? ⟨w.heap.size,6,none⟩=some (.slice p.ra p.n.rs.length p.rc):=cellS hx 6;clear hx
 by_cases g1:(p.n.cs.length:Int)≤z
 ·have d1:decide (z - (p.n.cs.length:Int)<0)=false:=decide_eq_false (by omega)
  go_enter Tryz.func79,Tryz.ntmps79
  go_wp2_with fail
  with_reducible refine (szLnS_yes p.ca p.cc p.n.cs.length z _ (by omega) (by omega)).mono ?_
  rintro e w1 ⟨rfl,rfl⟩
  go_wp2_with fail
  with_reducible refine (szLnS_no p.ra p.rc p.n.rs.length _ _ (by omega) (by omega) (by omega) m2).mono ?_
  rintro e w1 ⟨rfl,rfl⟩;go_wp2;go_ret;exact ⟨rfl,balloc (Below.refl _ _)⟩
 ·go_enter Tryz.func79,Tryz.ntmps79
  go_wp2_with fail
  with_reducible refine (szLnS_no p.ca p.cc p.n.cs.length z _ (by omega) (by omega) (by omega) m1).mono ?_
  rintro e w1 ⟨rfl,rfl⟩;go_wp2;go_ret;exact ⟨rfl,balloc (Below.refl _ _)⟩
theorem szNodeS_v (A:Option Addr) (c:Nat) (R:List Nr) (t:Int) (w:World) (h:NrV w A R) (hn:R.length≤maxLen) (hm:∀ p ∈ R,p.n.cs.length≤maxLen∧p.n.rs.length≤maxLen) (ht:(if R.length+szL R≤1048576 then (1048576:Int) - (R.length+szL R) else -1)=t) :
  Calls Tryz.prog 41 #[.slice A R.length c,.int .i64 1048576] w fun e w'=>e=.returned (.int .i64 t)∧Below w.heap.size w w':=by
 unfold maxLen at hn
 by_cases hl:R.length≤1048576
 ·have d0:decide ((1048576:Int) - (R.length:Int)<0)=false:=decide_eq_false (by omega);have HM:=hD hm;have HT:=hD ht;clear hm ht hn
  go_enter Tryz.func41,Tryz.ntmps41
  go_wp2_with fail
  go_loopw [1,5] (fun z i wr=>∃ k:Nat,k≤R.length∧i=.int .i64 k∧R.length+szL (R.take k)≤1048576∧z=.int .i64 (1048576 - (R.length+szL (R.take k)))∧Below w.heap.size w wr) (fun _ i _=>R.length - (intOf i).toNat)
  case atStart=>exact ⟨0,by omega,rfl,by simp [szL];omega,by simp [szL],Below.refl _ _⟩
  case round =>
   obtain ⟨k,hk,rfl,hle,rfl,hB⟩:=hrel
   by_cases hlt:k<R.length
   ·have hd:decide ((k:Int)<(R.length:Int))=true:=by simpa using hlt
    have hget:R[k]?=some R[k]:=List.getElem?_eq_getElem hlt;obtain ⟨b,off,rfl,hb,hp⟩:=(h.keep hB).cells (by omega);have hL:=hp k _ hget;have hms:=HM.out _ (List.mem_of_getElem? hget);have hst:=szL_take hget;have hle2:=szL_le R (k+1);generalize R[k]=p at *;have HB:=hD hB;have HP:=hD hp;have HLR:=hD hL;clear hL;have HG:=hD hget;obtain ⟨m1,m2⟩:=hms;clear hB hp hget
    obtain ⟨S,hS⟩:∃ S,szL (R.take k)=S:=⟨_,rfl⟩
    rw [hS] at hst hle;rw [hS];have HS:=hD hS;have HST:=hD hst;clear hS
    by_cases g:R.length+(S+(p.n.cs.length+p.n.rs.length))≤1048576
    ·have d1:decide ((1048576:Int) - ((R.length:Int)+(S:Int)) - ((p.n.cs.length:Int)+(p.n.rs.length:Int))<0)=false:=decide_eq_false (by omega);have HLE:=hD hle2;clear hle2 hst
     go_wp2_with (refine ldL _ p b (off+k*34) rfl rfl rfl HLR.out ?_)
     with_reducible refine (szNode_yes p (1048576 - ((R.length:Int)+(S:Int))) _ (by omega) (by omega)).mono ?_
     rintro e w1 ⟨rfl,hb1⟩;replace HB:=hD (bkeep2 HB.out hb1);clear hb1;go_wp2
     go_roundw
     case rel=>exact ⟨k+1,by omega,by go_num,by rw [HST.out];omega,by rw [HST.out];go_num,HB.out⟩
     case measure=>simp [intOf];omega
    ·have HLE:=hD hle2;clear hle2 hst
     go_wp2_with (refine ldL _ p b (off+k*34) rfl rfl rfl HLR.out ?_)
     with_reducible refine (szNode_no p (1048576 - ((R.length:Int)+(S:Int))) _ (by omega) (by omega) (by omega) m1 m2).mono ?_
     rintro e w1 ⟨rfl,hb1⟩;replace HB:=hD (bkeep2 HB.out hb1);clear hb1;go_wp2;go_ret;exact ⟨ret_int (by rw [<- HT.out,if_neg (by have:=HLE.out;rw [HST.out] at this;omega)]),HB.out⟩
   ·have hd:decide ((k:Int)<(R.length:Int))=false:=decide_eq_false (by omega)
    obtain rfl:k=R.length:=by omega
    have HB:=hD hB;rw [List.take_length] at hle;rw [List.take_length];clear hB;have HLE:=hD hle;clear hle;go_wp2;go_ret;exact ⟨ret_int (by rw [<- HT.out,if_pos HLE.out]),HB.out⟩
 ·have d0:decide ((1048576:Int) - (R.length:Int)<0)=true:=decide_eq_true (by omega);have HT:=hD ht;clear ht hm
  go_enter Tryz.func41,Tryz.ntmps41
  go_wp2;go_ret;exact ⟨ret_int (by rw [<- HT.out,if_neg (by omega)]),Below.refl _ _⟩
theorem szTree_v (A:Option Addr) (c:Nat) (R:List Nr) (t:Int) (w:World) (h:NrV w A R) (hn:R.length≤maxLen) (hm:∀ p ∈ R,p.n.cs.length≤maxLen∧p.n.rs.length≤maxLen) (ht:(if R.length+szL R≤1048576 then (1048576:Int) - (R.length+szL R) else -1)=t) :
  Calls Tryz.prog 12 #[.agg #[.slice A R.length c],.int .i64 1048576] w fun e w'=>e=.returned (.int .i64 t)∧Below w.heap.size w w':=by
 have hB0:Below w.heap.size w (w.alloc (.cells #[.slice A R.length c] 24 (0,0))):=balloc (Below.refl _ _);have c0:(w.alloc (.cells #[.slice A R.length c] 24 (0,0))).cell? ⟨w.heap.size,0,none⟩=some (.slice A R.length c):=cellS (newS _ _) 0;have HV:=hD (h.keep hB0);have HB:=hD hB0;have HM:=hD (And.intro hn (And.intro hm ht));clear hB0 h hn hm
 have ht2:t=-1 ∨ 0≤t:=by rw [<- ht];split <;> omega
 clear ht
 rcases ht2 with rfl | ht2
 ·go_enter Tryz.func12,Tryz.ntmps12
  go_wp2_with fail
  with_reducible refine (szNodeS_v A c R _ _ HV.out HM.out.1 HM.out.2.1 HM.out.2.2).mono ?_
  rintro e w1 ⟨rfl,hb1⟩;replace HB:=hD (bkeep2 HB.out hb1);clear hb1 c0;go_wp2;go_ret;exact ⟨rfl,HB.out⟩
 ·have d1:decide (t<0)=false:=decide_eq_false (by omega)
  go_enter Tryz.func12,Tryz.ntmps12
  go_wp2_with fail
  with_reducible refine (szNodeS_v A c R _ _ HV.out HM.out.1 HM.out.2.1 HM.out.2.2).mono ?_
  rintro e w1 ⟨rfl,hb1⟩;replace HB:=hD (bkeep2 HB.out hb1);clear hb1 c0;go_wp2;go_ret;exact ⟨rfl,HB.out⟩
end
section
theorem pvalidSide_any (k:Int) (w:World):Calls Tryz.prog 161 #[.int .i64 k] w fun e w'=>e=.returned (.bool (rng k 0 3))∧w=w':=by
 go_enter Tryz.func161,Tryz.ntmps161
 go_wp2_with (go_at_call 83;refine (within_any _ _ _ _).mono ?_;rintro e w' ⟨rfl,rfl⟩)
 go_ret;exact ⟨ret_bool rfl,rfl⟩
theorem pvalidAnchor_any (k:Int) (w:World):Calls Tryz.prog 162 #[.int .i64 k] w fun e w'=>e=.returned (.bool (rng k 0 8))∧w=w':=by
 go_enter Tryz.func162,Tryz.ntmps162
 go_wp2_with (go_at_call 83;refine (within_any _ _ _ _).mono ?_;rintro e w' ⟨rfl,rfl⟩)
 go_ret;exact ⟨ret_bool rfl,rfl⟩
theorem psvalidSide_any (k:Int) (w:World):Calls Tryz.prog 150 #[.int .i64 k] w fun e w'=>e=.returned (.bool (rng k 0 3))∧w=w':=by
 go_enter Tryz.func150,Tryz.ntmps150
 go_wp2_with (go_at_call 61;refine (inRange_any _ _ _ _).mono ?_;rintro e w' ⟨rfl,rfl⟩)
 go_ret;exact ⟨ret_bool rfl,rfl⟩
theorem psvalidAnchor_any (k:Int) (w:World):Calls Tryz.prog 151 #[.int .i64 k] w fun e w'=>e=.returned (.bool (rng k 0 8))∧w=w':=by
 go_enter Tryz.func151,Tryz.ntmps151
 go_wp2_with (go_at_call 61;refine (inRange_any _ _ _ _).mono ?_;rintro e w' ⟨rfl,rfl⟩)
 go_ret;exact ⟨ret_bool rfl,rfl⟩
theorem vp_n12 {w h s an px py:Int} (h1:(rng w 0 30 && rng h 0 30)=false):vpB w h s an px py=false:=by
 cases a:rng w 0 30 <;> cases b:rng h 0 30 <;> simp [vpB,a,b] at h1 ⊢
theorem validPack_any (w0 h0 s:Int) (fx fy ex:Bool) (an px py:Int) (w:World):Calls Tryz.prog 122 #[.agg #[.int .i64 w0,.int .i64 h0,.int .i64 s,.bool fx,.bool fy,.bool ex,.int .i64 an,.int .i64 px,.int .i64 py]] w fun e w'=>e=.returned (.bool (vpB w0 h0 s an px py))∧Below w.heap.size w w':=by
 cases hw:(rng w0 0 30 && rng h0 0 30)
 ·go_enter Tryz.func122,Tryz.ntmps122
  go_wp2_with (first | (go_at_call 92;refine (validWish_w _ _ _ _ hw).mono ?_;rintro e w' ⟨rfl,rfl⟩) | (go_at_call 83;refine (within_any _ _ _ _).mono ?_;rintro e w' ⟨rfl,rfl⟩) | (go_at_call 161;refine (pvalidSide_any _ _).mono ?_;rintro e w' ⟨rfl,rfl⟩) | (go_at_call 162;refine (pvalidAnchor_any _ _).mono ?_;rintro e w' ⟨rfl,rfl⟩))
  go_ret;exact ⟨ret_bool (by rw [vp_n12 hw]),(Below.refl _ _).alloc (Nat.le_refl _) _⟩
 have h1:rng w0 0 30=true:=(Bool.and_eq_true _ _ ▸ hw).1;have h2:rng h0 0 30=true:=(Bool.and_eq_true _ _ ▸ hw).2
 cases h3:rng s 0 3
 ·go_enter Tryz.func122,Tryz.ntmps122
  go_wp2_with (first | (go_at_call 92;refine (validWish_w _ _ _ _ hw).mono ?_;rintro e w' ⟨rfl,rfl⟩) | (go_at_call 83;refine (within_any _ _ _ _).mono ?_;rintro e w' ⟨rfl,rfl⟩) | (go_at_call 161;refine (pvalidSide_any _ _).mono ?_;rintro e w' ⟨rfl,rfl⟩) | (go_at_call 162;refine (pvalidAnchor_any _ _).mono ?_;rintro e w' ⟨rfl,rfl⟩))
  go_ret;exact ⟨ret_bool (by rw [vp_n3 h3]),(Below.refl _ _).alloc (Nat.le_refl _) _⟩
 cases h4:rng an 0 8
 ·go_enter Tryz.func122,Tryz.ntmps122
  go_wp2_with (first | (go_at_call 92;refine (validWish_w _ _ _ _ hw).mono ?_;rintro e w' ⟨rfl,rfl⟩) | (go_at_call 83;refine (within_any _ _ _ _).mono ?_;rintro e w' ⟨rfl,rfl⟩) | (go_at_call 161;refine (pvalidSide_any _ _).mono ?_;rintro e w' ⟨rfl,rfl⟩) | (go_at_call 162;refine (pvalidAnchor_any _ _).mono ?_;rintro e w' ⟨rfl,rfl⟩))
  go_ret;exact ⟨ret_bool (by rw [vp_n4 h4]),(Below.refl _ _).alloc (Nat.le_refl _) _⟩
 cases h5:rng px 0 10
 ·go_enter Tryz.func122,Tryz.ntmps122
  go_wp2_with (first | (go_at_call 92;refine (validWish_w _ _ _ _ hw).mono ?_;rintro e w' ⟨rfl,rfl⟩) | (go_at_call 83;refine (within_any _ _ _ _).mono ?_;rintro e w' ⟨rfl,rfl⟩) | (go_at_call 161;refine (pvalidSide_any _ _).mono ?_;rintro e w' ⟨rfl,rfl⟩) | (go_at_call 162;refine (pvalidAnchor_any _ _).mono ?_;rintro e w' ⟨rfl,rfl⟩))
  go_ret;exact ⟨ret_bool (by rw [vp_n5 h5]),(Below.refl _ _).alloc (Nat.le_refl _) _⟩
 go_enter Tryz.func122,Tryz.ntmps122
 go_wp2_with (first | (go_at_call 92;refine (validWish_w _ _ _ _ hw).mono ?_;rintro e w' ⟨rfl,rfl⟩) | (go_at_call 83;refine (within_any _ _ _ _).mono ?_;rintro e w' ⟨rfl,rfl⟩) | (go_at_call 161;refine (pvalidSide_any _ _).mono ?_;rintro e w' ⟨rfl,rfl⟩) | (go_at_call 162;refine (pvalidAnchor_any _ _).mono ?_;rintro e w' ⟨rfl,rfl⟩))
 go_ret;exact ⟨ret_bool (by rw [vp_n6 h1 h2 h3 h4 h5]),(Below.refl _ _).alloc (Nat.le_refl _) _⟩
theorem specValidPack_any (w0 h0 s:Int) (fx fy ex:Bool) (an px py:Int) (w:World):Calls Tryz.prog 110 #[.agg #[.int .i64 w0,.int .i64 h0,.int .i64 s,.bool fx,.bool fy,.bool ex,.int .i64 an,.int .i64 px,.int .i64 py]] w fun e w'=>e=.returned (.bool (vpB w0 h0 s an px py))∧Below w.heap.size w w':=by
 cases h1:rng w0 0 30
 ·go_enter Tryz.func110,Tryz.ntmps110
  go_wp2_with (first | (go_at_call 61;refine (inRange_any _ _ _ _).mono ?_;rintro e w' ⟨rfl,rfl⟩) | (go_at_call 150;refine (psvalidSide_any _ _).mono ?_;rintro e w' ⟨rfl,rfl⟩) | (go_at_call 151;refine (psvalidAnchor_any _ _).mono ?_;rintro e w' ⟨rfl,rfl⟩))
  go_ret;exact ⟨ret_bool (by rw [vp_n1 h1]),(Below.refl _ _).alloc (Nat.le_refl _) _⟩
 cases h2:rng h0 0 30
 ·go_enter Tryz.func110,Tryz.ntmps110
  go_wp2_with (first | (go_at_call 61;refine (inRange_any _ _ _ _).mono ?_;rintro e w' ⟨rfl,rfl⟩) | (go_at_call 150;refine (psvalidSide_any _ _).mono ?_;rintro e w' ⟨rfl,rfl⟩) | (go_at_call 151;refine (psvalidAnchor_any _ _).mono ?_;rintro e w' ⟨rfl,rfl⟩))
  go_ret;exact ⟨ret_bool (by rw [vp_n2 h2]),(Below.refl _ _).alloc (Nat.le_refl _) _⟩
 cases h3:rng s 0 3
 ·go_enter Tryz.func110,Tryz.ntmps110
  go_wp2_with (first | (go_at_call 61;refine (inRange_any _ _ _ _).mono ?_;rintro e w' ⟨rfl,rfl⟩) | (go_at_call 150;refine (psvalidSide_any _ _).mono ?_;rintro e w' ⟨rfl,rfl⟩) | (go_at_call 151;refine (psvalidAnchor_any _ _).mono ?_;rintro e w' ⟨rfl,rfl⟩))
  go_ret;exact ⟨ret_bool (by rw [vp_n3 h3]),(Below.refl _ _).alloc (Nat.le_refl _) _⟩
 cases h4:rng an 0 8
 ·go_enter Tryz.func110,Tryz.ntmps110
  go_wp2_with (first | (go_at_call 61;refine (inRange_any _ _ _ _).mono ?_;rintro e w' ⟨rfl,rfl⟩) | (go_at_call 150;refine (psvalidSide_any _ _).mono ?_;rintro e w' ⟨rfl,rfl⟩) | (go_at_call 151;refine (psvalidAnchor_any _ _).mono ?_;rintro e w' ⟨rfl,rfl⟩))
  go_ret;exact ⟨ret_bool (by rw [vp_n4 h4]),(Below.refl _ _).alloc (Nat.le_refl _) _⟩
 cases h5:rng px 0 10
 ·go_enter Tryz.func110,Tryz.ntmps110
  go_wp2_with (first | (go_at_call 61;refine (inRange_any _ _ _ _).mono ?_;rintro e w' ⟨rfl,rfl⟩) | (go_at_call 150;refine (psvalidSide_any _ _).mono ?_;rintro e w' ⟨rfl,rfl⟩) | (go_at_call 151;refine (psvalidAnchor_any _ _).mono ?_;rintro e w' ⟨rfl,rfl⟩))
  go_ret;exact ⟨ret_bool (by rw [vp_n5 h5]),(Below.refl _ _).alloc (Nat.le_refl _) _⟩
 go_enter Tryz.func110,Tryz.ntmps110
 go_wp2_with (first | (go_at_call 61;refine (inRange_any _ _ _ _).mono ?_;rintro e w' ⟨rfl,rfl⟩) | (go_at_call 150;refine (psvalidSide_any _ _).mono ?_;rintro e w' ⟨rfl,rfl⟩) | (go_at_call 151;refine (psvalidAnchor_any _ _).mono ?_;rintro e w' ⟨rfl,rfl⟩))
 go_ret;exact ⟨ret_bool (by rw [vp_n6 h1 h2 h3 h4 h5]),(Below.refl _ _).alloc (Nat.le_refl _) _⟩
end
section
theorem cellH {w:World} {b:Nat} {cs:Array Value} {T:TypeId} {fz:Nat × Nat} (h:w.heap[b]?=some (.cells cs T fz)) (i:Nat):w.cell? ⟨b,i,none⟩=cs[i]?:=by simp [World.cell?,h]
theorem heap_new (w:World) (o:Obj):(w.alloc o).heap[w.heap.size]?=some o:=by
 show (w.heap.push o)[w.heap.size]?=some o
 simp
theorem b9c {w:World} {b:Nat} {a0 a1 a2 a3 a4 a5 a6 a7 a8:Value} {T:TypeId} {fz:Nat × Nat} (h:w.heap[b]?=some (.cells #[a0,a1,a2,a3,a4,a5,a6,a7,a8] T fz)) :
  w.cell? ⟨b,0,none⟩=some a0∧w.cell? ⟨b,1,none⟩=some a1∧w.cell? ⟨b,2,none⟩=some a2∧w.cell? ⟨b,3,none⟩=some a3∧w.cell? ⟨b,4,none⟩=some a4∧w.cell? ⟨b,5,none⟩=some a5∧w.cell? ⟨b,6,none⟩=some a6∧w.cell? ⟨b,7,none⟩=some a7∧w.cell? ⟨b,8,none⟩=some a8 :=
 ⟨cellH h 0,cellH h 1,cellH h 2,cellH h 3,cellH h 4,cellH h 5,cellH h 6,cellH h 7,cellH h 8⟩
theorem toPack_any (w0 h0 s:Int) (fx fy ex:Bool) (an px py:Int) (w:World):Calls Tryz.prog 118 #[.agg #[.int .i64 w0,.int .i64 h0,.int .i64 s,.bool fx,.bool fy,.bool ex,.int .i64 an,.int .i64 px,.int .i64 py]] w fun e w'=>e=.returned (.agg #[.int .i64 w0,.int .i64 h0,.int .i64 s,.bool fx,.bool fy,.bool ex,.int .i64 an,.int .i64 px,.int .i64 py])∧Below w.heap.size w w':=by
 go_enter Tryz.func118,Tryz.ntmps118
 go_wp2
 exact bodyPost_ret (v:=.agg #[.int .i64 w0,.int .i64 h0,.int .i64 s,.bool fx,.bool fy,.bool ex,.int .i64 an,.int .i64 px,.int .i64 py]) (by simp only [results,Tryz.results118];go_simp) rfl ⟨rfl,(by repeat (first | with_reducible exact Below.refl _ _ | with_reducible assumption | with_reducible refine balloc ?_ | (with_reducible refine bset ?_ ?_;rotate_left;((try dsimp only);omega)) | refine bkeep2 ?_ (by assumption) | with_reducible refine Below.drew ?_))⟩
end
section
def sumI:List Int→Int
 | []=>0
 | x :: t=>x+sumI t
theorem sumI_append:∀ (A B:List Int),sumI (A ++ B)=sumI A+sumI B
 | [],B=>by simp [sumI]
 | x :: t,B=>by simp [sumI,sumI_append t B];omega
theorem sumI_snoc {L:List Int} {k:Nat} {x:Int} (h:L[k]?=some x):sumI (L.take (k+1))=sumI (L.take k)+x:=by
 obtain ⟨hk,e⟩:=List.getElem?_eq_some_iff.1 h;rw [List.take_succ_eq_append_getElem hk,sumI_append,e]
 simp [sumI]
theorem sumI_bd {lo hi:Int}:∀ {L:List Int},(∀ x ∈ L,lo≤x∧x≤hi)→lo*L.length≤sumI L∧sumI L≤hi*L.length
 | [],_=>by simp [sumI]
 | x :: t,h=>by
  have h1:=sumI_bd (L:=t) (fun q hq=>h q (List.mem_cons_of_mem _ hq));have h2:=h x List.mem_cons_self;simp only [sumI,List.length_cons]
  have e1:lo*((t.length+1:Nat):Int)=lo*t.length+lo:=by rw [Int.natCast_succ,Int.mul_add,Int.mul_one]
  have e2:hi*((t.length+1:Nat):Int)=hi*t.length+hi:=by rw [Int.natCast_succ,Int.mul_add,Int.mul_one]
  rw [e1,e2];omega
def Smal (M:Int) (L:List Int):Prop:=∀ k,-M≤sumI (L.take k)∧sumI (L.take k)≤M
theorem smal_of {b M:Int} {L:List Int} (h:∀ x ∈ L,-b≤x∧x≤b) (hb:0≤b) (hl:b*L.length≤M):Smal M L:=fun k=>by
 have:=sumI_bd (L:=L.take k) (fun x hx=>h x (List.mem_of_mem_take hx))
 have hk:((L.take k).length:Int)≤L.length:=by rw [List.length_take];omega
 have h1:b*((L.take k).length:Int)≤b*L.length:=Int.mul_le_mul_of_nonneg_left hk hb
 have h2:-b*((L.take k).length:Int)=-(b*((L.take k).length:Int)):=by rw [Int.neg_mul]
 rw [h2] at this;omega
structure NV (w:World) (A:Option Addr) (L:List Int):Prop where
 cells:0<L.length→∃ b off,A=some ⟨b,off,none⟩∧b<w.heap.size∧∀ i x,L[i]?=some x→w.cell? ⟨b,off+i,none⟩=some (.int .i64 x)
theorem NV.keep {w w':World} {A:Option Addr} {L:List Int} (h:NV w A L) (hb:Below w.heap.size w w'):NV w' A L :=
 ⟨fun h0=>let ⟨b,off,e,hl,hp⟩:=h.cells h0;⟨b,off,e,Nat.lt_of_lt_of_le hl hb.size,fun i x hx=>(hb.cell (p:=⟨b,off+i,none⟩) hl).trans (hp i x hx)⟩⟩
theorem NV.nil (w:World) (A:Option Addr):NV w A []:=⟨fun h=>absurd h (by simp)⟩
theorem NV.sub {w:World} {b off:Nat} {L:List Int} (hb:b<w.heap.size) (h:∀ i x,L[i]?=some x→w.cell? ⟨b,off+i,none⟩=some (.int .i64 x)) (i j:Nat):NV w (some ⟨b,off+i,none⟩) ((L.drop i).take j) :=
 ⟨fun _=>⟨b,off+i,rfl,hb,fun k x hx=>by
  rw [List.getElem?_take] at hx
  split at hx
  ·rw [List.getElem?_drop] at hx
   have:=h (i+k) x hx
   rwa [<- Nat.add_assoc] at this
  ·cases hx⟩⟩
def ivals (L:List Int):Array Value:=(L.map (Value.int .i64)).toArray
def IB (w:World) (g:Nat) (L:List Int):Prop:=w.heap[g]?=some (.cells (ivals L) 3 (0,0))
theorem IB.lt {w:World} {g:Nat} {L:List Int} (h:IB w g L):g<w.heap.size:=(gE h).1
theorem IB.cell {w:World} {g i:Nat} {L:List Int} {x:Int} (h:IB w g L) (hx:L[i]?=some x):w.cell? ⟨g,i,none⟩=some (.int .i64 x):=by
 have h':w.heap[g]?=some (.cells (ivals L) 3 (0,0)):=h
 simp [World.cell?,h',ivals,hx]
theorem IB.frozen {w:World} {g:Nat} {L:List Int} (h:IB w g L) (i:Nat):w.frozen? ⟨g,i,none⟩=false:=by
 have h':w.heap[g]?=some (.cells (ivals L) 3 (0,0)):=h
 simp [World.frozen?,h']
theorem IB.keep {w w':World} {g:Nat} {L:List Int} (h:IB w g L) (hb:Below w.heap.size w w'):IB w' g L:=(hb.block g h.lt).trans h
theorem IB.set {w:World} {g:Nat} {L:List Int} (h:IB w g L) (i:Nat) (x:Int):IB (w.setCell ⟨g,i,none⟩ (.int .i64 x)) g (L.set i x):=by
 have h':w.heap[g]?=some (.cells (ivals L) 3 (0,0)):=h
 show _=_
 simp [World.setCell,Array.getElem?_modify,h',ivals,List.map_set]
theorem IB.nv {w:World} {g:Nat} {L:List Int} (h:IB w g L):NV w (some ⟨g,0,none⟩) L :=
 ⟨fun _=>⟨g,0,rfl,h.lt,fun i x hx=>by rw [Nat.zero_add];exact h.cell hx⟩⟩
theorem madeI:∀ (n:Nat) (w:World),n≤1048576→(Instr.makeSlice 37 (.int .i64 (n:Int)) (.int .i64 (n:Int))).run Tryz.prog w=.ok (.slice (some ⟨w.heap.size,0,none⟩) n n) (w.alloc (.cells (ivals (List.replicate n 0)) 3)):=by
 intro n w hn
 have hinfo:(Tryz.prog.info? 3).map (fun i=>(i.zero,i.size,i.bytes))=some (some (.int .i64 0),1,8):=by kernel_rfl
 obtain ⟨i,hi,h1,h2,h3⟩:=info_parts hinfo;have hr:=run_make (P:=Tryz.prog) w 37 3 i _ Tryz.underlying37 hi h1 .i64 .i64 n n (by omega) (Int.le_refl _) (by rw [h3];omega) (by omega);rw [h2] at hr
 have e:madeCells (Value.int .i64 0).cells (n*1)=ivals (List.replicate n 0):=by
  apply Array.ext
  ·rw [size_madeCells];simp [ivals]
  ·intro i h1 h2
   simp [madeCells,ivals,Value.cells,Nat.mod_one]
 rw [Int.toNat_natCast,e] at hr
 simpa using hr
theorem makeI_b (n:Nat) (w:World):IB (w.alloc (.cells (ivals (List.replicate n 0)) 3)) w.heap.size (List.replicate n 0):=by
 show (w.heap.push _)[w.heap.size]?=_
 simp
theorem sum_v (A:Option Addr) (c:Nat) (L:List Int) (w:World) (h:NV w A L) (hL:L.length≤1048576) (hM:Smal 1000000000000000 L) :
  Calls Tryz.prog 210 #[.slice A L.length c] w fun e w'=>e=.returned (.int .i64 (sumI L))∧w=w':=by
 have HM:=hD hM;clear hM
 go_enter Tryz.func210,Tryz.ntmps210
 go_wp2_with fail
 go_loop [3,8] (fun s i=>∃ k:Nat,k≤L.length∧i=.int .i64 k∧s=.int .i64 (sumI (L.take k))) (fun _ i=>L.length - (intOf i).toNat)
 case atStart=>exact ⟨0,by omega,rfl,rfl⟩
 case round =>
  obtain ⟨k,hk,rfl,rfl⟩:=hrel
  by_cases hlt:k<L.length
  ·have hd:decide ((k:Int)<(L.length:Int))=true:=by simpa using hlt
   obtain ⟨b,off,rfl,hb,hp⟩:=h.cells (by omega);have hget:L[k]?=some L[k]:=List.getElem?_eq_getElem hlt;have c0:=hp k _ hget;generalize hx:L[k]=x at *;have hs:=sumI_snoc hget;have b1:=HM.out k;have b2:=HM.out (k+1);rw [hs] at b2
   obtain ⟨S,hS⟩:∃ S,sumI (L.take k)=S:=⟨_,rfl⟩
   rw [hS] at b1 b2 hs;rw [hS];have HS:=hD hs;clear hs hS hget hx hp;go_wp2
   go_round
   case rel=>exact ⟨k+1,by omega,by go_num,by rw [HS.out]⟩
   case measure=>simp [intOf];omega
  ·have hd:decide ((k:Int)<(L.length:Int))=false:=by simp;omega
   have he:L.take k=L:=List.take_of_length_le (by omega);rw [he];clear he;go_wp2;go_ret;exact ⟨rfl,rfl⟩
theorem total_v (A:Option Addr) (c:Nat) (L:List Int) (w:World) (h:NV w A L) (hL:L.length≤1048576) (hM:Smal 1000000000000000 L) :
  Calls Tryz.prog 142 #[.slice A L.length c] w fun e w'=>e=.returned (.int .i64 (sumI L))∧w=w':=by
 have HM:=hD hM;clear hM
 go_enter Tryz.func142,Tryz.ntmps142
 go_wp2_with fail
 go_loop [3,4] (fun s i=>∃ k:Nat,k≤L.length∧i=.int .i64 k∧s=.int .i64 (sumI (L.take k))) (fun _ i=>L.length - (intOf i).toNat)
 case atStart=>exact ⟨0,by omega,rfl,rfl⟩
 case round =>
  obtain ⟨k,hk,rfl,rfl⟩:=hrel
  by_cases hlt:k<L.length
  ·have hd:decide ((k:Int)<(L.length:Int))=true:=by simpa using hlt
   obtain ⟨b,off,rfl,hb,hp⟩:=h.cells (by omega);have hget:L[k]?=some L[k]:=List.getElem?_eq_getElem hlt;have c0:=hp k _ hget;generalize hx:L[k]=x at *;have hs:=sumI_snoc hget;have b1:=HM.out k;have b2:=HM.out (k+1);rw [hs] at b2
   obtain ⟨S,hS⟩:∃ S,sumI (L.take k)=S:=⟨_,rfl⟩
   rw [hS] at b1 b2 hs;rw [hS];have HS:=hD hs;clear hs hS hget hx hp;go_wp2
   go_round
   case rel=>exact ⟨k+1,by omega,by go_num,by rw [HS.out]⟩
   case measure=>simp [intOf];omega
  ·have hd:decide ((k:Int)<(L.length:Int))=false:=by simp;omega
   have he:L.take k=L:=List.take_of_length_le (by omega);rw [he];clear he;go_wp2;go_ret;exact ⟨rfl,rfl⟩
end
section
theorem inRange_q (n a b:Int) (t:Bool) (w:World) (h:rng n a b=t):Calls Tryz.prog 61 #[.int .i64 n,.int .i64 a,.int .i64 b] w fun e w'=>e=.returned (.bool t)∧w=w':=by rw [<- h];exact inRange_any n a b w
theorem within_q (n a b:Int) (t:Bool) (w:World) (h:rng n a b=t):Calls Tryz.prog 83 #[.int .i64 n,.int .i64 a,.int .i64 b] w fun e w'=>e=.returned (.bool t)∧w=w':=by rw [<- h];exact within_any n a b w
theorem shift_t (n:Int) (t:Bool) (w:World) (h:shB n=t):Calls Tryz.prog 164 #[.int .i64 n] w fun e w'=>e=.returned (.bool t)∧w=w':=by
 go_enter Tryz.func164,Tryz.ntmps164
 go_wp2_with (go_at_call 83;refine (within_q _ _ _ t _ h).mono ?_;rintro e w' ⟨rfl,rfl⟩)
 go_ret;exact ⟨rfl,rfl⟩
theorem rel_t (n:Int) (t:Bool) (w:World) (h:reB n=t):Calls Tryz.prog 165 #[.int .i64 n] w fun e w'=>e=.returned (.bool t)∧w=w':=by
 go_enter Tryz.func165,Tryz.ntmps165
 go_wp2_with (go_at_call 83;refine (within_q _ _ _ t _ h).mono ?_;rintro e w' ⟨rfl,rfl⟩)
 go_ret;exact ⟨rfl,rfl⟩
theorem anch_t (k:Int) (t:Bool) (w:World) (h:rng k 0 8=t):Calls Tryz.prog 162 #[.int .i64 k] w fun e w'=>e=.returned (.bool t)∧w=w':=by
 go_enter Tryz.func162,Tryz.ntmps162
 go_wp2_with (go_at_call 83;refine (within_q _ _ _ t _ h).mono ?_;rintro e w' ⟨rfl,rfl⟩)
 go_ret;exact ⟨rfl,rfl⟩
theorem sanch_t (k:Int) (t:Bool) (w:World) (h:rng k 0 8=t):Calls Tryz.prog 151 #[.int .i64 k] w fun e w'=>e=.returned (.bool t)∧w=w':=by
 go_enter Tryz.func151,Tryz.ntmps151
 go_wp2_with (go_at_call 61;refine (inRange_q _ _ _ t _ h).mono ?_;rintro e w' ⟨rfl,rfl⟩)
 go_ret;exact ⟨rfl,rfl⟩
theorem all_snocQ {f:Int→Bool} {L:List Int} {k:Nat} {p:Int} (h:L[k]?=some p):(L.take (k+1)).all f=((L.take k).all f && f p):=by
 have hk:k<L.length:=(List.getElem?_eq_some_iff.1 h).1;have e:L[k]=p:=(List.getElem?_eq_some_iff.1 h).2;rw [List.take_succ_eq_append_getElem hk,e]
 simp
theorem new_q (w:World) (o:Obj):(w.alloc o).heap[w.heap.size]?=some o:=by
 show (w.heap.push o)[w.heap.size]?=some o
 simp
theorem newq1 (w:World) (o o':Obj):((w.alloc o).alloc o').heap[w.heap.size+1]?=some o':=by
 have:=new_q (w.alloc o) o';rwa [World.size_alloc] at this
theorem newq2 (w:World) (o o' o2:Obj):(((w.alloc o).alloc o').alloc o2).heap[w.heap.size+1+1]?=some o2:=by
 have:=newq1 (w.alloc o) o' o2;rwa [World.size_alloc] at this
theorem cl_q {w:World} {b:Nat} {cs:Array Value} {T:TypeId} {fz:Nat × Nat} (h:w.heap[b]?=some (.cells cs T fz)) (i:Nat):w.cell? ⟨b,i,none⟩=cs[i]?:=by simp [World.cell?,h]
theorem nv4 {w:World} {g:Nat} {a b c d:Int} {T:TypeId} {fz:Nat × Nat} (h:w.heap[g]?=some (.cells #[.int .i64 a,.int .i64 b,.int .i64 c,.int .i64 d] T fz)):NV w (some ⟨g,0,none⟩) [a,b,c,d] :=
 ⟨fun _=>⟨g,0,rfl,(gE h).1,fun i x hx=>by
  rw [Nat.zero_add,cl_q h]
  match i,hx with
  | 0,hx=>simpa using hx
  | 1,hx=>simpa using hx
  | 2,hx=>simpa using hx
  | 3,hx=>simpa using hx
  | i+4,hx=>simp at hx⟩⟩
theorem allSh (A:Option Addr) (c:Nat) (L:List Int) (t:Bool) (w:World) (h:NV w A L) (hL:L.length≤1048576) (ht:L.all shB=t) :
  Calls Tryz.prog 163 #[.slice A L.length c,.func (.func 164) #[] #[]] w fun e w'=>e=.returned (.bool t)∧w=w':=by
 subst ht
 go_enter Tryz.func163,Tryz.ntmps163
 go_wp2_with fail
 go_loop [9] (fun i=>∃ k:Nat,k≤L.length∧i=.int .i64 k∧(L.take k).all shB=true) (fun i=>L.length - (intOf i).toNat)
 case atStart=>exact ⟨0,by omega,rfl,rfl⟩
 case round =>
  obtain ⟨k,hk,rfl,hok⟩:=hrel
  by_cases hlt:k<L.length
  ·have hd:decide ((k:Int)<(L.length:Int))=true:=by simpa using hlt
   obtain ⟨b,off,rfl,hb,hp⟩:=h.cells (by omega);have hget:L[k]?=some L[k]:=List.getElem?_eq_getElem hlt;have c0:=hp k _ hget;generalize hx:L[k]=p at *;have HG:=hD hget;have HX:=hD hx;have HO:=hD hok;have HP:=hD hp;clear hget hx hok hp
   cases hv:shB p
   all_goals
    have Hv:=hD hv;clear hv
    go_wp2_with fail
    first | (with_reducible refine (shift_t p false _ Hv.out).mono ?_) | (with_reducible refine (shift_t p true _ Hv.out).mono ?_)
    rintro e w1 ⟨rfl,rfl⟩;go_wp2
   ·go_ret
    exact ⟨ret_bool (by
     symm
     rw [Bool.eq_false_iff];intro hh;have h1:=List.all_eq_true.1 hh p (List.mem_of_getElem? HG.out);rw [Hv.out] at h1
     cases h1),rfl⟩
   ·go_round
    case rel=>exact ⟨k+1,by omega,by go_num,by rw [all_snocQ HG.out,HO.out,Hv.out];rfl⟩
    case measure=>simp [intOf];omega
  ·have hd:decide ((k:Int)<(L.length:Int))=false:=by simp;omega
   have he:L.take k=L:=List.take_of_length_le (by omega);rw [he] at hok;have HO:=hD hok;clear hok he;go_wp2;go_ret;exact ⟨ret_bool HO.out.symm,rfl⟩
theorem allRe (A:Option Addr) (c:Nat) (L:List Int) (t:Bool) (w:World) (h:NV w A L) (hL:L.length≤1048576) (ht:L.all reB=t) :
  Calls Tryz.prog 163 #[.slice A L.length c,.func (.func 165) #[] #[]] w fun e w'=>e=.returned (.bool t)∧w=w':=by
 subst ht
 go_enter Tryz.func163,Tryz.ntmps163
 go_wp2_with fail
 go_loop [9] (fun i=>∃ k:Nat,k≤L.length∧i=.int .i64 k∧(L.take k).all reB=true) (fun i=>L.length - (intOf i).toNat)
 case atStart=>exact ⟨0,by omega,rfl,rfl⟩
 case round =>
  obtain ⟨k,hk,rfl,hok⟩:=hrel
  by_cases hlt:k<L.length
  ·have hd:decide ((k:Int)<(L.length:Int))=true:=by simpa using hlt
   obtain ⟨b,off,rfl,hb,hp⟩:=h.cells (by omega);have hget:L[k]?=some L[k]:=List.getElem?_eq_getElem hlt;have c0:=hp k _ hget;generalize hx:L[k]=p at *;have HG:=hD hget;have HX:=hD hx;have HO:=hD hok;have HP:=hD hp;clear hget hx hok hp
   cases hv:reB p
   all_goals
    have Hv:=hD hv;clear hv
    go_wp2_with fail
    first | (with_reducible refine (rel_t p false _ Hv.out).mono ?_) | (with_reducible refine (rel_t p true _ Hv.out).mono ?_)
    rintro e w1 ⟨rfl,rfl⟩;go_wp2
   ·go_ret
    exact ⟨ret_bool (by
     symm
     rw [Bool.eq_false_iff];intro hh;have h1:=List.all_eq_true.1 hh p (List.mem_of_getElem? HG.out);rw [Hv.out] at h1
     cases h1),rfl⟩
   ·go_round
    case rel=>exact ⟨k+1,by omega,by go_num,by rw [all_snocQ HG.out,HO.out,Hv.out];rfl⟩
    case measure=>simp [intOf];omega
  ·have hd:decide ((k:Int)<(L.length:Int))=false:=by simp;omega
   have he:L.take k=L:=List.take_of_length_le (by omega);rw [he] at hok;have HO:=hD hok;clear hok he;go_wp2;go_ret;exact ⟨ret_bool HO.out.symm,rfl⟩
theorem allSh4 {g:Nat} {x y z u:Int} {T:TypeId} {fz:Nat × Nat} (t:Bool) (w:World) (h:w.heap[g]?=some (.cells #[.int .i64 x,.int .i64 y,.int .i64 z,.int .i64 u] T fz)) (ht:[x,y,z,u].all shB=t) :
  Calls Tryz.prog 163 #[.slice (some ⟨g,0,none⟩) 4 4,.func (.func 164) #[] #[]] w fun e w'=>e=.returned (.bool t)∧w=w':=allSh _ 4 [x,y,z,u] t w (nv4 h) (by simp) ht
theorem allRe4 {g:Nat} {x y z u:Int} {T:TypeId} {fz:Nat × Nat} (t:Bool) (w:World) (h:w.heap[g]?=some (.cells #[.int .i64 x,.int .i64 y,.int .i64 z,.int .i64 u] T fz)) (ht:[x,y,z,u].all reB=t) :
  Calls Tryz.prog 163 #[.slice (some ⟨g,0,none⟩) 4 4,.func (.func 165) #[] #[]] w fun e w'=>e=.returned (.bool t)∧w=w':=allRe _ 4 [x,y,z,u] t w (nv4 h) (by simp) ht
end
end Go.Proofs.YtenckjdiggaonaaGreat
