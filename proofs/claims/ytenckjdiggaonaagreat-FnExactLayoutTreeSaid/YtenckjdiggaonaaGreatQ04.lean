import Derived.Test.YtenckjdiggaonaaGreatQ03
import Derived.LoopTactic
set_option linter.unusedVariables false
set_option maxRecDepth 100000
namespace Go.Proofs.YtenckjdiggaonaaGreat
section
open Go.RowKit
set_option maxHeartbeats 2000000
def PreN (w:World) (z:Nat) (l:List Value):Prop:=∃ cs:Array Value,w.heap[z]?=some (.cells cs 84 (0,0))∧cs.size=34∧InS cs 0 l
theorem PreN.nil {w:World} {z:Nat} {cs:Array Value} (h:w.heap[z]?=some (.cells cs 84 (0,0))) (hs:cs.size=34):PreN w z []:=⟨cs,h,hs,fun j u hu=>by simp at hu⟩
theorem PreN.lt {w:World} {z:Nat} {l:List Value} (h:PreN w z l):z<w.heap.size:=by obtain ⟨cs,hh,_⟩:=h;exact ltS hh
theorem PreN.there {w:World} {z:Nat} {l:List Value} (h:PreN w z l) {o n:Nat} (hn:o+n≤34):w.there z o n:=by
 obtain ⟨cs,hh,hs,_⟩:=h
 exact thereB hh (by omega)
theorem PreN.cell {w:World} {z:Nat} {l:List Value} (h:PreN w z l) {i:Nat} (hi:i<34):∃ v,w.cell? ⟨z,i,none⟩=some v:=by
 obtain ⟨cs,hh,hs,_⟩:=h
 exact thereS hh (by omega)
theorem PreN.frz {w:World} {z:Nat} {l:List Value} (h:PreN w z l) (i:Nat):w.frozen? ⟨z,i,none⟩=false:=by
 obtain ⟨cs,hh,hs,_⟩:=h
 exact frozenS hh i
theorem PreN.keep {w w':World} {z:Nat} {l:List Value} (h:PreN w z l) (hb:w'.heap[z]?=w.heap[z]?):PreN w' z l:=by
 obtain ⟨cs,hh,hs,hi⟩:=h
 exact ⟨cs,hb.trans hh,hs,hi⟩
theorem InS_app {cs:Array Value} {l vs:List Value} (h:InS cs 0 l) (hs:l.length+vs.length≤cs.size):InS (wrAt cs l.length vs) 0 (l ++ vs):=fun j u hu=>by
 rw [Nat.zero_add]
 by_cases hj:j<l.length
 ·rw [List.getElem?_append_left hj] at hu
  rw [wrAt_lo _ _ _ _ hj]
  have:=h j u hu
  rwa [Nat.zero_add] at this
 ·rw [List.getElem?_append_right (by omega)] at hu
  have hl:=(List.getElem?_eq_some_iff.1 hu).1
  have:=wrAt_in vs cs l.length (j - l.length) hs hl
  rw [show l.length+(j - l.length)=j by omega] at this
  rw [this,hu]
theorem PreN.more {w:World} {z:Nat} {l vs:List Value} (h:PreN w z l) (hn:l.length+vs.length≤34):PreN (w.setCells z l.length vs) z (l ++ vs):=by
 obtain ⟨cs,hh,hs,hi⟩:=h
 exact ⟨_,heap_setCells vs l.length w cs hh,by rw [wrAt_size];exact hs,InS_app hi (by omega)⟩
theorem PreN.one {w:World} {z:Nat} {l:List Value} (h:PreN w z l) (k:Nat) (hk:k=l.length) (v:Value) (hn:k<34):PreN (w.setCell ⟨z,k,none⟩ v) z (l ++ [v]):=by
 subst hk;exact h.more (vs:=[v]) (by simp;omega)
theorem PreN.moreK {w:World} {z:Nat} {l:List Value} (h:PreN w z l) (k:Nat) (hk:k=l.length) (vs:List Value) (hn:k+vs.length≤34):PreN (w.setCells z k vs) z (l ++ vs):=by
 subst hk;exact h.more hn
theorem PreN.full {w:World} {z:Nat} {l:List Value} (h:PreN w z l) (hl:l.length=34):w.heap[z]?=some (.cells l.toArray 84 (0,0)):=by
 obtain ⟨cs,hh,hs,hi⟩:=h
 have e:cs=l.toArray:=by
  apply Array.ext
  ·simp [hs,hl]
  ·intro i h1 h2
   have:=hi i l[i] (List.getElem?_eq_getElem (by simpa using h2))
   rw [Nat.zero_add,Array.getElem?_eq_getElem h1] at this
   simpa using this
 rw [<- e];exact hh
theorem range_sub {w:World} {b o:Nat} {cs:List Value} (h:w.rangeAt b o cs) (A B C:List Value) (e:cs=A ++ (B ++ C)) (k:Nat) (hk:k=A.length):w.rangeAt b (o+k) B:=fun j v hj=>by
 subst hk
 have hl:=(List.getElem?_eq_some_iff.1 hj).1
 rw [Nat.add_assoc]
 exact h (A.length+j) v (by rw [e,List.getElem?_append_right (by omega),List.getElem?_append_left (by omega)];rw [show A.length+j - A.length=j by omega];exact hj)
theorem node_pk {w:World} {b o:Nat} {p:Nr} (h:w.rangeAt b o (valsNr p)):w.rangeAt b (o+7) [.int .i64 p.n.pk.w,.int .i64 p.n.pk.h,.int .i64 p.n.pk.s,.bool p.n.pk.fx,.bool p.n.pk.fy,.bool p.n.pk.ex,.int .i64 p.n.pk.an,.int .i64 p.n.pk.px,.int .i64 p.n.pk.py]:=range_sub h ((valsNr p).take 7) _ ((valsNr p).drop 16) rfl 7 rfl
theorem node_ce {w:World} {b o:Nat} {p:Nr} (h:w.rangeAt b o (valsNr p)):w.rangeAt b (o+16) [.int .i64 p.n.ce.co,.int .i64 p.n.ce.ro,.int .i64 p.n.ce.mc,.int .i64 p.n.ce.mr,.int .i64 p.n.ce.cw,.int .i64 p.n.ce.ch,.int .i64 p.n.ce.sk,.int .i64 p.n.ce.px,.int .i64 p.n.ce.py]:=range_sub h ((valsNr p).take 16) _ ((valsNr p).drop 25) rfl 16 rfl
theorem node_pl {w:World} {b o:Nat} {p:Nr} (h:w.rangeAt b o (valsNr p)):w.rangeAt b (o+25) [.int .i64 p.n.pl.x,.int .i64 p.n.pl.y,.int .i64 p.n.pl.rx,.int .i64 p.n.pl.ry,.int .i64 p.n.pl.ww,.int .i64 p.n.pl.hh,.int .i64 p.n.pl.qw,.int .i64 p.n.pl.qh,.int .i64 p.n.pl.an]:=range_sub h ((valsNr p).take 25) _ ((valsNr p).drop 34) rfl 25 rfl
theorem newS1T (w:World) (o o':Obj):((w.alloc o).alloc o').heap[w.heap.size+1]?=some o':=by have:=newS (w.alloc o) o';rwa [World.size_alloc] at this
theorem newS2T (w:World) (o o' o2:Obj):(((w.alloc o).alloc o').alloc o2).heap[w.heap.size+1+1]?=some o2:=by have:=newS ((w.alloc o).alloc o') o2;rwa [World.size_alloc,World.size_alloc] at this
theorem wrAt_all {cs:Array Value} {l:List Value} (h:cs.size=l.length):wrAt cs 0 l=l.toArray:=by
 apply Array.ext
 ·rw [wrAt_size];simp [h]
 ·intro i h1 h2
  have hi:i<l.length:=by simpa using h2
  have:=wrAt_in l cs 0 i (by omega) hi
  rw [Nat.zero_add,Array.getElem?_eq_getElem h1,List.getElem?_eq_getElem hi] at this
  simpa using this
def cpN (p:Nr) (g1 g2:Nat):Nr:=⟨p.n,some ⟨g1,0,none⟩,p.n.cs.length,some ⟨g2,0,none⟩,p.n.rs.length⟩
def CpN (lo:Nat) (w:World) (p q:Nr):Prop:=∃ g1 g2,q=cpN p g1 g2∧lo≤g1∧g1<g2∧LnB w g1 p.n.cs∧LnB w g2 p.n.rs
theorem CpN.keep {lo:Nat} {w w':World} {p q:Nr} (h:CpN lo w p q) (hb:Below w.heap.size w w'):CpN lo w' p q:=by
 obtain ⟨g1,g2,e,h1,h2,h3,h4⟩:=h
 exact ⟨g1,g2,e,h1,h2,h3.keep hb,h4.keep hb⟩
theorem CpN.but {lo z:Nat} {w w':World} {p q:Nr} (h:CpN lo w p q) (hg:w.grownBy w' (some z)) (hz:z<lo):CpN lo w' p q:=by
 obtain ⟨g1,g2,e,h1,h2,h3,h4⟩:=h
 exact ⟨g1,g2,e,h1,h2,h3.but hg (by omega),h4.but hg (by omega)⟩
theorem CpN.n {lo:Nat} {w:World} {p q:Nr} (h:CpN lo w p q):q.n=p.n:=by obtain ⟨g1,g2,rfl,_⟩:=h;rfl
theorem CpN.rd {lo:Nat} {w:World} {p q:Nr} (h:CpN lo w p q):RdN w q:=by
 obtain ⟨g1,g2,rfl,h1,h2,h3,h4⟩:=h
 exact ⟨h3.v,Nat.le_refl _,h4.v,Nat.le_refl _⟩
theorem pk_oneN (p:Nr):∀ v ∈ ([.int .i64 p.n.pk.w,.int .i64 p.n.pk.h,.int .i64 p.n.pk.s,.bool p.n.pk.fx,.bool p.n.pk.fy,.bool p.n.pk.ex,.int .i64 p.n.pk.an,.int .i64 p.n.pk.px,.int .i64 p.n.pk.py]:List Value),v.oneCell'=true:=by intro v hv;simp only [List.mem_cons,List.not_mem_nil,or_false] at hv;rcases hv with rfl | rfl | rfl | rfl | rfl | rfl | rfl | rfl | rfl <;> rfl
theorem ce_oneN (p:Nr):∀ v ∈ ([.int .i64 p.n.ce.co,.int .i64 p.n.ce.ro,.int .i64 p.n.ce.mc,.int .i64 p.n.ce.mr,.int .i64 p.n.ce.cw,.int .i64 p.n.ce.ch,.int .i64 p.n.ce.sk,.int .i64 p.n.ce.px,.int .i64 p.n.ce.py]:List Value),v.oneCell'=true:=by intro v hv;simp only [List.mem_cons,List.not_mem_nil,or_false] at hv;rcases hv with rfl | rfl | rfl | rfl | rfl | rfl | rfl | rfl | rfl <;> rfl
theorem pl_oneN (p:Nr):∀ v ∈ ([.int .i64 p.n.pl.x,.int .i64 p.n.pl.y,.int .i64 p.n.pl.rx,.int .i64 p.n.pl.ry,.int .i64 p.n.pl.ww,.int .i64 p.n.pl.hh,.int .i64 p.n.pl.qw,.int .i64 p.n.pl.qh,.int .i64 p.n.pl.an]:List Value),v.oneCell'=true:=by intro v hv;simp only [List.mem_cons,List.not_mem_nil,or_false] at hv;rcases hv with rfl | rfl | rfl | rfl | rfl | rfl | rfl | rfl | rfl <;> rfl
theorem toNode_v (p:Nr) (w:World) (h:RdN w p) (k1:p.n.cs.length≤1048576) (k2:p.n.rs.length≤1048576) :
  Calls Tryz.prog 82 #[.agg (valsNr p).toArray] w fun e w'=>(∃ q,e=.returned (.agg (valsNr q).toArray)∧CpN w.heap.size w' p q)∧Below w.heap.size w w':=by
 have HRD:=hD h
 clear h
 go_enter Tryz.func82,Tryz.ntmps82
 go_upto_region 2 with (fail)
 refine wp_genGG (fun W=>W.heap[w.heap.size]?=some (.cells (valsNr p).toArray 101 (0,0))∧(∃ cs:Array Value,W.heap[w.heap.size+1]?=some (.cells cs 84 (0,0))∧cs.size=34)∧PreN W (w.heap.size+1+1) []∧Below w.heap.size w W) ⟨(Below.heap_alloc _ _ w.heap.size (by simp;omega)).trans ((Below.heap_alloc _ _ w.heap.size (by simp)).trans (newS w _)),⟨_,(Below.heap_alloc _ _ (w.heap.size+1) (by simp)).trans (newS1T w _ _),rfl⟩,PreN.nil (newS2T w _ _ _) rfl,balloc (balloc (balloc (Below.refl _ _)))⟩ (fun W0 h0=>?_)
 obtain ⟨hx,h2,hz,hb⟩:=h0
 have HX:=hD hx
 have H2:=hD h2
 have HZ:=hD hz
 have HB:=hD hb
 clear hx h2 hz hb
 have s0:W0.cell? ⟨w.heap.size,0,none⟩=some (.int .i64 p.n.pa):=cellS HX.out 0
 obtain ⟨y0,z0⟩:=HZ.out.cell (i:=0) (by omega)
 have f0:=HZ.out.frz 0
 have lz:=HZ.out.lt
 go_upto_region 3 with (fail)
 refine wp_genGG (fun W=>W.heap[w.heap.size]?=some (.cells (valsNr p).toArray 101 (0,0))∧(∃ cs:Array Value,W.heap[w.heap.size+1]?=some (.cells cs 84 (0,0))∧cs.size=34)∧PreN W (w.heap.size+1+1) [.int .i64 p.n.pa]∧Below w.heap.size w W) ⟨(Below.heap_setCell _ _ _ w.heap.size (by simp;omega)).trans HX.out,(let ⟨cs,hc,hs⟩:=H2.out;⟨cs,(Below.heap_setCell _ _ _ (w.heap.size+1) (by simp)).trans hc,hs⟩),HZ.out.one 0 rfl _ (by omega),HB.out.setCell (p:=⟨w.heap.size+1+1,0,none⟩) (by simp;omega) _⟩ (fun W1 h0=>?_)
 clear HX H2 HZ HB s0 z0 f0 lz
 obtain ⟨hx,h2,hz,hb⟩:=h0
 have HX:=hD hx
 have H2:=hD h2
 have HZ:=hD hz
 have HB:=hD hb
 clear hx h2 hz hb
 have s1:W1.cell? ⟨w.heap.size,1,none⟩=some (.int .i64 p.n.ww):=cellS HX.out 1
 obtain ⟨y1,z1⟩:=HZ.out.cell (i:=1) (by omega)
 have f1:=HZ.out.frz 1
 have lz:=HZ.out.lt
 go_upto_region 4 with (fail)
 refine wp_genGG (fun W=>W.heap[w.heap.size]?=some (.cells (valsNr p).toArray 101 (0,0))∧(∃ cs:Array Value,W.heap[w.heap.size+1]?=some (.cells cs 84 (0,0))∧cs.size=34)∧PreN W (w.heap.size+1+1) [.int .i64 p.n.pa,.int .i64 p.n.ww]∧Below w.heap.size w W) ⟨(Below.heap_setCell _ _ _ w.heap.size (by simp;omega)).trans HX.out,(let ⟨cs,hc,hs⟩:=H2.out;⟨cs,(Below.heap_setCell _ _ _ (w.heap.size+1) (by simp)).trans hc,hs⟩),HZ.out.one 1 rfl _ (by omega),HB.out.setCell (p:=⟨w.heap.size+1+1,1,none⟩) (by simp;omega) _⟩ (fun W2 h0=>?_)
 clear HX H2 HZ HB s1 z1 f1 lz
 obtain ⟨hx,h2,hz,hb⟩:=h0
 have HX:=hD hx
 have H2:=hD h2
 have HZ:=hD hz
 have HB:=hD hb
 clear hx h2 hz hb
 have s2:W2.cell? ⟨w.heap.size,2,none⟩=some (.int .i64 p.n.hh):=cellS HX.out 2
 obtain ⟨y2,z2⟩:=HZ.out.cell (i:=2) (by omega)
 have f2:=HZ.out.frz 2
 have lz:=HZ.out.lt
 go_upto_region 5 with (fail)
 refine wp_genGG (fun W=>W.heap[w.heap.size]?=some (.cells (valsNr p).toArray 101 (0,0))∧(∃ cs:Array Value,W.heap[w.heap.size+1]?=some (.cells cs 84 (0,0))∧cs.size=34)∧PreN W (w.heap.size+1+1) [.int .i64 p.n.pa,.int .i64 p.n.ww,.int .i64 p.n.hh]∧Below w.heap.size w W) ⟨(Below.heap_setCell _ _ _ w.heap.size (by simp;omega)).trans HX.out,(let ⟨cs,hc,hs⟩:=H2.out;⟨cs,(Below.heap_setCell _ _ _ (w.heap.size+1) (by simp)).trans hc,hs⟩),HZ.out.one 2 rfl _ (by omega),HB.out.setCell (p:=⟨w.heap.size+1+1,2,none⟩) (by simp;omega) _⟩ (fun W3 h0=>?_)
 clear HX H2 HZ HB s2 z2 f2 lz
 obtain ⟨hx,h2,hz,hb⟩:=h0
 have HX:=hD hx
 have H2:=hD h2
 have HZ:=hD hz
 have HB:=hD hb
 clear hx h2 hz hb
 have s3:W3.cell? ⟨w.heap.size,3,none⟩=some (.bool p.n.ke):=cellS HX.out 3
 obtain ⟨y3,z3⟩:=HZ.out.cell (i:=3) (by omega)
 have f3:=HZ.out.frz 3
 have lz:=HZ.out.lt
 go_upto_region 6 with (fail)
 refine wp_genGG (fun W=>W.heap[w.heap.size]?=some (.cells (valsNr p).toArray 101 (0,0))∧(∃ cs:Array Value,W.heap[w.heap.size+1]?=some (.cells cs 84 (0,0))∧cs.size=34)∧PreN W (w.heap.size+1+1) [.int .i64 p.n.pa,.int .i64 p.n.ww,.int .i64 p.n.hh,.bool p.n.ke]∧Below w.heap.size w W) ⟨(Below.heap_setCell _ _ _ w.heap.size (by simp;omega)).trans HX.out,(let ⟨cs,hc,hs⟩:=H2.out;⟨cs,(Below.heap_setCell _ _ _ (w.heap.size+1) (by simp)).trans hc,hs⟩),HZ.out.one 3 rfl _ (by omega),HB.out.setCell (p:=⟨w.heap.size+1+1,3,none⟩) (by simp;omega) _⟩ (fun W4 h0=>?_)
 clear HX H2 HZ HB s3 z3 f3 lz
 obtain ⟨hx,h2,hz,hb⟩:=h0
 have HX:=hD hx
 have H2:=hD h2
 have HZ:=hD hz
 have HB:=hD hb
 clear hx h2 hz hb
 have s4:W4.cell? ⟨w.heap.size,4,none⟩=some (.int .i64 p.n.ki):=cellS HX.out 4
 obtain ⟨y4,z4⟩:=HZ.out.cell (i:=4) (by omega)
 have f4:=HZ.out.frz 4
 have lz:=HZ.out.lt
 go_upto_region 7 with (fail)
 refine wp_genGG (fun W=>W.heap[w.heap.size]?=some (.cells (valsNr p).toArray 101 (0,0))∧(∃ cs:Array Value,W.heap[w.heap.size+1]?=some (.cells cs 84 (0,0))∧cs.size=34)∧PreN W (w.heap.size+1+1) [.int .i64 p.n.pa,.int .i64 p.n.ww,.int .i64 p.n.hh,.bool p.n.ke,.int .i64 p.n.ki]∧Below w.heap.size w W) ⟨(Below.heap_setCell _ _ _ w.heap.size (by simp;omega)).trans HX.out,(let ⟨cs,hc,hs⟩:=H2.out;⟨cs,(Below.heap_setCell _ _ _ (w.heap.size+1) (by simp)).trans hc,hs⟩),HZ.out.one 4 rfl _ (by omega),HB.out.setCell (p:=⟨w.heap.size+1+1,4,none⟩) (by simp;omega) _⟩ (fun W5 h0=>?_)
 clear HX H2 HZ HB s4 z4 f4 lz
 obtain ⟨hx,h2,hz,hb⟩:=h0
 have HX:=hD hx
 have H2:=hD h2
 have HZ:=hD hz
 have HB:=hD hb
 clear hx h2 hz hb
 have s5:W5.cell? ⟨w.heap.size,5,none⟩=some (.slice p.ca p.n.cs.length p.cc):=cellS HX.out 5
 have lz:=HZ.out.lt
 go_wp2_with fail
 with_reducible refine (toLnS_any p.ca p.cc p.n.cs _ (HRD.out.c.keep HB.out) k1).mono ?_
 rintro e w6 ⟨rfl,hk,hb1⟩
 replace HX:=hD ((hb1.block _ (ltS HX.out)).trans HX.out)
 replace H2:=hD (let ⟨cs,hc,hs⟩:=H2.out;show ∃ cs:Array Value,w6.heap[w.heap.size+1]?=some (Obj.cells cs 84 (0,0))∧cs.size=34 from ⟨cs,(hb1.block _ (ltS hc)).trans hc,hs⟩)
 replace HZ:=hD (HZ.out.keep (hb1.block _ HZ.out.lt))
 replace HB:=hD (bkeep2 HB.out hb1)
 have HKN:=hD hk
 clear hk hb1 s5
 obtain ⟨y5,z5⟩:=HZ.out.cell (i:=5) (by omega)
 have f5:=HZ.out.frz 5
 have lz2:=HZ.out.lt
 go_upto_region 8 with (fail)
 refine wp_genGG (fun W=>W.heap[w.heap.size]?=some (.cells (valsNr p).toArray 101 (0,0))∧(∃ cs:Array Value,W.heap[w.heap.size+1]?=some (.cells cs 84 (0,0))∧cs.size=34)∧PreN W (w.heap.size+1+1) [.int .i64 p.n.pa,.int .i64 p.n.ww,.int .i64 p.n.hh,.bool p.n.ke,.int .i64 p.n.ki,.slice (some ⟨W5.heap.size,0,none⟩) p.n.cs.length p.n.cs.length]∧Below w.heap.size w W∧LnB W W5.heap.size p.n.cs) ⟨(Below.heap_setCell _ _ _ w.heap.size (by simp;omega)).trans HX.out,(let ⟨cs,hc,hs⟩:=H2.out;⟨cs,(Below.heap_setCell _ _ _ (w.heap.size+1) (by simp)).trans hc,hs⟩),HZ.out.one 5 rfl _ (by omega),HB.out.setCell (p:=⟨w.heap.size+1+1,5,none⟩) (by simp;omega) _,HKN.out.but (gsetS (greflS _ (w.heap.size+1+1)) 5 _) (by omega)⟩ (fun W7 h0=>?_)
 have LK0:=hD (show w.heap.size+1+1<W5.heap.size by omega)
 clear HX H2 HZ HB HKN z5 f5 lz lz2
 obtain ⟨hx,h2,hz,hb,hk0⟩:=h0
 have HX:=hD hx
 have H2:=hD h2
 have HZ:=hD hz
 have HB:=hD hb
 have HK0:=hD hk0
 clear hx h2 hz hb hk0
 have lk0:=HK0.out.lt
 have LKS0:=hD lk0
 clear lk0
 have s6:W7.cell? ⟨w.heap.size,6,none⟩=some (.slice p.ra p.n.rs.length p.rc):=cellS HX.out 6
 have lz:=HZ.out.lt
 go_wp2_with fail
 with_reducible refine (toLnS_any p.ra p.rc p.n.rs _ (HRD.out.r.keep HB.out) k2).mono ?_
 rintro e w8 ⟨rfl,hk,hb1⟩
 replace HX:=hD ((hb1.block _ (ltS HX.out)).trans HX.out)
 replace H2:=hD (let ⟨cs,hc,hs⟩:=H2.out;show ∃ cs:Array Value,w8.heap[w.heap.size+1]?=some (Obj.cells cs 84 (0,0))∧cs.size=34 from ⟨cs,(hb1.block _ (ltS hc)).trans hc,hs⟩)
 replace HZ:=hD (HZ.out.keep (hb1.block _ HZ.out.lt))
 replace HK0:=hD (HK0.out.keep hb1)
 replace HB:=hD (bkeep2 HB.out hb1)
 have HKN:=hD hk
 clear hk hb1 s6
 obtain ⟨y6,z6⟩:=HZ.out.cell (i:=6) (by omega)
 have f6:=HZ.out.frz 6
 have lz2:=HZ.out.lt
 go_upto_region 9 with (fail)
 have lk0:=LK0.out
 refine wp_genGG (fun W=>W.heap[w.heap.size]?=some (.cells (valsNr p).toArray 101 (0,0))∧(∃ cs:Array Value,W.heap[w.heap.size+1]?=some (.cells cs 84 (0,0))∧cs.size=34)∧PreN W (w.heap.size+1+1) [.int .i64 p.n.pa,.int .i64 p.n.ww,.int .i64 p.n.hh,.bool p.n.ke,.int .i64 p.n.ki,.slice (some ⟨W5.heap.size,0,none⟩) p.n.cs.length p.n.cs.length,.slice (some ⟨W7.heap.size,0,none⟩) p.n.rs.length p.n.rs.length]∧Below w.heap.size w W∧LnB W W5.heap.size p.n.cs∧LnB W W7.heap.size p.n.rs) ⟨(Below.heap_setCell _ _ _ w.heap.size (by simp;omega)).trans HX.out,(let ⟨cs,hc,hs⟩:=H2.out;⟨cs,(Below.heap_setCell _ _ _ (w.heap.size+1) (by simp)).trans hc,hs⟩),HZ.out.one 6 rfl _ (by omega),HB.out.setCell (p:=⟨w.heap.size+1+1,6,none⟩) (by simp;omega) _,HK0.out.but (gsetS (greflS _ (w.heap.size+1+1)) 6 _) (by omega),HKN.out.but (gsetS (greflS _ (w.heap.size+1+1)) 6 _) (by omega)⟩ (fun W9 h0=>?_)
 have LK1:=hD (show w.heap.size+1+1<W7.heap.size by omega)
 clear HX H2 HZ HB HKN HK0 z6 f6 lz lz2 lk0
 obtain ⟨hx,h2,hz,hb,hk0,hk1⟩:=h0
 have HX:=hD hx
 have H2:=hD h2
 have HZ:=hD hz
 have HB:=hD hb
 have HK0:=hD hk0
 have HK1:=hD hk1
 clear hx h2 hz hb hk0 hk1
 have lk1:=HK1.out.lt
 have LKS1:=hD lk1
 clear lk1
 have hr:=node_pk (nodeAt HX.out)
 simp only [Nat.zero_add] at hr
 have HR:=hD hr
 have lz:=HZ.out.lt
 clear hr
 go_wp2_with (refine wpList_load_mid rfl 97 _ rfl w.heap.size 7 rfl [.int .i64 p.n.pk.w,.int .i64 p.n.pk.h,.int .i64 p.n.pk.s,.bool p.n.pk.fx,.bool p.n.pk.fy,.bool p.n.pk.ex,.int .i64 p.n.pk.an,.int .i64 p.n.pk.px,.int .i64 p.n.pk.py] _ HR.out Tryz.underlying97 rfl (by kernel_rfl) ?_)
 with_reducible refine (toPack_any _ _ _ _ _ _ _ _ _ _).mono ?_
 rintro e w10 ⟨rfl,hb1⟩
 replace HX:=hD ((hb1.block _ (ltS HX.out)).trans HX.out)
 replace H2:=hD (let ⟨cs,hc,hs⟩:=H2.out;show ∃ cs:Array Value,w10.heap[w.heap.size+1]?=some (Obj.cells cs 84 (0,0))∧cs.size=34 from ⟨cs,(hb1.block _ (ltS hc)).trans hc,hs⟩)
 replace HZ:=hD (HZ.out.keep (hb1.block _ HZ.out.lt))
 replace HK0:=hD (HK0.out.keep hb1)
 replace HK1:=hD (HK1.out.keep hb1)
 replace HB:=hD (bkeep2 HB.out hb1)
 clear hb1 HR
 go_upto_region 10 with (refine wpList_store_mid rfl 78 _ _ rfl (w.heap.size+1+1) 7 #[.int .i64 p.n.pk.w,.int .i64 p.n.pk.h,.int .i64 p.n.pk.s,.bool p.n.pk.fx,.bool p.n.pk.fy,.bool p.n.pk.ex,.int .i64 p.n.pk.an,.int .i64 p.n.pk.px,.int .i64 p.n.pk.py] rfl rfl (HZ.out.there (by simp)) (by kernel_rfl) (all_oneCell_toArray (pk_oneN p)) ?_)
 refine wp_genGG (fun W=>W.heap[w.heap.size]?=some (.cells (valsNr p).toArray 101 (0,0))∧(∃ cs:Array Value,W.heap[w.heap.size+1]?=some (.cells cs 84 (0,0))∧cs.size=34)∧PreN W (w.heap.size+1+1) [.int .i64 p.n.pa,.int .i64 p.n.ww,.int .i64 p.n.hh,.bool p.n.ke,.int .i64 p.n.ki,.slice (some ⟨W5.heap.size,0,none⟩) p.n.cs.length p.n.cs.length,.slice (some ⟨W7.heap.size,0,none⟩) p.n.rs.length p.n.rs.length,.int .i64 p.n.pk.w,.int .i64 p.n.pk.h,.int .i64 p.n.pk.s,.bool p.n.pk.fx,.bool p.n.pk.fy,.bool p.n.pk.ex,.int .i64 p.n.pk.an,.int .i64 p.n.pk.px,.int .i64 p.n.pk.py]∧Below w.heap.size w W∧LnB W W5.heap.size p.n.cs∧LnB W W7.heap.size p.n.rs) ⟨(heap_setCells_ne (by omega) _ _ _).trans HX.out,(let ⟨cs,hc,hs⟩:=H2.out;⟨cs,(heap_setCells_ne (by omega) _ _ _).trans hc,hs⟩),HZ.out.moreK 7 rfl _ (by simp),below_setCells (by omega) _ _ _ HB.out,HK0.out.but (grown_setCells _ _ _ (greflS _ (w.heap.size+1+1))) (by have:=LK0.out;omega),HK1.out.but (grown_setCells _ _ _ (greflS _ (w.heap.size+1+1))) (by have:=LK1.out;omega)⟩ (fun W11 h0=>?_)
 clear HX H2 HZ HB HK0 HK1 lz
 obtain ⟨hx,h2,hz,hb,hk0,hk1⟩:=h0
 have HX:=hD hx
 have H2:=hD h2
 have HZ:=hD hz
 have HB:=hD hb
 have HK0:=hD hk0
 have HK1:=hD hk1
 clear hx h2 hz hb hk0 hk1
 have hr:=node_ce (nodeAt HX.out)
 simp only [Nat.zero_add] at hr
 have HR:=hD hr
 have lz:=HZ.out.lt
 clear hr
 go_wp2_with (refine wpList_load_mid rfl 98 _ rfl w.heap.size 16 rfl [.int .i64 p.n.ce.co,.int .i64 p.n.ce.ro,.int .i64 p.n.ce.mc,.int .i64 p.n.ce.mr,.int .i64 p.n.ce.cw,.int .i64 p.n.ce.ch,.int .i64 p.n.ce.sk,.int .i64 p.n.ce.px,.int .i64 p.n.ce.py] _ HR.out Tryz.underlying98 rfl (by kernel_rfl) ?_)
 with_reducible refine (toCe_v p.n.ce _).mono ?_
 rintro e w12 ⟨rfl,hb1⟩
 replace HX:=hD ((hb1.block _ (ltS HX.out)).trans HX.out)
 replace H2:=hD (let ⟨cs,hc,hs⟩:=H2.out;show ∃ cs:Array Value,w12.heap[w.heap.size+1]?=some (Obj.cells cs 84 (0,0))∧cs.size=34 from ⟨cs,(hb1.block _ (ltS hc)).trans hc,hs⟩)
 replace HZ:=hD (HZ.out.keep (hb1.block _ HZ.out.lt))
 replace HK0:=hD (HK0.out.keep hb1)
 replace HK1:=hD (HK1.out.keep hb1)
 replace HB:=hD (bkeep2 HB.out hb1)
 clear hb1 HR
 go_upto_region 11 with (refine wpList_store_mid rfl 80 _ _ rfl (w.heap.size+1+1) 16 #[.int .i64 p.n.ce.co,.int .i64 p.n.ce.ro,.int .i64 p.n.ce.mc,.int .i64 p.n.ce.mr,.int .i64 p.n.ce.cw,.int .i64 p.n.ce.ch,.int .i64 p.n.ce.sk,.int .i64 p.n.ce.px,.int .i64 p.n.ce.py] rfl rfl (HZ.out.there (by simp)) (by kernel_rfl) (all_oneCell_toArray (ce_oneN p)) ?_)
 refine wp_genGG (fun W=>W.heap[w.heap.size]?=some (.cells (valsNr p).toArray 101 (0,0))∧(∃ cs:Array Value,W.heap[w.heap.size+1]?=some (.cells cs 84 (0,0))∧cs.size=34)∧PreN W (w.heap.size+1+1) [.int .i64 p.n.pa,.int .i64 p.n.ww,.int .i64 p.n.hh,.bool p.n.ke,.int .i64 p.n.ki,.slice (some ⟨W5.heap.size,0,none⟩) p.n.cs.length p.n.cs.length,.slice (some ⟨W7.heap.size,0,none⟩) p.n.rs.length p.n.rs.length,.int .i64 p.n.pk.w,.int .i64 p.n.pk.h,.int .i64 p.n.pk.s,.bool p.n.pk.fx,.bool p.n.pk.fy,.bool p.n.pk.ex,.int .i64 p.n.pk.an,.int .i64 p.n.pk.px,.int .i64 p.n.pk.py,.int .i64 p.n.ce.co,.int .i64 p.n.ce.ro,.int .i64 p.n.ce.mc,.int .i64 p.n.ce.mr,.int .i64 p.n.ce.cw,.int .i64 p.n.ce.ch,.int .i64 p.n.ce.sk,.int .i64 p.n.ce.px,.int .i64 p.n.ce.py]∧Below w.heap.size w W∧LnB W W5.heap.size p.n.cs∧LnB W W7.heap.size p.n.rs) ⟨(heap_setCells_ne (by omega) _ _ _).trans HX.out,(let ⟨cs,hc,hs⟩:=H2.out;⟨cs,(heap_setCells_ne (by omega) _ _ _).trans hc,hs⟩),HZ.out.moreK 16 rfl _ (by simp),below_setCells (by omega) _ _ _ HB.out,HK0.out.but (grown_setCells _ _ _ (greflS _ (w.heap.size+1+1))) (by have:=LK0.out;omega),HK1.out.but (grown_setCells _ _ _ (greflS _ (w.heap.size+1+1))) (by have:=LK1.out;omega)⟩ (fun W13 h0=>?_)
 clear HX H2 HZ HB HK0 HK1 lz
 obtain ⟨hx,h2,hz,hb,hk0,hk1⟩:=h0
 have HX:=hD hx
 have H2:=hD h2
 have HZ:=hD hz
 have HB:=hD hb
 have HK0:=hD hk0
 have HK1:=hD hk1
 clear hx h2 hz hb hk0 hk1
 have hr:=node_pl (nodeAt HX.out)
 simp only [Nat.zero_add] at hr
 have HR:=hD hr
 have lz:=HZ.out.lt
 clear hr
 go_wp2_with (refine wpList_load_mid rfl 99 _ rfl w.heap.size 25 rfl [.int .i64 p.n.pl.x,.int .i64 p.n.pl.y,.int .i64 p.n.pl.rx,.int .i64 p.n.pl.ry,.int .i64 p.n.pl.ww,.int .i64 p.n.pl.hh,.int .i64 p.n.pl.qw,.int .i64 p.n.pl.qh,.int .i64 p.n.pl.an] _ HR.out Tryz.underlying99 rfl (by kernel_rfl) ?_)
 with_reducible refine (toPlace_v p.n.pl _).mono ?_
 rintro e w14 ⟨rfl,hb1⟩
 replace HX:=hD ((hb1.block _ (ltS HX.out)).trans HX.out)
 replace H2:=hD (let ⟨cs,hc,hs⟩:=H2.out;show ∃ cs:Array Value,w14.heap[w.heap.size+1]?=some (Obj.cells cs 84 (0,0))∧cs.size=34 from ⟨cs,(hb1.block _ (ltS hc)).trans hc,hs⟩)
 replace HZ:=hD (HZ.out.keep (hb1.block _ HZ.out.lt))
 replace HK0:=hD (HK0.out.keep hb1)
 replace HK1:=hD (HK1.out.keep hb1)
 replace HB:=hD (bkeep2 HB.out hb1)
 clear hb1 HR
 go_upto_region 12 with (refine wpList_store_mid rfl 82 _ _ rfl (w.heap.size+1+1) 25 #[.int .i64 p.n.pl.x,.int .i64 p.n.pl.y,.int .i64 p.n.pl.rx,.int .i64 p.n.pl.ry,.int .i64 p.n.pl.ww,.int .i64 p.n.pl.hh,.int .i64 p.n.pl.qw,.int .i64 p.n.pl.qh,.int .i64 p.n.pl.an] rfl rfl (HZ.out.there (by simp)) (by kernel_rfl) (all_oneCell_toArray (pl_oneN p)) ?_)
 refine wp_genGG (fun W=>W.heap[w.heap.size]?=some (.cells (valsNr p).toArray 101 (0,0))∧(∃ cs:Array Value,W.heap[w.heap.size+1]?=some (.cells cs 84 (0,0))∧cs.size=34)∧PreN W (w.heap.size+1+1) [.int .i64 p.n.pa,.int .i64 p.n.ww,.int .i64 p.n.hh,.bool p.n.ke,.int .i64 p.n.ki,.slice (some ⟨W5.heap.size,0,none⟩) p.n.cs.length p.n.cs.length,.slice (some ⟨W7.heap.size,0,none⟩) p.n.rs.length p.n.rs.length,.int .i64 p.n.pk.w,.int .i64 p.n.pk.h,.int .i64 p.n.pk.s,.bool p.n.pk.fx,.bool p.n.pk.fy,.bool p.n.pk.ex,.int .i64 p.n.pk.an,.int .i64 p.n.pk.px,.int .i64 p.n.pk.py,.int .i64 p.n.ce.co,.int .i64 p.n.ce.ro,.int .i64 p.n.ce.mc,.int .i64 p.n.ce.mr,.int .i64 p.n.ce.cw,.int .i64 p.n.ce.ch,.int .i64 p.n.ce.sk,.int .i64 p.n.ce.px,.int .i64 p.n.ce.py,.int .i64 p.n.pl.x,.int .i64 p.n.pl.y,.int .i64 p.n.pl.rx,.int .i64 p.n.pl.ry,.int .i64 p.n.pl.ww,.int .i64 p.n.pl.hh,.int .i64 p.n.pl.qw,.int .i64 p.n.pl.qh,.int .i64 p.n.pl.an]∧Below w.heap.size w W∧LnB W W5.heap.size p.n.cs∧LnB W W7.heap.size p.n.rs) ⟨(heap_setCells_ne (by omega) _ _ _).trans HX.out,(let ⟨cs,hc,hs⟩:=H2.out;⟨cs,(heap_setCells_ne (by omega) _ _ _).trans hc,hs⟩),HZ.out.moreK 25 rfl _ (by simp),below_setCells (by omega) _ _ _ HB.out,HK0.out.but (grown_setCells _ _ _ (greflS _ (w.heap.size+1+1))) (by have:=LK0.out;omega),HK1.out.but (grown_setCells _ _ _ (greflS _ (w.heap.size+1+1))) (by have:=LK1.out;omega)⟩ (fun W15 h0=>?_)
 clear HX H2 HZ HB HK0 HK1 lz
 obtain ⟨hx,h2,hz,hb,hk0,hk1⟩:=h0
 have HX:=hD hx
 have H2:=hD h2
 have HZ:=hD hz
 have HB:=hD hb
 have HK0:=hD hk0
 have HK1:=hD hk1
 clear hx h2 hz hb hk0 hk1
 have hq:W15.heap[w.heap.size+1+1]?=some (.cells (valsNr (cpN p W5.heap.size W7.heap.size)).toArray 84 (0,0)):=HZ.out.full rfl
 obtain ⟨c2,hc2,hs2⟩:=H2.out
 have HQ:=hD hq
 have HC2:=hD hc2
 have HS2:=hD hs2
 clear hq hc2 hs2 H2
 go_wp2_with (first | (refine ldN _ (cpN p W5.heap.size W7.heap.size) (w.heap.size+1+1) 0 rfl rfl rfl (nodeAt HQ.out) ?_) | (refine stN _ _ (cpN p W5.heap.size W7.heap.size) (w.heap.size+1) 0 rfl rfl rfl rfl HC2.out (by rw [HS2.out];omega) ?_))
 have hend:=heap_setCells (valsNr (cpN p W5.heap.size W7.heap.size)) 0 _ _ HC2.out
 have hfull:wrAt c2 0 (valsNr (cpN p W5.heap.size W7.heap.size))=(valsNr (cpN p W5.heap.size W7.heap.size)).toArray:=wrAt_all (by rw [HS2.out];rfl)
 rw [hfull] at hend
 have HE:=hD hend
 clear hend hfull
 refine bp_genG (fun W=>W.heap[w.heap.size+1]?=some (.cells (valsNr (cpN p W5.heap.size W7.heap.size)).toArray 84 (0,0))∧Below w.heap.size w W∧CpN w.heap.size W p (cpN p W5.heap.size W7.heap.size)) ⟨HE.out,below_setCells (by omega) _ _ _ HB.out,⟨_,_,rfl,by have:=LK0.out;omega,by have:=LKS0.out;have:=LK1.out;omega,HK0.out.but (grown_setCells _ _ _ (greflS _ (w.heap.size+1))) (by have:=LK0.out;omega),HK1.out.but (grown_setCells _ _ _ (greflS _ (w.heap.size+1))) (by have:=LK1.out;omega)⟩⟩ ?_
 rintro W ⟨hq,hb,hcp⟩
 exact bodyPost_ret (results_cell_row rfl _ _ (w.heap.size+1) _ _ _ _ rfl hq Tryz.underlying84 rfl (by kernel_rfl)) rfl ⟨⟨_,rfl,hcp⟩,hb⟩
theorem madeNr:∃ f:Nat→Array Value,(∀ n,(f n).size=n*34)∧∀ (n:Nat) (w:World),n≤1048576→(Instr.makeSlice 28 (.int .i64 (n:Int)) (.int .i64 (n:Int))).run Tryz.prog w=.ok (.slice (some ⟨w.heap.size,0,none⟩) n n) (w.alloc (.cells (f n) 84)):=by
 have hinfo:(Tryz.prog.info? 84).map (fun i=>(i.size,i.bytes,i.zero.isSome))=some (34,288,true):=by kernel_rfl
 obtain ⟨i,z,hi,h1,h2,h3⟩:∃ (i:TypeInfo) (z:Value),Tryz.prog.info? 84=some i∧i.zero=some z∧i.size=34∧i.bytes=288:=by
  cases hq:Tryz.prog.info? 84 with
  | none=>rw [hq] at hinfo;cases hinfo
  | some i =>
   rw [hq] at hinfo
   simp only [Option.map_some,Option.some.injEq,Prod.mk.injEq] at hinfo
   obtain ⟨e1,e2,e3⟩:=hinfo
   obtain ⟨z,hz⟩:=Option.isSome_iff_exists.1 e3
   exact ⟨i,z,rfl,hz,e1,e2⟩
 refine ⟨fun n=>madeCells z.cells (n*34),fun n=>size_madeCells _ _,fun n w hn=>?_⟩
 have hr:=run_make (P:=Tryz.prog) w 28 84 i _ Tryz.underlying28 hi h1 .i64 .i64 n n (by omega) (Int.le_refl _) (by rw [h3];omega) (by omega)
 rw [h2] at hr
 simpa using hr
theorem ldNr {ops:Array Oper} {rest:List Oper} {op:Oper} {a:Act} {w:World} {Q:Exit→Act→World→Prop} {x:Operand} (p:Nr) (b o:Nat) (ho:op.op=.load 84 x) (hw:Region.wanted op (yielded ops a.tmps)=true) (hx:a.eval x=.pointer (some ⟨b,o,none⟩)) (hc:w.rangeAt b o (valsNr p)) (h:wpList Tryz.prog ops Q rest (a.put op.dst (.agg (valsNr p).toArray)) w):wpList Tryz.prog ops Q (op :: rest) a w :=
 ldW 84 x _ b o ho hw hx Tryz.underlying84 rfl (by kernel_rfl) hc h
theorem ldPack {ops:Array Oper} {rest:List Oper} {op:Oper} {a:Act} {w:World} {Q:Exit→Act→World→Prop} {x:Operand} (n:Nd) (b o:Nat) (ho:op.op=.load 78 x) (hw:Region.wanted op (yielded ops a.tmps)=true) (hx:a.eval x=.pointer (some ⟨b,o,none⟩)) (hc:w.rangeAt b o [.int .i64 n.pk.w,.int .i64 n.pk.h,.int .i64 n.pk.s,.bool n.pk.fx,.bool n.pk.fy,.bool n.pk.ex,.int .i64 n.pk.an,.int .i64 n.pk.px,.int .i64 n.pk.py]) (h:wpList Tryz.prog ops Q rest (a.put op.dst (.agg [.int .i64 n.pk.w,.int .i64 n.pk.h,.int .i64 n.pk.s,.bool n.pk.fx,.bool n.pk.fy,.bool n.pk.ex,.int .i64 n.pk.an,.int .i64 n.pk.px,.int .i64 n.pk.py].toArray)) w):wpList Tryz.prog ops Q (op :: rest) a w :=
 ldW 78 x _ b o ho hw hx Tryz.underlying78 rfl (by kernel_rfl) hc h
theorem ldPlace {ops:Array Oper} {rest:List Oper} {op:Oper} {a:Act} {w:World} {Q:Exit→Act→World→Prop} {x:Operand} (n:Nd) (b o:Nat) (ho:op.op=.load 82 x) (hw:Region.wanted op (yielded ops a.tmps)=true) (hx:a.eval x=.pointer (some ⟨b,o,none⟩)) (hc:w.rangeAt b o [.int .i64 n.pl.x,.int .i64 n.pl.y,.int .i64 n.pl.rx,.int .i64 n.pl.ry,.int .i64 n.pl.ww,.int .i64 n.pl.hh,.int .i64 n.pl.qw,.int .i64 n.pl.qh,.int .i64 n.pl.an]) (h:wpList Tryz.prog ops Q rest (a.put op.dst (.agg [.int .i64 n.pl.x,.int .i64 n.pl.y,.int .i64 n.pl.rx,.int .i64 n.pl.ry,.int .i64 n.pl.ww,.int .i64 n.pl.hh,.int .i64 n.pl.qw,.int .i64 n.pl.qh,.int .i64 n.pl.an].toArray)) w):wpList Tryz.prog ops Q (op :: rest) a w :=
 ldW 82 x _ b o ho hw hx Tryz.underlying82 rfl (by kernel_rfl) hc h
theorem ldCell {ops:Array Oper} {rest:List Oper} {op:Oper} {a:Act} {w:World} {Q:Exit→Act→World→Prop} {x:Operand} (n:Nd) (b o:Nat) (ho:op.op=.load 80 x) (hw:Region.wanted op (yielded ops a.tmps)=true) (hx:a.eval x=.pointer (some ⟨b,o,none⟩)) (hc:w.rangeAt b o [.int .i64 n.ce.co,.int .i64 n.ce.ro,.int .i64 n.ce.mc,.int .i64 n.ce.mr,.int .i64 n.ce.cw,.int .i64 n.ce.ch,.int .i64 n.ce.sk,.int .i64 n.ce.px,.int .i64 n.ce.py]) (h:wpList Tryz.prog ops Q rest (a.put op.dst (.agg [.int .i64 n.ce.co,.int .i64 n.ce.ro,.int .i64 n.ce.mc,.int .i64 n.ce.mr,.int .i64 n.ce.cw,.int .i64 n.ce.ch,.int .i64 n.ce.sk,.int .i64 n.ce.px,.int .i64 n.ce.py].toArray)) w):wpList Tryz.prog ops Q (op :: rest) a w :=
 ldW 80 x _ b o ho hw hx Tryz.underlying80 rfl (by kernel_rfl) hc h
theorem hrs {w:World} {b:Nat} {p:Nr} {T:TypeId} {fz:Nat × Nat} (h:w.heap[b]?=some (.cells (valsNr p).toArray T fz)):Go.RowKit.Hid (w.rangeAt b 0 (valsNr p))∧Go.RowKit.Hid (w.rangeAt b 7 [.int .i64 p.n.pk.w,.int .i64 p.n.pk.h,.int .i64 p.n.pk.s,.bool p.n.pk.fx,.bool p.n.pk.fy,.bool p.n.pk.ex,.int .i64 p.n.pk.an,.int .i64 p.n.pk.px,.int .i64 p.n.pk.py])∧Go.RowKit.Hid (w.rangeAt b 25 [.int .i64 p.n.pl.x,.int .i64 p.n.pl.y,.int .i64 p.n.pl.rx,.int .i64 p.n.pl.ry,.int .i64 p.n.pl.ww,.int .i64 p.n.pl.hh,.int .i64 p.n.pl.qw,.int .i64 p.n.pl.qh,.int .i64 p.n.pl.an])∧Go.RowKit.Hid (w.rangeAt b 16 [.int .i64 p.n.ce.co,.int .i64 p.n.ce.ro,.int .i64 p.n.ce.mc,.int .i64 p.n.ce.mr,.int .i64 p.n.ce.cw,.int .i64 p.n.ce.ch,.int .i64 p.n.ce.sk,.int .i64 p.n.ce.px,.int .i64 p.n.ce.py]) :=
 ⟨hD (nodeAt h),hD (by simpa only [Nat.zero_add] using node_pk (nodeAt h)),hD (by simpa only [Nat.zero_add] using node_pl (nodeAt h)),hD (by simpa only [Nat.zero_add] using node_ce (nodeAt h))⟩
theorem xs0_1_2_4_5_6_7_8_20_21 {w:World} {b:Nat} {p:Nr} {T:TypeId} {fz:Nat × Nat} (h:w.heap[b]?=some (.cells (valsNr p).toArray T fz)):w.cell? ⟨b,0,none⟩=some (.int .i64 p.n.pa)∧w.cell? ⟨b,1,none⟩=some (.int .i64 p.n.ww)∧w.cell? ⟨b,2,none⟩=some (.int .i64 p.n.hh)∧w.cell? ⟨b,4,none⟩=some (.int .i64 p.n.ki)∧w.cell? ⟨b,5,none⟩=some (.slice p.ca p.n.cs.length p.cc)∧w.cell? ⟨b,6,none⟩=some (.slice p.ra p.n.rs.length p.rc)∧w.cell? ⟨b,7,none⟩=some (.int .i64 p.n.pk.w)∧w.cell? ⟨b,8,none⟩=some (.int .i64 p.n.pk.h)∧w.cell? ⟨b,20,none⟩=some (.int .i64 p.n.ce.cw)∧w.cell? ⟨b,21,none⟩=some (.int .i64 p.n.ce.ch):=⟨cellS h 0,cellS h 1,cellS h 2,cellS h 4,cellS h 5,cellS h 6,cellS h 7,cellS h 8,cellS h 20,cellS h 21⟩
theorem xs1_2_4_7_8_20_21 {w:World} {b:Nat} {p:Nr} {T:TypeId} {fz:Nat × Nat} (h:w.heap[b]?=some (.cells (valsNr p).toArray T fz)):w.cell? ⟨b,1,none⟩=some (.int .i64 p.n.ww)∧w.cell? ⟨b,2,none⟩=some (.int .i64 p.n.hh)∧w.cell? ⟨b,4,none⟩=some (.int .i64 p.n.ki)∧w.cell? ⟨b,7,none⟩=some (.int .i64 p.n.pk.w)∧w.cell? ⟨b,8,none⟩=some (.int .i64 p.n.pk.h)∧w.cell? ⟨b,20,none⟩=some (.int .i64 p.n.ce.cw)∧w.cell? ⟨b,21,none⟩=some (.int .i64 p.n.ce.ch):=⟨cellS h 1,cellS h 2,cellS h 4,cellS h 7,cellS h 8,cellS h 20,cellS h 21⟩
end
section
open Go.RowKit
set_option maxHeartbeats 2000000
structure CpR (lo:Nat) (w:World) (R S:List Nr):Prop where
 len:S.length=R.length
 each:∀ (i:Nat) (p q:Nr),R[i]?=some p→S[i]?=some q→CpN lo w p q
 apart:∀ (i j:Nat) (q r:Nr),i<j→S[i]?=some q→S[j]?=some r→∀ a b:Addr,(q.ca=some a ∨ q.ra=some a)→(r.ca=some b ∨ r.ra=some b)→a.block<b.block
theorem CpR.keep {lo:Nat} {w w':World} {R S:List Nr} (h:CpR lo w R S) (hb:Below w.heap.size w w'):CpR lo w' R S:=⟨h.len,fun i p q hp hq=>(h.each i p q hp hq).keep hb,h.apart⟩
theorem CpR.but {lo z:Nat} {w w':World} {R S:List Nr} (h:CpR lo w R S) (hg:w.grownBy w' (some z)) (hz:z<lo):CpR lo w' R S:=⟨h.len,fun i p q hp hq=>(h.each i p q hp hq).but hg hz,h.apart⟩
theorem CpR.nil (lo:Nat) (w:World):CpR lo w [] []:=⟨rfl,fun i p q hp _=>by simp at hp,fun i j q r _ hq _=>by simp at hq⟩
theorem CpN.blk {lo:Nat} {w:World} {p q:Nr} (h:CpN lo w p q) {a:Addr} (ha:q.ca=some a ∨ q.ra=some a):lo≤a.block∧a.block<w.heap.size:=by
 obtain ⟨g1,g2,rfl,h1,h2,h3,h4⟩:=h
 have l3:=h3.lt
 have l4:=h4.lt
 rcases ha with ha | ha
 ·have e:(⟨g1,0,none⟩:Addr)=a:=Option.some.inj ha
  subst e;exact ⟨h1,l3⟩
 ·have e:(⟨g2,0,none⟩:Addr)=a:=Option.some.inj ha
  subst e;exact ⟨Nat.le_trans h1 (Nat.le_of_lt h2),l4⟩
theorem CpN.lo' {lo lo':Nat} {w:World} {p q:Nr} (h:CpN lo' w p q) (hl:lo≤lo'):CpN lo w p q:=by
 obtain ⟨g1,g2,e,h1,h2,h3,h4⟩:=h
 exact ⟨g1,g2,e,Nat.le_trans hl h1,h2,h3,h4⟩
theorem CpR.snoc {lo:Nat} {w w':World} {R S:List Nr} {k:Nat} {p q:Nr} (h:CpR lo w (R.take k) S) (hp:R[k]?=some p) (hb:Below w.heap.size w w') (hq:CpN w.heap.size w' p q) (hl:lo≤w.heap.size):CpR lo w' (R.take (k+1)) (S ++ [q]):=by
 have hk:k<R.length:=(List.getElem?_eq_some_iff.1 hp).1
 have hls:S.length=k:=by rw [h.len,List.length_take];omega
 refine ⟨by rw [List.length_append,hls,List.length_take];simp;omega,fun i p' q' h1 h2=>?_,fun i j q1 r1 hij h1 h2 a b ha hb'=>?_⟩
 ·rw [List.getElem?_take] at h1
  split at h1
  ·rename_i hi
   by_cases e:i=k
   ·subst e
    rw [hp] at h1
    rw [List.getElem?_append_right (by omega),hls] at h2
    simp at h1 h2
    subst h1 h2
    exact hq.lo' hl
   ·rw [List.getElem?_append_left (by omega)] at h2
    exact (h.each i p' q' (by rw [List.getElem?_take,if_pos (by omega)];exact h1) h2).keep hb
  ·cases h1
 ·have hj:=(List.getElem?_eq_some_iff.1 h2).1
  simp at hj
  by_cases e:j=k
  ·subst e
   rw [List.getElem?_append_right (by omega),hls] at h2
   simp at h2
   subst h2
   rw [List.getElem?_append_left (by omega)] at h1
   obtain ⟨p',hp'⟩:∃ p',(R.take j)[i]?=some p':=⟨_,List.getElem?_eq_getElem (by rw [<- h.len];omega)⟩
   have b1:=(h.each i p' q1 hp' h1).blk ha
   have b2:=hq.blk hb'
   omega
  ·rw [List.getElem?_append_left (by omega)] at h2
   rw [List.getElem?_append_left (by omega)] at h1
   exact h.apart i j q1 r1 hij h1 h2 a b ha hb'
theorem CpR.rd {lo:Nat} {w:World} {R S:List Nr} (h:CpR lo w R S):RdR w S:=fun q hq=>by
 obtain ⟨i,hi,hq⟩:=List.getElem_of_mem hq
 have h2:S[i]?=some q:=by rw [List.getElem?_eq_getElem hi,hq]
 have hi':i<R.length:=by rw [<- h.len];exact hi
 exact (h.each i _ q (List.getElem?_eq_getElem hi') h2).rd
theorem CpR.map {lo:Nat} {w:World} {R S:List Nr} (h:CpR lo w R S):S.map Nr.n=R.map Nr.n:=by
 apply List.ext_getElem?
 intro i
 rw [List.getElem?_map,List.getElem?_map]
 cases hp:R[i]? with
 | none =>
  have:=List.getElem?_eq_none_iff.1 hp
  rw [List.getElem?_eq_none (by rw [h.len];exact this)]
 | some p =>
  have hi:=(List.getElem?_eq_some_iff.1 hp).1
  have hi':i<S.length:=by rw [h.len];exact hi
  have hs:S[i]?=some S[i]:=List.getElem?_eq_getElem hi'
  rw [hs]
  simp only [Option.map_some]
  rw [(h.each i p _ hp hs).n]
theorem toNodeS_any (A:Option Addr) (c:Nat) (R:List Nr) (w:World) (h:NrV w A R) (hr:RdR w R) (hL:R.length≤1048576) (hk:∀ p ∈ R,p.n.cs.length≤1048576∧p.n.rs.length≤1048576) :
  Calls Tryz.prog 45 #[.slice A R.length c] w fun e w'=>(∃ S,e=.returned (.slice (some ⟨w.heap.size,0,none⟩) R.length R.length)∧NrB w' w.heap.size S∧CpR (w.heap.size+1) w' R S)∧Below w.heap.size w w':=by
 obtain ⟨f,hf,hmk0⟩:=madeNr
 have hmk:∀ w:World,(Instr.makeSlice 28 (.int .i64 (R.length:Int)) (.int .i64 (R.length:Int))).run Tryz.prog w=.ok (.slice (some ⟨w.heap.size,0,none⟩) R.length R.length) (w.alloc (.cells (f R.length) 84)):=fun w=>hmk0 R.length w hL
 have HRD:=hD hr
 have HKK:=hD hk
 clear hr hk
 go_enter Tryz.func45,Tryz.ntmps45
 go_wp2_with fail
 have HWW:Hid (∃ cs:Array Value,(w.alloc (.cells (f R.length) 84)).heap[w.heap.size]?=some (.cells cs 84 (0,0))∧cs.size=R.length*34∧∀ i p,i<0→([]:List Nr)[i]?=some p→InS cs (i*34) (valsNr p)):=hD ⟨_,newS _ _,hf _,fun i p hi=>absurd hi (by omega)⟩
 clear hmk hmk0 hf
 go_loopw [4] (fun i wr=>∃ (k:Nat) (S:List Nr),k≤R.length∧i=.int .i64 k∧(∃ cs:Array Value,wr.heap[w.heap.size]?=some (.cells cs 84 (0,0))∧cs.size=R.length*34∧∀ i p,i<k→S[i]?=some p→InS cs (i*34) (valsNr p))∧CpR (w.heap.size+1) wr (R.take k) S∧Below w.heap.size w wr∧w.heap.size+1≤wr.heap.size) (fun i _=>R.length - (intOf i).toNat)
 case atStart=>exact ⟨0,[],by omega,rfl,HWW.out,by simpa using CpR.nil _ _,balloc (Below.refl _ _),by simp⟩
 case round =>
  obtain ⟨k,S,hk,rfl,⟨cs,hh,hs,hc⟩,hcp,hB,hsz⟩:=hrel
  clear HWW
  by_cases hlt:k<R.length
  ·have hd:decide ((k:Int)<(R.length:Int))=true:=by simpa using hlt
   have hget:R[k]?=some R[k]:=List.getElem?_eq_getElem hlt
   obtain ⟨b,off,rfl,hb,hp⟩:=(h.keep hB).cells (by omega)
   have hL:=hp k _ hget
   have hrd:=(HRD.out.keep hB) _ (List.mem_of_getElem? hget)
   have hkk:=HKK.out _ (List.mem_of_getElem? hget)
   generalize R[k]=p at *
   have HLR:=hD hL
   have HG:=hD hget
   have HH:=hD hh
   have HS:=hD hs
   have HC:=hD hc
   have HB:=hD hB
   have HCP:=hD hcp
   have HSZ:=hD hsz
   clear hget hh hs hc hB hp hL hcp hsz
   obtain ⟨kk1,kk2⟩:=hkk
   go_wp2_with (refine ldL _ p b (off+k*34) rfl rfl rfl HLR.out ?_)
   with_reducible refine (toNode_v p _ hrd kk1 kk2).mono ?_
   rintro e w1 ⟨⟨q,rfl,hq⟩,hb1⟩
   have hlg:w.heap.size<wr.heap.size:=ltS HH.out
   have HK2:=hD (HCP.out.snoc HG.out hb1 hq HSZ.out)
   replace HH:=hD ((hb1.block _ hlg).trans HH.out)
   replace HB:=hD (bkeep2 HB.out hb1)
   have hs1:=hb1.size
   have HS1:=hD hs1
   clear hb1 hlg hrd hq HLR hs1
   have hsz:k*34+34≤cs.size:=by rw [HS.out];omega
   have E1:=hD (heap_setCells (valsNr q) (k*34) _ _ HH.out)
   have E2:=hD (below_setCells (Nat.le_refl _) (valsNr q) (k*34) _ HB.out)
   have hls:S.length=k:=by rw [HCP.out.len,List.length_take];omega
   have HLS:=hD hls
   clear hls
   go_simp
   go_step
   go_step
   go_step
   go_step
   refine stN (cs:=cs) (T:=84) (.tmp 21) (.tmp 20) q w.heap.size (k*34) rfl rfl rfl rfl HH.out hsz ?_
   go_wp2
   go_roundw
   case rel =>
    refine ⟨k+1,S ++ [q],by omega,by go_num,⟨_,E1.out,(wrAt_size _ _ _).trans HS.out,fun i r hi hr=>?_⟩,HK2.out.but (grown_setCells _ _ _ (greflS _ _)) (by omega),E2.out,by rw [size_setCellsT];have:=HS1.out;have:=HSZ.out;omega⟩
    by_cases e:i=k
    ·subst e
     rw [List.getElem?_append_right (by rw [HLS.out];omega),HLS.out] at hr
     simp at hr
     subst hr
     exact InS.write (by rw [valsNr_len];omega)
    ·rw [List.getElem?_append_left (by rw [HLS.out];omega)] at hr
     exact (HC.out i r (by omega) hr).keepS (.inl (by rw [valsNr_len];omega))
   case measure=>simp [intOf];omega
  ·have hd:decide ((k:Int)<(R.length:Int))=false:=decide_eq_false (by omega)
   obtain rfl:k=R.length:=by omega
   rw [List.take_length] at hcp
   have HR:=hD (show NrB wr w.heap.size S from ⟨cs,hh,by rw [hcp.len];exact hs,fun i p hp=>hc i p (by rw [<- hcp.len];exact (List.getElem?_eq_some_iff.1 hp).1) hp⟩)
   have HCP:=hD hcp
   have HB:=hD hB
   clear hh hs hc hB hcp
   go_wp2
   go_ret
   exact ⟨⟨S,rfl,HR.out,HCP.out⟩,HB.out⟩
def TB (lo:Nat) (w:World) (v:Value) (R S:List Nr):Prop:=∃ g:Nat,v=.agg #[.slice (some ⟨g,0,none⟩) R.length R.length]∧lo≤g∧NrB w g S∧CpR (g+1) w R S
theorem TB.keep {lo:Nat} {w w':World} {v:Value} {R S:List Nr} (h:TB lo w v R S) (hb:Below w.heap.size w w'):TB lo w' v R S:=by
 obtain ⟨g,e,h1,h2,h3⟩:=h
 exact ⟨g,e,h1,h2.keep hb,h3.keep hb⟩
theorem toTree_v (A:Option Addr) (c:Nat) (R:List Nr) (w:World) (h:NrV w A R) (hr:RdR w R) (hL:R.length≤1048576) (hk:∀ p ∈ R,p.n.cs.length≤1048576∧p.n.rs.length≤1048576) :
  Calls Tryz.prog 14 #[.agg #[.slice A R.length c]] w fun e w'=>(∃ v S,e=.returned v∧TB w.heap.size w' v R S)∧Below w.heap.size w w':=by
 have HA:=hD (And.intro h (And.intro hr hk))
 clear h hr hk
 go_enter Tryz.func14,Tryz.ntmps14
 go_upto_region 2 with (fail)
 refine wp_genGG (fun W=>W.heap[w.heap.size]?=some (.cells #[.slice A R.length c] 24 (0,0))∧W.heap[w.heap.size+1]?=some (.cells #[.slice none 0 0] 30 (0,0))∧W.heap[w.heap.size+1+1]?=some (.cells #[.slice none 0 0] 30 (0,0))∧Below w.heap.size w W) ⟨(Below.heap_alloc _ _ w.heap.size (by simp;omega)).trans ((Below.heap_alloc _ _ w.heap.size (by simp)).trans (newS w _)),(Below.heap_alloc _ _ (w.heap.size+1) (by simp)).trans (newS1T w _ _),newS2T w _ _ _,balloc (balloc (balloc (Below.refl _ _)))⟩ (fun W0 h0=>?_)
 obtain ⟨hx,hy,hz,hb⟩:=h0
 have HX:=hD hx
 have HY:=hD hy
 have HZ:=hD hz
 have HB:=hD hb
 clear hx hy hz hb
 have d:=cellS HX.out 0
 have lz:=ltS HZ.out
 go_wp2_with fail
 with_reducible refine (toNodeS_any A c R _ (HA.out.1.keep HB.out) (HA.out.2.1.keep HB.out) hL HA.out.2.2).mono ?_
 rintro e w1 ⟨⟨S,rfl,hk,hcp⟩,hb⟩
 clear d
 replace HX:=hD ((hb.block _ (gE HX.out).1).trans HX.out)
 replace HY:=hD ((hb.block _ (gE HY.out).1).trans HY.out)
 replace HZ:=hD ((hb.block _ (gE HZ.out).1).trans HZ.out)
 replace HB:=hD (bkeep2 HB.out hb)
 clear hb
 have HK:=hD hk
 have HCP:=hD hcp
 clear hk hcp
 have z:=cellS HZ.out 0
 have zf:=frozenS HZ.out 0
 have ne:W0.heap.size ≠ w.heap.size+1+1:=by omega
 have p:=putS (i:=0) HZ.out (.slice (some ⟨W0.heap.size,0,none⟩) R.length R.length)
 simp only [List.setIfInBounds_toArray,List.set_cons_succ,List.set_cons_zero] at p
 have HP:=hD p
 have HNE:=hD ne
 clear p ne
 go_upto_region 3 with (fail)
 refine wp_genGG (fun W=>W.heap[w.heap.size+1]?=some (.cells #[.slice none 0 0] 30 (0,0))∧W.heap[w.heap.size+1+1]?=some (.cells #[.slice (some ⟨W0.heap.size,0,none⟩) R.length R.length] 30 (0,0))∧Below w.heap.size w W∧NrB W W0.heap.size S∧CpR (W0.heap.size+1) W R S) ⟨(Below.heap_setCell _ _ _ (w.heap.size+1) (by simp)).trans HY.out,HP.out,HB.out.setCell (p:=⟨w.heap.size+1+1,0,none⟩) (by simp;omega) _,HK.out.but (gsetS (greflS _ (w.heap.size+1+1)) 0 _) HNE.out,HCP.out.but (gsetS (greflS _ (w.heap.size+1+1)) 0 _) (by omega)⟩ (fun W1 h0=>?_)
 clear HX HY HZ HB HP z zf HK HCP
 obtain ⟨hy,hz,hb,hk,hcp⟩:=h0
 have HY:=hD hy
 have HZ:=hD hz
 have HB:=hD hb
 have HK:=hD hk
 have HCP:=hD hcp
 clear hy hz hb hk hcp
 have z0:=cellS HZ.out 0
 have y0:=cellS HY.out 0
 have f0:=frozenS HY.out 0
 have p:=putS (i:=0) HY.out (.slice (some ⟨W0.heap.size,0,none⟩) R.length R.length)
 simp only [List.setIfInBounds_toArray,List.set_cons_succ,List.set_cons_zero] at p
 have HP:=hD p
 clear p
 go_wp2
 refine bp_genG (fun W=>W.heap[w.heap.size+1]?=some (.cells #[.slice (some ⟨W0.heap.size,0,none⟩) R.length R.length] 30 (0,0))∧Below w.heap.size w W∧NrB W W0.heap.size S∧CpR (W0.heap.size+1) W R S) ⟨HP.out,HB.out.setCell (p:=⟨w.heap.size+1,0,none⟩) (by simp) _,HK.out.but (gsetS (greflS _ (w.heap.size+1)) 0 _) (by omega),HCP.out.but (gsetS (greflS _ (w.heap.size+1)) 0 _) (by omega)⟩ ?_
 clear HY HZ HB HP HK HCP z0 y0 f0
 rintro W ⟨hp,hb,hk,hcp⟩
 have q0:=cellS hp 0
 exact bodyPost_ret (v:=.agg #[.slice (some ⟨W0.heap.size,0,none⟩) R.length R.length]) (by simp only [results,Tryz.results14];go_simp) rfl ⟨⟨_,S,rfl,W0.heap.size,rfl,by omega,hk,hcp⟩,hb⟩
def TA (lo:Nat) (w:World) (v:Value) (R:List Nr):Prop:=∃ S,TB lo w v R S
theorem TA.keep {lo:Nat} {w w':World} {v:Value} {R:List Nr} (h:TA lo w v R) (hb:Below w.heap.size w w'):TA lo w' v R:=let ⟨S,hs⟩:=h;⟨S,hs.keep hb⟩
theorem TA.any {lo:Nat} {w:World} {v:Value} {R:List Nr} (h:TA lo w v R):TA 0 w v R:=by
 obtain ⟨S,g,e,h1,h2,h3⟩:=h
 exact ⟨S,g,e,Nat.zero_le _,h2,h3⟩
theorem TA.open {lo:Nat} {w:World} {v:Value} {R:List Nr} (h:TA lo w v R):∃ (g:Nat) (S:List Nr),v=.agg #[.slice (some ⟨g,0,none⟩) R.length R.length]∧lo≤g∧g<w.heap.size∧S.length=R.length∧NrV w (some ⟨g,0,none⟩) S∧RdR w S∧S.map Nr.n=R.map Nr.n∧NrB w g S∧CpR (g+1) w R S:=by
 obtain ⟨S,g,e,h1,h2,h3⟩:=h
 exact ⟨g,S,e,h1,h2.lt,h3.len,h2.v,h3.rd,h3.map,h2,h3⟩
theorem toTree_a (A:Option Addr) (c:Nat) (R:List Nr) (w:World) (h:NrV w A R) (hr:RdR w R) (hL:R.length≤1048576) (hk:∀ p ∈ R,p.n.cs.length≤1048576∧p.n.rs.length≤1048576) :
  Calls Tryz.prog 14 #[.agg #[.slice A R.length c]] w fun e w'=>(∃ v,e=.returned v∧TA w.heap.size w' v R)∧Below w.heap.size w w' :=
 (toTree_v A c R w h hr hL hk).mono fun e w' ⟨⟨v,S,he,hs⟩,hb⟩=>⟨⟨v,he,S,hs⟩,hb⟩
theorem map_mem {R S:List Nr} (h:S.map Nr.n=R.map Nr.n) {B:Nat} (hk:∀ p ∈ R,p.n.cs.length≤B∧p.n.rs.length≤B):∀ p ∈ S,p.n.cs.length≤B∧p.n.rs.length≤B:=fun p hp=>by
 have h1:p.n ∈ R.map Nr.n:=by rw [<- h];exact List.mem_map_of_mem hp
 obtain ⟨q,hq,e⟩:=List.mem_map.1 h1
 rw [<- e];exact hk q hq
theorem szL_mem:∀ {R:List Nr} {p:Nr},p ∈ R→p.n.cs.length≤szL R∧p.n.rs.length≤szL R
 | q :: t,p,h=>by
  rcases List.mem_cons.1 h with rfl | h
  ·simp only [szL];omega
  ·have:=szL_mem h;simp only [szL];omega
 | [],p,h=>by simp at h
end
section
def Pk.ok (p:Pk):Bool:=vpB p.w p.h p.s p.an p.px p.py
def vpsB (L:List Pk):Bool:=L.all Pk.ok && decide (L.length≤7)
def Pk.down (p:Pk):Bool:=decide (p.s=0 ∨ p.s=1)
def Pk.need (p:Pk) (d:Bool):Int:=if d then p.h+2*p.py else p.w+2*p.px
def Pk.big (p:Pk):Prop:=((0≤p.w∧p.w≤1000000000000)∧(0≤p.h∧p.h≤1000000000000)∧(0≤p.s∧p.s≤3)∧(0≤p.an∧p.an≤8)∧(0≤p.px∧p.px≤10)∧(0≤p.py∧p.py≤10))
theorem Pk.need_bdW {p:Pk} (h:p.big) (d:Bool):0≤p.need d∧p.need d≤1000000000020:=by
 unfold Pk.big at h
 unfold Pk.need
 split <;> omega
end
section
open Go.RowKit
set_option maxHeartbeats 1000000
def Cells9 (w:World) (b o:Nat) (p:Pk):Prop :=
 w.cell? ⟨b,o,none⟩=some (.int .i64 p.w)∧w.cell? ⟨b,o+1,none⟩=some (.int .i64 p.h)∧w.cell? ⟨b,o+2,none⟩=some (.int .i64 p.s)∧w.cell? ⟨b,o+3,none⟩=some (.bool p.fx)∧w.cell? ⟨b,o+4,none⟩=some (.bool p.fy) ∧
 w.cell? ⟨b,o+5,none⟩=some (.bool p.ex)∧w.cell? ⟨b,o+6,none⟩=some (.int .i64 p.an)∧w.cell? ⟨b,o+7,none⟩=some (.int .i64 p.px)∧w.cell? ⟨b,o+8,none⟩=some (.int .i64 p.py)
def PS (w:World) (b off:Nat) (L:List Pk):Prop:=∀ i p,L[i]?=some p→Cells9 w b (off+i*9) p
structure PV (w:World) (A:Option Addr) (L:List Pk):Prop where
 cells:0<L.length→∃ b off,A=some ⟨b,off,none⟩∧b<w.heap.size∧PS w b off L
theorem Cells9.keep {w w':World} {b o:Nat} {p:Pk} (h:Cells9 w b o p) (hb:w'.heap[b]?=w.heap[b]?):Cells9 w' b o p:=by
 have e:∀ i,w'.cell? ⟨b,i,none⟩=w.cell? ⟨b,i,none⟩:=fun i=>World.cell?_of_block (a:=⟨b,i,none⟩) hb
 unfold Cells9 at *
 simpa only [e] using h
theorem PV.keep {w w':World} {A:Option Addr} {L:List Pk} (h:PV w A L) (hb:Below w.heap.size w w'):PV w' A L :=
 ⟨fun h0=>let ⟨b,off,e,hl,hp⟩:=h.cells h0;⟨b,off,e,Nat.lt_of_lt_of_le hl hb.size,fun i p hi=>(hp i p hi).keep (hb.block b hl)⟩⟩
theorem svp_v (p:Pk) (b:Bool) (h:p.ok=b) (w:World):Calls Tryz.prog 110 #[.agg #[.int .i64 p.w,.int .i64 p.h,.int .i64 p.s,.bool p.fx,.bool p.fy,.bool p.ex,.int .i64 p.an,.int .i64 p.px,.int .i64 p.py]] w fun e w'=>e=.returned (.bool b)∧Below w.heap.size w w':=by
 rw [<- h];exact specValidPack_any _ _ _ _ _ _ _ _ _ _
theorem vp_v (p:Pk) (b:Bool) (h:p.ok=b) (w:World):Calls Tryz.prog 122 #[.agg #[.int .i64 p.w,.int .i64 p.h,.int .i64 p.s,.bool p.fx,.bool p.fy,.bool p.ex,.int .i64 p.an,.int .i64 p.px,.int .i64 p.py]] w fun e w'=>e=.returned (.bool b)∧Below w.heap.size w w':=by
 rw [<- h];exact validPack_any _ _ _ _ _ _ _ _ _ _
end
section
open Go.RowKit
set_option maxHeartbeats 1000000
end
end Go.Proofs.YtenckjdiggaonaaGreat
