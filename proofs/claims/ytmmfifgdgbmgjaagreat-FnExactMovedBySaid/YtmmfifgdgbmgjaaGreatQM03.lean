import Derived.Test.YtmmfifgdgbmgjaaGreatQM02
set_option linter.unusedVariables false
set_option linter.unusedSimpArgs false
set_option maxRecDepth 100000
set_option maxHeartbeats 16000000
namespace Go.Proofs.YtmmfifgdgbmgjaaGreat
open Go.RowKit
attribute [local go_sem] growUpon_value growUpon_skip growUpon_enter
def PreN (w:World) (z:Nat) (l:List Value):Prop:=∃ cs:Array Value,w.heap[z]?=some (.cells cs 90 (0,0))∧cs.size=34∧InS cs 0 l
theorem PreN.nil {w:World} {z:Nat} {cs:Array Value} (h:w.heap[z]?=some (.cells cs 90 (0,0))) (hs:cs.size=34):PreN w z []:=⟨cs,h,hs,fun j u hu=>by simp at hu⟩
theorem PreN.lt {w:World} {z:Nat} {l:List Value} (h:PreN w z l):z<w.heap.size:=by obtain ⟨cs,hh,_⟩:=h;exact ltS hh
theorem PreN.there {w:World} {z:Nat} {l:List Value} (h:PreN w z l) {o n:Nat} (hn:o+n≤34):w.there z o n:=by
 obtain ⟨cs,hh,hs,_⟩:=h;exact thereB hh (by omega)
theorem PreN.cell {w:World} {z:Nat} {l:List Value} (h:PreN w z l) {i:Nat} (hi:i<34):∃ v,w.cell? ⟨z,i,none⟩=some v:=by
 obtain ⟨cs,hh,hs,_⟩:=h;exact thereS hh (by omega)
theorem PreN.frz {w:World} {z:Nat} {l:List Value} (h:PreN w z l) (i:Nat):w.frozen? ⟨z,i,none⟩=false:=by
 obtain ⟨cs,hh,hs,_⟩:=h;exact frozenS hh i
theorem PreN.keep {w w':World} {z:Nat} {l:List Value} (h:PreN w z l) (hb:w'.heap[z]?=w.heap[z]?):PreN w' z l:=by
 obtain ⟨cs,hh,hs,hi⟩:=h;exact ⟨cs,hb.trans hh,hs,hi⟩
theorem InS_app {cs:Array Value} {l vs:List Value} (h:InS cs 0 l) (hs:l.length+vs.length≤cs.size):InS (wrAt cs l.length vs) 0 (l ++ vs):=fun j u hu=>by
 rw [Nat.zero_add]
 by_cases hj:j<l.length
 ·rw [List.getElem?_append_left hj] at hu;rw [wrAt_lo _ _ _ _ hj]
  have:=h j u hu
  rwa [Nat.zero_add] at this
 ·rw [List.getElem?_append_right (by omega)] at hu;have hl:=(List.getElem?_eq_some_iff.1 hu).1
  have:=wrAt_in vs cs l.length (j-l.length) hs hl
  rw [show l.length+(j-l.length)=j by omega] at this;rw [this,hu]
theorem PreN.more {w:World} {z:Nat} {l vs:List Value} (h:PreN w z l) (hn:l.length+vs.length≤34):PreN (w.setCells z l.length vs) z (l ++ vs):=by
 obtain ⟨cs,hh,hs,hi⟩:=h;exact ⟨_,heap_setCells vs l.length w cs hh,by rw [wrAt_size];exact hs,InS_app hi (by omega)⟩
theorem PreN.one {w:World} {z:Nat} {l:List Value} (h:PreN w z l) (k:Nat) (hk:k=l.length) (v:Value) (hn:k<34):PreN (w.setCell ⟨z,k,none⟩ v) z (l ++ [v]):=by
 subst hk;exact h.more (vs:=[v]) (by simp;omega)
theorem PreN.moreK {w:World} {z:Nat} {l:List Value} (h:PreN w z l) (k:Nat) (hk:k=l.length) (vs:List Value) (hn:k+vs.length≤34):PreN (w.setCells z k vs) z (l ++ vs):=by
 subst hk;exact h.more hn
theorem PreN.full {w:World} {z:Nat} {l:List Value} (h:PreN w z l) (hl:l.length=34):w.heap[z]?=some (.cells l.toArray 90 (0,0)):=by
 obtain ⟨cs,hh,hs,hi⟩:=h
 have e:cs=l.toArray:=by
  apply Array.ext
  ·simp [hs,hl]
  ·intro i h1 h2
   have:=hi i l[i] (List.getElem?_eq_getElem (by simpa using h2))
   rw [Nat.zero_add,Array.getElem?_eq_getElem h1] at this
   simpa using this
 rw [<- e];exact hh
theorem range_sub {w:World} {b o:Nat} {cs:List Value} (h:w.rangeAt b o cs) (A B C:List Value) (e:cs=A ++ (B ++ C)) (k:Nat) (hk:k=A.length):w.rangeAt b (o+k) B:=fun j v hj=>by
 subst hk;have hl:=(List.getElem?_eq_some_iff.1 hj).1;rw [Nat.add_assoc];exact h (A.length+j) v (by rw [e,List.getElem?_append_right (by omega),List.getElem?_append_left (by omega)];rw [show A.length+j-A.length=j by omega];exact hj)
theorem node_pk {w:World} {b o:Nat} {p:Nr} (h:w.rangeAt b o (valsNr p)):w.rangeAt b (o+7) [.int .i64 p.n.pk.w,.int .i64 p.n.pk.h,.int .i64 p.n.pk.s,.bool p.n.pk.fx,.bool p.n.pk.fy,.bool p.n.pk.ex,.int .i64 p.n.pk.an,.int .i64 p.n.pk.px,.int .i64 p.n.pk.py]:=range_sub h ((valsNr p).take 7) _ ((valsNr p).drop 16) rfl 7 rfl
theorem node_ce {w:World} {b o:Nat} {p:Nr} (h:w.rangeAt b o (valsNr p)):w.rangeAt b (o+16) [.int .i64 p.n.ce.co,.int .i64 p.n.ce.ro,.int .i64 p.n.ce.mc,.int .i64 p.n.ce.mr,.int .i64 p.n.ce.cw,.int .i64 p.n.ce.ch,.int .i64 p.n.ce.sk,.int .i64 p.n.ce.px,.int .i64 p.n.ce.py]:=range_sub h ((valsNr p).take 16) _ ((valsNr p).drop 25) rfl 16 rfl
theorem node_pl {w:World} {b o:Nat} {p:Nr} (h:w.rangeAt b o (valsNr p)):w.rangeAt b (o+25) [.int .i64 p.n.pl.x,.int .i64 p.n.pl.y,.int .i64 p.n.pl.rx,.int .i64 p.n.pl.ry,.int .i64 p.n.pl.ww,.int .i64 p.n.pl.hh,.int .i64 p.n.pl.qw,.int .i64 p.n.pl.qh,.int .i64 p.n.pl.an]:=range_sub h ((valsNr p).take 25) _ ((valsNr p).drop 34) rfl 25 rfl
theorem newS1T (w:World) (o o':Obj):((w.alloc o).alloc o').heap[w.heap.size+1]?=some o':=by have:=newS (w.alloc o) o';rwa [World.size_alloc] at this
theorem newS2T (w:World) (o o' o2:Obj):(((w.alloc o).alloc o').alloc o2).heap[w.heap.size+1+1]?=some o2:=by have:=newS ((w.alloc o).alloc o') o2;rwa [World.size_alloc,World.size_alloc] at this
theorem wrAt_all {cs:Array Value} {l:List Value} (h:cs.size=l.length):wrAt cs 0 l=l.toArray:=by
 apply Array.ext
 ·rw [wrAt_size];simp [h]
 ·intro i h1 h2
  have hi:i<l.length:=by simpa using h2
  have:=wrAt_in l cs 0 i (by omega) hi
  rw [Nat.zero_add,Array.getElem?_eq_getElem h1,List.getElem?_eq_getElem hi] at this
  simpa using this
def cpN (p:Nr) (g1 g2:Nat):Nr:=⟨p.n,some ⟨g1,0,none⟩,p.n.cs.length,some ⟨g2,0,none⟩,p.n.rs.length⟩
def CpN (lo:Nat) (w:World) (p q:Nr):Prop:=∃ g1 g2,q=cpN p g1 g2∧lo≤g1∧g1<g2∧LnB w g1 p.n.cs∧LnB w g2 p.n.rs
theorem CpN.keep {lo:Nat} {w w':World} {p q:Nr} (h:CpN lo w p q) (hb:Below w.heap.size w w'):CpN lo w' p q:=by
 obtain ⟨g1,g2,e,h1,h2,h3,h4⟩:=h;exact ⟨g1,g2,e,h1,h2,h3.keep hb,h4.keep hb⟩
theorem CpN.but {lo z:Nat} {w w':World} {p q:Nr} (h:CpN lo w p q) (hg:w.grownBy w' (some z)) (hz:z<lo):CpN lo w' p q:=by
 obtain ⟨g1,g2,e,h1,h2,h3,h4⟩:=h;exact ⟨g1,g2,e,h1,h2,h3.but hg (by omega),h4.but hg (by omega)⟩
theorem CpN.n {lo:Nat} {w:World} {p q:Nr} (h:CpN lo w p q):q.n=p.n:=by obtain ⟨g1,g2,rfl,_⟩:=h;rfl
theorem CpN.rd {lo:Nat} {w:World} {p q:Nr} (h:CpN lo w p q):RdN w q:=by
 obtain ⟨g1,g2,rfl,h1,h2,h3,h4⟩:=h;exact ⟨h3.v,Nat.le_refl _,h4.v,Nat.le_refl _⟩
theorem pk_oneN (p:Nr):∀ v∈([.int .i64 p.n.pk.w,.int .i64 p.n.pk.h,.int .i64 p.n.pk.s,.bool p.n.pk.fx,.bool p.n.pk.fy,.bool p.n.pk.ex,.int .i64 p.n.pk.an,.int .i64 p.n.pk.px,.int .i64 p.n.pk.py]:List Value),v.oneCell'=true:=by intro v hv;simp only [List.mem_cons,List.not_mem_nil,or_false] at hv;rcases hv with rfl | rfl | rfl | rfl | rfl | rfl | rfl | rfl | rfl <;> rfl
theorem ce_oneN (p:Nr):∀ v∈([.int .i64 p.n.ce.co,.int .i64 p.n.ce.ro,.int .i64 p.n.ce.mc,.int .i64 p.n.ce.mr,.int .i64 p.n.ce.cw,.int .i64 p.n.ce.ch,.int .i64 p.n.ce.sk,.int .i64 p.n.ce.px,.int .i64 p.n.ce.py]:List Value),v.oneCell'=true:=by intro v hv;simp only [List.mem_cons,List.not_mem_nil,or_false] at hv;rcases hv with rfl | rfl | rfl | rfl | rfl | rfl | rfl | rfl | rfl <;> rfl
theorem pl_oneN (p:Nr):∀ v∈([.int .i64 p.n.pl.x,.int .i64 p.n.pl.y,.int .i64 p.n.pl.rx,.int .i64 p.n.pl.ry,.int .i64 p.n.pl.ww,.int .i64 p.n.pl.hh,.int .i64 p.n.pl.qw,.int .i64 p.n.pl.qh,.int .i64 p.n.pl.an]:List Value),v.oneCell'=true:=by intro v hv;simp only [List.mem_cons,List.not_mem_nil,or_false] at hv;rcases hv with rfl | rfl | rfl | rfl | rfl | rfl | rfl | rfl | rfl <;> rfl
theorem toNode_v (p:Nr) (w:World) (h:RdN w p) (k1:p.n.cs.length≤1048576) (k2:p.n.rs.length≤1048576) :
  Calls Tryz.prog 57 #[.agg (valsNr p).toArray] w fun e w'=>(∃ q,e=.returned (.agg (valsNr q).toArray)∧CpN w.heap.size w' p q)∧Below w.heap.size w w':=by
 have HRD:=hD h;clear h
 go_enter Tryz.func57,Tryz.ntmps57
 go_upto_region 2 with (fail)
 refine wp_genGG (fun W=>W.heap[w.heap.size]?=some (.cells (valsNr p).toArray 83 (0,0))∧(∃ cs:Array Value,W.heap[w.heap.size+1]?=some (.cells cs 90 (0,0))∧cs.size=34)∧PreN W (w.heap.size+1+1) []∧Below w.heap.size w W) ⟨(Below.heap_alloc _ _ w.heap.size (by simp;omega)).trans ((Below.heap_alloc _ _ w.heap.size (by simp)).trans (newS w _)),⟨_,(Below.heap_alloc _ _ (w.heap.size+1) (by simp)).trans (newS1T w _ _),rfl⟩,PreN.nil (newS2T w _ _ _) rfl,balloc (balloc (balloc (Below.refl _ _)))⟩ (fun W0 h0=>?_)
 obtain ⟨hx,h2,hz,hb⟩:=h0;have HX:=hD hx;have H2:=hD h2;have HZ:=hD hz;have HB:=hD hb;clear hx h2 hz hb;have s0:W0.cell? ⟨w.heap.size,0,none⟩=some (.int .i64 p.n.pa):=cellS HX.out 0;obtain ⟨y0,z0⟩:=HZ.out.cell (i:=0) (by omega);have f0:=HZ.out.frz 0;have lz:=HZ.out.lt
 go_upto_region 3 with (fail)
 refine wp_genGG (fun W=>W.heap[w.heap.size]?=some (.cells (valsNr p).toArray 83 (0,0))∧(∃ cs:Array Value,W.heap[w.heap.size+1]?=some (.cells cs 90 (0,0))∧cs.size=34)∧PreN W (w.heap.size+1+1) [.int .i64 p.n.pa]∧Below w.heap.size w W) ⟨(Below.heap_setCell _ _ _ w.heap.size (by simp;omega)).trans HX.out,(let ⟨cs,hc,hs⟩:=H2.out;⟨cs,(Below.heap_setCell _ _ _ (w.heap.size+1) (by simp)).trans hc,hs⟩),HZ.out.one 0 rfl _ (by omega),HB.out.setCell (p:=⟨w.heap.size+1+1,0,none⟩) (by simp;omega) _⟩ (fun W1 h0=>?_)
 clear HX H2 HZ HB s0 z0 f0 lz;obtain ⟨hx,h2,hz,hb⟩:=h0;have HX:=hD hx;have H2:=hD h2;have HZ:=hD hz;have HB:=hD hb;clear hx h2 hz hb;have s1:W1.cell? ⟨w.heap.size,1,none⟩=some (.int .i64 p.n.ww):=cellS HX.out 1;obtain ⟨y1,z1⟩:=HZ.out.cell (i:=1) (by omega);have f1:=HZ.out.frz 1;have lz:=HZ.out.lt
 go_upto_region 4 with (fail)
 refine wp_genGG (fun W=>W.heap[w.heap.size]?=some (.cells (valsNr p).toArray 83 (0,0))∧(∃ cs:Array Value,W.heap[w.heap.size+1]?=some (.cells cs 90 (0,0))∧cs.size=34)∧PreN W (w.heap.size+1+1) [.int .i64 p.n.pa,.int .i64 p.n.ww]∧Below w.heap.size w W) ⟨(Below.heap_setCell _ _ _ w.heap.size (by simp;omega)).trans HX.out,(let ⟨cs,hc,hs⟩:=H2.out;⟨cs,(Below.heap_setCell _ _ _ (w.heap.size+1) (by simp)).trans hc,hs⟩),HZ.out.one 1 rfl _ (by omega),HB.out.setCell (p:=⟨w.heap.size+1+1,1,none⟩) (by simp;omega) _⟩ (fun W2 h0=>?_)
 clear HX H2 HZ HB s1 z1 f1 lz;obtain ⟨hx,h2,hz,hb⟩:=h0;have HX:=hD hx;have H2:=hD h2;have HZ:=hD hz;have HB:=hD hb;clear hx h2 hz hb;have s2:W2.cell? ⟨w.heap.size,2,none⟩=some (.int .i64 p.n.hh):=cellS HX.out 2;obtain ⟨y2,z2⟩:=HZ.out.cell (i:=2) (by omega);have f2:=HZ.out.frz 2;have lz:=HZ.out.lt
 go_upto_region 5 with (fail)
 refine wp_genGG (fun W=>W.heap[w.heap.size]?=some (.cells (valsNr p).toArray 83 (0,0))∧(∃ cs:Array Value,W.heap[w.heap.size+1]?=some (.cells cs 90 (0,0))∧cs.size=34)∧PreN W (w.heap.size+1+1) [.int .i64 p.n.pa,.int .i64 p.n.ww,.int .i64 p.n.hh]∧Below w.heap.size w W) ⟨(Below.heap_setCell _ _ _ w.heap.size (by simp;omega)).trans HX.out,(let ⟨cs,hc,hs⟩:=H2.out;⟨cs,(Below.heap_setCell _ _ _ (w.heap.size+1) (by simp)).trans hc,hs⟩),HZ.out.one 2 rfl _ (by omega),HB.out.setCell (p:=⟨w.heap.size+1+1,2,none⟩) (by simp;omega) _⟩ (fun W3 h0=>?_)
 clear HX H2 HZ HB s2 z2 f2 lz;obtain ⟨hx,h2,hz,hb⟩:=h0;have HX:=hD hx;have H2:=hD h2;have HZ:=hD hz;have HB:=hD hb;clear hx h2 hz hb;have s3:W3.cell? ⟨w.heap.size,3,none⟩=some (.bool p.n.ke):=cellS HX.out 3;obtain ⟨y3,z3⟩:=HZ.out.cell (i:=3) (by omega);have f3:=HZ.out.frz 3;have lz:=HZ.out.lt
 go_upto_region 6 with (fail)
 refine wp_genGG (fun W=>W.heap[w.heap.size]?=some (.cells (valsNr p).toArray 83 (0,0))∧(∃ cs:Array Value,W.heap[w.heap.size+1]?=some (.cells cs 90 (0,0))∧cs.size=34)∧PreN W (w.heap.size+1+1) [.int .i64 p.n.pa,.int .i64 p.n.ww,.int .i64 p.n.hh,.bool p.n.ke]∧Below w.heap.size w W) ⟨(Below.heap_setCell _ _ _ w.heap.size (by simp;omega)).trans HX.out,(let ⟨cs,hc,hs⟩:=H2.out;⟨cs,(Below.heap_setCell _ _ _ (w.heap.size+1) (by simp)).trans hc,hs⟩),HZ.out.one 3 rfl _ (by omega),HB.out.setCell (p:=⟨w.heap.size+1+1,3,none⟩) (by simp;omega) _⟩ (fun W4 h0=>?_)
 clear HX H2 HZ HB s3 z3 f3 lz;obtain ⟨hx,h2,hz,hb⟩:=h0;have HX:=hD hx;have H2:=hD h2;have HZ:=hD hz;have HB:=hD hb;clear hx h2 hz hb;have s4:W4.cell? ⟨w.heap.size,4,none⟩=some (.int .i64 p.n.ki):=cellS HX.out 4;obtain ⟨y4,z4⟩:=HZ.out.cell (i:=4) (by omega);have f4:=HZ.out.frz 4;have lz:=HZ.out.lt
 go_upto_region 7 with (fail)
 refine wp_genGG (fun W=>W.heap[w.heap.size]?=some (.cells (valsNr p).toArray 83 (0,0))∧(∃ cs:Array Value,W.heap[w.heap.size+1]?=some (.cells cs 90 (0,0))∧cs.size=34)∧PreN W (w.heap.size+1+1) [.int .i64 p.n.pa,.int .i64 p.n.ww,.int .i64 p.n.hh,.bool p.n.ke,.int .i64 p.n.ki]∧Below w.heap.size w W) ⟨(Below.heap_setCell _ _ _ w.heap.size (by simp;omega)).trans HX.out,(let ⟨cs,hc,hs⟩:=H2.out;⟨cs,(Below.heap_setCell _ _ _ (w.heap.size+1) (by simp)).trans hc,hs⟩),HZ.out.one 4 rfl _ (by omega),HB.out.setCell (p:=⟨w.heap.size+1+1,4,none⟩) (by simp;omega) _⟩ (fun W5 h0=>?_)
 clear HX H2 HZ HB s4 z4 f4 lz;obtain ⟨hx,h2,hz,hb⟩:=h0;have HX:=hD hx;have H2:=hD h2;have HZ:=hD hz;have HB:=hD hb;clear hx h2 hz hb;have s5:W5.cell? ⟨w.heap.size,5,none⟩=some (.slice p.ca p.n.cs.length p.cc):=cellS HX.out 5;have lz:=HZ.out.lt
 go_wp2_with fail
 with_reducible refine (toLnS_any p.ca p.cc p.n.cs _ (HRD.out.c.keep HB.out) k1).mono ?_
 rintro e w6 ⟨rfl,hk,hb1⟩;replace HX:=hD ((hb1.block _ (ltS HX.out)).trans HX.out);replace H2:=hD (let ⟨cs,hc,hs⟩:=H2.out;show ∃ cs:Array Value,w6.heap[w.heap.size+1]?=some (Obj.cells cs 90 (0,0))∧cs.size=34 from ⟨cs,(hb1.block _ (ltS hc)).trans hc,hs⟩);replace HZ:=hD (HZ.out.keep (hb1.block _ HZ.out.lt));replace HB:=hD (bkeep2 HB.out hb1);have HKN:=hD hk;clear hk hb1 s5
 obtain ⟨y5,z5⟩:=HZ.out.cell (i:=5) (by omega);have f5:=HZ.out.frz 5;have lz2:=HZ.out.lt
 go_upto_region 8 with (fail)
 refine wp_genGG (fun W=>W.heap[w.heap.size]?=some (.cells (valsNr p).toArray 83 (0,0))∧(∃ cs:Array Value,W.heap[w.heap.size+1]?=some (.cells cs 90 (0,0))∧cs.size=34)∧PreN W (w.heap.size+1+1) [.int .i64 p.n.pa,.int .i64 p.n.ww,.int .i64 p.n.hh,.bool p.n.ke,.int .i64 p.n.ki,.slice (some ⟨W5.heap.size,0,none⟩) p.n.cs.length p.n.cs.length]∧Below w.heap.size w W∧LnB W W5.heap.size p.n.cs) ⟨(Below.heap_setCell _ _ _ w.heap.size (by simp;omega)).trans HX.out,(let ⟨cs,hc,hs⟩:=H2.out;⟨cs,(Below.heap_setCell _ _ _ (w.heap.size+1) (by simp)).trans hc,hs⟩),HZ.out.one 5 rfl _ (by omega),HB.out.setCell (p:=⟨w.heap.size+1+1,5,none⟩) (by simp;omega) _,HKN.out.but (gsetS (greflS _ (w.heap.size+1+1)) 5 _) (by omega)⟩ (fun W7 h0=>?_)
 have LK0:=hD (show w.heap.size+1+1<W5.heap.size by omega);clear HX H2 HZ HB HKN z5 f5 lz lz2;obtain ⟨hx,h2,hz,hb,hk0⟩:=h0;have HX:=hD hx;have H2:=hD h2;have HZ:=hD hz;have HB:=hD hb;have HK0:=hD hk0;clear hx h2 hz hb hk0;have lk0:=HK0.out.lt;have LKS0:=hD lk0;clear lk0;have s6:W7.cell? ⟨w.heap.size,6,none⟩=some (.slice p.ra p.n.rs.length p.rc):=cellS HX.out 6;have lz:=HZ.out.lt
 go_wp2_with fail
 with_reducible refine (toLnS_any p.ra p.rc p.n.rs _ (HRD.out.r.keep HB.out) k2).mono ?_
 rintro e w8 ⟨rfl,hk,hb1⟩;replace HX:=hD ((hb1.block _ (ltS HX.out)).trans HX.out);replace H2:=hD (let ⟨cs,hc,hs⟩:=H2.out;show ∃ cs:Array Value,w8.heap[w.heap.size+1]?=some (Obj.cells cs 90 (0,0))∧cs.size=34 from ⟨cs,(hb1.block _ (ltS hc)).trans hc,hs⟩);replace HZ:=hD (HZ.out.keep (hb1.block _ HZ.out.lt));replace HK0:=hD (HK0.out.keep hb1);replace HB:=hD (bkeep2 HB.out hb1);have HKN:=hD hk
 clear hk hb1 s6;obtain ⟨y6,z6⟩:=HZ.out.cell (i:=6) (by omega);have f6:=HZ.out.frz 6;have lz2:=HZ.out.lt
 go_upto_region 9 with (fail)
 have lk0:=LK0.out
 refine wp_genGG (fun W=>W.heap[w.heap.size]?=some (.cells (valsNr p).toArray 83 (0,0))∧(∃ cs:Array Value,W.heap[w.heap.size+1]?=some (.cells cs 90 (0,0))∧cs.size=34)∧PreN W (w.heap.size+1+1) [.int .i64 p.n.pa,.int .i64 p.n.ww,.int .i64 p.n.hh,.bool p.n.ke,.int .i64 p.n.ki,.slice (some ⟨W5.heap.size,0,none⟩) p.n.cs.length p.n.cs.length,.slice (some ⟨W7.heap.size,0,none⟩) p.n.rs.length p.n.rs.length]∧Below w.heap.size w W∧LnB W W5.heap.size p.n.cs∧LnB W W7.heap.size p.n.rs) ⟨(Below.heap_setCell _ _ _ w.heap.size (by simp;omega)).trans HX.out,(let ⟨cs,hc,hs⟩:=H2.out;⟨cs,(Below.heap_setCell _ _ _ (w.heap.size+1) (by simp)).trans hc,hs⟩),HZ.out.one 6 rfl _ (by omega),HB.out.setCell (p:=⟨w.heap.size+1+1,6,none⟩) (by simp;omega) _,HK0.out.but (gsetS (greflS _ (w.heap.size+1+1)) 6 _) (by omega),HKN.out.but (gsetS (greflS _ (w.heap.size+1+1)) 6 _) (by omega)⟩ (fun W9 h0=>?_)
 have LK1:=hD (show w.heap.size+1+1<W7.heap.size by omega);clear HX H2 HZ HB HKN HK0 z6 f6 lz lz2 lk0;obtain ⟨hx,h2,hz,hb,hk0,hk1⟩:=h0;have HX:=hD hx;have H2:=hD h2;have HZ:=hD hz;have HB:=hD hb;have HK0:=hD hk0;have HK1:=hD hk1;clear hx h2 hz hb hk0 hk1;have lk1:=HK1.out.lt;have LKS1:=hD lk1;clear lk1;have hr:=node_pk (nodeAt HX.out);simp only [Nat.zero_add] at hr;have HR:=hD hr
 have lz:=HZ.out.lt;clear hr
 go_wp2_with (refine wpList_load_mid rfl 77 _ rfl w.heap.size 7 rfl [.int .i64 p.n.pk.w,.int .i64 p.n.pk.h,.int .i64 p.n.pk.s,.bool p.n.pk.fx,.bool p.n.pk.fy,.bool p.n.pk.ex,.int .i64 p.n.pk.an,.int .i64 p.n.pk.px,.int .i64 p.n.pk.py] _ HR.out Tryz.underlying77 rfl (by kernel_rfl) ?_)
 with_reducible refine (toPack_any _ _ _ _ _ _ _ _ _ _).mono ?_
 rintro e w10 ⟨rfl,hb1⟩;replace HX:=hD ((hb1.block _ (ltS HX.out)).trans HX.out);replace H2:=hD (let ⟨cs,hc,hs⟩:=H2.out;show ∃ cs:Array Value,w10.heap[w.heap.size+1]?=some (Obj.cells cs 90 (0,0))∧cs.size=34 from ⟨cs,(hb1.block _ (ltS hc)).trans hc,hs⟩);replace HZ:=hD (HZ.out.keep (hb1.block _ HZ.out.lt));replace HK0:=hD (HK0.out.keep hb1);replace HK1:=hD (HK1.out.keep hb1)
 replace HB:=hD (bkeep2 HB.out hb1);clear hb1 HR
 go_upto_region 10 with (refine wpList_store_mid rfl 86 _ _ rfl (w.heap.size+1+1) 7 #[.int .i64 p.n.pk.w,.int .i64 p.n.pk.h,.int .i64 p.n.pk.s,.bool p.n.pk.fx,.bool p.n.pk.fy,.bool p.n.pk.ex,.int .i64 p.n.pk.an,.int .i64 p.n.pk.px,.int .i64 p.n.pk.py] rfl rfl (HZ.out.there (by simp)) (by kernel_rfl) (all_oneCell_toArray (pk_oneN p)) ?_)
 refine wp_genGG (fun W=>W.heap[w.heap.size]?=some (.cells (valsNr p).toArray 83 (0,0))∧(∃ cs:Array Value,W.heap[w.heap.size+1]?=some (.cells cs 90 (0,0))∧cs.size=34)∧PreN W (w.heap.size+1+1) [.int .i64 p.n.pa,.int .i64 p.n.ww,.int .i64 p.n.hh,.bool p.n.ke,.int .i64 p.n.ki,.slice (some ⟨W5.heap.size,0,none⟩) p.n.cs.length p.n.cs.length,.slice (some ⟨W7.heap.size,0,none⟩) p.n.rs.length p.n.rs.length,.int .i64 p.n.pk.w,.int .i64 p.n.pk.h,.int .i64 p.n.pk.s,.bool p.n.pk.fx,.bool p.n.pk.fy,.bool p.n.pk.ex,.int .i64 p.n.pk.an,.int .i64 p.n.pk.px,.int .i64 p.n.pk.py]∧Below w.heap.size w W∧LnB W W5.heap.size p.n.cs∧LnB W W7.heap.size p.n.rs) ⟨(heap_setCells_ne (by omega) _ _ _).trans HX.out,(let ⟨cs,hc,hs⟩:=H2.out;⟨cs,(heap_setCells_ne (by omega) _ _ _).trans hc,hs⟩),HZ.out.moreK 7 rfl _ (by simp),below_setCells (by omega) _ _ _ HB.out,HK0.out.but (grown_setCells _ _ _ (greflS _ (w.heap.size+1+1))) (by have:=LK0.out;omega),HK1.out.but (grown_setCells _ _ _ (greflS _ (w.heap.size+1+1))) (by have:=LK1.out;omega)⟩ (fun W11 h0=>?_)
 clear HX H2 HZ HB HK0 HK1 lz;obtain ⟨hx,h2,hz,hb,hk0,hk1⟩:=h0;have HX:=hD hx;have H2:=hD h2;have HZ:=hD hz;have HB:=hD hb;have HK0:=hD hk0;have HK1:=hD hk1;clear hx h2 hz hb hk0 hk1;have hr:=node_ce (nodeAt HX.out);simp only [Nat.zero_add] at hr;have HR:=hD hr;have lz:=HZ.out.lt;clear hr
 go_wp2_with (refine wpList_load_mid rfl 79 _ rfl w.heap.size 16 rfl [.int .i64 p.n.ce.co,.int .i64 p.n.ce.ro,.int .i64 p.n.ce.mc,.int .i64 p.n.ce.mr,.int .i64 p.n.ce.cw,.int .i64 p.n.ce.ch,.int .i64 p.n.ce.sk,.int .i64 p.n.ce.px,.int .i64 p.n.ce.py] _ HR.out Tryz.underlying79 rfl (by kernel_rfl) ?_)
 with_reducible refine (toCe_v p.n.ce _).mono ?_
 rintro e w12 ⟨rfl,hb1⟩;replace HX:=hD ((hb1.block _ (ltS HX.out)).trans HX.out);replace H2:=hD (let ⟨cs,hc,hs⟩:=H2.out;show ∃ cs:Array Value,w12.heap[w.heap.size+1]?=some (Obj.cells cs 90 (0,0))∧cs.size=34 from ⟨cs,(hb1.block _ (ltS hc)).trans hc,hs⟩);replace HZ:=hD (HZ.out.keep (hb1.block _ HZ.out.lt));replace HK0:=hD (HK0.out.keep hb1);replace HK1:=hD (HK1.out.keep hb1)
 replace HB:=hD (bkeep2 HB.out hb1);clear hb1 HR
 go_upto_region 11 with (refine wpList_store_mid rfl 87 _ _ rfl (w.heap.size+1+1) 16 #[.int .i64 p.n.ce.co,.int .i64 p.n.ce.ro,.int .i64 p.n.ce.mc,.int .i64 p.n.ce.mr,.int .i64 p.n.ce.cw,.int .i64 p.n.ce.ch,.int .i64 p.n.ce.sk,.int .i64 p.n.ce.px,.int .i64 p.n.ce.py] rfl rfl (HZ.out.there (by simp)) (by kernel_rfl) (all_oneCell_toArray (ce_oneN p)) ?_)
 refine wp_genGG (fun W=>W.heap[w.heap.size]?=some (.cells (valsNr p).toArray 83 (0,0))∧(∃ cs:Array Value,W.heap[w.heap.size+1]?=some (.cells cs 90 (0,0))∧cs.size=34)∧PreN W (w.heap.size+1+1) [.int .i64 p.n.pa,.int .i64 p.n.ww,.int .i64 p.n.hh,.bool p.n.ke,.int .i64 p.n.ki,.slice (some ⟨W5.heap.size,0,none⟩) p.n.cs.length p.n.cs.length,.slice (some ⟨W7.heap.size,0,none⟩) p.n.rs.length p.n.rs.length,.int .i64 p.n.pk.w,.int .i64 p.n.pk.h,.int .i64 p.n.pk.s,.bool p.n.pk.fx,.bool p.n.pk.fy,.bool p.n.pk.ex,.int .i64 p.n.pk.an,.int .i64 p.n.pk.px,.int .i64 p.n.pk.py,.int .i64 p.n.ce.co,.int .i64 p.n.ce.ro,.int .i64 p.n.ce.mc,.int .i64 p.n.ce.mr,.int .i64 p.n.ce.cw,.int .i64 p.n.ce.ch,.int .i64 p.n.ce.sk,.int .i64 p.n.ce.px,.int .i64 p.n.ce.py]∧Below w.heap.size w W∧LnB W W5.heap.size p.n.cs∧LnB W W7.heap.size p.n.rs) ⟨(heap_setCells_ne (by omega) _ _ _).trans HX.out,(let ⟨cs,hc,hs⟩:=H2.out;⟨cs,(heap_setCells_ne (by omega) _ _ _).trans hc,hs⟩),HZ.out.moreK 16 rfl _ (by simp),below_setCells (by omega) _ _ _ HB.out,HK0.out.but (grown_setCells _ _ _ (greflS _ (w.heap.size+1+1))) (by have:=LK0.out;omega),HK1.out.but (grown_setCells _ _ _ (greflS _ (w.heap.size+1+1))) (by have:=LK1.out;omega)⟩ (fun W13 h0=>?_)
 clear HX H2 HZ HB HK0 HK1 lz;obtain ⟨hx,h2,hz,hb,hk0,hk1⟩:=h0;have HX:=hD hx;have H2:=hD h2;have HZ:=hD hz;have HB:=hD hb;have HK0:=hD hk0;have HK1:=hD hk1;clear hx h2 hz hb hk0 hk1;have hr:=node_pl (nodeAt HX.out);simp only [Nat.zero_add] at hr;have HR:=hD hr;have lz:=HZ.out.lt;clear hr
 go_wp2_with (refine wpList_load_mid rfl 81 _ rfl w.heap.size 25 rfl [.int .i64 p.n.pl.x,.int .i64 p.n.pl.y,.int .i64 p.n.pl.rx,.int .i64 p.n.pl.ry,.int .i64 p.n.pl.ww,.int .i64 p.n.pl.hh,.int .i64 p.n.pl.qw,.int .i64 p.n.pl.qh,.int .i64 p.n.pl.an] _ HR.out Tryz.underlying81 rfl (by kernel_rfl) ?_)
 with_reducible refine (toPlace_v p.n.pl _).mono ?_
 rintro e w14 ⟨rfl,hb1⟩;replace HX:=hD ((hb1.block _ (ltS HX.out)).trans HX.out);replace H2:=hD (let ⟨cs,hc,hs⟩:=H2.out;show ∃ cs:Array Value,w14.heap[w.heap.size+1]?=some (Obj.cells cs 90 (0,0))∧cs.size=34 from ⟨cs,(hb1.block _ (ltS hc)).trans hc,hs⟩);replace HZ:=hD (HZ.out.keep (hb1.block _ HZ.out.lt));replace HK0:=hD (HK0.out.keep hb1);replace HK1:=hD (HK1.out.keep hb1)
 replace HB:=hD (bkeep2 HB.out hb1);clear hb1 HR
 go_upto_region 12 with (refine wpList_store_mid rfl 88 _ _ rfl (w.heap.size+1+1) 25 #[.int .i64 p.n.pl.x,.int .i64 p.n.pl.y,.int .i64 p.n.pl.rx,.int .i64 p.n.pl.ry,.int .i64 p.n.pl.ww,.int .i64 p.n.pl.hh,.int .i64 p.n.pl.qw,.int .i64 p.n.pl.qh,.int .i64 p.n.pl.an] rfl rfl (HZ.out.there (by simp)) (by kernel_rfl) (all_oneCell_toArray (pl_oneN p)) ?_)
 refine wp_genGG (fun W=>W.heap[w.heap.size]?=some (.cells (valsNr p).toArray 83 (0,0))∧(∃ cs:Array Value,W.heap[w.heap.size+1]?=some (.cells cs 90 (0,0))∧cs.size=34)∧PreN W (w.heap.size+1+1) [.int .i64 p.n.pa,.int .i64 p.n.ww,.int .i64 p.n.hh,.bool p.n.ke,.int .i64 p.n.ki,.slice (some ⟨W5.heap.size,0,none⟩) p.n.cs.length p.n.cs.length,.slice (some ⟨W7.heap.size,0,none⟩) p.n.rs.length p.n.rs.length,.int .i64 p.n.pk.w,.int .i64 p.n.pk.h,.int .i64 p.n.pk.s,.bool p.n.pk.fx,.bool p.n.pk.fy,.bool p.n.pk.ex,.int .i64 p.n.pk.an,.int .i64 p.n.pk.px,.int .i64 p.n.pk.py,.int .i64 p.n.ce.co,.int .i64 p.n.ce.ro,.int .i64 p.n.ce.mc,.int .i64 p.n.ce.mr,.int .i64 p.n.ce.cw,.int .i64 p.n.ce.ch,.int .i64 p.n.ce.sk,.int .i64 p.n.ce.px,.int .i64 p.n.ce.py,.int .i64 p.n.pl.x,.int .i64 p.n.pl.y,.int .i64 p.n.pl.rx,.int .i64 p.n.pl.ry,.int .i64 p.n.pl.ww,.int .i64 p.n.pl.hh,.int .i64 p.n.pl.qw,.int .i64 p.n.pl.qh,.int .i64 p.n.pl.an]∧Below w.heap.size w W∧LnB W W5.heap.size p.n.cs∧LnB W W7.heap.size p.n.rs) ⟨(heap_setCells_ne (by omega) _ _ _).trans HX.out,(let ⟨cs,hc,hs⟩:=H2.out;⟨cs,(heap_setCells_ne (by omega) _ _ _).trans hc,hs⟩),HZ.out.moreK 25 rfl _ (by simp),below_setCells (by omega) _ _ _ HB.out,HK0.out.but (grown_setCells _ _ _ (greflS _ (w.heap.size+1+1))) (by have:=LK0.out;omega),HK1.out.but (grown_setCells _ _ _ (greflS _ (w.heap.size+1+1))) (by have:=LK1.out;omega)⟩ (fun W15 h0=>?_)
 clear HX H2 HZ HB HK0 HK1 lz;obtain ⟨hx,h2,hz,hb,hk0,hk1⟩:=h0;have HX:=hD hx;have H2:=hD h2;have HZ:=hD hz;have HB:=hD hb;have HK0:=hD hk0;have HK1:=hD hk1;clear hx h2 hz hb hk0 hk1;have hq:W15.heap[w.heap.size+1+1]?=some (.cells (valsNr (cpN p W5.heap.size W7.heap.size)).toArray 90 (0,0)):=HZ.out.full rfl;obtain ⟨c2,hc2,hs2⟩:=H2.out;have HQ:=hD hq;have HC2:=hD hc2;have HS2:=hD hs2
 clear hq hc2 hs2 H2
 go_wp2_with (first|(refine ldN _ (cpN p W5.heap.size W7.heap.size) (w.heap.size+1+1) 0 rfl rfl rfl (nodeAt HQ.out) ?_)|(refine stN _ _ (cpN p W5.heap.size W7.heap.size) (w.heap.size+1) 0 rfl rfl rfl rfl HC2.out (by rw [HS2.out];omega) ?_))
 have hend:=heap_setCells (valsNr (cpN p W5.heap.size W7.heap.size)) 0 _ _ HC2.out;have hfull:wrAt c2 0 (valsNr (cpN p W5.heap.size W7.heap.size))=(valsNr (cpN p W5.heap.size W7.heap.size)).toArray:=wrAt_all (by rw [HS2.out];rfl);rw [hfull] at hend;have HE:=hD hend;clear hend hfull
 refine bp_genG (fun W=>W.heap[w.heap.size+1]?=some (.cells (valsNr (cpN p W5.heap.size W7.heap.size)).toArray 90 (0,0))∧Below w.heap.size w W∧CpN w.heap.size W p (cpN p W5.heap.size W7.heap.size)) ⟨HE.out,below_setCells (by omega) _ _ _ HB.out,⟨_,_,rfl,by have:=LK0.out;omega,by have:=LKS0.out;have:=LK1.out;omega,HK0.out.but (grown_setCells _ _ _ (greflS _ (w.heap.size+1))) (by have:=LK0.out;omega),HK1.out.but (grown_setCells _ _ _ (greflS _ (w.heap.size+1))) (by have:=LK1.out;omega)⟩⟩ ?_
 rintro W ⟨hq,hb,hcp⟩;exact bodyPost_ret (results_cell_row rfl _ _ (w.heap.size+1) _ _ _ _ rfl hq Tryz.underlying90 rfl (by kernel_rfl)) rfl ⟨⟨_,rfl,hcp⟩,hb⟩
theorem madeNr:∃ f:Nat→Array Value,(∀ n,(f n).size=n*34)∧∀ (n:Nat) (w:World),n≤1048576→(Instr.makeSlice 28 (.int .i64 (n:Int)) (.int .i64 (n:Int))).run Tryz.prog w=.ok (.slice (some ⟨w.heap.size,0,none⟩) n n) (w.alloc (.cells (f n) 90)):=by
 have hinfo:(Tryz.prog.info? 90).map (fun i=>(i.size,i.bytes,i.zero.isSome))=some (34,288,true):=by kernel_rfl
 obtain ⟨i,z,hi,h1,h2,h3⟩:∃ (i:TypeInfo) (z:Value),Tryz.prog.info? 90=some i∧i.zero=some z∧i.size=34∧i.bytes=288:=by
  cases hq:Tryz.prog.info? 90 with
  | none=>rw [hq] at hinfo;cases hinfo
  | some i =>
   rw [hq] at hinfo;simp only [Option.map_some,Option.some.injEq,Prod.mk.injEq] at hinfo;obtain ⟨e1,e2,e3⟩:=hinfo;obtain ⟨z,hz⟩:=Option.isSome_iff_exists.1 e3;exact ⟨i,z,rfl,hz,e1,e2⟩
 refine ⟨fun n=>madeCells z.cells (n*34),fun n=>size_madeCells _ _,fun n w hn=>?_⟩;have hr:=run_make (P:=Tryz.prog) w 28 90 i _ Tryz.underlying28 hi h1 .i64 .i64 n n (by omega) (Int.le_refl _) (by rw [h3];omega) (by omega);rw [h2] at hr
 simpa using hr
theorem ldNr {ops:Array Oper} {rest:List Oper} {op:Oper} {a:Act} {w:World} {Q:Exit→Act→World→Prop} {x:Operand} (p:Nr) (b o:Nat) (ho:op.op=.load 90 x) (hw:Region.wanted op (yielded ops a.tmps)=true) (hx:a.eval x=.pointer (some ⟨b,o,none⟩)) (hc:w.rangeAt b o (valsNr p)) (h:wpList Tryz.prog ops Q rest (a.put op.dst (.agg (valsNr p).toArray)) w):wpList Tryz.prog ops Q (op :: rest) a w :=
 ldW 90 x _ b o ho hw hx Tryz.underlying90 rfl (by kernel_rfl) hc h
theorem ldPack {ops:Array Oper} {rest:List Oper} {op:Oper} {a:Act} {w:World} {Q:Exit→Act→World→Prop} {x:Operand} (n:Nd) (b o:Nat) (ho:op.op=.load 86 x) (hw:Region.wanted op (yielded ops a.tmps)=true) (hx:a.eval x=.pointer (some ⟨b,o,none⟩)) (hc:w.rangeAt b o [.int .i64 n.pk.w,.int .i64 n.pk.h,.int .i64 n.pk.s,.bool n.pk.fx,.bool n.pk.fy,.bool n.pk.ex,.int .i64 n.pk.an,.int .i64 n.pk.px,.int .i64 n.pk.py]) (h:wpList Tryz.prog ops Q rest (a.put op.dst (.agg [.int .i64 n.pk.w,.int .i64 n.pk.h,.int .i64 n.pk.s,.bool n.pk.fx,.bool n.pk.fy,.bool n.pk.ex,.int .i64 n.pk.an,.int .i64 n.pk.px,.int .i64 n.pk.py].toArray)) w):wpList Tryz.prog ops Q (op :: rest) a w :=
 ldW 86 x _ b o ho hw hx Tryz.underlying86 rfl (by kernel_rfl) hc h
theorem ldPlace {ops:Array Oper} {rest:List Oper} {op:Oper} {a:Act} {w:World} {Q:Exit→Act→World→Prop} {x:Operand} (n:Nd) (b o:Nat) (ho:op.op=.load 88 x) (hw:Region.wanted op (yielded ops a.tmps)=true) (hx:a.eval x=.pointer (some ⟨b,o,none⟩)) (hc:w.rangeAt b o [.int .i64 n.pl.x,.int .i64 n.pl.y,.int .i64 n.pl.rx,.int .i64 n.pl.ry,.int .i64 n.pl.ww,.int .i64 n.pl.hh,.int .i64 n.pl.qw,.int .i64 n.pl.qh,.int .i64 n.pl.an]) (h:wpList Tryz.prog ops Q rest (a.put op.dst (.agg [.int .i64 n.pl.x,.int .i64 n.pl.y,.int .i64 n.pl.rx,.int .i64 n.pl.ry,.int .i64 n.pl.ww,.int .i64 n.pl.hh,.int .i64 n.pl.qw,.int .i64 n.pl.qh,.int .i64 n.pl.an].toArray)) w):wpList Tryz.prog ops Q (op :: rest) a w :=
 ldW 88 x _ b o ho hw hx Tryz.underlying88 rfl (by kernel_rfl) hc h
theorem ldCell {ops:Array Oper} {rest:List Oper} {op:Oper} {a:Act} {w:World} {Q:Exit→Act→World→Prop} {x:Operand} (n:Nd) (b o:Nat) (ho:op.op=.load 87 x) (hw:Region.wanted op (yielded ops a.tmps)=true) (hx:a.eval x=.pointer (some ⟨b,o,none⟩)) (hc:w.rangeAt b o [.int .i64 n.ce.co,.int .i64 n.ce.ro,.int .i64 n.ce.mc,.int .i64 n.ce.mr,.int .i64 n.ce.cw,.int .i64 n.ce.ch,.int .i64 n.ce.sk,.int .i64 n.ce.px,.int .i64 n.ce.py]) (h:wpList Tryz.prog ops Q rest (a.put op.dst (.agg [.int .i64 n.ce.co,.int .i64 n.ce.ro,.int .i64 n.ce.mc,.int .i64 n.ce.mr,.int .i64 n.ce.cw,.int .i64 n.ce.ch,.int .i64 n.ce.sk,.int .i64 n.ce.px,.int .i64 n.ce.py].toArray)) w):wpList Tryz.prog ops Q (op :: rest) a w :=
 ldW 87 x _ b o ho hw hx Tryz.underlying87 rfl (by kernel_rfl) hc h
theorem ldPackH {ops:Array Oper} {rest:List Oper} {op:Oper} {a:Act} {w:World} {Q:Exit→Act→World→Prop} {x:Operand} {n:Nd} {b o:Nat} (hc:Go.RowKit.Hid (w.rangeAt b o [.int .i64 n.pk.w,.int .i64 n.pk.h,.int .i64 n.pk.s,.bool n.pk.fx,.bool n.pk.fy,.bool n.pk.ex,.int .i64 n.pk.an,.int .i64 n.pk.px,.int .i64 n.pk.py])) (ho:op.op=.load 86 x) (hw:Region.wanted op (yielded ops a.tmps)=true) (hx:a.eval x=.pointer (some ⟨b,o,none⟩)) (h:wpList Tryz.prog ops Q rest (a.put op.dst (.agg [.int .i64 n.pk.w,.int .i64 n.pk.h,.int .i64 n.pk.s,.bool n.pk.fx,.bool n.pk.fy,.bool n.pk.ex,.int .i64 n.pk.an,.int .i64 n.pk.px,.int .i64 n.pk.py].toArray)) w):wpList Tryz.prog ops Q (op :: rest) a w :=
 ldPack n b o ho hw hx hc.out h
theorem ldPlaceH {ops:Array Oper} {rest:List Oper} {op:Oper} {a:Act} {w:World} {Q:Exit→Act→World→Prop} {x:Operand} {n:Nd} {b o:Nat} (hc:Go.RowKit.Hid (w.rangeAt b o [.int .i64 n.pl.x,.int .i64 n.pl.y,.int .i64 n.pl.rx,.int .i64 n.pl.ry,.int .i64 n.pl.ww,.int .i64 n.pl.hh,.int .i64 n.pl.qw,.int .i64 n.pl.qh,.int .i64 n.pl.an])) (ho:op.op=.load 88 x) (hw:Region.wanted op (yielded ops a.tmps)=true) (hx:a.eval x=.pointer (some ⟨b,o,none⟩)) (h:wpList Tryz.prog ops Q rest (a.put op.dst (.agg [.int .i64 n.pl.x,.int .i64 n.pl.y,.int .i64 n.pl.rx,.int .i64 n.pl.ry,.int .i64 n.pl.ww,.int .i64 n.pl.hh,.int .i64 n.pl.qw,.int .i64 n.pl.qh,.int .i64 n.pl.an].toArray)) w):wpList Tryz.prog ops Q (op :: rest) a w :=
 ldPlace n b o ho hw hx hc.out h
theorem ldCellH {ops:Array Oper} {rest:List Oper} {op:Oper} {a:Act} {w:World} {Q:Exit→Act→World→Prop} {x:Operand} {n:Nd} {b o:Nat} (hc:Go.RowKit.Hid (w.rangeAt b o [.int .i64 n.ce.co,.int .i64 n.ce.ro,.int .i64 n.ce.mc,.int .i64 n.ce.mr,.int .i64 n.ce.cw,.int .i64 n.ce.ch,.int .i64 n.ce.sk,.int .i64 n.ce.px,.int .i64 n.ce.py])) (ho:op.op=.load 87 x) (hw:Region.wanted op (yielded ops a.tmps)=true) (hx:a.eval x=.pointer (some ⟨b,o,none⟩)) (h:wpList Tryz.prog ops Q rest (a.put op.dst (.agg [.int .i64 n.ce.co,.int .i64 n.ce.ro,.int .i64 n.ce.mc,.int .i64 n.ce.mr,.int .i64 n.ce.cw,.int .i64 n.ce.ch,.int .i64 n.ce.sk,.int .i64 n.ce.px,.int .i64 n.ce.py].toArray)) w):wpList Tryz.prog ops Q (op :: rest) a w :=
 ldCell n b o ho hw hx hc.out h
theorem hrs {w:World} {b:Nat} {p:Nr} {T:TypeId} {fz:Nat × Nat} (h:w.heap[b]?=some (.cells (valsNr p).toArray T fz)):Go.RowKit.Hid (w.rangeAt b 0 (valsNr p))∧Go.RowKit.Hid (w.rangeAt b 7 [.int .i64 p.n.pk.w,.int .i64 p.n.pk.h,.int .i64 p.n.pk.s,.bool p.n.pk.fx,.bool p.n.pk.fy,.bool p.n.pk.ex,.int .i64 p.n.pk.an,.int .i64 p.n.pk.px,.int .i64 p.n.pk.py])∧Go.RowKit.Hid (w.rangeAt b 25 [.int .i64 p.n.pl.x,.int .i64 p.n.pl.y,.int .i64 p.n.pl.rx,.int .i64 p.n.pl.ry,.int .i64 p.n.pl.ww,.int .i64 p.n.pl.hh,.int .i64 p.n.pl.qw,.int .i64 p.n.pl.qh,.int .i64 p.n.pl.an])∧Go.RowKit.Hid (w.rangeAt b 16 [.int .i64 p.n.ce.co,.int .i64 p.n.ce.ro,.int .i64 p.n.ce.mc,.int .i64 p.n.ce.mr,.int .i64 p.n.ce.cw,.int .i64 p.n.ce.ch,.int .i64 p.n.ce.sk,.int .i64 p.n.ce.px,.int .i64 p.n.ce.py]) :=
 ⟨hD (nodeAt h),hD (by simpa only [Nat.zero_add] using node_pk (nodeAt h)),hD (by simpa only [Nat.zero_add] using node_pl (nodeAt h)),hD (by simpa only [Nat.zero_add] using node_ce (nodeAt h))⟩
theorem xs0_1_2_4_5_6_7_8_20_21 {w:World} {b:Nat} {p:Nr} {T:TypeId} {fz:Nat × Nat} (h:w.heap[b]?=some (.cells (valsNr p).toArray T fz)):w.cell? ⟨b,0,none⟩=some (.int .i64 p.n.pa)∧w.cell? ⟨b,1,none⟩=some (.int .i64 p.n.ww)∧w.cell? ⟨b,2,none⟩=some (.int .i64 p.n.hh)∧w.cell? ⟨b,4,none⟩=some (.int .i64 p.n.ki)∧w.cell? ⟨b,5,none⟩=some (.slice p.ca p.n.cs.length p.cc)∧w.cell? ⟨b,6,none⟩=some (.slice p.ra p.n.rs.length p.rc)∧w.cell? ⟨b,7,none⟩=some (.int .i64 p.n.pk.w)∧w.cell? ⟨b,8,none⟩=some (.int .i64 p.n.pk.h)∧w.cell? ⟨b,20,none⟩=some (.int .i64 p.n.ce.cw)∧w.cell? ⟨b,21,none⟩=some (.int .i64 p.n.ce.ch):=⟨cellS h 0,cellS h 1,cellS h 2,cellS h 4,cellS h 5,cellS h 6,cellS h 7,cellS h 8,cellS h 20,cellS h 21⟩
theorem xs1_2_4_7_8_20_21 {w:World} {b:Nat} {p:Nr} {T:TypeId} {fz:Nat × Nat} (h:w.heap[b]?=some (.cells (valsNr p).toArray T fz)):w.cell? ⟨b,1,none⟩=some (.int .i64 p.n.ww)∧w.cell? ⟨b,2,none⟩=some (.int .i64 p.n.hh)∧w.cell? ⟨b,4,none⟩=some (.int .i64 p.n.ki)∧w.cell? ⟨b,7,none⟩=some (.int .i64 p.n.pk.w)∧w.cell? ⟨b,8,none⟩=some (.int .i64 p.n.pk.h)∧w.cell? ⟨b,20,none⟩=some (.int .i64 p.n.ce.cw)∧w.cell? ⟨b,21,none⟩=some (.int .i64 p.n.ce.ch):=⟨cellS h 1,cellS h 2,cellS h 4,cellS h 7,cellS h 8,cellS h 20,cellS h 21⟩
structure CpR (lo:Nat) (w:World) (R S:List Nr):Prop where
 len:S.length=R.length
 each:∀ (i:Nat) (p q:Nr),R[i]?=some p→S[i]?=some q→CpN lo w p q
 apart:∀ (i j:Nat) (q r:Nr),i<j→S[i]?=some q→S[j]?=some r→∀ a b:Addr,(q.ca=some a∨q.ra=some a)→(r.ca=some b∨r.ra=some b)→a.block<b.block
theorem CpR.keep {lo:Nat} {w w':World} {R S:List Nr} (h:CpR lo w R S) (hb:Below w.heap.size w w'):CpR lo w' R S:=⟨h.len,fun i p q hp hq=>(h.each i p q hp hq).keep hb,h.apart⟩
theorem CpR.but {lo z:Nat} {w w':World} {R S:List Nr} (h:CpR lo w R S) (hg:w.grownBy w' (some z)) (hz:z<lo):CpR lo w' R S:=⟨h.len,fun i p q hp hq=>(h.each i p q hp hq).but hg hz,h.apart⟩
theorem CpR.nil (lo:Nat) (w:World):CpR lo w [] []:=⟨rfl,fun i p q hp _=>by simp at hp,fun i j q r _ hq _=>by simp at hq⟩
theorem CpN.blk {lo:Nat} {w:World} {p q:Nr} (h:CpN lo w p q) {a:Addr} (ha:q.ca=some a∨q.ra=some a):lo≤a.block∧a.block<w.heap.size:=by
 obtain ⟨g1,g2,rfl,h1,h2,h3,h4⟩:=h;have l3:=h3.lt;have l4:=h4.lt
 rcases ha with ha | ha
 ·have e:(⟨g1,0,none⟩:Addr)=a:=Option.some.inj ha;subst e;exact ⟨h1,l3⟩
 ·have e:(⟨g2,0,none⟩:Addr)=a:=Option.some.inj ha;subst e;exact ⟨Nat.le_trans h1 (Nat.le_of_lt h2),l4⟩
theorem CpN.lo' {lo lo':Nat} {w:World} {p q:Nr} (h:CpN lo' w p q) (hl:lo≤lo'):CpN lo w p q:=by
 obtain ⟨g1,g2,e,h1,h2,h3,h4⟩:=h;exact ⟨g1,g2,e,Nat.le_trans hl h1,h2,h3,h4⟩
theorem CpR.snoc {lo:Nat} {w w':World} {R S:List Nr} {k:Nat} {p q:Nr} (h:CpR lo w (R.take k) S) (hp:R[k]?=some p) (hb:Below w.heap.size w w') (hq:CpN w.heap.size w' p q) (hl:lo≤w.heap.size):CpR lo w' (R.take (k+1)) (S ++ [q]):=by
 have hk:k<R.length:=(List.getElem?_eq_some_iff.1 hp).1
 have hls:S.length=k:=by rw [h.len,List.length_take];omega
 refine ⟨by rw [List.length_append,hls,List.length_take];simp;omega,fun i p' q' h1 h2=>?_,fun i j q1 r1 hij h1 h2 a b ha hb'=>?_⟩
 ·rw [List.getElem?_take] at h1
  split at h1
  ·rename_i hi
   by_cases e:i=k
   ·subst e;rw [hp] at h1;rw [List.getElem?_append_right (by omega),hls] at h2
    simp at h1 h2
    subst h1 h2;exact hq.lo' hl
   ·rw [List.getElem?_append_left (by omega)] at h2;exact (h.each i p' q' (by rw [List.getElem?_take,if_pos (by omega)];exact h1) h2).keep hb
  ·cases h1
 ·have hj:=(List.getElem?_eq_some_iff.1 h2).1
  simp at hj
  by_cases e:j=k
  ·subst e;rw [List.getElem?_append_right (by omega),hls] at h2
   simp at h2
   subst h2;rw [List.getElem?_append_left (by omega)] at h1
   obtain ⟨p',hp'⟩:∃ p',(R.take j)[i]?=some p':=⟨_,List.getElem?_eq_getElem (by rw [<- h.len];omega)⟩
   have b1:=(h.each i p' q1 hp' h1).blk ha;have b2:=hq.blk hb';omega
  ·rw [List.getElem?_append_left (by omega)] at h2;rw [List.getElem?_append_left (by omega)] at h1;exact h.apart i j q1 r1 hij h1 h2 a b ha hb'
theorem CpR.rd {lo:Nat} {w:World} {R S:List Nr} (h:CpR lo w R S):RdR w S:=fun q hq=>by
 obtain ⟨i,hi,hq⟩:=List.getElem_of_mem hq
 have h2:S[i]?=some q:=by rw [List.getElem?_eq_getElem hi,hq]
 have hi':i<R.length:=by rw [<- h.len];exact hi
 exact (h.each i _ q (List.getElem?_eq_getElem hi') h2).rd
theorem CpR.map {lo:Nat} {w:World} {R S:List Nr} (h:CpR lo w R S):S.map Nr.n=R.map Nr.n:=by
 apply List.ext_getElem?;intro i;rw [List.getElem?_map,List.getElem?_map]
 cases hp:R[i]? with
 | none =>
  have:=List.getElem?_eq_none_iff.1 hp
  rw [List.getElem?_eq_none (by rw [h.len];exact this)]
 | some p =>
  have hi:=(List.getElem?_eq_some_iff.1 hp).1
  have hi':i<S.length:=by rw [h.len];exact hi
  have hs:S[i]?=some S[i]:=List.getElem?_eq_getElem hi';rw [hs];simp only [Option.map_some];rw [(h.each i p _ hp hs).n]
theorem toNodeS_any (A:Option Addr) (c:Nat) (R:List Nr) (w:World) (h:NrV w A R) (hr:RdR w R) (hL:R.length≤1048576) (hk:∀ p∈R,p.n.cs.length≤1048576∧p.n.rs.length≤1048576) :
  Calls Tryz.prog 31 #[.slice A R.length c] w fun e w'=>(∃ S,e=.returned (.slice (some ⟨w.heap.size,0,none⟩) R.length R.length)∧NrB w' w.heap.size S∧CpR (w.heap.size+1) w' R S)∧Below w.heap.size w w':=by
 obtain ⟨f,hf,hmk0⟩:=madeNr
 have hmk:∀ w:World,(Instr.makeSlice 28 (.int .i64 (R.length:Int)) (.int .i64 (R.length:Int))).run Tryz.prog w=.ok (.slice (some ⟨w.heap.size,0,none⟩) R.length R.length) (w.alloc (.cells (f R.length) 90)):=fun w=>hmk0 R.length w hL
 have HRD:=hD hr;have HKK:=hD hk;clear hr hk
 go_enter Tryz.func31,Tryz.ntmps31
 go_wp2_with fail
 have HWW:Hid (∃ cs:Array Value,(w.alloc (.cells (f R.length) 90)).heap[w.heap.size]?=some (.cells cs 90 (0,0))∧cs.size=R.length*34∧∀ i p,i<0→([]:List Nr)[i]?=some p→InS cs (i*34) (valsNr p)):=hD ⟨_,newS _ _,hf _,fun i p hi=>absurd hi (by omega)⟩;clear hmk hmk0 hf
 go_loopw [4] (fun i wr=>∃ (k:Nat) (S:List Nr),k≤R.length∧i=.int .i64 k∧(∃ cs:Array Value,wr.heap[w.heap.size]?=some (.cells cs 90 (0,0))∧cs.size=R.length*34∧∀ i p,i<k→S[i]?=some p→InS cs (i*34) (valsNr p))∧CpR (w.heap.size+1) wr (R.take k) S∧Below w.heap.size w wr∧w.heap.size+1≤wr.heap.size) (fun i _=>R.length-(intOf i).toNat)
 case atStart=>exact ⟨0,[],by omega,rfl,HWW.out,by simpa using CpR.nil _ _,balloc (Below.refl _ _),by simp⟩
 case round =>
  obtain ⟨k,S,hk,rfl,⟨cs,hh,hs,hc⟩,hcp,hB,hsz⟩:=hrel;clear HWW
  by_cases hlt:k<R.length
  ·have hd:decide ((k:Int)<(R.length:Int))=true:=by simpa using hlt
   have hget:R[k]?=some R[k]:=List.getElem?_eq_getElem hlt;obtain ⟨b,off,rfl,hb,hp⟩:=(h.keep hB).cells (by omega);have hL:=hp k _ hget;have hrd:=(HRD.out.keep hB) _ (List.mem_of_getElem? hget);have hkk:=HKK.out _ (List.mem_of_getElem? hget);generalize R[k]=p at *;have HLR:=hD hL;have HG:=hD hget;have HH:=hD hh;have HS:=hD hs;have HC:=hD hc;have HB:=hD hB;have HCP:=hD hcp;have HSZ:=hD hsz
   clear hget hh hs hc hB hp hL hcp hsz;obtain ⟨kk1,kk2⟩:=hkk
   go_wp2_with (refine ldL _ p b (off+k*34) rfl rfl rfl HLR.out ?_)
   with_reducible refine (toNode_v p _ hrd kk1 kk2).mono ?_
   rintro e w1 ⟨⟨q,rfl,hq⟩,hb1⟩;have hlg:w.heap.size<wr.heap.size:=ltS HH.out;have HK2:=hD (HCP.out.snoc HG.out hb1 hq HSZ.out);replace HH:=hD ((hb1.block _ hlg).trans HH.out);replace HB:=hD (bkeep2 HB.out hb1);have hs1:=hb1.size;have HS1:=hD hs1;clear hb1 hlg hrd hq HLR hs1
   have hsz:k*34+34≤cs.size:=by rw [HS.out];omega
   have E1:=hD (heap_setCells (valsNr q) (k*34) _ _ HH.out);have E2:=hD (below_setCells (Nat.le_refl _) (valsNr q) (k*34) _ HB.out)
   have hls:S.length=k:=by rw [HCP.out.len,List.length_take];omega
   have HLS:=hD hls;clear hls;go_simp
   go_step
   go_step
   go_step
   go_step
   refine stN (cs:=cs) (T:=90) (.tmp 21) (.tmp 20) q w.heap.size (k*34) rfl rfl rfl rfl HH.out hsz ?_;go_wp2
   go_roundw
   case rel =>
    refine ⟨k+1,S ++ [q],by omega,by go_num,⟨_,E1.out,(wrAt_size _ _ _).trans HS.out,fun i r hi hr=>?_⟩,HK2.out.but (grown_setCells _ _ _ (greflS _ _)) (by omega),E2.out,by rw [size_setCellsT];have:=HS1.out;have:=HSZ.out;omega⟩
    by_cases e:i=k
    ·subst e;rw [List.getElem?_append_right (by rw [HLS.out];omega),HLS.out] at hr
     simp at hr
     subst hr;exact InS.write (by rw [valsNr_len];omega)
    ·rw [List.getElem?_append_left (by rw [HLS.out];omega)] at hr;exact (HC.out i r (by omega) hr).keepS (.inl (by rw [valsNr_len];omega))
   case measure=>simp [intOf];omega
  ·have hd:decide ((k:Int)<(R.length:Int))=false:=decide_eq_false (by omega)
   obtain rfl:k=R.length:=by omega
   rw [List.take_length] at hcp;have HR:=hD (show NrB wr w.heap.size S from ⟨cs,hh,by rw [hcp.len];exact hs,fun i p hp=>hc i p (by rw [<- hcp.len];exact (List.getElem?_eq_some_iff.1 hp).1) hp⟩);have HCP:=hD hcp;have HB:=hD hB;clear hh hs hc hB hcp;go_wp2;go_ret;exact ⟨⟨S,rfl,HR.out,HCP.out⟩,HB.out⟩
def TB (lo:Nat) (w:World) (v:Value) (R S:List Nr):Prop:=∃ g:Nat,v=.agg #[.slice (some ⟨g,0,none⟩) R.length R.length]∧lo≤g∧NrB w g S∧CpR (g+1) w R S
theorem TB.keep {lo:Nat} {w w':World} {v:Value} {R S:List Nr} (h:TB lo w v R S) (hb:Below w.heap.size w w'):TB lo w' v R S:=by
 obtain ⟨g,e,h1,h2,h3⟩:=h;exact ⟨g,e,h1,h2.keep hb,h3.keep hb⟩
theorem toTree_v (A:Option Addr) (c:Nat) (R:List Nr) (w:World) (h:NrV w A R) (hr:RdR w R) (hL:R.length≤1048576) (hk:∀ p∈R,p.n.cs.length≤1048576∧p.n.rs.length≤1048576) :
  Calls Tryz.prog 10 #[.agg #[.slice A R.length c]] w fun e w'=>(∃ v S,e=.returned v∧TB w.heap.size w' v R S)∧Below w.heap.size w w':=by
 have HA:=hD (And.intro h (And.intro hr hk));clear h hr hk
 go_enter Tryz.func10,Tryz.ntmps10
 go_upto_region 2 with (fail)
 refine wp_genGG (fun W=>W.heap[w.heap.size]?=some (.cells #[.slice A R.length c] 24 (0,0))∧W.heap[w.heap.size+1]?=some (.cells #[.slice none 0 0] 30 (0,0))∧W.heap[w.heap.size+1+1]?=some (.cells #[.slice none 0 0] 30 (0,0))∧Below w.heap.size w W) ⟨(Below.heap_alloc _ _ w.heap.size (by simp;omega)).trans ((Below.heap_alloc _ _ w.heap.size (by simp)).trans (newS w _)),(Below.heap_alloc _ _ (w.heap.size+1) (by simp)).trans (newS1T w _ _),newS2T w _ _ _,balloc (balloc (balloc (Below.refl _ _)))⟩ (fun W0 h0=>?_)
 obtain ⟨hx,hy,hz,hb⟩:=h0;have HX:=hD hx;have HY:=hD hy;have HZ:=hD hz;have HB:=hD hb;clear hx hy hz hb;have d:=cellS HX.out 0;have lz:=ltS HZ.out
 go_wp2_with fail
 with_reducible refine (toNodeS_any A c R _ (HA.out.1.keep HB.out) (HA.out.2.1.keep HB.out) hL HA.out.2.2).mono ?_
 rintro e w1 ⟨⟨S,rfl,hk,hcp⟩,hb⟩;clear d;replace HX:=hbk hb HX;replace HY:=hbk hb HY;replace HZ:=hbk hb HZ;replace HB:=hD (bkeep2 HB.out hb);clear hb;have HK:=hD hk;have HCP:=hD hcp;clear hk hcp;have z:=cellS HZ.out 0;have zf:=frozenS HZ.out 0
 have ne:W0.heap.size≠w.heap.size+1+1:=by omega
 have p:=putS (i:=0) HZ.out (.slice (some ⟨W0.heap.size,0,none⟩) R.length R.length);simp only [List.setIfInBounds_toArray,List.set_cons_succ,List.set_cons_zero] at p;have HP:=hD p;have HNE:=hD ne;clear p ne
 go_upto_region 3 with (fail)
 refine wp_genGG (fun W=>W.heap[w.heap.size+1]?=some (.cells #[.slice none 0 0] 30 (0,0))∧W.heap[w.heap.size+1+1]?=some (.cells #[.slice (some ⟨W0.heap.size,0,none⟩) R.length R.length] 30 (0,0))∧Below w.heap.size w W∧NrB W W0.heap.size S∧CpR (W0.heap.size+1) W R S) ⟨(Below.heap_setCell _ _ _ (w.heap.size+1) (by simp)).trans HY.out,HP.out,HB.out.setCell (p:=⟨w.heap.size+1+1,0,none⟩) (by simp;omega) _,HK.out.but (gsetS (greflS _ (w.heap.size+1+1)) 0 _) HNE.out,HCP.out.but (gsetS (greflS _ (w.heap.size+1+1)) 0 _) (by omega)⟩ (fun W1 h0=>?_)
 clear HX HY HZ HB HP z zf HK HCP;obtain ⟨hy,hz,hb,hk,hcp⟩:=h0;have HY:=hD hy;have HZ:=hD hz;have HB:=hD hb;have HK:=hD hk;have HCP:=hD hcp;clear hy hz hb hk hcp;have z0:=cellS HZ.out 0;have y0:=cellS HY.out 0;have f0:=frozenS HY.out 0;have p:=putS (i:=0) HY.out (.slice (some ⟨W0.heap.size,0,none⟩) R.length R.length);simp only [List.setIfInBounds_toArray,List.set_cons_succ,List.set_cons_zero] at p
 have HP:=hD p;clear p;go_wp2
 refine bp_genG (fun W=>W.heap[w.heap.size+1]?=some (.cells #[.slice (some ⟨W0.heap.size,0,none⟩) R.length R.length] 30 (0,0))∧Below w.heap.size w W∧NrB W W0.heap.size S∧CpR (W0.heap.size+1) W R S) ⟨HP.out,HB.out.setCell (p:=⟨w.heap.size+1,0,none⟩) (by simp) _,HK.out.but (gsetS (greflS _ (w.heap.size+1)) 0 _) (by omega),HCP.out.but (gsetS (greflS _ (w.heap.size+1)) 0 _) (by omega)⟩ ?_
 clear HY HZ HB HP HK HCP z0 y0 f0;rintro W ⟨hp,hb,hk,hcp⟩;have q0:=cellS hp 0;exact bodyPost_ret (v:=.agg #[.slice (some ⟨W0.heap.size,0,none⟩) R.length R.length]) (by simp only [results,Tryz.results10];go_simp) rfl ⟨⟨_,S,rfl,W0.heap.size,rfl,by omega,hk,hcp⟩,hb⟩
def TA (lo:Nat) (w:World) (v:Value) (R:List Nr):Prop:=∃ S,TB lo w v R S
theorem TA.keep {lo:Nat} {w w':World} {v:Value} {R:List Nr} (h:TA lo w v R) (hb:Below w.heap.size w w'):TA lo w' v R:=let ⟨S,hs⟩:=h;⟨S,hs.keep hb⟩
theorem TA.any {lo:Nat} {w:World} {v:Value} {R:List Nr} (h:TA lo w v R):TA 0 w v R:=by
 obtain ⟨S,g,e,h1,h2,h3⟩:=h;exact ⟨S,g,e,Nat.zero_le _,h2,h3⟩
theorem TA.open {lo:Nat} {w:World} {v:Value} {R:List Nr} (h:TA lo w v R):∃ (g:Nat) (S:List Nr),v=.agg #[.slice (some ⟨g,0,none⟩) R.length R.length]∧lo≤g∧g<w.heap.size∧S.length=R.length∧NrV w (some ⟨g,0,none⟩) S∧RdR w S∧S.map Nr.n=R.map Nr.n∧NrB w g S∧CpR (g+1) w R S:=by
 obtain ⟨S,g,e,h1,h2,h3⟩:=h;exact ⟨g,S,e,h1,h2.lt,h3.len,h2.v,h3.rd,h3.map,h2,h3⟩
theorem toTree_a (A:Option Addr) (c:Nat) (R:List Nr) (w:World) (h:NrV w A R) (hr:RdR w R) (hL:R.length≤1048576) (hk:∀ p∈R,p.n.cs.length≤1048576∧p.n.rs.length≤1048576) :
  Calls Tryz.prog 10 #[.agg #[.slice A R.length c]] w fun e w'=>(∃ v,e=.returned v∧TA w.heap.size w' v R)∧Below w.heap.size w w' :=
 (toTree_v A c R w h hr hL hk).mono fun e w' ⟨⟨v,S,he,hs⟩,hb⟩=>⟨⟨v,he,S,hs⟩,hb⟩
theorem map_mem {R S:List Nr} (h:S.map Nr.n=R.map Nr.n) {B:Nat} (hk:∀ p∈R,p.n.cs.length≤B∧p.n.rs.length≤B):∀ p∈S,p.n.cs.length≤B∧p.n.rs.length≤B:=fun p hp=>by
 have h1:p.n∈R.map Nr.n:=by rw [<- h];exact List.mem_map_of_mem hp
 obtain ⟨q,hq,e⟩:=List.mem_map.1 h1;rw [<- e];exact hk q hq
theorem szL_mem:∀ {R:List Nr} {p:Nr},p∈R→p.n.cs.length≤szL R∧p.n.rs.length≤szL R
 | q :: t,p,h=>by
  rcases List.mem_cons.1 h with rfl | h
  ·simp only [szL];omega
  ·have:=szL_mem h;simp only [szL];omega
 | [],p,h=>by simp at h
def Pk.ok (p:Pk):Bool:=vpB p.w p.h p.s p.an p.px p.py
def Pk.down (p:Pk):Bool:=decide (p.s=0∨p.s=1)
def Pk.need (p:Pk) (d:Bool):Int:=if d then p.h+2*p.py else p.w+2*p.px
def Pk.big (p:Pk):Prop:=((0≤p.w∧p.w≤1000000000000)∧(0≤p.h∧p.h≤1000000000000)∧(0≤p.s∧p.s≤3)∧(0≤p.an∧p.an≤8)∧(0≤p.px∧p.px≤10)∧(0≤p.py∧p.py≤10))
theorem Pk.need_bdW {p:Pk} (h:p.big) (d:Bool):0≤p.need d∧p.need d≤1000000000020:=by
 unfold Pk.big at h;unfold Pk.need
 split <;> omega
def Cells9 (w:World) (b o:Nat) (p:Pk):Prop :=
 w.cell? ⟨b,o,none⟩=some (.int .i64 p.w)∧w.cell? ⟨b,o+1,none⟩=some (.int .i64 p.h)∧w.cell? ⟨b,o+2,none⟩=some (.int .i64 p.s)∧w.cell? ⟨b,o+3,none⟩=some (.bool p.fx)∧w.cell? ⟨b,o+4,none⟩=some (.bool p.fy) ∧
 w.cell? ⟨b,o+5,none⟩=some (.bool p.ex)∧w.cell? ⟨b,o+6,none⟩=some (.int .i64 p.an)∧w.cell? ⟨b,o+7,none⟩=some (.int .i64 p.px)∧w.cell? ⟨b,o+8,none⟩=some (.int .i64 p.py)
def PS (w:World) (b off:Nat) (L:List Pk):Prop:=∀ i p,L[i]?=some p→Cells9 w b (off+i*9) p
structure PV (w:World) (A:Option Addr) (L:List Pk):Prop where
 cells:0<L.length→∃ b off,A=some ⟨b,off,none⟩∧b<w.heap.size∧PS w b off L
theorem Cells9.keep {w w':World} {b o:Nat} {p:Pk} (h:Cells9 w b o p) (hb:w'.heap[b]?=w.heap[b]?):Cells9 w' b o p:=by
 have e:∀ i,w'.cell? ⟨b,i,none⟩=w.cell? ⟨b,i,none⟩:=fun i=>World.cell?_of_block (a:=⟨b,i,none⟩) hb
 unfold Cells9 at *
 simpa only [e] using h
theorem PV.keep {w w':World} {A:Option Addr} {L:List Pk} (h:PV w A L) (hb:Below w.heap.size w w'):PV w' A L :=
 ⟨fun h0=>let ⟨b,off,e,hl,hp⟩:=h.cells h0;⟨b,off,e,Nat.lt_of_lt_of_le hl hb.size,fun i p hi=>(hp i p hi).keep (hb.block b hl)⟩⟩
theorem svp_v (p:Pk) (b:Bool) (h:p.ok=b) (w:World):Calls Tryz.prog 106 #[.agg #[.int .i64 p.w,.int .i64 p.h,.int .i64 p.s,.bool p.fx,.bool p.fy,.bool p.ex,.int .i64 p.an,.int .i64 p.px,.int .i64 p.py]] w fun e w'=>e=.returned (.bool b)∧Below w.heap.size w w':=by
 rw [<- h];exact specValidPack_any _ _ _ _ _ _ _ _ _ _
theorem vp_v (p:Pk) (b:Bool) (h:p.ok=b) (w:World):Calls Tryz.prog 124 #[.agg #[.int .i64 p.w,.int .i64 p.h,.int .i64 p.s,.bool p.fx,.bool p.fy,.bool p.ex,.int .i64 p.an,.int .i64 p.px,.int .i64 p.py]] w fun e w'=>e=.returned (.bool b)∧Below w.heap.size w w':=by
 rw [<- h];exact validPack_any _ _ _ _ _ _ _ _ _ _

def writeAt (cs:Array Value) (o:Nat):List Value→Array Value
 | []=>cs
 | v :: r=>writeAt (cs.setIfInBounds o v) (o+1) r
theorem writeAt_size:∀ (vs:List Value) (cs:Array Value) (o:Nat),(writeAt cs o vs).size=cs.size
 | [],cs,o=>rfl
 | v :: r,cs,o=>by unfold writeAt;rw [writeAt_size r];simp
theorem writeAt_lo:∀ (vs:List Value) (cs:Array Value) (o i:Nat),i<o→(writeAt cs o vs)[i]?=cs[i]?
 | [],cs,o,i,_=>rfl
 | v :: r,cs,o,i,h=>by unfold writeAt;rw [writeAt_lo r _ _ _ (by omega),Array.getElem?_setIfInBounds_ne (by omega)]
theorem writeAt_hi:∀ (vs:List Value) (cs:Array Value) (o i:Nat),o+vs.length≤i→(writeAt cs o vs)[i]?=cs[i]?
 | [],cs,o,i,_=>rfl
 | v :: r,cs,o,i,h=>by
  simp only [List.length_cons] at h;unfold writeAt;rw [writeAt_hi r _ _ _ (by omega),Array.getElem?_setIfInBounds_ne (by omega)]
theorem writeAt_in:∀ (vs:List Value) (cs:Array Value) (o j:Nat),o+vs.length≤cs.size→j<vs.length→(writeAt cs o vs)[o+j]?=vs[j]?
 | [],cs,o,j,_,h=>by simp at h
 | v :: r,cs,o,0,h,_=>by
  simp only [List.length_cons] at h;unfold writeAt;rw [writeAt_lo r _ _ _ (by omega),Nat.add_zero,Array.getElem?_setIfInBounds_self_of_lt (by omega)]
  rfl
 | v :: r,cs,o,j+1,h,hj=>by
  simp only [List.length_cons] at h hj;unfold writeAt;rw [show o+(j+1)=o+1+j from by omega,writeAt_in r _ _ _ (by simp;omega) (by omega)]
  simp
theorem pput1 {w:World} {b i:Nat} {cs:Array Value} {T:TypeId} {fz:Nat × Nat} (h:w.heap[b]?=some (.cells cs T fz)) (u:Value):(w.setCell ⟨b,i,none⟩ u).heap[b]?=some (.cells (cs.setIfInBounds i u) T fz):=by
 simp [World.setCell,Array.getElem?_modify,h]
theorem there {w:World} {b:Nat} {cs:Array Value} {T:TypeId} {fz:Nat × Nat} (h:w.heap[b]?=some (.cells cs T fz)) {i:Nat} (hi:i<cs.size):∃ v,w.cell? ⟨b,i,none⟩=some v :=
 ⟨cs[i],(cellH h i).trans (by simp [hi])⟩
theorem frozenH {w:World} {b:Nat} {cs:Array Value} {T:TypeId} (h:w.heap[b]?=some (.cells cs T (0,0))) (i:Nat):w.frozen? ⟨b,i,none⟩=false:=by simp [World.frozen?,h]

theorem eqPack_same (p:Pk) (w:World):Calls Tryz.prog 101 #[.agg #[.int .i64 p.w,.int .i64 p.h,.int .i64 p.s,.bool p.fx,.bool p.fy,.bool p.ex,.int .i64 p.an,.int .i64 p.px,.int .i64 p.py],.agg #[.int .i64 p.w,.int .i64 p.h,.int .i64 p.s,.bool p.fx,.bool p.fy,.bool p.ex,.int .i64 p.an,.int .i64 p.px,.int .i64 p.py]] w fun e w'=>e=.returned (.bool true)∧Below w.heap.size w w':=by
 go_enter Tryz.func101,Tryz.ntmps101
 go_wp2;go_ret;exact ⟨rfl,balloc (balloc (Below.refl _ _))⟩
theorem eqNode_same (n:Nd) (ca:Option Addr) (cc:Nat) (ra:Option Addr) (rc:Nat) (da:Option Addr) (dc:Nat) (sa:Option Addr) (sc:Nat) (w:World) (h1:LnV w ca n.cs) (h2:LnV w ra n.rs) (k1:LnV w da n.cs) (k2:LnV w sa n.rs) (m1:n.cs.length≤1048576) (m2:n.rs.length≤1048576) :
  Calls Tryz.prog 66 #[.agg (valsNr ⟨n,ca,cc,ra,rc⟩).toArray,.agg (valsNr ⟨n,da,dc,sa,sc⟩).toArray] w fun e w'=>e=.returned (.bool true)∧Below w.heap.size w w':=by
 have hB0:Below w.heap.size w ((w.alloc (.cells (valsNr ⟨n,ca,cc,ra,rc⟩).toArray 90 (0,0))).alloc (.cells (valsNr ⟨n,da,dc,sa,sc⟩).toArray 90 (0,0))):=balloc (balloc (Below.refl _ _));have HX:=hD ((Below.heap_alloc _ (.cells (valsNr ⟨n,da,dc,sa,sc⟩).toArray 90 (0,0)) w.heap.size (by simp)).trans (newS w (.cells (valsNr ⟨n,ca,cc,ra,rc⟩).toArray 90 (0,0))))
 have HY:=hD (newS1T w (.cells (valsNr ⟨n,ca,cc,ra,rc⟩).toArray 90 (0,0)) (.cells (valsNr ⟨n,da,dc,sa,sc⟩).toArray 90 (0,0)));have HV1:=hD (h1.keep hB0);have HV2:=hD (h2.keep hB0);have HK1:=hD (k1.keep hB0);have HK2:=hD (k2.keep hB0);have HB:=hD hB0;clear hB0 h1 h2 k1 k2
 have x0:((w.alloc (.cells (valsNr ⟨n,ca,cc,ra,rc⟩).toArray 90 (0,0))).alloc (.cells (valsNr ⟨n,da,dc,sa,sc⟩).toArray 90 (0,0))).cell? ⟨w.heap.size,0,none⟩=some (.int .i64 n.pa):=cellS HX.out 0;have y0:((w.alloc (.cells (valsNr ⟨n,ca,cc,ra,rc⟩).toArray 90 (0,0))).alloc (.cells (valsNr ⟨n,da,dc,sa,sc⟩).toArray 90 (0,0))).cell? ⟨w.heap.size+1,0,none⟩=some (.int .i64 n.pa):=cellS HY.out 0
 have x1:((w.alloc (.cells (valsNr ⟨n,ca,cc,ra,rc⟩).toArray 90 (0,0))).alloc (.cells (valsNr ⟨n,da,dc,sa,sc⟩).toArray 90 (0,0))).cell? ⟨w.heap.size,1,none⟩=some (.int .i64 n.ww):=cellS HX.out 1;have y1:((w.alloc (.cells (valsNr ⟨n,ca,cc,ra,rc⟩).toArray 90 (0,0))).alloc (.cells (valsNr ⟨n,da,dc,sa,sc⟩).toArray 90 (0,0))).cell? ⟨w.heap.size+1,1,none⟩=some (.int .i64 n.ww):=cellS HY.out 1
 have x2:((w.alloc (.cells (valsNr ⟨n,ca,cc,ra,rc⟩).toArray 90 (0,0))).alloc (.cells (valsNr ⟨n,da,dc,sa,sc⟩).toArray 90 (0,0))).cell? ⟨w.heap.size,2,none⟩=some (.int .i64 n.hh):=cellS HX.out 2;have y2:((w.alloc (.cells (valsNr ⟨n,ca,cc,ra,rc⟩).toArray 90 (0,0))).alloc (.cells (valsNr ⟨n,da,dc,sa,sc⟩).toArray 90 (0,0))).cell? ⟨w.heap.size+1,2,none⟩=some (.int .i64 n.hh):=cellS HY.out 2
 have x3:((w.alloc (.cells (valsNr ⟨n,ca,cc,ra,rc⟩).toArray 90 (0,0))).alloc (.cells (valsNr ⟨n,da,dc,sa,sc⟩).toArray 90 (0,0))).cell? ⟨w.heap.size,3,none⟩=some (.bool n.ke):=cellS HX.out 3;have y3:((w.alloc (.cells (valsNr ⟨n,ca,cc,ra,rc⟩).toArray 90 (0,0))).alloc (.cells (valsNr ⟨n,da,dc,sa,sc⟩).toArray 90 (0,0))).cell? ⟨w.heap.size+1,3,none⟩=some (.bool n.ke):=cellS HY.out 3
 have x4:((w.alloc (.cells (valsNr ⟨n,ca,cc,ra,rc⟩).toArray 90 (0,0))).alloc (.cells (valsNr ⟨n,da,dc,sa,sc⟩).toArray 90 (0,0))).cell? ⟨w.heap.size,4,none⟩=some (.int .i64 n.ki):=cellS HX.out 4;have y4:((w.alloc (.cells (valsNr ⟨n,ca,cc,ra,rc⟩).toArray 90 (0,0))).alloc (.cells (valsNr ⟨n,da,dc,sa,sc⟩).toArray 90 (0,0))).cell? ⟨w.heap.size+1,4,none⟩=some (.int .i64 n.ki):=cellS HY.out 4
 have x5:((w.alloc (.cells (valsNr ⟨n,ca,cc,ra,rc⟩).toArray 90 (0,0))).alloc (.cells (valsNr ⟨n,da,dc,sa,sc⟩).toArray 90 (0,0))).cell? ⟨w.heap.size,5,none⟩=some (.slice ca n.cs.length cc):=cellS HX.out 5
 have y5:((w.alloc (.cells (valsNr ⟨n,ca,cc,ra,rc⟩).toArray 90 (0,0))).alloc (.cells (valsNr ⟨n,da,dc,sa,sc⟩).toArray 90 (0,0))).cell? ⟨w.heap.size+1,5,none⟩=some (.slice da n.cs.length dc):=cellS HY.out 5
 go_enter Tryz.func66,Tryz.ntmps66
 go_wp2_with fail
 with_reducible refine (eqLnS_same ca da cc dc n.cs _ HV1.out HK1.out m1).mono ?_
 rintro e w1 ⟨rfl,hb⟩;clear x0 y0 x1 y1 x2 y2 x3 y3 x4 y4 x5 y5;replace HX:=hbk hb HX;replace HY:=hbk hb HY;replace HV2:=hD (HV2.out.keep hb);replace HK2:=hD (HK2.out.keep hb);replace HB:=hD (bkeep2 HB.out hb);clear hb;have x6:w1.cell? ⟨w.heap.size,6,none⟩=some (.slice ra n.rs.length rc):=cellS HX.out 6;have y6:w1.cell? ⟨w.heap.size+1,6,none⟩=some (.slice sa n.rs.length sc):=cellS HY.out 6
 go_wp2_with fail
 with_reducible refine (eqLnS_same ra sa rc sc n.rs _ HV2.out HK2.out m2).mono ?_
 rintro e w2 ⟨rfl,hb⟩;clear x6 y6;replace HX:=hbk hb HX;replace HY:=hbk hb HY;replace HB:=hD (bkeep2 HB.out hb);clear hb;have hx:=node_pk (nodeAt HX.out);have hy:=node_pk (nodeAt HY.out);simp only [Nat.zero_add] at hx hy;have HRX:=hD hx;have HRY:=hD hy;clear hx hy
 go_wp2_with (first|(refine wpList_load_mid rfl 86 _ rfl w.heap.size 7 rfl [.int .i64 n.pk.w,.int .i64 n.pk.h,.int .i64 n.pk.s,.bool n.pk.fx,.bool n.pk.fy,.bool n.pk.ex,.int .i64 n.pk.an,.int .i64 n.pk.px,.int .i64 n.pk.py] _ HRX.out Tryz.underlying86 rfl (by kernel_rfl) ?_)|(refine wpList_load_mid rfl 86 _ rfl (w.heap.size+1) 7 rfl [.int .i64 n.pk.w,.int .i64 n.pk.h,.int .i64 n.pk.s,.bool n.pk.fx,.bool n.pk.fy,.bool n.pk.ex,.int .i64 n.pk.an,.int .i64 n.pk.px,.int .i64 n.pk.py] _ HRY.out Tryz.underlying86 rfl (by kernel_rfl) ?_))
 with_reducible refine (eqPack_same n.pk _).mono ?_
 rintro e w3 ⟨rfl,hb⟩;clear HRX HRY;replace HX:=hbk hb HX;replace HY:=hbk hb HY;replace HB:=hD (bkeep2 HB.out hb);clear hb;have hx:=node_ce (nodeAt HX.out);have hy:=node_ce (nodeAt HY.out);simp only [Nat.zero_add] at hx hy;have HRX:=hD hx;have HRY:=hD hy;clear hx hy
 go_wp2_with (first|(refine wpList_load_mid rfl 87 _ rfl w.heap.size 16 rfl [.int .i64 n.ce.co,.int .i64 n.ce.ro,.int .i64 n.ce.mc,.int .i64 n.ce.mr,.int .i64 n.ce.cw,.int .i64 n.ce.ch,.int .i64 n.ce.sk,.int .i64 n.ce.px,.int .i64 n.ce.py] _ HRX.out Tryz.underlying87 rfl (by kernel_rfl) ?_)|(refine wpList_load_mid rfl 87 _ rfl (w.heap.size+1) 16 rfl [.int .i64 n.ce.co,.int .i64 n.ce.ro,.int .i64 n.ce.mc,.int .i64 n.ce.mr,.int .i64 n.ce.cw,.int .i64 n.ce.ch,.int .i64 n.ce.sk,.int .i64 n.ce.px,.int .i64 n.ce.py] _ HRY.out Tryz.underlying87 rfl (by kernel_rfl) ?_))
 with_reducible refine (eqCe_same n.ce _).mono ?_
 rintro e w4 ⟨rfl,hb⟩;clear HRX HRY;replace HX:=hbk hb HX;replace HY:=hbk hb HY;replace HB:=hD (bkeep2 HB.out hb);clear hb;have hx:=node_pl (nodeAt HX.out);have hy:=node_pl (nodeAt HY.out);simp only [Nat.zero_add] at hx hy;have HRX:=hD hx;have HRY:=hD hy;clear hx hy
 go_wp2_with (first|(refine wpList_load_mid rfl 88 _ rfl w.heap.size 25 rfl [.int .i64 n.pl.x,.int .i64 n.pl.y,.int .i64 n.pl.rx,.int .i64 n.pl.ry,.int .i64 n.pl.ww,.int .i64 n.pl.hh,.int .i64 n.pl.qw,.int .i64 n.pl.qh,.int .i64 n.pl.an] _ HRX.out Tryz.underlying88 rfl (by kernel_rfl) ?_)|(refine wpList_load_mid rfl 88 _ rfl (w.heap.size+1) 25 rfl [.int .i64 n.pl.x,.int .i64 n.pl.y,.int .i64 n.pl.rx,.int .i64 n.pl.ry,.int .i64 n.pl.ww,.int .i64 n.pl.hh,.int .i64 n.pl.qw,.int .i64 n.pl.qh,.int .i64 n.pl.an] _ HRY.out Tryz.underlying88 rfl (by kernel_rfl) ?_))
 with_reducible refine (eqPlace_same n.pl _).mono ?_
 rintro e w5 ⟨rfl,hb⟩;clear HRX HRY;replace HX:=hbk hb HX;replace HY:=hbk hb HY;replace HB:=hD (bkeep2 HB.out hb);clear hb;go_wp2;go_ret;exact ⟨rfl,HB.out⟩
theorem eqN_w (p q:Nr) (w:World) (hn:q.n=p.n) (hp:RdN w p) (hq:RdN w q) (m1:p.n.cs.length≤1048576) (m2:p.n.rs.length≤1048576) :
  Calls Tryz.prog 66 #[.agg (valsNr p).toArray,.agg (valsNr q).toArray] w fun e w'=>e=.returned (.bool true)∧Below w.heap.size w w':=by
 obtain ⟨n,ca,cc,ra,rc⟩:=p;obtain ⟨n',da,dc,sa,sc⟩:=q;obtain rfl:n'=n:=hn;exact eqNode_same n' ca cc ra rc da dc sa sc w hp.c hp.r hq.c hq.r m1 m2
theorem eqNodeS_same (A B:Option Addr) (c c':Nat) (R S:List Nr) (w:World) (hn:S.map Nr.n=R.map Nr.n) (h:NrV w A R) (h':NrV w B S) (hr:RdR w R) (hs:RdR w S) (hL:R.length≤1048576) (hm:∀ p∈R,p.n.cs.length≤1048576∧p.n.rs.length≤1048576) (k:Nat) (hk:k=R.length) :
  Calls Tryz.prog 36 #[.slice A k c,.slice B k c'] w fun e w'=>e=.returned (.bool true)∧Below w.heap.size w w':=by
 subst hk
 have hls:S.length=R.length:=by have:=congrArg List.length hn;simpa using this
 have HN:=hD hn;have HR:=hD hr;have HS:=hD hs;have HM:=hD hm;have HLS:=hD hls;clear hn hr hs hm hls
 go_enter Tryz.func36,Tryz.ntmps36
 go_wp2_with fail
 go_loopw [5] (fun i wr=>∃ k:Nat,k≤R.length∧i=.int .i64 k∧Below w.heap.size w wr) (fun i _=>R.length-(intOf i).toNat)
 case atStart=>exact ⟨0,by omega,rfl,Below.refl _ _⟩
 case round =>
  obtain ⟨k,hk,rfl,hB⟩:=hrel
  by_cases hlt:k<R.length
  ·have hd:decide ((k:Int)<(R.length:Int))=true:=by simpa using hlt
   have hlt':k<S.length:=by rw [HLS.out];exact hlt
   obtain ⟨b,off,rfl,hb,hp⟩:=(h.keep hB).cells (by omega);obtain ⟨b',off',rfl,hb',hp'⟩:=(h'.keep hB).cells (by omega);have hg1:R[k]?=some R[k]:=List.getElem?_eq_getElem hlt;have hg2:S[k]?=some S[k]:=List.getElem?_eq_getElem hlt';have hr1:=hp k _ hg1;have hr2:=hp' k _ hg2
   have hnn:(S[k]).n=(R[k]).n:=by
    have:=congrArg (fun l=>l[k]?) HN.out
    simpa [List.getElem?_map,hg1,hg2] using this
   have hrd1:=(HR.out.keep hB) _ (List.mem_of_getElem? hg1);have hrd2:=(HS.out.keep hB) _ (List.mem_of_getElem? hg2);have hmm:=HM.out _ (List.mem_of_getElem? hg1);generalize R[k]=p at *;generalize S[k]=q at *;have HR1:=hD hr1;have HR2:=hD hr2;have HNN:=hD hnn;have HBB:=hD hB;have HD1:=hD hrd1;have HD2:=hD hrd2;obtain ⟨mm1,mm2⟩:=hmm;clear hr1 hr2 hnn hB hg1 hg2 hp hp' hrd1 hrd2 hlt'
   go_wp2_with fail
   refine wp_region_grow 10 0 (·<10) (by kernel_rfl) (by kernel_rfl) rfl ?_
   iterate 10 (refine wpG_step (fun K hK=>?_);first|(refine grow_ldN _ p b (off+k*34) rfl rfl rfl hb (rangeB HR1.out rfl) ?_;refine hK _ ?_;clear hK K)|(refine grow_ldN _ q b' (off'+k*34) rfl rfl rfl hb' (rangeB HR2.out rfl) ?_;refine hK _ ?_;clear hK K)|(refine grow_skip rfl ?_;go_simp;refine hK _ ?_;clear hK K)|(apply Exists.intro;refine ⟨.inl ⟨rfl,fun w' hw'=>?_⟩,?_⟩;(focus ((obtain ⟨hc,hf⟩:=bcell hw'.out);(have hcS:=bcellS hw'.out);go_simp <;> first | rfl|(go_at_call 66;exact eqN_w p q _ HNN.out (HD1.out.keep (bdrewn hw'.out)) (HD2.out.keep (bdrewn hw'.out)) mm1 mm2)));(go_simp;refine hK _ ?_;clear hK K)))
   refine wpG_nil ?_;refine wpK_tail (by kernel_rfl) (fun w1 hg1=>?_);have hb1:=bdrewn hg1.out;refine wpAny_end (by kernel_rfl) ?_;refine NoPan.thn ?_;clear hg1;replace HBB:=hD (HBB.out.trans (hb1.mono HBB.out.size));clear hb1;go_wp2
   go_roundw
   case rel=>exact ⟨k+1,by omega,by go_num,HBB.out⟩
   case measure=>simp [intOf];omega
  ·have hd:decide ((k:Int)<(R.length:Int))=false:=decide_eq_false (by omega);have HBB:=hD hB;clear hB;go_wp2;go_ret;exact ⟨rfl,HBB.out⟩
theorem eqTree_same (A B:Option Addr) (c c':Nat) (R S:List Nr) (w:World) (hn:S.map Nr.n=R.map Nr.n) (h:NrV w A R) (h':NrV w B S) (hr:RdR w R) (hs:RdR w S) (hL:R.length≤1048576) (hm:∀ p∈R,p.n.cs.length≤1048576∧p.n.rs.length≤1048576) (k:Nat) (hk:k=R.length) :
  Calls Tryz.prog 13 #[.agg #[.slice A k c],.agg #[.slice B k c']] w fun e w'=>e=.returned (.bool true)∧Below w.heap.size w w':=by
 have hB0:Below w.heap.size w ((w.alloc (.cells #[.slice A k c] 30 (0,0))).alloc (.cells #[.slice B k c'] 30 (0,0))):=balloc (balloc (Below.refl _ _));have hx:=(Below.heap_alloc _ (.cells #[.slice B k c'] 30 (0,0)) w.heap.size (by simp)).trans (newS w (.cells #[.slice A k c] 30 (0,0)));have hy:=newS1T w (.cells #[.slice A k c] 30 (0,0)) (.cells #[.slice B k c'] 30 (0,0));have x0:=cellS hx 0
 have y0:=cellS hy 0;have HA:=hD (And.intro (h.keep hB0) (And.intro (h'.keep hB0) (And.intro (hr.keep hB0) (hs.keep hB0))));have HN:=hD (And.intro hn (And.intro hm hk));have HB:=hD hB0;clear hB0 hx hy hn h h' hr hs hm hk
 go_enter Tryz.func13,Tryz.ntmps13
 go_wp2_with fail
 with_reducible refine (eqNodeS_same A B c c' R S _ HN.out.1 HA.out.1 HA.out.2.1 HA.out.2.2.1 HA.out.2.2.2 hL HN.out.2.1 k HN.out.2.2).mono ?_
 rintro e w1 ⟨rfl,hb⟩;clear x0 y0;replace HB:=hD (bkeep2 HB.out hb);clear hb;go_wp2;go_ret;exact ⟨rfl,HB.out⟩
def mkW (p:Nr):Int:=32+2*p.n.cs.length+2*p.n.rs.length
def mkS:List Nr→Int
 | []=>0
 | p :: t=>mkW p+mkS t
theorem mkS_nn:∀ R,0≤mkS R
 | []=>Int.le_refl _
 | p :: t=>by have:=mkS_nn t;simp only [mkS,mkW];omega
theorem mkS_take:∀ {R:List Nr} {k:Nat} {p:Nr},R[k]?=some p→mkS (R.take (k+1))=mkS (R.take k)+mkW p
 | q :: t,0,p,h=>by simp at h;subst h;simp [mkS]
 | q :: t,k+1,p,h=>by
  simp only [List.getElem?_cons_succ] at h;simp only [List.take_succ_cons,mkS,mkS_take h];omega
 | [],k,p,h=>by simp at h
theorem mkS_le:∀ (R:List Nr) (k:Nat),mkS (R.take k)≤mkS R
 | [],k=>by simp [mkS]
 | q :: t,0=>by have:=mkS_nn (q :: t);simpa [mkS] using this
 | q :: t,k+1=>by have:=mkS_le t k;simp only [List.take_succ_cons,mkS];omega
structure Wi (lo hi:Nat) (w w':World):Prop where
 os:w'.os=w.os
 tape:w'.tape=w.tape
 output:w'.output=w.output
 size:w.heap.size≤w'.heap.size
 block:∀ k,k<w.heap.size→¬ (lo≤k∧k<hi)→w'.heap[k]?=w.heap[k]?
theorem Wi.refl (lo hi:Nat) (w:World):Wi lo hi w w:=⟨rfl,rfl,rfl,Nat.le_refl _,fun _ _ _=>rfl⟩
theorem Wi.grown {lo hi g:Nat} {a w w':World} (h:Wi lo hi a w) (hg:w.grownBy w' (some g)) (hb:(lo≤g∧g<hi)∨a.heap.size≤g):Wi lo hi a w' :=
 ⟨hg.os.trans h.os,hg.tape.trans h.tape,hg.output.trans h.output,Nat.le_trans h.size hg.size,fun k hk hn=>by
  have hne:k≠g:=by rintro rfl;rcases hb with hb | hb <;> omega
  exact (hg.block k (Nat.lt_of_lt_of_le hk h.size) (fun e=>hne (Option.some.inj e))).trans (h.block k hk hn)⟩
theorem Wi.set {lo hi g o:Nat} {a w:World} (h:Wi lo hi a w) (hb:lo≤g∧g<hi) (v:Value):Wi lo hi a (w.setCell ⟨g,o,none⟩ v):=h.grown (gsetS (greflS w g) o v) (.inl hb)
theorem Wi.toBelow {lo hi:Nat} {a w:World} (h:Wi lo hi a w) {B:Nat} (hB:B≤lo) (hs:B≤a.heap.size):Below B a w :=
 ⟨h.os,h.tape,h.output,h.size,fun k hk=>h.block k (by omega) (by omega)⟩
theorem calls_abs {P:Program} {f:FuncId} {fn:Func} {c:Code} {args:Array Value} {w:World} {R:Ending→World→Prop} (hf:P.funcs[f]?=some fn) (hb:fn.body=some c) (N:Nat) (hN:fn.ntmps=N) (hle:args.size≤N)
  (h:∀ tm:Array Value,tm.size=N→(∀ i v,args[i]?=some v→tm.getD i undef=v)→c.wp P (bodyPost P fn R) ⟨tm,[]⟩ w):Calls P f args w R:=by
 refine calls_of_wp hf hb (h _ ?_ ?_)
 ·simp [hN];omega
 ·intro i v hi;have hlt:=(gE hi).1;rw [Array.getD_eq_getD_getElem?,Array.getElem?_append_left hlt,hi]
  rfl
theorem get_of {tm:Array Value} {i:Nat} {v d:Value} (h:i<tm.size) (e:tm.getD i d=v):tm[i]?=some v:=by
 rw [Array.getD_eq_getD_getElem?,Array.getElem?_eq_getElem h] at e;rw [Array.getElem?_eq_getElem h];simpa using e
theorem wp_seq_h {P:Program} {Q:Exit→Act→World→Prop} {a:Act} {w:World} {x y:Code} (h:∀ K:Act→World→Prop,Hid (∀ a w,y.wp P Q a w→K a w)→x.wp P (Exit.then K Q) a w):(Code.seq x y).wp P Q a w:=wp_seq_k fun K hK=>h K (hD hK)
theorem wp_abw {P:Program} {Q:Exit→Act→World→Prop} {tm:Array Value} {w:World} {c:Code} (F:Array Value→World→Prop) (hF:F tm w) (h:∀ t W,F t W→c.wp P Q ⟨t,[]⟩ W):c.wp P Q ⟨tm,[]⟩ w:=h tm w hF
def RvK (k:Nat) (w:World) (A:Option Addr) (R:List (List Value)):Prop:=0<R.length→∃ b off,A=some ⟨b,off,none⟩∧b<w.heap.size∧∀ i vs,R[i]?=some vs→w.rangeAt b (off+i*k) vs
theorem RvK.keep {k:Nat} {w w':World} {A:Option Addr} {R:List (List Value)} (h:RvK k w A R) (hb:Below w.heap.size w w'):RvK k w' A R:=fun h0 =>
 let ⟨b,off,e,hl,hp⟩:=h h0;⟨b,off,e,Nat.lt_of_lt_of_le hl hb.size,fun i vs hi=>rangeB (hp i vs hi) (hb.block b hl)⟩
theorem RvK.nil (k:Nat) (w:World) (A:Option Addr):RvK k w A []:=fun h=>absurd h (by simp)
def RpK (k:Nat) (w:World) (g:Nat) (T:TypeId) (n j:Nat) (R:List (List Value)):Prop:=∃ cs:Array Value,w.heap[g]?=some (.cells cs T (0,0))∧cs.size=n*k∧∀ i vs,i<j→R[i]?=some vs→InS cs (i*k) vs
theorem RpK.lt {k:Nat} {w:World} {g:Nat} {T:TypeId} {n j:Nat} {R:List (List Value)} (h:RpK k w g T n j R):g<w.heap.size:=by obtain ⟨cs,hh,_⟩:=h;exact ltS hh
theorem RpK.keep' {k:Nat} {w w':World} {g:Nat} {T:TypeId} {n j:Nat} {R:List (List Value)} (h:RpK k w g T n j R) (hb:w'.heap[g]?=w.heap[g]?):RpK k w' g T n j R:=by
 obtain ⟨cs,hh,r⟩:=h;exact ⟨cs,hb.trans hh,r⟩
theorem RpK.keep {k:Nat} {w w':World} {g:Nat} {T:TypeId} {n j:Nat} {R:List (List Value)} (h:RpK k w g T n j R) (hb:Below w.heap.size w w'):RpK k w' g T n j R:=h.keep' (hb.block g h.lt)
theorem RpK.there {k:Nat} {w:World} {g:Nat} {T:TypeId} {n j:Nat} {R:List (List Value)} (h:RpK k w g T n j R) {i:Nat} (hi:i<n):w.there g (i*k) k:=by
 obtain ⟨cs,hh,hs,_⟩:=h;refine thereB hh ?_;rw [hs]
 calc i*k+k=(i+1)*k:=by rw [Nat.add_mul,Nat.one_mul]
  _≤n*k:=Nat.mul_le_mul_right k hi
theorem RpK.step {k:Nat} {w:World} {g:Nat} {T:TypeId} {n j:Nat} {R:List (List Value)} (h:RpK k w g T n j R) (hR:∀ vs∈R,vs.length=k) {vs:List Value} (hv:R[j]?=some vs) (hj:j<n):RpK k (w.setCells g (j*k) vs) g T n (j+1) R:=by
 obtain ⟨cs,hh,hs,hc⟩:=h;have hl:=hR vs (List.mem_of_getElem? hv);have e:(j+1)*k≤n*k:=Nat.mul_le_mul_right k hj;rw [Nat.add_mul,Nat.one_mul] at e;refine ⟨_,heap_setCells vs (j*k) _ _ hh,(wrAt_size _ _ _).trans hs,fun i us hi hu=>?_⟩
 by_cases ei:i=j
 ·subst ei;rw [hv] at hu;obtain rfl:=Option.some.inj hu;exact InS.write (by rw [hl,hs];omega)
 ·have e2:(i+1)*k≤j*k:=Nat.mul_le_mul_right k (by omega);rw [Nat.add_mul,Nat.one_mul] at e2;exact (hc i us (by omega) hu).keepS (.inl (by rw [hR us (List.mem_of_getElem? hu)];omega))
theorem RpK.new {k:Nat} {w:World} {f:Array Value} {T:TypeId} {n:Nat} (R:List (List Value)) (hf:f.size=n*k):RpK k (w.alloc (.cells f T)) w.heap.size T n 0 R:=⟨f,newS _ _,hf,fun i vs hi=>absurd hi (by omega)⟩
def RbK (k:Nat) (w:World) (g:Nat) (T:TypeId) (R:List (List Value)):Prop:=RpK k w g T R.length R.length R
theorem RbK.v {k:Nat} {w:World} {g:Nat} {T:TypeId} {R:List (List Value)} (h:RbK k w g T R):RvK k w (some ⟨g,0,none⟩) R:=fun _=>by
 obtain ⟨cs,hh,hs,hc⟩:=h;refine ⟨g,0,rfl,ltS hh,fun i vs hv j v hj=>?_⟩;rw [Nat.zero_add];exact (cellS hh _).trans (hc i vs (List.getElem?_eq_some_iff.1 hv).1 hv j v hj)
theorem RpK.whole {k:Nat} {w:World} {g:Nat} {T:TypeId} {n j:Nat} {R:List (List Value)} (h:RpK k w g T n j R) (hn:n=R.length) (hj:n≤j):RbK k w g T R:=by
 subst hn;obtain ⟨cs,hh,hs,hc⟩:=h;exact ⟨cs,hh,hs,fun i vs hi hv=>hc i vs (by omega) hv⟩
def one (vs:List Value):Prop:=∀ v∈vs,v.oneCell'=true
theorem ldK {P:Program} {ops:Array Oper} {rest:List Oper} {op:Oper} {a:Act} {w:World} {Q:Exit→Act→World→Prop} (T:TypeId) (x:Operand) (vs:List Value) (b o:Nat) {d:TypeDesc} (hgd:op.guard=none) (ho:op.op=.load T x)
  (hc:w.rangeAt b o vs) (hu:P.underlying T=some d) (hd:d.isRow=true) (hi:(P.info? T).map (·.size)=some vs.length) (hx:a.eval x=.pointer (some ⟨b,o,none⟩))
  (h:wpList P ops Q rest (a.put op.dst (.agg vs.toArray)) w):wpList P ops Q (op :: rest) a w :=
 wpList_load_mid hgd T x ho b o hx vs d hc hu hd hi h
theorem stK {P:Program} {ops:Array Oper} {rest:List Oper} {op:Oper} {a:Act} {w:World} {Q:Exit→Act→World→Prop} (T:TypeId) (x y:Operand) (vs:List Value) (b o:Nat) (hgd:op.guard=none) (ho:op.op=.store T x y)
  (ht:w.there b o vs.length) (hi:(P.info? T).map (·.size)=some vs.length) (h1:one vs) (hx:a.eval x=.pointer (some ⟨b,o,none⟩)) (hy:a.eval y=.agg vs.toArray)
  (h:wpList P ops Q rest (a.put op.dst undef) (w.setCells b o vs)):wpList P ops Q (op :: rest) a w:=by
 refine wpList_store_mid hgd T x y ho b o vs.toArray hx hy (by simpa using ht) (by simpa using hi) (all_oneCell_toArray h1) ?_
 simpa using h
theorem allocK {P:Program} {ops:Array Oper} {rest:List Oper} {op:Oper} {a:Act} {w:World} {Q:Exit→Act→World→Prop} (T:TypeId) (k:Nat) (hgd:op.guard=none) (ho:op.op=.alloc T) (hi:∃ i z,P.info? T=some i∧i.zero=some z∧z.cells.size=k)
  (h:∀ f:Array Value,f.size=k→wpList P ops Q rest (a.put op.dst (.pointer (some ⟨w.heap.size,0,none⟩))) (w.alloc (.cells f T))):wpList P ops Q (op :: rest) a w:=by
 obtain ⟨i,z,h1,h2,h3⟩:=hi
 refine wpList_plain hgd fun K hK=>?_
 have:=hK _ _ (h z.cells h3)
 unfold Oper.wp execOp;simp only [ho]
 simpa [Instr.alloc,zeroValue,typeInfo,h1,h2,newVar,go_sem] using this
theorem info_z {P:Program} {T:TypeId} {k:Nat} (h:(P.info? T).map (fun i=>i.zero.map (fun z=>z.cells.size))=some (some k)):∃ i z,P.info? T=some i∧i.zero=some z∧z.cells.size=k:=by
 cases hq:P.info? T with
 | none=>rw [hq] at h;cases h
 | some i =>
  rw [hq] at h;simp only [Option.map_some,Option.some.injEq] at h
  cases hz:i.zero with
  | none=>rw [hz] at h;cases h
  | some z=>rw [hz] at h;simp only [Option.map_some,Option.some.injEq] at h;exact ⟨i,z,rfl,hz,h⟩
theorem madeK (S T:TypeId) (k:Nat) (hk:k≤64) (hu:Tryz.prog.underlying S=some (.slice T)) (hinfo:(Tryz.prog.info? T).map (fun i=>(i.size,decide (i.bytes≤512),i.zero.isSome))=some (k,true,true)):∃ f:Nat→Array Value,(∀ n,(f n).size=n*k)∧∀ (n:Nat) (w:World),n≤1048576→(Instr.makeSlice S (.int .i64 (n:Int)) (.int .i64 (n:Int))).run Tryz.prog w=.ok (.slice (some ⟨w.heap.size,0,none⟩) n n) (w.alloc (.cells (f n) T)):=by
 obtain ⟨i,z,hi,h1,h2,h3⟩:∃ (i:TypeInfo) (z:Value),Tryz.prog.info? T=some i∧i.zero=some z∧i.size=k∧i.bytes≤512:=by
  cases hq:Tryz.prog.info? T with
  | none=>rw [hq] at hinfo;cases hinfo
  | some i =>
   rw [hq] at hinfo;simp only [Option.map_some,Option.some.injEq,Prod.mk.injEq] at hinfo;obtain ⟨e1,e2,e3⟩:=hinfo;obtain ⟨z,hz⟩:=Option.isSome_iff_exists.1 e3;exact ⟨i,z,rfl,hz,e1,by simpa using e2⟩
 refine ⟨fun n=>madeCells z.cells (n*k),fun n=>size_madeCells _ _,fun n w hn=>?_⟩;have e:((i.bytes*n:Nat):Int)≤((512*1048576:Nat):Int):=Int.ofNat_le.2 (Nat.mul_le_mul h3 hn);rw [Int.natCast_mul] at e;have hr:=run_make (P:=Tryz.prog) w S T i _ hu hi h1 .i64 .i64 n n (by omega) (Int.le_refl _) (Int.le_trans e (by decide)) (by omega);rw [h2] at hr
 simpa using hr
theorem inf_widget:(Tryz.prog.info? 98).map (·.size)=some 37:=by kernel_rfl
theorem infz_widget:∃ i z,Tryz.prog.info? 98=some i∧i.zero=some z∧z.cells.size=37:=info_z (by kernel_rfl)
theorem made_widget:∃ f:Nat→Array Value,(∀ n,(f n).size=n*37)∧∀ (n:Nat) (w:World),n≤1048576→(Instr.makeSlice 93 (.int .i64 (n:Int)) (.int .i64 (n:Int))).run Tryz.prog w=.ok (.slice (some ⟨w.heap.size,0,none⟩) n n) (w.alloc (.cells (f n) 98)):=madeK _ _ 37 (by omega) Tryz.underlying93 (by kernel_rfl)
theorem inf_Cell:(Tryz.prog.info? 87).map (·.size)=some 9:=by kernel_rfl
theorem infz_Cell:∃ i z,Tryz.prog.info? 87=some i∧i.zero=some z∧z.cells.size=9:=info_z (by kernel_rfl)
theorem made_Cell:∃ f:Nat→Array Value,(∀ n,(f n).size=n*9)∧∀ (n:Nat) (w:World),n≤1048576→(Instr.makeSlice 120 (.int .i64 (n:Int)) (.int .i64 (n:Int))).run Tryz.prog w=.ok (.slice (some ⟨w.heap.size,0,none⟩) n n) (w.alloc (.cells (f n) 87)):=madeK _ _ 9 (by omega) Tryz.underlying120 (by kernel_rfl)
theorem inf_Place:(Tryz.prog.info? 88).map (·.size)=some 9:=by kernel_rfl
theorem infz_Place:∃ i z,Tryz.prog.info? 88=some i∧i.zero=some z∧z.cells.size=9:=info_z (by kernel_rfl)
theorem made_Place:∃ f:Nat→Array Value,(∀ n,(f n).size=n*9)∧∀ (n:Nat) (w:World),n≤1048576→(Instr.makeSlice 143 (.int .i64 (n:Int)) (.int .i64 (n:Int))).run Tryz.prog w=.ok (.slice (some ⟨w.heap.size,0,none⟩) n n) (w.alloc (.cells (f n) 88)):=madeK _ _ 9 (by omega) Tryz.underlying143 (by kernel_rfl)
theorem inf_Pack:(Tryz.prog.info? 86).map (·.size)=some 9:=by kernel_rfl
theorem infz_Pack:∃ i z,Tryz.prog.info? 86=some i∧i.zero=some z∧z.cells.size=9:=info_z (by kernel_rfl)
theorem made_Pack:∃ f:Nat→Array Value,(∀ n,(f n).size=n*9)∧∀ (n:Nat) (w:World),n≤1048576→(Instr.makeSlice 117 (.int .i64 (n:Int)) (.int .i64 (n:Int))).run Tryz.prog w=.ok (.slice (some ⟨w.heap.size,0,none⟩) n n) (w.alloc (.cells (f n) 86)):=madeK _ _ 9 (by omega) Tryz.underlying117 (by kernel_rfl)
theorem inf_wish:(Tryz.prog.info? 96).map (·.size)=some 2:=by kernel_rfl
theorem infz_wish:∃ i z,Tryz.prog.info? 96=some i∧i.zero=some z∧z.cells.size=2:=info_z (by kernel_rfl)
theorem inf_Rect:(Tryz.prog.info? 38).map (·.size)=some 4:=by kernel_rfl
theorem made_Rect:∃ f:Nat→Array Value,(∀ n,(f n).size=n*4)∧∀ (n:Nat) (w:World),n≤1048576→(Instr.makeSlice 51 (.int .i64 (n:Int)) (.int .i64 (n:Int))).run Tryz.prog w=.ok (.slice (some ⟨w.heap.size,0,none⟩) n n) (w.alloc (.cells (f n) 38)):=madeK _ _ 4 (by omega) Tryz.underlying51 (by kernel_rfl)
structure Wd where
 p:Nr
 sw:Int
 sh:Int
 ka:Option Addr
 kn:Nat
 kc:Nat
def valsWd (x:Wd):List Value:=valsNr x.p ++ [.int .i64 x.sw,.int .i64 x.sh,.slice x.ka x.kn x.kc]
theorem valsWd_len (x:Wd):(valsWd x).length=37:=rfl
theorem valsWd_one (x:Wd):one (valsWd x):=by
 intro v hv
 rcases List.mem_append.1 hv with h | h
 ·exact valsNr_one _ v h
 ·simp only [List.mem_cons,List.not_mem_nil,or_false] at h
  rcases h with rfl | rfl | rfl <;> rfl
def ceW (x:Wd):Ce:={ x.p.n.ce with cw:=x.sw,ch:=x.sh }
def pkW (x:Wd):Pk:={ x.p.n.pk with w:=x.sw,h:=x.sh }
def valsPk (p:Pk):List Value:=[.int .i64 p.w,.int .i64 p.h,.int .i64 p.s,.bool p.fx,.bool p.fy,.bool p.ex,.int .i64 p.an,.int .i64 p.px,.int .i64 p.py]
def valsPl (p:Plc):List Value:=[.int .i64 p.x,.int .i64 p.y,.int .i64 p.rx,.int .i64 p.ry,.int .i64 p.ww,.int .i64 p.hh,.int .i64 p.qw,.int .i64 p.qh,.int .i64 p.an]
def valsWi (q:Int × Int):List Value:=[.int .i64 q.1,.int .i64 q.2]
def gd (vs:List Value) (i:Nat):Value:=vs.getD i undef
def uCe (vs:List Value):List Value:=[gd vs 16,gd vs 17,gd vs 18,gd vs 19,gd vs 34,gd vs 35,gd vs 22,gd vs 23,gd vs 24]
def uPk (vs:List Value):List Value:=[gd vs 34,gd vs 35,gd vs 9,gd vs 10,gd vs 11,gd vs 12,gd vs 13,gd vs 14,gd vs 15]
def uPl (vs:List Value):List Value:=[gd vs 25,gd vs 26,gd vs 27,gd vs 28,gd vs 29,gd vs 30,gd vs 31,gd vs 32,gd vs 33]
theorem uCe_eq (x:Wd):uCe (valsWd x)=valsCe (ceW x):=rfl
theorem uPk_eq (x:Wd):uPk (valsWd x)=valsPk (pkW x):=rfl
theorem uPl_eq (x:Wd):uPl (valsWd x)=valsPl x.p.n.pl:=rfl
theorem valsCe_one (p:Ce):one (valsCe p):=by
 intro v hv;simp only [valsCe,List.mem_cons,List.not_mem_nil,or_false] at hv
 rcases hv with rfl | rfl | rfl | rfl | rfl | rfl | rfl | rfl | rfl <;> rfl
theorem valsPk_one (p:Pk):one (valsPk p):=by
 intro v hv;simp only [valsPk,List.mem_cons,List.not_mem_nil,or_false] at hv
 rcases hv with rfl | rfl | rfl | rfl | rfl | rfl | rfl | rfl | rfl <;> rfl
theorem valsPl_one (p:Plc):one (valsPl p):=by
 intro v hv;simp only [valsPl,List.mem_cons,List.not_mem_nil,or_false] at hv
 rcases hv with rfl | rfl | rfl | rfl | rfl | rfl | rfl | rfl | rfl <;> rfl
theorem valsWi_one (p:Int × Int):one (valsWi p):=by
 intro v hv;simp only [valsWi,List.mem_cons,List.not_mem_nil,or_false] at hv
 rcases hv with rfl | rfl <;> rfl
theorem bp_retcell {P:Program} {fn:Func} {R:Ending→World→Prop} {a:Act} {w:World} (t:Nat) (T:TypeId) (g:Nat) (vs:List Value) {d:TypeDesc} (hr:fn.results=#[.cell t T]) (ht:a.tmps.getD t undef=.pointer (some ⟨g,0,none⟩)) (hc:w.rangeAt g 0 vs) (hu:P.underlying T=some d) (hd:d.isRow=true) (hi:(P.info? T).map (·.size)=some vs.length) (h0:a.defers=[]) (hR:R (.returned (.agg vs.toArray)) w):bodyPost P fn R .ret a w:=by
 refine bodyPost_ret (v:=.agg vs.toArray) ?_ h0 hR
 have ht':a.tmps[t]?.getD undef=.pointer (some ⟨g,0,none⟩):=by rw [<- Array.getD_eq_getD_getElem?];exact ht
 simp [results,hr,ht',asAddr,run_loadVar_mid w g 0 T vs d hc hu hd hi]
theorem asCell_v (x:Wd) (w:World):Calls Tryz.prog 95 #[.agg (valsWd x).toArray] w fun e w'=>e=.returned (.agg (valsCe (ceW x)).toArray)∧Below w.heap.size w w':=by
 refine calls_abs Tryz.func95 rfl 18 (by simp only [Tryz.ntmps95]) (by simp) (fun t hsz hargs=>?_);have q0:t[0]?=some (.agg (valsWd x).toArray):=get_of (by omega) (hargs 0 _ rfl);clear hargs;obtain ⟨l0,e0⟩:=gE q0
 refine wp_seq_h fun K hK=>?_
 apply wp_region_lit
 repeat (first|((with_reducible show wpList _ _ _ _ _ _);refine allocK 87 9 rfl rfl infz_Cell (fun z hz=>?_)) | go_step)
 refine hK.out _ _ ?_;clear hK K
 refine wp_abw (fun t' W'=>t'.size=18∧t'[1]?=some (.pointer (some ⟨w.heap.size,0,none⟩))∧t'[2]?=some (.pointer (some ⟨w.heap.size+1,0,none⟩))∧W'.heap[w.heap.size]?=some (.cells (valsWd x).toArray 98 (0,0))∧(∃ z:Array Value,W'.heap[w.heap.size+1]?=some (.cells z 87 (0,0))∧z.size=9)∧Below w.heap.size w W') ⟨by simp [hsz],by simp [hsz],by simp [hsz],⟨(Below.heap_alloc _ _ _ (by simp)).trans (newS _ _),⟨z,by have:=newS (w.alloc (.cells (valsWd x).toArray 98)) (.cells z 87);simpa using this,hz⟩,(balloc (Below.refl _ _)).trans ((balloc (Below.refl _ _)).mono (by simp))⟩⟩ ?_
 clear hsz q0 l0 e0 t z hz;rintro t W1 ⟨hsz,q1,q2,H1,⟨z,H2,hz⟩,hB⟩;have x34:=cellS H1 34;have x35:=cellS H1 35;have f1:=frozenS H1 20;have f2:=frozenS H1 21;obtain ⟨y1,z1⟩:=thereS H1 (i:=20) (by show 20<37;omega);obtain ⟨y2,z2⟩:=thereS H1 (i:=21) (by show 21<37;omega);have hlx:=ltS H1;rw [show (valsWd x).toArray[34]?=some (.int .i64 x.sw) from rfl] at x34
 rw [show (valsWd x).toArray[35]?=some (.int .i64 x.sh) from rfl] at x35;obtain ⟨l1,e1⟩:=gE q1;obtain ⟨l2,e2⟩:=gE q2
 refine wp_seq_h fun K hK=>?_
 apply wp_region_lit
 repeat (first | go_step)
 refine hK.out _ _ ?_;clear hK K
 refine wp_abw (fun t' W'=>t'.size=18∧t'[1]?=some (.pointer (some ⟨w.heap.size,0,none⟩))∧t'[2]?=some (.pointer (some ⟨w.heap.size+1,0,none⟩))∧W'.rangeAt w.heap.size 16 (valsCe (ceW x))∧(∃ z:Array Value,W'.heap[w.heap.size+1]?=some (.cells z 87 (0,0))∧z.size=9)∧Below w.heap.size w W') ⟨by simp [hsz],by simp [q1],by simp [q2],⟨fun j v hj=>(cellS (putS (putS H1 _) _) _).trans (by (iterate 9 (rcases j with _ | j;first | exact hj | skip));simp [valsCe] at hj),⟨z,(Below.heap_setCell _ ⟨w.heap.size,_,none⟩ _ _ (by simp)).trans ((Below.heap_setCell _ ⟨w.heap.size,_,none⟩ _ _ (by simp)).trans H2),hz⟩,(hB.setCell (p:=⟨w.heap.size,_,none⟩) (by simp) _).setCell (p:=⟨w.heap.size,_,none⟩) (by simp) _⟩⟩ ?_
 clear hsz q1 l1 e1 q2 l2 e2 t x34 x35 f1 f2 z1 z2 y1 y2 H1 H2 hB hlx W1 z hz;rintro t W2 ⟨hsz,q1,q2,hr,⟨z,H2,hz⟩,hB⟩;have HR:=hD hr;have hth:W2.there (w.heap.size+1) 0 (valsCe (ceW x)).length:=thereB H2 (by rw [hz];show 0+9≤9;omega);have HTH:=hD hth;clear hr hth;obtain ⟨l1,e1⟩:=gE q1;obtain ⟨l2,e2⟩:=gE q2
 refine wp_seq_h fun K hK=>?_
 apply wp_region_lit
 repeat (first|((with_reducible show wpList _ _ _ _ _ _);refine ldK 87 _ (valsCe (ceW x)) w.heap.size 16 rfl rfl HR.out Tryz.underlying87 rfl inf_Cell (by simp [Act.eval,Act.put,hsz]) ?_)|((with_reducible show wpList _ _ _ _ _ _);refine stK 87 _ _ (valsCe (ceW x)) (w.heap.size+1) 0 rfl rfl HTH.out inf_Cell (valsCe_one _) (by simp [Act.eval,Act.put,hsz,e2]) (by simp [Act.eval,Act.put,hsz]) ?_) | go_step)
 refine hK.out _ _ ?_;clear hK K;apply wp_ret;refine bp_retcell 2 87 (w.heap.size+1) (valsCe (ceW x)) Tryz.results95 ?_ (World.rangeAt_setCells_same _ _ _ _ HTH.out) Tryz.underlying87 rfl inf_Cell rfl ⟨rfl,below_setCells (by omega) _ _ _ hB⟩
 simp [Act.put,hsz,e2]
theorem asPack_v (x:Wd) (w:World):Calls Tryz.prog 99 #[.agg (valsWd x).toArray] w fun e w'=>e=.returned (.agg (valsPk (pkW x)).toArray)∧Below w.heap.size w w':=by
 refine calls_abs Tryz.func99 rfl 18 (by simp only [Tryz.ntmps99]) (by simp) (fun t hsz hargs=>?_);have q0:t[0]?=some (.agg (valsWd x).toArray):=get_of (by omega) (hargs 0 _ rfl);clear hargs;obtain ⟨l0,e0⟩:=gE q0
 refine wp_seq_h fun K hK=>?_
 apply wp_region_lit
 repeat (first|((with_reducible show wpList _ _ _ _ _ _);refine allocK 86 9 rfl rfl infz_Pack (fun z hz=>?_)) | go_step)
 refine hK.out _ _ ?_;clear hK K
 refine wp_abw (fun t' W'=>t'.size=18∧t'[1]?=some (.pointer (some ⟨w.heap.size,0,none⟩))∧t'[2]?=some (.pointer (some ⟨w.heap.size+1,0,none⟩))∧W'.heap[w.heap.size]?=some (.cells (valsWd x).toArray 98 (0,0))∧(∃ z:Array Value,W'.heap[w.heap.size+1]?=some (.cells z 86 (0,0))∧z.size=9)∧Below w.heap.size w W') ⟨by simp [hsz],by simp [hsz],by simp [hsz],⟨(Below.heap_alloc _ _ _ (by simp)).trans (newS _ _),⟨z,by have:=newS (w.alloc (.cells (valsWd x).toArray 98)) (.cells z 86);simpa using this,hz⟩,(balloc (Below.refl _ _)).trans ((balloc (Below.refl _ _)).mono (by simp))⟩⟩ ?_
 clear hsz q0 l0 e0 t z hz;rintro t W1 ⟨hsz,q1,q2,H1,⟨z,H2,hz⟩,hB⟩;have x34:=cellS H1 34;have x35:=cellS H1 35;have f1:=frozenS H1 7;have f2:=frozenS H1 8;obtain ⟨y1,z1⟩:=thereS H1 (i:=7) (by show 7<37;omega);obtain ⟨y2,z2⟩:=thereS H1 (i:=8) (by show 8<37;omega);have hlx:=ltS H1;rw [show (valsWd x).toArray[34]?=some (.int .i64 x.sw) from rfl] at x34
 rw [show (valsWd x).toArray[35]?=some (.int .i64 x.sh) from rfl] at x35;obtain ⟨l1,e1⟩:=gE q1;obtain ⟨l2,e2⟩:=gE q2
 refine wp_seq_h fun K hK=>?_
 apply wp_region_lit
 repeat (first | go_step)
 refine hK.out _ _ ?_;clear hK K
 refine wp_abw (fun t' W'=>t'.size=18∧t'[1]?=some (.pointer (some ⟨w.heap.size,0,none⟩))∧t'[2]?=some (.pointer (some ⟨w.heap.size+1,0,none⟩))∧W'.rangeAt w.heap.size 7 (valsPk (pkW x))∧(∃ z:Array Value,W'.heap[w.heap.size+1]?=some (.cells z 86 (0,0))∧z.size=9)∧Below w.heap.size w W') ⟨by simp [hsz],by simp [q1],by simp [q2],⟨fun j v hj=>(cellS (putS (putS H1 _) _) _).trans (by (iterate 9 (rcases j with _ | j;first | exact hj | skip));simp [valsPk] at hj),⟨z,(Below.heap_setCell _ ⟨w.heap.size,_,none⟩ _ _ (by simp)).trans ((Below.heap_setCell _ ⟨w.heap.size,_,none⟩ _ _ (by simp)).trans H2),hz⟩,(hB.setCell (p:=⟨w.heap.size,_,none⟩) (by simp) _).setCell (p:=⟨w.heap.size,_,none⟩) (by simp) _⟩⟩ ?_
 clear hsz q1 l1 e1 q2 l2 e2 t x34 x35 f1 f2 z1 z2 y1 y2 H1 H2 hB hlx W1 z hz;rintro t W2 ⟨hsz,q1,q2,hr,⟨z,H2,hz⟩,hB⟩;have HR:=hD hr;have hth:W2.there (w.heap.size+1) 0 (valsPk (pkW x)).length:=thereB H2 (by rw [hz];show 0+9≤9;omega);have HTH:=hD hth;clear hr hth;obtain ⟨l1,e1⟩:=gE q1;obtain ⟨l2,e2⟩:=gE q2
 refine wp_seq_h fun K hK=>?_
 apply wp_region_lit
 repeat (first|((with_reducible show wpList _ _ _ _ _ _);refine ldK 86 _ (valsPk (pkW x)) w.heap.size 7 rfl rfl HR.out Tryz.underlying86 rfl inf_Pack (by simp [Act.eval,Act.put,hsz]) ?_)|((with_reducible show wpList _ _ _ _ _ _);refine stK 86 _ _ (valsPk (pkW x)) (w.heap.size+1) 0 rfl rfl HTH.out inf_Pack (valsPk_one _) (by simp [Act.eval,Act.put,hsz,e2]) (by simp [Act.eval,Act.put,hsz]) ?_) | go_step)
 refine hK.out _ _ ?_;clear hK K;apply wp_ret;refine bp_retcell 2 86 (w.heap.size+1) (valsPk (pkW x)) Tryz.results99 ?_ (World.rangeAt_setCells_same _ _ _ _ HTH.out) Tryz.underlying86 rfl inf_Pack rfl ⟨rfl,below_setCells (by omega) _ _ _ hB⟩
 simp [Act.put,hsz,e2]
theorem asPlace_v (x:Wd) (w:World):Calls Tryz.prog 97 #[.agg (valsWd x).toArray] w fun e w'=>e=.returned (.agg (valsPl x.p.n.pl).toArray)∧Below w.heap.size w w':=by
 refine calls_abs Tryz.func97 rfl 6 (by simp only [Tryz.ntmps97]) (by simp) (fun t hsz hargs=>?_);have q0:t[0]?=some (.agg (valsWd x).toArray):=get_of (by omega) (hargs 0 _ rfl);clear hargs;obtain ⟨l0,e0⟩:=gE q0
 refine wp_seq_h fun K hK=>?_
 apply wp_region_lit
 repeat (first|((with_reducible show wpList _ _ _ _ _ _);refine allocK 88 9 rfl rfl infz_Place (fun z hz=>?_)) | go_step)
 refine hK.out _ _ ?_;clear hK K
 refine wp_abw (fun t' W'=>t'.size=6∧t'[1]?=some (.pointer (some ⟨w.heap.size,0,none⟩))∧t'[2]?=some (.pointer (some ⟨w.heap.size+1,0,none⟩))∧W'.heap[w.heap.size]?=some (.cells (valsWd x).toArray 98 (0,0))∧(∃ z:Array Value,W'.heap[w.heap.size+1]?=some (.cells z 88 (0,0))∧z.size=9)∧Below w.heap.size w W') ⟨by simp [hsz],by simp [hsz],by simp [hsz],⟨(Below.heap_alloc _ _ _ (by simp)).trans (newS _ _),⟨z,by have:=newS (w.alloc (.cells (valsWd x).toArray 98)) (.cells z 88);simpa using this,hz⟩,(balloc (Below.refl _ _)).trans ((balloc (Below.refl _ _)).mono (by simp))⟩⟩ ?_
 clear hsz q0 l0 e0 t z hz;rintro t W1 ⟨hsz,q1,q2,H1,⟨z,H2,hz⟩,hB⟩
 have hr:W1.rangeAt w.heap.size 25 (valsPl x.p.n.pl):=fun j v hj=>(cellS H1 _).trans (by (iterate 9 (rcases j with _ | j;first | exact hj | skip));simp [valsPl] at hj)
 clear H1;have HR:=hD hr;have hth:W1.there (w.heap.size+1) 0 (valsPl x.p.n.pl).length:=thereB H2 (by rw [hz];show 0+9≤9;omega);have HTH:=hD hth;clear hr hth;obtain ⟨l1,e1⟩:=gE q1;obtain ⟨l2,e2⟩:=gE q2
 refine wp_seq_h fun K hK=>?_
 apply wp_region_lit
 repeat (first|((with_reducible show wpList _ _ _ _ _ _);refine ldK 88 _ (valsPl x.p.n.pl) w.heap.size 25 rfl rfl HR.out Tryz.underlying88 rfl inf_Place (by simp [Act.eval,Act.put,hsz]) ?_)|((with_reducible show wpList _ _ _ _ _ _);refine stK 88 _ _ (valsPl x.p.n.pl) (w.heap.size+1) 0 rfl rfl HTH.out inf_Place (valsPl_one _) (by simp [Act.eval,Act.put,hsz,e2]) (by simp [Act.eval,Act.put,hsz]) ?_) | go_step)
 refine hK.out _ _ ?_;clear hK K;apply wp_ret;refine bp_retcell 2 88 (w.heap.size+1) (valsPl x.p.n.pl) Tryz.results97 ?_ (World.rangeAt_setCells_same _ _ _ _ HTH.out) Tryz.underlying88 rfl inf_Place rfl ⟨rfl,below_setCells (by omega) _ _ _ hB⟩
 simp [Act.put,hsz,e2]
structure Sp where
 sa:Int
 many:Int
 need:Int
def valsSp (p:Sp):List Value:=[.int .i64 p.sa,.int .i64 p.many,.int .i64 p.need]
structure SpV (w:World) (A:Option Addr) (L:List Sp):Prop where
 cells:0<L.length→∃ b off,A=some ⟨b,off,none⟩∧b<w.heap.size∧∀ i p,L[i]?=some p→w.cell? ⟨b,off+i*3,none⟩=some (.int .i64 p.sa)∧w.cell? ⟨b,off+i*3+1,none⟩=some (.int .i64 p.many)∧w.cell? ⟨b,off+i*3+2,none⟩=some (.int .i64 p.need)
theorem SpV.keep {w w':World} {A:Option Addr} {L:List Sp} (h:SpV w A L) (hb:Below w.heap.size w w'):SpV w' A L :=
 ⟨fun h0=>let ⟨b,off,e,hl,hp⟩:=h.cells h0;⟨b,off,e,Nat.lt_of_lt_of_le hl hb.size,fun i p hi=>by
  obtain ⟨c0,c1,c2⟩:=hp i p hi
  exact ⟨(hb.cell (p:=⟨b,off+i*3,none⟩) hl).trans c0,(hb.cell (p:=⟨b,off+i*3+1,none⟩) hl).trans c1,(hb.cell (p:=⟨b,off+i*3+2,none⟩) hl).trans c2⟩⟩⟩
def SpB (w:World) (g:Nat) (L:List Sp):Prop:=∃ cs:Array Value,w.heap[g]?=some (.cells cs 193 (0,0))∧cs.size=L.length*3∧∀ i p,L[i]?=some p→InS cs (i*3) (valsSp p)
theorem SpB.v {w:World} {g:Nat} {L:List Sp} (h:SpB w g L):SpV w (some ⟨g,0,none⟩) L:=by
 obtain ⟨cs,hh,hs,hc⟩:=h;refine ⟨fun _=>⟨g,0,rfl,ltS hh,fun i p hp=>?_⟩⟩;have hi:=hc i p hp;simp only [Nat.zero_add];exact ⟨(cellS hh _).trans (hi 0 _ rfl),(cellS hh _).trans (hi 1 _ rfl),(cellS hh _).trans (hi 2 _ rfl)⟩
theorem madeSp:∃ f:Nat→Array Value,(∀ n,(f n).size=n*3)∧∀ (n:Nat) (w:World),n≤1048576→(Instr.makeSlice 170 (.int .i64 (n:Int)) (.int .i64 (n:Int))).run Tryz.prog w=.ok (.slice (some ⟨w.heap.size,0,none⟩) n n) (w.alloc (.cells (f n) 193)):=by
 have hinfo:(Tryz.prog.info? 193).map (fun i=>(i.zero,i.size,i.bytes))=some (some (.agg #[.int .i64 0,.int .i64 0,.int .i64 0]),3,24):=by kernel_rfl
 obtain ⟨i,hi,h1,h2,h3⟩:=info_parts hinfo;refine ⟨fun n=>madeCells (Value.agg #[.int .i64 0,.int .i64 0,.int .i64 0]).cells (n*3),fun n=>size_madeCells _ _,fun n w hn=>?_⟩;have hr:=run_make (P:=Tryz.prog) w 170 193 i _ Tryz.underlying170 hi h1 .i64 .i64 n n (by omega) (Int.le_refl _) (by rw [h3];omega) (by omega);rw [h2] at hr
 simpa using hr
theorem putSp {w:World} {b:Nat} {cs:Array Value} {T:TypeId} {fz:Nat × Nat} (h:w.heap[b]?=some (.cells cs T fz)) (o:Nat) (p:Sp) :
  ((((w.setCell ⟨b,o,none⟩ (.int .i64 p.sa)).setCell ⟨b,o+1,none⟩ (.int .i64 p.many)).setCell ⟨b,o+2,none⟩ (.int .i64 p.need))).heap[b]?=some (.cells (wrAt cs o (valsSp p)) T fz) :=
 putS (putS (putS h _) _) _
theorem putSpb {B b:Nat} {a w:World} (h:Below B a w) (hb:B≤b) (o:Nat) (p:Sp):Below B a ((((w.setCell ⟨b,o,none⟩ (.int .i64 p.sa)).setCell ⟨b,o+1,none⟩ (.int .i64 p.many)).setCell ⟨b,o+2,none⟩ (.int .i64 p.need))) :=
 (((h).setCell hb _).setCell hb _).setCell hb _
def baseM (n S:Int) (ws:List Int):List Int:=ws.map (fun x=>n*x / S)
def onesM:Int→List Int→List Int→List Int
 | m,x :: ws,b :: bs=>if 0<x∧0<m then (b+1) :: onesM (m-1) ws bs else b :: onesM m ws bs
 | _,_,bs=>bs
def spreadM (n:Int) (ws:List Int):List Int :=
 if sumI ws=0 then (List.replicate ws.length 0).set (ws.length-1) n
 else onesM (n-sumI (baseM n (sumI ws) ws)) ws (baseM n (sumI ws) ws)
theorem baseM_len (n S:Int) (ws:List Int):(baseM n S ws).length=ws.length:=by simp [baseM]
theorem onesM_len:∀ {m:Int} {ws bs:List Int},(onesM m ws bs).length=bs.length
 | m,[],bs=>by simp [onesM]
 | m,x :: ws,[]=>by simp [onesM]
 | m,x :: ws,b :: bs=>by
  unfold onesM
  split <;> simp [onesM_len]
theorem spreadM_len {n:Int} {ws:List Int}:(spreadM n ws).length=ws.length:=by
 unfold spreadM
 split
 ·simp
 ·rw [onesM_len,baseM_len]
theorem onesM_zero:∀ {m:Int} {ws bs:List Int},m≤0→onesM m ws bs=bs
 | m,[],bs,h=>by simp [onesM]
 | m,x :: ws,[],h=>by simp [onesM]
 | m,x :: ws,b :: bs,h=>by
  unfold onesM;rw [if_neg (by omega),onesM_zero h]
def cntP:List Int→Int
 | []=>0
 | x :: t=>(if 0<x then 1 else 0)+cntP t
theorem cntP_bd:∀ ws:List Int,0≤cntP ws∧cntP ws≤ws.length
 | []=>by simp [cntP]
 | x :: t=>by
  have:=cntP_bd t
  simp only [cntP,List.length_cons]
  split <;> omega
theorem sumI_nonneg {L:List Int} (h:∀ x∈L,0≤x):0≤sumI L:=by
 induction L with
 | nil=>exact Int.le_refl _
 | cons x t ih =>
  have h1:=h x List.mem_cons_self;have h2:=ih (fun q hq=>h q (List.mem_cons_of_mem _ hq));simp only [sumI];omega
theorem left_bd {n S:Int} (hn:0≤n) (hS:0<S):∀ {ws:List Int},(∀ x∈ws,0≤x)→0≤n*sumI ws-S*sumI (baseM n S ws)∧n*sumI ws-S*sumI (baseM n S ws)≤(S-1)*cntP ws
 | [],_=>by simp [sumI,baseM,cntP]
 | x :: t,h=>by
  have ih:=left_bd hn hS (ws:=t) (fun q hq=>h q (List.mem_cons_of_mem _ hq));have hx:=h x List.mem_cons_self;have e:=Int.mul_ediv_add_emod (n*x) S;have r0:=Int.emod_nonneg (n*x) (show S≠0 by omega);have r1:=Int.emod_lt_of_pos (n*x) hS;have eb:sumI (baseM n S (x :: t))=n*x / S+sumI (baseM n S t):=rfl;rw [eb];simp only [sumI,cntP,Int.mul_add];generalize n*x / S=q at *;generalize (n*x) % S=r at *
  generalize n*sumI t=u at *;generalize S*sumI (baseM n S t)=v at *;generalize (S-1)*cntP t=z at *
  by_cases hp:0<x
  ·simp only [if_pos hp,Int.mul_one];omega
  ·have hx0:x=0:=by omega
   subst hx0;simp only [Int.mul_zero] at e ⊢;simp only [Int.lt_irrefl,if_false,Int.mul_zero]
   have hsq:S*q=0∨S*q≠0:=by omega
   have hr:r=0:=by
    have:S*q+r=0:=e
    rcases Int.lt_or_le q 0 with hq | hq
    ·have:S*q≤S*(-1):=Int.mul_le_mul_of_nonneg_left (by omega) (by omega)
     omega
    ·have:0≤S*q:=Int.mul_nonneg (by omega) hq
     omega
   omega
theorem miss_bd {n:Int} {ws:List Int} (hn:0≤n) (h:∀ x∈ws,0≤x) (hS:sumI ws≠0):0≤n-sumI (baseM n (sumI ws) ws)∧n-sumI (baseM n (sumI ws) ws)≤cntP ws:=by
 have h0:=sumI_nonneg h
 have hS':0<sumI ws:=by omega
 obtain ⟨a1,a2⟩:=left_bd hn hS' h;have hc:=(cntP_bd ws).1;generalize sumI (baseM n (sumI ws) ws)=B at *;generalize hs:sumI ws=S at *
 have e:n*S-S*B=S*(n-B):=by rw [Int.mul_sub,Int.mul_comm n S]
 rw [e] at a1 a2
 have e2:(S-1)*cntP ws=S*cntP ws-cntP ws:=by rw [Int.sub_mul,Int.one_mul]
 rw [e2] at a2;generalize cntP ws=C at *
 constructor
 ·rcases Int.lt_or_le (n-B) 0 with hq | hq
  ·have:S*(n-B)≤S*(-1):=Int.mul_le_mul_of_nonneg_left (by omega) (by omega)
   omega
  ·exact hq
 ·rcases Int.lt_or_le C (n-B) with hq | hq
  ·have:S*(C+1)≤S*(n-B):=Int.mul_le_mul_of_nonneg_left (by omega) (by omega)
   rw [Int.mul_add,Int.mul_one] at this;omega
  ·exact hq
theorem base_bd {n S x:Int} (hn:0≤n) (hS:0<S) (h0:0≤x) (hx:x≤S):0≤n*x / S∧n*x / S≤n:=by
 refine ⟨Int.ediv_nonneg (Int.mul_nonneg hn h0) (by omega),?_⟩;have h1:n*x≤n*S:=Int.mul_le_mul_of_nonneg_left hx hn;have h2:=Int.ediv_le_ediv hS h1
 rwa [Int.mul_ediv_cancel _ (by omega)] at h2
theorem mem_le_sum:∀ {ws:List Int},(∀ x∈ws,0≤x)→∀ x∈ws,x≤sumI ws
 | [],_,x,hx=>by cases hx
 | y :: t,h,x,hx=>by
  have h1:=h y List.mem_cons_self;have h2:=sumI_nonneg (L:=t) (fun q hq=>h q (List.mem_cons_of_mem _ hq));simp only [sumI]
  rcases List.mem_cons.1 hx with rfl | hx
  ·omega
  ·have:=mem_le_sum (ws:=t) (fun q hq=>h q (List.mem_cons_of_mem _ hq)) x hx
   omega
def wsOK (ws:List Int):Prop:=(∀ x∈ws,0≤x∧x≤5)∧1≤ws.length∧ws.length≤5
theorem wsOK.sum {ws:List Int} (h:wsOK ws):0≤sumI ws∧sumI ws≤25:=by
 have:=sumI_bd h.1
 have:=h.2.2
 omega
theorem wsOK.smal {ws:List Int} (h:wsOK ws):Smal 1000000000000000 ws:=smal_of (b:=5) (fun x hx=>by have:=h.1 x hx;omega) (by omega) (by have:=h.2.2;omega)
theorem wsOK.nn {ws:List Int} (h:wsOK ws):∀ x∈ws,0≤x:=fun x hx=>(h.1 x hx).1
theorem base_get {n S:Int} {ws:List Int} {k:Nat} {x:Int} (h:ws[k]?=some x):(baseM n S ws)[k]?=some (n*x / S):=by
 simp [baseM,h]
def mixM (B:List Int) (k:Nat):List Int:=B.take k ++ List.replicate (B.length-k) 0
theorem mixM_zero (B:List Int):mixM B 0=List.replicate B.length 0:=by simp [mixM]
theorem mixM_all (B:List Int):mixM B B.length=B:=by simp [mixM]
theorem mixM_set {B:List Int} {k:Nat} {b:Int} (h:B[k]?=some b):(mixM B k).set k b=mixM B (k+1):=by
 obtain ⟨hk,e⟩:=List.getElem?_eq_some_iff.1 h;unfold mixM;rw [List.set_append_right _ _ (by rw [List.length_take];omega)]
 have h1:B.length-k=(B.length-(k+1))+1:=by omega
 rw [h1,List.replicate_succ]
 have h2:k-(B.take k).length=0:=by rw [List.length_take];omega
 rw [h2,List.set_cons_zero,List.take_succ_eq_append_getElem hk,e]
 simp
theorem mixM_get {B:List Int} {k:Nat} (hk:k<B.length):∃ x,(mixM B k)[k]?=some x:=by
 unfold mixM;rw [List.getElem?_append_right (by rw [List.length_take];omega)]
 have:k-(B.take k).length=0:=by rw [List.length_take];omega
 rw [this];exact ⟨0,by rw [List.getElem?_replicate,if_pos (by omega)]⟩
theorem mixM_get' {B:List Int} {k:Nat} {b:Int} (h:B[k]?=some b):(mixM B (k+1))[k]?=some b:=by
 obtain ⟨hk,e⟩:=List.getElem?_eq_some_iff.1 h;unfold mixM;rw [List.getElem?_append_left (by rw [List.length_take];omega),List.getElem?_take,if_pos (by omega),h]
theorem smal_base {n:Int} {ws:List Int} (hn:0≤n) (hn2:n≤100000000000000) (h:wsOK ws) (hS:sumI ws≠0):Smal 1000000000000000 (baseM n (sumI ws) ws):=by
 refine smal_of (b:=100000000000000) (fun x hx=>?_) (by omega) (by rw [baseM_len];have:=h.2.2;omega);obtain ⟨y,hy,rfl⟩:=List.mem_map.1 hx;have h0:=h.sum
 have:=base_bd (n:=n) (S:=sumI ws) (x:=y) hn (by omega) (h.nn y hy) (mem_le_sum h.nn y hy)
 omega
theorem last_set {n:Int} {ws:List Int} {j:Nat} (hj:ws.length=j+1) (h0:sumI ws=0):(List.replicate ws.length (0:Int)).set j n=spreadM n ws:=by
 unfold spreadM;rw [if_pos h0]
 congr 1
 omega
theorem wadd_mul {n x:Int} (hn:0≤n) (hn2:n≤100000000000000) (h0:0≤x) (h5:x≤5):0≤n*x∧n*x≤500000000000000 :=
 ⟨Int.mul_nonneg hn h0,Int.le_trans (Int.mul_le_mul hn2 h5 h0 (by omega)) (by omega)⟩
theorem drop_consI {L:List Int} {k:Nat} {p:Int} (h:L[k]?=some p):L.drop k=p :: L.drop (k+1):=by
 have hk:=(List.getElem?_eq_some_iff.1 h).1;have e:=(List.getElem?_eq_some_iff.1 h).2;rw [List.drop_eq_getElem_cons hk,e]
theorem set_here {P R:List Int} {k:Nat} {y z:Int} (h:P.length=k):(P ++ y :: R).set k z=P ++ z :: R:=by
 rw [List.set_append_right _ _ (by omega)]
 have:k-P.length=0:=by omega
 rw [this,List.set_cons_zero]
theorem onesM_nil (m:Int) (ws:List Int):onesM m ws []=[]:=by cases ws <;> simp [onesM]
theorem sum_n (A:Option Addr) (c n:Nat) (L:List Int) (w:World) (h:NV w A L) (hn:n=L.length) (hL:n≤1048576) (hM:Smal 1000000000000000 L) :
  Calls Tryz.prog 185 #[.slice A n c] w fun e w'=>e=.returned (.int .i64 (sumI L))∧w=w':=by subst hn;exact sum_v A c L w h hL hM
theorem total_n (A:Option Addr) (c n:Nat) (L:List Int) (w:World) (h:NV w A L) (hn:n=L.length) (hL:n≤1048576) (hM:Smal 1000000000000000 L) :
  Calls Tryz.prog 118 #[.slice A n c] w fun e w'=>e=.returned (.int .i64 (sumI L))∧w=w':=by subst hn;exact total_v A c L w h hL hM
theorem spread_v (A:Option Addr) (c:Nat) (n:Int) (ws:List Int) (w:World) (h:NV w A ws) (hw:wsOK ws) (hn:0≤n) (hn2:n≤100000000000000) :
  Calls Tryz.prog 194 #[.int .i64 n,.slice A ws.length c] w fun e w'=>e=.returned (.slice (some ⟨w.heap.size,0,none⟩) ws.length ws.length)∧IB w' w.heap.size (spreadM n ws)∧Below w.heap.size w w':=by
 obtain ⟨hw1,hw2,hw3⟩:=id hw;obtain ⟨hs0,hs1⟩:=hw.sum
 have hmk:∀ w:World,(Instr.makeSlice 26 (.int .i64 (ws.length:Int)) (.int .i64 (ws.length:Int))).run Tryz.prog w=.ok (.slice (some ⟨w.heap.size,0,none⟩) ws.length ws.length) (w.alloc (.cells (ivals (List.replicate ws.length 0)) 3)):=fun w=>madeI ws.length w (by omega)
 have HW:=hD hw;have HW1:=hD hw1
 obtain ⟨j,hj⟩:∃ j,ws.length=j+1:=⟨ws.length-1,by omega⟩
 have HJ:=hD hj;clear hw1 hw hj
 go_enter Tryz.func194,Tryz.ntmps194
 go_wp2_with fail
 have hI0:=makeI_b ws.length w;have hB0:Below w.heap.size w (w.alloc (.cells (ivals (List.replicate ws.length 0)) 3)):=balloc (Below.refl _ _)
 obtain ⟨W,hWe⟩:∃ W,w.alloc (.cells (ivals (List.replicate ws.length 0)) 3)=W:=⟨_,rfl⟩
 rw [hWe] at hI0 hB0 ⊢;have HI:=hD hI0;have HB:=hD hB0;have HNW:=hD (h.keep hB0);clear hWe hI0 hB0 hmk
 with_reducible refine (sum_v A c ws _ HNW.out (by omega) HW.out.smal).mono ?_
 rintro e w1 ⟨rfl,rfl⟩
 by_cases hS:sumI ws=0
 ·have hz:(sumI ws == 0)=true:=by simpa using hS
  have hsp:=last_set (n:=n) (by rw [HJ.out]:ws.length=j+1) hS
  have e1:(ws.length:Int)-1=(j:Int):=by have:=HJ.out;omega
  have e2:IntKind.i64.wrap ((ws.length:Int)-1)=(j:Int):=by rw [e1];exact IntWalk.i64_in _ (by omega)
  have hjl:j<ws.length:=by have:=HJ.out;omega
  have c0:=HI.out.cell (i:=j) (x:=0) (by simp [hjl]);have f0:=HI.out.frozen j;have HF:=hD (show IB (W.setCell ⟨w.heap.size,j,none⟩ (.int .i64 n)) w.heap.size (spreadM n ws) by have:=HI.out.set j n;rwa [hsp] at this);have HB2:=hD (HB.out.setCell (p:=⟨w.heap.size,j,none⟩) (Nat.le_refl _) (.int .i64 n));clear hS hsp HI HB;go_wp2;go_ret;exact ⟨rfl,HF.out,HB2.out⟩
 ·have hz:(sumI ws == 0)=false:=by simpa using hS
  obtain ⟨S,hSe⟩:∃ S,sumI ws=S:=⟨_,rfl⟩
  have hS1:0<S:=by omega
  have hS2:S≤25:=by omega
  have hbl:=baseM_len n S ws;have hmb:=miss_bd hn HW.out.nn hS;have hsm:=smal_base hn hn2 HW.out hS
  have hsp:spreadM n ws=onesM (n-sumI (baseM n S ws)) ws (baseM n S ws):=by unfold spreadM;rw [if_neg hS,hSe]
  rw [hSe] at hz hmb hsm;have hcb:=cntP_bd ws;have HSP:=hD hsp;have HMB:=hD hmb;have HSM:=hD hsm;have HSE:=hD hSe;have HBL:=hD hbl;rw [hSe]
  have hI0:IB W w.heap.size (mixM (baseM n S ws) 0):=by rw [mixM_zero,hbl];exact HI.out
  have HI0:=hD hI0
  have hcb2:cntP ws≤5:=by omega
  have hcb1:0≤cntP ws:=by omega
  clear hS hsp hmb hsm hbl hSe HI hI0 hs0 hs1 hcb
  go_wp2_with fail
  go_loopw [26] (fun i wr=>∃ k:Nat,k≤ws.length∧i=.int .i64 k∧IB wr w.heap.size (mixM (baseM n S ws) k)∧Below w.heap.size w wr) (fun i _=>ws.length-(intOf i).toNat)
  case atStart=>exact ⟨0,by omega,rfl,HI0.out,HB.out⟩
  case round =>
   obtain ⟨k,hk,rfl,hI,hBr⟩:=hrel;clear HI0
   by_cases hlt:k<ws.length
   ·have hd:decide ((k:Int)<(ws.length:Int))=true:=by simpa using hlt
    obtain ⟨b,off,rfl,hb,hp⟩:=(h.keep hBr).cells (by omega);have hget:ws[k]?=some ws[k]:=List.getElem?_eq_getElem hlt;have c0:=hp k _ hget;have hx01:=HW1.out _ (List.getElem_mem hlt);generalize hx:ws[k]=x at *;obtain ⟨hx0,hx1⟩:=hx01;obtain ⟨hm0,hm1⟩:=wadd_mul hn hn2 hx0 hx1;have hbk:=base_get (n:=n) (S:=S) hget;obtain ⟨y,hy⟩:=mixM_get (B:=baseM n S ws) (k:=k) (by rw [HBL.out];exact hlt)
    have d0:=hI.cell hy;have f0:=hI.frozen k;have hI2:=hI.set k (n*x / S);rw [mixM_set hbk] at hI2;have HI2:=hD hI2;have HB2:=hD (hBr.setCell (p:=⟨w.heap.size,k,none⟩) (Nat.le_refl _) (.int .i64 (n*x / S)));clear hI hI2 hBr hp hget hx hy hbk;go_wp2
    go_roundw
    case rel=>exact ⟨k+1,by omega,by go_num,HI2.out,HB2.out⟩
    case measure=>simp [intOf];omega
   ·have hd:decide ((k:Int)<(ws.length:Int))=false:=by simp;omega
    obtain rfl:k=ws.length:=by omega
    rw [<- HBL.out,mixM_all] at hI;have HIB:=hD hI;have HBR:=hD hBr;clear hI hBr
    go_wp2_with fail
    with_reducible refine (sum_n _ ws.length ws.length (baseM n S ws) _ HIB.out.nv HBL.out.symm (by omega) HSM.out).mono ?_
    rintro e w2 ⟨rfl,rfl⟩
    obtain ⟨m,hm⟩:∃ m,n-sumI (baseM n S ws)=m:=⟨_,rfl⟩
    have hmb:=HMB.out;rw [hm] at hmb;obtain ⟨hm0,hm1⟩:=hmb
    have hmw:IntKind.i64.wrap (n-sumI (baseM n S ws))=m:=by rw [hm];exact IntWalk.i64_in _ (by omega)
    have hsp:=HSP.out;rw [hm] at hsp;have HSP2:=hD hsp
    have hcc:m≤5:=by omega
    clear HSP hsp HMB hm
    go_wp2_with fail
    go_loopw [8,47] (fun mv i wr=>∃ (k:Nat) (m':Int) (P:List Int),k≤ws.length∧i=.int .i64 k∧mv=.int .i64 m'∧P.length=k∧m'≤5∧IB wr w.heap.size (P ++ (baseM n S ws).drop k)∧P ++ onesM m' (ws.drop k) ((baseM n S ws).drop k)=spreadM n ws∧Below w.heap.size w wr) (fun _ i _=>ws.length-(intOf i).toNat)
    case atStart=>exact ⟨0,m,[],by omega,rfl,rfl,rfl,hcc,by simpa using HIB.out,by simpa using HSP2.out.symm,HBR.out⟩
    case round =>
     obtain ⟨k,m',P,hk,rfl,rfl,hP,hm5,hI,hf,hBr⟩:=hrel;clear HIB HBR HSP2 hmw hm0 hm1 hcc
     by_cases hlt:k<ws.length
     ·have hd:decide ((k:Int)<(ws.length:Int))=true:=by simpa using hlt
      obtain ⟨b,off,rfl,hb,hp⟩:=(h.keep hBr).cells (by omega);have hget:ws[k]?=some ws[k]:=List.getElem?_eq_getElem hlt;have c0:=hp k _ hget;have hx01:=HW1.out _ (List.getElem_mem hlt);have hbk:=base_get (n:=n) (S:=S) hget;have hdw:=drop_consI hget;generalize hx:ws[k]=x at *;have hdb:=drop_consI hbk;obtain ⟨hx0,hx1⟩:=hx01
      have hbb:0≤n*x / S∧n*x / S≤500000000000000:=by
       obtain ⟨q0,q1⟩:=wadd_mul hn hn2 hx0 hx1;exact ⟨Int.ediv_nonneg q0 (by omega),Int.le_trans (Int.ediv_le_self S q0) q1⟩
      generalize n*x / S=y at *;obtain ⟨hb0,hb1⟩:=hbb;rw [hdb] at hI hf;rw [hdw] at hf;have d0:=hI.cell (i:=k) (x:=y) (by rw [List.getElem?_append_right (by omega),hP,Nat.sub_self];rfl);have f0:=hI.frozen k;have HDW:=hD hdw
      by_cases hxp:0<x
      ·have e1:decide (x>0)=true:=by simpa using hxp
       have e1':decide (0<x)=true:=by simpa using hxp
       by_cases hmp:0<m'
       ·have e2:decide (m'>0)=true:=by simpa using hmp
        have e2':decide (0<m')=true:=by simpa using hmp
        rw [onesM,if_pos ⟨hxp,hmp⟩] at hf;have hI2:=hI.set k (y+1);rw [set_here hP] at hI2;have HI2:=hD hI2;have HF2:=hD hf;have HP:=hD hP;have HB2:=hD (hBr.setCell (p:=⟨w.heap.size,k,none⟩) (Nat.le_refl _) (.int .i64 (y+1)));have HXP:=hD hxp;have HMP:=hD hmp;clear hI hI2 hBr hp hget hx hbk hdb hdw hf hP hxp;go_wp2
        go_roundw
        case rel=>exact ⟨k+1,m'-1,P ++ [y+1],by omega,by go_num,rfl,by simp [HP.out],by omega,by simpa using HI2.out,by simpa using HF2.out,HB2.out⟩
        case measure=>simp [intOf];omega
       ·have e2:decide (m'>0)=false:=by simpa using hmp
        have e2':decide (0<m')=false:=by simpa using hmp
        rw [onesM,if_neg (by omega)] at hf;have HI2:=hD hI;have HF2:=hD hf;have HP:=hD hP;have HB2:=hD hBr;have HXP:=hD hxp;have HMP:=hD hmp;clear hI hBr hp hget hx hbk hdb hdw hf hP hxp hmp;go_wp2
        go_roundw
        case rel=>exact ⟨k+1,m',P ++ [y],by omega,by go_num,rfl,by simp [HP.out],by omega,by simpa using HI2.out,by simpa using HF2.out,HB2.out⟩
        case measure=>simp [intOf];omega
      ·have e1:decide (x>0)=false:=by simpa using hxp
       have e1':decide (0<x)=false:=by simpa using hxp
       rw [onesM,if_neg (by omega)] at hf;have HI2:=hD hI;have HF2:=hD hf;have HP:=hD hP;have HB2:=hD hBr;have HXP:=hD hxp;clear hI hBr hp hget hx hbk hdb hdw hf hP hxp;go_wp2
       go_roundw
       case rel=>exact ⟨k+1,m',P ++ [y],by omega,by go_num,rfl,by simp [HP.out],by omega,by simpa using HI2.out,by simpa using HF2.out,HB2.out⟩
       case measure=>simp [intOf];omega
     ·have hd:decide ((k:Int)<(ws.length:Int))=false:=by simp;omega
      have hk':k=ws.length:=by omega
      have hdb:(baseM n S ws).drop k=[]:=List.drop_eq_nil_of_le (by rw [HBL.out];omega);rw [hdb,onesM_nil,List.append_nil] at hf;rw [hdb,List.append_nil,hf] at hI;have HI2:=hD hI;have HB2:=hD hBr;clear hI hBr hf hdb hP;go_wp2;go_ret;exact ⟨rfl,HI2.out,HB2.out⟩
theorem sspread_v (A:Option Addr) (c:Nat) (n:Int) (ws:List Int) (w:World) (h:NV w A ws) (hw:wsOK ws) (hn:0≤n) (hn2:n≤100000000000000) :
  Calls Tryz.prog 142 #[.int .i64 n,.slice A ws.length c] w fun e w'=>e=.returned (.slice (some ⟨w.heap.size,0,none⟩) ws.length ws.length)∧IB w' w.heap.size (spreadM n ws)∧Below w.heap.size w w':=by
 obtain ⟨hw1,hw2,hw3⟩:=id hw;obtain ⟨hs0,hs1⟩:=hw.sum
 have hmk:∀ w:World,(Instr.makeSlice 26 (.int .i64 (ws.length:Int)) (.int .i64 (ws.length:Int))).run Tryz.prog w=.ok (.slice (some ⟨w.heap.size,0,none⟩) ws.length ws.length) (w.alloc (.cells (ivals (List.replicate ws.length 0)) 3)):=fun w=>madeI ws.length w (by omega)
 have HW:=hD hw;have HW1:=hD hw1
 obtain ⟨j,hj⟩:∃ j,ws.length=j+1:=⟨ws.length-1,by omega⟩
 have HJ:=hD hj;clear hw1 hw hj
 go_enter Tryz.func142,Tryz.ntmps142
 go_wp2_with fail
 have hI0:=makeI_b ws.length w;have hB0:Below w.heap.size w (w.alloc (.cells (ivals (List.replicate ws.length 0)) 3)):=balloc (Below.refl _ _)
 obtain ⟨W,hWe⟩:∃ W,w.alloc (.cells (ivals (List.replicate ws.length 0)) 3)=W:=⟨_,rfl⟩
 rw [hWe] at hI0 hB0 ⊢;have HI:=hD hI0;have HB:=hD hB0;have HNW:=hD (h.keep hB0);clear hWe hI0 hB0 hmk
 with_reducible refine (total_v A c ws _ HNW.out (by omega) HW.out.smal).mono ?_
 rintro e w1 ⟨rfl,rfl⟩
 by_cases hS:sumI ws=0
 ·have hz:(sumI ws == 0)=true:=by simpa using hS
  have hsp:=last_set (n:=n) (by rw [HJ.out]:ws.length=j+1) hS
  have e1:(ws.length:Int)-1=(j:Int):=by have:=HJ.out;omega
  have e2:IntKind.i64.wrap ((ws.length:Int)-1)=(j:Int):=by rw [e1];exact IntWalk.i64_in _ (by omega)
  have hjl:j<ws.length:=by have:=HJ.out;omega
  have hg0:decide ((ws.length:Int)>0)=true:=by simp;omega
  have c0:=HI.out.cell (i:=j) (x:=0) (by simp [hjl]);have f0:=HI.out.frozen j;have HF:=hD (show IB (W.setCell ⟨w.heap.size,j,none⟩ (.int .i64 n)) w.heap.size (spreadM n ws) by have:=HI.out.set j n;rwa [hsp] at this);have HB2:=hD (HB.out.setCell (p:=⟨w.heap.size,j,none⟩) (Nat.le_refl _) (.int .i64 n));clear hS hsp HI HB;go_wp2;go_ret;exact ⟨rfl,HF.out,HB2.out⟩
 ·have hz:(sumI ws == 0)=false:=by simpa using hS
  obtain ⟨S,hSe⟩:∃ S,sumI ws=S:=⟨_,rfl⟩
  have hS1:0<S:=by omega
  have hS2:S≤25:=by omega
  have hbl:=baseM_len n S ws;have hmb:=miss_bd hn HW.out.nn hS;have hsm:=smal_base hn hn2 HW.out hS
  have hsp:spreadM n ws=onesM (n-sumI (baseM n S ws)) ws (baseM n S ws):=by unfold spreadM;rw [if_neg hS,hSe]
  rw [hSe] at hz hmb hsm;have hcb:=cntP_bd ws;have HSP:=hD hsp;have HMB:=hD hmb;have HSM:=hD hsm;have HSE:=hD hSe;have HBL:=hD hbl;rw [hSe]
  have hI0:IB W w.heap.size (mixM (baseM n S ws) 0):=by rw [mixM_zero,hbl];exact HI.out
  have HI0:=hD hI0
  have hcb2:cntP ws≤5:=by omega
  have hcb1:0≤cntP ws:=by omega
  clear hS hsp hmb hsm hbl hSe HI hI0 hs0 hs1 hcb
  go_wp2_with fail
  have hsb:∀ k,k≤ws.length→-500000000000000≤sumI ((baseM n S ws).take k)∧sumI ((baseM n S ws).take k)≤500000000000000:=fun k hk=>by
   have:=sumI_bd (lo:=0) (hi:=100000000000000) (L:=(baseM n S ws).take k) (fun y hy=>by
    obtain ⟨x,hx,rfl⟩:=List.mem_map.1 (List.mem_of_mem_take hy);have h1:=mem_le_sum HW.out.nn x hx;rw [HSE.out] at h1
    have:=base_bd (n:=n) (S:=S) (x:=x) hn hS1 (HW.out.nn x hx) h1
    omega)
   have h2:((baseM n S ws).take k).length≤5:=by rw [List.length_take,HBL.out];omega
   omega
  have HSB:=hD hsb;clear hsb
  go_loopw [7,8] (fun lv i wr=>∃ k:Nat,k≤ws.length∧i=.int .i64 k∧lv=.int .i64 (n-sumI ((baseM n S ws).take k))∧IB wr w.heap.size (mixM (baseM n S ws) k)∧Below w.heap.size w wr) (fun _ i _=>ws.length-(intOf i).toNat)
  case atStart=>exact ⟨0,by omega,rfl,by simp [sumI],HI0.out,HB.out⟩
  case round =>
   obtain ⟨k,hk,rfl,rfl,hI,hBr⟩:=hrel;clear HI0
   by_cases hlt:k<ws.length
   ·have hd:decide ((k:Int)<(ws.length:Int))=true:=by simpa using hlt
    obtain ⟨b,off,rfl,hb,hp⟩:=(h.keep hBr).cells (by omega);have hget:ws[k]?=some ws[k]:=List.getElem?_eq_getElem hlt;have c0:=hp k _ hget;have hx01:=HW1.out _ (List.getElem_mem hlt);generalize hx:ws[k]=x at *;obtain ⟨hx0,hx1⟩:=hx01;obtain ⟨hm0,hm1⟩:=wadd_mul hn hn2 hx0 hx1;have hbk:=base_get (n:=n) (S:=S) hget;obtain ⟨y,hy⟩:=mixM_get (B:=baseM n S ws) (k:=k) (by rw [HBL.out];exact hlt)
    have d0:=hI.cell hy;have f0:=hI.frozen k;have hI2:=hI.set k (n*x / S);rw [mixM_set hbk] at hI2;have e0:=hI2.cell (mixM_get' hbk);have hsn:=sumI_snoc hbk;have b1:=HSB.out k hk;have b2:=HSB.out (k+1) (by omega);rw [hsn] at b2;have HI2:=hD hI2;have HB2:=hD (hBr.setCell (p:=⟨w.heap.size,k,none⟩) (Nat.le_refl _) (.int .i64 (n*x / S)))
    obtain ⟨q,hq⟩:∃ q,sumI ((baseM n S ws).take k)=q:=⟨_,rfl⟩
    rw [hq] at b1 b2 hsn;rw [hq];have HSN:=hD hsn
    have hbb:0≤n*x / S∧n*x / S≤500000000000000:=⟨Int.ediv_nonneg hm0 (by omega),Int.le_trans (Int.ediv_le_self S hm0) hm1⟩
    obtain ⟨hbb0,hbb1⟩:=hbb;clear hI hI2 hBr hp hget hx hy hbk hsn hq;go_wp2
    go_roundw
    case rel=>exact ⟨k+1,by omega,by go_num,by rw [HSN.out];go_num,HI2.out,HB2.out⟩
    case measure=>simp [intOf];omega
   ·have hd:decide ((k:Int)<(ws.length:Int))=false:=by simp;omega
    obtain rfl:k=ws.length:=by omega
    have htl:(baseM n S ws).take ws.length=baseM n S ws:=List.take_of_length_le (by rw [HBL.out];omega);rw [htl];rw [<- HBL.out,mixM_all] at hI;have HIB:=hD hI;have HBR:=hD hBr;clear hI hBr htl
    obtain ⟨m,hm⟩:∃ m,n-sumI (baseM n S ws)=m:=⟨_,rfl⟩
    have hmb:=HMB.out;rw [hm] at hmb;obtain ⟨hm0,hm1⟩:=hmb;have hsp:=HSP.out;rw [hm] at hsp;have HSP2:=hD hsp
    have hcc:m≤5:=by omega
    rw [hm];clear HSP hsp HMB hm
    go_wp2_with fail
    go_loopw [7,9] (fun mv i wr=>∃ (k:Nat) (m':Int) (P:List Int),k≤ws.length∧i=.int .i64 k∧mv=.int .i64 m'∧P.length=k∧m'≤5∧m'≤cntP (ws.drop k)∧IB wr w.heap.size (P ++ (baseM n S ws).drop k)∧P ++ onesM m' (ws.drop k) ((baseM n S ws).drop k)=spreadM n ws∧Below w.heap.size w wr) (fun _ i _=>ws.length-(intOf i).toNat)
    case atStart=>exact ⟨0,m,[],by omega,rfl,rfl,rfl,hcc,by simpa using hm1,by simpa using HIB.out,by simpa using HSP2.out.symm,HBR.out⟩
    case round =>
     obtain ⟨k,m',P,hk,rfl,rfl,hP,hm5,hmc,hI,hf,hBr⟩:=hrel;clear HIB HBR HSP2 hm0 hm1 hcc
     by_cases hmp:0<m'
     ·have hlt:k<ws.length:=by
       rcases Nat.lt_or_ge k ws.length with h1 | h1
       ·exact h1
       ·rw [List.drop_eq_nil_of_le h1] at hmc;simp [cntP] at hmc;omega
      have e2:decide (m'>0)=true:=by simpa using hmp
      have e2':decide (0<m')=true:=by simpa using hmp
      obtain ⟨b,off,rfl,hb,hp⟩:=(h.keep hBr).cells (by omega);have hget:ws[k]?=some ws[k]:=List.getElem?_eq_getElem hlt;have c0:=hp k _ hget;have hx01:=HW1.out _ (List.getElem_mem hlt);have hbk:=base_get (n:=n) (S:=S) hget;have hdw:=drop_consI hget;generalize hx:ws[k]=x at *;have hdb:=drop_consI hbk;obtain ⟨hx0,hx1⟩:=hx01
      have hbb:0≤n*x / S∧n*x / S≤500000000000000:=by
       obtain ⟨q0,q1⟩:=wadd_mul hn hn2 hx0 hx1;exact ⟨Int.ediv_nonneg q0 (by omega),Int.le_trans (Int.ediv_le_self S q0) q1⟩
      generalize n*x / S=y at *;obtain ⟨hb0,hb1⟩:=hbb;rw [hdb] at hI hf;rw [hdw] at hf hmc;have d0:=hI.cell (i:=k) (x:=y) (by rw [List.getElem?_append_right (by omega),hP,Nat.sub_self];rfl);have f0:=hI.frozen k;simp only [cntP] at hmc
      by_cases hxp:0<x
      ·have e1:decide (x>0)=true:=by simpa using hxp
       have e1':decide (0<x)=true:=by simpa using hxp
       rw [if_pos hxp] at hmc;rw [onesM,if_pos ⟨hxp,hmp⟩] at hf;have hI2:=hI.set k (y+1);rw [set_here hP] at hI2;have HI2:=hD hI2;have HF2:=hD hf;have HP:=hD hP;have HB2:=hD (hBr.setCell (p:=⟨w.heap.size,k,none⟩) (Nat.le_refl _) (.int .i64 (y+1)));have HXP:=hD hxp;have HMC:=hD hmc;clear hI hI2 hBr hp hget hx hbk hdb hdw hf hP hxp hmc;go_wp2
       go_roundw
       case rel=>exact ⟨k+1,m'-1,P ++ [y+1],by omega,by go_num,rfl,by simp [HP.out],by omega,by have:=HMC.out;omega,by simpa using HI2.out,by simpa using HF2.out,HB2.out⟩
       case measure=>simp [intOf];omega
      ·have e1:decide (x>0)=false:=by simpa using hxp
       have e1':decide (0<x)=false:=by simpa using hxp
       rw [if_neg hxp] at hmc;rw [onesM,if_neg (by omega)] at hf;have HI2:=hD hI;have HF2:=hD hf;have HP:=hD hP;have HB2:=hD hBr;have HXP:=hD hxp;have HMC:=hD hmc;have HMP:=hD hmp;clear hI hBr hp hget hx hbk hdb hdw hf hP hxp hmc hmp;go_wp2
       go_roundw
       case rel=>exact ⟨k+1,m',P ++ [y],by omega,by go_num,rfl,by simp [HP.out],by omega,by have:=HMC.out;omega,by simpa using HI2.out,by simpa using HF2.out,HB2.out⟩
       case measure=>simp [intOf];omega
     ·have e2:decide (m'>0)=false:=by simpa using hmp
      have e2':decide (0<m')=false:=by simpa using hmp
      rw [onesM_zero (by omega)] at hf;rw [hf] at hI;have HI2:=hD hI;have HB2:=hD hBr;clear hI hBr hf hP hmc;go_wp2;go_ret;exact ⟨rfl,HI2.out,HB2.out⟩
def wB (x:Int):Bool:=rng x 0 5
theorem within_w (n a b:Int) (t:Bool) (w:World) (h:rng n a b=t):Calls Tryz.prog 61 #[.int .i64 n,.int .i64 a,.int .i64 b] w fun e w'=>e=.returned (.bool t)∧w=w':=by rw [<- h];exact within_any n a b w
theorem inRange_w (n a b:Int) (t:Bool) (w:World) (h:rng n a b=t):Calls Tryz.prog 44 #[.int .i64 n,.int .i64 a,.int .i64 b] w fun e w'=>e=.returned (.bool t)∧w=w':=by rw [<- h];exact inRange_any n a b w
theorem inRange_b (n:Int) (t:Bool) (w:World) (h:wB n=t):Calls Tryz.prog 44 #[.int .i64 n,.int .i64 0,.int .i64 5] w fun e w'=>e=.returned (.bool t)∧w=w':=inRange_w n 0 5 t w h
theorem validWeight_w (n:Int) (t:Bool) (w:World) (h:wB n=t):Calls Tryz.prog 153 #[.int .i64 n] w fun e w'=>e=.returned (.bool t)∧w=w':=by
 go_enter Tryz.func153,Tryz.ntmps153
 go_wp2_with (go_at_call 61;refine (within_w _ _ _ t _ h).mono ?_;rintro e w' ⟨rfl,rfl⟩)
 go_ret;exact ⟨rfl,rfl⟩
end Go.Proofs.YtmmfifgdgbmgjaaGreat
