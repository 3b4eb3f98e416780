import Derived.Test.YtenckjdiggaonaaGreatQ04
import Derived.OwnWalk
import Derived.Deep.RegionHeld3
import Derived.Deep.DrawnRows
set_option linter.unusedVariables false
set_option maxRecDepth 100000
namespace Go.Proofs.YtenckjdiggaonaaGreat
section
open Go.RowKit
set_option maxHeartbeats 1000000
def writeAt (cs:Array Value) (o:Nat):List Value→Array Value
 | []=>cs
 | v :: r=>writeAt (cs.setIfInBounds o v) (o+1) r
theorem writeAt_size:∀ (vs:List Value) (cs:Array Value) (o:Nat),(writeAt cs o vs).size=cs.size
 | [],cs,o=>rfl
 | v :: r,cs,o=>by unfold writeAt;rw [writeAt_size r];simp
theorem writeAt_lo:∀ (vs:List Value) (cs:Array Value) (o i:Nat),i<o→(writeAt cs o vs)[i]?=cs[i]?
 | [],cs,o,i,_=>rfl
 | v :: r,cs,o,i,h=>by unfold writeAt;rw [writeAt_lo r _ _ _ (by omega),Array.getElem?_setIfInBounds_ne (by omega)]
theorem writeAt_hi:∀ (vs:List Value) (cs:Array Value) (o i:Nat),o+vs.length≤i→(writeAt cs o vs)[i]?=cs[i]?
 | [],cs,o,i,_=>rfl
 | v :: r,cs,o,i,h=>by
  simp only [List.length_cons] at h
  unfold writeAt;rw [writeAt_hi r _ _ _ (by omega),Array.getElem?_setIfInBounds_ne (by omega)]
theorem writeAt_in:∀ (vs:List Value) (cs:Array Value) (o j:Nat),o+vs.length≤cs.size→j<vs.length→(writeAt cs o vs)[o+j]?=vs[j]?
 | [],cs,o,j,_,h=>by simp at h
 | v :: r,cs,o,0,h,_=>by
  simp only [List.length_cons] at h
  unfold writeAt;rw [writeAt_lo r _ _ _ (by omega),Nat.add_zero,Array.getElem?_setIfInBounds_self_of_lt (by omega)]
  rfl
 | v :: r,cs,o,j+1,h,hj=>by
  simp only [List.length_cons] at h hj
  unfold writeAt
  rw [show o+(j+1)=o+1+j from by omega,writeAt_in r _ _ _ (by simp;omega) (by omega)]
  simp
def vals (p:Pk):List Value:=[.int .i64 p.w,.int .i64 p.h,.int .i64 p.s,.bool p.fx,.bool p.fy,.bool p.ex,.int .i64 p.an,.int .i64 p.px,.int .i64 p.py]
def In9 (cs:Array Value) (o:Nat) (p:Pk):Prop:=∀ j,j<9→cs[o+j]?=(vals p)[j]?
theorem In9.cells {w:World} {b:Nat} {cs:Array Value} {T:TypeId} {fz:Nat × Nat} {o:Nat} {p:Pk} (hh:w.heap[b]?=some (.cells cs T fz)) (h:In9 cs o p):Cells9 w b o p:=by
 have e:∀ j,j<9→w.cell? ⟨b,o+j,none⟩=(vals p)[j]?:=fun j hj=>(cellH hh _).trans (h j hj)
 exact ⟨e 0 (by omega),e 1 (by omega),e 2 (by omega),e 3 (by omega),e 4 (by omega),e 5 (by omega),e 6 (by omega),e 7 (by omega),e 8 (by omega)⟩
theorem In9.write {cs:Array Value} {o:Nat} (p:Pk) (h:o+9≤cs.size):In9 (writeAt cs o (vals p)) o p:=fun j hj=>writeAt_in _ _ _ _ h hj
theorem In9.keep {cs:Array Value} {o o':Nat} {p q:Pk} (h:In9 cs o' q) (hd:o'+9≤o ∨ o+9≤o'):In9 (writeAt cs o (vals p)) o' q:=fun j hj=>by
 rcases hd with hd | hd
 ·rw [writeAt_lo _ _ _ _ (by omega)];exact h j hj
 ·rw [writeAt_hi _ _ _ _ (by simp [vals];omega)];exact h j hj
theorem pput1 {w:World} {b i:Nat} {cs:Array Value} {T:TypeId} {fz:Nat × Nat} (h:w.heap[b]?=some (.cells cs T fz)) (u:Value):(w.setCell ⟨b,i,none⟩ u).heap[b]?=some (.cells (cs.setIfInBounds i u) T fz):=by
 simp [World.setCell,Array.getElem?_modify,h]
theorem there {w:World} {b:Nat} {cs:Array Value} {T:TypeId} {fz:Nat × Nat} (h:w.heap[b]?=some (.cells cs T fz)) {i:Nat} (hi:i<cs.size):∃ v,w.cell? ⟨b,i,none⟩=some v :=
 ⟨cs[i],(cellH h i).trans (by simp [hi])⟩
theorem frozenH {w:World} {b:Nat} {cs:Array Value} {T:TypeId} (h:w.heap[b]?=some (.cells cs T (0,0))) (i:Nat):w.frozen? ⟨b,i,none⟩=false:=by simp [World.frozen?,h]
end
section
open Go.RowKit
set_option maxHeartbeats 1000000
def Blk9 (w:World) (g:Nat) (L:List Pk):Prop:=∃ cs:Array Value,w.heap[g]?=some (.cells cs 78 (0,0))∧cs.size=L.length*9∧∀ i p,L[i]?=some p→In9 cs (i*9) p
theorem Blk9.keep {w w':World} {g:Nat} {L:List Pk} (h:Blk9 w g L) (hb:Below w.heap.size w w'):Blk9 w' g L:=by
 obtain ⟨cs,hh,hs,hc⟩:=h
 exact ⟨cs,(hb.block g (gE hh).1).trans hh,hs,hc⟩
theorem Blk9.lt {w:World} {g:Nat} {L:List Pk} (h:Blk9 w g L):g<w.heap.size:=by obtain ⟨cs,hh,_⟩:=h;exact (gE hh).1
end
section
open Go.RowKit
set_option maxHeartbeats 1000000
attribute [local go_sem] growUpon_value growUpon_skip growUpon_enter
theorem eqPack_same (p:Pk) (w:World):Calls Tryz.prog 135 #[.agg #[.int .i64 p.w,.int .i64 p.h,.int .i64 p.s,.bool p.fx,.bool p.fy,.bool p.ex,.int .i64 p.an,.int .i64 p.px,.int .i64 p.py],.agg #[.int .i64 p.w,.int .i64 p.h,.int .i64 p.s,.bool p.fx,.bool p.fy,.bool p.ex,.int .i64 p.an,.int .i64 p.px,.int .i64 p.py]] w fun e w'=>e=.returned (.bool true)∧Below w.heap.size w w':=by
 go_enter Tryz.func135,Tryz.ntmps135
 go_wp2
 go_ret
 exact ⟨rfl,balloc (balloc (Below.refl _ _))⟩
end
section
open Go.RowKit
set_option maxHeartbeats 2000000
attribute [local go_sem] growUpon_value growUpon_skip growUpon_enter
theorem eqNode_same (n:Nd) (ca:Option Addr) (cc:Nat) (ra:Option Addr) (rc:Nat) (da:Option Addr) (dc:Nat) (sa:Option Addr) (sc:Nat) (w:World) (h1:LnV w ca n.cs) (h2:LnV w ra n.rs) (k1:LnV w da n.cs) (k2:LnV w sa n.rs) (m1:n.cs.length≤1048576) (m2:n.rs.length≤1048576) :
  Calls Tryz.prog 90 #[.agg (valsNr ⟨n,ca,cc,ra,rc⟩).toArray,.agg (valsNr ⟨n,da,dc,sa,sc⟩).toArray] w fun e w'=>e=.returned (.bool true)∧Below w.heap.size w w':=by
 have hB0:Below w.heap.size w ((w.alloc (.cells (valsNr ⟨n,ca,cc,ra,rc⟩).toArray 84 (0,0))).alloc (.cells (valsNr ⟨n,da,dc,sa,sc⟩).toArray 84 (0,0))):=balloc (balloc (Below.refl _ _))
 have HX:=hD ((Below.heap_alloc _ (.cells (valsNr ⟨n,da,dc,sa,sc⟩).toArray 84 (0,0)) w.heap.size (by simp)).trans (newS w (.cells (valsNr ⟨n,ca,cc,ra,rc⟩).toArray 84 (0,0))))
 have HY:=hD (newS1T w (.cells (valsNr ⟨n,ca,cc,ra,rc⟩).toArray 84 (0,0)) (.cells (valsNr ⟨n,da,dc,sa,sc⟩).toArray 84 (0,0)))
 have HV1:=hD (h1.keep hB0)
 have HV2:=hD (h2.keep hB0)
 have HK1:=hD (k1.keep hB0)
 have HK2:=hD (k2.keep hB0)
 have HB:=hD hB0
 clear hB0 h1 h2 k1 k2
 have x0:((w.alloc (.cells (valsNr ⟨n,ca,cc,ra,rc⟩).toArray 84 (0,0))).alloc (.cells (valsNr ⟨n,da,dc,sa,sc⟩).toArray 84 (0,0))).cell? ⟨w.heap.size,0,none⟩=some (.int .i64 n.pa):=cellS HX.out 0
 have y0:((w.alloc (.cells (valsNr ⟨n,ca,cc,ra,rc⟩).toArray 84 (0,0))).alloc (.cells (valsNr ⟨n,da,dc,sa,sc⟩).toArray 84 (0,0))).cell? ⟨w.heap.size+1,0,none⟩=some (.int .i64 n.pa):=cellS HY.out 0
 have x1:((w.alloc (.cells (valsNr ⟨n,ca,cc,ra,rc⟩).toArray 84 (0,0))).alloc (.cells (valsNr ⟨n,da,dc,sa,sc⟩).toArray 84 (0,0))).cell? ⟨w.heap.size,1,none⟩=some (.int .i64 n.ww):=cellS HX.out 1
 have y1:((w.alloc (.cells (valsNr ⟨n,ca,cc,ra,rc⟩).toArray 84 (0,0))).alloc (.cells (valsNr ⟨n,da,dc,sa,sc⟩).toArray 84 (0,0))).cell? ⟨w.heap.size+1,1,none⟩=some (.int .i64 n.ww):=cellS HY.out 1
 have x2:((w.alloc (.cells (valsNr ⟨n,ca,cc,ra,rc⟩).toArray 84 (0,0))).alloc (.cells (valsNr ⟨n,da,dc,sa,sc⟩).toArray 84 (0,0))).cell? ⟨w.heap.size,2,none⟩=some (.int .i64 n.hh):=cellS HX.out 2
 have y2:((w.alloc (.cells (valsNr ⟨n,ca,cc,ra,rc⟩).toArray 84 (0,0))).alloc (.cells (valsNr ⟨n,da,dc,sa,sc⟩).toArray 84 (0,0))).cell? ⟨w.heap.size+1,2,none⟩=some (.int .i64 n.hh):=cellS HY.out 2
 have x3:((w.alloc (.cells (valsNr ⟨n,ca,cc,ra,rc⟩).toArray 84 (0,0))).alloc (.cells (valsNr ⟨n,da,dc,sa,sc⟩).toArray 84 (0,0))).cell? ⟨w.heap.size,3,none⟩=some (.bool n.ke):=cellS HX.out 3
 have y3:((w.alloc (.cells (valsNr ⟨n,ca,cc,ra,rc⟩).toArray 84 (0,0))).alloc (.cells (valsNr ⟨n,da,dc,sa,sc⟩).toArray 84 (0,0))).cell? ⟨w.heap.size+1,3,none⟩=some (.bool n.ke):=cellS HY.out 3
 have x4:((w.alloc (.cells (valsNr ⟨n,ca,cc,ra,rc⟩).toArray 84 (0,0))).alloc (.cells (valsNr ⟨n,da,dc,sa,sc⟩).toArray 84 (0,0))).cell? ⟨w.heap.size,4,none⟩=some (.int .i64 n.ki):=cellS HX.out 4
 have y4:((w.alloc (.cells (valsNr ⟨n,ca,cc,ra,rc⟩).toArray 84 (0,0))).alloc (.cells (valsNr ⟨n,da,dc,sa,sc⟩).toArray 84 (0,0))).cell? ⟨w.heap.size+1,4,none⟩=some (.int .i64 n.ki):=cellS HY.out 4
 have x5:((w.alloc (.cells (valsNr ⟨n,ca,cc,ra,rc⟩).toArray 84 (0,0))).alloc (.cells (valsNr ⟨n,da,dc,sa,sc⟩).toArray 84 (0,0))).cell? ⟨w.heap.size,5,none⟩=some (.slice ca n.cs.length cc):=cellS HX.out 5
 have y5:((w.alloc (.cells (valsNr ⟨n,ca,cc,ra,rc⟩).toArray 84 (0,0))).alloc (.cells (valsNr ⟨n,da,dc,sa,sc⟩).toArray 84 (0,0))).cell? ⟨w.heap.size+1,5,none⟩=some (.slice da n.cs.length dc):=cellS HY.out 5
 go_enter Tryz.func90,Tryz.ntmps90
 go_wp2_with fail
 with_reducible refine (eqLnS_same ca da cc dc n.cs _ HV1.out HK1.out m1).mono ?_
 rintro e w1 ⟨rfl,hb⟩
 clear x0 y0 x1 y1 x2 y2 x3 y3 x4 y4 x5 y5
 replace HX:=hD ((hb.block _ (gE HX.out).1).trans HX.out)
 replace HY:=hD ((hb.block _ (gE HY.out).1).trans HY.out)
 replace HV2:=hD (HV2.out.keep hb)
 replace HK2:=hD (HK2.out.keep hb)
 replace HB:=hD (bkeep2 HB.out hb)
 clear hb
 have x6:w1.cell? ⟨w.heap.size,6,none⟩=some (.slice ra n.rs.length rc):=cellS HX.out 6
 have y6:w1.cell? ⟨w.heap.size+1,6,none⟩=some (.slice sa n.rs.length sc):=cellS HY.out 6
 go_wp2_with fail
 with_reducible refine (eqLnS_same ra sa rc sc n.rs _ HV2.out HK2.out m2).mono ?_
 rintro e w2 ⟨rfl,hb⟩
 clear x6 y6
 replace HX:=hD ((hb.block _ (gE HX.out).1).trans HX.out)
 replace HY:=hD ((hb.block _ (gE HY.out).1).trans HY.out)
 replace HB:=hD (bkeep2 HB.out hb)
 clear hb
 have hx:=node_pk (nodeAt HX.out)
 have hy:=node_pk (nodeAt HY.out)
 simp only [Nat.zero_add] at hx hy
 have HRX:=hD hx
 have HRY:=hD hy
 clear hx hy
 go_wp2_with (first | (refine wpList_load_mid rfl 78 _ rfl w.heap.size 7 rfl [.int .i64 n.pk.w,.int .i64 n.pk.h,.int .i64 n.pk.s,.bool n.pk.fx,.bool n.pk.fy,.bool n.pk.ex,.int .i64 n.pk.an,.int .i64 n.pk.px,.int .i64 n.pk.py] _ HRX.out Tryz.underlying78 rfl (by kernel_rfl) ?_) | (refine wpList_load_mid rfl 78 _ rfl (w.heap.size+1) 7 rfl [.int .i64 n.pk.w,.int .i64 n.pk.h,.int .i64 n.pk.s,.bool n.pk.fx,.bool n.pk.fy,.bool n.pk.ex,.int .i64 n.pk.an,.int .i64 n.pk.px,.int .i64 n.pk.py] _ HRY.out Tryz.underlying78 rfl (by kernel_rfl) ?_))
 with_reducible refine (eqPack_same n.pk _).mono ?_
 rintro e w3 ⟨rfl,hb⟩
 clear HRX HRY
 replace HX:=hD ((hb.block _ (gE HX.out).1).trans HX.out)
 replace HY:=hD ((hb.block _ (gE HY.out).1).trans HY.out)
 replace HB:=hD (bkeep2 HB.out hb)
 clear hb
 have hx:=node_ce (nodeAt HX.out)
 have hy:=node_ce (nodeAt HY.out)
 simp only [Nat.zero_add] at hx hy
 have HRX:=hD hx
 have HRY:=hD hy
 clear hx hy
 go_wp2_with (first | (refine wpList_load_mid rfl 80 _ rfl w.heap.size 16 rfl [.int .i64 n.ce.co,.int .i64 n.ce.ro,.int .i64 n.ce.mc,.int .i64 n.ce.mr,.int .i64 n.ce.cw,.int .i64 n.ce.ch,.int .i64 n.ce.sk,.int .i64 n.ce.px,.int .i64 n.ce.py] _ HRX.out Tryz.underlying80 rfl (by kernel_rfl) ?_) | (refine wpList_load_mid rfl 80 _ rfl (w.heap.size+1) 16 rfl [.int .i64 n.ce.co,.int .i64 n.ce.ro,.int .i64 n.ce.mc,.int .i64 n.ce.mr,.int .i64 n.ce.cw,.int .i64 n.ce.ch,.int .i64 n.ce.sk,.int .i64 n.ce.px,.int .i64 n.ce.py] _ HRY.out Tryz.underlying80 rfl (by kernel_rfl) ?_))
 with_reducible refine (eqCe_same n.ce _).mono ?_
 rintro e w4 ⟨rfl,hb⟩
 clear HRX HRY
 replace HX:=hD ((hb.block _ (gE HX.out).1).trans HX.out)
 replace HY:=hD ((hb.block _ (gE HY.out).1).trans HY.out)
 replace HB:=hD (bkeep2 HB.out hb)
 clear hb
 have hx:=node_pl (nodeAt HX.out)
 have hy:=node_pl (nodeAt HY.out)
 simp only [Nat.zero_add] at hx hy
 have HRX:=hD hx
 have HRY:=hD hy
 clear hx hy
 go_wp2_with (first | (refine wpList_load_mid rfl 82 _ rfl w.heap.size 25 rfl [.int .i64 n.pl.x,.int .i64 n.pl.y,.int .i64 n.pl.rx,.int .i64 n.pl.ry,.int .i64 n.pl.ww,.int .i64 n.pl.hh,.int .i64 n.pl.qw,.int .i64 n.pl.qh,.int .i64 n.pl.an] _ HRX.out Tryz.underlying82 rfl (by kernel_rfl) ?_) | (refine wpList_load_mid rfl 82 _ rfl (w.heap.size+1) 25 rfl [.int .i64 n.pl.x,.int .i64 n.pl.y,.int .i64 n.pl.rx,.int .i64 n.pl.ry,.int .i64 n.pl.ww,.int .i64 n.pl.hh,.int .i64 n.pl.qw,.int .i64 n.pl.qh,.int .i64 n.pl.an] _ HRY.out Tryz.underlying82 rfl (by kernel_rfl) ?_))
 with_reducible refine (eqPlace_same n.pl _).mono ?_
 rintro e w5 ⟨rfl,hb⟩
 clear HRX HRY
 replace HX:=hD ((hb.block _ (gE HX.out).1).trans HX.out)
 replace HY:=hD ((hb.block _ (gE HY.out).1).trans HY.out)
 replace HB:=hD (bkeep2 HB.out hb)
 clear hb
 go_wp2
 go_ret
 exact ⟨rfl,HB.out⟩
theorem eqN_w (p q:Nr) (w:World) (hn:q.n=p.n) (hp:RdN w p) (hq:RdN w q) (m1:p.n.cs.length≤1048576) (m2:p.n.rs.length≤1048576) :
  Calls Tryz.prog 90 #[.agg (valsNr p).toArray,.agg (valsNr q).toArray] w fun e w'=>e=.returned (.bool true)∧Below w.heap.size w w':=by
 obtain ⟨n,ca,cc,ra,rc⟩:=p
 obtain ⟨n',da,dc,sa,sc⟩:=q
 obtain rfl:n'=n:=hn
 exact eqNode_same n' ca cc ra rc da dc sa sc w hp.c hp.r hq.c hq.r m1 m2
theorem eqNodeS_same (A B:Option Addr) (c c':Nat) (R S:List Nr) (w:World) (hn:S.map Nr.n=R.map Nr.n) (h:NrV w A R) (h':NrV w B S) (hr:RdR w R) (hs:RdR w S) (hL:R.length≤1048576) (hm:∀ p ∈ R,p.n.cs.length≤1048576∧p.n.rs.length≤1048576) (k:Nat) (hk:k=R.length) :
  Calls Tryz.prog 49 #[.slice A k c,.slice B k c'] w fun e w'=>e=.returned (.bool true)∧Below w.heap.size w w':=by
 subst hk
 have hls:S.length=R.length:=by have:=congrArg List.length hn;simpa using this
 have HN:=hD hn
 have HR:=hD hr
 have HS:=hD hs
 have HM:=hD hm
 have HLS:=hD hls
 clear hn hr hs hm hls
 go_enter Tryz.func49,Tryz.ntmps49
 go_wp2_with fail
 go_loopw [5] (fun i wr=>∃ k:Nat,k≤R.length∧i=.int .i64 k∧Below w.heap.size w wr) (fun i _=>R.length - (intOf i).toNat)
 case atStart=>exact ⟨0,by omega,rfl,Below.refl _ _⟩
 case round =>
  obtain ⟨k,hk,rfl,hB⟩:=hrel
  by_cases hlt:k<R.length
  ·have hd:decide ((k:Int)<(R.length:Int))=true:=by simpa using hlt
   have hlt':k<S.length:=by rw [HLS.out];exact hlt
   obtain ⟨b,off,rfl,hb,hp⟩:=(h.keep hB).cells (by omega)
   obtain ⟨b',off',rfl,hb',hp'⟩:=(h'.keep hB).cells (by omega)
   have hg1:R[k]?=some R[k]:=List.getElem?_eq_getElem hlt
   have hg2:S[k]?=some S[k]:=List.getElem?_eq_getElem hlt'
   have hr1:=hp k _ hg1
   have hr2:=hp' k _ hg2
   have hnn:(S[k]).n=(R[k]).n:=by
    have:=congrArg (fun l=>l[k]?) HN.out
    simpa [List.getElem?_map,hg1,hg2] using this
   have hrd1:=(HR.out.keep hB) _ (List.mem_of_getElem? hg1)
   have hrd2:=(HS.out.keep hB) _ (List.mem_of_getElem? hg2)
   have hmm:=HM.out _ (List.mem_of_getElem? hg1)
   generalize R[k]=p at *
   generalize S[k]=q at *
   have HR1:=hD hr1
   have HR2:=hD hr2
   have HNN:=hD hnn
   have HBB:=hD hB
   have HD1:=hD hrd1
   have HD2:=hD hrd2
   obtain ⟨mm1,mm2⟩:=hmm
   clear hr1 hr2 hnn hB hg1 hg2 hp hp' hrd1 hrd2 hlt'
   go_wp2_with fail
   refine wp_region_grow 10 0 (·<10) (by kernel_rfl) (by kernel_rfl) rfl ?_
   iterate 10 (refine wpG_step (fun K hK=>?_);first | (refine grow_ldN _ p b (off+k*34) rfl rfl rfl hb (rangeB HR1.out rfl) ?_;refine hK _ ?_;clear hK K) | (refine grow_ldN _ q b' (off'+k*34) rfl rfl rfl hb' (rangeB HR2.out rfl) ?_;refine hK _ ?_;clear hK K) | (refine grow_skip rfl ?_;go_simp;refine hK _ ?_;clear hK K) | (apply Exists.intro;refine ⟨.inl ⟨rfl,fun w' hw'=>?_⟩,?_⟩;(focus ((obtain ⟨hc,hf⟩:=bcell hw'.out);(have hcS:=bcellS hw'.out);go_simp <;> first | rfl | (go_at_call 90;exact eqN_w p q _ HNN.out (HD1.out.keep (bdrewn hw'.out)) (HD2.out.keep (bdrewn hw'.out)) mm1 mm2)));(go_simp;refine hK _ ?_;clear hK K)))
   refine wpG_nil ?_
   refine wpK_tail (by kernel_rfl) (fun w1 hg1=>?_)
   have hb1:=bdrewn hg1.out
   refine wpAny_end (by kernel_rfl) ?_
   refine NoPan.thn ?_
   clear hg1
   replace HBB:=hD (HBB.out.trans (hb1.mono HBB.out.size))
   clear hb1
   go_wp2
   go_roundw
   case rel=>exact ⟨k+1,by omega,by go_num,HBB.out⟩
   case measure=>simp [intOf];omega
  ·have hd:decide ((k:Int)<(R.length:Int))=false:=decide_eq_false (by omega)
   have HBB:=hD hB
   clear hB
   go_wp2
   go_ret
   exact ⟨rfl,HBB.out⟩
theorem eqTree_same (A B:Option Addr) (c c':Nat) (R S:List Nr) (w:World) (hn:S.map Nr.n=R.map Nr.n) (h:NrV w A R) (h':NrV w B S) (hr:RdR w R) (hs:RdR w S) (hL:R.length≤1048576) (hm:∀ p ∈ R,p.n.cs.length≤1048576∧p.n.rs.length≤1048576) (k:Nat) (hk:k=R.length) :
  Calls Tryz.prog 17 #[.agg #[.slice A k c],.agg #[.slice B k c']] w fun e w'=>e=.returned (.bool true)∧Below w.heap.size w w':=by
 have hB0:Below w.heap.size w ((w.alloc (.cells #[.slice A k c] 30 (0,0))).alloc (.cells #[.slice B k c'] 30 (0,0))):=balloc (balloc (Below.refl _ _))
 have hx:=(Below.heap_alloc _ (.cells #[.slice B k c'] 30 (0,0)) w.heap.size (by simp)).trans (newS w (.cells #[.slice A k c] 30 (0,0)))
 have hy:=newS1T w (.cells #[.slice A k c] 30 (0,0)) (.cells #[.slice B k c'] 30 (0,0))
 have x0:=cellS hx 0
 have y0:=cellS hy 0
 have HA:=hD (And.intro (h.keep hB0) (And.intro (h'.keep hB0) (And.intro (hr.keep hB0) (hs.keep hB0))))
 have HN:=hD (And.intro hn (And.intro hm hk))
 have HB:=hD hB0
 clear hB0 hx hy hn h h' hr hs hm hk
 go_enter Tryz.func17,Tryz.ntmps17
 go_wp2_with fail
 with_reducible refine (eqNodeS_same A B c c' R S _ HN.out.1 HA.out.1 HA.out.2.1 HA.out.2.2.1 HA.out.2.2.2 hL HN.out.2.1 k HN.out.2.2).mono ?_
 rintro e w1 ⟨rfl,hb⟩
 clear x0 y0
 replace HB:=hD (bkeep2 HB.out hb)
 clear hb
 go_wp2
 go_ret
 exact ⟨rfl,HB.out⟩
end
section
open Go.RowKit
set_option maxHeartbeats 8000000
def mkB (z:Int):Bool:=z % 3 == 0
def mkN (z:Int) (p:Nr):Nr :=
 let y:=z+5+2*p.n.cs.length+2*p.n.rs.length
 ⟨⟨z,z+1,z+2,mkB (z+3),z+4,p.n.cs,p.n.rs,⟨y,y+1,y+2,mkB (y+3),mkB (y+4),mkB (y+5),y+6,y+7,y+8⟩,⟨y+9,y+10,y+11,y+12,y+13,y+14,y+15,y+16,y+17⟩,⟨y+18,y+19,y+20,y+21,y+22,y+23,y+24,y+25,y+26⟩⟩,p.ca,p.cc,p.ra,p.rc⟩
def mkW (p:Nr):Int:=32+2*p.n.cs.length+2*p.n.rs.length
def mkS:List Nr→Int
 | []=>0
 | p :: t=>mkW p+mkS t
theorem mkS_nn:∀ R,0≤mkS R
 | []=>Int.le_refl _
 | p :: t=>by have:=mkS_nn t;simp only [mkS,mkW];omega
theorem mkS_take:∀ {R:List Nr} {k:Nat} {p:Nr},R[k]?=some p→mkS (R.take (k+1))=mkS (R.take k)+mkW p
 | q :: t,0,p,h=>by simp at h;subst h;simp [mkS]
 | q :: t,k+1,p,h=>by
  simp only [List.getElem?_cons_succ] at h
  simp only [List.take_succ_cons,mkS,mkS_take h]
  omega
 | [],k,p,h=>by simp at h
theorem mkS_le:∀ (R:List Nr) (k:Nat),mkS (R.take k)≤mkS R
 | [],k=>by simp [mkS]
 | q :: t,0=>by have:=mkS_nn (q :: t);simpa [mkS] using this
 | q :: t,k+1=>by have:=mkS_le t k;simp only [List.take_succ_cons,mkS];omega
structure Wi (lo hi:Nat) (w w':World):Prop where
 os:w'.os=w.os
 tape:w'.tape=w.tape
 output:w'.output=w.output
 size:w.heap.size≤w'.heap.size
 block:∀ k,k<w.heap.size→¬ (lo≤k∧k<hi)→w'.heap[k]?=w.heap[k]?
theorem Wi.refl (lo hi:Nat) (w:World):Wi lo hi w w:=⟨rfl,rfl,rfl,Nat.le_refl _,fun _ _ _=>rfl⟩
theorem Wi.grown {lo hi g:Nat} {a w w':World} (h:Wi lo hi a w) (hg:w.grownBy w' (some g)) (hb:(lo≤g∧g<hi) ∨ a.heap.size≤g):Wi lo hi a w' :=
 ⟨hg.os.trans h.os,hg.tape.trans h.tape,hg.output.trans h.output,Nat.le_trans h.size hg.size,fun k hk hn=>by
  have hne:k ≠ g:=by rintro rfl;rcases hb with hb | hb <;> omega
  exact (hg.block k (Nat.lt_of_lt_of_le hk h.size) (fun e=>hne (Option.some.inj e))).trans (h.block k hk hn)⟩
theorem Wi.set {lo hi g o:Nat} {a w:World} (h:Wi lo hi a w) (hb:lo≤g∧g<hi) (v:Value):Wi lo hi a (w.setCell ⟨g,o,none⟩ v):=h.grown (gsetS (greflS w g) o v) (.inl hb)
theorem Wi.below {lo hi:Nat} {a w w':World} (h:Wi lo hi a w) (hb:Below w.heap.size w w'):Wi lo hi a w' :=
 ⟨hb.os.trans h.os,hb.tape.trans h.tape,hb.output.trans h.output,Nat.le_trans h.size hb.size,fun k hk hn=>(hb.block k (Nat.lt_of_lt_of_le hk h.size)).trans (h.block k hk hn)⟩
theorem Wi.toBelow {lo hi:Nat} {a w:World} (h:Wi lo hi a w) {B:Nat} (hB:B≤lo) (hs:B≤a.heap.size):Below B a w :=
 ⟨h.os,h.tape,h.output,h.size,fun k hk=>h.block k (by omega) (by omega)⟩
def MidN (w:World) (g n k:Nat) (cs0:Array Value) (l:List Value) (s5 s6:Value):Prop :=
 ∃ cs:Array Value,w.heap[g]?=some (.cells cs 84 (0,0))∧cs.size=n*34∧(∀ i,i<k*34 ∨ (k+1)*34≤i→cs[i]?=cs0[i]?)∧InS cs (k*34) l∧cs[k*34+5]?=some s5∧cs[k*34+6]?=some s6
theorem MidN.put {w:World} {g n k:Nat} {cs0:Array Value} {l:List Value} {s5 s6:Value} (h:MidN w g n k cs0 l s5 s6) (hk:k<n) (j:Nat) (hj:j=l.length) (hj34:j<34) (h5:j ≠ 5) (h6:j ≠ 6) (v:Value):MidN (w.setCell ⟨g,k*34+j,none⟩ v) g n k cs0 (l ++ [v]) s5 s6:=by
 subst hj
 obtain ⟨cs,hh,hs,ho,hl,e5,e6⟩:=h
 have hsz:k*34+l.length<cs.size:=by omega
 refine ⟨_,putS hh v,by simpa using hs,fun i hi=>?_,fun j u hu=>?_,?_,?_⟩
 ·rw [Array.getElem?_setIfInBounds_ne (by omega)];exact ho i hi
 ·by_cases hj:j<l.length
  ·rw [List.getElem?_append_left hj] at hu
   rw [Array.getElem?_setIfInBounds_ne (by omega)];exact hl j u hu
  ·rw [List.getElem?_append_right (by omega)] at hu
   have hj1:=(List.getElem?_eq_some_iff.1 hu).1
   simp at hj1
   obtain rfl:j=l.length:=by omega
   simp at hu
   subst hu
   rw [Array.getElem?_setIfInBounds_self_of_lt hsz]
 ·rw [Array.getElem?_setIfInBounds_ne (by omega)];exact e5
 ·rw [Array.getElem?_setIfInBounds_ne (by omega)];exact e6
theorem MidN.two {w:World} {g n k:Nat} {cs0:Array Value} {l:List Value} {s5 s6:Value} (h:MidN w g n k cs0 l s5 s6) (hl:l.length=5):MidN w g n k cs0 (l ++ [s5,s6]) s5 s6:=by
 obtain ⟨cs,hh,hs,ho,hi,e5,e6⟩:=h
 refine ⟨cs,hh,hs,ho,fun j u hu=>?_,e5,e6⟩
 by_cases hj:j<l.length
 ·rw [List.getElem?_append_left hj] at hu;exact hi j u hu
 ·rw [List.getElem?_append_right (by omega),hl] at hu
  have hj1:=(List.getElem?_eq_some_iff.1 hu).1
  simp at hj1
  have hj2:j=5 ∨ j=6:=by omega
  rcases hj2 with rfl | rfl
  ·simp at hu;subst hu;exact e5
  ·simp at hu;subst hu;exact e6
theorem MidN.keep {w w':World} {g n k:Nat} {cs0:Array Value} {l:List Value} {s5 s6:Value} (h:MidN w g n k cs0 l s5 s6) (hb:w'.heap[g]?=w.heap[g]?):MidN w' g n k cs0 l s5 s6:=by
 obtain ⟨cs,hh,r⟩:=h
 exact ⟨cs,hb.trans hh,r⟩
theorem MidN.cell {w:World} {g n k:Nat} {cs0:Array Value} {l:List Value} {s5 s6:Value} (h:MidN w g n k cs0 l s5 s6) (hk:k<n) {j:Nat} (hj:j<34):∃ v,w.cell? ⟨g,k*34+j,none⟩=some v:=by
 obtain ⟨cs,hh,hs,_⟩:=h
 exact thereS hh (by omega)
theorem MidN.cell0 {w:World} {g n k:Nat} {cs0:Array Value} {l:List Value} {s5 s6:Value} (h:MidN w g n k cs0 l s5 s6) (hk:k<n):∃ v,w.cell? ⟨g,k*34,none⟩=some v:=h.cell hk (j:=0) (by omega)
theorem MidN.frz {w:World} {g n k:Nat} {cs0:Array Value} {l:List Value} {s5 s6:Value} (h:MidN w g n k cs0 l s5 s6) (i:Nat):w.frozen? ⟨g,i,none⟩=false:=by
 obtain ⟨cs,hh,_⟩:=h
 exact frozenS hh i
theorem MidN.c5 {w:World} {g n k:Nat} {cs0:Array Value} {l:List Value} {s5 s6:Value} (h:MidN w g n k cs0 l s5 s6):w.cell? ⟨g,k*34+5,none⟩=some s5∧w.cell? ⟨g,k*34+6,none⟩=some s6:=by
 obtain ⟨cs,hh,_,_,_,e5,e6⟩:=h
 exact ⟨(cellS hh _).trans e5,(cellS hh _).trans e6⟩
theorem MidN.lt {w:World} {g n k:Nat} {cs0:Array Value} {l:List Value} {s5 s6:Value} (h:MidN w g n k cs0 l s5 s6):g<w.heap.size:=by
 obtain ⟨cs,hh,_⟩:=h
 exact ltS hh
end
section
open Go.RowKit
theorem calls_abs {P:Program} {f:FuncId} {fn:Func} {c:Code} {args:Array Value} {w:World} {R:Ending→World→Prop} (hf:P.funcs[f]?=some fn) (hb:fn.body=some c) (N:Nat) (hN:fn.ntmps=N) (hle:args.size≤N)
  (h:∀ tm:Array Value,tm.size=N→(∀ i v,args[i]?=some v→tm.getD i undef=v)→c.wp P (bodyPost P fn R) ⟨tm,[]⟩ w):Calls P f args w R:=by
 refine calls_of_wp hf hb (h _ ?_ ?_)
 ·simp [hN];omega
 ·intro i v hi
  have hlt:=(gE hi).1
  rw [Array.getD_eq_getD_getElem?,Array.getElem?_append_left hlt,hi]
  rfl
theorem get_of {tm:Array Value} {i:Nat} {v d:Value} (h:i<tm.size) (e:tm.getD i d=v):tm[i]?=some v:=by
 rw [Array.getD_eq_getD_getElem?,Array.getElem?_eq_getElem h] at e
 rw [Array.getElem?_eq_getElem h];simpa using e
theorem wp_seq_h {P:Program} {Q:Exit→Act→World→Prop} {a:Act} {w:World} {x y:Code} (h:∀ K:Act→World→Prop,Hid (∀ a w,y.wp P Q a w→K a w)→x.wp P (Exit.then K Q) a w):(Code.seq x y).wp P Q a w:=wp_seq_k fun K hK=>h K (hD hK)
theorem wp_abw {P:Program} {Q:Exit→Act→World→Prop} {tm:Array Value} {w:World} {c:Code} (F:Array Value→World→Prop) (hF:F tm w) (h:∀ t W,F t W→c.wp P Q ⟨t,[]⟩ W):c.wp P Q ⟨tm,[]⟩ w:=h tm w hF
end
section
open Go.RowKit
set_option maxHeartbeats 1000000
def RvK (k:Nat) (w:World) (A:Option Addr) (R:List (List Value)):Prop:=0<R.length→∃ b off,A=some ⟨b,off,none⟩∧b<w.heap.size∧∀ i vs,R[i]?=some vs→w.rangeAt b (off+i*k) vs
theorem RvK.keep {k:Nat} {w w':World} {A:Option Addr} {R:List (List Value)} (h:RvK k w A R) (hb:Below w.heap.size w w'):RvK k w' A R:=fun h0 =>
 let ⟨b,off,e,hl,hp⟩:=h h0;⟨b,off,e,Nat.lt_of_lt_of_le hl hb.size,fun i vs hi=>rangeB (hp i vs hi) (hb.block b hl)⟩
theorem RvK.nil (k:Nat) (w:World) (A:Option Addr):RvK k w A []:=fun h=>absurd h (by simp)
def RpK (k:Nat) (w:World) (g:Nat) (T:TypeId) (n j:Nat) (R:List (List Value)):Prop:=∃ cs:Array Value,w.heap[g]?=some (.cells cs T (0,0))∧cs.size=n*k∧∀ i vs,i<j→R[i]?=some vs→InS cs (i*k) vs
theorem RpK.lt {k:Nat} {w:World} {g:Nat} {T:TypeId} {n j:Nat} {R:List (List Value)} (h:RpK k w g T n j R):g<w.heap.size:=by obtain ⟨cs,hh,_⟩:=h;exact ltS hh
theorem RpK.keep' {k:Nat} {w w':World} {g:Nat} {T:TypeId} {n j:Nat} {R:List (List Value)} (h:RpK k w g T n j R) (hb:w'.heap[g]?=w.heap[g]?):RpK k w' g T n j R:=by
 obtain ⟨cs,hh,r⟩:=h
 exact ⟨cs,hb.trans hh,r⟩
theorem RpK.keep {k:Nat} {w w':World} {g:Nat} {T:TypeId} {n j:Nat} {R:List (List Value)} (h:RpK k w g T n j R) (hb:Below w.heap.size w w'):RpK k w' g T n j R:=h.keep' (hb.block g h.lt)
theorem RpK.there {k:Nat} {w:World} {g:Nat} {T:TypeId} {n j:Nat} {R:List (List Value)} (h:RpK k w g T n j R) {i:Nat} (hi:i<n):w.there g (i*k) k:=by
 obtain ⟨cs,hh,hs,_⟩:=h
 refine thereB hh ?_
 rw [hs]
 calc i*k+k=(i+1)*k:=by rw [Nat.add_mul,Nat.one_mul]
  _≤n*k:=Nat.mul_le_mul_right k hi
theorem RpK.step {k:Nat} {w:World} {g:Nat} {T:TypeId} {n j:Nat} {R:List (List Value)} (h:RpK k w g T n j R) (hR:∀ vs ∈ R,vs.length=k) {vs:List Value} (hv:R[j]?=some vs) (hj:j<n):RpK k (w.setCells g (j*k) vs) g T n (j+1) R:=by
 obtain ⟨cs,hh,hs,hc⟩:=h
 have hl:=hR vs (List.mem_of_getElem? hv)
 have e:(j+1)*k≤n*k:=Nat.mul_le_mul_right k hj
 rw [Nat.add_mul,Nat.one_mul] at e
 refine ⟨_,heap_setCells vs (j*k) _ _ hh,(wrAt_size _ _ _).trans hs,fun i us hi hu=>?_⟩
 by_cases ei:i=j
 ·subst ei
  rw [hv] at hu
  obtain rfl:=Option.some.inj hu
  exact InS.write (by rw [hl,hs];omega)
 ·have e2:(i+1)*k≤j*k:=Nat.mul_le_mul_right k (by omega)
  rw [Nat.add_mul,Nat.one_mul] at e2
  exact (hc i us (by omega) hu).keepS (.inl (by rw [hR us (List.mem_of_getElem? hu)];omega))
theorem RpK.new {k:Nat} {w:World} {f:Array Value} {T:TypeId} {n:Nat} (R:List (List Value)) (hf:f.size=n*k):RpK k (w.alloc (.cells f T)) w.heap.size T n 0 R:=⟨f,newS _ _,hf,fun i vs hi=>absurd hi (by omega)⟩
def RbK (k:Nat) (w:World) (g:Nat) (T:TypeId) (R:List (List Value)):Prop:=RpK k w g T R.length R.length R
theorem RbK.v {k:Nat} {w:World} {g:Nat} {T:TypeId} {R:List (List Value)} (h:RbK k w g T R):RvK k w (some ⟨g,0,none⟩) R:=fun _=>by
 obtain ⟨cs,hh,hs,hc⟩:=h
 refine ⟨g,0,rfl,ltS hh,fun i vs hv j v hj=>?_⟩
 rw [Nat.zero_add]
 exact (cellS hh _).trans (hc i vs (List.getElem?_eq_some_iff.1 hv).1 hv j v hj)
theorem RpK.whole {k:Nat} {w:World} {g:Nat} {T:TypeId} {n j:Nat} {R:List (List Value)} (h:RpK k w g T n j R) (hn:n=R.length) (hj:n≤j):RbK k w g T R:=by
 subst hn
 obtain ⟨cs,hh,hs,hc⟩:=h
 exact ⟨cs,hh,hs,fun i vs hi hv=>hc i vs (by omega) hv⟩
def one (vs:List Value):Prop:=∀ v ∈ vs,v.oneCell'=true
theorem ldK {P:Program} {ops:Array Oper} {rest:List Oper} {op:Oper} {a:Act} {w:World} {Q:Exit→Act→World→Prop} (T:TypeId) (x:Operand) (vs:List Value) (b o:Nat) {d:TypeDesc} (hgd:op.guard=none) (ho:op.op=.load T x)
  (hc:w.rangeAt b o vs) (hu:P.underlying T=some d) (hd:d.isRow=true) (hi:(P.info? T).map (·.size)=some vs.length) (hx:a.eval x=.pointer (some ⟨b,o,none⟩))
  (h:wpList P ops Q rest (a.put op.dst (.agg vs.toArray)) w):wpList P ops Q (op :: rest) a w :=
 wpList_load_mid hgd T x ho b o hx vs d hc hu hd hi h
theorem stK {P:Program} {ops:Array Oper} {rest:List Oper} {op:Oper} {a:Act} {w:World} {Q:Exit→Act→World→Prop} (T:TypeId) (x y:Operand) (vs:List Value) (b o:Nat) (hgd:op.guard=none) (ho:op.op=.store T x y)
  (ht:w.there b o vs.length) (hi:(P.info? T).map (·.size)=some vs.length) (h1:one vs) (hx:a.eval x=.pointer (some ⟨b,o,none⟩)) (hy:a.eval y=.agg vs.toArray)
  (h:wpList P ops Q rest (a.put op.dst undef) (w.setCells b o vs)):wpList P ops Q (op :: rest) a w:=by
 refine wpList_store_mid hgd T x y ho b o vs.toArray hx hy (by simpa using ht) (by simpa using hi) (all_oneCell_toArray h1) ?_
 simpa using h
theorem allocK {P:Program} {ops:Array Oper} {rest:List Oper} {op:Oper} {a:Act} {w:World} {Q:Exit→Act→World→Prop} (T:TypeId) (k:Nat) (hgd:op.guard=none) (ho:op.op=.alloc T) (hi:∃ i z,P.info? T=some i∧i.zero=some z∧z.cells.size=k)
  (h:∀ f:Array Value,f.size=k→wpList P ops Q rest (a.put op.dst (.pointer (some ⟨w.heap.size,0,none⟩))) (w.alloc (.cells f T))):wpList P ops Q (op :: rest) a w:=by
 obtain ⟨i,z,h1,h2,h3⟩:=hi
 refine wpList_plain hgd fun K hK=>?_
 have:=hK _ _ (h z.cells h3)
 unfold Oper.wp execOp
 simp only [ho]
 simpa [Instr.alloc,zeroValue,typeInfo,h1,h2,newVar,go_sem] using this
theorem info_z {P:Program} {T:TypeId} {k:Nat} (h:(P.info? T).map (fun i=>i.zero.map (fun z=>z.cells.size))=some (some k)):∃ i z,P.info? T=some i∧i.zero=some z∧z.cells.size=k:=by
 cases hq:P.info? T with
 | none=>rw [hq] at h;cases h
 | some i =>
  rw [hq] at h
  simp only [Option.map_some,Option.some.injEq] at h
  cases hz:i.zero with
  | none=>rw [hz] at h;cases h
  | some z=>rw [hz] at h;simp only [Option.map_some,Option.some.injEq] at h;exact ⟨i,z,rfl,hz,h⟩
theorem madeK (S T:TypeId) (k:Nat) (hk:k≤64) (hu:Tryz.prog.underlying S=some (.slice T)) (hinfo:(Tryz.prog.info? T).map (fun i=>(i.size,decide (i.bytes≤512),i.zero.isSome))=some (k,true,true)):∃ f:Nat→Array Value,(∀ n,(f n).size=n*k)∧∀ (n:Nat) (w:World),n≤1048576→(Instr.makeSlice S (.int .i64 (n:Int)) (.int .i64 (n:Int))).run Tryz.prog w=.ok (.slice (some ⟨w.heap.size,0,none⟩) n n) (w.alloc (.cells (f n) T)):=by
 obtain ⟨i,z,hi,h1,h2,h3⟩:∃ (i:TypeInfo) (z:Value),Tryz.prog.info? T=some i∧i.zero=some z∧i.size=k∧i.bytes≤512:=by
  cases hq:Tryz.prog.info? T with
  | none=>rw [hq] at hinfo;cases hinfo
  | some i =>
   rw [hq] at hinfo
   simp only [Option.map_some,Option.some.injEq,Prod.mk.injEq] at hinfo
   obtain ⟨e1,e2,e3⟩:=hinfo
   obtain ⟨z,hz⟩:=Option.isSome_iff_exists.1 e3
   exact ⟨i,z,rfl,hz,e1,by simpa using e2⟩
 refine ⟨fun n=>madeCells z.cells (n*k),fun n=>size_madeCells _ _,fun n w hn=>?_⟩
 have e:((i.bytes*n:Nat):Int)≤((512*1048576:Nat):Int):=Int.ofNat_le.2 (Nat.mul_le_mul h3 hn)
 rw [Int.natCast_mul] at e
 have hr:=run_make (P:=Tryz.prog) w S T i _ hu hi h1 .i64 .i64 n n (by omega) (Int.le_refl _) (Int.le_trans e (by decide)) (by omega)
 rw [h2] at hr
 simpa using hr
end
section
open Go.RowKit
set_option linter.unusedSimpArgs false
set_option maxHeartbeats 4000000
theorem inf_widget:(Tryz.prog.info? 108).map (·.size)=some 37:=by kernel_rfl
theorem infz_widget:∃ i z,Tryz.prog.info? 108=some i∧i.zero=some z∧z.cells.size=37:=info_z (by kernel_rfl)
theorem made_widget:∃ f:Nat→Array Value,(∀ n,(f n).size=n*37)∧∀ (n:Nat) (w:World),n≤1048576→(Instr.makeSlice 105 (.int .i64 (n:Int)) (.int .i64 (n:Int))).run Tryz.prog w=.ok (.slice (some ⟨w.heap.size,0,none⟩) n n) (w.alloc (.cells (f n) 108)):=madeK _ _ 37 (by omega) Tryz.underlying105 (by kernel_rfl)
theorem inf_Cell:(Tryz.prog.info? 80).map (·.size)=some 9:=by kernel_rfl
theorem infz_Cell:∃ i z,Tryz.prog.info? 80=some i∧i.zero=some z∧z.cells.size=9:=info_z (by kernel_rfl)
theorem made_Cell:∃ f:Nat→Array Value,(∀ n,(f n).size=n*9)∧∀ (n:Nat) (w:World),n≤1048576→(Instr.makeSlice 121 (.int .i64 (n:Int)) (.int .i64 (n:Int))).run Tryz.prog w=.ok (.slice (some ⟨w.heap.size,0,none⟩) n n) (w.alloc (.cells (f n) 80)):=madeK _ _ 9 (by omega) Tryz.underlying121 (by kernel_rfl)
theorem inf_Place:(Tryz.prog.info? 82).map (·.size)=some 9:=by kernel_rfl
theorem infz_Place:∃ i z,Tryz.prog.info? 82=some i∧i.zero=some z∧z.cells.size=9:=info_z (by kernel_rfl)
theorem made_Place:∃ f:Nat→Array Value,(∀ n,(f n).size=n*9)∧∀ (n:Nat) (w:World),n≤1048576→(Instr.makeSlice 160 (.int .i64 (n:Int)) (.int .i64 (n:Int))).run Tryz.prog w=.ok (.slice (some ⟨w.heap.size,0,none⟩) n n) (w.alloc (.cells (f n) 82)):=madeK _ _ 9 (by omega) Tryz.underlying160 (by kernel_rfl)
theorem inf_Pack:(Tryz.prog.info? 78).map (·.size)=some 9:=by kernel_rfl
theorem infz_Pack:∃ i z,Tryz.prog.info? 78=some i∧i.zero=some z∧z.cells.size=9:=info_z (by kernel_rfl)
theorem made_Pack:∃ f:Nat→Array Value,(∀ n,(f n).size=n*9)∧∀ (n:Nat) (w:World),n≤1048576→(Instr.makeSlice 118 (.int .i64 (n:Int)) (.int .i64 (n:Int))).run Tryz.prog w=.ok (.slice (some ⟨w.heap.size,0,none⟩) n n) (w.alloc (.cells (f n) 78)):=madeK _ _ 9 (by omega) Tryz.underlying118 (by kernel_rfl)
theorem inf_wish:(Tryz.prog.info? 93).map (·.size)=some 2:=by kernel_rfl
theorem infz_wish:∃ i z,Tryz.prog.info? 93=some i∧i.zero=some z∧z.cells.size=2:=info_z (by kernel_rfl)
theorem inf_Rect:(Tryz.prog.info? 45).map (·.size)=some 4:=by kernel_rfl
theorem made_Rect:∃ f:Nat→Array Value,(∀ n,(f n).size=n*4)∧∀ (n:Nat) (w:World),n≤1048576→(Instr.makeSlice 26 (.int .i64 (n:Int)) (.int .i64 (n:Int))).run Tryz.prog w=.ok (.slice (some ⟨w.heap.size,0,none⟩) n n) (w.alloc (.cells (f n) 45)):=madeK _ _ 4 (by omega) Tryz.underlying26 (by kernel_rfl)
end
section
open Go.RowKit
set_option linter.unusedSimpArgs false
set_option maxHeartbeats 4000000
structure Wd where
 p:Nr
 sw:Int
 sh:Int
 ka:Option Addr
 kn:Nat
 kc:Nat
def valsWd (x:Wd):List Value:=valsNr x.p ++ [.int .i64 x.sw,.int .i64 x.sh,.slice x.ka x.kn x.kc]
theorem valsWd_len (x:Wd):(valsWd x).length=37:=rfl
theorem valsWd_one (x:Wd):one (valsWd x):=by
 intro v hv
 rcases List.mem_append.1 hv with h | h
 ·exact valsNr_one _ v h
 ·simp only [List.mem_cons,List.not_mem_nil,or_false] at h
  rcases h with rfl | rfl | rfl <;> rfl
def ceW (x:Wd):Ce:={ x.p.n.ce with cw:=x.sw,ch:=x.sh }
def pkW (x:Wd):Pk:={ x.p.n.pk with w:=x.sw,h:=x.sh }
def valsPk (p:Pk):List Value:=[.int .i64 p.w,.int .i64 p.h,.int .i64 p.s,.bool p.fx,.bool p.fy,.bool p.ex,.int .i64 p.an,.int .i64 p.px,.int .i64 p.py]
def valsPl (p:Plc):List Value:=[.int .i64 p.x,.int .i64 p.y,.int .i64 p.rx,.int .i64 p.ry,.int .i64 p.ww,.int .i64 p.hh,.int .i64 p.qw,.int .i64 p.qh,.int .i64 p.an]
def valsWi (q:Int × Int):List Value:=[.int .i64 q.1,.int .i64 q.2]
def gd (vs:List Value) (i:Nat):Value:=vs.getD i undef
def uCe (vs:List Value):List Value:=[gd vs 16,gd vs 17,gd vs 18,gd vs 19,gd vs 34,gd vs 35,gd vs 22,gd vs 23,gd vs 24]
def uPk (vs:List Value):List Value:=[gd vs 34,gd vs 35,gd vs 9,gd vs 10,gd vs 11,gd vs 12,gd vs 13,gd vs 14,gd vs 15]
def uPl (vs:List Value):List Value:=[gd vs 25,gd vs 26,gd vs 27,gd vs 28,gd vs 29,gd vs 30,gd vs 31,gd vs 32,gd vs 33]
def uWi (vs:List Value):List Value:=[gd vs 34,gd vs 35]
theorem uCe_eq (x:Wd):uCe (valsWd x)=valsCe (ceW x):=rfl
theorem uPk_eq (x:Wd):uPk (valsWd x)=valsPk (pkW x):=rfl
theorem uPl_eq (x:Wd):uPl (valsWd x)=valsPl x.p.n.pl:=rfl
theorem valsCe_one (p:Ce):one (valsCe p):=by
 intro v hv
 simp only [valsCe,List.mem_cons,List.not_mem_nil,or_false] at hv
 rcases hv with rfl | rfl | rfl | rfl | rfl | rfl | rfl | rfl | rfl <;> rfl
theorem valsPk_one (p:Pk):one (valsPk p):=by
 intro v hv
 simp only [valsPk,List.mem_cons,List.not_mem_nil,or_false] at hv
 rcases hv with rfl | rfl | rfl | rfl | rfl | rfl | rfl | rfl | rfl <;> rfl
theorem valsPl_one (p:Plc):one (valsPl p):=by
 intro v hv
 simp only [valsPl,List.mem_cons,List.not_mem_nil,or_false] at hv
 rcases hv with rfl | rfl | rfl | rfl | rfl | rfl | rfl | rfl | rfl <;> rfl
theorem valsWi_one (p:Int × Int):one (valsWi p):=by
 intro v hv
 simp only [valsWi,List.mem_cons,List.not_mem_nil,or_false] at hv
 rcases hv with rfl | rfl <;> rfl
theorem bp_retcell {P:Program} {fn:Func} {R:Ending→World→Prop} {a:Act} {w:World} (t:Nat) (T:TypeId) (g:Nat) (vs:List Value) {d:TypeDesc} (hr:fn.results=#[.cell t T]) (ht:a.tmps.getD t undef=.pointer (some ⟨g,0,none⟩)) (hc:w.rangeAt g 0 vs) (hu:P.underlying T=some d) (hd:d.isRow=true) (hi:(P.info? T).map (·.size)=some vs.length) (h0:a.defers=[]) (hR:R (.returned (.agg vs.toArray)) w):bodyPost P fn R .ret a w:=by
 refine bodyPost_ret (v:=.agg vs.toArray) ?_ h0 hR
 have ht':a.tmps[t]?.getD undef=.pointer (some ⟨g,0,none⟩):=by rw [<- Array.getD_eq_getD_getElem?];exact ht
 simp [results,hr,ht',asAddr,run_loadVar_mid w g 0 T vs d hc hu hd hi]
theorem asCell_v (x:Wd) (w:World):Calls Tryz.prog 129 #[.agg (valsWd x).toArray] w fun e w'=>e=.returned (.agg (valsCe (ceW x)).toArray)∧Below w.heap.size w w':=by
 refine calls_abs Tryz.func129 rfl 18 (by simp only [Tryz.ntmps129]) (by simp) (fun t hsz hargs=>?_)
 have q0:t[0]?=some (.agg (valsWd x).toArray):=get_of (by omega) (hargs 0 _ rfl)
 clear hargs
 obtain ⟨l0,e0⟩:=gE q0
 refine wp_seq_h fun K hK=>?_
 apply wp_region_lit
 repeat (first | ((with_reducible show wpList _ _ _ _ _ _);refine allocK 80 9 rfl rfl infz_Cell (fun z hz=>?_)) | go_step)
 refine hK.out _ _ ?_
 clear hK K
 refine wp_abw (fun t' W'=>t'.size=18∧t'[1]?=some (.pointer (some ⟨w.heap.size,0,none⟩))∧t'[2]?=some (.pointer (some ⟨w.heap.size+1,0,none⟩))∧W'.heap[w.heap.size]?=some (.cells (valsWd x).toArray 108 (0,0))∧(∃ z:Array Value,W'.heap[w.heap.size+1]?=some (.cells z 80 (0,0))∧z.size=9)∧Below w.heap.size w W') ⟨by simp [hsz],by simp [hsz],by simp [hsz],⟨(Below.heap_alloc _ _ _ (by simp)).trans (newS _ _),⟨z,by have:=newS (w.alloc (.cells (valsWd x).toArray 108)) (.cells z 80);simpa using this,hz⟩,(balloc (Below.refl _ _)).trans ((balloc (Below.refl _ _)).mono (by simp))⟩⟩ ?_
 clear hsz q0 l0 e0 t z hz
 rintro t W1 ⟨hsz,q1,q2,H1,⟨z,H2,hz⟩,hB⟩
 have x34:=cellS H1 34
 have x35:=cellS H1 35
 have f1:=frozenS H1 20
 have f2:=frozenS H1 21
 obtain ⟨y1,z1⟩:=thereS H1 (i:=20) (by show 20<37;omega)
 obtain ⟨y2,z2⟩:=thereS H1 (i:=21) (by show 21<37;omega)
 have hlx:=ltS H1
 rw [show (valsWd x).toArray[34]?=some (.int .i64 x.sw) from rfl] at x34
 rw [show (valsWd x).toArray[35]?=some (.int .i64 x.sh) from rfl] at x35
 obtain ⟨l1,e1⟩:=gE q1
 obtain ⟨l2,e2⟩:=gE q2
 refine wp_seq_h fun K hK=>?_
 apply wp_region_lit
 repeat (first | go_step)
 refine hK.out _ _ ?_
 clear hK K
 refine wp_abw (fun t' W'=>t'.size=18∧t'[1]?=some (.pointer (some ⟨w.heap.size,0,none⟩))∧t'[2]?=some (.pointer (some ⟨w.heap.size+1,0,none⟩))∧W'.rangeAt w.heap.size 16 (valsCe (ceW x))∧(∃ z:Array Value,W'.heap[w.heap.size+1]?=some (.cells z 80 (0,0))∧z.size=9)∧Below w.heap.size w W') ⟨by simp [hsz],by simp [q1],by simp [q2],⟨fun j v hj=>(cellS (putS (putS H1 _) _) _).trans (by (iterate 9 (rcases j with _ | j;first | exact hj | skip));simp [valsCe] at hj),⟨z,(Below.heap_setCell _ ⟨w.heap.size,_,none⟩ _ _ (by simp)).trans ((Below.heap_setCell _ ⟨w.heap.size,_,none⟩ _ _ (by simp)).trans H2),hz⟩,(hB.setCell (p:=⟨w.heap.size,_,none⟩) (by simp) _).setCell (p:=⟨w.heap.size,_,none⟩) (by simp) _⟩⟩ ?_
 clear hsz q1 l1 e1 q2 l2 e2 t x34 x35 f1 f2 z1 z2 y1 y2 H1 H2 hB hlx W1 z hz
 rintro t W2 ⟨hsz,q1,q2,hr,⟨z,H2,hz⟩,hB⟩
 have HR:=hD hr
 have hth:W2.there (w.heap.size+1) 0 (valsCe (ceW x)).length:=thereB H2 (by rw [hz];show 0+9≤9;omega)
 have HTH:=hD hth
 clear hr hth
 obtain ⟨l1,e1⟩:=gE q1
 obtain ⟨l2,e2⟩:=gE q2
 refine wp_seq_h fun K hK=>?_
 apply wp_region_lit
 repeat (first | ((with_reducible show wpList _ _ _ _ _ _);refine ldK 80 _ (valsCe (ceW x)) w.heap.size 16 rfl rfl HR.out Tryz.underlying80 rfl inf_Cell (by simp [Act.eval,Act.put,hsz]) ?_) | ((with_reducible show wpList _ _ _ _ _ _);refine stK 80 _ _ (valsCe (ceW x)) (w.heap.size+1) 0 rfl rfl HTH.out inf_Cell (valsCe_one _) (by simp [Act.eval,Act.put,hsz,e2]) (by simp [Act.eval,Act.put,hsz]) ?_) | go_step)
 refine hK.out _ _ ?_
 clear hK K
 apply wp_ret
 refine bp_retcell 2 80 (w.heap.size+1) (valsCe (ceW x)) Tryz.results129 ?_ (World.rangeAt_setCells_same _ _ _ _ HTH.out) Tryz.underlying80 rfl inf_Cell rfl ⟨rfl,below_setCells (by omega) _ _ _ hB⟩
 simp [Act.put,hsz,e2]
theorem asPack_v (x:Wd) (w:World):Calls Tryz.prog 133 #[.agg (valsWd x).toArray] w fun e w'=>e=.returned (.agg (valsPk (pkW x)).toArray)∧Below w.heap.size w w':=by
 refine calls_abs Tryz.func133 rfl 18 (by simp only [Tryz.ntmps133]) (by simp) (fun t hsz hargs=>?_)
 have q0:t[0]?=some (.agg (valsWd x).toArray):=get_of (by omega) (hargs 0 _ rfl)
 clear hargs
 obtain ⟨l0,e0⟩:=gE q0
 refine wp_seq_h fun K hK=>?_
 apply wp_region_lit
 repeat (first | ((with_reducible show wpList _ _ _ _ _ _);refine allocK 78 9 rfl rfl infz_Pack (fun z hz=>?_)) | go_step)
 refine hK.out _ _ ?_
 clear hK K
 refine wp_abw (fun t' W'=>t'.size=18∧t'[1]?=some (.pointer (some ⟨w.heap.size,0,none⟩))∧t'[2]?=some (.pointer (some ⟨w.heap.size+1,0,none⟩))∧W'.heap[w.heap.size]?=some (.cells (valsWd x).toArray 108 (0,0))∧(∃ z:Array Value,W'.heap[w.heap.size+1]?=some (.cells z 78 (0,0))∧z.size=9)∧Below w.heap.size w W') ⟨by simp [hsz],by simp [hsz],by simp [hsz],⟨(Below.heap_alloc _ _ _ (by simp)).trans (newS _ _),⟨z,by have:=newS (w.alloc (.cells (valsWd x).toArray 108)) (.cells z 78);simpa using this,hz⟩,(balloc (Below.refl _ _)).trans ((balloc (Below.refl _ _)).mono (by simp))⟩⟩ ?_
 clear hsz q0 l0 e0 t z hz
 rintro t W1 ⟨hsz,q1,q2,H1,⟨z,H2,hz⟩,hB⟩
 have x34:=cellS H1 34
 have x35:=cellS H1 35
 have f1:=frozenS H1 7
 have f2:=frozenS H1 8
 obtain ⟨y1,z1⟩:=thereS H1 (i:=7) (by show 7<37;omega)
 obtain ⟨y2,z2⟩:=thereS H1 (i:=8) (by show 8<37;omega)
 have hlx:=ltS H1
 rw [show (valsWd x).toArray[34]?=some (.int .i64 x.sw) from rfl] at x34
 rw [show (valsWd x).toArray[35]?=some (.int .i64 x.sh) from rfl] at x35
 obtain ⟨l1,e1⟩:=gE q1
 obtain ⟨l2,e2⟩:=gE q2
 refine wp_seq_h fun K hK=>?_
 apply wp_region_lit
 repeat (first | go_step)
 refine hK.out _ _ ?_
 clear hK K
 refine wp_abw (fun t' W'=>t'.size=18∧t'[1]?=some (.pointer (some ⟨w.heap.size,0,none⟩))∧t'[2]?=some (.pointer (some ⟨w.heap.size+1,0,none⟩))∧W'.rangeAt w.heap.size 7 (valsPk (pkW x))∧(∃ z:Array Value,W'.heap[w.heap.size+1]?=some (.cells z 78 (0,0))∧z.size=9)∧Below w.heap.size w W') ⟨by simp [hsz],by simp [q1],by simp [q2],⟨fun j v hj=>(cellS (putS (putS H1 _) _) _).trans (by (iterate 9 (rcases j with _ | j;first | exact hj | skip));simp [valsPk] at hj),⟨z,(Below.heap_setCell _ ⟨w.heap.size,_,none⟩ _ _ (by simp)).trans ((Below.heap_setCell _ ⟨w.heap.size,_,none⟩ _ _ (by simp)).trans H2),hz⟩,(hB.setCell (p:=⟨w.heap.size,_,none⟩) (by simp) _).setCell (p:=⟨w.heap.size,_,none⟩) (by simp) _⟩⟩ ?_
 clear hsz q1 l1 e1 q2 l2 e2 t x34 x35 f1 f2 z1 z2 y1 y2 H1 H2 hB hlx W1 z hz
 rintro t W2 ⟨hsz,q1,q2,hr,⟨z,H2,hz⟩,hB⟩
 have HR:=hD hr
 have hth:W2.there (w.heap.size+1) 0 (valsPk (pkW x)).length:=thereB H2 (by rw [hz];show 0+9≤9;omega)
 have HTH:=hD hth
 clear hr hth
 obtain ⟨l1,e1⟩:=gE q1
 obtain ⟨l2,e2⟩:=gE q2
 refine wp_seq_h fun K hK=>?_
 apply wp_region_lit
 repeat (first | ((with_reducible show wpList _ _ _ _ _ _);refine ldK 78 _ (valsPk (pkW x)) w.heap.size 7 rfl rfl HR.out Tryz.underlying78 rfl inf_Pack (by simp [Act.eval,Act.put,hsz]) ?_) | ((with_reducible show wpList _ _ _ _ _ _);refine stK 78 _ _ (valsPk (pkW x)) (w.heap.size+1) 0 rfl rfl HTH.out inf_Pack (valsPk_one _) (by simp [Act.eval,Act.put,hsz,e2]) (by simp [Act.eval,Act.put,hsz]) ?_) | go_step)
 refine hK.out _ _ ?_
 clear hK K
 apply wp_ret
 refine bp_retcell 2 78 (w.heap.size+1) (valsPk (pkW x)) Tryz.results133 ?_ (World.rangeAt_setCells_same _ _ _ _ HTH.out) Tryz.underlying78 rfl inf_Pack rfl ⟨rfl,below_setCells (by omega) _ _ _ hB⟩
 simp [Act.put,hsz,e2]
theorem asPlace_v (x:Wd) (w:World):Calls Tryz.prog 131 #[.agg (valsWd x).toArray] w fun e w'=>e=.returned (.agg (valsPl x.p.n.pl).toArray)∧Below w.heap.size w w':=by
 refine calls_abs Tryz.func131 rfl 6 (by simp only [Tryz.ntmps131]) (by simp) (fun t hsz hargs=>?_)
 have q0:t[0]?=some (.agg (valsWd x).toArray):=get_of (by omega) (hargs 0 _ rfl)
 clear hargs
 obtain ⟨l0,e0⟩:=gE q0
 refine wp_seq_h fun K hK=>?_
 apply wp_region_lit
 repeat (first | ((with_reducible show wpList _ _ _ _ _ _);refine allocK 82 9 rfl rfl infz_Place (fun z hz=>?_)) | go_step)
 refine hK.out _ _ ?_
 clear hK K
 refine wp_abw (fun t' W'=>t'.size=6∧t'[1]?=some (.pointer (some ⟨w.heap.size,0,none⟩))∧t'[2]?=some (.pointer (some ⟨w.heap.size+1,0,none⟩))∧W'.heap[w.heap.size]?=some (.cells (valsWd x).toArray 108 (0,0))∧(∃ z:Array Value,W'.heap[w.heap.size+1]?=some (.cells z 82 (0,0))∧z.size=9)∧Below w.heap.size w W') ⟨by simp [hsz],by simp [hsz],by simp [hsz],⟨(Below.heap_alloc _ _ _ (by simp)).trans (newS _ _),⟨z,by have:=newS (w.alloc (.cells (valsWd x).toArray 108)) (.cells z 82);simpa using this,hz⟩,(balloc (Below.refl _ _)).trans ((balloc (Below.refl _ _)).mono (by simp))⟩⟩ ?_
 clear hsz q0 l0 e0 t z hz
 rintro t W1 ⟨hsz,q1,q2,H1,⟨z,H2,hz⟩,hB⟩
 have hr:W1.rangeAt w.heap.size 25 (valsPl x.p.n.pl):=fun j v hj=>(cellS H1 _).trans (by (iterate 9 (rcases j with _ | j;first | exact hj | skip));simp [valsPl] at hj)
 clear H1
 have HR:=hD hr
 have hth:W1.there (w.heap.size+1) 0 (valsPl x.p.n.pl).length:=thereB H2 (by rw [hz];show 0+9≤9;omega)
 have HTH:=hD hth
 clear hr hth
 obtain ⟨l1,e1⟩:=gE q1
 obtain ⟨l2,e2⟩:=gE q2
 refine wp_seq_h fun K hK=>?_
 apply wp_region_lit
 repeat (first | ((with_reducible show wpList _ _ _ _ _ _);refine ldK 82 _ (valsPl x.p.n.pl) w.heap.size 25 rfl rfl HR.out Tryz.underlying82 rfl inf_Place (by simp [Act.eval,Act.put,hsz]) ?_) | ((with_reducible show wpList _ _ _ _ _ _);refine stK 82 _ _ (valsPl x.p.n.pl) (w.heap.size+1) 0 rfl rfl HTH.out inf_Place (valsPl_one _) (by simp [Act.eval,Act.put,hsz,e2]) (by simp [Act.eval,Act.put,hsz]) ?_) | go_step)
 refine hK.out _ _ ?_
 clear hK K
 apply wp_ret
 refine bp_retcell 2 82 (w.heap.size+1) (valsPl x.p.n.pl) Tryz.results131 ?_ (World.rangeAt_setCells_same _ _ _ _ HTH.out) Tryz.underlying82 rfl inf_Place rfl ⟨rfl,below_setCells (by omega) _ _ _ hB⟩
 simp [Act.put,hsz,e2]
end
section
open Go.RowKit
set_option maxHeartbeats 1000000
attribute [local go_sem] growUpon_value growUpon_skip growUpon_enter
structure Sp where
 sa:Int
 many:Int
 need:Int
def valsSp (p:Sp):List Value:=[.int .i64 p.sa,.int .i64 p.many,.int .i64 p.need]
structure SpV (w:World) (A:Option Addr) (L:List Sp):Prop where
 cells:0<L.length→∃ b off,A=some ⟨b,off,none⟩∧b<w.heap.size∧∀ i p,L[i]?=some p→w.cell? ⟨b,off+i*3,none⟩=some (.int .i64 p.sa)∧w.cell? ⟨b,off+i*3+1,none⟩=some (.int .i64 p.many)∧w.cell? ⟨b,off+i*3+2,none⟩=some (.int .i64 p.need)
theorem SpV.keep {w w':World} {A:Option Addr} {L:List Sp} (h:SpV w A L) (hb:Below w.heap.size w w'):SpV w' A L :=
 ⟨fun h0=>let ⟨b,off,e,hl,hp⟩:=h.cells h0;⟨b,off,e,Nat.lt_of_lt_of_le hl hb.size,fun i p hi=>by
  obtain ⟨c0,c1,c2⟩:=hp i p hi
  exact ⟨(hb.cell (p:=⟨b,off+i*3,none⟩) hl).trans c0,(hb.cell (p:=⟨b,off+i*3+1,none⟩) hl).trans c1,(hb.cell (p:=⟨b,off+i*3+2,none⟩) hl).trans c2⟩⟩⟩
theorem SpV.nil (w:World) (A:Option Addr):SpV w A []:=⟨fun h=>absurd h (by simp)⟩
def SpB (w:World) (g:Nat) (L:List Sp):Prop:=∃ cs:Array Value,w.heap[g]?=some (.cells cs 200 (0,0))∧cs.size=L.length*3∧∀ i p,L[i]?=some p→InS cs (i*3) (valsSp p)
theorem SpB.v {w:World} {g:Nat} {L:List Sp} (h:SpB w g L):SpV w (some ⟨g,0,none⟩) L:=by
 obtain ⟨cs,hh,hs,hc⟩:=h
 refine ⟨fun _=>⟨g,0,rfl,ltS hh,fun i p hp=>?_⟩⟩
 have hi:=hc i p hp
 simp only [Nat.zero_add]
 exact ⟨(cellS hh _).trans (hi 0 _ rfl),(cellS hh _).trans (hi 1 _ rfl),(cellS hh _).trans (hi 2 _ rfl)⟩
theorem SpB.lt {w:World} {g:Nat} {L:List Sp} (h:SpB w g L):g<w.heap.size:=by obtain ⟨cs,hh,_⟩:=h;exact ltS hh
theorem SpB.keep {w w':World} {g:Nat} {L:List Sp} (h:SpB w g L) (hb:Below w.heap.size w w'):SpB w' g L:=by
 obtain ⟨cs,hh,hs,hc⟩:=h
 exact ⟨cs,(hb.block g (ltS hh)).trans hh,hs,hc⟩
theorem SpB.but {w w':World} {g h:Nat} {L:List Sp} (hi:SpB w h L) (hg:w.grownBy w' (some g)) (hne:h ≠ g):SpB w' h L:=by
 obtain ⟨cs,hh,hs,hc⟩:=hi
 exact ⟨cs,(hg.block h (ltS hh) (fun e=>hne (Option.some.inj e))).trans hh,hs,hc⟩
theorem madeSp:∃ f:Nat→Array Value,(∀ n,(f n).size=n*3)∧∀ (n:Nat) (w:World),n≤1048576→(Instr.makeSlice 181 (.int .i64 (n:Int)) (.int .i64 (n:Int))).run Tryz.prog w=.ok (.slice (some ⟨w.heap.size,0,none⟩) n n) (w.alloc (.cells (f n) 200)):=by
 have hinfo:(Tryz.prog.info? 200).map (fun i=>(i.zero,i.size,i.bytes))=some (some (.agg #[.int .i64 0,.int .i64 0,.int .i64 0]),3,24):=by kernel_rfl
 obtain ⟨i,hi,h1,h2,h3⟩:=info_parts hinfo
 refine ⟨fun n=>madeCells (Value.agg #[.int .i64 0,.int .i64 0,.int .i64 0]).cells (n*3),fun n=>size_madeCells _ _,fun n w hn=>?_⟩
 have hr:=run_make (P:=Tryz.prog) w 181 200 i _ Tryz.underlying181 hi h1 .i64 .i64 n n (by omega) (Int.le_refl _) (by rw [h3];omega) (by omega)
 rw [h2] at hr
 simpa using hr
theorem putSp {w:World} {b:Nat} {cs:Array Value} {T:TypeId} {fz:Nat × Nat} (h:w.heap[b]?=some (.cells cs T fz)) (o:Nat) (p:Sp) :
  ((((w.setCell ⟨b,o,none⟩ (.int .i64 p.sa)).setCell ⟨b,o+1,none⟩ (.int .i64 p.many)).setCell ⟨b,o+2,none⟩ (.int .i64 p.need))).heap[b]?=some (.cells (wrAt cs o (valsSp p)) T fz) :=
 putS (putS (putS h _) _) _
theorem putSpb {B b:Nat} {a w:World} (h:Below B a w) (hb:B≤b) (o:Nat) (p:Sp):Below B a ((((w.setCell ⟨b,o,none⟩ (.int .i64 p.sa)).setCell ⟨b,o+1,none⟩ (.int .i64 p.many)).setCell ⟨b,o+2,none⟩ (.int .i64 p.need))) :=
 (((h).setCell hb _).setCell hb _).setCell hb _
end
end Go.Proofs.YtenckjdiggaonaaGreat
