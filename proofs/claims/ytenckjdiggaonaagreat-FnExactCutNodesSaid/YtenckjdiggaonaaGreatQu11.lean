import Derived.Test.YtenckjdiggaonaaGreatQu10
set_option linter.unusedVariables false
set_option linter.unusedSimpArgs false
set_option maxRecDepth 100000
set_option maxHeartbeats 16000000
namespace Go.Proofs.YtenckjdiggaonaaGreat
open Go.RowKit
attribute [local go_sem] growUpon_value growUpon_skip growUpon_enter
section
attribute [local go_sem 5000] run_mx run_mn
attribute [local go_sem] Oper.semAt_some
theorem backward_in (F:Fence) (n:Nat) (hF:F.fn 234) (hro:F.round=none) (a:Option Addr) (len cap:Nat) (w:World) :
  CallsIn F n Tryz.prog 234 #[.slice a len cap] w fun e w'=>e=.returned (.func (.func 240) #[] #[.pointer (some ⟨w.heap.size,0,none⟩)])∧w'=w.alloc (.cells #[.slice a len cap] 118):=by
 refine callsIn_of_wp Tryz.func234 rfl hF ?_ hro;simp only [Tryz.ntmps234,List.size_toArray,List.length_cons,List.length_nil,Nat.reduceAdd,Nat.reduceSub,Array.replicate_succ,Array.replicate_zero,List.push_toArray,List.append_toArray,List.nil_append,List.cons_append]
 gi_wp2
 go_ret;exact ⟨rfl,rfl⟩
theorem bk_stops (F:Fence) (n:Nat) (hF:F.fn 240) (hro:F.round=none) (hn:1≤n) (Bs n0:Nat) (A:Option Addr) (c:Nat) (L:List Pk) (hL:L.length≤10) (hok:∀ p ∈ L,p.big) (w:World) (hBs:Bs<w.heap.size) (hn0:n0≤w.heap.size)
  (hc:w.cell? ⟨Bs,0,none⟩=some (.slice A L.length c)) (hp:PVn n0 w A L) :
  SeqStopsK F n Tryz.prog 240 #[.pointer (some ⟨Bs,0,none⟩)] encB (KpB n0 Bs) (fun ys=>ys.map BkE.p=L.reverse) (fun _=>True) L.length w:=fun l J Jx W hW _ _ hY h0 =>
 bk1_in F n hF hro hn l Bs n0 A c L hL hok J Jx hY W ((hW.cell (p:=⟨Bs,0,none⟩) hBs).trans hc) (hp.below (hW.mono hn0)) h0
def accB (d:Bool):List BkE→Int
 | []=>0
 | x :: t=>if x.p.down=d then accB d t+x.p.need d else mx (accB d t) (x.p.need d)
theorem accB_bd (d:Bool):∀ ys:List BkE,0≤accB d ys∧accB d ys≤1000000000020*ys.length
 | []=>by simp [accB]
 | x :: t=>by
  have:=accB_bd d t
  have nb:=Pk.need_bdW x.ok d;have m:=mx_spec (accB d t) (x.p.need d);simp only [accB,List.length_cons]
  split <;> omega
def acc (d:Bool) (ys:List BkE):Int:=accB d ys.reverse
theorem acc_bd (d:Bool) (ys:List BkE):0≤acc d ys∧acc d ys≤1000000000020*ys.length:=by have:=accB_bd d ys.reverse;rwa [List.length_reverse] at this
theorem acc_same {d:Bool} {ys:List BkE} {x:BkE} (h:x.p.down=d):acc d (ys ++ [x])=acc d ys+x.p.need d:=by
 simp [acc,accB,h]
theorem acc_other {d:Bool} {ys:List BkE} {x:BkE} (h:¬ x.p.down=d):acc d (ys ++ [x])=mx (acc d ys) (x.p.need d):=by
 simp only [acc,List.reverse_append,List.reverse_cons,List.reverse_nil,List.nil_append,List.cons_append,accB,if_neg h]
theorem accB_req {d:Bool}:∀ {ys:List BkE} {L:List Pk},ys.map BkE.p=L→accB d ys=reqD L d
 | [],L,h=>by
  simp at h;subst h
  rw [reqD_nil];rfl
 | x :: t,L,h=>by
  simp at h
  subst h;have ih:=accB_req (d:=d) (ys:=t) rfl
  by_cases hd:x.p.down=d
  ·rw [reqD_same hd,<- ih,accB,if_pos hd]
  ·rw [reqD_other hd,<- ih,accB,if_neg hd]
theorem acc_req {d:Bool} {ys:List BkE} {L:List Pk} (h:ys.map BkE.p=L.reverse):acc d ys=reqD L d:=by
 refine accB_req ?_;rw [List.map_reverse,h,List.reverse_reverse]
theorem isDown_b (p:Pk) (b:Bool) (h:p.down=b) (w:World):Calls Tryz.prog 195 #[.agg #[.int .i64 p.w,.int .i64 p.h,.int .i64 p.s,.bool p.fx,.bool p.fy,.bool p.ex,.int .i64 p.an,.int .i64 p.px,.int .i64 p.py]] w fun e w'=>e=.returned (.bool b)∧Below w.heap.size w w':=by rw [<- h];exact isDown_v p w
theorem bdr {W w':World} (h:Below W.drew.heap.size W.drew w'):Below W.heap.size W w':=(Below.refl _ _).drew.trans h
theorem keepsFrom_below {B:Nat} {W W':World} (h:Below W.heap.size W W'):KeepsFrom B W W':=⟨h.size,fun k o _ hk _=>(h.block k (gE hk).1).trans hk⟩
theorem kpB_below {n0 Bs:Nat} {W W':World} (h:Below W.heap.size W W') (h0:n0≤W.heap.size) (hs:Bs<W.heap.size):KpB n0 Bs W W':=⟨h.mono h0,h.block Bs hs⟩
theorem round_end {w W w2:World} {B0:Nat} {A:Option Addr} {c:Nat} {L:List Pk} {d:Bool} {pre:List BkE} {x:BkE} {v u:Int} {T1 T2 T3:TypeId} (b2:Below W.heap.size W w2) (bS:Boxed W (w.heap.size+1) T1 (.int .i64 u)) (bD:Boxed W w.heap.size T2 (.bool d)) (bL:Boxed W (w.heap.size+1+1) T3 (.slice A L.length c)) (hB:Below w.heap.size w W) (hl:w.heap.size≤W.heap.size) (hv:acc d (pre ++ [x])=v) :
  KeepsFrom B0 W (w2.setCell ⟨w.heap.size+1,0,none⟩ (.int .i64 v))∧KpB w.heap.size (w.heap.size+1+1) W (w2.setCell ⟨w.heap.size+1,0,none⟩ (.int .i64 v)) ∧
   ((Boxed (w2.setCell ⟨w.heap.size+1,0,none⟩ (.int .i64 v)) (w.heap.size+1) T1 (.int .i64 (acc d (pre ++ [x])))∧(Boxed (w2.setCell ⟨w.heap.size+1,0,none⟩ (.int .i64 v)) w.heap.size T2 (.bool d)∧Boxed (w2.setCell ⟨w.heap.size+1,0,none⟩ (.int .i64 v)) (w.heap.size+1+1) T3 (.slice A L.length c))) ∧
    Below w.heap.size w (w2.setCell ⟨w.heap.size+1,0,none⟩ (.int .i64 v))):=by
 have cS:Boxed w2 (w.heap.size+1) T1 (.int .i64 u):=(b2.block _ bS.lt).trans bS;have cD:Boxed w2 w.heap.size T2 (.bool d):=(b2.block _ bD.lt).trans bD;have cL:Boxed w2 (w.heap.size+1+1) T3 (.slice A L.length c):=(b2.block _ bL.lt).trans bL
 refine ⟨(keepsFrom_below b2).trans ((KeepsOthers.setCell _ _ _).from _),(kpB_below b2 hl bL.lt).trans ⟨(Below.refl _ _).setCell (p:=⟨w.heap.size+1,0,none⟩) (by simp) _,Below.heap_setCell _ ⟨w.heap.size+1,0,none⟩ _ _ (by simp)⟩,⟨⟨by rw [hv];exact cS.set _,cD.other (by omega) _,cL.other (by omega) _⟩,(hB.trans (b2.mono hl)).setCell (p:=⟨w.heap.size+1,0,none⟩) (by simp) _⟩⟩
theorem packRequest_w (A:Option Addr) (c:Nat) (L:List Pk) (d:Bool) (w:World) (h:PV w A L) (hok:∀ p ∈ L,p.big) (h7:L.length≤10) :
  Calls Tryz.prog 231 #[.slice A L.length c,.bool d] w fun e W'=>e=.returned (.int .i64 (reqD L d))∧Below w.heap.size w W':=by
 have HOK:=Lib.hid hok;clear hok;refine (callsIn_wide (n:=6)).1 ?_;refine callsIn_of_wp_marks Tryz.func231 rfl trivial ?_ rfl;simp only [Tryz.ntmps231,List.size_toArray,List.length_cons,List.length_nil,Nat.reduceAdd,Nat.reduceSub,Array.replicate_succ,Array.replicate_zero,List.push_toArray,List.append_toArray,List.nil_append,List.cons_append]
 gi_wp2_with (refine ⟨trivial,?_⟩;gi_at_call 234;refine (backward_in Fence.wide _ trivial rfl _ _ _ _).mono ?_;rintro e w' ⟨rfl,rfl⟩)
 have bL:=Boxed.new ((w.alloc (.cells #[.bool d] 4)).alloc (.cells #[.int .i64 0] 3)) 118 (.slice A L.length c);have bS:=(Boxed.new (w.alloc (.cells #[.bool d] 4)) 3 (.int .i64 0)).alloc (.cells #[.slice A L.length c] 118);have bD:=((Boxed.new w 4 (.bool d)).alloc (.cells #[.int .i64 0] 3)).alloc (.cells #[.slice A L.length c] 118);simp only [World.size_alloc] at bL bS bD
 have hB0:Below w.heap.size w (((w.alloc (.cells #[.bool d] 4)).alloc (.cells #[.int .i64 0] 3)).alloc (.cells #[.slice A L.length c] 118)):=(((Below.refl _ w).alloc (Nat.le_refl _) _).alloc (by simp) _).alloc (by simp;omega) _
 have hsz:(((w.alloc (.cells #[.bool d] 4)).alloc (.cells #[.int .i64 0] 3)).alloc (.cells #[.slice A L.length c] 118)).heap.size=w.heap.size+3:=by simp
 obtain ⟨W0,hW0⟩:∃ W0,((w.alloc (.cells #[.bool d] 4)).alloc (.cells #[.int .i64 0] 3)).alloc (.cells #[.slice A L.length c] 118)=W0:=⟨_,rfl⟩
 rw [hW0] at bL bS bD hB0 hsz ⊢;clear hW0;have hp0:PVn w.heap.size W0 A L:=PVn.below (fun h0=>let ⟨b,off,e,hl,hp⟩:=h.cells h0;⟨b,off,e,hl,hp⟩) hB0
 refine wpIn_rangeFunc_ownH rfl (by omega) (gf:=240) (lb:=#[.pointer (some ⟨w.heap.size+1+1,0,none⟩)]) rfl trivial (enters_of Tryz.func240 (by kernel_rfl) rfl)
  (bk_stops Fence.wide _ trivial rfl (by omega) (w.heap.size+1+1) w.heap.size A c L h7 HOK.out W0 (by omega) (by omega) bL.cell hp0) KpB.trans
  (fun W l o o' hl ho hc hw=>⟨belowK_b (w:=W0) (by omega) W l o o' hl ho hc hw,World.putObj_heap_other (by omega)⟩) (Below.refl _ _) (fun _=>rfl)
  (fun pre W=>(Boxed W (w.heap.size+1) 3 (.int .i64 (acc d pre))∧(Boxed W w.heap.size 4 (.bool d)∧Boxed W (w.heap.size+1+1) 118 (.slice A L.length c)))∧Below w.heap.size w W)
  (fun _ _ _=>False)
  (OwnFrom.and (OwnFrom.and (Own.from (boxed_own _ _ _) _) (OwnFrom.and (Own.from (boxed_own _ _ _) _) (Own.from (boxed_own _ _ _) _))) (ownFrom_below (Nat.le_refl _) (by omega)))
  (fun _ _ _ _ _ hs _ _=>hs)
  ⟨⟨bS,bD,bL⟩,hB0⟩
  (fun x a' W=>∃ Bx,w.heap.size+2<Bx∧W.heap[Bx]?=some (.cells #[.int .i64 x.p.w,.int .i64 x.p.h,.int .i64 x.p.s,.bool x.p.fx,.bool x.p.fy,.bool x.p.ex,.int .i64 x.p.an,.int .i64 x.p.px,.int .i64 x.p.py] 78 (0,0))∧a'={ tmps:=#[.slice A L.length c,.bool d,undef,.pointer (some ⟨w.heap.size,0,none⟩),.int .i64 0,.pointer (some ⟨w.heap.size+1,0,none⟩),undef,.pointer (some ⟨Bx,0,none⟩),.slice A L.length c,.func (.func 240) #[] #[.pointer (some ⟨w.heap.size+1+1,0,none⟩)],.int .i64 x.i,.agg #[.int .i64 x.p.w,.int .i64 x.p.h,.int .i64 x.p.s,.bool x.p.fx,.bool x.p.fy,.bool x.p.ex,.int .i64 x.p.an,.int .i64 x.p.px,.int .i64 x.p.py],undef,undef,undef,undef,undef,undef,undef,undef,undef,undef,undef,undef,undef,undef,undef],defers:=[] })
  (fun x a' _ X Y row hs hg hr=>by
   obtain ⟨Bx,h1,h2,h3⟩:=hs
   exact ⟨Bx,h1,(hg.block Bx (gE h2).1 (fun e=>by
    obtain ⟨_,o,ho,hoc⟩:=hr Bx e.symm;rw [h2] at ho;obtain rfl:=Option.some.inj ho
    simp [Obj.isCells] at hoc)).trans h2,h3⟩)
  ?assign ?body ?done ?stop
 case assign =>
  rintro l pre x W K ⟨⟨bS1,bD1,bL1⟩,hB1⟩ hK;have hlt2:=bL1.lt;simp only [encB]
  gi_wp2
  refine hK _ _ ((KeepsOthers.alloc _ _).from _) ⟨(Below.refl _ W).alloc hB1.size _,Below.heap_alloc _ _ _ (by omega)⟩ ⟨⟨bS1.alloc _,bD1.alloc _,bL1.alloc _⟩,hB1.alloc hB1.size _⟩ ⟨W.heap.size,by omega,heap_new _ _,rfl⟩
 case body =>
  rintro l pre x a' W hl ⟨r,hr⟩ ⟨⟨bS1,bD1,bL1⟩,hB1⟩ ⟨Bx,hBx,hX,rfl⟩ hlt;have cS:=bS1.cell;have fS:=bS1.frozen;have cD:=bD1.cell;have sS:=bS1.lt;have sD:=bD1.lt;have sL:=bL1.lt;have sX:Bx<W.heap.size:=(gE hX).1;obtain ⟨a1,a2⟩:=acc_bd d pre;have nb:=Pk.need_bdW x.ok d;obtain ⟨c0,c1,c2,c3,c4,c5,c6,c7,c8⟩:=b9c hX
  have hmx:Tryz.prog.follows .mixedOrders=true:=by kernel_rfl
  have hn1:1≤6 - 1 - 1:=by omega
  have hl0:w.heap.size≤W.heap.size:=hB1.size
  cases d <;> cases hdn:x.p.down
  ·have hacc:=acc_same (ys:=pre) (x:=x) (d:=false) hdn;have HA:=Lib.hid hacc;clear hacc
   gi_wp2
   gi_region_with_o (refine ⟨trivial,?_⟩;gi_at_call 195;refine (CallsIn.inRound l (callsIn_wide.2 (isDown_b x.p false hdn _))).mono ?_;rintro e w1 ⟨rfl,hb1⟩;have b1:=bdr hb1;have kD:=(b1.cell (p:=⟨w.heap.size,0,none⟩) sD).trans cD;have kS:=(b1.cell (p:=⟨w.heap.size+1,0,none⟩) sS).trans cS;have kX:=(b1.block Bx sX).trans hX;obtain ⟨k0,k1,k2,k3,k4,k5,k6,k7,k8⟩:=b9c kX;have z1:=b1.size;have tS:=Nat.lt_of_lt_of_le sS z1;have tD:=Nat.lt_of_lt_of_le sD z1)
   all_goals
    gi_wp2
    gi_region_with_o (refine ⟨trivial,?_⟩;gi_at_call 235;refine (CallsIn.inRound l (callsIn_wide.2 (need_w x.p false _ x.ok))).mono ?_;rintro e w2 ⟨rfl,hb2⟩;have b2:=b1.trans ((bdr hb2).mono z1);have jD:=(b2.cell (p:=⟨w.heap.size,0,none⟩) sD).trans cD;have jS:=(b2.cell (p:=⟨w.heap.size+1,0,none⟩) sS).trans cS;have fS2:=(b2.frozen (p:=⟨w.heap.size+1,0,none⟩) sS).trans fS;clear kS kD k0 k1 k2 k3 k4 k5 k6 k7 k8)
    all_goals
     gi_wp2
     all_goals (try go_bits)
     all_goals exact round_end b2 bS1 bD1 bL1 hB1 hl0 HA.out
  ·have hacc:=acc_other (ys:=pre) (x:=x) (d:=false) (by simp [hdn]);have HA:=Lib.hid hacc;clear hacc
   gi_wp2
   gi_region_with_o (refine ⟨trivial,?_⟩;gi_at_call 195;refine (CallsIn.inRound l (callsIn_wide.2 (isDown_b x.p true hdn _))).mono ?_;rintro e w1 ⟨rfl,hb1⟩;have b1:=bdr hb1;have kD:=(b1.cell (p:=⟨w.heap.size,0,none⟩) sD).trans cD;have kS:=(b1.cell (p:=⟨w.heap.size+1,0,none⟩) sS).trans cS;have kX:=(b1.block Bx sX).trans hX;obtain ⟨k0,k1,k2,k3,k4,k5,k6,k7,k8⟩:=b9c kX;have z1:=b1.size;have tS:=Nat.lt_of_lt_of_le sS z1;have tD:=Nat.lt_of_lt_of_le sD z1)
   all_goals
    gi_wp2
    gi_region_with_o (refine ⟨trivial,?_⟩;gi_at_call 235;refine (CallsIn.inRound l (callsIn_wide.2 (need_w x.p false _ x.ok))).mono ?_;rintro e w2 ⟨rfl,hb2⟩;have b2:=b1.trans ((bdr hb2).mono z1);have jD:=(b2.cell (p:=⟨w.heap.size,0,none⟩) sD).trans cD;have jS:=(b2.cell (p:=⟨w.heap.size+1,0,none⟩) sS).trans cS;have fS2:=(b2.frozen (p:=⟨w.heap.size+1,0,none⟩) sS).trans fS;clear kS kD k0 k1 k2 k3 k4 k5 k6 k7 k8)
    all_goals
     gi_wp2
     all_goals (try go_bits)
     all_goals exact round_end b2 bS1 bD1 bL1 hB1 hl0 HA.out
  ·have hacc:=acc_other (ys:=pre) (x:=x) (d:=true) (by simp [hdn]);have HA:=Lib.hid hacc;clear hacc
   gi_wp2
   gi_region_with_o (refine ⟨trivial,?_⟩;gi_at_call 195;refine (CallsIn.inRound l (callsIn_wide.2 (isDown_b x.p false hdn _))).mono ?_;rintro e w1 ⟨rfl,hb1⟩;have b1:=bdr hb1;have kD:=(b1.cell (p:=⟨w.heap.size,0,none⟩) sD).trans cD;have kS:=(b1.cell (p:=⟨w.heap.size+1,0,none⟩) sS).trans cS;have kX:=(b1.block Bx sX).trans hX;obtain ⟨k0,k1,k2,k3,k4,k5,k6,k7,k8⟩:=b9c kX;have z1:=b1.size;have tS:=Nat.lt_of_lt_of_le sS z1;have tD:=Nat.lt_of_lt_of_le sD z1)
   all_goals
    gi_wp2
    gi_region_with_o (refine ⟨trivial,?_⟩;gi_at_call 235;refine (CallsIn.inRound l (callsIn_wide.2 (need_w x.p true _ x.ok))).mono ?_;rintro e w2 ⟨rfl,hb2⟩;have b2:=b1.trans ((bdr hb2).mono z1);have jD:=(b2.cell (p:=⟨w.heap.size,0,none⟩) sD).trans cD;have jS:=(b2.cell (p:=⟨w.heap.size+1,0,none⟩) sS).trans cS;have fS2:=(b2.frozen (p:=⟨w.heap.size+1,0,none⟩) sS).trans fS;clear kS kD k0 k1 k2 k3 k4 k5 k6 k7 k8)
    all_goals
     gi_wp2
     all_goals (try go_bits)
     all_goals exact round_end b2 bS1 bD1 bL1 hB1 hl0 HA.out
  ·have hacc:=acc_same (ys:=pre) (x:=x) (d:=true) hdn;have HA:=Lib.hid hacc;clear hacc
   gi_wp2
   gi_region_with_o (refine ⟨trivial,?_⟩;gi_at_call 195;refine (CallsIn.inRound l (callsIn_wide.2 (isDown_b x.p true hdn _))).mono ?_;rintro e w1 ⟨rfl,hb1⟩;have b1:=bdr hb1;have kD:=(b1.cell (p:=⟨w.heap.size,0,none⟩) sD).trans cD;have kS:=(b1.cell (p:=⟨w.heap.size+1,0,none⟩) sS).trans cS;have kX:=(b1.block Bx sX).trans hX;obtain ⟨k0,k1,k2,k3,k4,k5,k6,k7,k8⟩:=b9c kX;have z1:=b1.size;have tS:=Nat.lt_of_lt_of_le sS z1;have tD:=Nat.lt_of_lt_of_le sD z1)
   all_goals
    gi_wp2
    gi_region_with_o (refine ⟨trivial,?_⟩;gi_at_call 235;refine (CallsIn.inRound l (callsIn_wide.2 (need_w x.p true _ x.ok))).mono ?_;rintro e w2 ⟨rfl,hb2⟩;have b2:=b1.trans ((bdr hb2).mono z1);have jD:=(b2.cell (p:=⟨w.heap.size,0,none⟩) sD).trans cD;have jS:=(b2.cell (p:=⟨w.heap.size+1,0,none⟩) sS).trans cS;have fS2:=(b2.frozen (p:=⟨w.heap.size+1,0,none⟩) sS).trans fS;clear kS kD k0 k1 k2 k3 k4 k5 k6 k7 k8)
    all_goals
     gi_wp2
     all_goals (try go_bits)
     all_goals exact round_end b2 bS1 bD1 bL1 hB1 hl0 HA.out
 case done =>
  rintro D ys W hD hys ⟨⟨bS1,bD1,bL1⟩,hB1⟩ hK;have cS:=bS1.cell;rw [acc_req hys] at cS
  gi_wp2
  refine ⟨by simp,.inl ⟨_,_,rfl,run_takeDeferred hK,?_⟩⟩;exact ⟨_,results_tmp rfl _ _ _,rfl,hB1.trans (belowK_b (w:=w) (Nat.le_refl _) W D _ _ (by omega) hK rfl rfl)⟩
 case stop =>
  rintro D c pre W _ _ h _;exact h.elim
end
section
attribute [local go_sem 5000] run_mx run_mn
end
section
attribute [local go_sem 5000] run_mx run_mn
theorem upright_p (p:Pk) (w:World):Calls Tryz.prog 141 #[.int .i64 p.s] w fun e w'=>e=.returned (.bool p.down)∧w=w':=upright_v p.s w
end
section
attribute [local go_sem 5000] run_mx run_mn
def esB (L:List Pk) (room:Int) (d:Bool):Bool:=vpsB L && (match L with
 | []=>false
 | p :: _=>rng room 0 400 && (p.ex && (p.down == d)))
theorem first_cells {w:World} {A:Option Addr} {L:List Pk} {p:Pk} {r:List Pk} (h:PV w A L) (e:L=p :: r):∃ b off,A=some ⟨b,off,none⟩∧b<w.heap.size∧Cells9 w b off p:=by
 subst e;obtain ⟨b,off,e,hb,hp⟩:=h.cells (by simp)
 have:=hp 0 p rfl
 exact ⟨b,off,e,hb,by simpa using this⟩
end
section
attribute [local go_sem 5000] run_mx run_mn
theorem request_w (A:Option Addr) (c:Nat) (L:List Pk) (w:World) (h:PV w A L) (hok:∀ p ∈ L,p.big) (h7:L.length≤10) :
  Calls Tryz.prog 95 #[.slice A L.length c] w fun e w'=>e=.returned (.tuple #[.int .i64 (reqM L).1,.int .i64 (reqM L).2])∧Below w.heap.size w w':=by
 have HOK:=hD hok;clear hok
 go_enter Tryz.func95,Tryz.ntmps95
 go_wp2_with fail
 go_loopw [4,5,6] (fun a b i wr=>∃ k:Nat,k≤L.length∧i=.int .i64 ((k:Int) - 1)∧a=.int .i64 (reqM (L.drop k)).1∧b=.int .i64 (reqM (L.drop k)).2∧Below w.heap.size w wr) (fun _ _ i _=>(intOf i+1).toNat)
 case atStart=>exact ⟨L.length,Nat.le_refl _,rfl,by rw [List.drop_length];rfl,by rw [List.drop_length];rfl,Below.refl _ _⟩
 case round =>
  obtain ⟨k,hk,rfl,rfl,rfl,hB⟩:=hrel
  rcases k with _ | j
  ·have hd:decide (((0:Nat):Int) - 1 ≥ 0)=false:=by simp
   have HBB:=hD hB;clear hB;rw [List.drop_zero];go_wp2;exact bodyPost_ret (v:=.tuple #[.int .i64 (reqM L).1,.int .i64 (reqM L).2]) (by simp only [results,Tryz.results95];go_simp) rfl ⟨rfl,HBB.out⟩
  ·have e1:((j+1:Nat):Int) - 1=(j:Int):=by omega
   rw [e1]
   have hlt:j<L.length:=by omega
   have hd:decide ((j:Int) ≥ 0)=true:=by simp
   have hd2:decide ((0:Int)≤(j:Int))=true:=by simp
   obtain ⟨b,off,rfl,hb,hps⟩:=(h.keep hB).cells (by omega);have hget:L[j]?=some L[j]:=List.getElem?_eq_getElem hlt;obtain ⟨c0,c1,c2,c3,c4,c5,c6,c7,c8⟩:=hps j _ hget;generalize hx:L[j]=p at *;have hpk:p.big:=HOK.out p (List.mem_of_getElem? hget);have hdrop:=drop_cons hget;obtain ⟨q1,q2,q3,q4⟩:=reqM_bdW (L:=L.drop (j+1)) (fun q hq=>HOK.out q (List.mem_of_mem_drop hq));rw [List.length_drop] at q2 q4
   have n1:=Pk.need_bdW hpk false;have n2:=Pk.need_bdW hpk true
   obtain ⟨U,hU⟩:∃ U,(reqM (L.drop (j+1))).1=U:=⟨_,rfl⟩
   obtain ⟨V,hV⟩:∃ V,(reqM (L.drop (j+1))).2=V:=⟨_,rfl⟩
   rw [hU] at q1 q2;rw [hV] at q3 q4;rw [hU,hV];have HU:=hD hU;have HV:=hD hV;have HD:=hD hdrop;have HPS:=hD hps;have HG:=hD hget;have HBB:=hD hB;clear hU hV hdrop hx hps hget hB e1
   go_wp2_with fail
   refine (outer_w p _ hpk).mono ?_;rintro e w1 ⟨rfl,hb1⟩;have hc9:=(HPS.out j p HG.out).keep (hb1.block b hb);obtain ⟨d0,d1,d2,d3,d4,d5,d6,d7,d8⟩:=hc9;replace HBB:=hD (HBB.out.trans (hb1.mono HBB.out.size));clear hb1 c0 c1 c2 c3 c4 c5 c6 c7 c8;have hjs:IntKind.i64.wrap ((j:Int) - 1)=(j:Int) - 1:=IntWalk.i64_in _ (by omega)
   cases hdn:p.down
   ·go_wp2_with fail
    refine (upright_p p _).mono ?_;rintro e w2 ⟨rfl,rfl⟩;rw [hdn];go_wp2
    go_roundw
    case rel=>exact ⟨j,by omega,by go_num,by rw [HD.out];simp [reqM,hdn,HU.out,HV.out],by rw [HD.out];simp [reqM,hdn,HU.out,HV.out],HBB.out⟩
    case measure=>simp [intOf]
   ·go_wp2_with fail
    refine (upright_p p _).mono ?_;rintro e w2 ⟨rfl,rfl⟩;rw [hdn];go_wp2
    go_roundw
    case rel=>exact ⟨j,by omega,by go_num,by rw [HD.out];simp [reqM,hdn,HU.out,HV.out],by rw [HD.out];simp [reqM,hdn,HU.out,HV.out],HBB.out⟩
    case measure=>simp [intOf]
end
section
def cellB (n m:Int) (c:Ce):Bool:=runB c.co c.mc n && (runB c.ro c.mr m && (rng c.cw 0 30 && (rng c.ch 0 30 && (rng c.sk 0 15 && (rng c.px 0 10 && rng c.py 0 10)))))
def gridB (L1 L2:List Ln) (L3:List Ce):Bool:=linesB L1 && (linesB L2 && (decide ((L3.length:Int)≤8) && L3.all (cellB L1.length L2.length)))
theorem validCell_v (c:Ce) (n m:Int) (b:Bool) (w:World) (hn:1≤n) (hn5:n≤5) (hm:1≤m) (hm5:m≤5) (hb:cellB n m c=b):Calls Tryz.prog 124 #[.agg #[.int .i64 c.co,.int .i64 c.ro,.int .i64 c.mc,.int .i64 c.mr,.int .i64 c.cw,.int .i64 c.ch,.int .i64 c.sk,.int .i64 c.px,.int .i64 c.py],.int .i64 n,.int .i64 m] w fun e w'=>e=.returned (.bool b)∧Below w.heap.size w w':=by
 cases h1:runB c.co c.mc n
 ·have hbf:false=b:=by rw [<- hb];simp [cellB,h1]
  subst hbf
  go_enter Tryz.func124,Tryz.ntmps124
  go_wp2_with fail
  with_reducible refine (validRun_v _ _ n false _ hn hn5 h1).mono ?_
  rintro e w1 ⟨rfl,rfl⟩;go_wp2;go_ret;exact ⟨rfl,(by repeat (first | with_reducible exact Below.refl _ _ | with_reducible assumption | with_reducible refine balloc ?_ | (with_reducible refine bset ?_ ?_;rotate_left;((try dsimp only);omega)) | refine bkeep2 ?_ (by assumption) | with_reducible refine Below.drew ?_))⟩
 cases h2:runB c.ro c.mr m
 ·have hbf:false=b:=by rw [<- hb];simp [cellB,h2]
  subst hbf
  go_enter Tryz.func124,Tryz.ntmps124
  go_wp2_with fail
  with_reducible refine (validRun_v _ _ n true _ hn hn5 h1).mono ?_
  rintro e w1 ⟨rfl,rfl⟩
  go_wp2_with fail
  with_reducible refine (validRun_v _ _ m false _ hm hm5 h2).mono ?_
  rintro e w1 ⟨rfl,rfl⟩;go_wp2;go_ret;exact ⟨rfl,(by repeat (first | with_reducible exact Below.refl _ _ | with_reducible assumption | with_reducible refine balloc ?_ | (with_reducible refine bset ?_ ?_;rotate_left;((try dsimp only);omega)) | refine bkeep2 ?_ (by assumption) | with_reducible refine Below.drew ?_))⟩
 cases h3:(rng c.cw 0 30 && rng c.ch 0 30)
 ·have hbf:false=b:=by rw [<- hb];cases u:rng c.cw 0 30 <;> cases v:rng c.ch 0 30 <;> simp [cellB,u,v] at h3 ⊢
  subst hbf
  go_enter Tryz.func124,Tryz.ntmps124
  go_wp2_with fail
  with_reducible refine (validRun_v _ _ n true _ hn hn5 h1).mono ?_
  rintro e w1 ⟨rfl,rfl⟩
  go_wp2_with fail
  with_reducible refine (validRun_v _ _ m true _ hm hm5 h2).mono ?_
  rintro e w1 ⟨rfl,rfl⟩
  go_wp2_with fail
  with_reducible refine (validWish_w _ _ false _ h3).mono ?_
  rintro e w1 ⟨rfl,rfl⟩;go_wp2;go_ret;exact ⟨rfl,(by repeat (first | with_reducible exact Below.refl _ _ | with_reducible assumption | with_reducible refine balloc ?_ | (with_reducible refine bset ?_ ?_;rotate_left;((try dsimp only);omega)) | refine bkeep2 ?_ (by assumption) | with_reducible refine Below.drew ?_))⟩
 obtain ⟨h3a,h3b⟩:rng c.cw 0 30=true∧rng c.ch 0 30=true:=by simpa using h3
 cases h4:rng c.sk 0 15
 ·have hbf:false=b:=by rw [<- hb];simp [cellB,h4,h3a,h3b]
  subst hbf
  go_enter Tryz.func124,Tryz.ntmps124
  go_wp2_with fail
  with_reducible refine (validRun_v _ _ n true _ hn hn5 h1).mono ?_
  rintro e w1 ⟨rfl,rfl⟩
  go_wp2_with fail
  with_reducible refine (validRun_v _ _ m true _ hm hm5 h2).mono ?_
  rintro e w1 ⟨rfl,rfl⟩
  go_wp2_with fail
  with_reducible refine (validWish_w _ _ true _ h3).mono ?_
  rintro e w1 ⟨rfl,rfl⟩
  go_wp2_with fail
  with_reducible refine (within_w _ 0 15 false _ h4).mono ?_
  rintro e w1 ⟨rfl,rfl⟩;go_wp2;go_ret;exact ⟨rfl,(by repeat (first | with_reducible exact Below.refl _ _ | with_reducible assumption | with_reducible refine balloc ?_ | (with_reducible refine bset ?_ ?_;rotate_left;((try dsimp only);omega)) | refine bkeep2 ?_ (by assumption) | with_reducible refine Below.drew ?_))⟩
 cases h5:rng c.px 0 10
 ·have hbf:false=b:=by rw [<- hb];simp [cellB,h5,h3a,h3b]
  subst hbf
  go_enter Tryz.func124,Tryz.ntmps124
  go_wp2_with fail
  with_reducible refine (validRun_v _ _ n true _ hn hn5 h1).mono ?_
  rintro e w1 ⟨rfl,rfl⟩
  go_wp2_with fail
  with_reducible refine (validRun_v _ _ m true _ hm hm5 h2).mono ?_
  rintro e w1 ⟨rfl,rfl⟩
  go_wp2_with fail
  with_reducible refine (validWish_w _ _ true _ h3).mono ?_
  rintro e w1 ⟨rfl,rfl⟩
  go_wp2_with fail
  with_reducible refine (within_w _ 0 15 true _ h4).mono ?_
  rintro e w1 ⟨rfl,rfl⟩
  go_wp2_with fail
  with_reducible refine (within_w _ 0 10 false _ h5).mono ?_
  rintro e w1 ⟨rfl,rfl⟩;go_wp2;go_ret;exact ⟨rfl,(by repeat (first | with_reducible exact Below.refl _ _ | with_reducible assumption | with_reducible refine balloc ?_ | (with_reducible refine bset ?_ ?_;rotate_left;((try dsimp only);omega)) | refine bkeep2 ?_ (by assumption) | with_reducible refine Below.drew ?_))⟩
 have h6:rng c.py 0 10=b:=by rw [<- hb];simp [cellB,h1,h2,h4,h5,h3a,h3b]
 cases b
 all_goals
  go_enter Tryz.func124,Tryz.ntmps124
  go_wp2_with fail
  with_reducible refine (validRun_v _ _ n true _ hn hn5 h1).mono ?_
  rintro e w1 ⟨rfl,rfl⟩
  go_wp2_with fail
  with_reducible refine (validRun_v _ _ m true _ hm hm5 h2).mono ?_
  rintro e w1 ⟨rfl,rfl⟩
  go_wp2_with fail
  with_reducible refine (validWish_w _ _ true _ h3).mono ?_
  rintro e w1 ⟨rfl,rfl⟩
  go_wp2_with fail
  with_reducible refine (within_w _ 0 15 true _ h4).mono ?_
  rintro e w1 ⟨rfl,rfl⟩
  go_wp2_with fail
  with_reducible refine (within_w _ 0 10 true _ h5).mono ?_
  rintro e w1 ⟨rfl,rfl⟩
  go_wp2_with fail
  with_reducible refine (within_w _ 0 10 _ _ h6).mono ?_
  rintro e w1 ⟨rfl,rfl⟩;go_wp2;go_ret;exact ⟨rfl,(by repeat (first | with_reducible exact Below.refl _ _ | with_reducible assumption | with_reducible refine balloc ?_ | (with_reducible refine bset ?_ ?_;rotate_left;((try dsimp only);omega)) | refine bkeep2 ?_ (by assumption) | with_reducible refine Below.drew ?_))⟩
theorem linesB_len' {L:List Ln} (h:linesB L=true):1≤L.length∧L.length≤5:=by
 simp only [linesB,Bool.and_eq_true,rng_iff] at h;omega
theorem svalidCell_v (c:Ce) (n1 n2 n3 c1 c2 c3:Nat) (A1 A2 A3:Option Addr) (b:Bool) (w:World) (hn:n1≤1048576) (hm:n2≤1048576) (hb:cellB n1 n2 c=b):Calls Tryz.prog 113 #[.agg #[.slice A1 n1 c1,.slice A2 n2 c2,.slice A3 n3 c3],.agg #[.int .i64 c.co,.int .i64 c.ro,.int .i64 c.mc,.int .i64 c.mr,.int .i64 c.cw,.int .i64 c.ch,.int .i64 c.sk,.int .i64 c.px,.int .i64 c.py]] w fun e w'=>e=.returned (.bool b)∧Below w.heap.size w w':=by
 cases h1:rng c.co 0 ((n1:Int) - 1)
 ·have hbf:false=b:=by rw [<- hb];simp [cellB,runB,h1]
  subst hbf
  go_enter Tryz.func113,Tryz.ntmps113
  go_wp2_with fail
  with_reducible refine (inRange_w _ 0 ((n1:Int) - 1) false _ h1).mono ?_
  rintro e w1 ⟨rfl,rfl⟩;go_wp2;go_ret;exact ⟨rfl,(by repeat (first | with_reducible exact Below.refl _ _ | with_reducible assumption | with_reducible refine balloc ?_ | (with_reducible refine bset ?_ ?_;rotate_left;((try dsimp only);omega)) | refine bkeep2 ?_ (by assumption) | with_reducible refine Below.drew ?_))⟩
 have ha1:=rng_iff.1 h1
 cases h2:rng c.ro 0 ((n2:Int) - 1)
 ·have hbf:false=b:=by rw [<- hb];simp [cellB,runB,h2]
  subst hbf
  go_enter Tryz.func113,Tryz.ntmps113
  go_wp2_with fail
  with_reducible refine (inRange_w _ 0 ((n1:Int) - 1) true _ h1).mono ?_
  rintro e w1 ⟨rfl,rfl⟩
  go_wp2_with fail
  with_reducible refine (inRange_w _ 0 ((n2:Int) - 1) false _ h2).mono ?_
  rintro e w1 ⟨rfl,rfl⟩;go_wp2;go_ret;exact ⟨rfl,(by repeat (first | with_reducible exact Below.refl _ _ | with_reducible assumption | with_reducible refine balloc ?_ | (with_reducible refine bset ?_ ?_;rotate_left;((try dsimp only);omega)) | refine bkeep2 ?_ (by assumption) | with_reducible refine Below.drew ?_))⟩
 have ha2:=rng_iff.1 h2
 cases h3:rng c.mc 1 ((n1:Int) - c.co)
 ·have hbf:false=b:=by rw [<- hb];simp [cellB,runB,h3]
  subst hbf
  go_enter Tryz.func113,Tryz.ntmps113
  go_wp2_with fail
  with_reducible refine (inRange_w _ 0 ((n1:Int) - 1) true _ h1).mono ?_
  rintro e w1 ⟨rfl,rfl⟩
  go_wp2_with fail
  with_reducible refine (inRange_w _ 0 ((n2:Int) - 1) true _ h2).mono ?_
  rintro e w1 ⟨rfl,rfl⟩
  go_wp2_with fail
  with_reducible refine (inRange_w _ 1 ((n1:Int) - c.co) false _ h3).mono ?_
  rintro e w1 ⟨rfl,rfl⟩;go_wp2;go_ret;exact ⟨rfl,(by repeat (first | with_reducible exact Below.refl _ _ | with_reducible assumption | with_reducible refine balloc ?_ | (with_reducible refine bset ?_ ?_;rotate_left;((try dsimp only);omega)) | refine bkeep2 ?_ (by assumption) | with_reducible refine Below.drew ?_))⟩
 cases h4:rng c.mr 1 ((n2:Int) - c.ro)
 ·have hbf:false=b:=by rw [<- hb];simp [cellB,runB,h4]
  subst hbf
  go_enter Tryz.func113,Tryz.ntmps113
  go_wp2_with fail
  with_reducible refine (inRange_w _ 0 ((n1:Int) - 1) true _ h1).mono ?_
  rintro e w1 ⟨rfl,rfl⟩
  go_wp2_with fail
  with_reducible refine (inRange_w _ 0 ((n2:Int) - 1) true _ h2).mono ?_
  rintro e w1 ⟨rfl,rfl⟩
  go_wp2_with fail
  with_reducible refine (inRange_w _ 1 ((n1:Int) - c.co) true _ h3).mono ?_
  rintro e w1 ⟨rfl,rfl⟩
  go_wp2_with fail
  with_reducible refine (inRange_w _ 1 ((n2:Int) - c.ro) false _ h4).mono ?_
  rintro e w1 ⟨rfl,rfl⟩;go_wp2;go_ret;exact ⟨rfl,(by repeat (first | with_reducible exact Below.refl _ _ | with_reducible assumption | with_reducible refine balloc ?_ | (with_reducible refine bset ?_ ?_;rotate_left;((try dsimp only);omega)) | refine bkeep2 ?_ (by assumption) | with_reducible refine Below.drew ?_))⟩
 cases h5:rng c.cw 0 30
 ·have hbf:false=b:=by rw [<- hb];simp [cellB,runB,h5]
  subst hbf
  go_enter Tryz.func113,Tryz.ntmps113
  go_wp2_with fail
  with_reducible refine (inRange_w _ 0 ((n1:Int) - 1) true _ h1).mono ?_
  rintro e w1 ⟨rfl,rfl⟩
  go_wp2_with fail
  with_reducible refine (inRange_w _ 0 ((n2:Int) - 1) true _ h2).mono ?_
  rintro e w1 ⟨rfl,rfl⟩
  go_wp2_with fail
  with_reducible refine (inRange_w _ 1 ((n1:Int) - c.co) true _ h3).mono ?_
  rintro e w1 ⟨rfl,rfl⟩
  go_wp2_with fail
  with_reducible refine (inRange_w _ 1 ((n2:Int) - c.ro) true _ h4).mono ?_
  rintro e w1 ⟨rfl,rfl⟩
  go_wp2_with fail
  with_reducible refine (inRange_w _ 0 30 false _ h5).mono ?_
  rintro e w1 ⟨rfl,rfl⟩;go_wp2;go_ret;exact ⟨rfl,(by repeat (first | with_reducible exact Below.refl _ _ | with_reducible assumption | with_reducible refine balloc ?_ | (with_reducible refine bset ?_ ?_;rotate_left;((try dsimp only);omega)) | refine bkeep2 ?_ (by assumption) | with_reducible refine Below.drew ?_))⟩
 cases h6:rng c.ch 0 30
 ·have hbf:false=b:=by rw [<- hb];simp [cellB,runB,h6]
  subst hbf
  go_enter Tryz.func113,Tryz.ntmps113
  go_wp2_with fail
  with_reducible refine (inRange_w _ 0 ((n1:Int) - 1) true _ h1).mono ?_
  rintro e w1 ⟨rfl,rfl⟩
  go_wp2_with fail
  with_reducible refine (inRange_w _ 0 ((n2:Int) - 1) true _ h2).mono ?_
  rintro e w1 ⟨rfl,rfl⟩
  go_wp2_with fail
  with_reducible refine (inRange_w _ 1 ((n1:Int) - c.co) true _ h3).mono ?_
  rintro e w1 ⟨rfl,rfl⟩
  go_wp2_with fail
  with_reducible refine (inRange_w _ 1 ((n2:Int) - c.ro) true _ h4).mono ?_
  rintro e w1 ⟨rfl,rfl⟩
  go_wp2_with fail
  with_reducible refine (inRange_w _ 0 30 true _ h5).mono ?_
  rintro e w1 ⟨rfl,rfl⟩
  go_wp2_with fail
  with_reducible refine (inRange_w _ 0 30 false _ h6).mono ?_
  rintro e w1 ⟨rfl,rfl⟩;go_wp2;go_ret;exact ⟨rfl,(by repeat (first | with_reducible exact Below.refl _ _ | with_reducible assumption | with_reducible refine balloc ?_ | (with_reducible refine bset ?_ ?_;rotate_left;((try dsimp only);omega)) | refine bkeep2 ?_ (by assumption) | with_reducible refine Below.drew ?_))⟩
 cases h7:rng c.sk 0 15
 ·have hbf:false=b:=by rw [<- hb];simp [cellB,runB,h7]
  subst hbf
  go_enter Tryz.func113,Tryz.ntmps113
  go_wp2_with fail
  with_reducible refine (inRange_w _ 0 ((n1:Int) - 1) true _ h1).mono ?_
  rintro e w1 ⟨rfl,rfl⟩
  go_wp2_with fail
  with_reducible refine (inRange_w _ 0 ((n2:Int) - 1) true _ h2).mono ?_
  rintro e w1 ⟨rfl,rfl⟩
  go_wp2_with fail
  with_reducible refine (inRange_w _ 1 ((n1:Int) - c.co) true _ h3).mono ?_
  rintro e w1 ⟨rfl,rfl⟩
  go_wp2_with fail
  with_reducible refine (inRange_w _ 1 ((n2:Int) - c.ro) true _ h4).mono ?_
  rintro e w1 ⟨rfl,rfl⟩
  go_wp2_with fail
  with_reducible refine (inRange_w _ 0 30 true _ h5).mono ?_
  rintro e w1 ⟨rfl,rfl⟩
  go_wp2_with fail
  with_reducible refine (inRange_w _ 0 30 true _ h6).mono ?_
  rintro e w1 ⟨rfl,rfl⟩
  go_wp2_with fail
  with_reducible refine (inRange_w _ 0 15 false _ h7).mono ?_
  rintro e w1 ⟨rfl,rfl⟩;go_wp2;go_ret;exact ⟨rfl,(by repeat (first | with_reducible exact Below.refl _ _ | with_reducible assumption | with_reducible refine balloc ?_ | (with_reducible refine bset ?_ ?_;rotate_left;((try dsimp only);omega)) | refine bkeep2 ?_ (by assumption) | with_reducible refine Below.drew ?_))⟩
 cases h8:rng c.px 0 10
 ·have hbf:false=b:=by rw [<- hb];simp [cellB,runB,h8]
  subst hbf
  go_enter Tryz.func113,Tryz.ntmps113
  go_wp2_with fail
  with_reducible refine (inRange_w _ 0 ((n1:Int) - 1) true _ h1).mono ?_
  rintro e w1 ⟨rfl,rfl⟩
  go_wp2_with fail
  with_reducible refine (inRange_w _ 0 ((n2:Int) - 1) true _ h2).mono ?_
  rintro e w1 ⟨rfl,rfl⟩
  go_wp2_with fail
  with_reducible refine (inRange_w _ 1 ((n1:Int) - c.co) true _ h3).mono ?_
  rintro e w1 ⟨rfl,rfl⟩
  go_wp2_with fail
  with_reducible refine (inRange_w _ 1 ((n2:Int) - c.ro) true _ h4).mono ?_
  rintro e w1 ⟨rfl,rfl⟩
  go_wp2_with fail
  with_reducible refine (inRange_w _ 0 30 true _ h5).mono ?_
  rintro e w1 ⟨rfl,rfl⟩
  go_wp2_with fail
  with_reducible refine (inRange_w _ 0 30 true _ h6).mono ?_
  rintro e w1 ⟨rfl,rfl⟩
  go_wp2_with fail
  with_reducible refine (inRange_w _ 0 15 true _ h7).mono ?_
  rintro e w1 ⟨rfl,rfl⟩
  go_wp2_with fail
  with_reducible refine (inRange_w _ 0 10 false _ h8).mono ?_
  rintro e w1 ⟨rfl,rfl⟩;go_wp2;go_ret;exact ⟨rfl,(by repeat (first | with_reducible exact Below.refl _ _ | with_reducible assumption | with_reducible refine balloc ?_ | (with_reducible refine bset ?_ ?_;rotate_left;((try dsimp only);omega)) | refine bkeep2 ?_ (by assumption) | with_reducible refine Below.drew ?_))⟩
 have h9:rng c.py 0 10=b:=by rw [<- hb];simp [cellB,runB,h1,h2,h3,h4,h5,h6,h7,h8]
 cases b
 all_goals
  go_enter Tryz.func113,Tryz.ntmps113
  go_wp2_with fail
  with_reducible refine (inRange_w _ 0 ((n1:Int) - 1) true _ h1).mono ?_
  rintro e w1 ⟨rfl,rfl⟩
  go_wp2_with fail
  with_reducible refine (inRange_w _ 0 ((n2:Int) - 1) true _ h2).mono ?_
  rintro e w1 ⟨rfl,rfl⟩
  go_wp2_with fail
  with_reducible refine (inRange_w _ 1 ((n1:Int) - c.co) true _ h3).mono ?_
  rintro e w1 ⟨rfl,rfl⟩
  go_wp2_with fail
  with_reducible refine (inRange_w _ 1 ((n2:Int) - c.ro) true _ h4).mono ?_
  rintro e w1 ⟨rfl,rfl⟩
  go_wp2_with fail
  with_reducible refine (inRange_w _ 0 30 true _ h5).mono ?_
  rintro e w1 ⟨rfl,rfl⟩
  go_wp2_with fail
  with_reducible refine (inRange_w _ 0 30 true _ h6).mono ?_
  rintro e w1 ⟨rfl,rfl⟩
  go_wp2_with fail
  with_reducible refine (inRange_w _ 0 15 true _ h7).mono ?_
  rintro e w1 ⟨rfl,rfl⟩
  go_wp2_with fail
  with_reducible refine (inRange_w _ 0 10 true _ h8).mono ?_
  rintro e w1 ⟨rfl,rfl⟩
  go_wp2_with fail
  with_reducible refine (inRange_w _ 0 10 _ _ h9).mono ?_
  rintro e w1 ⟨rfl,rfl⟩;go_wp2;go_ret;exact ⟨rfl,(by repeat (first | with_reducible exact Below.refl _ _ | with_reducible assumption | with_reducible refine balloc ?_ | (with_reducible refine bset ?_ ?_;rotate_left;((try dsimp only);omega)) | refine bkeep2 ?_ (by assumption) | with_reducible refine Below.drew ?_))⟩
end
section
def acM (c:Ce):Sp:=⟨c.co,c.mc,c.cw+2*c.px⟩
def dnM (c:Ce):Sp:=⟨c.ro,c.mr,c.ch+2*c.py⟩
def smC (c:Ce):Prop:=(0≤c.cw∧c.cw≤30)∧(0≤c.ch∧c.ch≤30)∧(0≤c.px∧c.px≤10)∧(0≤c.py∧c.py≤10)
def smW (c:Ce):Prop:=(0≤c.cw∧c.cw≤1000000000000)∧(0≤c.ch∧c.ch≤1000000000000)∧(0≤c.px∧c.px≤10)∧(0≤c.py∧c.py≤10)
theorem smC.w {c:Ce} (h:smC c):smW c:=by unfold smC at h;unfold smW;omega
theorem across_e (p:Ce) (w:World) (h:smW p):Calls Tryz.prog 196 #[.agg #[.int .i64 p.co,.int .i64 p.ro,.int .i64 p.mc,.int .i64 p.mr,.int .i64 p.cw,.int .i64 p.ch,.int .i64 p.sk,.int .i64 p.px,.int .i64 p.py]] w fun e w'=>e=.returned (.agg #[.int .i64 p.co,.int .i64 p.mc,.int .i64 (p.cw+2*p.px)])∧Below w.heap.size w w':=by
 obtain ⟨⟨b1,b2⟩,⟨b3,b4⟩,⟨b5,b6⟩,⟨b7,b8⟩⟩:=h
 go_enter Tryz.func196,Tryz.ntmps196
 go_wp2
 exact bodyPost_ret (v:=.agg #[.int .i64 p.co,.int .i64 p.mc,.int .i64 (p.cw+2*p.px)]) (by simp only [results,Tryz.results196];go_simp) rfl ⟨rfl,(by repeat (first | with_reducible exact Below.refl _ _ | with_reducible assumption | with_reducible refine balloc ?_ | (with_reducible refine bset ?_ ?_;rotate_left;((try dsimp only);omega)) | refine bkeep2 ?_ (by assumption) | with_reducible refine Below.drew ?_))⟩
theorem across_v (p:Ce) (w:World) (h:smW p):Calls Tryz.prog 196 #[.agg #[.int .i64 p.co,.int .i64 p.ro,.int .i64 p.mc,.int .i64 p.mr,.int .i64 p.cw,.int .i64 p.ch,.int .i64 p.sk,.int .i64 p.px,.int .i64 p.py]] w fun e w'=>e=.returned (.agg #[.int .i64 (acM p).sa,.int .i64 (acM p).many,.int .i64 (acM p).need])∧Below w.heap.size w w':=across_e p w h
theorem each_acrossW (A:Option Addr) (c:Nat) (L:List Ce) (w:World) (h:CeV w A L) (hL:L.length≤1048576) (hsm:∀ p ∈ L,smW p) :
  Calls Tryz.prog 206 #[.slice A L.length c,.func (.func 196) #[] #[]] w fun e w'=>e=.returned (.slice (some ⟨w.heap.size,0,none⟩) L.length L.length)∧SpB w' w.heap.size (L.map acM)∧Below w.heap.size w w':=by
 obtain ⟨f,hf,hmk0⟩:=madeSp
 have hmk:∀ w:World,(Instr.makeSlice 181 (.int .i64 (L.length:Int)) (.int .i64 (L.length:Int))).run Tryz.prog w=.ok (.slice (some ⟨w.heap.size,0,none⟩) L.length L.length) (w.alloc (.cells (f L.length) 200)):=fun w=>hmk0 L.length w hL
 have HSM:=hD hsm
 go_enter Tryz.func206,Tryz.ntmps206
 go_wp2_with fail
 have HWW:Hid (∃ cs:Array Value,(w.alloc (.cells (f L.length) 200)).heap[w.heap.size]?=some (.cells cs 200 (0,0))∧cs.size=L.length*3∧∀ i p,i<0→(L.map acM)[i]?=some p→InS cs (i*3) (valsSp p)):=hD ⟨_,newS _ _,hf _,fun i p hi=>absurd hi (by omega)⟩;clear hmk hmk0 hf hsm
 go_loopw [13] (fun i wr=>∃ k:Nat,k≤L.length∧i=.int .i64 k∧(∃ cs:Array Value,wr.heap[w.heap.size]?=some (.cells cs 200 (0,0))∧cs.size=L.length*3∧∀ i p,i<k→(L.map acM)[i]?=some p→InS cs (i*3) (valsSp p))∧Below w.heap.size w wr) (fun i _=>L.length - (intOf i).toNat)
 case atStart=>exact ⟨0,by omega,rfl,HWW.out,balloc (Below.refl _ _)⟩
 case round =>
  obtain ⟨k,hk,rfl,⟨cs,hh,hs,hc⟩,hB⟩:=hrel;clear HWW
  by_cases hlt:k<L.length
  ·have hd:decide ((k:Int)<(L.length:Int))=true:=by simpa using hlt
   obtain ⟨b,off,rfl,hb,hp⟩:=(h.keep hB).cells (by omega);have hget:L[k]?=some L[k]:=List.getElem?_eq_getElem hlt;obtain ⟨c0,c1,c2,c3,c4,c5,c6,c7,c8⟩:=hp k _ hget;have hsk:smW L[k]:=HSM.out _ (List.getElem_mem hlt);generalize hx:L[k]=p at *;have HG:=hD (show (L.map acM)[k]?=some (acM p) by rw [List.getElem?_map,hget];rfl);have HH:=hD hh;have HS:=hD hs;have HC:=hD hc;have HBB:=hD hB;have HK:=hD hsk
   clear hget hx hh hs hc hB hp hsk
   go_wp2_with fail
   refine (across_v p _ HK.out).mono ?_;rintro e w1 ⟨rfl,hb1⟩;have hlg:w.heap.size<wr.heap.size:=ltS HH.out;have hb01:=bkeep2 (balloc (Below.refl wr.heap.size wr)) hb1;replace HH:=hD ((hb01.block _ hlg).trans HH.out);replace HBB:=hD (HBB.out.trans (hb01.mono HBB.out.size));clear hb1 hb01 c0 c1 c2 c3 c4 c5 c6 c7 c8 hlg
   have hsz:k*3+3≤cs.size:=by rw [HS.out];omega
   obtain ⟨y0,d0⟩:=thereS HH.out (i:=k*3) (by omega);obtain ⟨y1,d1⟩:=thereS HH.out (i:=k*3+1) (by omega);obtain ⟨y2,d2⟩:=thereS HH.out (i:=k*3+2) (by omega);have f0:=frozenS HH.out (k*3);have f1:=frozenS HH.out (k*3+1);have f2:=frozenS HH.out (k*3+2);have E1:=hD (putSp HH.out (k*3) (acM p));have E2:=hD (putSpb HBB.out (Nat.le_refl _) (k*3) (acM p));go_wp2
   go_roundw
   case rel=>exact ⟨k+1,by omega,by go_num,⟨_,E1.out,(wrAt_size _ _ _).trans HS.out,fun i q hi hq=>by
    by_cases e:i=k
    ·subst e
     obtain rfl:(acM p)=q:=by have:=HG.out;rw [this] at hq;exact Option.some.inj hq
     exact InS.write (by simp only [valsSp,List.length_cons,List.length_nil];omega)
    ·exact (HC.out i q (by omega) hq).keepS (.inl (by simp only [valsSp,List.length_cons,List.length_nil];omega))⟩,E2.out⟩
   case measure=>simp [intOf];omega
  ·have hd:decide ((k:Int)<(L.length:Int))=false:=decide_eq_false (by omega)
   obtain rfl:k=L.length:=by omega
   have HR:=hD (show SpB wr w.heap.size (L.map acM) from ⟨cs,hh,by rw [List.length_map];exact hs,fun i p hp=>hc i p (by have:=(List.getElem?_eq_some_iff.1 hp).1;rwa [List.length_map] at this) hp⟩);have HBB:=hD hB;clear hh hs hc hB;go_wp2;go_ret;exact ⟨rfl,HR.out,HBB.out⟩
theorem down_e (p:Ce) (w:World) (h:smW p):Calls Tryz.prog 207 #[.agg #[.int .i64 p.co,.int .i64 p.ro,.int .i64 p.mc,.int .i64 p.mr,.int .i64 p.cw,.int .i64 p.ch,.int .i64 p.sk,.int .i64 p.px,.int .i64 p.py]] w fun e w'=>e=.returned (.agg #[.int .i64 p.ro,.int .i64 p.mr,.int .i64 (p.ch+2*p.py)])∧Below w.heap.size w w':=by
 obtain ⟨⟨b1,b2⟩,⟨b3,b4⟩,⟨b5,b6⟩,⟨b7,b8⟩⟩:=h
 go_enter Tryz.func207,Tryz.ntmps207
 go_wp2
 exact bodyPost_ret (v:=.agg #[.int .i64 p.ro,.int .i64 p.mr,.int .i64 (p.ch+2*p.py)]) (by simp only [results,Tryz.results207];go_simp) rfl ⟨rfl,(by repeat (first | with_reducible exact Below.refl _ _ | with_reducible assumption | with_reducible refine balloc ?_ | (with_reducible refine bset ?_ ?_;rotate_left;((try dsimp only);omega)) | refine bkeep2 ?_ (by assumption) | with_reducible refine Below.drew ?_))⟩
theorem down_v (p:Ce) (w:World) (h:smW p):Calls Tryz.prog 207 #[.agg #[.int .i64 p.co,.int .i64 p.ro,.int .i64 p.mc,.int .i64 p.mr,.int .i64 p.cw,.int .i64 p.ch,.int .i64 p.sk,.int .i64 p.px,.int .i64 p.py]] w fun e w'=>e=.returned (.agg #[.int .i64 (dnM p).sa,.int .i64 (dnM p).many,.int .i64 (dnM p).need])∧Below w.heap.size w w':=down_e p w h
theorem each_downW (A:Option Addr) (c:Nat) (L:List Ce) (w:World) (h:CeV w A L) (hL:L.length≤1048576) (hsm:∀ p ∈ L,smW p) :
  Calls Tryz.prog 206 #[.slice A L.length c,.func (.func 207) #[] #[]] w fun e w'=>e=.returned (.slice (some ⟨w.heap.size,0,none⟩) L.length L.length)∧SpB w' w.heap.size (L.map dnM)∧Below w.heap.size w w':=by
 obtain ⟨f,hf,hmk0⟩:=madeSp
 have hmk:∀ w:World,(Instr.makeSlice 181 (.int .i64 (L.length:Int)) (.int .i64 (L.length:Int))).run Tryz.prog w=.ok (.slice (some ⟨w.heap.size,0,none⟩) L.length L.length) (w.alloc (.cells (f L.length) 200)):=fun w=>hmk0 L.length w hL
 have HSM:=hD hsm
 go_enter Tryz.func206,Tryz.ntmps206
 go_wp2_with fail
 have HWW:Hid (∃ cs:Array Value,(w.alloc (.cells (f L.length) 200)).heap[w.heap.size]?=some (.cells cs 200 (0,0))∧cs.size=L.length*3∧∀ i p,i<0→(L.map dnM)[i]?=some p→InS cs (i*3) (valsSp p)):=hD ⟨_,newS _ _,hf _,fun i p hi=>absurd hi (by omega)⟩;clear hmk hmk0 hf hsm
 go_loopw [13] (fun i wr=>∃ k:Nat,k≤L.length∧i=.int .i64 k∧(∃ cs:Array Value,wr.heap[w.heap.size]?=some (.cells cs 200 (0,0))∧cs.size=L.length*3∧∀ i p,i<k→(L.map dnM)[i]?=some p→InS cs (i*3) (valsSp p))∧Below w.heap.size w wr) (fun i _=>L.length - (intOf i).toNat)
 case atStart=>exact ⟨0,by omega,rfl,HWW.out,balloc (Below.refl _ _)⟩
 case round =>
  obtain ⟨k,hk,rfl,⟨cs,hh,hs,hc⟩,hB⟩:=hrel;clear HWW
  by_cases hlt:k<L.length
  ·have hd:decide ((k:Int)<(L.length:Int))=true:=by simpa using hlt
   obtain ⟨b,off,rfl,hb,hp⟩:=(h.keep hB).cells (by omega);have hget:L[k]?=some L[k]:=List.getElem?_eq_getElem hlt;obtain ⟨c0,c1,c2,c3,c4,c5,c6,c7,c8⟩:=hp k _ hget;have hsk:smW L[k]:=HSM.out _ (List.getElem_mem hlt);generalize hx:L[k]=p at *;have HG:=hD (show (L.map dnM)[k]?=some (dnM p) by rw [List.getElem?_map,hget];rfl);have HH:=hD hh;have HS:=hD hs;have HC:=hD hc;have HBB:=hD hB;have HK:=hD hsk
   clear hget hx hh hs hc hB hp hsk
   go_wp2_with fail
   refine (down_v p _ HK.out).mono ?_;rintro e w1 ⟨rfl,hb1⟩;have hlg:w.heap.size<wr.heap.size:=ltS HH.out;have hb01:=bkeep2 (balloc (Below.refl wr.heap.size wr)) hb1;replace HH:=hD ((hb01.block _ hlg).trans HH.out);replace HBB:=hD (HBB.out.trans (hb01.mono HBB.out.size));clear hb1 hb01 c0 c1 c2 c3 c4 c5 c6 c7 c8 hlg
   have hsz:k*3+3≤cs.size:=by rw [HS.out];omega
   obtain ⟨y0,d0⟩:=thereS HH.out (i:=k*3) (by omega);obtain ⟨y1,d1⟩:=thereS HH.out (i:=k*3+1) (by omega);obtain ⟨y2,d2⟩:=thereS HH.out (i:=k*3+2) (by omega);have f0:=frozenS HH.out (k*3);have f1:=frozenS HH.out (k*3+1);have f2:=frozenS HH.out (k*3+2);have E1:=hD (putSp HH.out (k*3) (dnM p));have E2:=hD (putSpb HBB.out (Nat.le_refl _) (k*3) (dnM p));go_wp2
   go_roundw
   case rel=>exact ⟨k+1,by omega,by go_num,⟨_,E1.out,(wrAt_size _ _ _).trans HS.out,fun i q hi hq=>by
    by_cases e:i=k
    ·subst e
     obtain rfl:(dnM p)=q:=by have:=HG.out;rw [this] at hq;exact Option.some.inj hq
     exact InS.write (by simp only [valsSp,List.length_cons,List.length_nil];omega)
    ·exact (HC.out i q (by omega) hq).keepS (.inl (by simp only [valsSp,List.length_cons,List.length_nil];omega))⟩,E2.out⟩
   case measure=>simp [intOf];omega
  ·have hd:decide ((k:Int)<(L.length:Int))=false:=decide_eq_false (by omega)
   obtain rfl:k=L.length:=by omega
   have HR:=hD (show SpB wr w.heap.size (L.map dnM) from ⟨cs,hh,by rw [List.length_map];exact hs,fun i p hp=>hc i p (by have:=(List.getElem?_eq_some_iff.1 hp).1;rwa [List.length_map] at this) hp⟩);have HBB:=hD hB;clear hh hs hc hB;go_wp2;go_ret;exact ⟨rfl,HR.out,HBB.out⟩
end
end Go.Proofs.YtenckjdiggaonaaGreat
