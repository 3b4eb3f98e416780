import Derived.Test.YtenckjdiggaonaaGreatQ09
import Derived.RangeFuncNested
import Derived.RangeFuncBound
import Derived.RangeFuncCalls
import Derived.RangeFuncLeaves
import Derived.Shelf.Abstract
import Derived.Shelf.RegionOpen
import Derived.WalkKit
import Derived.OwnWalkIn
import Derived.TacticsInMore
import Derived.LoopNIn
import Derived.LoopIn
set_option linter.unusedVariables false
set_option maxRecDepth 100000
namespace Go.Proofs.YtenckjdiggaonaaGreat
section
open Go.RowKit
set_option maxHeartbeats 1000000
attribute [local go_sem 5000] run_mx run_mn
theorem belowN' {B:Nat} {a w:World} (h:Below B a w) (n:Nat):Below B a (w.drewN n):=⟨h.os,h.tape,h.output,h.size,h.block⟩
theorem isDown_x (p:Pk) (ex:Bool) (w:World):Calls Tryz.prog 195 #[.agg #[.int .i64 p.w,.int .i64 p.h,.int .i64 p.s,.bool p.fx,.bool p.fy,.bool ex,.int .i64 p.an,.int .i64 p.px,.int .i64 p.py]] w fun e w'=>e=.returned (.bool p.down)∧Below w.heap.size w w':=by
 by_cases h0:p.s=0
 ·have e0:(p.s == 0)=true:=by simpa using h0
  go_enter Tryz.func195,Tryz.ntmps195
  go_wp2
  go_ret
  exact ⟨ret_bool (by simp [Pk.down,h0]),balloc (Below.refl _ _)⟩
 ·have e0:(p.s == 0)=false:=by simpa using h0
  by_cases h1:p.s=1
  ·have e1:(p.s == 1)=true:=by simpa using h1
   go_enter Tryz.func195,Tryz.ntmps195
   go_wp2
   go_ret
   exact ⟨ret_bool (by simp [Pk.down,h1]),balloc (Below.refl _ _)⟩
  ·have e1:(p.s == 1)=false:=by simpa using h1
   go_enter Tryz.func195,Tryz.ntmps195
   go_wp2
   go_ret
   exact ⟨ret_bool (by simp [Pk.down,h0,h1]),balloc (Below.refl _ _)⟩
theorem isDown_v (p:Pk) (w:World):Calls Tryz.prog 195 #[.agg #[.int .i64 p.w,.int .i64 p.h,.int .i64 p.s,.bool p.fx,.bool p.fy,.bool p.ex,.int .i64 p.an,.int .i64 p.px,.int .i64 p.py]] w fun e w'=>e=.returned (.bool p.down)∧Below w.heap.size w w':=isDown_x p p.ex w
theorem upright_v (s:Int) (w:World):Calls Tryz.prog 141 #[.int .i64 s] w fun e w'=>e=.returned (.bool (decide (s=0 ∨ s=1)))∧w=w':=by
 by_cases h0:s=0
 ·have e0:(s == 0)=true:=by simpa using h0
  go_enter Tryz.func141,Tryz.ntmps141
  go_wp2
  go_ret
  exact ⟨ret_bool (by simp [h0]),rfl⟩
 ·have e0:(s == 0)=false:=by simpa using h0
  by_cases h1:s=1
  ·have e1:(s == 1)=true:=by simpa using h1
   go_enter Tryz.func141,Tryz.ntmps141
   go_wp2
   go_ret
   exact ⟨ret_bool (by simp [h1]),rfl⟩
  ·have e1:(s == 1)=false:=by simpa using h1
   go_enter Tryz.func141,Tryz.ntmps141
   go_wp2
   go_ret
   exact ⟨ret_bool (by simp [h0,h1]),rfl⟩
theorem need_w (p:Pk) (d:Bool) (w:World) (h:p.big):Calls Tryz.prog 235 #[.agg #[.int .i64 p.w,.int .i64 p.h,.int .i64 p.s,.bool p.fx,.bool p.fy,.bool p.ex,.int .i64 p.an,.int .i64 p.px,.int .i64 p.py],.bool d] w fun e w'=>e=.returned (.int .i64 (p.need d))∧Below w.heap.size w w':=by
 obtain ⟨⟨a1,a2⟩,⟨a3,a4⟩,_,_,⟨a5,a6⟩,⟨a7,a8⟩⟩:=h
 cases d
 all_goals
  go_enter Tryz.func235,Tryz.ntmps235
  go_wp2
  go_ret
  exact ⟨ret_int rfl,balloc (Below.refl _ _)⟩
theorem outer_w (p:Pk) (w:World) (h:p.big):Calls Tryz.prog 140 #[.agg #[.int .i64 p.w,.int .i64 p.h,.int .i64 p.s,.bool p.fx,.bool p.fy,.bool p.ex,.int .i64 p.an,.int .i64 p.px,.int .i64 p.py]] w fun e w'=>e=.returned (.tuple #[.int .i64 (p.need false),.int .i64 (p.need true)])∧Below w.heap.size w w':=by
 obtain ⟨⟨a1,a2⟩,⟨a3,a4⟩,_,_,⟨a5,a6⟩,⟨a7,a8⟩⟩:=h
 have e1:IntKind.i64.wrap (2*p.px)=2*p.px:=IntWalk.i64_in _ (by omega)
 have e2:IntKind.i64.wrap (2*p.py)=2*p.py:=IntWalk.i64_in _ (by omega)
 have e3:IntKind.i64.wrap (p.w+2*p.px)=p.w+2*p.px:=IntWalk.i64_in _ (by omega)
 have e4:IntKind.i64.wrap (p.h+2*p.py)=p.h+2*p.py:=IntWalk.i64_in _ (by omega)
 go_enter Tryz.func140,Tryz.ntmps140
 go_wp2_with fail
 go_quiet (fail)
 clear e1 e2 e3 e4
 go_wp2
 go_ret2
 exact ⟨rfl,belowN' (balloc (Below.refl _ _)) _⟩
end
section
structure Rc where
 x:Int
 y:Int
 u:Int
 v:Int
def Rc.ok (r:Rc):Bool:=vr r.x r.y r.u r.v
def cutP (r:Rc) (s n:Int):Rc × Rc :=
 if s=0 then (⟨r.x,r.y,r.u,mn n r.v⟩,⟨r.x,r.y+mn n r.v,r.u,r.v - mn n r.v⟩)
 else if s=1 then (⟨r.x,r.y+(r.v - mn n r.v),r.u,mn n r.v⟩,⟨r.x,r.y,r.u,r.v - mn n r.v⟩)
 else if s=2 then (⟨r.x,r.y,mn n r.u,r.v⟩,⟨r.x+mn n r.u,r.y,r.u - mn n r.u,r.v⟩)
 else (⟨r.x+(r.u - mn n r.u),r.y,mn n r.u,r.v⟩,⟨r.x,r.y,r.u - mn n r.u,r.v⟩)
def Rc.size (r:Rc) (d:Bool):Int:=if d then r.v else r.u
def moreOf:List Pk→Rc→Int
 | [],_=>0
 | p :: r,z=>if p.ex then shareGo (p :: r) p.down (z.size p.down) (z.size p.down) 0 else 0
def takeOf (p:Pk) (r:List Pk) (z:Rc):Int:=p.need p.down+moreOf (p :: r) z
def parcM:List Pk→Rc→List Rc × Rc
 | [],z=>([],z)
 | p :: r,z=>((cutP z p.s (takeOf p r z)).1 :: (parcM r (cutP z p.s (takeOf p r z)).2).1,(parcM r (cutP z p.s (takeOf p r z)).2).2)
theorem parcM_len:∀ {L:List Pk} {z:Rc},(parcM L z).1.length=L.length
 | [],z=>rfl
 | p :: r,z=>by simp [parcM,parcM_len (L:=r)]
end
section
def reqM:List Pk→Int × Int
 | []=>(0,0)
 | p :: t=>if p.down then (mx (reqM t).1 (p.need false),(reqM t).2+p.need true) else ((reqM t).1+p.need false,mx (reqM t).2 (p.need true))
def reqD (L:List Pk) (d:Bool):Int:=if d then (reqM L).2 else (reqM L).1
theorem reqD_nil (d:Bool):reqD [] d=0:=by cases d <;> rfl
theorem reqD_same {p:Pk} {t:List Pk} {d:Bool} (h:p.down=d):reqD (p :: t) d=reqD t d+p.need d:=by
 cases d <;> simp [reqD,reqM,h]
theorem reqD_other {p:Pk} {t:List Pk} {d:Bool} (h:¬ p.down=d):reqD (p :: t) d=mx (reqD t d) (p.need d):=by
 cases d
 ·have h':p.down=true:=by simpa using h
  simp [reqD,reqM,h']
 ·have h':p.down=false:=by simpa using h
  simp [reqD,reqM,h']
theorem reqM_bdW:∀ {L:List Pk},(∀ p ∈ L,p.big)→0≤(reqM L).1∧(reqM L).1≤1000000000020*L.length∧0≤(reqM L).2∧(reqM L).2≤1000000000020*L.length
 | [],_=>by simp [reqM]
 | p :: t,h=>by
  obtain ⟨a1,a2,a3,a4⟩:=reqM_bdW (L:=t) (fun q hq=>h q (List.mem_cons_of_mem _ hq))
  have n1:=Pk.need_bdW (h p List.mem_cons_self) false
  have n2:=Pk.need_bdW (h p List.mem_cons_self) true
  have m1:=mx_spec (reqM t).1 (p.need false)
  have m2:=mx_spec (reqM t).2 (p.need true)
  simp only [reqM,List.length_cons]
  split <;> (dsimp only;omega)
def Pk.flip (p:Pk):Pk:={ p with s:=if p.s=0 then 1 else if p.s=1 then 0 else if p.s=2 then 3 else 2 }
def Rc.inn (a b:Rc):Prop:=a.x≤b.x∧a.y≤b.y∧b.x+b.u≤a.x+a.u∧b.y+b.v≤a.y+a.v
theorem Rc.inn_trans {a b c:Rc} (h1:a.inn b) (h2:b.inn c):a.inn c:=by unfold Rc.inn at *;omega
def Rc.met (a b:Rc):Prop:=0<mn (a.x+a.u) (b.x+b.u) - mx a.x b.x∧0<mn (a.y+a.v) (b.y+b.v) - mx a.y b.y
def Rc.area (r:Rc):Int:=r.u*r.v
def areas:List Rc→Int
 | []=>0
 | r :: t=>r.area+areas t
end
section
open Go.RowKit
set_option maxHeartbeats 4000000
attribute [local go_sem 5000] run_mx run_mn
attribute [local go_sem] Oper.semAt_some
structure BkE where
 i:Int
 p:Pk
 ok:p.big
def encB (x:BkE):Array Value:=#[.int .i64 x.i,.agg #[.int .i64 x.p.w,.int .i64 x.p.h,.int .i64 x.p.s,.bool x.p.fx,.bool x.p.fy,.bool x.p.ex,.int .i64 x.p.an,.int .i64 x.p.px,.int .i64 x.p.py]]
def KpB (n0 Bs:Nat) (W W':World):Prop:=Below n0 W W'∧W'.heap[Bs]?=W.heap[Bs]?
theorem KpB.cell {n0 Bs:Nat} {W W':World} (h:KpB n0 Bs W W') (o:Nat):W'.cell? ⟨Bs,o,none⟩=W.cell? ⟨Bs,o,none⟩:=World.cell?_of_block h.2
theorem KpB.refl (n0 Bs:Nat) (W:World):KpB n0 Bs W W:=⟨Below.refl _ _,rfl⟩
theorem KpB.trans {n0 Bs:Nat} {A B C:World} (h:KpB n0 Bs A B) (k:KpB n0 Bs B C):KpB n0 Bs A C:=⟨h.1.trans k.1,k.2.trans h.2⟩
def PVn (n0:Nat) (W:World) (A:Option Addr) (L:List Pk):Prop:=0<L.length→∃ b off,A=some ⟨b,off,none⟩∧b<n0∧PS W b off L
theorem PVn.below {n0:Nat} {W W':World} {A:Option Addr} {L:List Pk} (h:PVn n0 W A L) (hb:Below n0 W W'):PVn n0 W' A L:=fun h0 =>
 let ⟨b,off,e,hl,hp⟩:=h h0;⟨b,off,e,hl,fun i p hi=>(hp i p hi).keep (hb.block b hl)⟩
theorem bk1_in (F:Fence) (n:Nat) (hF:F.fn 240) (hro:F.round=none) (hn:1≤n) (l Bs n0:Nat) (A:Option Addr) (c:Nat) (L:List Pk) (hL:L.length≤10) (hok:∀ p ∈ L,p.big) (J Jx:List BkE→World→Prop)
  (hY:∀ pre x W,J pre W→pre.length<L.length→YieldAt F (n - 1) Tryz.prog l (encB x) W fun e W' =>
   (e=.returned (.bool true)∧J (pre ++ [x]) W'∧KpB n0 Bs W W') ∨ (e=.returned (.bool false)∧Jx (pre ++ [x]) W'))
  (W:World) (hBs:W.cell? ⟨Bs,0,none⟩=some (.slice A L.length c)) (hp:PVn n0 W A L) (h0:J [] W) :
  CallsIn F n Tryz.prog 240 #[.func (.yield l) #[] #[],.pointer (some ⟨Bs,0,none⟩)] W fun e W'=>(∃ v,e=.returned v) ∧
   ((∃ ys,ys.map BkE.p=L.reverse∧J ys W') ∨ (∃ pre,True∧Jx pre W')):=by
 refine callsIn_of_wp Tryz.func240 rfl hF ?_ hro
 simp only [Tryz.ntmps240,List.size_toArray,List.length_cons,List.length_nil,Nat.reduceAdd,Nat.reduceSub,Array.replicate_succ,Array.replicate_zero,List.push_toArray,List.append_toArray,List.nil_append,List.cons_append]
 gi_wp2
 gi_loopw [3] (fun i wr=>∃ k:Nat,k≤L.length∧i=.int .i64 ((k:Int) - 1)∧(∃ ys,ys.map BkE.p=(L.drop k).reverse∧J ys wr)∧KpB n0 Bs W wr)
  (fun i _=>(intOf i+1).toNat)
 case atStart=>exact ⟨L.length,Nat.le_refl _,rfl,⟨[],by simp,h0⟩,KpB.refl _ _ _⟩
 case round =>
  obtain ⟨k,hk,rfl,⟨ys,hys,hJs⟩,hK⟩:=hrel
  rcases k with _ | j
  ·have hd:decide (((0:Nat):Int) - 1 ≥ 0)=false:=by simp
   rw [List.drop_zero] at hys
   have HYS:=hD hys
   clear hys
   gi_wp2
   go_end0
   exact ⟨⟨_,rfl⟩,.inl ⟨ys,HYS.out,hJs⟩⟩
  ·have e1:((j+1:Nat):Int) - 1=(j:Int):=by omega
   rw [e1]
   have hlt:j<L.length:=by omega
   have hd:decide ((j:Int) ≥ 0)=true:=by simp
   have hd2:decide ((0:Int)≤(j:Int))=true:=by simp
   obtain ⟨b,off,rfl,hb,hps⟩:=hp.below hK.1 (by omega)
   have hget:L[j]?=some L[j]:=List.getElem?_eq_getElem hlt
   obtain ⟨c0,c1,c2,c3,c4,c5,c6,c7,c8⟩:=hps j _ hget
   have hpok:L[j].big:=hok _ (List.getElem_mem hlt)
   have hdrop:=drop_cons hget
   generalize hx:L[j]=p at *
   have hl:ys.length<L.length:=by
    have:=congrArg List.length hys
    simp at this;omega
   have hcs:=(hK.cell 0).trans hBs
   obtain ⟨fn,tmps,assign,body,hy,hR⟩:=hY ys ⟨j,p,hpok⟩ wr hJs hl
   dsimp only [encB] at hy
   have HYS:=hD hys
   have HD:=hD hdrop
   have HK:=hD hK
   have HG:=hD hget
   have HX:=hD hx
   have HPS:=hD hps
   clear hys hdrop hK hget hx hps e1
   have hjs:IntKind.i64.wrap ((j:Int) - 1)=(j:Int) - 1:=IntWalk.i64_in _ (by omega)
   gi_wp2
   refine hR.mono ?_
   rintro e W3 (⟨rfl,hJ3,hk3⟩ | ⟨rfl,hJx3⟩)
   ·gi_wp2
    go_roundw
    case rel=>exact ⟨j,by omega,by go_num,⟨_,by rw [HD.out,List.reverse_cons,List.map_append,HYS.out];rfl,hJ3⟩,HK.out.trans hk3⟩
    case measure=>simp [intOf]
   ·gi_wp2
    refine bodyPost_ret (results_none rfl _ _ _) rfl ?_
    exact ⟨⟨_,rfl⟩,.inr ⟨_,trivial,hJx3⟩⟩
end
section
open Go.RowKit
set_option maxHeartbeats 4000000
attribute [local go_sem 5000] run_mx run_mn
attribute [local go_sem] Oper.semAt_some
theorem backward_in (F:Fence) (n:Nat) (hF:F.fn 234) (hro:F.round=none) (a:Option Addr) (len cap:Nat) (w:World) :
  CallsIn F n Tryz.prog 234 #[.slice a len cap] w fun e w'=>e=.returned (.func (.func 240) #[] #[.pointer (some ⟨w.heap.size,0,none⟩)])∧w'=w.alloc (.cells #[.slice a len cap] 118):=by
 refine callsIn_of_wp Tryz.func234 rfl hF ?_ hro
 simp only [Tryz.ntmps234,List.size_toArray,List.length_cons,List.length_nil,Nat.reduceAdd,Nat.reduceSub,Array.replicate_succ,Array.replicate_zero,List.push_toArray,List.append_toArray,List.nil_append,List.cons_append]
 gi_wp2
 go_ret
 exact ⟨rfl,rfl⟩
theorem bk_stops (F:Fence) (n:Nat) (hF:F.fn 240) (hro:F.round=none) (hn:1≤n) (Bs n0:Nat) (A:Option Addr) (c:Nat) (L:List Pk) (hL:L.length≤10) (hok:∀ p ∈ L,p.big) (w:World) (hBs:Bs<w.heap.size) (hn0:n0≤w.heap.size)
  (hc:w.cell? ⟨Bs,0,none⟩=some (.slice A L.length c)) (hp:PVn n0 w A L) :
  SeqStopsK F n Tryz.prog 240 #[.pointer (some ⟨Bs,0,none⟩)] encB (KpB n0 Bs) (fun ys=>ys.map BkE.p=L.reverse) (fun _=>True) L.length w:=fun l J Jx W hW _ _ hY h0 =>
 bk1_in F n hF hro hn l Bs n0 A c L hL hok J Jx hY W ((hW.cell (p:=⟨Bs,0,none⟩) hBs).trans hc) (hp.below (hW.mono hn0)) h0
def accB (d:Bool):List BkE→Int
 | []=>0
 | x :: t=>if x.p.down=d then accB d t+x.p.need d else mx (accB d t) (x.p.need d)
theorem accB_bd (d:Bool):∀ ys:List BkE,0≤accB d ys∧accB d ys≤1000000000020*ys.length
 | []=>by simp [accB]
 | x :: t=>by
  have:=accB_bd d t
  have nb:=Pk.need_bdW x.ok d
  have m:=mx_spec (accB d t) (x.p.need d)
  simp only [accB,List.length_cons]
  split <;> omega
def acc (d:Bool) (ys:List BkE):Int:=accB d ys.reverse
theorem acc_bd (d:Bool) (ys:List BkE):0≤acc d ys∧acc d ys≤1000000000020*ys.length:=by have:=accB_bd d ys.reverse;rwa [List.length_reverse] at this
theorem acc_same {d:Bool} {ys:List BkE} {x:BkE} (h:x.p.down=d):acc d (ys ++ [x])=acc d ys+x.p.need d:=by
 simp [acc,accB,h]
theorem acc_other {d:Bool} {ys:List BkE} {x:BkE} (h:¬ x.p.down=d):acc d (ys ++ [x])=mx (acc d ys) (x.p.need d):=by
 simp only [acc,List.reverse_append,List.reverse_cons,List.reverse_nil,List.nil_append,List.cons_append,accB,if_neg h]
theorem accB_req {d:Bool}:∀ {ys:List BkE} {L:List Pk},ys.map BkE.p=L→accB d ys=reqD L d
 | [],L,h=>by
  simp at h;subst h
  rw [reqD_nil];rfl
 | x :: t,L,h=>by
  simp at h
  subst h
  have ih:=accB_req (d:=d) (ys:=t) rfl
  by_cases hd:x.p.down=d
  ·rw [reqD_same hd,<- ih,accB,if_pos hd]
  ·rw [reqD_other hd,<- ih,accB,if_neg hd]
theorem acc_req {d:Bool} {ys:List BkE} {L:List Pk} (h:ys.map BkE.p=L.reverse):acc d ys=reqD L d:=by
 refine accB_req ?_
 rw [List.map_reverse,h,List.reverse_reverse]
theorem isDown_b (p:Pk) (b:Bool) (h:p.down=b) (w:World):Calls Tryz.prog 195 #[.agg #[.int .i64 p.w,.int .i64 p.h,.int .i64 p.s,.bool p.fx,.bool p.fy,.bool p.ex,.int .i64 p.an,.int .i64 p.px,.int .i64 p.py]] w fun e w'=>e=.returned (.bool b)∧Below w.heap.size w w':=by rw [<- h];exact isDown_v p w
theorem bdr {W w':World} (h:Below W.drew.heap.size W.drew w'):Below W.heap.size W w':=(Below.refl _ _).drew.trans h
theorem keepsFrom_below {B:Nat} {W W':World} (h:Below W.heap.size W W'):KeepsFrom B W W':=⟨h.size,fun k o _ hk _=>(h.block k (gE hk).1).trans hk⟩
theorem kpB_below {n0 Bs:Nat} {W W':World} (h:Below W.heap.size W W') (h0:n0≤W.heap.size) (hs:Bs<W.heap.size):KpB n0 Bs W W':=⟨h.mono h0,h.block Bs hs⟩
theorem round_end {w W w2:World} {B0:Nat} {A:Option Addr} {c:Nat} {L:List Pk} {d:Bool} {pre:List BkE} {x:BkE} {v u:Int} {T1 T2 T3:TypeId} (b2:Below W.heap.size W w2) (bS:Boxed W (w.heap.size+1) T1 (.int .i64 u)) (bD:Boxed W w.heap.size T2 (.bool d)) (bL:Boxed W (w.heap.size+1+1) T3 (.slice A L.length c)) (hB:Below w.heap.size w W) (hl:w.heap.size≤W.heap.size) (hv:acc d (pre ++ [x])=v) :
  KeepsFrom B0 W (w2.setCell ⟨w.heap.size+1,0,none⟩ (.int .i64 v))∧KpB w.heap.size (w.heap.size+1+1) W (w2.setCell ⟨w.heap.size+1,0,none⟩ (.int .i64 v)) ∧
   ((Boxed (w2.setCell ⟨w.heap.size+1,0,none⟩ (.int .i64 v)) (w.heap.size+1) T1 (.int .i64 (acc d (pre ++ [x])))∧(Boxed (w2.setCell ⟨w.heap.size+1,0,none⟩ (.int .i64 v)) w.heap.size T2 (.bool d)∧Boxed (w2.setCell ⟨w.heap.size+1,0,none⟩ (.int .i64 v)) (w.heap.size+1+1) T3 (.slice A L.length c))) ∧
    Below w.heap.size w (w2.setCell ⟨w.heap.size+1,0,none⟩ (.int .i64 v))):=by
 have cS:Boxed w2 (w.heap.size+1) T1 (.int .i64 u):=(b2.block _ bS.lt).trans bS
 have cD:Boxed w2 w.heap.size T2 (.bool d):=(b2.block _ bD.lt).trans bD
 have cL:Boxed w2 (w.heap.size+1+1) T3 (.slice A L.length c):=(b2.block _ bL.lt).trans bL
 refine ⟨(keepsFrom_below b2).trans ((KeepsOthers.setCell _ _ _).from _),(kpB_below b2 hl bL.lt).trans ⟨(Below.refl _ _).setCell (p:=⟨w.heap.size+1,0,none⟩) (by simp) _,Below.heap_setCell _ ⟨w.heap.size+1,0,none⟩ _ _ (by simp)⟩,⟨⟨by rw [hv];exact cS.set _,cD.other (by omega) _,cL.other (by omega) _⟩,(hB.trans (b2.mono hl)).setCell (p:=⟨w.heap.size+1,0,none⟩) (by simp) _⟩⟩
theorem packRequest_w (A:Option Addr) (c:Nat) (L:List Pk) (d:Bool) (w:World) (h:PV w A L) (hok:∀ p ∈ L,p.big) (h7:L.length≤10) :
  Calls Tryz.prog 231 #[.slice A L.length c,.bool d] w fun e W'=>e=.returned (.int .i64 (reqD L d))∧Below w.heap.size w W':=by
 have HOK:=Lib.hid hok
 clear hok
 refine (callsIn_wide (n:=6)).1 ?_
 refine callsIn_of_wp_marks Tryz.func231 rfl trivial ?_ rfl
 simp only [Tryz.ntmps231,List.size_toArray,List.length_cons,List.length_nil,Nat.reduceAdd,Nat.reduceSub,Array.replicate_succ,Array.replicate_zero,List.push_toArray,List.append_toArray,List.nil_append,List.cons_append]
 gi_wp2_with (refine ⟨trivial,?_⟩;gi_at_call 234;refine (backward_in Fence.wide _ trivial rfl _ _ _ _).mono ?_;rintro e w' ⟨rfl,rfl⟩)
 have bL:=Boxed.new ((w.alloc (.cells #[.bool d] 4)).alloc (.cells #[.int .i64 0] 3)) 118 (.slice A L.length c)
 have bS:=(Boxed.new (w.alloc (.cells #[.bool d] 4)) 3 (.int .i64 0)).alloc (.cells #[.slice A L.length c] 118)
 have bD:=((Boxed.new w 4 (.bool d)).alloc (.cells #[.int .i64 0] 3)).alloc (.cells #[.slice A L.length c] 118)
 simp only [World.size_alloc] at bL bS bD
 have hB0:Below w.heap.size w (((w.alloc (.cells #[.bool d] 4)).alloc (.cells #[.int .i64 0] 3)).alloc (.cells #[.slice A L.length c] 118)):=(((Below.refl _ w).alloc (Nat.le_refl _) _).alloc (by simp) _).alloc (by simp;omega) _
 have hsz:(((w.alloc (.cells #[.bool d] 4)).alloc (.cells #[.int .i64 0] 3)).alloc (.cells #[.slice A L.length c] 118)).heap.size=w.heap.size+3:=by simp
 obtain ⟨W0,hW0⟩:∃ W0,((w.alloc (.cells #[.bool d] 4)).alloc (.cells #[.int .i64 0] 3)).alloc (.cells #[.slice A L.length c] 118)=W0:=⟨_,rfl⟩
 rw [hW0] at bL bS bD hB0 hsz ⊢
 clear hW0
 have hp0:PVn w.heap.size W0 A L:=PVn.below (fun h0=>let ⟨b,off,e,hl,hp⟩:=h.cells h0;⟨b,off,e,hl,hp⟩) hB0
 refine wpIn_rangeFunc_ownH rfl (by omega) (gf:=240) (lb:=#[.pointer (some ⟨w.heap.size+1+1,0,none⟩)]) rfl trivial (enters_of Tryz.func240 (by kernel_rfl) rfl)
  (bk_stops Fence.wide _ trivial rfl (by omega) (w.heap.size+1+1) w.heap.size A c L h7 HOK.out W0 (by omega) (by omega) bL.cell hp0) KpB.trans
  (fun W l o o' hl ho hc hw=>⟨belowK_b (w:=W0) (by omega) W l o o' hl ho hc hw,World.putObj_heap_other (by omega)⟩) (Below.refl _ _) (fun _=>rfl)
  (fun pre W=>(Boxed W (w.heap.size+1) 3 (.int .i64 (acc d pre))∧(Boxed W w.heap.size 4 (.bool d)∧Boxed W (w.heap.size+1+1) 118 (.slice A L.length c)))∧Below w.heap.size w W)
  (fun _ _ _=>False)
  (OwnFrom.and (OwnFrom.and (Own.from (boxed_own _ _ _) _) (OwnFrom.and (Own.from (boxed_own _ _ _) _) (Own.from (boxed_own _ _ _) _))) (ownFrom_below (Nat.le_refl _) (by omega)))
  (fun _ _ _ _ _ hs _ _=>hs)
  ⟨⟨bS,bD,bL⟩,hB0⟩
  (fun x a' W=>∃ Bx,w.heap.size+2<Bx∧W.heap[Bx]?=some (.cells #[.int .i64 x.p.w,.int .i64 x.p.h,.int .i64 x.p.s,.bool x.p.fx,.bool x.p.fy,.bool x.p.ex,.int .i64 x.p.an,.int .i64 x.p.px,.int .i64 x.p.py] 78 (0,0))∧a'={ tmps:=#[.slice A L.length c,.bool d,undef,.pointer (some ⟨w.heap.size,0,none⟩),.int .i64 0,.pointer (some ⟨w.heap.size+1,0,none⟩),undef,.pointer (some ⟨Bx,0,none⟩),.slice A L.length c,.func (.func 240) #[] #[.pointer (some ⟨w.heap.size+1+1,0,none⟩)],.int .i64 x.i,.agg #[.int .i64 x.p.w,.int .i64 x.p.h,.int .i64 x.p.s,.bool x.p.fx,.bool x.p.fy,.bool x.p.ex,.int .i64 x.p.an,.int .i64 x.p.px,.int .i64 x.p.py],undef,undef,undef,undef,undef,undef,undef,undef,undef,undef,undef,undef,undef,undef,undef],defers:=[] })
  (fun x a' _ X Y row hs hg hr=>by
   obtain ⟨Bx,h1,h2,h3⟩:=hs
   exact ⟨Bx,h1,(hg.block Bx (gE h2).1 (fun e=>by
    obtain ⟨_,o,ho,hoc⟩:=hr Bx e.symm
    rw [h2] at ho
    obtain rfl:=Option.some.inj ho
    simp [Obj.isCells] at hoc)).trans h2,h3⟩)
  ?assign ?body ?done ?stop
 case assign =>
  rintro l pre x W K ⟨⟨bS1,bD1,bL1⟩,hB1⟩ hK
  have hlt2:=bL1.lt
  simp only [encB]
  gi_wp2
  refine hK _ _ ((KeepsOthers.alloc _ _).from _) ⟨(Below.refl _ W).alloc hB1.size _,Below.heap_alloc _ _ _ (by omega)⟩ ⟨⟨bS1.alloc _,bD1.alloc _,bL1.alloc _⟩,hB1.alloc hB1.size _⟩ ⟨W.heap.size,by omega,heap_new _ _,rfl⟩
 case body =>
  rintro l pre x a' W hl ⟨r,hr⟩ ⟨⟨bS1,bD1,bL1⟩,hB1⟩ ⟨Bx,hBx,hX,rfl⟩ hlt
  have cS:=bS1.cell
  have fS:=bS1.frozen
  have cD:=bD1.cell
  have sS:=bS1.lt
  have sD:=bD1.lt
  have sL:=bL1.lt
  have sX:Bx<W.heap.size:=(gE hX).1
  obtain ⟨a1,a2⟩:=acc_bd d pre
  have nb:=Pk.need_bdW x.ok d
  obtain ⟨c0,c1,c2,c3,c4,c5,c6,c7,c8⟩:=b9c hX
  have hmx:Tryz.prog.follows .mixedOrders=true:=by kernel_rfl
  have hn1:1≤6 - 1 - 1:=by omega
  have hl0:w.heap.size≤W.heap.size:=hB1.size
  cases d <;> cases hdn:x.p.down
  ·have hacc:=acc_same (ys:=pre) (x:=x) (d:=false) hdn
   have HA:=Lib.hid hacc
   clear hacc
   gi_wp2
   gi_region_with_o (refine ⟨trivial,?_⟩;gi_at_call 195;refine (CallsIn.inRound l (callsIn_wide.2 (isDown_b x.p false hdn _))).mono ?_;rintro e w1 ⟨rfl,hb1⟩;have b1:=bdr hb1;have kD:=(b1.cell (p:=⟨w.heap.size,0,none⟩) sD).trans cD;have kS:=(b1.cell (p:=⟨w.heap.size+1,0,none⟩) sS).trans cS;have kX:=(b1.block Bx sX).trans hX;obtain ⟨k0,k1,k2,k3,k4,k5,k6,k7,k8⟩:=b9c kX;have z1:=b1.size;have tS:=Nat.lt_of_lt_of_le sS z1;have tD:=Nat.lt_of_lt_of_le sD z1)
   all_goals
    gi_wp2
    gi_region_with_o (refine ⟨trivial,?_⟩;gi_at_call 235;refine (CallsIn.inRound l (callsIn_wide.2 (need_w x.p false _ x.ok))).mono ?_;rintro e w2 ⟨rfl,hb2⟩;have b2:=b1.trans ((bdr hb2).mono z1);have jD:=(b2.cell (p:=⟨w.heap.size,0,none⟩) sD).trans cD;have jS:=(b2.cell (p:=⟨w.heap.size+1,0,none⟩) sS).trans cS;have fS2:=(b2.frozen (p:=⟨w.heap.size+1,0,none⟩) sS).trans fS;clear kS kD k0 k1 k2 k3 k4 k5 k6 k7 k8)
    all_goals
     gi_wp2
     all_goals (try go_bits)
     all_goals exact round_end b2 bS1 bD1 bL1 hB1 hl0 HA.out
  ·have hacc:=acc_other (ys:=pre) (x:=x) (d:=false) (by simp [hdn])
   have HA:=Lib.hid hacc
   clear hacc
   gi_wp2
   gi_region_with_o (refine ⟨trivial,?_⟩;gi_at_call 195;refine (CallsIn.inRound l (callsIn_wide.2 (isDown_b x.p true hdn _))).mono ?_;rintro e w1 ⟨rfl,hb1⟩;have b1:=bdr hb1;have kD:=(b1.cell (p:=⟨w.heap.size,0,none⟩) sD).trans cD;have kS:=(b1.cell (p:=⟨w.heap.size+1,0,none⟩) sS).trans cS;have kX:=(b1.block Bx sX).trans hX;obtain ⟨k0,k1,k2,k3,k4,k5,k6,k7,k8⟩:=b9c kX;have z1:=b1.size;have tS:=Nat.lt_of_lt_of_le sS z1;have tD:=Nat.lt_of_lt_of_le sD z1)
   all_goals
    gi_wp2
    gi_region_with_o (refine ⟨trivial,?_⟩;gi_at_call 235;refine (CallsIn.inRound l (callsIn_wide.2 (need_w x.p false _ x.ok))).mono ?_;rintro e w2 ⟨rfl,hb2⟩;have b2:=b1.trans ((bdr hb2).mono z1);have jD:=(b2.cell (p:=⟨w.heap.size,0,none⟩) sD).trans cD;have jS:=(b2.cell (p:=⟨w.heap.size+1,0,none⟩) sS).trans cS;have fS2:=(b2.frozen (p:=⟨w.heap.size+1,0,none⟩) sS).trans fS;clear kS kD k0 k1 k2 k3 k4 k5 k6 k7 k8)
    all_goals
     gi_wp2
     all_goals (try go_bits)
     all_goals exact round_end b2 bS1 bD1 bL1 hB1 hl0 HA.out
  ·have hacc:=acc_other (ys:=pre) (x:=x) (d:=true) (by simp [hdn])
   have HA:=Lib.hid hacc
   clear hacc
   gi_wp2
   gi_region_with_o (refine ⟨trivial,?_⟩;gi_at_call 195;refine (CallsIn.inRound l (callsIn_wide.2 (isDown_b x.p false hdn _))).mono ?_;rintro e w1 ⟨rfl,hb1⟩;have b1:=bdr hb1;have kD:=(b1.cell (p:=⟨w.heap.size,0,none⟩) sD).trans cD;have kS:=(b1.cell (p:=⟨w.heap.size+1,0,none⟩) sS).trans cS;have kX:=(b1.block Bx sX).trans hX;obtain ⟨k0,k1,k2,k3,k4,k5,k6,k7,k8⟩:=b9c kX;have z1:=b1.size;have tS:=Nat.lt_of_lt_of_le sS z1;have tD:=Nat.lt_of_lt_of_le sD z1)
   all_goals
    gi_wp2
    gi_region_with_o (refine ⟨trivial,?_⟩;gi_at_call 235;refine (CallsIn.inRound l (callsIn_wide.2 (need_w x.p true _ x.ok))).mono ?_;rintro e w2 ⟨rfl,hb2⟩;have b2:=b1.trans ((bdr hb2).mono z1);have jD:=(b2.cell (p:=⟨w.heap.size,0,none⟩) sD).trans cD;have jS:=(b2.cell (p:=⟨w.heap.size+1,0,none⟩) sS).trans cS;have fS2:=(b2.frozen (p:=⟨w.heap.size+1,0,none⟩) sS).trans fS;clear kS kD k0 k1 k2 k3 k4 k5 k6 k7 k8)
    all_goals
     gi_wp2
     all_goals (try go_bits)
     all_goals exact round_end b2 bS1 bD1 bL1 hB1 hl0 HA.out
  ·have hacc:=acc_same (ys:=pre) (x:=x) (d:=true) hdn
   have HA:=Lib.hid hacc
   clear hacc
   gi_wp2
   gi_region_with_o (refine ⟨trivial,?_⟩;gi_at_call 195;refine (CallsIn.inRound l (callsIn_wide.2 (isDown_b x.p true hdn _))).mono ?_;rintro e w1 ⟨rfl,hb1⟩;have b1:=bdr hb1;have kD:=(b1.cell (p:=⟨w.heap.size,0,none⟩) sD).trans cD;have kS:=(b1.cell (p:=⟨w.heap.size+1,0,none⟩) sS).trans cS;have kX:=(b1.block Bx sX).trans hX;obtain ⟨k0,k1,k2,k3,k4,k5,k6,k7,k8⟩:=b9c kX;have z1:=b1.size;have tS:=Nat.lt_of_lt_of_le sS z1;have tD:=Nat.lt_of_lt_of_le sD z1)
   all_goals
    gi_wp2
    gi_region_with_o (refine ⟨trivial,?_⟩;gi_at_call 235;refine (CallsIn.inRound l (callsIn_wide.2 (need_w x.p true _ x.ok))).mono ?_;rintro e w2 ⟨rfl,hb2⟩;have b2:=b1.trans ((bdr hb2).mono z1);have jD:=(b2.cell (p:=⟨w.heap.size,0,none⟩) sD).trans cD;have jS:=(b2.cell (p:=⟨w.heap.size+1,0,none⟩) sS).trans cS;have fS2:=(b2.frozen (p:=⟨w.heap.size+1,0,none⟩) sS).trans fS;clear kS kD k0 k1 k2 k3 k4 k5 k6 k7 k8)
    all_goals
     gi_wp2
     all_goals (try go_bits)
     all_goals exact round_end b2 bS1 bD1 bL1 hB1 hl0 HA.out
 case done =>
  rintro D ys W hD hys ⟨⟨bS1,bD1,bL1⟩,hB1⟩ hK
  have cS:=bS1.cell
  rw [acc_req hys] at cS
  gi_wp2
  refine ⟨by simp,.inl ⟨_,_,rfl,run_takeDeferred hK,?_⟩⟩
  exact ⟨_,results_tmp rfl _ _ _,rfl,hB1.trans (belowK_b (w:=w) (Nat.le_refl _) W D _ _ (by omega) hK rfl rfl)⟩
 case stop =>
  rintro D c pre W _ _ h _
  exact h.elim
end
section
open Go.RowKit
set_option maxHeartbeats 1000000
attribute [local go_sem 5000] run_mx run_mn
end
section
open Go.RowKit
set_option maxHeartbeats 1000000
attribute [local go_sem 5000] run_mx run_mn
theorem upright_p (p:Pk) (w:World):Calls Tryz.prog 141 #[.int .i64 p.s] w fun e w'=>e=.returned (.bool p.down)∧w=w':=upright_v p.s w
end
section
open Go.RowKit
set_option maxHeartbeats 1000000
attribute [local go_sem 5000] run_mx run_mn
def esB (L:List Pk) (room:Int) (d:Bool):Bool:=vpsB L && (match L with
 | []=>false
 | p :: _=>rng room 0 400 && (p.ex && (p.down == d)))
theorem first_cells {w:World} {A:Option Addr} {L:List Pk} {p:Pk} {r:List Pk} (h:PV w A L) (e:L=p :: r):∃ b off,A=some ⟨b,off,none⟩∧b<w.heap.size∧Cells9 w b off p:=by
 subst e
 obtain ⟨b,off,e,hb,hp⟩:=h.cells (by simp)
 have:=hp 0 p rfl
 exact ⟨b,off,e,hb,by simpa using this⟩
end
section
open Go.RowKit
set_option maxHeartbeats 1000000
attribute [local go_sem 5000] run_mx run_mn
theorem request_w (A:Option Addr) (c:Nat) (L:List Pk) (w:World) (h:PV w A L) (hok:∀ p ∈ L,p.big) (h7:L.length≤10) :
  Calls Tryz.prog 95 #[.slice A L.length c] w fun e w'=>e=.returned (.tuple #[.int .i64 (reqM L).1,.int .i64 (reqM L).2])∧Below w.heap.size w w':=by
 have HOK:=hD hok
 clear hok
 go_enter Tryz.func95,Tryz.ntmps95
 go_wp2_with fail
 go_loopw [4,5,6] (fun a b i wr=>∃ k:Nat,k≤L.length∧i=.int .i64 ((k:Int) - 1)∧a=.int .i64 (reqM (L.drop k)).1∧b=.int .i64 (reqM (L.drop k)).2∧Below w.heap.size w wr) (fun _ _ i _=>(intOf i+1).toNat)
 case atStart=>exact ⟨L.length,Nat.le_refl _,rfl,by rw [List.drop_length];rfl,by rw [List.drop_length];rfl,Below.refl _ _⟩
 case round =>
  obtain ⟨k,hk,rfl,rfl,rfl,hB⟩:=hrel
  rcases k with _ | j
  ·have hd:decide (((0:Nat):Int) - 1 ≥ 0)=false:=by simp
   have HBB:=hD hB
   clear hB
   rw [List.drop_zero]
   go_wp2
   exact bodyPost_ret (v:=.tuple #[.int .i64 (reqM L).1,.int .i64 (reqM L).2]) (by simp only [results,Tryz.results95];go_simp) rfl ⟨rfl,HBB.out⟩
  ·have e1:((j+1:Nat):Int) - 1=(j:Int):=by omega
   rw [e1]
   have hlt:j<L.length:=by omega
   have hd:decide ((j:Int) ≥ 0)=true:=by simp
   have hd2:decide ((0:Int)≤(j:Int))=true:=by simp
   obtain ⟨b,off,rfl,hb,hps⟩:=(h.keep hB).cells (by omega)
   have hget:L[j]?=some L[j]:=List.getElem?_eq_getElem hlt
   obtain ⟨c0,c1,c2,c3,c4,c5,c6,c7,c8⟩:=hps j _ hget
   generalize hx:L[j]=p at *
   have hpk:p.big:=HOK.out p (List.mem_of_getElem? hget)
   have hdrop:=drop_cons hget
   obtain ⟨q1,q2,q3,q4⟩:=reqM_bdW (L:=L.drop (j+1)) (fun q hq=>HOK.out q (List.mem_of_mem_drop hq))
   rw [List.length_drop] at q2 q4
   have n1:=Pk.need_bdW hpk false
   have n2:=Pk.need_bdW hpk true
   obtain ⟨U,hU⟩:∃ U,(reqM (L.drop (j+1))).1=U:=⟨_,rfl⟩
   obtain ⟨V,hV⟩:∃ V,(reqM (L.drop (j+1))).2=V:=⟨_,rfl⟩
   rw [hU] at q1 q2
   rw [hV] at q3 q4
   rw [hU,hV]
   have HU:=hD hU
   have HV:=hD hV
   have HD:=hD hdrop
   have HPS:=hD hps
   have HG:=hD hget
   have HBB:=hD hB
   clear hU hV hdrop hx hps hget hB e1
   go_wp2_with fail
   refine (outer_w p _ hpk).mono ?_
   rintro e w1 ⟨rfl,hb1⟩
   have hc9:=(HPS.out j p HG.out).keep (hb1.block b hb)
   obtain ⟨d0,d1,d2,d3,d4,d5,d6,d7,d8⟩:=hc9
   replace HBB:=hD (HBB.out.trans (hb1.mono HBB.out.size))
   clear hb1 c0 c1 c2 c3 c4 c5 c6 c7 c8
   have hjs:IntKind.i64.wrap ((j:Int) - 1)=(j:Int) - 1:=IntWalk.i64_in _ (by omega)
   cases hdn:p.down
   ·go_wp2_with fail
    refine (upright_p p _).mono ?_
    rintro e w2 ⟨rfl,rfl⟩
    rw [hdn]
    go_wp2
    go_roundw
    case rel=>exact ⟨j,by omega,by go_num,by rw [HD.out];simp [reqM,hdn,HU.out,HV.out],by rw [HD.out];simp [reqM,hdn,HU.out,HV.out],HBB.out⟩
    case measure=>simp [intOf]
   ·go_wp2_with fail
    refine (upright_p p _).mono ?_
    rintro e w2 ⟨rfl,rfl⟩
    rw [hdn]
    go_wp2
    go_roundw
    case rel=>exact ⟨j,by omega,by go_num,by rw [HD.out];simp [reqM,hdn,HU.out,HV.out],by rw [HD.out];simp [reqM,hdn,HU.out,HV.out],HBB.out⟩
    case measure=>simp [intOf]
end
section
open Go.RowKit
set_option maxHeartbeats 1000000
attribute [local go_sem] growUpon_value growUpon_skip growUpon_enter
def cellB (n m:Int) (c:Ce):Bool:=runB c.co c.mc n && (runB c.ro c.mr m && (rng c.cw 0 30 && (rng c.ch 0 30 && (rng c.sk 0 15 && (rng c.px 0 10 && rng c.py 0 10)))))
def gridB (L1 L2:List Ln) (L3:List Ce):Bool:=linesB L1 && (linesB L2 && (decide ((L3.length:Int)≤8) && L3.all (cellB L1.length L2.length)))
theorem validCell_v (c:Ce) (n m:Int) (b:Bool) (w:World) (hn:1≤n) (hn5:n≤5) (hm:1≤m) (hm5:m≤5) (hb:cellB n m c=b):Calls Tryz.prog 124 #[.agg #[.int .i64 c.co,.int .i64 c.ro,.int .i64 c.mc,.int .i64 c.mr,.int .i64 c.cw,.int .i64 c.ch,.int .i64 c.sk,.int .i64 c.px,.int .i64 c.py],.int .i64 n,.int .i64 m] w fun e w'=>e=.returned (.bool b)∧Below w.heap.size w w':=by
 cases h1:runB c.co c.mc n
 ·have hbf:false=b:=by rw [<- hb];simp [cellB,h1]
  subst hbf
  go_enter Tryz.func124,Tryz.ntmps124
  go_wp2_with fail
  with_reducible refine (validRun_v _ _ n false _ hn hn5 h1).mono ?_
  rintro e w1 ⟨rfl,rfl⟩
  go_wp2
  go_ret
  exact ⟨rfl,(by repeat (first | with_reducible exact Below.refl _ _ | with_reducible assumption | with_reducible refine balloc ?_ | (with_reducible refine bset ?_ ?_;rotate_left;((try dsimp only);omega)) | refine bkeep2 ?_ (by assumption) | with_reducible refine Below.drew ?_))⟩
 cases h2:runB c.ro c.mr m
 ·have hbf:false=b:=by rw [<- hb];simp [cellB,h2]
  subst hbf
  go_enter Tryz.func124,Tryz.ntmps124
  go_wp2_with fail
  with_reducible refine (validRun_v _ _ n true _ hn hn5 h1).mono ?_
  rintro e w1 ⟨rfl,rfl⟩
  go_wp2_with fail
  with_reducible refine (validRun_v _ _ m false _ hm hm5 h2).mono ?_
  rintro e w1 ⟨rfl,rfl⟩
  go_wp2
  go_ret
  exact ⟨rfl,(by repeat (first | with_reducible exact Below.refl _ _ | with_reducible assumption | with_reducible refine balloc ?_ | (with_reducible refine bset ?_ ?_;rotate_left;((try dsimp only);omega)) | refine bkeep2 ?_ (by assumption) | with_reducible refine Below.drew ?_))⟩
 cases h3:(rng c.cw 0 30 && rng c.ch 0 30)
 ·have hbf:false=b:=by rw [<- hb];cases u:rng c.cw 0 30 <;> cases v:rng c.ch 0 30 <;> simp [cellB,u,v] at h3 ⊢
  subst hbf
  go_enter Tryz.func124,Tryz.ntmps124
  go_wp2_with fail
  with_reducible refine (validRun_v _ _ n true _ hn hn5 h1).mono ?_
  rintro e w1 ⟨rfl,rfl⟩
  go_wp2_with fail
  with_reducible refine (validRun_v _ _ m true _ hm hm5 h2).mono ?_
  rintro e w1 ⟨rfl,rfl⟩
  go_wp2_with fail
  with_reducible refine (validWish_w _ _ false _ h3).mono ?_
  rintro e w1 ⟨rfl,rfl⟩
  go_wp2
  go_ret
  exact ⟨rfl,(by repeat (first | with_reducible exact Below.refl _ _ | with_reducible assumption | with_reducible refine balloc ?_ | (with_reducible refine bset ?_ ?_;rotate_left;((try dsimp only);omega)) | refine bkeep2 ?_ (by assumption) | with_reducible refine Below.drew ?_))⟩
 obtain ⟨h3a,h3b⟩:rng c.cw 0 30=true∧rng c.ch 0 30=true:=by simpa using h3
 cases h4:rng c.sk 0 15
 ·have hbf:false=b:=by rw [<- hb];simp [cellB,h4,h3a,h3b]
  subst hbf
  go_enter Tryz.func124,Tryz.ntmps124
  go_wp2_with fail
  with_reducible refine (validRun_v _ _ n true _ hn hn5 h1).mono ?_
  rintro e w1 ⟨rfl,rfl⟩
  go_wp2_with fail
  with_reducible refine (validRun_v _ _ m true _ hm hm5 h2).mono ?_
  rintro e w1 ⟨rfl,rfl⟩
  go_wp2_with fail
  with_reducible refine (validWish_w _ _ true _ h3).mono ?_
  rintro e w1 ⟨rfl,rfl⟩
  go_wp2_with fail
  with_reducible refine (within_w _ 0 15 false _ h4).mono ?_
  rintro e w1 ⟨rfl,rfl⟩
  go_wp2
  go_ret
  exact ⟨rfl,(by repeat (first | with_reducible exact Below.refl _ _ | with_reducible assumption | with_reducible refine balloc ?_ | (with_reducible refine bset ?_ ?_;rotate_left;((try dsimp only);omega)) | refine bkeep2 ?_ (by assumption) | with_reducible refine Below.drew ?_))⟩
 cases h5:rng c.px 0 10
 ·have hbf:false=b:=by rw [<- hb];simp [cellB,h5,h3a,h3b]
  subst hbf
  go_enter Tryz.func124,Tryz.ntmps124
  go_wp2_with fail
  with_reducible refine (validRun_v _ _ n true _ hn hn5 h1).mono ?_
  rintro e w1 ⟨rfl,rfl⟩
  go_wp2_with fail
  with_reducible refine (validRun_v _ _ m true _ hm hm5 h2).mono ?_
  rintro e w1 ⟨rfl,rfl⟩
  go_wp2_with fail
  with_reducible refine (validWish_w _ _ true _ h3).mono ?_
  rintro e w1 ⟨rfl,rfl⟩
  go_wp2_with fail
  with_reducible refine (within_w _ 0 15 true _ h4).mono ?_
  rintro e w1 ⟨rfl,rfl⟩
  go_wp2_with fail
  with_reducible refine (within_w _ 0 10 false _ h5).mono ?_
  rintro e w1 ⟨rfl,rfl⟩
  go_wp2
  go_ret
  exact ⟨rfl,(by repeat (first | with_reducible exact Below.refl _ _ | with_reducible assumption | with_reducible refine balloc ?_ | (with_reducible refine bset ?_ ?_;rotate_left;((try dsimp only);omega)) | refine bkeep2 ?_ (by assumption) | with_reducible refine Below.drew ?_))⟩
 have h6:rng c.py 0 10=b:=by rw [<- hb];simp [cellB,h1,h2,h4,h5,h3a,h3b]
 cases b
 all_goals
  go_enter Tryz.func124,Tryz.ntmps124
  go_wp2_with fail
  with_reducible refine (validRun_v _ _ n true _ hn hn5 h1).mono ?_
  rintro e w1 ⟨rfl,rfl⟩
  go_wp2_with fail
  with_reducible refine (validRun_v _ _ m true _ hm hm5 h2).mono ?_
  rintro e w1 ⟨rfl,rfl⟩
  go_wp2_with fail
  with_reducible refine (validWish_w _ _ true _ h3).mono ?_
  rintro e w1 ⟨rfl,rfl⟩
  go_wp2_with fail
  with_reducible refine (within_w _ 0 15 true _ h4).mono ?_
  rintro e w1 ⟨rfl,rfl⟩
  go_wp2_with fail
  with_reducible refine (within_w _ 0 10 true _ h5).mono ?_
  rintro e w1 ⟨rfl,rfl⟩
  go_wp2_with fail
  with_reducible refine (within_w _ 0 10 _ _ h6).mono ?_
  rintro e w1 ⟨rfl,rfl⟩
  go_wp2
  go_ret
  exact ⟨rfl,(by repeat (first | with_reducible exact Below.refl _ _ | with_reducible assumption | with_reducible refine balloc ?_ | (with_reducible refine bset ?_ ?_;rotate_left;((try dsimp only);omega)) | refine bkeep2 ?_ (by assumption) | with_reducible refine Below.drew ?_))⟩
theorem linesB_len' {L:List Ln} (h:linesB L=true):1≤L.length∧L.length≤5:=by
 simp only [linesB,Bool.and_eq_true,rng_iff] at h
 omega
theorem svalidCell_v (c:Ce) (n1 n2 n3 c1 c2 c3:Nat) (A1 A2 A3:Option Addr) (b:Bool) (w:World) (hn:n1≤1048576) (hm:n2≤1048576) (hb:cellB n1 n2 c=b):Calls Tryz.prog 113 #[.agg #[.slice A1 n1 c1,.slice A2 n2 c2,.slice A3 n3 c3],.agg #[.int .i64 c.co,.int .i64 c.ro,.int .i64 c.mc,.int .i64 c.mr,.int .i64 c.cw,.int .i64 c.ch,.int .i64 c.sk,.int .i64 c.px,.int .i64 c.py]] w fun e w'=>e=.returned (.bool b)∧Below w.heap.size w w':=by
 cases h1:rng c.co 0 ((n1:Int) - 1)
 ·have hbf:false=b:=by rw [<- hb];simp [cellB,runB,h1]
  subst hbf
  go_enter Tryz.func113,Tryz.ntmps113
  go_wp2_with fail
  with_reducible refine (inRange_w _ 0 ((n1:Int) - 1) false _ h1).mono ?_
  rintro e w1 ⟨rfl,rfl⟩
  go_wp2
  go_ret
  exact ⟨rfl,(by repeat (first | with_reducible exact Below.refl _ _ | with_reducible assumption | with_reducible refine balloc ?_ | (with_reducible refine bset ?_ ?_;rotate_left;((try dsimp only);omega)) | refine bkeep2 ?_ (by assumption) | with_reducible refine Below.drew ?_))⟩
 have ha1:=rng_iff.1 h1
 cases h2:rng c.ro 0 ((n2:Int) - 1)
 ·have hbf:false=b:=by rw [<- hb];simp [cellB,runB,h2]
  subst hbf
  go_enter Tryz.func113,Tryz.ntmps113
  go_wp2_with fail
  with_reducible refine (inRange_w _ 0 ((n1:Int) - 1) true _ h1).mono ?_
  rintro e w1 ⟨rfl,rfl⟩
  go_wp2_with fail
  with_reducible refine (inRange_w _ 0 ((n2:Int) - 1) false _ h2).mono ?_
  rintro e w1 ⟨rfl,rfl⟩
  go_wp2
  go_ret
  exact ⟨rfl,(by repeat (first | with_reducible exact Below.refl _ _ | with_reducible assumption | with_reducible refine balloc ?_ | (with_reducible refine bset ?_ ?_;rotate_left;((try dsimp only);omega)) | refine bkeep2 ?_ (by assumption) | with_reducible refine Below.drew ?_))⟩
 have ha2:=rng_iff.1 h2
 cases h3:rng c.mc 1 ((n1:Int) - c.co)
 ·have hbf:false=b:=by rw [<- hb];simp [cellB,runB,h3]
  subst hbf
  go_enter Tryz.func113,Tryz.ntmps113
  go_wp2_with fail
  with_reducible refine (inRange_w _ 0 ((n1:Int) - 1) true _ h1).mono ?_
  rintro e w1 ⟨rfl,rfl⟩
  go_wp2_with fail
  with_reducible refine (inRange_w _ 0 ((n2:Int) - 1) true _ h2).mono ?_
  rintro e w1 ⟨rfl,rfl⟩
  go_wp2_with fail
  with_reducible refine (inRange_w _ 1 ((n1:Int) - c.co) false _ h3).mono ?_
  rintro e w1 ⟨rfl,rfl⟩
  go_wp2
  go_ret
  exact ⟨rfl,(by repeat (first | with_reducible exact Below.refl _ _ | with_reducible assumption | with_reducible refine balloc ?_ | (with_reducible refine bset ?_ ?_;rotate_left;((try dsimp only);omega)) | refine bkeep2 ?_ (by assumption) | with_reducible refine Below.drew ?_))⟩
 cases h4:rng c.mr 1 ((n2:Int) - c.ro)
 ·have hbf:false=b:=by rw [<- hb];simp [cellB,runB,h4]
  subst hbf
  go_enter Tryz.func113,Tryz.ntmps113
  go_wp2_with fail
  with_reducible refine (inRange_w _ 0 ((n1:Int) - 1) true _ h1).mono ?_
  rintro e w1 ⟨rfl,rfl⟩
  go_wp2_with fail
  with_reducible refine (inRange_w _ 0 ((n2:Int) - 1) true _ h2).mono ?_
  rintro e w1 ⟨rfl,rfl⟩
  go_wp2_with fail
  with_reducible refine (inRange_w _ 1 ((n1:Int) - c.co) true _ h3).mono ?_
  rintro e w1 ⟨rfl,rfl⟩
  go_wp2_with fail
  with_reducible refine (inRange_w _ 1 ((n2:Int) - c.ro) false _ h4).mono ?_
  rintro e w1 ⟨rfl,rfl⟩
  go_wp2
  go_ret
  exact ⟨rfl,(by repeat (first | with_reducible exact Below.refl _ _ | with_reducible assumption | with_reducible refine balloc ?_ | (with_reducible refine bset ?_ ?_;rotate_left;((try dsimp only);omega)) | refine bkeep2 ?_ (by assumption) | with_reducible refine Below.drew ?_))⟩
 cases h5:rng c.cw 0 30
 ·have hbf:false=b:=by rw [<- hb];simp [cellB,runB,h5]
  subst hbf
  go_enter Tryz.func113,Tryz.ntmps113
  go_wp2_with fail
  with_reducible refine (inRange_w _ 0 ((n1:Int) - 1) true _ h1).mono ?_
  rintro e w1 ⟨rfl,rfl⟩
  go_wp2_with fail
  with_reducible refine (inRange_w _ 0 ((n2:Int) - 1) true _ h2).mono ?_
  rintro e w1 ⟨rfl,rfl⟩
  go_wp2_with fail
  with_reducible refine (inRange_w _ 1 ((n1:Int) - c.co) true _ h3).mono ?_
  rintro e w1 ⟨rfl,rfl⟩
  go_wp2_with fail
  with_reducible refine (inRange_w _ 1 ((n2:Int) - c.ro) true _ h4).mono ?_
  rintro e w1 ⟨rfl,rfl⟩
  go_wp2_with fail
  with_reducible refine (inRange_w _ 0 30 false _ h5).mono ?_
  rintro e w1 ⟨rfl,rfl⟩
  go_wp2
  go_ret
  exact ⟨rfl,(by repeat (first | with_reducible exact Below.refl _ _ | with_reducible assumption | with_reducible refine balloc ?_ | (with_reducible refine bset ?_ ?_;rotate_left;((try dsimp only);omega)) | refine bkeep2 ?_ (by assumption) | with_reducible refine Below.drew ?_))⟩
 cases h6:rng c.ch 0 30
 ·have hbf:false=b:=by rw [<- hb];simp [cellB,runB,h6]
  subst hbf
  go_enter Tryz.func113,Tryz.ntmps113
  go_wp2_with fail
  with_reducible refine (inRange_w _ 0 ((n1:Int) - 1) true _ h1).mono ?_
  rintro e w1 ⟨rfl,rfl⟩
  go_wp2_with fail
  with_reducible refine (inRange_w _ 0 ((n2:Int) - 1) true _ h2).mono ?_
  rintro e w1 ⟨rfl,rfl⟩
  go_wp2_with fail
  with_reducible refine (inRange_w _ 1 ((n1:Int) - c.co) true _ h3).mono ?_
  rintro e w1 ⟨rfl,rfl⟩
  go_wp2_with fail
  with_reducible refine (inRange_w _ 1 ((n2:Int) - c.ro) true _ h4).mono ?_
  rintro e w1 ⟨rfl,rfl⟩
  go_wp2_with fail
  with_reducible refine (inRange_w _ 0 30 true _ h5).mono ?_
  rintro e w1 ⟨rfl,rfl⟩
  go_wp2_with fail
  with_reducible refine (inRange_w _ 0 30 false _ h6).mono ?_
  rintro e w1 ⟨rfl,rfl⟩
  go_wp2
  go_ret
  exact ⟨rfl,(by repeat (first | with_reducible exact Below.refl _ _ | with_reducible assumption | with_reducible refine balloc ?_ | (with_reducible refine bset ?_ ?_;rotate_left;((try dsimp only);omega)) | refine bkeep2 ?_ (by assumption) | with_reducible refine Below.drew ?_))⟩
 cases h7:rng c.sk 0 15
 ·have hbf:false=b:=by rw [<- hb];simp [cellB,runB,h7]
  subst hbf
  go_enter Tryz.func113,Tryz.ntmps113
  go_wp2_with fail
  with_reducible refine (inRange_w _ 0 ((n1:Int) - 1) true _ h1).mono ?_
  rintro e w1 ⟨rfl,rfl⟩
  go_wp2_with fail
  with_reducible refine (inRange_w _ 0 ((n2:Int) - 1) true _ h2).mono ?_
  rintro e w1 ⟨rfl,rfl⟩
  go_wp2_with fail
  with_reducible refine (inRange_w _ 1 ((n1:Int) - c.co) true _ h3).mono ?_
  rintro e w1 ⟨rfl,rfl⟩
  go_wp2_with fail
  with_reducible refine (inRange_w _ 1 ((n2:Int) - c.ro) true _ h4).mono ?_
  rintro e w1 ⟨rfl,rfl⟩
  go_wp2_with fail
  with_reducible refine (inRange_w _ 0 30 true _ h5).mono ?_
  rintro e w1 ⟨rfl,rfl⟩
  go_wp2_with fail
  with_reducible refine (inRange_w _ 0 30 true _ h6).mono ?_
  rintro e w1 ⟨rfl,rfl⟩
  go_wp2_with fail
  with_reducible refine (inRange_w _ 0 15 false _ h7).mono ?_
  rintro e w1 ⟨rfl,rfl⟩
  go_wp2
  go_ret
  exact ⟨rfl,(by repeat (first | with_reducible exact Below.refl _ _ | with_reducible assumption | with_reducible refine balloc ?_ | (with_reducible refine bset ?_ ?_;rotate_left;((try dsimp only);omega)) | refine bkeep2 ?_ (by assumption) | with_reducible refine Below.drew ?_))⟩
 cases h8:rng c.px 0 10
 ·have hbf:false=b:=by rw [<- hb];simp [cellB,runB,h8]
  subst hbf
  go_enter Tryz.func113,Tryz.ntmps113
  go_wp2_with fail
  with_reducible refine (inRange_w _ 0 ((n1:Int) - 1) true _ h1).mono ?_
  rintro e w1 ⟨rfl,rfl⟩
  go_wp2_with fail
  with_reducible refine (inRange_w _ 0 ((n2:Int) - 1) true _ h2).mono ?_
  rintro e w1 ⟨rfl,rfl⟩
  go_wp2_with fail
  with_reducible refine (inRange_w _ 1 ((n1:Int) - c.co) true _ h3).mono ?_
  rintro e w1 ⟨rfl,rfl⟩
  go_wp2_with fail
  with_reducible refine (inRange_w _ 1 ((n2:Int) - c.ro) true _ h4).mono ?_
  rintro e w1 ⟨rfl,rfl⟩
  go_wp2_with fail
  with_reducible refine (inRange_w _ 0 30 true _ h5).mono ?_
  rintro e w1 ⟨rfl,rfl⟩
  go_wp2_with fail
  with_reducible refine (inRange_w _ 0 30 true _ h6).mono ?_
  rintro e w1 ⟨rfl,rfl⟩
  go_wp2_with fail
  with_reducible refine (inRange_w _ 0 15 true _ h7).mono ?_
  rintro e w1 ⟨rfl,rfl⟩
  go_wp2_with fail
  with_reducible refine (inRange_w _ 0 10 false _ h8).mono ?_
  rintro e w1 ⟨rfl,rfl⟩
  go_wp2
  go_ret
  exact ⟨rfl,(by repeat (first | with_reducible exact Below.refl _ _ | with_reducible assumption | with_reducible refine balloc ?_ | (with_reducible refine bset ?_ ?_;rotate_left;((try dsimp only);omega)) | refine bkeep2 ?_ (by assumption) | with_reducible refine Below.drew ?_))⟩
 have h9:rng c.py 0 10=b:=by rw [<- hb];simp [cellB,runB,h1,h2,h3,h4,h5,h6,h7,h8]
 cases b
 all_goals
  go_enter Tryz.func113,Tryz.ntmps113
  go_wp2_with fail
  with_reducible refine (inRange_w _ 0 ((n1:Int) - 1) true _ h1).mono ?_
  rintro e w1 ⟨rfl,rfl⟩
  go_wp2_with fail
  with_reducible refine (inRange_w _ 0 ((n2:Int) - 1) true _ h2).mono ?_
  rintro e w1 ⟨rfl,rfl⟩
  go_wp2_with fail
  with_reducible refine (inRange_w _ 1 ((n1:Int) - c.co) true _ h3).mono ?_
  rintro e w1 ⟨rfl,rfl⟩
  go_wp2_with fail
  with_reducible refine (inRange_w _ 1 ((n2:Int) - c.ro) true _ h4).mono ?_
  rintro e w1 ⟨rfl,rfl⟩
  go_wp2_with fail
  with_reducible refine (inRange_w _ 0 30 true _ h5).mono ?_
  rintro e w1 ⟨rfl,rfl⟩
  go_wp2_with fail
  with_reducible refine (inRange_w _ 0 30 true _ h6).mono ?_
  rintro e w1 ⟨rfl,rfl⟩
  go_wp2_with fail
  with_reducible refine (inRange_w _ 0 15 true _ h7).mono ?_
  rintro e w1 ⟨rfl,rfl⟩
  go_wp2_with fail
  with_reducible refine (inRange_w _ 0 10 true _ h8).mono ?_
  rintro e w1 ⟨rfl,rfl⟩
  go_wp2_with fail
  with_reducible refine (inRange_w _ 0 10 _ _ h9).mono ?_
  rintro e w1 ⟨rfl,rfl⟩
  go_wp2
  go_ret
  exact ⟨rfl,(by repeat (first | with_reducible exact Below.refl _ _ | with_reducible assumption | with_reducible refine balloc ?_ | (with_reducible refine bset ?_ ?_;rotate_left;((try dsimp only);omega)) | refine bkeep2 ?_ (by assumption) | with_reducible refine Below.drew ?_))⟩
end
end Go.Proofs.YtenckjdiggaonaaGreat
