import Derived.Test.YtenckjdiggaonaaGreatQu20
import Derived.IntWalk
set_option linter.unusedVariables false
set_option linter.unusedSimpArgs false
set_option maxRecDepth 100000
set_option maxHeartbeats 16000000
namespace Go.Proofs.YtenckjdiggaonaaGreat
open Go.RowKit
attribute [local go_sem] growUpon_value growUpon_skip growUpon_enter
section
theorem takZ_at:∀ {L:List Ln} {O P:List Int} {i:Nat} {l:Ln} {o p:Int},L[i]?=some l→O[i]?=some o→P[i]?=some p→(takZ L O P)[i]?=some (o - mn p (o - l.mi))
 | l' :: L,o' :: O,p' :: P,0,l,o,p,hl,ho,hp=>by
  simp only [List.getElem?_cons_zero,Option.some.injEq] at hl ho hp;subst hl ho hp
  simp [takZ]
 | l' :: L,o' :: O,p' :: P,i+1,l,o,p,hl,ho,hp=>by
  simp only [List.getElem?_cons_succ] at hl ho hp;simp only [takZ,List.getElem?_cons_succ];exact takZ_at hl ho hp
 | [],_,_,i,l,o,p,hl,_,_=>by simp at hl
 | _ :: _,[],_,i,l,o,p,_,ho,_=>by simp at ho
 | _ :: _,_ :: _,[],i,l,o,p,_,_,hp=>by simp at hp
theorem takZ_sum:∀ (L:List Ln) (O P:List Int),sumI (takZ L O P)=sumI O - tknZ L O P
 | l :: L,o :: O,p :: P=>by simp only [takZ,tknZ,sumI,takZ_sum L O P];omega
 | [],O,P=>by simp [takZ,tknZ]
 | l :: L,[],P=>by simp [takZ,tknZ]
 | l :: L,o :: O,[]=>by simp [takZ,tknZ]
theorem shr_all {L:List Ln} (hL:linesB L=true):∀ (f:Nat) (n:Int) (O:List Int),n.toNat≤f→0≤n→SOK L O →
  SOK L (shrZ L n O)∧(∀ (i:Nat) (l:Ln) (o r:Int),L[i]?=some l→O[i]?=some o→(shrZ L n O)[i]?=some r→r≤o∧(l.wt=0→r=o))∧sumI (shrZ L n O)≤sumI O∧sumI O - n≤sumI (shrZ L n O)∧(sumI (shrZ L n O)=sumI O - n ∨ sumI (wtZ L (shrZ L n O))=0)
 | 0,n,O,hf,hn,h=>by
  obtain rfl:n=0:=by omega
  rw [shr_end (.inl (by omega))];exact ⟨h,fun i l o r _ h1 h2=>by rw [h1] at h2;obtain rfl:=Option.some.inj h2;exact ⟨Int.le_refl _,fun _=>rfl⟩,Int.le_refl _,by omega,.inl (by omega)⟩
 | f+1,n,O,hf,hn,h=>by
  by_cases h0:0<n∧sumI (wtZ L O) ≠ 0
  ·obtain ⟨hp0,hs⟩:=h0;obtain ⟨hp,ht0,htn,hk⟩:=round_ok hL h hp0 hs;rw [shr_go hL h hp0 hs];have hw:=wtZ_ok hL h
   have hs0:0<sumI (wtZ L O):=by have:=hw.sum;omega
   have hsum:=takZ_sum L O (spreadM n (wtZ L O));obtain ⟨a1,a2,a3,a4,a5⟩:=shr_all hL f (n - tknZ L O (spreadM n (wtZ L O))) (takZ L O (spreadM n (wtZ L O))) (by omega) (by omega) hk;refine ⟨a1,fun i l o r h1 h2 h3=>?_,by omega,by omega,?_⟩
   ·obtain ⟨y,e1,y0,y1,e2⟩:=spread_get (n:=n) (by omega) hw (wtZ_get h1 h2)
    have:=takZ_at h1 h2 e1
    have hr:=a2 i l _ r h1 this h3;have hmi:=(h.get h1 h2).1;have hm:=mn_spec y (o - l.mi);refine ⟨by omega,fun hw0=>?_⟩;have h4:=(e2 hs0).1 (by rw [hw0];simp)
    have:=hr.2 hw0
    subst h4;omega
   ·rcases a5 with a5 | a5
    ·exact .inl (by omega)
    ·exact .inr a5
  ·have he:shrZ L n O=O:=shr_end (by omega);rw [he];refine ⟨h,fun i l o r _ h1 h2=>by rw [h1] at h2;obtain rfl:=Option.some.inj h2;exact ⟨Int.le_refl _,fun _=>rfl⟩,Int.le_refl _,by omega,?_⟩
   by_cases hp0:0<n
   ·exact .inr (by omega)
   ·exact .inl (by omega)
theorem linesB_get {L:List Ln} (hL:linesB L=true) {l:Ln} (hl:l ∈ L):(0≤l.wt∧l.wt≤5)∧(0≤l.mi∧l.mi≤30):=by
 obtain ⟨h1,h2⟩:=min_bd hL;refine ⟨h2.1 _ (List.mem_map_of_mem hl),?_⟩;simp only [linesB,Bool.and_eq_true,List.all_eq_true] at hL
 have:=hL.2 l hl
 simp only [lineB,Bool.and_eq_true,rng_iff] at this;exact this.2
theorem sized_okW {L:List Ln} {S:List Sp} {room:Int} (hL:linesB L=true) (hS:spansW L.length S) (hr0:0≤room) (hr1:room≤20000000000000) :
  SOK L (sizedM L S room)∧(sizedM L S room).length=L.length∧(∀ x ∈ sizedM L S room,0≤x∧x≤100000000000000)∧(sumI (sizedM L S room)≤room ∨ sumI (sizedM L S room)≤sumI (wishM L S)):=by
 obtain ⟨k1,k2,k3,k4,k5⟩:=wish_okW hL hS
 have key:SOK L (sizedM L S room)∧(sumI (sizedM L S room)≤room ∨ sumI (sizedM L S room)≤sumI (wishM L S)):=by
  unfold sizedM
  split
  ·obtain ⟨a1,a2,a3,a4,a5⟩:=shr_all hL _ (-(room - sumI (wishM L S))) (wishM L S) (Nat.le_refl _) (by omega) k1;exact ⟨a1,.inr a3⟩
  ·split
   ·exact ⟨k1,.inr (Int.le_refl _)⟩
   ·obtain ⟨hO,hW⟩:=min_bd hL
    have hn:0≤room - sumI (wishM L S):=by omega
    have hsum:=spread_sum hn hW;have hnn:=spread_nn hn hW
    have hlen:(spreadM (room - sumI (wishM L S)) (L.map Ln.wt)).length=L.length:=by rw [spreadM_len,List.length_map]
    have hs:=sum_addAt (O:=wishM L S) (P:=spreadM (room - sumI (wishM L S)) (L.map Ln.wt)) (k:=0) (by omega);have hmi:MI L (addAt (wishM L S) 0 (spreadM (room - sumI (wishM L S)) (L.map Ln.wt))):=MI.add (fun i l o h1 h2=>(k1.get h1 h2).1) hnn;have hx0:=nn_addAt (k:=0) (fun x hx=>(k3 x hx).1) hnn;have hx1:=mem_le_sum hx0
    refine ⟨SOK.of (by rw [addAt_len];exact k2) hmi (fun x hx=>by have:=hx1 x hx;omega),.inl (by omega)⟩
 refine ⟨key.1,key.1.len,fun x hx=>?_,key.2⟩;obtain ⟨i,hi,e⟩:=List.mem_iff_getElem.1 hx
 have hl:i<L.length:=by rw [<- key.1.len];exact hi
 have:=key.1.get (List.getElem?_eq_getElem hl) (by rw [List.getElem?_eq_getElem hi,e])
 have:=(linesB_get hL (List.getElem_mem hl)).2
 omega
theorem sized_smalW {L:List Ln} {S:List Sp} {room:Int} (hL:linesB L=true) (hS:spansW L.length S) (hr0:0≤room) (hr1:room≤20000000000000):Smal 1000000000000000 (sizedM L S room)∧(sizedM L S room).length≤5:=by
 obtain ⟨-,hl,hx,-⟩:=sized_okW hL hS hr0 hr1;have h5:=(linesB_len hL).2;refine ⟨smal_of (b:=100000000000000) (fun x h=>⟨by have:=(hx x h).1;omega,(hx x h).2⟩) (by omega) ?_,by omega⟩;rw [hl];omega
end
section
theorem take_seg (S:List Int) (a m:Nat):sumI (S.take (a+m))=sumI (S.take a)+sumI (segI S a m):=by
  rw [segI,List.take_add,sumI_append]
theorem sum_take_bd {S:List Int} (h:∀ x ∈ S,0≤x) (k:Nat):0≤sumI (S.take k)∧sumI (S.take k)≤sumI S:=by
  have h1:=sumI_nonneg (L:=S.take k) (fun x hx=>h x (List.mem_of_mem_take hx))
  have h2:=sumI_nonneg (L:=S.drop k) (fun x hx=>h x (List.mem_of_mem_drop hx))
  have h3:=sumI_append (S.take k) (S.drop k)
  rw [List.take_append_drop] at h3
  omega
def insR (a:Re) (p q:Int):Re:=⟨a.x+mn p (a.u / 2),a.y+mn q (a.v / 2),mx (a.u - 2*p) 0,mx (a.v - 2*q) 0⟩
def stkI (wish room k:Int):Int × Int:=if k=1 then (wish,0) else if k=2 then (wish,2) else if k=3 then (room,0) else (wish,1)
def ancR (a:Re) (p q k:Int):Re:=⟨a.x+(a.u - mn p a.u)*(k % 3) / 2,a.y+(a.v - mn q a.v)*(k / 3) / 2,mn p a.u,mn q a.v⟩
def stkS (at_ room wish:Int) (lo hi:Bool):Int × Int :=
  if lo && hi then (at_,room) else if lo then (at_,mn wish room) else if hi then (at_+room - mn wish room,mn wish room) else (at_+(room - mn wish room) / 2,mn wish room)
def areaR (S1 S2:List Int) (c:Ce):Re:=⟨sumI (S1.take c.co.toNat),sumI (S2.take c.ro.toNat),sumI (segI S1 c.co.toNat c.mc.toNat),sumI (segI S2 c.ro.toNat c.mr.toNat)⟩
def cellR (S1 S2:List Int) (c:Ce):Re :=
  ⟨(stkS (insR (areaR S1 S2 c) c.px c.py).x (insR (areaR S1 S2 c) c.px c.py).u c.cw (decide (c.sk % 2=1)) (decide (c.sk / 2 % 2=1))).1,
   (stkS (insR (areaR S1 S2 c) c.px c.py).y (insR (areaR S1 S2 c) c.px c.py).v c.ch (decide (c.sk / 4 % 2=1)) (decide (c.sk / 8=1))).1,
   (stkS (insR (areaR S1 S2 c) c.px c.py).x (insR (areaR S1 S2 c) c.px c.py).u c.cw (decide (c.sk % 2=1)) (decide (c.sk / 2 % 2=1))).2,
   (stkS (insR (areaR S1 S2 c) c.px c.py).y (insR (areaR S1 S2 c) c.px c.py).v c.ch (decide (c.sk / 4 % 2=1)) (decide (c.sk / 8=1))).2⟩
def BdR (a:Re):Prop:=((0≤a.x∧a.x≤20000000000000)∧(0≤a.y∧a.y≤20000000000000))∧((0≤a.u∧a.u≤20000000000000)∧(0≤a.v∧a.v≤20000000000000))
theorem ins_bd {a:Re} {p q:Int} (h:BdR a) (hp:0≤p∧p≤10) (hq:0≤q∧q≤10) :
    ((0≤mn p (a.u / 2)∧mn p (a.u / 2)≤10)∧(0≤mn q (a.v / 2)∧mn q (a.v / 2)≤10))∧((0≤mx (a.u - 2*p) 0∧mx (a.u - 2*p) 0≤20000000000000)∧(0≤mx (a.v - 2*q) 0∧mx (a.v - 2*q) 0≤20000000000000)):=by
  obtain ⟨⟨h1,h2⟩,h3,h4⟩:=h
  have:=mn_spec p (a.u / 2);have:=mn_spec q (a.v / 2);have:=mx_spec (a.u - 2*p) 0;have:=mx_spec (a.v - 2*q) 0
  omega
theorem mul3_bd {a b:Int} (h1:0≤a) (h2:a≤20000000000000) (h3:0≤b) (h4:b≤2):0≤a*b∧a*b≤40000000000000 :=
  ⟨Int.mul_nonneg h1 h3,Int.le_trans (Int.mul_le_mul h2 h4 h3 (by omega)) (by omega)⟩
theorem anc_bd {u v p q k:Int} (hu:0≤u∧u≤20000000000000) (hv:0≤v∧v≤20000000000000) (hp:0≤p∧p≤20000000000000) (hq:0≤q∧q≤20000000000000) (hk:0≤k∧k≤8) :
    0≤mn p u∧mn p u≤u∧0≤mn q v∧mn q v≤v∧0≤k % 3∧k % 3≤2∧0≤k / 3∧k / 3≤2∧0≤(u - mn p u)*(k % 3)∧(u - mn p u)*(k % 3)≤40000000000000∧0≤(v - mn q v)*(k / 3)∧(v - mn q v)*(k / 3)≤40000000000000:=by
  have g1:=mn_spec p u;have g2:=mn_spec q v
  have e1:=mul3_bd (a:=u - mn p u) (b:=k % 3) (by omega) (by omega) (by omega) (by omega)
  have e2:=mul3_bd (a:=v - mn q v) (b:=k / 3) (by omega) (by omega) (by omega) (by omega)
  omega
theorem stkI_bd {wish room k:Int} (h1:0≤wish∧wish≤1000000000000) (h2:0≤room∧room≤20000000000000):(0≤(stkI wish room k).1∧(stkI wish room k).1≤20000000000000)∧(0≤(stkI wish room k).2∧(stkI wish room k).2≤2):=by
  unfold stkI
  split
  · simp only;omega
  · split
    · simp only;omega
    · split <;> (simp only;omega)
theorem stk_one (x room wish k:Int) (lo hi:Bool) (hr:0≤room) (hlo:lo=decide (k % 2=1)) (hhi:hi=decide (k / 2=1)) (hk:0≤k∧k≤3) :
    x+(room - mn (stkI wish room k).1 room)*(stkI wish room k).2 / 2=(stkS x room wish lo hi).1∧mn (stkI wish room k).1 room=(stkS x room wish lo hi).2:=by
  have hk4:k=0 ∨ k=1 ∨ k=2 ∨ k=3:=by omega
  have hm:=mn_spec wish room
  rcases hk4 with rfl | rfl | rfl | rfl
  · subst hlo hhi
    simp [stkI,stkS]
  · subst hlo hhi
    simp [stkI,stkS]
  · subst hlo hhi
    simp [stkI,stkS]
    omega
  · subst hlo hhi
    have:=mn_spec room room
    simp [stkI,stkS]
    omega
def celI (a:Re) (c:Ce):Re:=ancR (insR a c.px c.py) (stkI c.cw (insR a c.px c.py).u (c.sk % 4)).1 (stkI c.ch (insR a c.px c.py).v (c.sk / 4)).1 ((stkI c.cw (insR a c.px c.py).u (c.sk % 4)).2+3*(stkI c.ch (insR a c.px c.py).v (c.sk / 4)).2)
theorem celI_eq {S1 S2:List Int} {c:Ce} (hs:0≤c.sk∧c.sk≤15) (hw:0≤c.cw∧c.cw≤1000000000000) (hh:0≤c.ch∧c.ch≤1000000000000) (hp:0≤c.px∧c.px≤10) (hq:0≤c.py∧c.py≤10) (hb:BdR (areaR S1 S2 c)):celI (areaR S1 S2 c) c=cellR S1 S2 c:=by
  obtain ⟨-,b3,b4⟩:=ins_bd hb hp hq
  have e1:=stk_one (insR (areaR S1 S2 c) c.px c.py).x (insR (areaR S1 S2 c) c.px c.py).u c.cw (c.sk % 4) (decide (c.sk % 2=1)) (decide (c.sk / 2 % 2=1)) b3.1 (by rw [show c.sk % 4 % 2=c.sk % 2 by omega]) (by rw [show c.sk % 4 / 2=c.sk / 2 % 2 by omega]) (by omega)
  have e2:=stk_one (insR (areaR S1 S2 c) c.px c.py).y (insR (areaR S1 S2 c) c.px c.py).v c.ch (c.sk / 4) (decide (c.sk / 4 % 2=1)) (decide (c.sk / 8=1)) b4.1 rfl (by rw [show c.sk / 4 / 2=c.sk / 8 by omega]) (by omega)
  have f1:=(stkI_bd (wish:=c.cw) (room:=(insR (areaR S1 S2 c) c.px c.py).u) (k:=c.sk % 4) hw b3).2
  have f2:=(stkI_bd (wish:=c.ch) (room:=(insR (areaR S1 S2 c) c.px c.py).v) (k:=c.sk / 4) hh b4).2
  unfold celI cellR ancR
  rw [show ((stkI c.cw (insR (areaR S1 S2 c) c.px c.py).u (c.sk % 4)).2+3*(stkI c.ch (insR (areaR S1 S2 c) c.px c.py).v (c.sk / 4)).2) % 3=(stkI c.cw (insR (areaR S1 S2 c) c.px c.py).u (c.sk % 4)).2 by omega,
    show ((stkI c.cw (insR (areaR S1 S2 c) c.px c.py).u (c.sk % 4)).2+3*(stkI c.ch (insR (areaR S1 S2 c) c.px c.py).v (c.sk / 4)).2) / 3=(stkI c.ch (insR (areaR S1 S2 c) c.px c.py).v (c.sk / 4)).2 by omega,
    e1.1,e1.2,e2.1,e2.2]
def SzB (S:List Int):Prop:=(∀ x ∈ S,0≤x)∧sumI S≤20000000000000∧S.length≤5
theorem SzB.seg {S:List Int} (h:SzB S) (a m:Nat):0≤sumI (segI S a m)∧sumI (segI S a m)≤20000000000000:=by
  have h1:=take_seg S a m
  have h2:=sum_take_bd h.1 (a+m)
  have h3:=sum_take_bd h.1 a
  have h4:=sumI_nonneg (L:=segI S a m) (fun x hx=>h.1 x (segI_mem hx))
  have:=h.2.1
  omega
theorem SzB.take {S:List Int} (h:SzB S) (a:Nat):0≤sumI (S.take a)∧sumI (S.take a)≤20000000000000:=by
  have h3:=sum_take_bd h.1 a
  have:=h.2.1
  omega
theorem area_bd {S1 S2:List Int} (h1:SzB S1) (h2:SzB S2) (c:Ce):BdR (areaR S1 S2 c):=by
  have a1:=h1.take c.co.toNat
  have a2:=h2.take c.ro.toNat
  have a3:=h1.seg c.co.toNat c.mc.toNat
  have a4:=h2.seg c.ro.toNat c.mr.toNat
  exact ⟨⟨⟨a1.1,by show sumI _≤_;omega⟩,⟨a2.1,by show sumI _≤_;omega⟩⟩,⟨a3.1,by show sumI _≤_;omega⟩,⟨a4.1,by show sumI _≤_;omega⟩⟩
theorem SzB.smal {S:List Int} (h:SzB S):Smal 1000000000000000 S:=fun k=>by
  have:=h.take k
  omega
theorem SzB.segsmal {S:List Int} (h:SzB S) (a m:Nat):Smal 1000000000000000 (segI S a m):=fun k=>by
  have h4:=sum_take_bd (S:=segI S a m) (fun x hx=>h.1 x (segI_mem hx)) k
  have:=h.seg a m
  omega
theorem SzB.takesmal {S:List Int} (h:SzB S) (a:Nat):Smal 1000000000000000 (S.take a):=fun k=>by
  have h4:=sum_take_bd (S:=S.take a) (fun x hx=>h.1 x (List.mem_of_mem_take hx)) k
  have:=h.take a
  omega
theorem SzB.of {L:List Ln} {S:List Sp} {room:Int} (hL:linesB L=true) (hS:spansW L.length S) (hr0:0≤room) (hr1:room≤20000000000000):SzB (sizedM L S room):=by
  obtain ⟨-,h2,h3,h4⟩:=sized_okW hL hS hr0 hr1
  have h5:=(wish_okW hL hS).2.2.2.2
  exact ⟨fun x hx=>(h3 x hx).1,by omega,by have:=(linesB_len hL).2;omega⟩
def Re.at (r:Re) (x y:Int):Re:=⟨r.x+x,r.y+y,r.u,r.v⟩
theorem insR_at (a:Re) (p q x y:Int):insR (a.at x y) p q=(insR a p q).at x y:=by simp only [insR,Re.at,Re.mk.injEq,and_true];omega
theorem stkS_at (x room wish d:Int) (lo hi:Bool):stkS (x+d) room wish lo hi=((stkS x room wish lo hi).1+d,(stkS x room wish lo hi).2):=by
  unfold stkS
  cases lo <;> cases hi <;> simp <;> omega
def BdM (a:Re):Prop:=((-2000000000000000≤a.x∧a.x≤2000000000000000)∧(-2000000000000000≤a.y∧a.y≤2000000000000000))∧((0≤a.u∧a.u≤20000000000000)∧(0≤a.v∧a.v≤20000000000000))
theorem ins_bdU {a:Re} {p q:Int} (h:(0≤a.u∧a.u≤20000000000000)∧(0≤a.v∧a.v≤20000000000000)) (hp:0≤p∧p≤10) (hq:0≤q∧q≤10) :
    ((0≤mn p (a.u / 2)∧mn p (a.u / 2)≤10)∧(0≤mn q (a.v / 2)∧mn q (a.v / 2)≤10))∧((0≤mx (a.u - 2*p) 0∧mx (a.u - 2*p) 0≤20000000000000)∧(0≤mx (a.v - 2*q) 0∧mx (a.v - 2*q) 0≤20000000000000)):=by
  obtain ⟨h3,h4⟩:=h
  have:=mn_spec p (a.u / 2);have:=mn_spec q (a.v / 2);have:=mx_spec (a.u - 2*p) 0;have:=mx_spec (a.v - 2*q) 0
  omega
def cellT (S1 S2:List Int) (x y:Int) (c:Ce):Re:=(cellR S1 S2 c).at x y
end
section
theorem validPlace_t (p:Plc) (t:Bool) (w:World) (h:plB p=t):Calls Tryz.prog 123 #[.agg #[.int .i64 p.x,.int .i64 p.y,.int .i64 p.rx,.int .i64 p.ry,.int .i64 p.ww,.int .i64 p.hh,.int .i64 p.qw,.int .i64 p.qh,.int .i64 p.an]] w fun e w'=>e=.returned (.bool t)∧Below w.heap.size w w':=by
 cases h1:[p.x,p.y,p.ww,p.hh].all shB
 ·have ht:false=t:=by rw [<- h];simp only [plB,h1,Bool.false_and]
  subst ht
  go_enter Tryz.func123,Tryz.ntmps123
  go_wp2_with fail
  with_reducible refine (allSh4 false _ (by first | exact newq1 _ _ _ | exact newq2 _ _ _ _) h1).mono ?_
  rintro e w1 ⟨rfl,rfl⟩;go_wp2;go_ret;exact ⟨rfl,(by repeat (first | with_reducible exact Below.refl _ _ | with_reducible assumption | with_reducible refine balloc ?_ | (with_reducible refine bset ?_ ?_;rotate_left;((try dsimp only);omega)) | refine bkeep2 ?_ (by assumption) | with_reducible refine Below.drew ?_))⟩
 cases h2:[p.rx,p.ry,p.qw,p.qh].all reB
 ·have ht:false=t:=by rw [<- h];simp only [plB,h1,h2,Bool.false_and,Bool.true_and]
  subst ht
  go_enter Tryz.func123,Tryz.ntmps123
  go_wp2_with fail
  with_reducible refine (allSh4 true _ (by first | exact newq1 _ _ _ | exact newq2 _ _ _ _) h1).mono ?_
  rintro e w1 ⟨rfl,rfl⟩
  go_wp2_with fail
  with_reducible refine (allRe4 false _ (by first | exact newq1 _ _ _ | exact newq2 _ _ _ _) h2).mono ?_
  rintro e w1 ⟨rfl,rfl⟩;go_wp2;go_ret;exact ⟨rfl,(by repeat (first | with_reducible exact Below.refl _ _ | with_reducible assumption | with_reducible refine balloc ?_ | (with_reducible refine bset ?_ ?_;rotate_left;((try dsimp only);omega)) | refine bkeep2 ?_ (by assumption) | with_reducible refine Below.drew ?_))⟩
 have h3:rng p.an 0 8=t:=by rw [<- h];simp only [plB,h1,h2,Bool.true_and]
 go_enter Tryz.func123,Tryz.ntmps123
 go_wp2_with fail
 with_reducible refine (allSh4 true _ (by first | exact newq1 _ _ _ | exact newq2 _ _ _ _) h1).mono ?_
 rintro e w1 ⟨rfl,rfl⟩
 go_wp2_with fail
 with_reducible refine (allRe4 true _ (by first | exact newq1 _ _ _ | exact newq2 _ _ _ _) h2).mono ?_
 rintro e w1 ⟨rfl,rfl⟩
 go_wp2_with fail
 with_reducible refine (anch_t _ t _ h3).mono ?_
 rintro e w1 ⟨rfl,rfl⟩;go_wp2;go_ret;exact ⟨rfl,(by repeat (first | with_reducible exact Below.refl _ _ | with_reducible assumption | with_reducible refine balloc ?_ | (with_reducible refine bset ?_ ?_;rotate_left;((try dsimp only);omega)) | refine bkeep2 ?_ (by assumption) | with_reducible refine Below.drew ?_))⟩
end
section
attribute [local go_sem 5000] run_mx run_mn
theorem put_q {w:World} {b i:Nat} {cs:Array Value} {T:TypeId} {fz:Nat × Nat} (h:w.heap[b]?=some (.cells cs T fz)) (u:Value):(w.setCell ⟨b,i,none⟩ u).heap[b]?=some (.cells (cs.setIfInBounds i u) T fz):=by
 simp [World.setCell,Array.getElem?_modify,h]
theorem gs_q {w w':World} {g:Nat} (h:w.grownBy w' (some g)) (o:Nat) (v:Value):w.grownBy (w'.setCell ⟨g,o,none⟩ v) (some g) :=
 ⟨h.os,h.tape,h.output,by simpa [World.setCell] using h.size,fun k hk hne=>(Below.heap_setCell w' ⟨g,o,none⟩ v k (by rintro rfl;exact hne rfl)).trans (h.block k hk hne)⟩
theorem gr_q (w:World) (g:Nat):w.grownBy w (some g):=⟨rfl,rfl,rfl,Nat.le_refl _,fun _ _ _=>rfl⟩
theorem gb_q {w w' w2:World} {g:Nat} (h:w.grownBy w' (some g)) (hb:Below w'.heap.size w' w2):w.grownBy w2 (some g) :=
 ⟨hb.os.trans h.os,hb.tape.trans h.tape,hb.output.trans h.output,Nat.le_trans h.size hb.size,fun k hk hne=>(hb.block k (Nat.lt_of_lt_of_le hk h.size)).trans (h.block k hk hne)⟩
theorem gt_q {w w' w2:World} {g:Nat} (h:w.grownBy w' (some g)) (hb:w'.grownBy w2 (some g)):w.grownBy w2 (some g) :=
 ⟨hb.os.trans h.os,hb.tape.trans h.tape,hb.output.trans h.output,Nat.le_trans h.size hb.size,fun k hk hne=>(hb.block k (Nat.lt_of_lt_of_le hk h.size) hne).trans (h.block k hk hne)⟩
theorem gnew_q {W w w':World} {g:Nat} (h:Below W.heap.size W w) (hg:w.grownBy w' (some g)) (hn:W.heap.size≤g):Below W.heap.size W w' :=
 ⟨hg.os.trans h.os,hg.tape.trans h.tape,hg.output.trans h.output,Nat.le_trans h.size hg.size,fun k hk=>(hg.block k (Nat.lt_of_lt_of_le hk h.size) (fun e=>by cases e;omega)).trans (h.block k hk)⟩
theorem fz_q {w:World} {b:Nat} {cs:Array Value} {T:TypeId} (h:w.heap[b]?=some (.cells cs T (0,0))) (i:Nat):w.frozen? ⟨b,i,none⟩=false:=by simp [World.frozen?,h]
theorem lt_q {w:World} {b:Nat} {o:Obj} (h:w.heap[b]?=some o):b<w.heap.size:=(gE h).1
theorem c9_q {w:World} {b:Nat} {a0 a1 a2 a3 a4 a5 a6 a7 a8:Value} {T:TypeId} {fz:Nat × Nat} (h:w.heap[b]?=some (.cells #[a0,a1,a2,a3,a4,a5,a6,a7,a8] T fz)) :
  w.cell? ⟨b,0,none⟩=some a0∧w.cell? ⟨b,1,none⟩=some a1∧w.cell? ⟨b,2,none⟩=some a2∧w.cell? ⟨b,3,none⟩=some a3∧w.cell? ⟨b,4,none⟩=some a4∧w.cell? ⟨b,5,none⟩=some a5∧w.cell? ⟨b,6,none⟩=some a6∧w.cell? ⟨b,7,none⟩=some a7∧w.cell? ⟨b,8,none⟩=some a8 :=
 ⟨cl_q h 0,cl_q h 1,cl_q h 2,cl_q h 3,cl_q h 4,cl_q h 5,cl_q h 6,cl_q h 7,cl_q h 8⟩
theorem f9_q {w:World} {b:Nat} {cs:Array Value} {T:TypeId} (h:w.heap[b]?=some (.cells cs T (0,0))):w.frozen? ⟨b,0,none⟩=false∧w.frozen? ⟨b,1,none⟩=false∧w.frozen? ⟨b,2,none⟩=false∧w.frozen? ⟨b,3,none⟩=false∧w.frozen? ⟨b,4,none⟩=false∧w.frozen? ⟨b,5,none⟩=false∧w.frozen? ⟨b,6,none⟩=false∧w.frozen? ⟨b,7,none⟩=false∧w.frozen? ⟨b,8,none⟩=false :=
 ⟨fz_q h 0,fz_q h 1,fz_q h 2,fz_q h 3,fz_q h 4,fz_q h 5,fz_q h 6,fz_q h 7,fz_q h 8⟩
end
section
attribute [local go_sem 5000] run_mx run_mn
theorem wp_genG3 {P:Program} {c:Code} {Q:Exit→Act→World→Prop} {a:Act} {W:World} (F:World→Prop) (hF:F W) (h:∀ W0,F W0→c.wp P Q a W0):c.wp P Q a W:=h W hF
end
section
attribute [local go_sem 5000] run_mx run_mn
theorem bp_genQ {P:Program} {f:Func} {R:Ending→World→Prop} {e:Exit} {a:Act} {W:World} (F:World→Prop) (hF:F W) (h:∀ W0,F W0→bodyPost P f R e a W0):bodyPost P f R e a W:=h W hF
end
section
attribute [local go_sem 5000] run_mx run_mn
theorem wr_w {e:Int} (h1:-100000000000000000≤e) (h2:e≤100000000000000000):IntKind.i64.wrap e=e:=IntWalk.i64_in _ (by omega)
def rqW (w h:Int):Bool:=rng w 0 20000000000000 && rng h 0 20000000000000
theorem rqW_iff {w h:Int}:rqW w h=true ↔ ((0≤w∧w≤20000000000000)∧(0≤h∧h≤20000000000000)):=by simp only [rqW,Bool.and_eq_true,rng_iff]
theorem th_prodW {m s:Int} (h1:0≤m) (h2:m≤1000) (h3:0≤s) (h4:s≤20000000000000):0≤m*s∧m*s≤20000000000000000:=by
 refine ⟨Int.mul_nonneg h1 h3,?_⟩;have e1:m*s≤1000*s:=Int.mul_le_mul_of_nonneg_right h2 h3;omega
theorem th_le {m s:Int} (h1:0≤m) (h2:m≤1000) (h3:0≤s):0≤thM m s∧thM m s≤s:=by
 have e0:=Int.mul_nonneg h1 h3;have e1:m*s≤1000*s:=Int.mul_le_mul_of_nonneg_right h2 h3;unfold thM;omega
theorem half_bdW {s k:Int} (h1:0≤s) (h3:0≤k) (h4:k≤2):0≤s*k∧s*k≤s*2∧0≤s*k / 2∧s*k / 2≤s:=by
 have e1:0≤s*k:=Int.mul_nonneg h1 h3;have e2:s*k≤s*2:=Int.mul_le_mul_of_nonneg_left h4 h1;omega
structure PlBdW (p:Plc) (w h:Int):Prop where
 t1:0≤thM p.rx w∧thM p.rx w≤20000000000000
 t2:0≤thM p.ry h∧thM p.ry h≤20000000000000
 t3:0≤thM p.qw w∧thM p.qw w≤20000000000000
 t4:0≤thM p.qh h∧thM p.qh h≤20000000000000
 w1:0≤wM p w∧wM p w≤20000000000300
 h1:0≤hM p h∧hM p h≤20000000000300
 a1:0≤p.an % 3∧p.an % 3≤2
 a2:0≤p.an / 3∧p.an / 3≤2
 p1:0≤wM p w*(p.an % 3)∧wM p w*(p.an % 3)≤40000000000600∧0≤wM p w*(p.an % 3) / 2∧wM p w*(p.an % 3) / 2≤20000000000300
 p2:0≤hM p h*(p.an / 3)∧hM p h*(p.an / 3)≤40000000000600∧0≤hM p h*(p.an / 3) / 2∧hM p h*(p.an / 3) / 2≤20000000000300
theorem pl_bdW {p:Plc} {w h:Int} (hp:plB p=true) (hr:rqW w h=true):PlBdW p w h:=by
 obtain ⟨b1,b2,b3,b4,b5,b6,b7,b8,b9⟩:=plB_iff.1 hp;obtain ⟨r1,r2⟩:=rqW_iff.1 hr;have t1:=th_le b3.1 b3.2 r1.1;have t2:=th_le b4.1 b4.2 r2.1;have t3:=th_le b7.1 b7.2 r1.1;have t4:=th_le b8.1 b8.2 r2.1
 have w1:0≤wM p w∧wM p w≤w+300:=by have:=mx_spec (p.ww+thM p.qw w) 0;unfold wM;omega
 have h1:0≤hM p h∧hM p h≤h+300:=by have:=mx_spec (p.hh+thM p.qh h) 0;unfold hM;omega
 have a1:0≤p.an % 3∧p.an % 3≤2:=by omega
 have a2:0≤p.an / 3∧p.an / 3≤2:=by omega
 have k1:=half_bdW w1.1 a1.1 a1.2;have k2:=half_bdW h1.1 a2.1 a2.2;exact ⟨by omega,by omega,by omega,by omega,by omega,by omega,a1,a2,by omega,by omega⟩
theorem wM_le {p:Plc} {w h:Int} (hp:plB p=true) (hr:rqW w h=true):0≤wM p w∧wM p w≤w+300:=by
 obtain ⟨b1,b2,b3,b4,b5,b6,b7,b8,b9⟩:=plB_iff.1 hp;obtain ⟨r1,r2⟩:=rqW_iff.1 hr;have t3:=th_le b7.1 b7.2 r1.1
 have:=mx_spec (p.ww+thM p.qw w) 0
 unfold wM;omega
theorem hM_le {p:Plc} {w h:Int} (hp:plB p=true) (hr:rqW w h=true):0≤hM p h∧hM p h≤h+300:=by
 obtain ⟨b1,b2,b3,b4,b5,b6,b7,b8,b9⟩:=plB_iff.1 hp;obtain ⟨r1,r2⟩:=rqW_iff.1 hr;have t3:=th_le b8.1 b8.2 r2.1
 have:=mx_spec (p.hh+thM p.qh h) 0
 unfold hM;omega
theorem xM_le {p:Plc} {w h:Int} (hp:plB p=true) (hr:rqW w h=true):-(w+600)≤xM p w∧xM p w≤w+300:=by
 have hw:=wM_le hp hr;obtain ⟨b1,b2,b3,b4,b5,b6,b7,b8,b9⟩:=plB_iff.1 hp;obtain ⟨r1,r2⟩:=rqW_iff.1 hr;have t:=th_le b3.1 b3.2 r1.1;have k:=half_bdW (k:=p.an % 3) hw.1 (by omega) (by omega);unfold xM;omega
theorem yM_le {p:Plc} {w h:Int} (hp:plB p=true) (hr:rqW w h=true):-(h+600)≤yM p h∧yM p h≤h+300:=by
 have hw:=hM_le hp hr;obtain ⟨b1,b2,b3,b4,b5,b6,b7,b8,b9⟩:=plB_iff.1 hp;obtain ⟨r1,r2⟩:=rqW_iff.1 hr;have t:=th_le b4.1 b4.2 r2.1;have k:=half_bdW (k:=p.an / 3) hw.1 (by omega) (by omega);unfold yM;omega
theorem thou_w (m s:Int) (w:World) (h1:0≤m) (h2:m≤1000) (h3:0≤s) (h4:s≤20000000000000):Calls Tryz.prog 227 #[.int .i64 m,.int .i64 s] w fun e w'=>e=.returned (.int .i64 (thM m s))∧Below w.heap.size w w':=by
 obtain ⟨q1,q2⟩:=th_prodW h1 h2 h3 h4
 go_enter Tryz.func227,Tryz.ntmps227
 go_wp2;go_ret;exact ⟨ret_int rfl,(by repeat (first | with_reducible exact Below.refl _ _ | with_reducible assumption | with_reducible refine balloc ?_ | (with_reducible refine bset ?_ ?_;rotate_left;((try dsimp only);omega)) | refine bkeep2 ?_ (by assumption) | with_reducible refine Below.drew ?_))⟩
theorem part_w (n m:Int) (w:World) (h1:0≤m) (h2:m≤1000) (h3:0≤n) (h4:n≤20000000000000):Calls Tryz.prog 158 #[.int .i64 n,.int .i64 m] w fun e w'=>e=.returned (.int .i64 (thM m n))∧Below w.heap.size w w':=by
 obtain ⟨q1,q2⟩:=th_prodW h1 h2 h3 h4;rw [Int.mul_comm] at q1 q2
 go_enter Tryz.func158,Tryz.ntmps158
 go_wp2;go_ret;exact ⟨ret_int (by rw [thM,Int.mul_comm]),(by repeat (first | with_reducible exact Below.refl _ _ | with_reducible assumption | with_reducible refine balloc ?_ | (with_reducible refine bset ?_ ?_;rotate_left;((try dsimp only);omega)) | refine bkeep2 ?_ (by assumption) | with_reducible refine Below.drew ?_))⟩
theorem shift_w (b:Nat) (p:Plc) (dx dy:Int) (w:World) (hh:w.heap[b]?=some (.cells #[.int .i64 p.x,.int .i64 p.y,.int .i64 p.rx,.int .i64 p.ry,.int .i64 p.ww,.int .i64 p.hh,.int .i64 p.qw,.int .i64 p.qh,.int .i64 p.an] 82 (0,0))) (h1:-1000000000000000≤p.x∧p.x≤1000000000000000) (h2:-1000000000000000≤p.y∧p.y≤1000000000000000) (h3:-1000000000000000≤dx∧dx≤1000000000000000) (h4:-1000000000000000≤dy∧dy≤1000000000000000) :
  Calls Tryz.prog 226 #[.pointer (some ⟨b,0,none⟩),.int .i64 dx,.int .i64 dy] w fun e w'=>(∃ v,e=.returned v)∧w'.heap[b]?=some (.cells #[.int .i64 (p.x+dx),.int .i64 (p.y+dy),.int .i64 p.rx,.int .i64 p.ry,.int .i64 p.ww,.int .i64 p.hh,.int .i64 p.qw,.int .i64 p.qh,.int .i64 p.an] 82 (0,0))∧w.grownBy w' (some b):=by
 obtain ⟨c0,c1,c2,c3,c4,c5,c6,c7,c8⟩:=c9_q hh;obtain ⟨f0,f1,-⟩:=f9_q hh;have q1:=put_q (i:=0) hh (.int .i64 (p.x+dx));have q2:=put_q (i:=1) q1 (.int .i64 (p.y+dy));simp only [List.setIfInBounds_toArray,List.set_cons_succ,List.set_cons_zero] at q2;have HQ:=hD q2;have HG:=hD (gs_q (gs_q (gr_q w b) 0 (.int .i64 (p.x+dx))) 1 (.int .i64 (p.y+dy)));clear hh q1 q2 c2 c3 c4 c5 c6 c7 c8;obtain ⟨h1,h1'⟩:=h1
 obtain ⟨h2,h2'⟩:=h2;obtain ⟨h3,h3'⟩:=h3;obtain ⟨h4,h4'⟩:=h4
 go_enter Tryz.func226,Tryz.ntmps226
 go_wp2
 go_end0
 exact ⟨⟨_,rfl⟩,HQ.out,HG.out⟩
theorem fix_w (b:Nat) (p:Plc) (w0 h0:Int) (w:World) (hh:w.heap[b]?=some (.cells #[.int .i64 p.x,.int .i64 p.y,.int .i64 p.rx,.int .i64 p.ry,.int .i64 p.ww,.int .i64 p.hh,.int .i64 p.qw,.int .i64 p.qh,.int .i64 p.an] 82 (0,0))) (hp:plB p=true) (hr:rqW w0 h0=true) :
  Calls Tryz.prog 225 #[.pointer (some ⟨b,0,none⟩),.int .i64 w0,.int .i64 h0] w fun e w'=>(∃ v,e=.returned v)∧w'.heap[b]?=some (.cells #[.int .i64 (p.x+thM p.rx w0),.int .i64 (p.y+thM p.ry h0),.int .i64 0,.int .i64 0,.int .i64 (wM p w0),.int .i64 (hM p h0),.int .i64 0,.int .i64 0,.int .i64 p.an] 82 (0,0))∧w.grownBy w' (some b):=by
 have HBD:=hD (pl_bdW hp hr);obtain ⟨⟨b1,b1'⟩,⟨b2,b2'⟩,⟨b3,b3'⟩,⟨b4,b4'⟩,⟨b5,b5'⟩,⟨b6,b6'⟩,⟨b7,b7'⟩,⟨b8,b8'⟩,⟨b9,b9'⟩⟩:=plB_iff.1 hp;obtain ⟨⟨r1,r1'⟩,⟨r2,r2'⟩⟩:=rqW_iff.1 hr;obtain ⟨⟨t1,t1'⟩,⟨t2,t2'⟩,⟨t3,t3'⟩,⟨t4,t4'⟩,-,-,-,-,-,-⟩:=HBD.out;have e1:IntKind.i64.wrap (p.ww+thM p.qw w0)=p.ww+thM p.qw w0:=wr_w (by omega) (by omega)
 have e2:IntKind.i64.wrap (p.hh+thM p.qh h0)=p.hh+thM p.qh h0:=wr_w (by omega) (by omega);have hlt:=lt_q hh;obtain ⟨c0,c1,c2,c3,c4,c5,c6,c7,c8⟩:=c9_q hh;have HX:=hD hh;clear hh hp hr
 go_enter Tryz.func225,Tryz.ntmps225
 go_wp2_with fail
 refine wp_named (fun W0 e0=>?_);replace e0:=hD e0;refine wp_region_grow 13 1 (·<13) (by kernel_rfl) (by kernel_rfl) rfl ?_
 iterate 13 (refine wpG_step (fun K hK=>?_);apply Exists.intro;refine ⟨.inl ⟨rfl,fun w' hw'=>?_⟩,?_⟩;(focus ((obtain ⟨hc,hf⟩:=bcell hw'.out);(have hcS:=bcellS hw'.out);go_simp <;> first | rfl | (go_at_call 227;exact thou_w _ _ _ (by assumption) (by assumption) (by assumption) (by assumption))));(go_simp;refine hK _ ?_;clear hK K))
 refine wpG_nil ?_;refine wpK_tail (by kernel_rfl) (fun w2 hg2=>?_);have hb2:=bdrewn hg2.out;refine wpAny_one (i:=13) (by kernel_rfl) rfl rfl ?_;go_simp
 go_at_call 226
 have HX2:=hD ((hb2.block _ hlt).trans HX.out);clear c0 c1 c2 c3 c4 c5 c6 c7 c8;refine (shift_w b p (thM p.rx w0) (thM p.ry h0) _ HX2.out (by omega) (by omega) (by omega) (by omega)).mono ?_;rintro e w3 ⟨⟨v,rfl⟩,hx3,hg3⟩;go_simp;refine wpAny_end (by kernel_rfl) ?_;refine NoPan.thn ?_;have HG:=hD (gt_q (gb_q (gr_q w b) hb2) hg3);have HX3:=hD hx3;have hlt3:=lt_q hx3;clear HX HX2 hb2 hg2 hx3 hg3 hlt
 obtain ⟨c0,c1,c2,c3,c4,c5,c6,c7,c8⟩:=c9_q HX3.out
 go_wp2_with fail
 refine wp_region_grow 15 1 (·<15) (by kernel_rfl) (by kernel_rfl) rfl ?_
 iterate 15 (refine wpG_step (fun K hK=>?_);apply Exists.intro;refine ⟨.inl ⟨rfl,fun w' hw'=>?_⟩,?_⟩;(focus ((obtain ⟨hc,hf⟩:=bcell hw'.out);(have hcS:=bcellS hw'.out);go_simp <;> first | rfl | (go_at_call 227;exact thou_w _ _ _ (by assumption) (by assumption) (by assumption) (by assumption))));(go_simp;refine hK _ ?_;clear hK K))
 refine wpG_nil ?_;refine wpK_tail (by kernel_rfl) (fun w4 hg4=>?_);have hb4:=bdrewn hg4.out;have hx4:=(hb4.block _ hlt3).trans HX3.out;clear c0 c1 c2 c3 c4 c5 c6 c7 c8;obtain ⟨c0,c1,c2,c3,c4,c5,c6,c7,c8⟩:=c9_q hx4;obtain ⟨f0,f1,f2,f3,f4,f5,f6,f7,f8⟩:=f9_q hx4;have q4:=put_q (i:=4) hx4 (.int .i64 (mx (p.ww+thM p.qw w0) 0))
 simp only [List.setIfInBounds_toArray,List.set_cons_succ,List.set_cons_zero] at q4;replace HX3:=hD q4;replace HG:=hD (gs_q (gb_q HG.out hb4) 4 (.int .i64 (mx (p.ww+thM p.qw w0) 0)));refine wpAny_one (i:=15) (by kernel_rfl) rfl rfl ?_;go_simp;refine wpAny_end (by kernel_rfl) ?_;clear c0 c1 c2 c3 c4 c5 c6 c7 c8 f0 f1 f2 f3 f4 f5 f6 f7 f8 hx4 hb4 hg4 hlt3 q4
 refine NoPan.gen (fun W=>W.heap[b]?=some (.cells #[.int .i64 (p.x+thM p.rx w0),.int .i64 (p.y+thM p.ry h0),.int .i64 p.rx,.int .i64 p.ry,.int .i64 (mx (p.ww+thM p.qw w0) 0),.int .i64 p.hh,.int .i64 p.qw,.int .i64 p.qh,.int .i64 p.an] 82 (0,0))∧w.grownBy W (some b)) ⟨HX3.out,HG.out⟩ (fun w5 hw5=>?_);clear HX3 HG;obtain ⟨hx5,hg5⟩:=hw5;have HX3:=hD hx5;have HG:=hD hg5;have hlt3:=lt_q hx5
 clear hx5 hg5;obtain ⟨c0,c1,c2,c3,c4,c5,c6,c7,c8⟩:=c9_q HX3.out
 go_wp2_with fail
 refine wp_region_grow 15 1 (·<15) (by kernel_rfl) (by kernel_rfl) rfl ?_
 iterate 15 (refine wpG_step (fun K hK=>?_);apply Exists.intro;refine ⟨.inl ⟨rfl,fun w' hw'=>?_⟩,?_⟩;(focus ((obtain ⟨hc,hf⟩:=bcell hw'.out);(have hcS:=bcellS hw'.out);go_simp <;> first | rfl | (go_at_call 227;exact thou_w _ _ _ (by assumption) (by assumption) (by assumption) (by assumption))));(go_simp;refine hK _ ?_;clear hK K))
 refine wpG_nil ?_;refine wpK_tail (by kernel_rfl) (fun w6 hg4=>?_);have hb4:=bdrewn hg4.out;have hx4:=(hb4.block _ hlt3).trans HX3.out;clear c0 c1 c2 c3 c4 c5 c6 c7 c8;obtain ⟨c0,c1,c2,c3,c4,c5,c6,c7,c8⟩:=c9_q hx4;obtain ⟨f0,f1,f2,f3,f4,f5,f6,f7,f8⟩:=f9_q hx4;have q4:=put_q (i:=5) hx4 (.int .i64 (mx (p.hh+thM p.qh h0) 0))
 simp only [List.setIfInBounds_toArray,List.set_cons_succ,List.set_cons_zero] at q4;replace HX3:=hD q4;replace HG:=hD (gs_q (gb_q HG.out hb4) 5 (.int .i64 (mx (p.hh+thM p.qh h0) 0)));refine wpAny_one (i:=15) (by kernel_rfl) rfl rfl ?_;go_simp;refine wpAny_end (by kernel_rfl) ?_;clear c0 c1 c2 c3 c4 c5 c6 c7 c8 f0 f1 f2 f3 f4 f5 f6 f7 f8 hx4 hb4 hg4 hlt3 q4
 refine NoPan.gen (fun W=>W.heap[b]?=some (.cells #[.int .i64 (p.x+thM p.rx w0),.int .i64 (p.y+thM p.ry h0),.int .i64 p.rx,.int .i64 p.ry,.int .i64 (mx (p.ww+thM p.qw w0) 0),.int .i64 (mx (p.hh+thM p.qh h0) 0),.int .i64 p.qw,.int .i64 p.qh,.int .i64 p.an] 82 (0,0))∧w.grownBy W (some b)) ⟨HX3.out,HG.out⟩ (fun w7 hw5=>?_);clear HX3 HG;obtain ⟨hx5,hg5⟩:=hw5
 obtain ⟨c0,c1,c2,c3,c4,c5,c6,c7,c8⟩:=c9_q hx5;obtain ⟨f0,f1,f2,f3,f4,f5,f6,f7,f8⟩:=f9_q hx5;have q1:=put_q (i:=7) (put_q (i:=6) (put_q (i:=3) (put_q (i:=2) hx5 (.int .i64 0)) (.int .i64 0)) (.int .i64 0)) (.int .i64 0);simp only [List.setIfInBounds_toArray,List.set_cons_succ,List.set_cons_zero] at q1;have HQ:=hD q1
 have HG:=hD (gs_q (gs_q (gs_q (gs_q hg5 2 (.int .i64 0)) 3 (.int .i64 0)) 6 (.int .i64 0)) 7 (.int .i64 0));clear q1 hx5 hg5;go_wp2
 go_end0
 exact ⟨⟨_,rfl⟩,HQ.out,HG.out⟩
theorem placeRect_w (p:Plc) (w0 h0:Int) (w:World) (hp:plB p=true) (hr:rqW w0 h0=true) :
  Calls Tryz.prog 224 #[.agg #[.int .i64 p.x,.int .i64 p.y,.int .i64 p.rx,.int .i64 p.ry,.int .i64 p.ww,.int .i64 p.hh,.int .i64 p.qw,.int .i64 p.qh,.int .i64 p.an],.int .i64 w0,.int .i64 h0] w fun e w'=>e=.returned (.agg #[.int .i64 (xM p w0),.int .i64 (yM p h0),.int .i64 (wM p w0),.int .i64 (hM p h0)])∧Below w.heap.size w w':=by
 have HBD:=hD (pl_bdW hp hr);have HP:=hD hp
 have hx0:=(Below.heap_alloc (w.alloc (.cells #[.int .i64 p.x,.int .i64 p.y,.int .i64 p.rx,.int .i64 p.ry,.int .i64 p.ww,.int .i64 p.hh,.int .i64 p.qw,.int .i64 p.qh,.int .i64 p.an] 82 (0,0))) (.cells #[.int .i64 0,.int .i64 0,.int .i64 0,.int .i64 0] 45 (0,0)) w.heap.size (by simp)).trans (new_q w (.cells #[.int .i64 p.x,.int .i64 p.y,.int .i64 p.rx,.int .i64 p.ry,.int .i64 p.ww,.int .i64 p.hh,.int .i64 p.qw,.int .i64 p.qh,.int .i64 p.an] 82 (0,0)))
 have hy0:=newq1 w (.cells #[.int .i64 p.x,.int .i64 p.y,.int .i64 p.rx,.int .i64 p.ry,.int .i64 p.ww,.int .i64 p.hh,.int .i64 p.qw,.int .i64 p.qh,.int .i64 p.an] 82 (0,0)) (.cells #[.int .i64 0,.int .i64 0,.int .i64 0,.int .i64 0] 45 (0,0));have HX:=hD hx0;have HY:=hD hy0
 have HB:=hD (balloc (o:=.cells #[.int .i64 0,.int .i64 0,.int .i64 0,.int .i64 0] 45 (0,0)) (balloc (o:=.cells #[.int .i64 p.x,.int .i64 p.y,.int .i64 p.rx,.int .i64 p.ry,.int .i64 p.ww,.int .i64 p.hh,.int .i64 p.qw,.int .i64 p.qh,.int .i64 p.an] 82 (0,0)) (Below.refl w.heap.size w)));clear hx0 hy0
 go_enter Tryz.func224,Tryz.ntmps224
 go_wp2_with fail
 refine (fix_w w.heap.size p w0 h0 _ HX.out hp hr).mono ?_;rintro e w2 ⟨⟨v,rfl⟩,hx,hg⟩;replace HY:=hD ((hg.block (w.heap.size+1) (lt_q HY.out) (by simp)).trans HY.out);replace HB:=hD (gnew_q HB.out hg (Nat.le_refl _));obtain ⟨⟨t1,t1'⟩,⟨t2,t2'⟩,-,-,⟨u1,u1'⟩,⟨u2,u2'⟩,⟨a1,a1'⟩,⟨a2,a2'⟩,⟨p1,p1',p1a,p1b⟩,⟨p2,p2',p2a,p2b⟩⟩:=HBD.out;obtain ⟨⟨b1,b1'⟩,⟨b2,b2'⟩,-,-,-,-,-,-,⟨b9,b9'⟩⟩:=plB_iff.1 HP.out
 obtain ⟨c0,c1,c2,c3,c4,c5,c6,c7,c8⟩:=c9_q hx;have d0:=cl_q HY.out 0;have d1:=cl_q HY.out 1;have d2:=cl_q HY.out 2;have d3:=cl_q HY.out 3;have f0:=fz_q HY.out 0;have f1:=fz_q HY.out 1;have f2:=fz_q HY.out 2;have f3:=fz_q HY.out 3;have q:=put_q (i:=3) (put_q (i:=2) (put_q (i:=1) (put_q (i:=0) HY.out (.int .i64 (xM p w0))) (.int .i64 (yM p h0))) (.int .i64 (wM p w0))) (.int .i64 (hM p h0))
 simp only [List.setIfInBounds_toArray,List.set_cons_succ,List.set_cons_zero] at q;have HQ:=hD q;have HB2:=hD (bset (a:=⟨w.heap.size+1,3,none⟩) (u:=.int .i64 (hM p h0)) (bset (a:=⟨w.heap.size+1,2,none⟩) (u:=.int .i64 (wM p w0)) (bset (a:=⟨w.heap.size+1,1,none⟩) (u:=.int .i64 (yM p h0)) (bset (a:=⟨w.heap.size+1,0,none⟩) (u:=.int .i64 (xM p w0)) HB.out (by simp)) (by simp)) (by simp)) (by simp))
 clear hx hg HX hp hr q
 go_wp2_with fail
 refine bp_genQ (fun W=>W.heap[w.heap.size+1]?=some (.cells #[.int .i64 (xM p w0),.int .i64 (yM p h0),.int .i64 (wM p w0),.int .i64 (hM p h0)] 45 (0,0))∧Below w.heap.size w W) ⟨HQ.out,HB2.out⟩ ?_;clear HQ HB2 HB HY c0 c1 c2 c3 c4 c5 c6 c7 c8 d0 d1 d2 d3 f0 f1 f2 f3;rintro W ⟨hq,hb⟩;have d0:=cl_q hq 0;have d1:=cl_q hq 1;have d2:=cl_q hq 2;have d3:=cl_q hq 3
 exact bodyPost_ret (v:=.agg #[.int .i64 (xM p w0),.int .i64 (yM p h0),.int .i64 (wM p w0),.int .i64 (hM p h0)]) (by simp only [results,Tryz.results224];go_simp) rfl ⟨rfl,hb⟩
theorem placed_w (p:Plc) (x0 y0 w0 h0:Int) (w:World) (hx0:-1000000000000000≤x0∧x0≤1000000000000000) (hy0:-1000000000000000≤y0∧y0≤1000000000000000) (hp:plB p=true) (hr:rqW w0 h0=true) :
  Calls Tryz.prog 116 #[.agg #[.int .i64 p.x,.int .i64 p.y,.int .i64 p.rx,.int .i64 p.ry,.int .i64 p.ww,.int .i64 p.hh,.int .i64 p.qw,.int .i64 p.qh,.int .i64 p.an],.agg #[.int .i64 (x0),.int .i64 (y0),.int .i64 (w0),.int .i64 (h0)]] w fun e w'=>e=.returned (.agg #[.int .i64 (x0+xM p w0),.int .i64 (y0+yM p h0),.int .i64 (wM p w0),.int .i64 (hM p h0)])∧Below w.heap.size w w':=by
 have HBD:=hD (pl_bdW hp hr);obtain ⟨⟨b1,b1'⟩,⟨b2,b2'⟩,⟨b3,b3'⟩,⟨b4,b4'⟩,⟨b5,b5'⟩,⟨b6,b6'⟩,⟨b7,b7'⟩,⟨b8,b8'⟩,⟨b9,b9'⟩⟩:=plB_iff.1 hp;obtain ⟨⟨r1,r1'⟩,⟨r2,r2'⟩⟩:=rqW_iff.1 hr;obtain ⟨⟨t1,t1'⟩,⟨t2,t2'⟩,⟨t3,t3'⟩,⟨t4,t4'⟩,⟨u1,u1'⟩,⟨u2,u2'⟩,⟨a1,a1'⟩,⟨a2,a2'⟩,⟨p1,p1',p1a,p1b⟩,⟨p2,p2',p2a,p2b⟩⟩:=HBD.out;have e1:IntKind.i64.wrap (p.ww+thM p.qw w0)=p.ww+thM p.qw w0:=wr_w (by omega) (by omega)
 have e2:IntKind.i64.wrap (p.hh+thM p.qh h0)=p.hh+thM p.qh h0:=wr_w (by omega) (by omega);have e3:IntKind.i64.wrap (p.x+thM p.rx w0)=p.x+thM p.rx w0:=wr_w (by omega) (by omega);have e4:IntKind.i64.wrap (p.y+thM p.ry h0)=p.y+thM p.ry h0:=wr_w (by omega) (by omega);have e5:IntKind.i64.wrap (wM p w0*(p.an % 3))=wM p w0*(p.an % 3):=wr_w (by omega) (by omega)
 have e6:IntKind.i64.wrap (hM p h0*(p.an / 3))=hM p h0*(p.an / 3):=wr_w (by omega) (by omega);have e7:IntKind.i64.wrap (p.x+thM p.rx w0 - wM p w0*(p.an % 3) / 2)=p.x+thM p.rx w0 - wM p w0*(p.an % 3) / 2:=wr_w (by omega) (by omega);have e8:IntKind.i64.wrap (p.y+thM p.ry h0 - hM p h0*(p.an / 3) / 2)=p.y+thM p.ry h0 - hM p h0*(p.an / 3) / 2:=wr_w (by omega) (by omega);obtain ⟨x1,x2⟩:=hx0
 obtain ⟨y1,y2⟩:=hy0;have e9:IntKind.i64.wrap (x0+(p.x+thM p.rx w0 - wM p w0*(p.an % 3) / 2))=x0+(p.x+thM p.rx w0 - wM p w0*(p.an % 3) / 2):=wr_w (by omega) (by omega);have e10:IntKind.i64.wrap (y0+(p.y+thM p.ry h0 - hM p h0*(p.an / 3) / 2))=y0+(p.y+thM p.ry h0 - hM p h0*(p.an / 3) / 2):=wr_w (by omega) (by omega);have m1:mx 0 (p.ww+thM p.qw w0)=wM p w0:=mx_comm _ _
 have m2:mx 0 (p.hh+thM p.qh h0)=hM p h0:=mx_comm _ _
 have kx0:=((Below.heap_alloc _ (.cells #[.int .i64 0,.int .i64 0,.int .i64 0,.int .i64 0] 45 (0,0)) w.heap.size (by simp;omega)).trans ((Below.heap_alloc (w.alloc (.cells #[.int .i64 p.x,.int .i64 p.y,.int .i64 p.rx,.int .i64 p.ry,.int .i64 p.ww,.int .i64 p.hh,.int .i64 p.qw,.int .i64 p.qh,.int .i64 p.an] 82 (0,0))) (.cells #[.int .i64 x0,.int .i64 y0,.int .i64 w0,.int .i64 h0] 45 (0,0)) w.heap.size (by simp)).trans (new_q w (.cells #[.int .i64 p.x,.int .i64 p.y,.int .i64 p.rx,.int .i64 p.ry,.int .i64 p.ww,.int .i64 p.hh,.int .i64 p.qw,.int .i64 p.qh,.int .i64 p.an] 82 (0,0)))))
 have ky0:=(Below.heap_alloc _ (.cells #[.int .i64 0,.int .i64 0,.int .i64 0,.int .i64 0] 45 (0,0)) (w.heap.size+1) (by simp)).trans (newq1 w (.cells #[.int .i64 p.x,.int .i64 p.y,.int .i64 p.rx,.int .i64 p.ry,.int .i64 p.ww,.int .i64 p.hh,.int .i64 p.qw,.int .i64 p.qh,.int .i64 p.an] 82 (0,0)) (.cells #[.int .i64 x0,.int .i64 y0,.int .i64 w0,.int .i64 h0] 45 (0,0)))
 have kz0:=newq2 w (.cells #[.int .i64 p.x,.int .i64 p.y,.int .i64 p.rx,.int .i64 p.ry,.int .i64 p.ww,.int .i64 p.hh,.int .i64 p.qw,.int .i64 p.qh,.int .i64 p.an] 82 (0,0)) (.cells #[.int .i64 x0,.int .i64 y0,.int .i64 w0,.int .i64 h0] 45 (0,0)) (.cells #[.int .i64 0,.int .i64 0,.int .i64 0,.int .i64 0] 45 (0,0))
 have hB0:=balloc (o:=.cells #[.int .i64 0,.int .i64 0,.int .i64 0,.int .i64 0] 45 (0,0)) (balloc (o:=.cells #[.int .i64 x0,.int .i64 y0,.int .i64 w0,.int .i64 h0] 45 (0,0)) (balloc (o:=.cells #[.int .i64 p.x,.int .i64 p.y,.int .i64 p.rx,.int .i64 p.ry,.int .i64 p.ww,.int .i64 p.hh,.int .i64 p.qw,.int .i64 p.qh,.int .i64 p.an] 82 (0,0)) (Below.refl w.heap.size w)));have HX0:=hD kx0
 have HY0:=hD ky0;have HZ0:=hD kz0;have HB0:=hD hB0;clear hp hr kx0 ky0 kz0 hB0
 go_enter Tryz.func116,Tryz.ntmps116
 go_wp2_with fail
 refine wp_genG3 (fun W=>W.heap[w.heap.size]?=some (.cells #[.int .i64 p.x,.int .i64 p.y,.int .i64 p.rx,.int .i64 p.ry,.int .i64 p.ww,.int .i64 p.hh,.int .i64 p.qw,.int .i64 p.qh,.int .i64 p.an] 82 (0,0))∧W.heap[w.heap.size+1]?=some (.cells #[.int .i64 x0,.int .i64 y0,.int .i64 w0,.int .i64 h0] 45 (0,0))∧W.heap[w.heap.size+1+1]?=some (.cells #[.int .i64 0,.int .i64 0,.int .i64 0,.int .i64 0] 45 (0,0))∧Below w.heap.size w W) ⟨HX0.out,HY0.out,HZ0.out,HB0.out⟩ (fun w1 h1=>?_)
 clear HX0 HY0 HZ0 HB0;obtain ⟨hx,hy,hz,hb⟩:=h1;have HX:=hD hx;have HY:=hD hy;have HZ:=hD hz;have HB:=hD hb;clear hx hy hz hb;obtain ⟨c0,c1,c2,c3,c4,c5,c6,c7,c8⟩:=c9_q HX.out;have d0:=cl_q HY.out 0;have d1:=cl_q HY.out 1;have d2:=cl_q HY.out 2;have d3:=cl_q HY.out 3;have lx:=lt_q HX.out;have ly:=lt_q HY.out;refine wp_region_grow 9 1 (·<9) (by kernel_rfl) (by kernel_rfl) rfl ?_
 iterate 9 (refine wpG_step (fun K hK=>?_);first | (refine grow_skip rfl ?_;go_simp;refine hK _ ?_;clear hK K) | (apply Exists.intro;refine ⟨.inl ⟨rfl,fun w' hw'=>?_⟩,?_⟩;(focus ((obtain ⟨hc,hf⟩:=bcell hw'.out);(have hcS:=bcellS hw'.out);go_simp <;> first | rfl | (go_at_call 158;exact part_w _ _ _ (by assumption) (by assumption) (by assumption) (by assumption))));(go_simp;refine hK _ ?_;clear hK K)))
 refine wpG_nil ?_;refine wpK_tail (by kernel_rfl) (fun w2 hg2=>?_);have hb2:=bdrewn hg2.out;obtain ⟨hc2,hf2⟩:=bcell hb2;refine wpAny_one (i:=9) (by kernel_rfl) rfl rfl ?_;go_simp;refine wpAny_end (by kernel_rfl) ?_;refine NoPan.thn ?_;clear hc2 hf2;clear hg2;clear c0 c1 c2 c3 c4 c5 c6 c7 c8 d0 d1 d2 d3 lx ly;replace HX:=hbk hb2 HX;replace HY:=hbk hb2 HY;replace HZ:=hbk hb2 HZ
 replace HB:=hD (bkeep2 HB.out hb2);clear hb2;obtain ⟨c0,c1,c2,c3,c4,c5,c6,c7,c8⟩:=c9_q HX.out;have d0:=cl_q HY.out 0;have d1:=cl_q HY.out 1;have d2:=cl_q HY.out 2;have d3:=cl_q HY.out 3;have lx:=lt_q HX.out;have ly:=lt_q HY.out
 go_wp2_with fail
 refine wp_region_grow 9 1 (·<9) (by kernel_rfl) (by kernel_rfl) rfl ?_
 iterate 9 (refine wpG_step (fun K hK=>?_);first | (refine grow_skip rfl ?_;go_simp;refine hK _ ?_;clear hK K) | (apply Exists.intro;refine ⟨.inl ⟨rfl,fun w' hw'=>?_⟩,?_⟩;(focus ((obtain ⟨hc,hf⟩:=bcell hw'.out);(have hcS:=bcellS hw'.out);go_simp <;> first | rfl | (go_at_call 158;exact part_w _ _ _ (by assumption) (by assumption) (by assumption) (by assumption))));(go_simp;refine hK _ ?_;clear hK K)))
 refine wpG_nil ?_;refine wpK_tail (by kernel_rfl) (fun w3 hg3=>?_);have hb3:=bdrewn hg3.out;obtain ⟨hc3,hf3⟩:=bcell hb3;refine wpAny_one (i:=9) (by kernel_rfl) rfl rfl ?_;go_simp;refine wpAny_end (by kernel_rfl) ?_;refine NoPan.thn ?_;clear hc3 hf3;clear hg3;clear c0 c1 c2 c3 c4 c5 c6 c7 c8 d0 d1 d2 d3 lx ly;replace HX:=hbk hb3 HX;replace HY:=hbk hb3 HY;replace HZ:=hbk hb3 HZ
 replace HB:=hD (bkeep2 HB.out hb3);clear hb3;obtain ⟨c0,c1,c2,c3,c4,c5,c6,c7,c8⟩:=c9_q HX.out;have d0:=cl_q HY.out 0;have d1:=cl_q HY.out 1;have d2:=cl_q HY.out 2;have d3:=cl_q HY.out 3;have lx:=lt_q HX.out;have ly:=lt_q HY.out
 go_wp2_with fail
 refine wp_region_grow 15 1 (·<15) (by kernel_rfl) (by kernel_rfl) rfl ?_
 iterate 15 (refine wpG_step (fun K hK=>?_);first | (refine grow_skip rfl ?_;go_simp;refine hK _ ?_;clear hK K) | (apply Exists.intro;refine ⟨.inl ⟨rfl,fun w' hw'=>?_⟩,?_⟩;(focus ((obtain ⟨hc,hf⟩:=bcell hw'.out);(have hcS:=bcellS hw'.out);go_simp <;> first | rfl | (go_at_call 158;exact part_w _ _ _ (by assumption) (by assumption) (by assumption) (by assumption))));(go_simp;refine hK _ ?_;clear hK K)))
 refine wpG_nil ?_;refine wpK_tail (by kernel_rfl) (fun w4 hg4=>?_);have hb4:=bdrewn hg4.out;obtain ⟨hc4,hf4⟩:=bcell hb4;refine wpAny_one (i:=15) (by kernel_rfl) rfl rfl ?_;go_simp;refine wpAny_end (by kernel_rfl) ?_;refine NoPan.thn ?_;clear hc4 hf4;clear hg4;clear c0 c1 c2 c3 c4 c5 c6 c7 c8 d0 d1 d2 d3 lx ly;replace HX:=hbk hb4 HX;replace HY:=hbk hb4 HY;replace HZ:=hbk hb4 HZ
 replace HB:=hD (bkeep2 HB.out hb4);clear hb4;obtain ⟨c0,c1,c2,c3,c4,c5,c6,c7,c8⟩:=c9_q HX.out;have d0:=cl_q HY.out 0;have d1:=cl_q HY.out 1;have d2:=cl_q HY.out 2;have d3:=cl_q HY.out 3;have lx:=lt_q HX.out;have ly:=lt_q HY.out
 go_wp2_with fail
 refine wp_region_grow 15 1 (·<15) (by kernel_rfl) (by kernel_rfl) rfl ?_
 iterate 15 (refine wpG_step (fun K hK=>?_);first | (refine grow_skip rfl ?_;go_simp;refine hK _ ?_;clear hK K) | (apply Exists.intro;refine ⟨.inl ⟨rfl,fun w' hw'=>?_⟩,?_⟩;(focus ((obtain ⟨hc,hf⟩:=bcell hw'.out);(have hcS:=bcellS hw'.out);go_simp <;> first | rfl | (go_at_call 158;exact part_w _ _ _ (by assumption) (by assumption) (by assumption) (by assumption))));(go_simp;refine hK _ ?_;clear hK K)))
 refine wpG_nil ?_;refine wpK_tail (by kernel_rfl) (fun w5 hg5=>?_);have hb5:=bdrewn hg5.out;obtain ⟨hc5,hf5⟩:=bcell hb5;refine wpAny_one (i:=15) (by kernel_rfl) rfl rfl ?_;go_simp;refine wpAny_end (by kernel_rfl) ?_;refine NoPan.thn ?_;clear hc5 hf5;clear hg5;clear c0 c1 c2 c3 c4 c5 c6 c7 c8 d0 d1 d2 d3 lx ly;replace HX:=hbk hb5 HX;replace HY:=hbk hb5 HY;replace HZ:=hbk hb5 HZ
 replace HB:=hD (bkeep2 HB.out hb5);clear hb5;obtain ⟨c0,c1,c2,c3,c4,c5,c6,c7,c8⟩:=c9_q HX.out;have d0:=cl_q HY.out 0;have d1:=cl_q HY.out 1;have d2:=cl_q HY.out 2;have d3:=cl_q HY.out 3;have lx:=lt_q HX.out;have ly:=lt_q HY.out;have z0:=cl_q HZ.out 0;have z1:=cl_q HZ.out 1;have z2:=cl_q HZ.out 2;have z3:=cl_q HZ.out 3;have f0:=fz_q HZ.out 0;have f1:=fz_q HZ.out 1;have f2:=fz_q HZ.out 2
 have f3:=fz_q HZ.out 3;have q:=put_q (i:=3) (put_q (i:=2) (put_q (i:=1) (put_q (i:=0) HZ.out (.int .i64 (x0+xM p w0))) (.int .i64 (y0+yM p h0))) (.int .i64 (wM p w0))) (.int .i64 (hM p h0));simp only [List.setIfInBounds_toArray,List.set_cons_succ,List.set_cons_zero] at q;have HQ:=hD q
 have HB2:=hD (bset (a:=⟨w.heap.size+1+1,3,none⟩) (u:=.int .i64 (hM p h0)) (bset (a:=⟨w.heap.size+1+1,2,none⟩) (u:=.int .i64 (wM p w0)) (bset (a:=⟨w.heap.size+1+1,1,none⟩) (u:=.int .i64 (y0+yM p h0)) (bset (a:=⟨w.heap.size+1+1,0,none⟩) (u:=.int .i64 (x0+xM p w0)) HB.out (by simp;omega)) (by simp;omega)) (by simp;omega)) (by simp;omega));clear q
 go_wp2_with fail
 refine bp_genQ (fun W=>W.heap[w.heap.size+1+1]?=some (.cells #[.int .i64 (x0+xM p w0),.int .i64 (y0+yM p h0),.int .i64 (wM p w0),.int .i64 (hM p h0)] 45 (0,0))∧Below w.heap.size w W) ⟨HQ.out,HB2.out⟩ ?_;clear HQ HB2 HB HY HX HZ z0 z1 z2 z3 f0 f1 f2 f3;clear c0 c1 c2 c3 c4 c5 c6 c7 c8 d0 d1 d2 d3 lx ly;rintro W ⟨hq,hb⟩;have d0:=cl_q hq 0;have d1:=cl_q hq 1;have d2:=cl_q hq 2;have d3:=cl_q hq 3
 exact bodyPost_ret (v:=.agg #[.int .i64 (x0+xM p w0),.int .i64 (y0+yM p h0),.int .i64 (wM p w0),.int .i64 (hM p h0)]) (by simp only [results,Tryz.results116];go_simp) rfl ⟨rfl,hb⟩
end
end Go.Proofs.YtenckjdiggaonaaGreat
