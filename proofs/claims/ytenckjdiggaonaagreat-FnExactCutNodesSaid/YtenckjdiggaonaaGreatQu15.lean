import Derived.Test.YtenckjdiggaonaaGreatQu14
import Derived.Deep.Draws
import Derived.OrdersIn
import Derived.TacticsIn
set_option linter.unusedVariables false
set_option linter.unusedSimpArgs false
set_option maxRecDepth 100000
set_option maxHeartbeats 16000000
namespace Go.Proofs.YtenckjdiggaonaaGreat
open Go.RowKit
attribute [local go_sem] growUpon_value growUpon_skip growUpon_enter
section
theorem idsM_one {f:Nat→Bool} (h:f 0=false):idsM f 1=[]:=by rw [idsM_no h];rfl
theorem skidsOf_b (A:Option Addr) (c:Nat) (R:List Nr) (i:Int) (w:World) (h:NrV w A R) (h1:1≤R.length) (hL:R.length≤1048576) (hz:isKid R i 0=false) :
  Calls Tryz.prog 71 #[.agg #[.slice A R.length c],.int .i64 i] w fun e w'=>(∃ v,e=.returned v∧KdV w' v (kidsM R i)∧∀ k,v.ownBlock=some k→w.heap.size≤k)∧Below w.heap.size w w':=by
 obtain ⟨ti,tz,ti1,ti2,ti3,ti4,ti5⟩:=int_infoW;obtain ⟨b,off,rfl,hb,hc⟩:=h.cells h1;have HC:=hD hc;clear hc h;refine calls_abs Tryz.func71 rfl 28 (by simp only [Tryz.ntmps71]) (by simp) (fun t hsz hargs=>?_);have q0:t[0]?=some (.agg #[.slice (some ⟨b,off,none⟩) R.length c]):=get_of (by omega) (hargs 0 _ rfl);have q1:t[1]?=some (.int .i64 i):=get_of (by omega) (hargs 1 _ rfl);clear hargs
 obtain ⟨l0,e0⟩:=gE q0;obtain ⟨l1,e1⟩:=gE q1
 refine wp_seq_h fun K hK=>?_
 apply wp_region_lit
 repeat (first | go_step)
 refine hK.out _ _ ?_;clear hK K;refine wp_abw (fun t' W'=>t'.size=28∧t'[1]?=some (.int .i64 i)∧t'[2]?=some (.pointer (some ⟨w.heap.size,0,none⟩))∧W'.heap[w.heap.size]?=some (.cells #[.slice (some ⟨b,off,none⟩) R.length c] 30 (0,0))∧Below w.heap.size w W') ⟨by simp [Act.put,hsz],by simp [Act.put,q1],by simp [Act.put,hsz],⟨newS _ _,balloc (Below.refl _ _)⟩⟩ ?_;clear hsz q0 l0 e0 q1 l1 e1 t
 rintro t Wb ⟨hsz,q1,q2,HX,hB0⟩;have HXX:=hD HX;have HB0:=hD hB0;replace HC:=hD (show ∀ k p,R[k]?=some p→Wb.rangeAt b (off+k*34) (valsNr p) from fun k p hk=>rangeB (HC.out k p hk) (hB0.block b hb));have hbl:b<Wb.heap.size:=Nat.lt_of_lt_of_le hb hB0.size;have lxb:w.heap.size<Wb.heap.size:=ltS HX;clear HX hB0 hb;obtain ⟨l1,e1⟩:=gE q1;obtain ⟨l2,e2⟩:=gE q2
 refine wp_seq_h fun K hK=>?_
 apply wp_region_lit
 repeat (first | go_step)
 refine hK.out _ _ ?_;clear hK K
 refine wp_abw (fun t' W'=>t'.size=28∧t'[1]?=some (.int .i64 i)∧t'[2]?=some (.pointer (some ⟨w.heap.size,0,none⟩))∧t'[5]?=some (.slice (some ⟨Wb.heap.size,0,none⟩) 0 0)∧W'.ownsRow Wb.heap.size 3 1 (.slice (some ⟨Wb.heap.size,0,none⟩) 0 0) 0 (nvalsW [])∧Below Wb.heap.size Wb W') ⟨by simp [Act.put,hsz],by simp [Act.put,q1],by simp [Act.put,q2],by simp [Act.put,hsz],⟨World.ownsRow_lit (base:=Wb.heap.size) (e:=3) (size:=1) Wb #[] 0 (Nat.le_refl _) (by decide) rfl,balloc (Below.refl _ _)⟩⟩ ?_
 clear hsz q1 l1 e1 q2 l2 e2 t;rintro t W0 ⟨hsz,q1,q2,q5,hO,hB⟩
 refine wp_seq_h fun KE hKE=>?_
 obtain ⟨l1,e1⟩:=gE q1;obtain ⟨l2,e2⟩:=gE q2;obtain ⟨l5,e5⟩:=gE q5
 refine wp_seq_h fun K hK=>?_
 apply wp_region_lit
 repeat (first | go_step)
 refine hK.out _ _ ?_;clear hK K;refine wp_abw (fun t' W'=>t'.size=28∧t'[1]?=some (.int .i64 i)∧t'[2]?=some (.pointer (some ⟨w.heap.size,0,none⟩))∧t'[5]?=some (.slice (some ⟨Wb.heap.size,0,none⟩) 0 0)∧t'[6]?=some (.int .i64 ((1:Nat):Int))∧W0=W') ⟨by simp [Act.put,hsz],by simp [Act.put,q1],by simp [Act.put,q2],by simp [Act.put,q5],by simp [Act.put,hsz],rfl⟩ ?_;clear hsz q1 l1 e1 q2 l2 e2 q5 l5 e5 t
 rintro t _ ⟨hsz,q1,q2,q5,q6,rfl⟩;apply wp_block
 refine wp_loop (fun a W=>∃ (t:Array Value) (k:Nat) (v:Value),a=⟨t,[]⟩∧1≤k∧k≤R.length∧t.size=28∧t[1]?=some (.int .i64 i)∧t[2]?=some (.pointer (some ⟨w.heap.size,0,none⟩))∧t[5]?=some (v)∧t[6]?=some (.int .i64 (k:Int))∧W.ownsRow Wb.heap.size 3 1 v (idsM (isKid R i) k).length (nvalsW (idsM (isKid R i) k))∧Below Wb.heap.size Wb W) (fun a _=>R.length - (intOf (a.tmps.getD 6 undef)).toNat) ⟨t,1,_,rfl,by omega,h1,hsz,q1,q2,q5,q6,by rw [idsM_one hz];exact hO,hB⟩ ?_
 clear t hsz q1 q2 q5 q6 hO hB W0;rintro a W ⟨t,k,v,rfl,hk1,hk,hsz,q1,q2,q5,q6,hO,hB⟩
 have hmu:intOf (t.getD 6 undef)=(k:Int):=by rw [Array.getD_eq_getD_getElem?,q6];rfl
 dsimp only
 rw [hmu];clear hmu;have HO:=hD hO;have HB:=hD hB;have x0:=cellS ((hB.block _ lxb).trans HXX.out) 0;have lx:w.heap.size<W.heap.size:=Nat.lt_of_lt_of_le lxb hB.size;clear hO hB
 by_cases hlt:k<R.length
 ·have hd:decide ((k:Int)<(R.length:Int))=true:=by simpa using hlt
  refine wp_seq_h fun K1 hK1=>?_
  obtain ⟨l1,e1⟩:=gE q1;obtain ⟨l2,e2⟩:=gE q2;obtain ⟨l5,e5⟩:=gE q5;obtain ⟨l6,e6⟩:=gE q6
  refine wp_seq_h fun K hK=>?_
  apply wp_region_lit
  repeat (first | go_step)
  refine hK.out _ _ ?_;clear hK K;refine wp_abw (fun t' W'=>t'.size=28∧t'[1]?=some (.int .i64 i)∧t'[2]?=some (.pointer (some ⟨w.heap.size,0,none⟩))∧t'[5]?=some (v)∧t'[6]?=some (.int .i64 (k:Int))∧t'[12]?=some (.bool true)∧W=W') ⟨by simp [Act.put,hsz],by simp [Act.put,q1],by simp [Act.put,q2],by simp [Act.put,q5],by simp [Act.put,q6],by simp [Act.put,hsz,hd],rfl⟩ ?_
  clear hsz q1 l1 e1 q2 l2 e2 q5 l5 e5 q6 l6 e6 t;rintro t _ ⟨hsz,q1,q2,q5,q6,q12,rfl⟩;clear hd;refine wp_cond_true (by simp [Act.eval,q12]) ?_;apply wp_skip;simp only [Exit.then];refine hK1.out _ _ ?_;clear hK1 K1 q12
  refine wp_seq_h fun KB hKB=>?_
  apply wp_block;have hget:R[k]?=some R[k]:=List.getElem?_eq_getElem hlt;have c0:W.cell? ⟨b,off+k*34,none⟩=some (.int .i64 R[k].n.pa):=(HB.out.cell (p:=⟨b,off+k*34,none⟩) hbl).trans (HC.out k _ hget 0 _ rfl);have hik:=isKid_at (i:=i) hget;generalize R[k]=p at *
  have hd1:(k:Int)<(R.length:Int):=by omega
  have hbl1:b<W.heap.size:=Nat.lt_of_lt_of_le hbl HB.out.size;have HIK:=hD hik;clear hget hik;obtain ⟨l1,e1⟩:=gE q1;obtain ⟨l2,e2⟩:=gE q2;obtain ⟨l5,e5⟩:=gE q5;obtain ⟨l6,e6⟩:=gE q6
  refine wp_seq_h fun K hK=>?_
  apply wp_region_lit
  repeat (first | go_step)
  refine hK.out _ _ ?_;clear hK K;refine wp_abw (fun t' W'=>t'.size=28∧t'[1]?=some (.int .i64 i)∧t'[2]?=some (.pointer (some ⟨w.heap.size,0,none⟩))∧t'[5]?=some (v)∧t'[6]?=some (.int .i64 (k:Int))∧t'[22]?=some (.bool (isKid R i k))∧W=W') ⟨by simp [Act.put,hsz],by simp [Act.put,q1],by simp [Act.put,q2],by simp [Act.put,q5],by simp [Act.put,q6],by simp [Act.put,hsz,HIK.out],rfl⟩ ?_
  clear hsz q1 l1 e1 q2 l2 e2 q5 l5 e5 q6 l6 e6 t c0 hd1 hbl1;rintro t _ ⟨hsz,q1,q2,q5,q6,q22,rfl⟩
  by_cases hfk:isKid R i k=true
  ·have hids:=idsM_yes hfk;rw [hfk] at q22;refine wp_cond_true (by simp [Act.eval,q22]) ?_;clear q22;obtain ⟨l1,e1⟩:=gE q1;obtain ⟨l2,e2⟩:=gE q2;obtain ⟨l5,e5⟩:=gE q5;obtain ⟨l6,e6⟩:=gE q6;have hob:∀ b,v.ownBlock=some b→Wb.heap.size≤b∧b<W.heap.size:=HO.out.lt;have hw1:Wb.heap.size≤W.heap.size:=HB.out.size;have hlen:=idsM_len (isKid R i) k;apply wp_region_lit
   repeat (first | ((with_reducible show wpList _ _ _ _ _ _);refine wpList_append_own _ rfl _ _ 37 rfl Wb.heap.size 3 ti tz 1 8 Tryz.underlying37 ti1 ti2 ti3 ti4 ti5 (by decide) v _ _ (by simp [Act.eval,Act.put,hsz,e5]) (HO.out.alloc _) ⟨W.heap.size,0,none⟩ 1 1 [.int .i64 (k:Int)] (by simp [Act.eval,Act.put,hsz]) rfl (newW _ _ _) (by simp [Value.oneCell']) (by simp only [maxLen];omega) (by omega) (by simp;omega) ?_) | go_step)
   intro v5 w5 how5 hgr5 _;have hb5:=below_own HB.out hgr5 hob (Nat.le_refl _) (Nat.le_refl _);rw [nvalsW_snoc,<- hids] at how5
   have hlen5:(idsM (isKid R i) k).length+1=(idsM (isKid R i) (k+1)).length:=by rw [hids];simp
   rw [hlen5] at how5;clear hlen5 hids
   repeat go_step
   try simp only [Exit.inBlock]
   refine hKB.out _ _ ?_;clear hKB KB;refine wp_abw (fun t' W'=>t'.size=28∧t'[1]?=some (.int .i64 i)∧t'[2]?=some (.pointer (some ⟨w.heap.size,0,none⟩))∧t'[5]?=some (v5)∧t'[6]?=some (.int .i64 (k:Int))∧w5=W') ⟨by simp [Act.put,hsz],by simp [Act.put,q1],by simp [Act.put,q2],by simp [Act.put,hsz],by simp [Act.put,q6],rfl⟩ ?_;clear hsz q1 l1 e1 q2 l2 e2 q5 l5 e5 q6 l6 e6 t hob hw1
   rintro t _ ⟨hsz,q1,q2,q5,q6,rfl⟩;obtain ⟨l1,e1⟩:=gE q1;obtain ⟨l2,e2⟩:=gE q2;obtain ⟨l5,e5⟩:=gE q5;obtain ⟨l6,e6⟩:=gE q6;apply wp_region_lit
   repeat go_step
   try simp only [Exit.then]
   refine ⟨⟨_,k+1,v5,rfl,by omega,by omega,by simp [hsz],by simp [q1],by simp [q2],by simp [q5],by simp [hsz],how5,hb5⟩,?_⟩
   ·simp [hsz,intOf]
    omega
  ·have hfk':isKid R i k=false:=by simpa using hfk
   have hids:=idsM_no hfk';rw [hfk'] at q22;refine wp_cond_false (by simp [Act.eval,q22]) ?_;clear q22;apply wp_skip
   try simp only [Exit.inBlock]
   refine hKB.out _ _ ?_;clear hKB KB;obtain ⟨l1,e1⟩:=gE q1;obtain ⟨l2,e2⟩:=gE q2;obtain ⟨l5,e5⟩:=gE q5;obtain ⟨l6,e6⟩:=gE q6;apply wp_region_lit
   repeat go_step
   try simp only [Exit.then]
   refine ⟨⟨_,k+1,v,rfl,by omega,by omega,by simp [hsz],by simp [q1],by simp [q2],by simp [q5],by simp [hsz],by rw [hids];exact HO.out,HB.out⟩,?_⟩
   ·simp [hsz,intOf]
    omega
 ·have hd:decide ((k:Int)<(R.length:Int))=false:=decide_eq_false (by omega)
  refine wp_seq_h fun K1 hK1=>?_
  obtain ⟨l1,e1⟩:=gE q1;obtain ⟨l2,e2⟩:=gE q2;obtain ⟨l5,e5⟩:=gE q5;obtain ⟨l6,e6⟩:=gE q6
  refine wp_seq_h fun K hK=>?_
  apply wp_region_lit
  repeat (first | go_step)
  refine hK.out _ _ ?_;clear hK K;refine wp_abw (fun t' W'=>t'.size=28∧t'[1]?=some (.int .i64 i)∧t'[2]?=some (.pointer (some ⟨w.heap.size,0,none⟩))∧t'[5]?=some (v)∧t'[6]?=some (.int .i64 (k:Int))∧t'[12]?=some (.bool false)∧W=W') ⟨by simp [Act.put,hsz],by simp [Act.put,q1],by simp [Act.put,q2],by simp [Act.put,q5],by simp [Act.put,q6],by simp [Act.put,hsz,hd],rfl⟩ ?_
  clear hsz q1 l1 e1 q2 l2 e2 q5 l5 e5 q6 l6 e6 t;rintro t _ ⟨hsz,q1,q2,q5,q6,q12,rfl⟩;refine wp_cond_false (by simp [Act.eval,q12]) ?_;apply wp_exit;simp only [Exit.then,Exit.inBlock,if_true];refine hKE.out _ _ ?_;clear hd
  obtain rfl:k=R.length:=by omega
  obtain ⟨l1,e1⟩:=gE q1;obtain ⟨l2,e2⟩:=gE q2;obtain ⟨l5,e5⟩:=gE q5;obtain ⟨l6,e6⟩:=gE q6;obtain ⟨l12,e12⟩:=gE q12
  repeat go_step
  refine bodyPost_ret (results_tmp rfl _ _ _) rfl ?_;exact ⟨⟨v,by simp [hsz],KdV.of HO.out,fun k hk=>Nat.le_trans HB0.out.size (HO.out.lt k hk).1⟩,bkeep2 HB0.out HB.out⟩
theorem skidsOf_v (A:Option Addr) (c:Nat) (R:List Nr) (i:Int) (w:World) (h:NrV w A R) (h1:1≤R.length) (hL:R.length≤1048576) (hz:isKid R i 0=false) :
  Calls Tryz.prog 71 #[.agg #[.slice A R.length c],.int .i64 i] w fun e w'=>(∃ v,e=.returned v∧KdV w' v (kidsM R i))∧Below w.heap.size w w' :=
 (skidsOf_b A c R i w h h1 hL hz).mono fun e w' ⟨⟨v,e1,e2,_⟩,hb⟩=>⟨⟨v,e1,e2⟩,hb⟩
end
section
section
variable {P:Program}
def rgC (l:List Oper) (size:Nat):Bool :=
 Region.noSelect l.toArray &&
 ((List.range l.length).all fun i=>match l[i]? with
  | none=>true
  | some o=>(o.after.toList.all fun e=>!Region.binds .any e || decide (e.on<i)) &&
   (o.dst.all fun d=>decide (d<size) && dstIdx d l 0 == some i) &&
   ((o.looksAt l.toArray).all fun t=>match dstIdx t l 0 with
    | none=>true
    | some j=>o.after.toList.any fun e=>e.on == j && Region.binds .any e))
end
end
section
section
variable {P:Program}
def reachB (l:List Oper):Nat→Nat→Nat→Bool
 | 0,_,_=>false
 | f+1,i,j=>match l[i]? with
  | none=>false
  | some o=>o.after.toList.any fun e=>Region.binds .any e && (e.on == j || reachB l f e.on j)
def cloB (l:List Oper) (n:Nat):Bool:=decide (n≤l.length) && (List.range l.length).all fun i=>decide (i<n) || (List.range n).all fun j=>reachB l l.length i j
def DC (l:List Oper) (listed:Array Bool):Prop:=∀ (i:Nat) (o:Oper),l[i]?=some o→listed.getD i false=true→∀ e ∈ o.after,Region.binds .any e=true→listed.getD e.on false=true
theorem DC.reach {l:List Oper} {listed:Array Bool} (h:DC l listed):∀ (f:Nat) {i j:Nat},listed.getD i false=true→reachB l f i j=true→listed.getD j false=true
 | 0,i,j,_,hr=>by simp [reachB] at hr
 | f+1,i,j,hi,hr=>by
  rw [reachB] at hr
  cases ho:l[i]? with
  | none=>rw [ho] at hr;simp at hr
  | some o =>
   rw [ho] at hr;simp only [List.any_eq_true,Bool.and_eq_true,Bool.or_eq_true,beq_iff_eq] at hr;obtain ⟨e,he,hb,hr⟩:=hr;have hl:=h i o ho hi e (by simpa using he) hb
   rcases hr with rfl | hr
   ·exact hl
   ·exact DC.reach h f hl hr
theorem DC.set {l:List Oper} {listed:Array Bool} (h:DC l listed) {i:Nat} {o:Oper} (ho:l[i]?=some o) (hall:∀ e ∈ o.after,Region.binds .any e=true→listed.getD e.on false=true):DC l (listed.setIfInBounds i true):=fun k p hp hl e he hb=>by
 by_cases e1:i=k
 ·subst e1;rw [ho] at hp;obtain rfl:=Option.some.inj hp;exact getD_set_true (hall e he hb)
 ·rw [getD_set_ne false e1] at hl;exact getD_set_true (h k p hp hl e he hb)
theorem cntF_lt (n1:Nat):∀ n:Nat,cntF (fun i=>decide (i<n1)) n=n - n1
 | 0=>by simp [cntF]
 | n+1=>by
  simp only [cntF,cntF_lt n1 n]
  by_cases h:n<n1
  ·simp [h];omega
  ·simp [h];omega
theorem listedTo_size:∀ (m k:Nat) (l:Array Bool),(listedTo m k l).size=l.size
 | 0,_,_=>rfl
 | m+1,k,l=>by rw [listedTo,listedTo_size];simp
theorem listedTo_getD:∀ {m k:Nat} {l:Array Bool} {i:Nat},k+m≤l.size→(listedTo m k l).getD i false=if k≤i∧i<k+m then true else l.getD i false
 | 0,k,l,i,_=>by rw [listedTo,if_neg (by omega)]
 | m+1,k,l,i,h=>by
  rw [listedTo,listedTo_getD (by simpa using (by omega:k+1+m≤l.size))]
  by_cases e:i=k
  ·subst e;rw [if_neg (by omega),if_pos (by omega),Array.getD_eq_getD_getElem?,Array.getElem?_setIfInBounds_self_of_lt (by omega)]
   rfl
  ·rw [getD_set_ne false (fun h=>e h.symm)]
   by_cases h2:k+1≤i∧i<k+1+m
   ·rw [if_pos h2,if_pos (by omega)]
   ·rw [if_neg h2,if_neg (by omega)]
theorem wpAny_rgp {l:List Oper} {Q:Exit→Act→World→Prop} {a0:Act} {w:World} (T:Nat→Value→World→Prop) (R:World→World→Prop) (I:Nat→World→Prop)
  (n1:Nat) (hB:rgC l a0.tmps.size=true) (hC:cloB l n1=true) (hRr:∀ a,R a a) (hRt:∀ a b c,R a b→R b c→R a c) (hTs:∀ k v a b,T k v a→R a b→T k v b) (hI0:I 0 w.drew)
  (hops:opsOK P l T R I a0 w.drew (l.take n1) 0) (hfin:∀ w',R w.drew w'→I n1 w'→finP T w' (fun a'=>wpAny P .any l.toArray Q (l.length - n1) (listedTo n1 0 (Array.replicate l.toArray.size false)) a' w') (l.take n1) 0 a0):wpAny P .any l.toArray Q l.toArray.size (Array.replicate l.toArray.size false) a0 w.drew:=by
 simp only [rgC,Bool.and_eq_true] at hB;obtain ⟨hns,hB⟩:=hB
 have hB':∀ (i:Nat) (o:Oper),l[i]?=some o→(∀ e ∈ o.after,Region.binds .any e=true→e.on<i)∧(∀ d,o.dst=some d→d<a0.tmps.size∧dstIdx d l 0=some i)∧(∀ t ∈ o.looksAt l.toArray,∀ j,dstIdx t l 0=some j→∃ e ∈ o.after,e.on=j∧Region.binds .any e=true):=by
  intro i o ho;have hlt:=(List.getElem?_eq_some_iff.1 ho).1;have h1:=List.all_eq_true.1 hB i (List.mem_range.2 hlt);simp only [ho,Bool.and_eq_true] at h1;obtain ⟨⟨h1,h2⟩,h3⟩:=h1;refine ⟨fun e he hb=>by have:=List.all_eq_true.1 h1 e (by simpa using he);simpa [hb] using this,fun d hd=>?_,fun t ht j hj=>?_⟩
  ·rw [hd] at h2;simp only [Option.all_some,Bool.and_eq_true,decide_eq_true_eq,beq_iff_eq] at h2;exact h2
  ·have h4:=List.all_eq_true.1 h3 t ht;rw [hj] at h4;obtain ⟨e,he,h5⟩:=List.any_eq_true.1 h4;simp only [Bool.and_eq_true,beq_iff_eq] at h5;exact ⟨e,by simpa using he,h5⟩
 have hdist:∀ (i:Nat) (o:Oper) (j:Nat) (p:Oper),l[i]?=some o→l[j]?=some p→i ≠ j→∀ d,o.dst=some d→p.dst ≠ some d:=by
  intro i o j p ho hp hij d hd hpd;have h1:=((hB' i o ho).2.1 d hd).2;rw [((hB' j p hp).2.1 d hpd).2] at h1
  injection h1 with h1
  exact hij h1.symm
 obtain ⟨hle1,hcl⟩:n1≤l.length∧∀ i,n1≤i→i<l.length→∀ j,j<n1→reachB l l.length i j=true:=by
  simp only [cloB,Bool.and_eq_true,decide_eq_true_eq,List.all_eq_true,List.mem_range,Bool.or_eq_true] at hC;refine ⟨hC.1,fun i hi hil j hj=>?_⟩
  rcases hC.2 i hil with h | h
  ·omega
  ·exact h j hj
 have main:∀ (fuel m:Nat) (listed:Array Bool) (a:Act) (w':World),cntF (fun i=>listed.getD i true) l.length=fuel→listed.size=l.length→fuel+m=l.length→(∀ i,n1≤i→i<l.length→listed.getD i false=false)→DC l listed→RJ l T R I a0 w.drew m listed a w' →
   wpAny P .any l.toArray Q fuel listed a w':=by
  intro fuel
  have hdone:∀ (m:Nat) (listed:Array Bool) (a:Act) (w':World),cntF (fun i=>listed.getD i true) l.length=l.length - m→listed.size=l.length→m≤l.length→(∀ i,n1≤i→i<l.length→listed.getD i false=false)→(∀ i,i<n1→listed.getD i false=true)→RJ l T R I a0 w.drew m listed a w'→wpAny P .any l.toArray Q (l.length - m) listed a w':=by
   rintro m listed a w' hc hls hml hlow hall ⟨hR,hI,hd,hs,ht,hT⟩
   have hm1:m=n1:=by
    have h1:cntF (fun i=>listed.getD i true) l.length=cntF (fun i=>decide (i<n1)) l.length:=cntF_same (fun i hi=>by
     by_cases h:i<n1
     ·have:=hall i h
      rw [Array.getD_eq_getD_getElem?,Array.getElem?_eq_getElem (by omega)] at *
      simpa [h] using this
     ·have:=hlow i (by omega) hi
      rw [Array.getD_eq_getD_getElem?,Array.getElem?_eq_getElem (by omega)] at *
      simpa [h] using this)
    rw [h1,cntF_lt] at hc;omega
   subst hm1
   have he:listed=listedTo m 0 (Array.replicate l.toArray.size false):=by
    apply Array.ext
    ·rw [listedTo_size];simp [hls]
    ·intro i h1 h2
     have e1:listed[i]=listed.getD i false:=by rw [Array.getD_eq_getD_getElem?,Array.getElem?_eq_getElem h1];rfl
     have e2:(listedTo m 0 (Array.replicate l.toArray.size false))[i]=(listedTo m 0 (Array.replicate l.toArray.size false)).getD i false:=by rw [Array.getD_eq_getD_getElem?,Array.getElem?_eq_getElem h2];rfl
     rw [e1,e2,listedTo_getD (by simpa using (by omega:0+m≤l.length))]
     by_cases h:i<m
     ·rw [hall i h,if_pos (by omega)]
     ·rw [hlow i (by omega) (by omega),if_neg (by omega),Array.getD_eq_getD_getElem?,Array.getElem?_replicate]
      split <;> rfl
   have hlm:∀ (j:Nat) (o:Oper),l[j]?=some o→listed.getD j false=true→j<m:=fun j o ho hl=>by
    by_cases h:j<m
    ·exact h
    ·exfalso
     have:=hlow j (by omega) (List.getElem?_eq_some_iff.1 ho).1
     rw [hl] at this
     cases this
   rw [he];refine finP_to (T:=T) (w:=w') (F:=fun a'=>wpAny P .any l.toArray Q (l.length - m) (listedTo m 0 (Array.replicate l.toArray.size false)) a' w') (l:=l.take m) (k:=0) (b:=a0) hd.symm hs.symm (fun t h=>?_) (fun j o ho hn=>?_) (hfin w' hR hI)
   ·exact (ht t fun j o ho hl=>h o (by
     have hj:=hlm j o ho hl
     exact List.mem_of_getElem? (i:=j) (by rw [List.getElem?_take,if_pos hj];exact ho))).symm
   ·rw [Nat.zero_add];rw [List.getElem?_take] at ho
    split at ho
    ·rename_i hj
     exact hT j o ho (hall j hj) hn
    ·cases ho
  induction fuel with
  | zero =>
   intro m listed a w' hc hls hm' hlow hdc hJ
   have hall:∀ i,i<l.length→listed.getD i false=true:=fun i hi=>by
    have:=cntF_zero hc i hi
    rw [Array.getD_eq_getD_getElem?,Array.getElem?_eq_getElem (by omega)] at *
    simpa using this
   have h:=hdone m listed a w' (by rw [hc];omega) hls (by omega) hlow (fun i hi=>hall i (by omega)) hJ
   rwa [show l.length - m=0 by omega] at h
  | succ fuel ih =>
   intro m listed a w' hc hls hm' hlow hdc hJ
   by_cases hph:∀ i,i<n1→listed.getD i false=true
   ·have h:=hdone m listed a w' (by rw [hc];omega) hls (by omega) hlow hph hJ
    rwa [show l.length - m=fuel+1 by omega] at h
   have hlt1:∀ (i:Nat) (o:Oper),l[i]?=some o→listed.getD i false=false→(∀ e ∈ o.after,Region.binds .any e=true→listed.getD e.on false=true)→i<n1:=fun i o ho h0 hall=>by
    by_cases h:i<n1
    ·exact h
    ·exfalso
     apply hph;intro j hj;have hr:=hcl i (by omega) (List.getElem?_eq_some_iff.1 ho).1 j hj
     have hpos:l.length=(l.length - 1)+1:=by have:=(List.getElem?_eq_some_iff.1 ho).1;omega
     rw [hpos] at hr;simp only [reachB,ho,List.any_eq_true,Bool.and_eq_true,Bool.or_eq_true,beq_iff_eq] at hr;obtain ⟨e,he,hb,hr⟩:=hr;have hl:=hall e (by simpa using he) hb
     rcases hr with rfl | hr
     ·exact hl
     ·exact DC.reach hdc _ hl hr
   refine ⟨fun hr=>?_,fun i hi=>?_⟩
   ·exfalso
    apply hph;intro i
    induction i using Nat.strongRecOn with
    | ind i ih' =>
     intro hi
     by_cases hl:listed.getD i false=true
     ·exact hl
     ·exfalso
      have hil:i<l.length:=by omega
      have ho:l[i]?=some l[i]:=List.getElem?_eq_getElem hil
      have hmem:i ∈ Region.ready .any l.toArray listed:=mem_ready.2 ⟨by
       rw [Array.getD_eq_getD_getElem?,Array.getElem?_eq_getElem (by omega)] at *;simp only [Option.getD_some,Bool.not_eq_true] at *
       exact hl,l[i],by simp,fun e he hb=>ih' e.on ((hB' i _ ho).1 e he hb) (by have:=(hB' i _ ho).1 e he hb;omega)⟩
      rw [hr] at hmem
      cases hmem
   ·obtain ⟨h0,o,ho',hall⟩:=mem_ready.1 hi
    have ho:l[i]?=some o:=by simpa using ho'
    have hlt:i<l.length:=(List.getElem?_eq_some_iff.1 ho).1
    have h0':listed.getD i false=false:=by
     rw [Array.getD_eq_getD_getElem?,Array.getElem?_eq_getElem (by omega)] at *
     simpa using h0
    have hi1:i<n1:=hlt1 i o ho h0' hall
    have hot:(l.take n1)[i]?=some o:=by rw [List.getElem?_take,if_pos hi1];exact ho
    obtain ⟨hR,hI,hd,hs,ht,hT⟩:=hJ;obtain ⟨b1,b2,b3⟩:=hB' i o ho
    have hlook:∀ t ∈ o.looksAt l.toArray,match dstIdx t l 0 with | some j=>T j (tv a t) w' | none=>tv a t=tv a0 t:=by
     intro t htm
     cases hj:dstIdx t l 0 with
     | none =>
      refine tv_of (ht t fun j p hp _=>dstIdx_none hj p (List.mem_of_getElem? hp))
     | some j =>
      obtain ⟨e,he,rfl,hb⟩:=b3 t htm j hj;obtain ⟨_,p,hp,hpd⟩:=dstIdx_some hj
      have:=hT e.on p (by simpa using hp) (hall e he hb) (by rw [hpd];simp)
      rw [hpd] at this;exact this
    have hop:=look_of hlook (opsOK_at hops hot m a w' (by omega) hR hI);rw [Nat.zero_add] at hop
    have hget:∀ d,(listed.setIfInBounds i true).getD i d=true:=fun d=>by
     rw [Array.getD_eq_getD_getElem?,Array.getElem?_setIfInBounds_self_of_lt (by omega)];rfl
    have next:∀ v w1,T i v w1→R w' w1→I (m+1) w1→wpAny P .any l.toArray Q fuel (listed.setIfInBounds i true) (a.put o.dst v) w1:=by
     intro v w1 hTv hR1 hI1;refine ih (m+1) _ _ _ ?_ (by simpa using hls) (by omega) (fun k hk hkl=>?_) (hdc.set ho hall) ⟨hRt _ _ _ hR hR1,hI1,(put_defers' _ _ _).trans hd,(put_size _ _ _).trans hs,fun t h=>?_,fun j p hp hl hn=>?_⟩
     ·have:=cntF_set (f:=fun i=>listed.getD i true) (g:=fun j=>(listed.setIfInBounds i true).getD j true) (i:=i) h0 (hget true) (fun j hj=>getD_set_ne true (Ne.symm hj)) hlt
      omega
     ·rw [getD_set_ne false (by omega)];exact hlow k hk hkl
     ·have hne:o.dst ≠ some t:=h i o ho (hget false);rw [put_ne _ _ _ hne]
      exact ht t fun j p hp hl=>h j p hp (getD_set_true hl)
     ·by_cases e:i=j
      ·subst e;rw [ho] at hp;obtain rfl:=Option.some.inj hp
       cases hod:o.dst with
       | none=>exact absurd hod hn
       | some d =>
        have:tv (a.put (some d) v) d=v:=by
         unfold tv;rw [Array.getD_eq_getD_getElem?,put_same _ _ _ (by rw [hs];exact (b2 d hod).1)]
         rfl
        simp only [vof];rw [this];exact hTv
      ·rw [getD_set_ne false e] at hl;have h2:=hTs j _ w' w1 (hT j p hp hl hn) hR1
       cases hpd:p.dst with
       | none=>exact absurd hpd hn
       | some d =>
        rw [hpd] at h2;simp only [vof] at h2 ⊢;rw [show tv (a.put o.dst v) d=tv a d from tv_of (put_ne _ _ _ (fun hod=>hdist i o j p ho hp e d hod hpd))];exact h2
    unfold wpOp;simp only [ho']
    cases hg:o.guard with
    | none =>
     rw [hg] at hop;rw [if_pos (by simp [Region.wanted,hg])];exact .inl (wp_of_gives hop fun v w1 ⟨h1,h2,h3⟩=>next v w1 h1 h2 h3)
    | some g =>
     rw [hg] at hop;obtain ⟨g1,g2⟩:=hop
     split
     ·rename_i hw
      exact .inl (wp_of_gives (g1 hw) fun v w1 ⟨h1,h2,h3⟩=>next v w1 h1 h2 h3)
     ·rename_i hw
      obtain ⟨h1,h2⟩:=g2 (by simpa using hw);exact next undef w' h1 (hRr _) h2
 refine main l.toArray.size 0 _ a0 w.drew ?_ (by simp) (by simp) (fun i _ hil=>by rw [Array.getD_eq_getD_getElem?,Array.getElem?_replicate,if_pos (by simpa using hil)];rfl) (fun i o ho hl=>by
  exfalso
  rw [Array.getD_eq_getD_getElem?,Array.getElem?_replicate] at hl
  split at hl <;> simp at hl) ⟨hRr _,hI0,rfl,rfl,fun t _=>rfl,fun j o ho hl=>?_⟩
 ·have:∀ n,n≤l.length→cntF (fun i=>(Array.replicate l.toArray.size false).getD i true) n=n:=by
   intro n
   induction n with
   | zero=>intro _;rfl
   | succ n ihn =>
    intro hn;simp only [cntF];rw [ihn (by omega)]
    have:(Array.replicate l.toArray.size false).getD n true=false:=by
     rw [Array.getD_eq_getD_getElem?,Array.getElem?_replicate,if_pos (by simp;omega)];rfl
    rw [if_neg (by rw [this];decide)]
  simpa using this l.length (Nat.le_refl _)
 ·exfalso
  rw [Array.getD_eq_getD_getElem?,Array.getElem?_replicate] at hl
  split at hl <;> simp at hl
end
end
section
section
variable {P:Program}
def noDef (o:Oper):Bool:=match o.op with
 | .defer _=>false
 | _=>true
theorem noDef_ne {o:Oper} (h:noDef o=true):∀ c,o.op ≠ .defer c:=fun c e=>by
 unfold noDef at h;rw [e] at h
 cases h
def OnlyN (Q0:Exit→Act→World→Prop):Prop:=∀ e a w,e ≠ .normal→¬ Q0 e a w
theorem opLift {l n:Nat} {o:Oper} {a:Act} {w:World} {K K':Act→World→Prop} {Q0 Q:Exit→Act→World→Prop} (hd:noDef o=true) (hQ:OnlyN Q0) (hK:∀ a w,K a w→K' a w) (h:o.wp P a w K Q0):o.wpIn (Fence.wide.inRound l) n P a w K' Q:=by
 refine ⟨fun _ _=>trivial,?_⟩;rw [Oper.semAt_eq _ _ _ (noDef_ne hd)];unfold Oper.wp at h;generalize (execOp a.eval o).run P w=r at h
 cases r with
 | ok x w' =>
  cases x with
  | value v=>exact hK _ _ h
  | skip=>exact hK _ _ h
  | defer d=>exact hK _ _ h
  | enter f args =>
   refine ⟨(fun x=>by cases x),CallsIn.inRound l (callsIn_wide.2 (Calls.mono h ?_))⟩;intro e w2 he
   cases e with
   | returned v=>exact hK _ _ he
   | panicked c=>exact (hQ (.panic c) _ _ (fun x=>by cases x) he).elim
   | outgrown =>
    obtain ⟨a2,w3,h3⟩:=he;exact (hQ .outgrown _ _ (fun x=>by cases x) h3).elim
  | row r args =>
   refine ⟨(fun x=>by cases x),fun c cs _=>?_⟩;obtain ⟨v,w2,h1,h2⟩:=h c cs;exact ⟨v,w2,hK _ _ h1,by rw [fenced_inRound];exact stepsIn_wide.2 h2⟩
  | _=>exact h.elim
 | halt x w' =>
  cases x with
  | panic v=>exact (hQ (.panic _) _ _ (fun x=>by cases x) h).elim
  | _=>exact h.elim
theorem lets_no {Q0:Exit→Act→World→Prop} (hQ:OnlyN Q0):¬ LetsOut Q0:=fun ⟨a,w,h⟩=>hQ _ _ _ (fun x=>by cases x) h
theorem anyLift {l n:Nat} {md:Region.Mode} {ops:Array Oper} {Q0 Q:Exit→Act→World→Prop} (hd:ops.all noDef=true) (hQ:OnlyN Q0) (hN:∀ a w,Q0 .normal a w→Q .normal a w):∀ (fuel:Nat) (listed:Array Bool) (a:Act) (w:World),wpAny P md ops Q0 fuel listed a w→wpAnyIn (Fence.wide.inRound l) n P md ops Q fuel listed a w:=by
 intro fuel
 induction fuel with
 | zero=>exact fun listed a w h=>⟨h.1,hN _ _ h.2⟩
 | succ fuel ih =>
  intro listed a w h;refine ⟨fun hr=>hN _ _ (h.1 hr),fun i hi=>?_⟩;have h1:=h.2 i hi;unfold wpOp at h1;unfold wpOpIn
  cases ho:ops[i]? with
  | none=>simp only [ho] at h1 ⊢;exact ih _ _ _ h1
  | some o =>
   simp only [ho] at h1 ⊢;have hdo:noDef o=true:=(Array.all_eq_true_iff_forall_mem.1 hd) o (Array.mem_of_getElem? ho)
   split
   ·rename_i hw
    simp only [hw,if_true] at h1
    rcases h1 with h1 | h1
    ·exact opLift hdo hQ (fun a w=>ih _ a w) h1
    ·exact (lets_no hQ h1.2).elim
   ·rename_i hw
    simp only [hw] at h1;exact ⟨fun _ _=>trivial,ih _ _ _ h1⟩
theorem listLift {l n:Nat} {ops:Array Oper} {Q0 Q:Exit→Act→World→Prop} (hQ:OnlyN Q0) (hN:∀ a w,Q0 .normal a w→Q .normal a w):∀ (os:List Oper) (a:Act) (w:World),os.all noDef=true→wpList P ops Q0 os a w→wpListIn (Fence.wide.inRound l) n P ops Q os a w:=by
 intro os
 induction os with
 | nil=>exact fun a w _ h=>hN _ _ h
 | cons o rest ih =>
  intro a w hd h;simp only [List.all_cons,Bool.and_eq_true] at hd;unfold wpList at h;unfold wpListIn
  split
  ·rename_i hw
   rw [if_pos hw] at h
   rcases h with h | h
   ·exact opLift hd.1 hQ (fun a w=>ih a w hd.2) h
   ·exact (lets_no hQ h.2).elim
  ·rename_i hw
   rw [if_neg hw] at h;exact ⟨fun _ _=>trivial,ih _ _ hd.2 h⟩
theorem onlyN_then {K:Act→World→Prop}:OnlyN (Exit.then K (fun _ _ _=>False)):=fun e a w h q=>by
 cases e <;> first | exact h rfl | exact q
theorem wpIn_region_lift {l n id:Nat} {os:List Oper} {Q:Exit→Act→World→Prop} {a:Act} {w:World} (hd:os.all noDef=true) (h:wpList P os.toArray (Exit.then (fun a w=>Q .normal a w) (fun _ _ _=>False)) os a w):(Code.region id os.toArray false).wpIn (Fence.wide.inRound l) n P Q a w :=
 wpIn_region_lit (listLift (Q0:=Exit.then (fun a w=>Q .normal a w) (fun _ _ _=>False)) (Q:=Q) onlyN_then (fun _ _ h=>h) os a w hd h)
theorem wpIn_region_liftAny {l n id:Nat} {ops:Array Oper} {Q:Exit→Act→World→Prop} {a:Act} {w:World} (hm:P.follows .mixedOrders=true) (hd:ops.all noDef=true) (h:wpAny P .any ops (Exit.then (fun a w=>Q .normal a w) (fun _ _ _=>False)) ops.size (Array.replicate ops.size false) a { w with drawn:=w.drawn+1 }):(Code.region id ops true).wpIn (Fence.wide.inRound l) n P Q a w :=
 wpIn_region_any hm (anyLift (Q0:=Exit.then (fun a w=>Q .normal a w) (fun _ _ _=>False)) (Q:=Q) hd onlyN_then (fun _ _ h=>h) _ _ _ _ h)
theorem wpAny_rxp {l:List Oper} {Q:Exit→Act→World→Prop} {a0:Act} {w:World} (n1 m:Nat) (listed:Array Bool) (hm:l.length - n1=m) (hls:listedTo n1 0 (Array.replicate l.toArray.size false)=listed) (tl:List (Value→World→Prop)) (hB:rgC l a0.tmps.size=true) (hC:cloB l n1=true) (hTs:∀ T ∈ tl,Stay T)
  (hops:opsOK P l (fun k=>tl.getD k XT) Gr GIx a0 w.drew (l.take n1) 0) (hfin:∀ w',Gr w.drew w'→finP (fun k=>tl.getD k XT) w' (fun a'=>wpAny P .any l.toArray Q m listed a' w') (l.take n1) 0 a0):wpAny P .any l.toArray Q l.toArray.size (Array.replicate l.toArray.size false) a0 w.drew:=by
 subst hm hls
 exact wpAny_rgp (fun k=>tl.getD k XT) Gr GIx n1 hB hC Gr.refl (fun _ _ _ h k=>h.trans k) (stay_list hTs) trivial hops fun w' h _=>hfin w' h
theorem wpAny_store {md:Region.Mode} {ops:Array Oper} {Q:Exit→Act→World→Prop} {f:Nat} {listed:Array Bool} {a:Act} {w:World} (i:Nat) (T:TypeId) (x y:Operand) (b o:Nat) (vs:List Value) (hr:Region.ready md ops listed=[i]) (hr2:Region.ready md ops (listed.setIfInBounds i true)=[]) (ho:(ops[i]?).map (fun o=>(o.dst,o.op,o.guard))=some (none,.store T x y,none))
  (hx:a.eval x=.pointer (some ⟨b,o,none⟩)) (hy:a.eval y=.agg vs.toArray) (ht:w.there b o vs.length) (hi:(P.info? T).map (·.size)=some vs.length) (h1:∀ v ∈ vs,v.oneCell'=true)
  (h:Q .normal a (w.setCells b o vs)):wpAny P md ops Q (f+1) listed a w:=by
 cases hq:ops[i]? with
 | none=>rw [hq] at ho;cases ho
 | some op =>
  rw [hq] at ho;simp only [Option.map_some,Option.some.injEq,Prod.mk.injEq] at ho;obtain ⟨hd,hop,hg⟩:=ho;refine wpAny_one hr hq hg ?_;refine wp_store_mid T x y hop b o vs.toArray hx hy (by simpa using ht) (by simpa using hi) (all_oneCell_toArray h1) ?_;rw [hd];exact wpAny_end hr2 (by simpa [Act.put] using h)
end
end
end Go.Proofs.YtenckjdiggaonaaGreat
