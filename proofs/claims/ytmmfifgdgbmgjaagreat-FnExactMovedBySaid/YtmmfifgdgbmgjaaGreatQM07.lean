import Derived.Test.YtmmfifgdgbmgjaaGreatQM06
import Derived.Deep.Draws
import Derived.OrdersIn
import Derived.TacticsIn
set_option linter.unusedVariables false
set_option linter.unusedSimpArgs false
set_option maxRecDepth 100000
set_option maxHeartbeats 16000000
namespace Go.Proofs.YtmmfifgdgbmgjaaGreat
open Go.RowKit
attribute [local go_sem] growUpon_value growUpon_skip growUpon_enter
theorem idsM_one {f:Nat→Bool} (h:f 0=false):idsM f 1=[]:=by rw [idsM_no h];rfl
theorem skidsOf_b (A:Option Addr) (c:Nat) (R:List Nr) (i:Int) (w:World) (h:NrV w A R) (h1:1≤R.length) (hL:R.length≤1048576) (hz:isKid R i 0=false) :
  Calls Tryz.prog 51 #[.agg #[.slice A R.length c],.int .i64 i] w fun e w'=>(∃ v,e=.returned v∧KdV w' v (kidsM R i)∧∀ k,v.ownBlock=some k→w.heap.size≤k)∧Below w.heap.size w w':=by
 obtain ⟨ti,tz,ti1,ti2,ti3,ti4,ti5⟩:=int_infoW;obtain ⟨b,off,rfl,hb,hc⟩:=h.cells h1;have HC:=hD hc;clear hc h;refine calls_abs Tryz.func51 rfl 28 (by simp only [Tryz.ntmps51]) (by simp) (fun t hsz hargs=>?_);have q0:t[0]?=some (.agg #[.slice (some ⟨b,off,none⟩) R.length c]):=get_of (by omega) (hargs 0 _ rfl);have q1:t[1]?=some (.int .i64 i):=get_of (by omega) (hargs 1 _ rfl);clear hargs
 obtain ⟨l0,e0⟩:=gE q0;obtain ⟨l1,e1⟩:=gE q1
 refine wp_seq_h fun K hK=>?_
 apply wp_region_lit
 repeat (first | go_step)
 refine hK.out _ _ ?_;clear hK K;refine wp_abw (fun t' W'=>t'.size=28∧t'[1]?=some (.int .i64 i)∧t'[2]?=some (.pointer (some ⟨w.heap.size,0,none⟩))∧W'.heap[w.heap.size]?=some (.cells #[.slice (some ⟨b,off,none⟩) R.length c] 30 (0,0))∧Below w.heap.size w W') ⟨by simp [Act.put,hsz],by simp [Act.put,q1],by simp [Act.put,hsz],⟨newS _ _,balloc (Below.refl _ _)⟩⟩ ?_;clear hsz q0 l0 e0 q1 l1 e1 t
 rintro t Wb ⟨hsz,q1,q2,HX,hB0⟩;have HXX:=hD HX;have HB0:=hD hB0;replace HC:=hD (show ∀ k p,R[k]?=some p→Wb.rangeAt b (off+k*34) (valsNr p) from fun k p hk=>rangeB (HC.out k p hk) (hB0.block b hb));have hbl:b<Wb.heap.size:=Nat.lt_of_lt_of_le hb hB0.size;have lxb:w.heap.size<Wb.heap.size:=ltS HX;clear HX hB0 hb;obtain ⟨l1,e1⟩:=gE q1;obtain ⟨l2,e2⟩:=gE q2
 refine wp_seq_h fun K hK=>?_
 apply wp_region_lit
 repeat (first | go_step)
 refine hK.out _ _ ?_;clear hK K
 refine wp_abw (fun t' W'=>t'.size=28∧t'[1]?=some (.int .i64 i)∧t'[2]?=some (.pointer (some ⟨w.heap.size,0,none⟩))∧t'[5]?=some (.slice (some ⟨Wb.heap.size,0,none⟩) 0 0)∧W'.ownsRow Wb.heap.size 3 1 (.slice (some ⟨Wb.heap.size,0,none⟩) 0 0) 0 (nvalsW [])∧Below Wb.heap.size Wb W') ⟨by simp [Act.put,hsz],by simp [Act.put,q1],by simp [Act.put,q2],by simp [Act.put,hsz],⟨World.ownsRow_lit (base:=Wb.heap.size) (e:=3) (size:=1) Wb #[] 0 (Nat.le_refl _) (by decide) rfl,balloc (Below.refl _ _)⟩⟩ ?_
 clear hsz q1 l1 e1 q2 l2 e2 t;rintro t W0 ⟨hsz,q1,q2,q5,hO,hB⟩
 refine wp_seq_h fun KE hKE=>?_
 obtain ⟨l1,e1⟩:=gE q1;obtain ⟨l2,e2⟩:=gE q2;obtain ⟨l5,e5⟩:=gE q5
 refine wp_seq_h fun K hK=>?_
 apply wp_region_lit
 repeat (first | go_step)
 refine hK.out _ _ ?_;clear hK K;refine wp_abw (fun t' W'=>t'.size=28∧t'[1]?=some (.int .i64 i)∧t'[2]?=some (.pointer (some ⟨w.heap.size,0,none⟩))∧t'[5]?=some (.slice (some ⟨Wb.heap.size,0,none⟩) 0 0)∧t'[6]?=some (.int .i64 ((1:Nat):Int))∧W0=W') ⟨by simp [Act.put,hsz],by simp [Act.put,q1],by simp [Act.put,q2],by simp [Act.put,q5],by simp [Act.put,hsz],rfl⟩ ?_;clear hsz q1 l1 e1 q2 l2 e2 q5 l5 e5 t
 rintro t _ ⟨hsz,q1,q2,q5,q6,rfl⟩;apply wp_block
 refine wp_loop (fun a W=>∃ (t:Array Value) (k:Nat) (v:Value),a=⟨t,[]⟩∧1≤k∧k≤R.length∧t.size=28∧t[1]?=some (.int .i64 i)∧t[2]?=some (.pointer (some ⟨w.heap.size,0,none⟩))∧t[5]?=some (v)∧t[6]?=some (.int .i64 (k:Int))∧W.ownsRow Wb.heap.size 3 1 v (idsM (isKid R i) k).length (nvalsW (idsM (isKid R i) k))∧Below Wb.heap.size Wb W) (fun a _=>R.length-(intOf (a.tmps.getD 6 undef)).toNat) ⟨t,1,_,rfl,by omega,h1,hsz,q1,q2,q5,q6,by rw [idsM_one hz];exact hO,hB⟩ ?_
 clear t hsz q1 q2 q5 q6 hO hB W0;rintro a W ⟨t,k,v,rfl,hk1,hk,hsz,q1,q2,q5,q6,hO,hB⟩
 have hmu:intOf (t.getD 6 undef)=(k:Int):=by rw [Array.getD_eq_getD_getElem?,q6];rfl
 dsimp only
 rw [hmu];clear hmu;have HO:=hD hO;have HB:=hD hB;have x0:=cellS ((hB.block _ lxb).trans HXX.out) 0;have lx:w.heap.size<W.heap.size:=Nat.lt_of_lt_of_le lxb hB.size;clear hO hB
 by_cases hlt:k<R.length
 ·have hd:decide ((k:Int)<(R.length:Int))=true:=by simpa using hlt
  refine wp_seq_h fun K1 hK1=>?_
  obtain ⟨l1,e1⟩:=gE q1;obtain ⟨l2,e2⟩:=gE q2;obtain ⟨l5,e5⟩:=gE q5;obtain ⟨l6,e6⟩:=gE q6
  refine wp_seq_h fun K hK=>?_
  apply wp_region_lit
  repeat (first | go_step)
  refine hK.out _ _ ?_;clear hK K;refine wp_abw (fun t' W'=>t'.size=28∧t'[1]?=some (.int .i64 i)∧t'[2]?=some (.pointer (some ⟨w.heap.size,0,none⟩))∧t'[5]?=some (v)∧t'[6]?=some (.int .i64 (k:Int))∧t'[12]?=some (.bool true)∧W=W') ⟨by simp [Act.put,hsz],by simp [Act.put,q1],by simp [Act.put,q2],by simp [Act.put,q5],by simp [Act.put,q6],by simp [Act.put,hsz,hd],rfl⟩ ?_
  clear hsz q1 l1 e1 q2 l2 e2 q5 l5 e5 q6 l6 e6 t;rintro t _ ⟨hsz,q1,q2,q5,q6,q12,rfl⟩;clear hd;refine wp_cond_true (by simp [Act.eval,q12]) ?_;apply wp_skip;simp only [Exit.then];refine hK1.out _ _ ?_;clear hK1 K1 q12
  refine wp_seq_h fun KB hKB=>?_
  apply wp_block;have hget:R[k]?=some R[k]:=List.getElem?_eq_getElem hlt;have c0:W.cell? ⟨b,off+k*34,none⟩=some (.int .i64 R[k].n.pa):=(HB.out.cell (p:=⟨b,off+k*34,none⟩) hbl).trans (HC.out k _ hget 0 _ rfl);have hik:=isKid_at (i:=i) hget;generalize R[k]=p at *
  have hd1:(k:Int)<(R.length:Int):=by omega
  have hbl1:b<W.heap.size:=Nat.lt_of_lt_of_le hbl HB.out.size;have HIK:=hD hik;clear hget hik;obtain ⟨l1,e1⟩:=gE q1;obtain ⟨l2,e2⟩:=gE q2;obtain ⟨l5,e5⟩:=gE q5;obtain ⟨l6,e6⟩:=gE q6
  refine wp_seq_h fun K hK=>?_
  apply wp_region_lit
  repeat (first | go_step)
  refine hK.out _ _ ?_;clear hK K;refine wp_abw (fun t' W'=>t'.size=28∧t'[1]?=some (.int .i64 i)∧t'[2]?=some (.pointer (some ⟨w.heap.size,0,none⟩))∧t'[5]?=some (v)∧t'[6]?=some (.int .i64 (k:Int))∧t'[22]?=some (.bool (isKid R i k))∧W=W') ⟨by simp [Act.put,hsz],by simp [Act.put,q1],by simp [Act.put,q2],by simp [Act.put,q5],by simp [Act.put,q6],by simp [Act.put,hsz,HIK.out],rfl⟩ ?_
  clear hsz q1 l1 e1 q2 l2 e2 q5 l5 e5 q6 l6 e6 t c0 hd1 hbl1;rintro t _ ⟨hsz,q1,q2,q5,q6,q22,rfl⟩
  by_cases hfk:isKid R i k=true
  ·have hids:=idsM_yes hfk;rw [hfk] at q22;refine wp_cond_true (by simp [Act.eval,q22]) ?_;clear q22;obtain ⟨l1,e1⟩:=gE q1;obtain ⟨l2,e2⟩:=gE q2;obtain ⟨l5,e5⟩:=gE q5;obtain ⟨l6,e6⟩:=gE q6;have hob:∀ b,v.ownBlock=some b→Wb.heap.size≤b∧b<W.heap.size:=HO.out.lt;have hw1:Wb.heap.size≤W.heap.size:=HB.out.size;have hlen:=idsM_len (isKid R i) k;apply wp_region_lit
   repeat (first|((with_reducible show wpList _ _ _ _ _ _);refine wpList_append_own _ rfl _ _ 26 rfl Wb.heap.size 3 ti tz 1 8 Tryz.underlying26 ti1 ti2 ti3 ti4 ti5 (by decide) v _ _ (by simp [Act.eval,Act.put,hsz,e5]) (HO.out.alloc _) ⟨W.heap.size,0,none⟩ 1 1 [.int .i64 (k:Int)] (by simp [Act.eval,Act.put,hsz]) rfl (newW _ _ _) (by simp [Value.oneCell']) (by simp only [maxLen];omega) (by omega) (by simp;omega) ?_) | go_step)
   intro v5 w5 how5 hgr5 _;have hb5:=below_own HB.out hgr5 hob (Nat.le_refl _) (Nat.le_refl _);rw [nvalsW_snoc,<- hids] at how5
   have hlen5:(idsM (isKid R i) k).length+1=(idsM (isKid R i) (k+1)).length:=by rw [hids];simp
   rw [hlen5] at how5;clear hlen5 hids
   repeat go_step
   try simp only [Exit.inBlock]
   refine hKB.out _ _ ?_;clear hKB KB;refine wp_abw (fun t' W'=>t'.size=28∧t'[1]?=some (.int .i64 i)∧t'[2]?=some (.pointer (some ⟨w.heap.size,0,none⟩))∧t'[5]?=some (v5)∧t'[6]?=some (.int .i64 (k:Int))∧w5=W') ⟨by simp [Act.put,hsz],by simp [Act.put,q1],by simp [Act.put,q2],by simp [Act.put,hsz],by simp [Act.put,q6],rfl⟩ ?_;clear hsz q1 l1 e1 q2 l2 e2 q5 l5 e5 q6 l6 e6 t hob hw1
   rintro t _ ⟨hsz,q1,q2,q5,q6,rfl⟩;obtain ⟨l1,e1⟩:=gE q1;obtain ⟨l2,e2⟩:=gE q2;obtain ⟨l5,e5⟩:=gE q5;obtain ⟨l6,e6⟩:=gE q6;apply wp_region_lit
   repeat go_step
   try simp only [Exit.then]
   refine ⟨⟨_,k+1,v5,rfl,by omega,by omega,by simp [hsz],by simp [q1],by simp [q2],by simp [q5],by simp [hsz],how5,hb5⟩,?_⟩
   ·simp [hsz,intOf]
    omega
  ·have hfk':isKid R i k=false:=by simpa using hfk
   have hids:=idsM_no hfk';rw [hfk'] at q22;refine wp_cond_false (by simp [Act.eval,q22]) ?_;clear q22;apply wp_skip
   try simp only [Exit.inBlock]
   refine hKB.out _ _ ?_;clear hKB KB;obtain ⟨l1,e1⟩:=gE q1;obtain ⟨l2,e2⟩:=gE q2;obtain ⟨l5,e5⟩:=gE q5;obtain ⟨l6,e6⟩:=gE q6;apply wp_region_lit
   repeat go_step
   try simp only [Exit.then]
   refine ⟨⟨_,k+1,v,rfl,by omega,by omega,by simp [hsz],by simp [q1],by simp [q2],by simp [q5],by simp [hsz],by rw [hids];exact HO.out,HB.out⟩,?_⟩
   ·simp [hsz,intOf]
    omega
 ·have hd:decide ((k:Int)<(R.length:Int))=false:=decide_eq_false (by omega)
  refine wp_seq_h fun K1 hK1=>?_
  obtain ⟨l1,e1⟩:=gE q1;obtain ⟨l2,e2⟩:=gE q2;obtain ⟨l5,e5⟩:=gE q5;obtain ⟨l6,e6⟩:=gE q6
  refine wp_seq_h fun K hK=>?_
  apply wp_region_lit
  repeat (first | go_step)
  refine hK.out _ _ ?_;clear hK K;refine wp_abw (fun t' W'=>t'.size=28∧t'[1]?=some (.int .i64 i)∧t'[2]?=some (.pointer (some ⟨w.heap.size,0,none⟩))∧t'[5]?=some (v)∧t'[6]?=some (.int .i64 (k:Int))∧t'[12]?=some (.bool false)∧W=W') ⟨by simp [Act.put,hsz],by simp [Act.put,q1],by simp [Act.put,q2],by simp [Act.put,q5],by simp [Act.put,q6],by simp [Act.put,hsz,hd],rfl⟩ ?_
  clear hsz q1 l1 e1 q2 l2 e2 q5 l5 e5 q6 l6 e6 t;rintro t _ ⟨hsz,q1,q2,q5,q6,q12,rfl⟩;refine wp_cond_false (by simp [Act.eval,q12]) ?_;apply wp_exit;simp only [Exit.then,Exit.inBlock,if_true];refine hKE.out _ _ ?_;clear hd
  obtain rfl:k=R.length:=by omega
  obtain ⟨l1,e1⟩:=gE q1;obtain ⟨l2,e2⟩:=gE q2;obtain ⟨l5,e5⟩:=gE q5;obtain ⟨l6,e6⟩:=gE q6;obtain ⟨l12,e12⟩:=gE q12
  repeat go_step
  refine bodyPost_ret (results_tmp rfl _ _ _) rfl ?_;exact ⟨⟨v,by simp [hsz],KdV.of HO.out,fun k hk=>Nat.le_trans HB0.out.size (HO.out.lt k hk).1⟩,bkeep2 HB0.out HB.out⟩
theorem skidsOf_v (A:Option Addr) (c:Nat) (R:List Nr) (i:Int) (w:World) (h:NrV w A R) (h1:1≤R.length) (hL:R.length≤1048576) (hz:isKid R i 0=false) :
  Calls Tryz.prog 51 #[.agg #[.slice A R.length c],.int .i64 i] w fun e w'=>(∃ v,e=.returned v∧KdV w' v (kidsM R i))∧Below w.heap.size w w' :=
 (skidsOf_b A c R i w h h1 hL hz).mono fun e w' ⟨⟨v,e1,e2,_⟩,hb⟩=>⟨⟨v,e1,e2⟩,hb⟩
section
section
variable {P:Program}
def rgC (l:List Oper) (size:Nat):Bool :=
 Region.noSelect l.toArray &&
 ((List.range l.length).all fun i=>match l[i]? with
  | none=>true
  | some o=>(o.after.toList.all fun e=>!Region.binds .any e || decide (e.on<i)) &&
   (o.dst.all fun d=>decide (d<size)&&dstIdx d l 0 == some i) &&
   ((o.looksAt l.toArray).all fun t=>match dstIdx t l 0 with
    | none=>true
    | some j=>o.after.toList.any fun e=>e.on == j&&Region.binds .any e))
end
end
section
section
variable {P:Program}
def reachB (l:List Oper):Nat→Nat→Nat→Bool
 | 0,_,_=>false
 | f+1,i,j=>match l[i]? with
  | none=>false
  | some o=>o.after.toList.any fun e=>Region.binds .any e&&(e.on == j || reachB l f e.on j)
def cloB (l:List Oper) (n:Nat):Bool:=decide (n≤l.length)&&(List.range l.length).all fun i=>decide (i<n) || (List.range n).all fun j=>reachB l l.length i j
def DC (l:List Oper) (listed:Array Bool):Prop:=∀ (i:Nat) (o:Oper),l[i]?=some o→listed.getD i false=true→∀ e∈o.after,Region.binds .any e=true→listed.getD e.on false=true
theorem DC.reach {l:List Oper} {listed:Array Bool} (h:DC l listed):∀ (f:Nat) {i j:Nat},listed.getD i false=true→reachB l f i j=true→listed.getD j false=true
 | 0,i,j,_,hr=>by simp [reachB] at hr
 | f+1,i,j,hi,hr=>by
  rw [reachB] at hr
  cases ho:l[i]? with
  | none=>rw [ho] at hr;simp at hr
  | some o =>
   rw [ho] at hr;simp only [List.any_eq_true,Bool.and_eq_true,Bool.or_eq_true,beq_iff_eq] at hr;obtain ⟨e,he,hb,hr⟩:=hr;have hl:=h i o ho hi e (by simpa using he) hb
   rcases hr with rfl | hr
   ·exact hl
   ·exact DC.reach h f hl hr
theorem DC.set {l:List Oper} {listed:Array Bool} (h:DC l listed) {i:Nat} {o:Oper} (ho:l[i]?=some o) (hall:∀ e∈o.after,Region.binds .any e=true→listed.getD e.on false=true):DC l (listed.setIfInBounds i true):=fun k p hp hl e he hb=>by
 by_cases e1:i=k
 ·subst e1;rw [ho] at hp;obtain rfl:=Option.some.inj hp;exact getD_set_true (hall e he hb)
 ·rw [getD_set_ne false e1] at hl;exact getD_set_true (h k p hp hl e he hb)
theorem cntF_lt (n1:Nat):∀ n:Nat,cntF (fun i=>decide (i<n1)) n=n-n1
 | 0=>by simp [cntF]
 | n+1=>by
  simp only [cntF,cntF_lt n1 n]
  by_cases h:n<n1
  ·simp [h];omega
  ·simp [h];omega
theorem listedTo_size:∀ (m k:Nat) (l:Array Bool),(listedTo m k l).size=l.size
 | 0,_,_=>rfl
 | m+1,k,l=>by rw [listedTo,listedTo_size];simp
theorem listedTo_getD:∀ {m k:Nat} {l:Array Bool} {i:Nat},k+m≤l.size→(listedTo m k l).getD i false=if k≤i∧i<k+m then true else l.getD i false
 | 0,k,l,i,_=>by rw [listedTo,if_neg (by omega)]
 | m+1,k,l,i,h=>by
  rw [listedTo,listedTo_getD (by simpa using (by omega:k+1+m≤l.size))]
  by_cases e:i=k
  ·subst e;rw [if_neg (by omega),if_pos (by omega),Array.getD_eq_getD_getElem?,Array.getElem?_setIfInBounds_self_of_lt (by omega)]
   rfl
  ·rw [getD_set_ne false (fun h=>e h.symm)]
   by_cases h2:k+1≤i∧i<k+1+m
   ·rw [if_pos h2,if_pos (by omega)]
   ·rw [if_neg h2,if_neg (by omega)]
theorem wpAny_rgp {l:List Oper} {Q:Exit→Act→World→Prop} {a0:Act} {w:World} (T:Nat→Value→World→Prop) (R:World→World→Prop) (I:Nat→World→Prop)
  (n1:Nat) (hB:rgC l a0.tmps.size=true) (hC:cloB l n1=true) (hRr:∀ a,R a a) (hRt:∀ a b c,R a b→R b c→R a c) (hTs:∀ k v a b,T k v a→R a b→T k v b) (hI0:I 0 w.drew)
  (hops:opsOK P l T R I a0 w.drew (l.take n1) 0) (hfin:∀ w',R w.drew w'→I n1 w'→finP T w' (fun a'=>wpAny P .any l.toArray Q (l.length-n1) (listedTo n1 0 (Array.replicate l.toArray.size false)) a' w') (l.take n1) 0 a0):wpAny P .any l.toArray Q l.toArray.size (Array.replicate l.toArray.size false) a0 w.drew:=by
 simp only [rgC,Bool.and_eq_true] at hB;obtain ⟨hns,hB⟩:=hB
 have hB':∀ (i:Nat) (o:Oper),l[i]?=some o→(∀ e∈o.after,Region.binds .any e=true→e.on<i)∧(∀ d,o.dst=some d→d<a0.tmps.size∧dstIdx d l 0=some i)∧(∀ t∈o.looksAt l.toArray,∀ j,dstIdx t l 0=some j→∃ e∈o.after,e.on=j∧Region.binds .any e=true):=by
  intro i o ho;have hlt:=(List.getElem?_eq_some_iff.1 ho).1;have h1:=List.all_eq_true.1 hB i (List.mem_range.2 hlt);simp only [ho,Bool.and_eq_true] at h1;obtain ⟨⟨h1,h2⟩,h3⟩:=h1;refine ⟨fun e he hb=>by have:=List.all_eq_true.1 h1 e (by simpa using he);simpa [hb] using this,fun d hd=>?_,fun t ht j hj=>?_⟩
  ·rw [hd] at h2;simp only [Option.all_some,Bool.and_eq_true,decide_eq_true_eq,beq_iff_eq] at h2;exact h2
  ·have h4:=List.all_eq_true.1 h3 t ht;rw [hj] at h4;obtain ⟨e,he,h5⟩:=List.any_eq_true.1 h4;simp only [Bool.and_eq_true,beq_iff_eq] at h5;exact ⟨e,by simpa using he,h5⟩
 have hdist:∀ (i:Nat) (o:Oper) (j:Nat) (p:Oper),l[i]?=some o→l[j]?=some p→i≠j→∀ d,o.dst=some d→p.dst≠some d:=by
  intro i o j p ho hp hij d hd hpd;have h1:=((hB' i o ho).2.1 d hd).2;rw [((hB' j p hp).2.1 d hpd).2] at h1
  injection h1 with h1
  exact hij h1.symm
 obtain ⟨hle1,hcl⟩:n1≤l.length∧∀ i,n1≤i→i<l.length→∀ j,j<n1→reachB l l.length i j=true:=by
  simp only [cloB,Bool.and_eq_true,decide_eq_true_eq,List.all_eq_true,List.mem_range,Bool.or_eq_true] at hC;refine ⟨hC.1,fun i hi hil j hj=>?_⟩
  rcases hC.2 i hil with h | h
  ·omega
  ·exact h j hj
 have main:∀ (fuel m:Nat) (listed:Array Bool) (a:Act) (w':World),cntF (fun i=>listed.getD i true) l.length=fuel→listed.size=l.length→fuel+m=l.length→(∀ i,n1≤i→i<l.length→listed.getD i false=false)→DC l listed→RJ l T R I a0 w.drew m listed a w' →
   wpAny P .any l.toArray Q fuel listed a w':=by
  intro fuel
  have hdone:∀ (m:Nat) (listed:Array Bool) (a:Act) (w':World),cntF (fun i=>listed.getD i true) l.length=l.length-m→listed.size=l.length→m≤l.length→(∀ i,n1≤i→i<l.length→listed.getD i false=false)→(∀ i,i<n1→listed.getD i false=true)→RJ l T R I a0 w.drew m listed a w'→wpAny P .any l.toArray Q (l.length-m) listed a w':=by
   rintro m listed a w' hc hls hml hlow hall ⟨hR,hI,hd,hs,ht,hT⟩
   have hm1:m=n1:=by
    have h1:cntF (fun i=>listed.getD i true) l.length=cntF (fun i=>decide (i<n1)) l.length:=cntF_same (fun i hi=>by
     by_cases h:i<n1
     ·have:=hall i h
      rw [Array.getD_eq_getD_getElem?,Array.getElem?_eq_getElem (by omega)] at *
      simpa [h] using this
     ·have:=hlow i (by omega) hi
      rw [Array.getD_eq_getD_getElem?,Array.getElem?_eq_getElem (by omega)] at *
      simpa [h] using this)
    rw [h1,cntF_lt] at hc;omega
   subst hm1
   have he:listed=listedTo m 0 (Array.replicate l.toArray.size false):=by
    apply Array.ext
    ·rw [listedTo_size];simp [hls]
    ·intro i h1 h2
     have e1:listed[i]=listed.getD i false:=by rw [Array.getD_eq_getD_getElem?,Array.getElem?_eq_getElem h1];rfl
     have e2:(listedTo m 0 (Array.replicate l.toArray.size false))[i]=(listedTo m 0 (Array.replicate l.toArray.size false)).getD i false:=by rw [Array.getD_eq_getD_getElem?,Array.getElem?_eq_getElem h2];rfl
     rw [e1,e2,listedTo_getD (by simpa using (by omega:0+m≤l.length))]
     by_cases h:i<m
     ·rw [hall i h,if_pos (by omega)]
     ·rw [hlow i (by omega) (by omega),if_neg (by omega),Array.getD_eq_getD_getElem?,Array.getElem?_replicate]
      split <;> rfl
   have hlm:∀ (j:Nat) (o:Oper),l[j]?=some o→listed.getD j false=true→j<m:=fun j o ho hl=>by
    by_cases h:j<m
    ·exact h
    ·exfalso
     have:=hlow j (by omega) (List.getElem?_eq_some_iff.1 ho).1
     rw [hl] at this
     cases this
   rw [he];refine finP_to (T:=T) (w:=w') (F:=fun a'=>wpAny P .any l.toArray Q (l.length-m) (listedTo m 0 (Array.replicate l.toArray.size false)) a' w') (l:=l.take m) (k:=0) (b:=a0) hd.symm hs.symm (fun t h=>?_) (fun j o ho hn=>?_) (hfin w' hR hI)
   ·exact (ht t fun j o ho hl=>h o (by
     have hj:=hlm j o ho hl
     exact List.mem_of_getElem? (i:=j) (by rw [List.getElem?_take,if_pos hj];exact ho))).symm
   ·rw [Nat.zero_add];rw [List.getElem?_take] at ho
    split at ho
    ·rename_i hj
     exact hT j o ho (hall j hj) hn
    ·cases ho
  induction fuel with
  | zero =>
   intro m listed a w' hc hls hm' hlow hdc hJ
   have hall:∀ i,i<l.length→listed.getD i false=true:=fun i hi=>by
    have:=cntF_zero hc i hi
    rw [Array.getD_eq_getD_getElem?,Array.getElem?_eq_getElem (by omega)] at *
    simpa using this
   have h:=hdone m listed a w' (by rw [hc];omega) hls (by omega) hlow (fun i hi=>hall i (by omega)) hJ
   rwa [show l.length-m=0 by omega] at h
  | succ fuel ih =>
   intro m listed a w' hc hls hm' hlow hdc hJ
   by_cases hph:∀ i,i<n1→listed.getD i false=true
   ·have h:=hdone m listed a w' (by rw [hc];omega) hls (by omega) hlow hph hJ
    rwa [show l.length-m=fuel+1 by omega] at h
   have hlt1:∀ (i:Nat) (o:Oper),l[i]?=some o→listed.getD i false=false→(∀ e∈o.after,Region.binds .any e=true→listed.getD e.on false=true)→i<n1:=fun i o ho h0 hall=>by
    by_cases h:i<n1
    ·exact h
    ·exfalso
     apply hph;intro j hj;have hr:=hcl i (by omega) (List.getElem?_eq_some_iff.1 ho).1 j hj
     have hpos:l.length=(l.length-1)+1:=by have:=(List.getElem?_eq_some_iff.1 ho).1;omega
     rw [hpos] at hr;simp only [reachB,ho,List.any_eq_true,Bool.and_eq_true,Bool.or_eq_true,beq_iff_eq] at hr;obtain ⟨e,he,hb,hr⟩:=hr;have hl:=hall e (by simpa using he) hb
     rcases hr with rfl | hr
     ·exact hl
     ·exact DC.reach hdc _ hl hr
   refine ⟨fun hr=>?_,fun i hi=>?_⟩
   ·exfalso
    apply hph;intro i
    induction i using Nat.strongRecOn with
    | ind i ih' =>
     intro hi
     by_cases hl:listed.getD i false=true
     ·exact hl
     ·exfalso
      have hil:i<l.length:=by omega
      have ho:l[i]?=some l[i]:=List.getElem?_eq_getElem hil
      have hmem:i∈Region.ready .any l.toArray listed:=mem_ready.2 ⟨by
       rw [Array.getD_eq_getD_getElem?,Array.getElem?_eq_getElem (by omega)] at *;simp only [Option.getD_some,Bool.not_eq_true] at *
       exact hl,l[i],by simp,fun e he hb=>ih' e.on ((hB' i _ ho).1 e he hb) (by have:=(hB' i _ ho).1 e he hb;omega)⟩
      rw [hr] at hmem
      cases hmem
   ·obtain ⟨h0,o,ho',hall⟩:=mem_ready.1 hi
    have ho:l[i]?=some o:=by simpa using ho'
    have hlt:i<l.length:=(List.getElem?_eq_some_iff.1 ho).1
    have h0':listed.getD i false=false:=by
     rw [Array.getD_eq_getD_getElem?,Array.getElem?_eq_getElem (by omega)] at *
     simpa using h0
    have hi1:i<n1:=hlt1 i o ho h0' hall
    have hot:(l.take n1)[i]?=some o:=by rw [List.getElem?_take,if_pos hi1];exact ho
    obtain ⟨hR,hI,hd,hs,ht,hT⟩:=hJ;obtain ⟨b1,b2,b3⟩:=hB' i o ho
    have hlook:∀ t∈o.looksAt l.toArray,match dstIdx t l 0 with | some j=>T j (tv a t) w' | none=>tv a t=tv a0 t:=by
     intro t htm
     cases hj:dstIdx t l 0 with
     | none =>
      refine tv_of (ht t fun j p hp _=>dstIdx_none hj p (List.mem_of_getElem? hp))
     | some j =>
      obtain ⟨e,he,rfl,hb⟩:=b3 t htm j hj;obtain ⟨_,p,hp,hpd⟩:=dstIdx_some hj
      have:=hT e.on p (by simpa using hp) (hall e he hb) (by rw [hpd];simp)
      rw [hpd] at this;exact this
    have hop:=look_of hlook (opsOK_at hops hot m a w' (by omega) hR hI);rw [Nat.zero_add] at hop
    have hget:∀ d,(listed.setIfInBounds i true).getD i d=true:=fun d=>by
     rw [Array.getD_eq_getD_getElem?,Array.getElem?_setIfInBounds_self_of_lt (by omega)];rfl
    have next:∀ v w1,T i v w1→R w' w1→I (m+1) w1→wpAny P .any l.toArray Q fuel (listed.setIfInBounds i true) (a.put o.dst v) w1:=by
     intro v w1 hTv hR1 hI1;refine ih (m+1) _ _ _ ?_ (by simpa using hls) (by omega) (fun k hk hkl=>?_) (hdc.set ho hall) ⟨hRt _ _ _ hR hR1,hI1,(put_defers' _ _ _).trans hd,(put_size _ _ _).trans hs,fun t h=>?_,fun j p hp hl hn=>?_⟩
     ·have:=cntF_set (f:=fun i=>listed.getD i true) (g:=fun j=>(listed.setIfInBounds i true).getD j true) (i:=i) h0 (hget true) (fun j hj=>getD_set_ne true (Ne.symm hj)) hlt
      omega
     ·rw [getD_set_ne false (by omega)];exact hlow k hk hkl
     ·have hne:o.dst≠some t:=h i o ho (hget false);rw [put_ne _ _ _ hne]
      exact ht t fun j p hp hl=>h j p hp (getD_set_true hl)
     ·by_cases e:i=j
      ·subst e;rw [ho] at hp;obtain rfl:=Option.some.inj hp
       cases hod:o.dst with
       | none=>exact absurd hod hn
       | some d =>
        have:tv (a.put (some d) v) d=v:=by
         unfold tv;rw [Array.getD_eq_getD_getElem?,put_same _ _ _ (by rw [hs];exact (b2 d hod).1)]
         rfl
        simp only [vof];rw [this];exact hTv
      ·rw [getD_set_ne false e] at hl;have h2:=hTs j _ w' w1 (hT j p hp hl hn) hR1
       cases hpd:p.dst with
       | none=>exact absurd hpd hn
       | some d =>
        rw [hpd] at h2;simp only [vof] at h2 ⊢;rw [show tv (a.put o.dst v) d=tv a d from tv_of (put_ne _ _ _ (fun hod=>hdist i o j p ho hp e d hod hpd))];exact h2
    unfold wpOp;simp only [ho']
    cases hg:o.guard with
    | none =>
     rw [hg] at hop;rw [if_pos (by simp [Region.wanted,hg])];exact .inl (wp_of_gives hop fun v w1 ⟨h1,h2,h3⟩=>next v w1 h1 h2 h3)
    | some g =>
     rw [hg] at hop;obtain ⟨g1,g2⟩:=hop
     split
     ·rename_i hw
      exact .inl (wp_of_gives (g1 hw) fun v w1 ⟨h1,h2,h3⟩=>next v w1 h1 h2 h3)
     ·rename_i hw
      obtain ⟨h1,h2⟩:=g2 (by simpa using hw);exact next undef w' h1 (hRr _) h2
 refine main l.toArray.size 0 _ a0 w.drew ?_ (by simp) (by simp) (fun i _ hil=>by rw [Array.getD_eq_getD_getElem?,Array.getElem?_replicate,if_pos (by simpa using hil)];rfl) (fun i o ho hl=>by
  exfalso
  rw [Array.getD_eq_getD_getElem?,Array.getElem?_replicate] at hl
  split at hl <;> simp at hl) ⟨hRr _,hI0,rfl,rfl,fun t _=>rfl,fun j o ho hl=>?_⟩
 ·have:∀ n,n≤l.length→cntF (fun i=>(Array.replicate l.toArray.size false).getD i true) n=n:=by
   intro n
   induction n with
   | zero=>intro _;rfl
   | succ n ihn =>
    intro hn;simp only [cntF];rw [ihn (by omega)]
    have:(Array.replicate l.toArray.size false).getD n true=false:=by
     rw [Array.getD_eq_getD_getElem?,Array.getElem?_replicate,if_pos (by simp;omega)];rfl
    rw [if_neg (by rw [this];decide)]
  simpa using this l.length (Nat.le_refl _)
 ·exfalso
  rw [Array.getD_eq_getD_getElem?,Array.getElem?_replicate] at hl
  split at hl <;> simp at hl
end
end
section
section
variable {P:Program}
def noDef (o:Oper):Bool:=match o.op with
 | .defer _=>false
 | _=>true
theorem noDef_ne {o:Oper} (h:noDef o=true):∀ c,o.op≠.defer c:=fun c e=>by
 unfold noDef at h;rw [e] at h
 cases h
def OnlyN (Q0:Exit→Act→World→Prop):Prop:=∀ e a w,e≠.normal→¬ Q0 e a w
theorem opLift {l n:Nat} {o:Oper} {a:Act} {w:World} {K K':Act→World→Prop} {Q0 Q:Exit→Act→World→Prop} (hd:noDef o=true) (hQ:OnlyN Q0) (hK:∀ a w,K a w→K' a w) (h:o.wp P a w K Q0):o.wpIn (Fence.wide.inRound l) n P a w K' Q:=by
 refine ⟨fun _ _=>trivial,?_⟩;rw [Oper.semAt_eq _ _ _ (noDef_ne hd)];unfold Oper.wp at h;generalize (execOp a.eval o).run P w=r at h
 cases r with
 | ok x w' =>
  cases x with
  | value v=>exact hK _ _ h
  | skip=>exact hK _ _ h
  | defer d=>exact hK _ _ h
  | enter f args =>
   refine ⟨(fun x=>by cases x),CallsIn.inRound l (callsIn_wide.2 (Calls.mono h ?_))⟩;intro e w2 he
   cases e with
   | returned v=>exact hK _ _ he
   | panicked c=>exact (hQ (.panic c) _ _ (fun x=>by cases x) he).elim
   | outgrown =>
    obtain ⟨a2,w3,h3⟩:=he;exact (hQ .outgrown _ _ (fun x=>by cases x) h3).elim
  | row r args =>
   refine ⟨(fun x=>by cases x),fun c cs _=>?_⟩;obtain ⟨v,w2,h1,h2⟩:=h c cs;exact ⟨v,w2,hK _ _ h1,by rw [fenced_inRound];exact stepsIn_wide.2 h2⟩
  | _=>exact h.elim
 | halt x w' =>
  cases x with
  | panic v=>exact (hQ (.panic _) _ _ (fun x=>by cases x) h).elim
  | _=>exact h.elim
theorem lets_no {Q0:Exit→Act→World→Prop} (hQ:OnlyN Q0):¬ LetsOut Q0:=fun ⟨a,w,h⟩=>hQ _ _ _ (fun x=>by cases x) h
theorem anyLift {l n:Nat} {md:Region.Mode} {ops:Array Oper} {Q0 Q:Exit→Act→World→Prop} (hd:ops.all noDef=true) (hQ:OnlyN Q0) (hN:∀ a w,Q0 .normal a w→Q .normal a w):∀ (fuel:Nat) (listed:Array Bool) (a:Act) (w:World),wpAny P md ops Q0 fuel listed a w→wpAnyIn (Fence.wide.inRound l) n P md ops Q fuel listed a w:=by
 intro fuel
 induction fuel with
 | zero=>exact fun listed a w h=>⟨h.1,hN _ _ h.2⟩
 | succ fuel ih =>
  intro listed a w h;refine ⟨fun hr=>hN _ _ (h.1 hr),fun i hi=>?_⟩;have h1:=h.2 i hi;unfold wpOp at h1;unfold wpOpIn
  cases ho:ops[i]? with
  | none=>simp only [ho] at h1 ⊢;exact ih _ _ _ h1
  | some o =>
   simp only [ho] at h1 ⊢;have hdo:noDef o=true:=(Array.all_eq_true_iff_forall_mem.1 hd) o (Array.mem_of_getElem? ho)
   split
   ·rename_i hw
    simp only [hw,if_true] at h1
    rcases h1 with h1 | h1
    ·exact opLift hdo hQ (fun a w=>ih _ a w) h1
    ·exact (lets_no hQ h1.2).elim
   ·rename_i hw
    simp only [hw] at h1;exact ⟨fun _ _=>trivial,ih _ _ _ h1⟩
theorem listLift {l n:Nat} {ops:Array Oper} {Q0 Q:Exit→Act→World→Prop} (hQ:OnlyN Q0) (hN:∀ a w,Q0 .normal a w→Q .normal a w):∀ (os:List Oper) (a:Act) (w:World),os.all noDef=true→wpList P ops Q0 os a w→wpListIn (Fence.wide.inRound l) n P ops Q os a w:=by
 intro os
 induction os with
 | nil=>exact fun a w _ h=>hN _ _ h
 | cons o rest ih =>
  intro a w hd h;simp only [List.all_cons,Bool.and_eq_true] at hd;unfold wpList at h;unfold wpListIn
  split
  ·rename_i hw
   rw [if_pos hw] at h
   rcases h with h | h
   ·exact opLift hd.1 hQ (fun a w=>ih a w hd.2) h
   ·exact (lets_no hQ h.2).elim
  ·rename_i hw
   rw [if_neg hw] at h;exact ⟨fun _ _=>trivial,ih _ _ hd.2 h⟩
theorem onlyN_then {K:Act→World→Prop}:OnlyN (Exit.then K (fun _ _ _=>False)):=fun e a w h q=>by
 cases e <;> first | exact h rfl | exact q
theorem wpIn_region_lift {l n id:Nat} {os:List Oper} {Q:Exit→Act→World→Prop} {a:Act} {w:World} (hd:os.all noDef=true) (h:wpList P os.toArray (Exit.then (fun a w=>Q .normal a w) (fun _ _ _=>False)) os a w):(Code.region id os.toArray false).wpIn (Fence.wide.inRound l) n P Q a w :=
 wpIn_region_lit (listLift (Q0:=Exit.then (fun a w=>Q .normal a w) (fun _ _ _=>False)) (Q:=Q) onlyN_then (fun _ _ h=>h) os a w hd h)
theorem wpIn_region_liftAny {l n id:Nat} {ops:Array Oper} {Q:Exit→Act→World→Prop} {a:Act} {w:World} (hm:P.follows .mixedOrders=true) (hd:ops.all noDef=true) (h:wpAny P .any ops (Exit.then (fun a w=>Q .normal a w) (fun _ _ _=>False)) ops.size (Array.replicate ops.size false) a { w with drawn:=w.drawn+1 }):(Code.region id ops true).wpIn (Fence.wide.inRound l) n P Q a w :=
 wpIn_region_any hm (anyLift (Q0:=Exit.then (fun a w=>Q .normal a w) (fun _ _ _=>False)) (Q:=Q) hd onlyN_then (fun _ _ h=>h) _ _ _ _ h)
theorem wpAny_rxp {l:List Oper} {Q:Exit→Act→World→Prop} {a0:Act} {w:World} (n1 m:Nat) (listed:Array Bool) (hm:l.length-n1=m) (hls:listedTo n1 0 (Array.replicate l.toArray.size false)=listed) (tl:List (Value→World→Prop)) (hB:rgC l a0.tmps.size=true) (hC:cloB l n1=true) (hTs:∀ T∈tl,Stay T)
  (hops:opsOK P l (fun k=>tl.getD k XT) Gr GIx a0 w.drew (l.take n1) 0) (hfin:∀ w',Gr w.drew w'→finP (fun k=>tl.getD k XT) w' (fun a'=>wpAny P .any l.toArray Q m listed a' w') (l.take n1) 0 a0):wpAny P .any l.toArray Q l.toArray.size (Array.replicate l.toArray.size false) a0 w.drew:=by
 subst hm hls
 exact wpAny_rgp (fun k=>tl.getD k XT) Gr GIx n1 hB hC Gr.refl (fun _ _ _ h k=>h.trans k) (stay_list hTs) trivial hops fun w' h _=>hfin w' h
theorem wpAny_store {md:Region.Mode} {ops:Array Oper} {Q:Exit→Act→World→Prop} {f:Nat} {listed:Array Bool} {a:Act} {w:World} (i:Nat) (T:TypeId) (x y:Operand) (b o:Nat) (vs:List Value) (hr:Region.ready md ops listed=[i]) (hr2:Region.ready md ops (listed.setIfInBounds i true)=[]) (ho:(ops[i]?).map (fun o=>(o.dst,o.op,o.guard))=some (none,.store T x y,none))
  (hx:a.eval x=.pointer (some ⟨b,o,none⟩)) (hy:a.eval y=.agg vs.toArray) (ht:w.there b o vs.length) (hi:(P.info? T).map (·.size)=some vs.length) (h1:∀ v∈vs,v.oneCell'=true)
  (h:Q .normal a (w.setCells b o vs)):wpAny P md ops Q (f+1) listed a w:=by
 cases hq:ops[i]? with
 | none=>rw [hq] at ho;cases ho
 | some op =>
  rw [hq] at ho;simp only [Option.map_some,Option.some.injEq,Prod.mk.injEq] at ho;obtain ⟨hd,hop,hg⟩:=ho;refine wpAny_one hr hq hg ?_;refine wp_store_mid T x y hop b o vs.toArray hx hy (by simpa using ht) (by simpa using hi) (all_oneCell_toArray h1) ?_;rw [hd];exact wpAny_end hr2 (by simpa [Act.put] using h)
end
end
section
attribute [local go_sem] givesUpon_value givesUpon_skip givesUpon_enter
theorem flat_get {k:Nat}:∀ {R:List (List Value)} {i j:Nat} {vs:List Value} {u:Value},(∀ vs∈R,vs.length=k)→R[i]?=some vs→vs[j]?=some u→R.flatten[i*k+j]?=some u
 | x :: t,0,j,vs,u,hl,h,hj=>by
  simp at h
  subst h
  have:=(List.getElem?_eq_some_iff.1 hj).1
  rw [Nat.zero_mul,Nat.zero_add,List.flatten_cons,List.getElem?_append_left this];exact hj
 | x :: t,i+1,j,vs,u,hl,h,hj=>by
  have hx:=hl x List.mem_cons_self;rw [List.getElem?_cons_succ] at h
  have:=flat_get (fun vs hv=>hl vs (List.mem_cons_of_mem _ hv)) h hj
  rw [List.flatten_cons,List.getElem?_append_right (by rw [hx,Nat.add_mul];omega),hx,show (i+1)*k+j-k=i*k+j from by rw [Nat.add_mul];omega];exact this
theorem own_rvK {w:World} {base k n:Nat} {T:TypeId} {v:Value} {R:List (List Value)} (h:w.ownsRow base T k v n R.flatten) (hn:n=R.length) (hl:∀ vs∈R,vs.length=k):∃ A c,v=.slice A n c∧RvK k w A R∧n≤c:=by
 rcases h.2 with ⟨rfl,h0⟩ | ⟨g,cap,cur,rfl,hb,hg,hc,_,hs,ht⟩
 ·have:R=[]:=List.length_eq_zero_iff.1 (by omega)
  subst this;exact ⟨none,0,by rw [h0],RvK.nil _ _ _,by omega⟩
 ·refine ⟨_,cap,rfl,fun _=>⟨g,0,rfl,ltS hg,fun i vs hi j u hj=>?_⟩,hc⟩;have hil:=(List.getElem?_eq_some_iff.1 hi).1;have hjl:=(List.getElem?_eq_some_iff.1 hj).1;have hvl:=hl vs (List.mem_of_getElem? hi);have e:=flat_get hl hi hj;rw [<- ht,List.getElem?_take] at e
  split at e
  ·rw [Nat.zero_add];exact (cellS hg _).trans (by simpa using e)
  ·cases e
theorem newK (W:World) (vs:List Value) (T:TypeId):∀ (j:Nat) (u:Value),vs[j]?=some u→(W.alloc (.cells vs.toArray T)).cell? ((⟨W.heap.size,0,none⟩:Addr).add j)=some u:=fun j u h=>by
 have hadd:(⟨W.heap.size,0,none⟩:Addr).add j=⟨W.heap.size,j,none⟩:=by unfold Addr.add;split <;> simp_all
 rw [hadd];exact (cellS (newS W _) j).trans (by simpa using h)
theorem full_set {w:World} {g k:Nat} {z:Array Value} {T:TypeId} (h:w.heap[g]?=some (.cells z T (0,0))) (hz:z.size=k) (vs:List Value) (hv:vs.length=k):(w.setCells g 0 vs).heap[g]?=some (.cells vs.toArray T (0,0)):=by
 rw [heap_setCells vs 0 w z h]
 congr 2
 apply Array.ext
 ·rw [wrAt_size,hz];simp [hv]
 ·intro i h1 h2
  have:=wrAt_in vs z 0 i (by omega) (by simpa using h2)
  rw [Nat.zero_add,Array.getElem?_eq_getElem h1] at this;rw [List.getElem?_eq_getElem (by simpa using h2)] at this
  simpa using this
theorem own_other {w w':World} {base g:Nat} {e:TypeId} {size:Nat} {v:Value} {n:Nat} {xs:List Value} (h:w.ownsRow base e size v n xs) (hg:w.grownBy w' (some g)) (hne:v.ownBlock=some g→False):w'.ownsRow base e size v n xs :=
 h.kept hg (.inr hne)
theorem below_grownW {a w w':World} {g n:Nat} (hb:Below n a w) (hg:w.grownBy w' (some g)) (hle:n≤g) (hn:n≤w.heap.size):Below n a w' :=
 ⟨hg.os.trans hb.os,hg.tape.trans hb.tape,hg.output.trans hb.output,Nat.le_trans hb.size hg.size,fun k hk=>(hg.block k (Nat.lt_of_lt_of_le hk hn) (fun e=>by have:=Option.some.inj e;omega)).trans (hb.block k hk)⟩
def BxZ (w:World) (v:Value) (lo:Nat) (T:TypeId) (k:Nat):Prop:=∃ (g:Nat) (z:Array Value),v=.pointer (some ⟨g,0,none⟩)∧lo≤g∧w.heap[g]?=some (.cells z T (0,0))∧z.size=k
theorem BxZ.keep {w w':World} {v:Value} {lo:Nat} {T:TypeId} {k:Nat} (h:BxZ w v lo T k) (hb:Below w.heap.size w w'):BxZ w' v lo T k:=let ⟨g,z,e,hl,hh,hz⟩:=h;⟨g,z,e,hl,(hb.block _ (ltS hh)).trans hh,hz⟩
theorem run_allocK {P:Program} {T:TypeId} {k:Nat} (w:World) (hi:∃ i z,P.info? T=some i∧i.zero=some z∧z.cells.size=k):∃ f:Array Value,f.size=k∧(Instr.alloc T true (.tuple #[])).run P w=.ok (.pointer (some ⟨w.heap.size,0,none⟩)) (w.alloc (.cells f T)):=by
 obtain ⟨i,z,h1,h2,h3⟩:=hi;exact ⟨z.cells,h3,by simp [Instr.alloc,zeroValue,typeInfo,h1,h2,newVar,go_sem]⟩
theorem info_own {P:Program} {T:TypeId} {k b:Nat} (h:(P.info? T).map (fun i=>(i.size,i.bytes,i.zero.map (fun z=>z.cells.size)))=some (k,b,some k)):∃ (i:TypeInfo) (z:Value),P.info? T=some i∧i.zero=some z∧i.size=k∧i.bytes=b∧z.cells.size=k:=by
 cases hq:P.info? T with
 | none=>rw [hq] at h;cases h
 | some i =>
  rw [hq] at h;simp only [Option.map_some,Option.some.injEq,Prod.mk.injEq] at h;obtain ⟨e1,e2,e3⟩:=h
  cases hz:i.zero with
  | none=>rw [hz] at e3;cases e3
  | some z=>rw [hz] at e3;simp only [Option.map_some,Option.some.injEq] at e3;exact ⟨i,z,rfl,hz,e1,e2,e3⟩
theorem pksF_snoc {L:List Nd} {g:Nat→Int × Int} {ks:List Nat} {k x:Nat} {m:Nd} (h:ks[k]?=some x) (hm:L[x]?=some m):pksF L g (ks.take (k+1))=pksF L g (ks.take k) ++ [pkOf m (g x)]:=by
 obtain ⟨hk,e⟩:=List.getElem?_eq_some_iff.1 h;unfold pksF;rw [List.take_succ_eq_append_getElem hk,e,List.filterMap_append]
 simp [hm]
theorem pksF_take_len {L:List Nd} {g:Nat→Int × Int} {ks:List Nat} (hk:∀ x∈ks,x<L.length):∀ k,k≤ks.length→(pksF L g (ks.take k)).length=k:=by
 intro k
 induction k with
 | zero=>intro _;simp [pksF]
 | succ k ih =>
  intro h;have e:ks[k]?=some ks[k]:=List.getElem?_eq_getElem (by omega);have hlt:ks[k]'(by omega)<L.length:=hk _ (List.getElem_mem (by omega));have em:L[ks[k]'(by omega)]?=some (L[ks[k]'(by omega)]'hlt):=List.getElem?_eq_getElem hlt;rw [pksF_snoc e em,List.length_append,ih (by omega)]
  rfl
theorem packsOf_v (A:Option Addr) (c:Nat) (R:List Nr) (ks:List Nat) (B:Option Addr) (cb n:Nat) (g:Nat→Int × Int) (w:World) (h:NrV w A R) (hR1:1≤R.length) (hL:R.length≤1048576) (hB:NV w B (ks.map fun (k:Nat)=>(k:Int))) (hn:n=ks.length) (hn2:n≤1048576) (hk:∀ k∈ks,k<R.length)
  (hS:∀ k∈ks,∀ W,Below w.heap.size w W→Calls Tryz.prog 113 #[.agg #[.slice A R.length c],.int .i64 (k:Int)] W fun e W'=>e=.returned (.tuple #[.int .i64 (g k).1,.int .i64 (g k).2])∧Below W.heap.size W W') :
  Calls Tryz.prog 78 #[.agg #[.slice A R.length c],.slice B n cb] w fun e w'=>(∃ A' c',e=.returned (.slice A' n c')∧PV w' A' (pksF (R.map Nr.n) g ks)∧n≤c')∧Below w.heap.size w w':=by
 obtain ⟨ti,tz,ti1,ti2,ti3,ti4,ti5⟩:=info_own (P:=Tryz.prog) (T:=86) (k:=9) (b:=56) (by kernel_rfl);obtain ⟨b,off,rfl,hb,hc⟩:=h.cells hR1;have HC:=hD hc;have HS:=hD hS;have HKS:=hD hk;have HN:=hD hB;have hnk:=hn;have HNK:=hD hnk;clear hc h hS hk hB hn hnk;refine calls_abs Tryz.func78 rfl 44 (by simp only [Tryz.ntmps78]) (by simp) (fun t hsz hargs=>?_)
 have q0:t[0]?=some (.agg #[.slice (some ⟨b,off,none⟩) R.length c]):=get_of (by omega) (hargs 0 _ rfl);have q1:t[1]?=some (.slice B n cb):=get_of (by omega) (hargs 1 _ rfl);clear hargs;obtain ⟨l0,e0⟩:=gE q0;obtain ⟨l1,e1⟩:=gE q1
 refine wp_seq_h fun K hK=>?_
 apply wp_region_lit
 repeat (first | go_step)
 refine hK.out _ _ ?_;clear hK K;refine wp_abw (fun t' W'=>t'.size=44∧t'[1]?=some (.slice B n cb)∧t'[2]?=some (.pointer (some ⟨w.heap.size,0,none⟩))∧W'.heap[w.heap.size]?=some (.cells #[.slice (some ⟨b,off,none⟩) R.length c] 30 (0,0))∧Below w.heap.size w W') ⟨by simp [Act.put,hsz],by simp [Act.put,q1],by simp [Act.put,hsz],⟨newS _ _,balloc (Below.refl _ _)⟩⟩ ?_;clear hsz q0 l0 e0 q1 l1 e1 t
 rintro t Wb ⟨hsz,q1,q2,HX,hB0⟩;have HXX:=hD HX;have HB0:=hD hB0;replace HC:=hD (show ∀ k p,R[k]?=some p→Wb.rangeAt b (off+k*34) (valsNr p) from fun k p hk=>rangeB (HC.out k p hk) (hB0.block b hb));replace HN:=hD (HN.out.keep hB0);have hbl:b<Wb.heap.size:=Nat.lt_of_lt_of_le hb hB0.size;have lxb:w.heap.size<Wb.heap.size:=ltS HX;clear HX hB0 hb;obtain ⟨l1,e1⟩:=gE q1;obtain ⟨l2,e2⟩:=gE q2
 refine wp_seq_h fun K hK=>?_
 apply wp_region_lit
 repeat (first | go_step)
 refine hK.out _ _ ?_;clear hK K
 refine wp_abw (fun t' W'=>t'.size=44∧t'[1]?=some (.slice B n cb)∧t'[2]?=some (.pointer (some ⟨w.heap.size,0,none⟩))∧t'[5]?=some (.slice (some ⟨Wb.heap.size,0,none⟩) 0 0)∧W'.ownsRow Wb.heap.size 86 9 (.slice (some ⟨Wb.heap.size,0,none⟩) 0 0) 0 (([]:List (List Value)).flatten)∧Below Wb.heap.size Wb W') ⟨by simp [Act.put,hsz],by simp [Act.put,q1],by simp [Act.put,q2],by simp [Act.put,hsz],⟨World.ownsRow_lit (base:=Wb.heap.size) (e:=86) (size:=9) Wb #[] 0 (Nat.le_refl _) (by decide) rfl,balloc (Below.refl _ _)⟩⟩ ?_
 clear hsz q1 l1 e1 q2 l2 e2 t;rintro t W0 ⟨hsz,q1,q2,q5,hO,hB⟩
 refine wp_seq_h fun KE hKE=>?_
 obtain ⟨l1,e1⟩:=gE q1;obtain ⟨l2,e2⟩:=gE q2;obtain ⟨l5,e5⟩:=gE q5
 refine wp_seq_h fun K hK=>?_
 apply wp_region_lit
 repeat (first | go_step)
 refine hK.out _ _ ?_;clear hK K;refine wp_abw (fun t' W'=>t'.size=44∧t'[1]?=some (.slice B n cb)∧t'[2]?=some (.pointer (some ⟨w.heap.size,0,none⟩))∧t'[5]?=some (.slice (some ⟨Wb.heap.size,0,none⟩) 0 0)∧t'[6]?=some (.int .i64 ((0:Nat):Int))∧W0=W') ⟨by simp [Act.put,hsz],by simp [Act.put,q1],by simp [Act.put,q2],by simp [Act.put,q5],by simp [Act.put,hsz],rfl⟩ ?_
 clear hsz q1 l1 e1 q2 l2 e2 q5 l5 e5 t;rintro t _ ⟨hsz,q1,q2,q5,q6,rfl⟩;apply wp_block
 refine wp_loop (fun a W=>∃ (t:Array Value) (k:Nat) (v:Value),a=⟨t,[]⟩∧k≤n∧t.size=44∧t[1]?=some (.slice B n cb)∧t[2]?=some (.pointer (some ⟨w.heap.size,0,none⟩))∧t[5]?=some (v)∧t[6]?=some (.int .i64 (k:Int))∧W.ownsRow Wb.heap.size 86 9 v k ((pksF (R.map Nr.n) g (ks.take k)).map valsPk).flatten∧Below Wb.heap.size Wb W) (fun a _=>n-(intOf (a.tmps.getD 6 undef)).toNat) ⟨t,0,_,rfl,by omega,hsz,q1,q2,q5,q6,by simpa [pksF] using hO,hB⟩ ?_
 clear t hsz q1 q2 q5 q6 hO hB W0;rintro a W ⟨t,k,v,rfl,hk,hsz,q1,q2,q5,q6,hO,hB⟩
 have hmu:intOf (t.getD 6 undef)=(k:Int):=by rw [Array.getD_eq_getD_getElem?,q6];rfl
 dsimp only
 rw [hmu];clear hmu;have HO:=hD hO;have HB:=hD hB;clear hO hB
 by_cases hlt:k<n
 ·have hd:decide ((k:Int)<(n:Int))=true:=by simpa using hlt
  refine wp_seq_h fun K1 hK1=>?_
  obtain ⟨l1,e1⟩:=gE q1;obtain ⟨l2,e2⟩:=gE q2;obtain ⟨l5,e5⟩:=gE q5;obtain ⟨l6,e6⟩:=gE q6
  refine wp_seq_h fun K hK=>?_
  apply wp_region_lit
  repeat (first | go_step)
  refine hK.out _ _ ?_;clear hK K;refine wp_abw (fun t' W'=>t'.size=44∧t'[1]?=some (.slice B n cb)∧t'[2]?=some (.pointer (some ⟨w.heap.size,0,none⟩))∧t'[5]?=some (v)∧t'[6]?=some (.int .i64 (k:Int))∧t'[14]?=some (.bool true)∧W=W') ⟨by simp [Act.put,hsz],by simp [Act.put,q1],by simp [Act.put,q2],by simp [Act.put,q5],by simp [Act.put,q6],by simp [Act.put,hsz,hd],rfl⟩ ?_
  clear hsz q1 l1 e1 q2 l2 e2 q5 l5 e5 q6 l6 e6 t;rintro t _ ⟨hsz,q1,q2,q5,q6,q14,rfl⟩;clear hd;refine wp_cond_true (by simp [Act.eval,q14]) ?_;apply wp_skip;simp only [Exit.then];refine hK1.out _ _ ?_;clear hK1 K1 q14
  refine wp_seq_h fun KB hKB=>?_
  apply wp_block
  have hkl:k<ks.length:=by rw [<- HNK.out];exact hlt
  have hkg:ks[k]?=some ks[k]:=List.getElem?_eq_getElem hkl;have hxl:ks[k]<R.length:=HKS.out _ (List.getElem_mem hkl);have hget:R[ks[k]]?=some R[ks[k]]:=List.getElem?_eq_getElem hxl;have hS1:=HS.out _ (List.getElem_mem hkl);have hsn:=pksF_snoc (L:=R.map Nr.n) (g:=g) hkg (m:=R[ks[k]].n) (by rw [List.getElem?_map,hget];rfl);obtain ⟨b2,off2,rfl,hb2,hp2⟩:=(HN.out.keep HB.out).cells (by simp;omega)
  have cx:=hp2 k (ks[k]:Int) (by rw [List.getElem?_map,hkg];rfl);have hrp:=HC.out _ _ hget;generalize hxe:ks[k]=x at *;have hget2:R[x]?=some (R[x]'hxl):=List.getElem?_eq_getElem hxl;generalize (R[x]'hxl)=p at *
  have hd1:(k:Int)<(n:Int):=by omega
  have hd2:(x:Int)<(R.length:Int):=by omega
  have x0:=cellS ((HB.out.block _ lxb).trans HXX.out) 0;have lx:w.heap.size<W.heap.size:=Nat.lt_of_lt_of_le lxb HB.out.size;have hbl1:b<W.heap.size:=Nat.lt_of_lt_of_le hbl HB.out.size;have HRP:=hD (show W.rangeAt b (off+x*34) (valsNr p) from rangeB hrp (HB.out.block b hbl));have HS1:=hD hS1;have HSN:=hD hsn
  have HCX:=hD (show ∀ W',Below Wb.heap.size Wb W'→W'.cell? ⟨b2,off2+k,none⟩=some (.int .i64 (x:Int)) from fun W' hW'=>by obtain ⟨b3,off3,e3,hb3,hp3⟩:=(HN.out.keep hW').cells (by simp;omega);cases e3;exact hp3 k _ (by rw [List.getElem?_map,hkg];rfl));have HB2:=hD (show b2<Wb.heap.size by obtain ⟨b3,off3,e3,hb3,_⟩:=HN.out.cells (by simp;omega);cases e3;exact hb3);have HBW:=hD HB.out.size
  have HOL:=hD (show ∀ k,v.ownBlock=some k→k<W.heap.size from fun k e=>(HO.out.lt k e).2);clear hp2 hrp hS1 hsn hkg hget hget2 hxe hxl hkl;obtain ⟨l1,e1⟩:=gE q1;obtain ⟨l2,e2⟩:=gE q2;obtain ⟨l5,e5⟩:=gE q5;obtain ⟨l6,e6⟩:=gE q6
  refine wp_seq_h fun K hK=>?_
  refine wp_region_any (by kernel_rfl) ?_
  refine wpAny_rxp 10 1 #[true,true,true,true,true,true,true,true,true,true,false] (by kernel_rfl) (by kernel_rfl) (XV (.pointer (some ⟨w.heap.size,0,none⟩)) :: XV (.slice (some ⟨b,off,none⟩) R.length c) :: XV (.slice (some ⟨b2,off2,none⟩) n cb) :: XV (.int .i64 (k:Int)) :: XV (.pointer (some ⟨b2,off2+k,none⟩)) :: XV (.int .i64 (x:Int)) :: XV (.pointer (some ⟨b,off+x*34,none⟩)) :: XV (.pointer (some ⟨b,off+x*34+7,none⟩)) :: XV (.agg (valsPk p.n.pk).toArray) :: (fun v w=>BxZ w v W.heap.size 86 9) :: []) (by show rgC _ t.size=true;rw [hsz];kernel_rfl) (by kernel_rfl) ?hTs ?hops ?hfin
  case hTs =>
   intro T hT;simp only [List.mem_cons,List.not_mem_nil,or_false] at hT
   rcases hT with rfl | rfl | rfl | rfl | rfl | rfl | rfl | rfl | rfl | rfl <;> first | exact stay_V _ | exact stay_T | exact stay_of (fun v a b x g=>x.keep g) | exact stay_of (fun v a b x g=>x)
  case hops =>
   refine ⟨opOK_rx [(2,none)] (by kernel_rfl) rfl ?_,?_⟩
   ·intro act w' hw' h1;obtain ⟨hk,hf⟩:=evkf act;generalize act.eval=ρ at *;replace h1:ρ (.tmp 2)=.pointer (some ⟨w.heap.size,0,none⟩):=h1.trans (by simp [Act.eval,q2])
    refine gxB hw' fun K hK hc hf'=>?_
    go_simp;exact hK _ _ ⟨rfl,Gr.refl _⟩
   refine ⟨opOK_rx [(17,some 0)] (by kernel_rfl) rfl ?_,?_⟩
   ·intro act w' hw' h1;obtain ⟨hk,hf⟩:=evkf act;generalize act.eval=ρ at *;replace h1:ρ (.tmp 17)=.pointer (some ⟨w.heap.size,0,none⟩):=h1
    refine gxB hw' fun K hK hc hf'=>?_
    go_simp;exact hK _ _ ⟨rfl,Gr.refl _⟩
   refine ⟨opOK_rx [(1,none)] (by kernel_rfl) rfl ?_,?_⟩
   ·intro act w' hw' h1;obtain ⟨hk,hf⟩:=evkf act;generalize act.eval=ρ at *;replace h1:ρ (.tmp 1)=.slice (some ⟨b2,off2,none⟩) n cb:=h1.trans (by simp [Act.eval,q1])
    refine gxB hw' fun K hK hc hf'=>?_
    go_simp;exact hK _ _ ⟨rfl,Gr.refl _⟩
   refine ⟨opOK_rx [(6,none)] (by kernel_rfl) rfl ?_,?_⟩
   ·intro act w' hw' h1;obtain ⟨hk,hf⟩:=evkf act;generalize act.eval=ρ at *;replace h1:ρ (.tmp 6)=.int .i64 (k:Int):=h1.trans (by simp [Act.eval,q6])
    refine gxB hw' fun K hK hc hf'=>?_
    go_simp;exact hK _ _ ⟨rfl,Gr.refl _⟩
   refine ⟨opOK_rx [(19,some 2),(20,some 3)] (by kernel_rfl) rfl ?_,?_⟩
   ·intro act w' hw' h1 h2;obtain ⟨hk,hf⟩:=evkf act;generalize act.eval=ρ at *;replace h1:ρ (.tmp 19)=.slice (some ⟨b2,off2,none⟩) n cb:=h1;replace h2:ρ (.tmp 20)=.int .i64 (k:Int):=h2
    refine gxB hw' fun K hK hc hf'=>?_
    go_simp;exact hK _ _ ⟨rfl,Gr.refl _⟩
   refine ⟨opOK_rx [(21,some 4)] (by kernel_rfl) rfl ?_,?_⟩
   ·intro act w' hw' h1;obtain ⟨hk,hf⟩:=evkf act;generalize act.eval=ρ at *;replace h1:ρ (.tmp 21)=.pointer (some ⟨b2,off2+k,none⟩):=h1
    refine gxB hw' fun K hK hc hf'=>?_
    go_simp;exact hK _ _ ⟨rfl,Gr.refl _⟩
   refine ⟨opOK_rx [(18,some 1),(22,some 5)] (by kernel_rfl) rfl ?_,?_⟩
   ·intro act w' hw' h1 h2;obtain ⟨hk,hf⟩:=evkf act;generalize act.eval=ρ at *;replace h1:ρ (.tmp 18)=.slice (some ⟨b,off,none⟩) R.length c:=h1;replace h2:ρ (.tmp 22)=.int .i64 (x:Int):=h2
    refine gxB hw' fun K hK hc hf'=>?_
    go_simp;exact hK _ _ ⟨rfl,Gr.refl _⟩
   refine ⟨opOK_rx [(23,some 6)] (by kernel_rfl) rfl ?_,?_⟩
   ·intro act w' hw' h1;obtain ⟨hk,hf⟩:=evkf act;generalize act.eval=ρ at *;replace h1:ρ (.tmp 23)=.pointer (some ⟨b,off+x*34,none⟩):=h1
    refine gxB hw' fun K hK hc hf'=>?_
    go_simp;exact hK _ _ ⟨rfl,Gr.refl _⟩
   refine ⟨opOK_rx [(24,some 7)] (by kernel_rfl) rfl ?_,?_⟩
   ·intro act w' hw' h1;obtain ⟨hk,hf⟩:=evkf act;generalize act.eval=ρ at *;replace h1:ρ (.tmp 24)=.pointer (some ⟨b,off+x*34+7,none⟩):=h1;refine gx_gen (fun K hK=>?_)
    simp only [execOp,h1,Instr.loadAt,Instr.sureAddr,Sem.run_bind,Sem.run_pure,Result.andThen_ok,run_loadVar_mid w' b (off+x*34+7) 86 (valsPk p.n.pk) _ (rangeB (node_pk HRP.out) ((bdrewn hw'.out).block b hbl1)) Tryz.underlying86 rfl inf_Pack];exact hK _ _ ⟨rfl,Gr.refl _⟩
   refine ⟨opOK_rx [] (by kernel_rfl) rfl ?_,?_⟩
   ·intro act w' hw';obtain ⟨hk,hf⟩:=evkf act;generalize act.eval=ρ at *;refine gx_gen (fun K hK=>?_);obtain ⟨z,hz,hr⟩:=run_allocK (P:=Tryz.prog) (T:=86) w' infz_Pack;simp only [execOp,Sem.run_bind,hr,Result.andThen_ok,Sem.run_pure];exact hK _ _ ⟨⟨_,z,rfl,(bdrewn hw'.out).size,newS _ _,hz⟩,Gr.alloc _ _⟩
   exact trivial
  case hfin =>
   intro w1 hg1;intro v17 t17;replace t17:v17=.pointer (some ⟨w.heap.size,0,none⟩):=t17;subst t17;intro v18 t18;replace t18:v18=.slice (some ⟨b,off,none⟩) R.length c:=t18;subst t18;intro v19 t19;replace t19:v19=.slice (some ⟨b2,off2,none⟩) n cb:=t19;subst t19;intro v20 t20;replace t20:v20=.int .i64 (k:Int):=t20;subst t20;intro v21 t21;replace t21:v21=.pointer (some ⟨b2,off2+k,none⟩):=t21;subst t21
   intro v22 t22;replace t22:v22=.int .i64 (x:Int):=t22;subst t22;intro v23 t23;replace t23:v23=.pointer (some ⟨b,off+x*34,none⟩):=t23;subst t23;intro v24 t24;replace t24:v24=.pointer (some ⟨b,off+x*34+7,none⟩):=t24;subst t24;intro v25 t25;replace t25:v25=.agg (valsPk p.n.pk).toArray:=t25;subst t25;intro v7 t7;replace t7:(fun v w=>BxZ w v W.heap.size 86 9) v7 w1:=t7;have hb1:=bdrewn hg1.out
   clear hg1;simp only [finP,List.take_succ_cons,List.take_zero,Act.put,List.setIfInBounds_toArray,List.set_cons_succ,List.set_cons_zero];obtain ⟨gx,z,rfl,hgx,hhx,hzx⟩:=t7
   refine wpAny_store 10 86 (.tmp 7) (.tmp 25) gx 0 (valsPk p.n.pk) (by kernel_rfl) (by kernel_rfl) (by kernel_rfl) (by simp [Act.eval,Act.put,hsz]) (by simp [Act.eval,Act.put,hsz]) (thereB hhx (by rw [hzx];show 0+9≤9;omega)) inf_Pack (valsPk_one _) ?_;simp only [Exit.then];refine hK.out _ _ ?_;clear hK K
   refine wp_abw (fun t' W'=>t'.size=44∧t'[1]?=some (.slice (some ⟨b2,off2,none⟩) n cb)∧t'[2]?=some (.pointer (some ⟨w.heap.size,0,none⟩))∧t'[5]?=some (v)∧t'[6]?=some (.int .i64 (k:Int))∧t'[7]?=some (.pointer (some ⟨gx,0,none⟩))∧W'.heap[gx]?=some (.cells (valsPk p.n.pk).toArray 86 (0,0))∧Below W.heap.size W W'∧W.heap.size≤gx) ⟨by simp [Act.put,hsz],by simp [Act.put,q1],by simp [Act.put,q2],by simp [Act.put,q5],by simp [Act.put,q6],by simp [Act.put,hsz],⟨full_set hhx hzx (valsPk p.n.pk) rfl,below_setCells hgx _ _ _ hb1,hgx⟩⟩ ?_
   clear hsz q1 l1 e1 q2 l2 e2 q5 l5 e5 q6 l6 e6 t x0 lx hbl1 hd2 cx z hhx hzx hgx hb1 hb2;rintro t W1 ⟨hsz,q1,q2,q5,q6,q7,hgp,hb2,hgx⟩;have HGP:=hD hgp;replace HO:=hD (own_bw HO.out hb2);replace HB:=hD (bkeep2 HB.out hb2);clear hb2 hgp;have y0:=cellS ((HB.out.block _ lxb).trans HXX.out) 0;have lx:w.heap.size<W1.heap.size:=Nat.lt_of_lt_of_le lxb HB.out.size
   have cy:W1.cell? ⟨b2,off2+k,none⟩=some (.int .i64 (x:Int)):=HCX.out W1 HB.out;have lb2:b2<W1.heap.size:=Nat.lt_of_lt_of_le HB2.out HB.out.size;obtain ⟨l1,e1⟩:=gE q1;obtain ⟨l2,e2⟩:=gE q2;obtain ⟨l5,e5⟩:=gE q5;obtain ⟨l6,e6⟩:=gE q6;obtain ⟨l7,e7⟩:=gE q7
   refine wp_seq_h fun K hK=>?_
   refine wp_region_any (by kernel_rfl) ?_
   refine wpAny_rxp 11 0 #[true,true,true,true,true,true,true,true,true,true,true] (by kernel_rfl) (by kernel_rfl) (XV (.agg #[.slice (some ⟨b,off,none⟩) R.length c]) :: XV (.slice (some ⟨b2,off2,none⟩) n cb) :: XV (.int .i64 (k:Int)) :: XV (.pointer (some ⟨b2,off2+k,none⟩)) :: XV (.int .i64 (x:Int)) :: XV (.tuple #[.int .i64 (g x).1,.int .i64 (g x).2]) :: XV (.tuple #[.int .i64 (g x).1,.int .i64 (g x).2]) :: XV (.int .i64 (g x).1) :: XV (.int .i64 (g x).2) :: XV (.int .i64 (g x).1) :: XV (.int .i64 (g x).2) :: []) (by show rgC _ t.size=true;rw [hsz];kernel_rfl) (by kernel_rfl) ?hTs ?hops ?hfin
   case hTs =>
    intro T hT;simp only [List.mem_cons,List.not_mem_nil,or_false] at hT
    rcases hT with rfl | rfl | rfl | rfl | rfl | rfl | rfl | rfl | rfl | rfl | rfl <;> first | exact stay_V _ | exact stay_T | exact stay_of (fun v a b x g=>x.keep g) | exact stay_of (fun v a b x g=>x)
   case hops =>
    refine ⟨opOK_rx [(2,none)] (by kernel_rfl) rfl ?_,?_⟩
    ·intro act w' hw' h1;obtain ⟨hk,hf⟩:=evkf act;generalize act.eval=ρ at *;replace h1:ρ (.tmp 2)=.pointer (some ⟨w.heap.size,0,none⟩):=h1.trans (by simp [Act.eval,q2])
     refine gxB hw' fun K hK hc hf'=>?_
     go_simp;exact hK _ _ ⟨rfl,Gr.refl _⟩
    refine ⟨opOK_rx [(1,none)] (by kernel_rfl) rfl ?_,?_⟩
    ·intro act w' hw' h1;obtain ⟨hk,hf⟩:=evkf act;generalize act.eval=ρ at *;replace h1:ρ (.tmp 1)=.slice (some ⟨b2,off2,none⟩) n cb:=h1.trans (by simp [Act.eval,q1])
     refine gxB hw' fun K hK hc hf'=>?_
     go_simp;exact hK _ _ ⟨rfl,Gr.refl _⟩
    refine ⟨opOK_rx [(6,none)] (by kernel_rfl) rfl ?_,?_⟩
    ·intro act w' hw' h1;obtain ⟨hk,hf⟩:=evkf act;generalize act.eval=ρ at *;replace h1:ρ (.tmp 6)=.int .i64 (k:Int):=h1.trans (by simp [Act.eval,q6])
     refine gxB hw' fun K hK hc hf'=>?_
     go_simp;exact hK _ _ ⟨rfl,Gr.refl _⟩
    refine ⟨opOK_rx [(28,some 1),(29,some 2)] (by kernel_rfl) rfl ?_,?_⟩
    ·intro act w' hw' h1 h2;obtain ⟨hk,hf⟩:=evkf act;generalize act.eval=ρ at *;replace h1:ρ (.tmp 28)=.slice (some ⟨b2,off2,none⟩) n cb:=h1;replace h2:ρ (.tmp 29)=.int .i64 (k:Int):=h2
     refine gxB hw' fun K hK hc hf'=>?_
     go_simp;exact hK _ _ ⟨rfl,Gr.refl _⟩
    refine ⟨opOK_rx [(30,some 3)] (by kernel_rfl) rfl ?_,?_⟩
    ·intro act w' hw' h1;obtain ⟨hk,hf⟩:=evkf act;generalize act.eval=ρ at *;replace h1:ρ (.tmp 30)=.pointer (some ⟨b2,off2+k,none⟩):=h1
     refine gxB hw' fun K hK hc hf'=>?_
     go_simp;exact hK _ _ ⟨rfl,Gr.refl _⟩
    refine ⟨opOK_rx [(27,some 0),(31,some 4)] (by kernel_rfl) rfl ?_,?_⟩
    ·intro act w' hw' h1 h2;obtain ⟨hk,hf⟩:=evkf act;generalize act.eval=ρ at *;replace h1:ρ (.tmp 27)=.agg #[.slice (some ⟨b,off,none⟩) R.length c]:=h1;replace h2:ρ (.tmp 31)=.int .i64 (x:Int):=h2
     refine gxB hw' fun K hK hc hf'=>?_
     go_simp
     (refine (HS1.out _ (bkeep2 (bkeep2 HB0.out HB.out) (bdrewn hw'.out))).mono ?_);rintro e w1 ⟨rfl,hb1⟩;exact ⟨_,rfl,hK _ _ ⟨rfl,hb1⟩⟩
    refine ⟨opOK_rx [(32,some 5)] (by kernel_rfl) rfl ?_,?_⟩
    ·intro act w' hw' h1;obtain ⟨hk,hf⟩:=evkf act;generalize act.eval=ρ at *;replace h1:ρ (.tmp 32)=.tuple #[.int .i64 (g x).1,.int .i64 (g x).2]:=h1
     refine gxB hw' fun K hK hc hf'=>?_
     go_simp;exact hK _ _ ⟨rfl,Gr.refl _⟩
    refine ⟨opOK_rx [(26,some 6)] (by kernel_rfl) rfl ?_,?_⟩
    ·intro act w' hw' h1;obtain ⟨hk,hf⟩:=evkf act;generalize act.eval=ρ at *;replace h1:ρ (.tmp 26)=.tuple #[.int .i64 (g x).1,.int .i64 (g x).2]:=h1
     refine gxB hw' fun K hK hc hf'=>?_
     go_simp;exact hK _ _ ⟨rfl,Gr.refl _⟩
    refine ⟨opOK_rx [(26,some 6)] (by kernel_rfl) rfl ?_,?_⟩
    ·intro act w' hw' h1;obtain ⟨hk,hf⟩:=evkf act;generalize act.eval=ρ at *;replace h1:ρ (.tmp 26)=.tuple #[.int .i64 (g x).1,.int .i64 (g x).2]:=h1
     refine gxB hw' fun K hK hc hf'=>?_
     go_simp;exact hK _ _ ⟨rfl,Gr.refl _⟩
    refine ⟨opOK_rx [(33,some 7)] (by kernel_rfl) rfl ?_,?_⟩
    ·intro act w' hw' h1;obtain ⟨hk,hf⟩:=evkf act;generalize act.eval=ρ at *;replace h1:ρ (.tmp 33)=.int .i64 (g x).1:=h1
     refine gxB hw' fun K hK hc hf'=>?_
     go_simp;exact hK _ _ ⟨rfl,Gr.refl _⟩
    refine ⟨opOK_rx [(34,some 8)] (by kernel_rfl) rfl ?_,?_⟩
    ·intro act w' hw' h1;obtain ⟨hk,hf⟩:=evkf act;generalize act.eval=ρ at *;replace h1:ρ (.tmp 34)=.int .i64 (g x).2:=h1
     refine gxB hw' fun K hK hc hf'=>?_
     go_simp;exact hK _ _ ⟨rfl,Gr.refl _⟩
    exact trivial
   case hfin =>
    intro w2 hg2;intro v27 t27;replace t27:v27=.agg #[.slice (some ⟨b,off,none⟩) R.length c]:=t27;subst t27;intro v28 t28;replace t28:v28=.slice (some ⟨b2,off2,none⟩) n cb:=t28;subst t28;intro v29 t29;replace t29:v29=.int .i64 (k:Int):=t29;subst t29;intro v30 t30;replace t30:v30=.pointer (some ⟨b2,off2+k,none⟩):=t30;subst t30;intro v31 t31;replace t31:v31=.int .i64 (x:Int):=t31;subst t31
    intro v32 t32;replace t32:v32=.tuple #[.int .i64 (g x).1,.int .i64 (g x).2]:=t32;subst t32;intro v26 t26;replace t26:v26=.tuple #[.int .i64 (g x).1,.int .i64 (g x).2]:=t26;subst t26;intro v33 t33;replace t33:v33=.int .i64 (g x).1:=t33;subst t33;intro v34 t34;replace t34:v34=.int .i64 (g x).2:=t34;subst t34;intro v8 t8;replace t8:v8=.int .i64 (g x).1:=t8;subst t8;intro v9 t9
    replace t9:v9=.int .i64 (g x).2:=t9;subst t9;have hb2:=bdrewn hg2.out;clear hg2;simp only [finP,List.take_succ_cons,List.take_zero,Act.put,List.setIfInBounds_toArray,List.set_cons_succ,List.set_cons_zero];refine wpAny_end (by kernel_rfl) ?_;simp only [Exit.then];refine hK.out _ _ ?_;clear hK K y0 cy
    refine wp_abw (fun t' W'=>t'.size=44∧t'[1]?=some (.slice (some ⟨b2,off2,none⟩) n cb)∧t'[2]?=some (.pointer (some ⟨w.heap.size,0,none⟩))∧t'[5]?=some (v)∧t'[6]?=some (.int .i64 (k:Int))∧t'[7]?=some (.pointer (some ⟨gx,0,none⟩))∧t'[8]?=some (.int .i64 (g x).1)∧t'[9]?=some (.int .i64 (g x).2)∧W'.heap[gx]?=some (.cells (valsPk p.n.pk).toArray 86 (0,0))∧Below W1.heap.size W1 W') ⟨by simp [Act.put,hsz],by simp [Act.put,q1],by simp [Act.put,q2],by simp [Act.put,q5],by simp [Act.put,q6],by simp [Act.put,q7],by simp [Act.put,hsz],by simp [Act.put,hsz],⟨(hb2.block _ (ltS HGP.out)).trans HGP.out,hb2⟩⟩ ?_
    clear hsz q1 l1 e1 q2 l2 e2 q5 l5 e5 q6 l6 e6 q7 l7 e7 t hb2;rintro t W2 ⟨hsz,q1,q2,q5,q6,q7,q8,q9,hgp,hb2⟩;replace HO:=hD (own_bw HO.out hb2);replace HB:=hD (bkeep2 HB.out hb2);clear hb2 lx lb2 HGP;have fz0:=frozenS hgp 0;obtain ⟨y1,z1⟩:=thereS hgp (i:=0) (by show 0<9;omega);have lgx:=ltS hgp;obtain ⟨l1,e1⟩:=gE q1;obtain ⟨l2,e2⟩:=gE q2;obtain ⟨l5,e5⟩:=gE q5;obtain ⟨l6,e6⟩:=gE q6
    obtain ⟨l7,e7⟩:=gE q7;obtain ⟨l8,e8⟩:=gE q8;obtain ⟨l9,e9⟩:=gE q9
    refine wp_seq_h fun K hK=>?_
    apply wp_region_lit
    repeat (first | go_step)
    refine hK.out _ _ ?_;clear hK K
    refine wp_abw (fun t' W'=>t'.size=44∧t'[1]?=some (.slice (some ⟨b2,off2,none⟩) n cb)∧t'[2]?=some (.pointer (some ⟨w.heap.size,0,none⟩))∧t'[5]?=some (v)∧t'[6]?=some (.int .i64 (k:Int))∧t'[7]?=some (.pointer (some ⟨gx,0,none⟩))∧t'[8]?=some (.int .i64 (g x).1)∧t'[9]?=some (.int .i64 (g x).2)∧W'.heap[gx]?=some (.cells ((valsPk p.n.pk).toArray.setIfInBounds 0 (.int .i64 (g x).1)) 86 (0,0))∧W2.grownBy W' (some gx)) ⟨by simp [Act.put,hsz],by simp [Act.put,q1],by simp [Act.put,q2],by simp [Act.put,q5],by simp [Act.put,q6],by simp [Act.put,q7],by simp [Act.put,q8],by simp [Act.put,q9],⟨putS hgp _,gsetS (greflS _ gx) _ _⟩⟩ ?_
    clear hsz q1 l1 e1 q2 l2 e2 q5 l5 e5 q6 l6 e6 q7 l7 e7 q8 l8 e8 q9 l9 e9 t fz0 z1 y1 lgx;rintro t W3 ⟨hsz,q1,q2,q5,q6,q7,q8,q9,hgp3,hgr3⟩;have fz0:=frozenS hgp3 1;obtain ⟨y1,z1⟩:=thereS hgp3 (i:=1) (by show 1<9;omega);have lgx:=ltS hgp3;obtain ⟨l1,e1⟩:=gE q1;obtain ⟨l2,e2⟩:=gE q2;obtain ⟨l5,e5⟩:=gE q5;obtain ⟨l6,e6⟩:=gE q6;obtain ⟨l7,e7⟩:=gE q7;obtain ⟨l8,e8⟩:=gE q8;obtain ⟨l9,e9⟩:=gE q9
    refine wp_seq_h fun K hK=>?_
    apply wp_region_lit
    repeat (first | go_step)
    refine hK.out _ _ ?_;clear hK K
    refine wp_abw (fun t' W'=>t'.size=44∧t'[1]?=some (.slice (some ⟨b2,off2,none⟩) n cb)∧t'[2]?=some (.pointer (some ⟨w.heap.size,0,none⟩))∧t'[5]?=some (v)∧t'[6]?=some (.int .i64 (k:Int))∧t'[7]?=some (.pointer (some ⟨gx,0,none⟩))∧t'[8]?=some (.int .i64 (g x).1)∧t'[9]?=some (.int .i64 (g x).2)∧W'.heap[gx]?=some (.cells (valsPk (pkOf p.n (g x))).toArray 86 (0,0))∧W2.grownBy W' (some gx)) ⟨by simp [Act.put,hsz],by simp [Act.put,q1],by simp [Act.put,q2],by simp [Act.put,q5],by simp [Act.put,q6],by simp [Act.put,q7],by simp [Act.put,q8],by simp [Act.put,q9],⟨putS hgp3 _,gsetS hgr3 _ _⟩⟩ ?_
    clear hsz q1 l1 e1 q2 l2 e2 q5 l5 e5 q6 l6 e6 q7 l7 e7 q8 l8 e8 q9 l9 e9 t fz0 z1 y1 lgx hgp3 hgr3;rintro t W4 ⟨hsz,q1,q2,q5,q6,q7,q8,q9,hgp4,hgr4⟩;have hgxb:Wb.heap.size≤gx:=Nat.le_trans HBW.out hgx
    have hne:∀ k,v.ownBlock=some k→k<gx:=fun k e=>Nat.lt_of_lt_of_le (HOL.out k e) hgx
    have HO4:=hD (own_other HO.out hgr4 (fun e=>absurd (hne _ e) (Nat.lt_irrefl _)));have HB4:=hD (below_grownW HB.out hgr4 hgxb HB.out.size);clear HO HB hgr4 hgp;have HR:=hD (show W4.rangeAt gx 0 (valsPk (pkOf p.n (g x))) from fun j v hj=>by rw [Nat.zero_add];exact (cellS hgp4 j).trans (by simpa using hj));have hob:∀ b,v.ownBlock=some b→Wb.heap.size≤b∧b<W4.heap.size:=HO4.out.lt
    have hw4:Wb.heap.size≤W4.heap.size:=HB4.out.size;obtain ⟨l1,e1⟩:=gE q1;obtain ⟨l2,e2⟩:=gE q2;obtain ⟨l5,e5⟩:=gE q5;obtain ⟨l6,e6⟩:=gE q6;obtain ⟨l7,e7⟩:=gE q7;obtain ⟨l8,e8⟩:=gE q8;obtain ⟨l9,e9⟩:=gE q9;apply wp_region_lit
    repeat (first|((with_reducible show wpList _ _ _ _ _ _);refine ldK 86 _ [.int .i64 (g x).1,.int .i64 (g x).2,.int .i64 p.n.pk.s,.bool p.n.pk.fx,.bool p.n.pk.fy,.bool p.n.pk.ex,.int .i64 p.n.pk.an,.int .i64 p.n.pk.px,.int .i64 p.n.pk.py] gx 0 rfl rfl HR.out Tryz.underlying86 rfl inf_Pack (by simp [Act.eval,Act.put,hsz,e7]) ?_)|((with_reducible show wpList _ _ _ _ _ _);refine wpList_append_own _ rfl _ _ 117 rfl Wb.heap.size 86 ti tz 9 56 Tryz.underlying117 ti1 ti2 ti3 ti4 ti5 (by decide) v _ _ (by simp [Act.eval,Act.put,hsz,e5]) (HO4.out.alloc _) ⟨W4.heap.size,0,none⟩ 1 1 (valsPk (pkOf p.n (g x))) (by simp [Act.eval,Act.put,hsz]) rfl (newK _ (valsPk (pkOf p.n (g x))) _) (valsPk_one _) (by simp only [maxLen];omega) (by omega) (by simp;omega) ?_) | go_step)
    intro v5 w5 how5 hgr5 _;have hb5:=below_own HB4.out hgr5 hob (Nat.le_refl _) (Nat.le_refl _);rw [show ((pksF (R.map Nr.n) g (ks.take k)).map valsPk).flatten ++ valsPk (pkOf p.n (g x))=((pksF (R.map Nr.n) g (ks.take (k+1))).map valsPk).flatten by rw [HSN.out,List.map_append,List.flatten_append];simp] at how5
    repeat go_step
    try simp only [Exit.inBlock]
    refine hKB.out _ _ ?_;clear hKB KB;refine wp_abw (fun t' W'=>t'.size=44∧t'[1]?=some (.slice (some ⟨b2,off2,none⟩) n cb)∧t'[2]?=some (.pointer (some ⟨w.heap.size,0,none⟩))∧t'[5]?=some (v5)∧t'[6]?=some (.int .i64 (k:Int))∧w5=W') ⟨by simp [Act.put,hsz],by simp [Act.put,q1],by simp [Act.put,q2],by simp [Act.put,hsz],by simp [Act.put,q6],rfl⟩ ?_
    clear hsz q1 l1 e1 q2 l2 e2 q5 l5 e5 q6 l6 e6 q7 l7 e7 q8 l8 e8 q9 l9 e9 t hob hw4 hgxb hne HR hgp4;rintro t _ ⟨hsz,q1,q2,q5,q6,rfl⟩;obtain ⟨l1,e1⟩:=gE q1;obtain ⟨l2,e2⟩:=gE q2;obtain ⟨l5,e5⟩:=gE q5;obtain ⟨l6,e6⟩:=gE q6;apply wp_region_lit
    repeat go_step
    try simp only [Exit.then]
    refine ⟨⟨_,k+1,v5,rfl,by omega,by simp [hsz],by simp [q1],by simp [q2],by simp [q5],by simp [hsz],how5,hb5⟩,?_⟩
    ·simp [hsz,intOf]
     omega
 ·have hd:decide ((k:Int)<(n:Int))=false:=decide_eq_false (by omega)
  refine wp_seq_h fun K1 hK1=>?_
  obtain ⟨l1,e1⟩:=gE q1;obtain ⟨l2,e2⟩:=gE q2;obtain ⟨l5,e5⟩:=gE q5;obtain ⟨l6,e6⟩:=gE q6
  refine wp_seq_h fun K hK=>?_
  apply wp_region_lit
  repeat (first | go_step)
  refine hK.out _ _ ?_;clear hK K;refine wp_abw (fun t' W'=>t'.size=44∧t'[1]?=some (.slice B n cb)∧t'[2]?=some (.pointer (some ⟨w.heap.size,0,none⟩))∧t'[5]?=some (v)∧t'[6]?=some (.int .i64 (k:Int))∧t'[14]?=some (.bool false)∧W=W') ⟨by simp [Act.put,hsz],by simp [Act.put,q1],by simp [Act.put,q2],by simp [Act.put,q5],by simp [Act.put,q6],by simp [Act.put,hsz,hd],rfl⟩ ?_
  clear hsz q1 l1 e1 q2 l2 e2 q5 l5 e5 q6 l6 e6 t;rintro t _ ⟨hsz,q1,q2,q5,q6,q14,rfl⟩;refine wp_cond_false (by simp [Act.eval,q14]) ?_;apply wp_exit;simp only [Exit.then,Exit.inBlock,if_true];refine hKE.out _ _ ?_;clear hd
  obtain rfl:k=n:=by omega
  have hall:ks.take k=ks:=List.take_of_length_le (by rw [HNK.out];exact Nat.le_refl _);have hO:=HO.out;rw [hall] at hO
  have hlen:k=((pksF (R.map Nr.n) g ks).map valsPk).length:=by
   have:=pksF_take_len (L:=R.map Nr.n) (g:=g) (ks:=ks) (by simpa using HKS.out) k (by rw [HNK.out];exact Nat.le_refl _)
   rw [hall] at this;rw [List.length_map,this]
  obtain ⟨A',c',hv,hrv,hcn⟩:=own_rvK hO hlen (fun vs hv=>by obtain ⟨q,_,rfl⟩:=List.mem_map.1 hv;rfl);have HRV:=hD hrv;have HCN:=hD hcn;have HV:=hD hv;clear hO hlen hall hrv hv hcn;obtain ⟨l1,e1⟩:=gE q1;obtain ⟨l2,e2⟩:=gE q2;obtain ⟨l5,e5⟩:=gE q5;obtain ⟨l6,e6⟩:=gE q6;obtain ⟨l14,e14⟩:=gE q14
  repeat go_step
  refine bodyPost_ret (results_tmp rfl _ _ _) rfl ?_;exact ⟨⟨A',c',by simp [hsz,HV.out],pv_of HRV.out,HCN.out⟩,bkeep2 HB0.out HB.out⟩
end
section
attribute [local go_sem] givesUpon_value givesUpon_skip givesUpon_enter
theorem cesF_snoc {L:List Nd} {g:Nat→Int × Int} {ks:List Nat} {k x:Nat} {m:Nd} (h:ks[k]?=some x) (hm:L[x]?=some m):cesF L g (ks.take (k+1))=cesF L g (ks.take k) ++ [ceOf m (g x)]:=by
 obtain ⟨hk,e⟩:=List.getElem?_eq_some_iff.1 h;unfold cesF;rw [List.take_succ_eq_append_getElem hk,e,List.filterMap_append]
 simp [hm]
theorem cesF_take_len {L:List Nd} {g:Nat→Int × Int} {ks:List Nat} (hk:∀ x∈ks,x<L.length):∀ k,k≤ks.length→(cesF L g (ks.take k)).length=k:=by
 intro k
 induction k with
 | zero=>intro _;simp [cesF]
 | succ k ih =>
  intro h;have e:ks[k]?=some ks[k]:=List.getElem?_eq_getElem (by omega);have hlt:ks[k]'(by omega)<L.length:=hk _ (List.getElem_mem (by omega));have em:L[ks[k]'(by omega)]?=some (L[ks[k]'(by omega)]'hlt):=List.getElem?_eq_getElem hlt;rw [cesF_snoc e em,List.length_append,ih (by omega)]
  rfl
def Bl1 (g:Nat) (w w':World):Prop:=w.grownBy w' (some g)
theorem Bl1.refl (g:Nat) (w:World):Bl1 g w w:=greflS w g
theorem Bl1.below {g:Nat} {a w w':World} (h:Bl1 g a w) (hb:Below w.heap.size w w'):Bl1 g a w' :=
 ⟨hb.os.trans h.os,hb.tape.trans h.tape,hb.output.trans h.output,Nat.le_trans h.size hb.size,fun k hk hn=>(hb.block k (Nat.lt_of_lt_of_le hk h.size)).trans (h.block k hk hn)⟩
theorem Bl1.grown {g x:Nat} {a w w':World} (h:Bl1 g a w) (hg:w.grownBy w' (some x)) (hx:a.heap.size≤x):Bl1 g a w' :=
 ⟨hg.os.trans h.os,hg.tape.trans h.tape,hg.output.trans h.output,Nat.le_trans h.size hg.size,fun k hk hn=>(hg.block k (Nat.lt_of_lt_of_le hk h.size) (fun e=>by have:=Option.some.inj e;omega)).trans (h.block k hk hn)⟩
theorem Bl1.own {g:Nat} {a w w':World} {v:Value} {o:Obj} (h:Bl1 g a w) (hg:(w.alloc o).grownBy w' v.ownBlock) (hv:∀ k,v.ownBlock=some k→a.heap.size≤k):Bl1 g a w':=by
 have h2:=h.below (w':=w.alloc o) (balloc (Below.refl _ _));exact ⟨hg.os.trans h2.os,hg.tape.trans h2.tape,hg.output.trans h2.output,Nat.le_trans h2.size hg.size,fun k hk hn=>(hg.block k (Nat.lt_of_lt_of_le hk h2.size) (fun e=>by have:=hv k e.symm;omega)).trans (h2.block k hk hn)⟩
theorem Bl1.toB {g:Nat} {a w z:World} (h:Bl1 g a w) (hz:Below z.heap.size z a) (hg:z.heap.size≤g):Below z.heap.size z w:=below_grownW hz h hg hz.size
theorem own_shape {w:World} {base k n:Nat} {T:TypeId} {v:Value} {xs:List Value} (h:w.ownsRow base T k v n xs):∃ A c,v=.slice A n c:=by
 rcases h.2 with ⟨rfl,h0⟩ | ⟨g,cap,cur,rfl,_⟩
 ·exact ⟨none,0,by rw [h0]⟩
 ·exact ⟨_,_,rfl⟩
def gridAg (p:Nr) (v:Value):List Value:=[.slice p.ca p.n.cs.length p.cc,.slice p.ra p.n.rs.length p.rc,v]
theorem gridAg_one (p:Nr) (A:Option Addr) (n c:Nat):one (gridAg p (.slice A n c)):=by
 intro v hv;simp only [gridAg,List.mem_cons,List.not_mem_nil,or_false] at hv
 rcases hv with rfl | rfl | rfl <;> rfl
theorem inf_Grid:(Tryz.prog.info? 122).map (·.size)=some 3:=by kernel_rfl
theorem infz_Grid:∃ i z,Tryz.prog.info? 122=some i∧i.zero=some z∧z.cells.size=3:=info_z (by kernel_rfl)
theorem gridOf_v (A:Option Addr) (c:Nat) (R:List Nr) (i:Nat) (p0:Nr) (ks:List Nat) (B:Option Addr) (cb n:Nat) (g:Nat→Int × Int) (w:World) (h:NrV w A R) (hi:R[i]?=some p0) (hL:R.length≤1048576) (hB:NV w B (ks.map fun (k:Nat)=>(k:Int))) (hn:n=ks.length) (hn2:n≤1048576) (hk:∀ k∈ks,k<R.length)
  (hS:∀ k∈ks,∀ W,Below w.heap.size w W→Calls Tryz.prog 113 #[.agg #[.slice A R.length c],.int .i64 (k:Int)] W fun e W'=>e=.returned (.tuple #[.int .i64 (g k).1,.int .i64 (g k).2])∧Below W.heap.size W W') :
  Calls Tryz.prog 80 #[.agg #[.slice A R.length c],.int .i64 (i:Int),.slice B n cb] w fun e w'=>(∃ A' c',e=.returned (.agg (gridAg p0 (.slice A' n c')).toArray)∧CeV w' A' (cesF (R.map Nr.n) g ks))∧Below w.heap.size w w':=by
 obtain ⟨ti,tz,ti1,ti2,ti3,ti4,ti5⟩:=info_own (P:=Tryz.prog) (T:=87) (k:=9) (b:=72) (by kernel_rfl);have hil:=(List.getElem?_eq_some_iff.1 hi).1;obtain ⟨b,off,rfl,hb,hc⟩:=h.cells (by omega);have HC:=hD hc;have HI:=hD hi;have HS:=hD hS;have HKS:=hD hk;have HN:=hD hB;have hnk:=hn;have HNK:=hD hnk
 have hdi:(i:Int)<(R.length:Int):=by omega
 have HN0:=hD hB;have HC0:=hD hc;have hb0w:=hb;clear hc h hS hk hB hn hnk hi;refine calls_abs Tryz.func80 rfl 60 (by simp only [Tryz.ntmps80]) (by simp) (fun t hsz hargs=>?_);have q0:t[0]?=some (.agg #[.slice (some ⟨b,off,none⟩) R.length c]):=get_of (by omega) (hargs 0 _ rfl);have q1:t[1]?=some (.int .i64 (i:Int)):=get_of (by omega) (hargs 1 _ rfl)
 have q2:t[2]?=some (.slice B n cb):=get_of (by omega) (hargs 2 _ rfl);clear hargs;obtain ⟨l0,e0⟩:=gE q0;obtain ⟨l1,e1⟩:=gE q1;obtain ⟨l2,e2⟩:=gE q2
 refine wp_seq_h fun K hK=>?_
 apply wp_region_lit
 repeat (first|((with_reducible show wpList _ _ _ _ _ _);refine allocK 122 3 rfl rfl infz_Grid (fun z hz=>?_)) | go_step)
 refine hK.out _ _ ?_;clear hK K
 refine wp_abw (fun t' W'=>t'.size=60∧t'[1]?=some (.int .i64 (i:Int))∧t'[2]?=some (.slice B n cb)∧t'[3]?=some (.pointer (some ⟨w.heap.size,0,none⟩))∧t'[6]?=some (.pointer (some ⟨w.heap.size+1,0,none⟩))∧W'.heap[w.heap.size]?=some (.cells #[.slice (some ⟨b,off,none⟩) R.length c] 30 (0,0))∧(∃ z:Array Value,W'.heap[w.heap.size+1]?=some (.cells z 122 (0,0))∧z.size=3)∧Below w.heap.size w W') ⟨by simp [Act.put,hsz],by simp [Act.put,q1],by simp [Act.put,q2],by simp [Act.put,hsz],by simp [Act.put,hsz],⟨(Below.heap_alloc _ _ _ (by simp)).trans (newS _ _),⟨z,by have:=newS (w.alloc (.cells #[.slice (some ⟨b,off,none⟩) R.length c] 30)) (.cells z 122);simpa using this,hz⟩,(balloc (Below.refl _ _)).trans ((balloc (Below.refl _ _)).mono (by simp))⟩⟩ ?_
 clear hsz q0 l0 e0 q1 l1 e1 q2 l2 e2 t z hz;rintro t Wa ⟨hsz,q1,q2,q3,q6,HX,⟨z6,HZ,hz6⟩,hB0⟩;have HXX:=hD HX;have HZZ:=hD HZ;have HB0:=hD hB0;replace HC:=hD (show ∀ k p,R[k]?=some p→Wa.rangeAt b (off+k*34) (valsNr p) from fun k p hk=>rangeB (HC.out k p hk) (hB0.block b hb));replace HN:=hD (HN.out.keep hB0);have hbl:b<Wa.heap.size:=Nat.lt_of_lt_of_le hb hB0.size
 have lxa:w.heap.size<Wa.heap.size:=ltS HX;have lza:w.heap.size+1<Wa.heap.size:=ltS HZ;have x0:=cellS HX 0;have c5:=HC.out i p0 HI.out 5 _ rfl;have c6:=HC.out i p0 HI.out 6 _ rfl;clear HX HZ hB0 hb;obtain ⟨l1,e1⟩:=gE q1;obtain ⟨l2,e2⟩:=gE q2;obtain ⟨l3,e3⟩:=gE q3;obtain ⟨l6,e6⟩:=gE q6
 refine wp_seq_h fun K hK=>?_
 refine wp_region_any (by kernel_rfl) ?_
 refine wpAny_rxp 14 1 #[true,true,true,true,true,true,true,true,true,true,true,true,true,true,false] (by kernel_rfl) (by kernel_rfl) (XV (.pointer (some ⟨w.heap.size,0,none⟩)) :: XV (.slice (some ⟨b,off,none⟩) R.length c) :: XV (.int .i64 (i:Int)) :: XV (.pointer (some ⟨b,off+i*34,none⟩)) :: XV (.pointer (some ⟨b,off+i*34+5,none⟩)) :: XV (.slice p0.ca p0.n.cs.length p0.cc) :: XV (.pointer (some ⟨w.heap.size,0,none⟩)) :: XV (.slice (some ⟨b,off,none⟩) R.length c) :: XV (.int .i64 (i:Int)) :: XV (.pointer (some ⟨b,off+i*34,none⟩)) :: XV (.pointer (some ⟨b,off+i*34+6,none⟩)) :: XV (.slice p0.ra p0.n.rs.length p0.rc) :: XV (.agg (gridAg p0 (.slice none 0 0)).toArray) :: (fun v w=>BxZ w v Wa.heap.size 122 3) :: []) (by show rgC _ t.size=true;rw [hsz];kernel_rfl) (by kernel_rfl) ?hTs ?hops ?hfin
 case hTs =>
  intro T hT;simp only [List.mem_cons,List.not_mem_nil,or_false] at hT
  rcases hT with rfl | rfl | rfl | rfl | rfl | rfl | rfl | rfl | rfl | rfl | rfl | rfl | rfl | rfl <;> first | exact stay_V _ | exact stay_T | exact stay_of (fun v a b x g=>x.keep g) | exact stay_of (fun v a b x g=>x)
 case hops =>
  refine ⟨opOK_rx [(3,none)] (by kernel_rfl) rfl ?_,?_⟩
  ·intro act w' hw' h1;obtain ⟨hk,hf⟩:=evkf act;generalize act.eval=ρ at *;replace h1:ρ (.tmp 3)=.pointer (some ⟨w.heap.size,0,none⟩):=h1.trans (by simp [Act.eval,q3])
   refine gxB hw' fun K hK hc hf'=>?_
   go_simp;exact hK _ _ ⟨rfl,Gr.refl _⟩
  refine ⟨opOK_rx [(12,some 0)] (by kernel_rfl) rfl ?_,?_⟩
  ·intro act w' hw' h1;obtain ⟨hk,hf⟩:=evkf act;generalize act.eval=ρ at *;replace h1:ρ (.tmp 12)=.pointer (some ⟨w.heap.size,0,none⟩):=h1
   refine gxB hw' fun K hK hc hf'=>?_
   go_simp;exact hK _ _ ⟨rfl,Gr.refl _⟩
  refine ⟨opOK_rx [(1,none)] (by kernel_rfl) rfl ?_,?_⟩
  ·intro act w' hw' h1;obtain ⟨hk,hf⟩:=evkf act;generalize act.eval=ρ at *;replace h1:ρ (.tmp 1)=.int .i64 (i:Int):=h1.trans (by simp [Act.eval,q1])
   refine gxB hw' fun K hK hc hf'=>?_
   go_simp;exact hK _ _ ⟨rfl,Gr.refl _⟩
  refine ⟨opOK_rx [(13,some 1),(14,some 2)] (by kernel_rfl) rfl ?_,?_⟩
  ·intro act w' hw' h1 h2;obtain ⟨hk,hf⟩:=evkf act;generalize act.eval=ρ at *;replace h1:ρ (.tmp 13)=.slice (some ⟨b,off,none⟩) R.length c:=h1;replace h2:ρ (.tmp 14)=.int .i64 (i:Int):=h2
   refine gxB hw' fun K hK hc hf'=>?_
   go_simp;exact hK _ _ ⟨rfl,Gr.refl _⟩
  refine ⟨opOK_rx [(15,some 3)] (by kernel_rfl) rfl ?_,?_⟩
  ·intro act w' hw' h1;obtain ⟨hk,hf⟩:=evkf act;generalize act.eval=ρ at *;replace h1:ρ (.tmp 15)=.pointer (some ⟨b,off+i*34,none⟩):=h1
   refine gxB hw' fun K hK hc hf'=>?_
   go_simp;exact hK _ _ ⟨rfl,Gr.refl _⟩
  refine ⟨opOK_rx [(16,some 4)] (by kernel_rfl) rfl ?_,?_⟩
  ·intro act w' hw' h1;obtain ⟨hk,hf⟩:=evkf act;generalize act.eval=ρ at *;replace h1:ρ (.tmp 16)=.pointer (some ⟨b,off+i*34+5,none⟩):=h1
   refine gxB hw' fun K hK hc hf'=>?_
   go_simp;exact hK _ _ ⟨rfl,Gr.refl _⟩
  refine ⟨opOK_rx [(3,none)] (by kernel_rfl) rfl ?_,?_⟩
  ·intro act w' hw' h1;obtain ⟨hk,hf⟩:=evkf act;generalize act.eval=ρ at *;replace h1:ρ (.tmp 3)=.pointer (some ⟨w.heap.size,0,none⟩):=h1.trans (by simp [Act.eval,q3])
   refine gxB hw' fun K hK hc hf'=>?_
   go_simp;exact hK _ _ ⟨rfl,Gr.refl _⟩
  refine ⟨opOK_rx [(18,some 6)] (by kernel_rfl) rfl ?_,?_⟩
  ·intro act w' hw' h1;obtain ⟨hk,hf⟩:=evkf act;generalize act.eval=ρ at *;replace h1:ρ (.tmp 18)=.pointer (some ⟨w.heap.size,0,none⟩):=h1
   refine gxB hw' fun K hK hc hf'=>?_
   go_simp;exact hK _ _ ⟨rfl,Gr.refl _⟩
  refine ⟨opOK_rx [(1,none)] (by kernel_rfl) rfl ?_,?_⟩
  ·intro act w' hw' h1;obtain ⟨hk,hf⟩:=evkf act;generalize act.eval=ρ at *;replace h1:ρ (.tmp 1)=.int .i64 (i:Int):=h1.trans (by simp [Act.eval,q1])
   refine gxB hw' fun K hK hc hf'=>?_
   go_simp;exact hK _ _ ⟨rfl,Gr.refl _⟩
  refine ⟨opOK_rx [(19,some 7),(20,some 8)] (by kernel_rfl) rfl ?_,?_⟩
  ·intro act w' hw' h1 h2;obtain ⟨hk,hf⟩:=evkf act;generalize act.eval=ρ at *;replace h1:ρ (.tmp 19)=.slice (some ⟨b,off,none⟩) R.length c:=h1;replace h2:ρ (.tmp 20)=.int .i64 (i:Int):=h2
   refine gxB hw' fun K hK hc hf'=>?_
   go_simp;exact hK _ _ ⟨rfl,Gr.refl _⟩
  refine ⟨opOK_rx [(21,some 9)] (by kernel_rfl) rfl ?_,?_⟩
  ·intro act w' hw' h1;obtain ⟨hk,hf⟩:=evkf act;generalize act.eval=ρ at *;replace h1:ρ (.tmp 21)=.pointer (some ⟨b,off+i*34,none⟩):=h1
   refine gxB hw' fun K hK hc hf'=>?_
   go_simp;exact hK _ _ ⟨rfl,Gr.refl _⟩
  refine ⟨opOK_rx [(22,some 10)] (by kernel_rfl) rfl ?_,?_⟩
  ·intro act w' hw' h1;obtain ⟨hk,hf⟩:=evkf act;generalize act.eval=ρ at *;replace h1:ρ (.tmp 22)=.pointer (some ⟨b,off+i*34+6,none⟩):=h1
   refine gxB hw' fun K hK hc hf'=>?_
   go_simp;exact hK _ _ ⟨rfl,Gr.refl _⟩
  refine ⟨opOK_rx [(17,some 5),(23,some 11)] (by kernel_rfl) rfl ?_,?_⟩
  ·intro act w' hw' h1 h2;obtain ⟨hk,hf⟩:=evkf act;generalize act.eval=ρ at *;replace h1:ρ (.tmp 17)=.slice p0.ca p0.n.cs.length p0.cc:=h1;replace h2:ρ (.tmp 23)=.slice p0.ra p0.n.rs.length p0.rc:=h2
   refine gxB hw' fun K hK hc hf'=>?_
   go_simp;exact hK _ _ ⟨rfl,Gr.refl _⟩
  refine ⟨opOK_rx [] (by kernel_rfl) rfl ?_,?_⟩
  ·intro act w' hw';obtain ⟨hk,hf⟩:=evkf act;generalize act.eval=ρ at *;refine gx_gen (fun K hK=>?_);obtain ⟨z,hz,hr⟩:=run_allocK (P:=Tryz.prog) (T:=122) w' infz_Grid;simp only [execOp,Sem.run_bind,hr,Result.andThen_ok,Sem.run_pure];exact hK _ _ ⟨⟨_,z,rfl,(bdrewn hw'.out).size,newS _ _,hz⟩,Gr.alloc _ _⟩
  exact trivial
 case hfin =>
  intro w0 hg0;intro v12 t12;replace t12:v12=.pointer (some ⟨w.heap.size,0,none⟩):=t12;subst t12;intro v13 t13;replace t13:v13=.slice (some ⟨b,off,none⟩) R.length c:=t13;subst t13;intro v14 t14;replace t14:v14=.int .i64 (i:Int):=t14;subst t14;intro v15 t15;replace t15:v15=.pointer (some ⟨b,off+i*34,none⟩):=t15;subst t15;intro v16 t16;replace t16:v16=.pointer (some ⟨b,off+i*34+5,none⟩):=t16
  subst t16;intro v17 t17;replace t17:v17=.slice p0.ca p0.n.cs.length p0.cc:=t17;subst t17;intro v18 t18;replace t18:v18=.pointer (some ⟨w.heap.size,0,none⟩):=t18;subst t18;intro v19 t19;replace t19:v19=.slice (some ⟨b,off,none⟩) R.length c:=t19;subst t19;intro v20 t20;replace t20:v20=.int .i64 (i:Int):=t20;subst t20;intro v21 t21;replace t21:v21=.pointer (some ⟨b,off+i*34,none⟩):=t21;subst t21
  intro v22 t22;replace t22:v22=.pointer (some ⟨b,off+i*34+6,none⟩):=t22;subst t22;intro v23 t23;replace t23:v23=.slice p0.ra p0.n.rs.length p0.rc:=t23;subst t23;intro v24 t24;replace t24:v24=.agg (gridAg p0 (.slice none 0 0)).toArray:=t24;subst t24;intro v7 t7;replace t7:(fun v w=>BxZ w v Wa.heap.size 122 3) v7 w0:=t7;have hb0:=bdrewn hg0.out;clear hg0
  simp only [finP,List.take_succ_cons,List.take_zero,Act.put,List.setIfInBounds_toArray,List.set_cons_succ,List.set_cons_zero];obtain ⟨gg,z,rfl,hgx,hhx,hzx⟩:=t7
  refine wpAny_store 14 122 (.tmp 7) (.tmp 24) gg 0 (gridAg p0 (.slice none 0 0)) (by kernel_rfl) (by kernel_rfl) (by kernel_rfl) (by simp [Act.eval,Act.put,hsz]) (by simp [Act.eval,Act.put,hsz]) (thereB hhx (by rw [hzx];show 0+3≤3;omega)) inf_Grid (gridAg_one _ _ _ _) ?_;simp only [Exit.then];refine hK.out _ _ ?_;clear hK K
  refine wp_abw (fun t' W'=>t'.size=60∧t'[2]?=some (.slice B n cb)∧t'[3]?=some (.pointer (some ⟨w.heap.size,0,none⟩))∧t'[6]?=some (.pointer (some ⟨w.heap.size+1,0,none⟩))∧t'[7]?=some (.pointer (some ⟨gg,0,none⟩))∧W'.heap[gg]?=some (.cells (gridAg p0 (.slice none 0 0)).toArray 122 (0,0))∧Below Wa.heap.size Wa W'∧Wa.heap.size≤gg) ⟨by simp [Act.put,hsz],by simp [Act.put,q2],by simp [Act.put,q3],by simp [Act.put,q6],by simp [Act.put,hsz],⟨full_set hhx hzx (gridAg p0 (.slice none 0 0)) rfl,below_setCells hgx _ _ _ hb0,hgx⟩⟩ ?_
  clear hsz q1 l1 e1 q2 l2 e2 q3 l3 e3 q6 l6 e6 t x0 c5 c6 hdi z hhx hzx hgx hb0;rintro t Wb ⟨hsz,q2,q3,q6,q7,hgg,hbb,hgx⟩;have HGG:=hD hgg;have lgg:=ltS hgg;have HB1:=hD hbb;replace HC:=hD (show ∀ k p,R[k]?=some p→Wb.rangeAt b (off+k*34) (valsNr p) from fun k p hk=>rangeB (HC.out k p hk) (hbb.block b hbl));replace HN:=hD (HN.out.keep hbb);replace HXX:=hD ((hbb.block _ lxa).trans HXX.out)
  replace HZZ:=hD ((hbb.block _ lza).trans HZZ.out);have hsab:=hbb.size
  have hbl2:b<Wb.heap.size:=by omega
  have lxb:w.heap.size<Wb.heap.size:=by omega
  have hnxg:w.heap.size≠gg:=by omega
  have hnzg:w.heap.size+1≠gg:=by omega
  have hnbg:b≠gg:=by omega
  clear hgg hbb lxa lza
  refine wp_seq_h fun KE hKE=>?_
  obtain ⟨l2,e2⟩:=gE q2;obtain ⟨l3,e3⟩:=gE q3;obtain ⟨l6,e6⟩:=gE q6;obtain ⟨l7,e7⟩:=gE q7
  refine wp_seq_h fun K hK=>?_
  apply wp_region_lit
  repeat (first | go_step)
  refine hK.out _ _ ?_;clear hK K
  refine wp_abw (fun t' W'=>t'.size=60∧t'[2]?=some (.slice B n cb)∧t'[3]?=some (.pointer (some ⟨w.heap.size,0,none⟩))∧t'[6]?=some (.pointer (some ⟨w.heap.size+1,0,none⟩))∧t'[7]?=some (.pointer (some ⟨gg,0,none⟩))∧t'[8]?=some (.int .i64 ((0:Nat):Int))∧Wb=W') ⟨by simp [Act.put,hsz],by simp [Act.put,q2],by simp [Act.put,q3],by simp [Act.put,q6],by simp [Act.put,q7],by simp [Act.put,hsz],rfl⟩ ?_
  clear hsz q2 l2 e2 q3 l3 e3 q6 l6 e6 q7 l7 e7 t;rintro t _ ⟨hsz,q2,q3,q6,q7,q8,rfl⟩;apply wp_block
  refine wp_loop (fun a W=>∃ (t:Array Value) (k:Nat) (v:Value),a=⟨t,[]⟩∧k≤n∧t.size=60∧t[2]?=some (.slice B n cb)∧t[3]?=some (.pointer (some ⟨w.heap.size,0,none⟩))∧t[6]?=some (.pointer (some ⟨w.heap.size+1,0,none⟩))∧t[7]?=some (.pointer (some ⟨gg,0,none⟩))∧t[8]?=some (.int .i64 (k:Int))∧W.heap[gg]?=some (.cells (gridAg p0 v).toArray 122 (0,0))∧W.ownsRow Wb.heap.size 87 9 v k ((cesF (R.map Nr.n) g (ks.take k)).map valsCe).flatten∧Bl1 gg Wb W) (fun a _=>n-(intOf (a.tmps.getD 8 undef)).toNat) ⟨t,0,_,rfl,by omega,hsz,q2,q3,q6,q7,q8,HGG.out,⟨by simp [cesF],.inl ⟨rfl,rfl⟩⟩,Bl1.refl _ _⟩ ?_
  clear t hsz q2 q3 q6 q7 q8;rintro a W ⟨t,k,v,rfl,hk,hsz,q2,q3,q6,q7,q8,hg1,hO,hG⟩
  have hmu:intOf (t.getD 8 undef)=(k:Int):=by rw [Array.getD_eq_getD_getElem?,q8];rfl
  dsimp only
  rw [hmu];clear hmu;have HW:=hD (hG.toB (bkeep2 HB0.out HB1.out) (Nat.le_trans HB0.out.size hgx));have x0:=cellS ((hG.block _ lxb (fun e=>hnxg (Option.some.inj e))).trans HXX.out) 0;have HO:=hD hO;have HG:=hD hG;have HG1:=hD hg1;have lx:w.heap.size<W.heap.size:=Nat.lt_of_lt_of_le lxb hG.size;clear hO hG hg1
  by_cases hlt:k<n
  ·have hd:decide ((k:Int)<(n:Int))=true:=by simpa using hlt
   refine wp_seq_h fun K1 hK1=>?_
   obtain ⟨l2,e2⟩:=gE q2;obtain ⟨l3,e3⟩:=gE q3;obtain ⟨l6,e6⟩:=gE q6;obtain ⟨l7,e7⟩:=gE q7;obtain ⟨l8,e8⟩:=gE q8
   refine wp_seq_h fun K hK=>?_
   apply wp_region_lit
   repeat (first | go_step)
   refine hK.out _ _ ?_;clear hK K
   refine wp_abw (fun t' W'=>t'.size=60∧t'[2]?=some (.slice B n cb)∧t'[3]?=some (.pointer (some ⟨w.heap.size,0,none⟩))∧t'[6]?=some (.pointer (some ⟨w.heap.size+1,0,none⟩))∧t'[7]?=some (.pointer (some ⟨gg,0,none⟩))∧t'[8]?=some (.int .i64 (k:Int))∧t'[28]?=some (.bool true)∧W=W') ⟨by simp [Act.put,hsz],by simp [Act.put,q2],by simp [Act.put,q3],by simp [Act.put,q6],by simp [Act.put,q7],by simp [Act.put,q8],by simp [Act.put,hsz,hd],rfl⟩ ?_
   clear hsz q2 l2 e2 q3 l3 e3 q6 l6 e6 q7 l7 e7 q8 l8 e8 t;rintro t _ ⟨hsz,q2,q3,q6,q7,q8,q28,rfl⟩;clear hd;refine wp_cond_true (by simp [Act.eval,q28]) ?_;apply wp_skip;simp only [Exit.then];refine hK1.out _ _ ?_;clear hK1 K1 q28
   refine wp_seq_h fun KB hKB=>?_
   apply wp_block
   have hkl:k<ks.length:=by rw [<- HNK.out];exact hlt
   have hkg:ks[k]?=some ks[k]:=List.getElem?_eq_getElem hkl;have hxl:ks[k]<R.length:=HKS.out _ (List.getElem_mem hkl);have hget:R[ks[k]]?=some R[ks[k]]:=List.getElem?_eq_getElem hxl;have hS1:=HS.out _ (List.getElem_mem hkl);have hsn:=cesF_snoc (L:=R.map Nr.n) (g:=g) hkg (m:=R[ks[k]].n) (by rw [List.getElem?_map,hget];rfl);obtain ⟨b2,off2,rfl,hb2,hp2⟩:=HN0.out.cells (by simp;omega)
   have cx0:=hp2 k (ks[k]:Int) (by rw [List.getElem?_map,hkg];rfl);have hrp:=HC0.out _ _ hget;generalize hxe:ks[k]=x at *;have hget2:R[x]?=some (R[x]'hxl):=List.getElem?_eq_getElem hxl;generalize (R[x]'hxl)=p at *
   have hd1:(k:Int)<(n:Int):=by omega
   have hd2:(x:Int)<(R.length:Int):=by omega
   have HCX:=hD (show ∀ W',Below w.heap.size w W'→W'.cell? ⟨b2,off2+k,none⟩=some (.int .i64 (x:Int)) from fun W' hW'=>(hW'.cell (p:=⟨b2,off2+k,none⟩) hb2).trans cx0);have cx:=HCX.out W HW.out;have lb2:b2<W.heap.size:=Nat.lt_of_lt_of_le hb2 HW.out.size;have hbl1:b<W.heap.size:=Nat.lt_of_lt_of_le hb0w HW.out.size
   have HRP:=hD (show W.rangeAt b (off+x*34) (valsNr p) from rangeB hrp (HW.out.block b hb0w));have HS1:=hD hS1;have HSN:=hD hsn;have hgg0:gg<W.heap.size:=ltS HG1.out;have HOL:=hD (show ∀ k,v.ownBlock=some k→k<W.heap.size from fun k e=>(HO.out.lt k e).2);have hb2':=hb2;clear hp2 hrp hS1 hsn hkg hget hget2 hxe hxl hkl cx0;obtain ⟨l2,e2⟩:=gE q2;obtain ⟨l3,e3⟩:=gE q3;obtain ⟨l6,e6⟩:=gE q6
   obtain ⟨l7,e7⟩:=gE q7;obtain ⟨l8,e8⟩:=gE q8
   refine wp_seq_h fun K hK=>?_
   refine wp_region_any (by kernel_rfl) ?_
   refine wpAny_rxp 10 1 #[true,true,true,true,true,true,true,true,true,true,false] (by kernel_rfl) (by kernel_rfl) (XV (.pointer (some ⟨w.heap.size,0,none⟩)) :: XV (.slice (some ⟨b,off,none⟩) R.length c) :: XV (.slice (some ⟨b2,off2,none⟩) n cb) :: XV (.int .i64 (k:Int)) :: XV (.pointer (some ⟨b2,off2+k,none⟩)) :: XV (.int .i64 (x:Int)) :: XV (.pointer (some ⟨b,off+x*34,none⟩)) :: XV (.pointer (some ⟨b,off+x*34+16,none⟩)) :: XV (.agg (valsCe p.n.ce).toArray) :: (fun v w=>BxZ w v W.heap.size 87 9) :: []) (by show rgC _ t.size=true;rw [hsz];kernel_rfl) (by kernel_rfl) ?hTs ?hops ?hfin
   case hTs =>
    intro T hT;simp only [List.mem_cons,List.not_mem_nil,or_false] at hT
    rcases hT with rfl | rfl | rfl | rfl | rfl | rfl | rfl | rfl | rfl | rfl <;> first | exact stay_V _ | exact stay_T | exact stay_of (fun v a b x g=>x.keep g) | exact stay_of (fun v a b x g=>x)
   case hops =>
    refine ⟨opOK_rx [(3,none)] (by kernel_rfl) rfl ?_,?_⟩
    ·intro act w' hw' h1;obtain ⟨hk,hf⟩:=evkf act;generalize act.eval=ρ at *;replace h1:ρ (.tmp 3)=.pointer (some ⟨w.heap.size,0,none⟩):=h1.trans (by simp [Act.eval,q3])
     refine gxB hw' fun K hK hc hf'=>?_
     go_simp;exact hK _ _ ⟨rfl,Gr.refl _⟩
    refine ⟨opOK_rx [(31,some 0)] (by kernel_rfl) rfl ?_,?_⟩
    ·intro act w' hw' h1;obtain ⟨hk,hf⟩:=evkf act;generalize act.eval=ρ at *;replace h1:ρ (.tmp 31)=.pointer (some ⟨w.heap.size,0,none⟩):=h1
     refine gxB hw' fun K hK hc hf'=>?_
     go_simp;exact hK _ _ ⟨rfl,Gr.refl _⟩
    refine ⟨opOK_rx [(2,none)] (by kernel_rfl) rfl ?_,?_⟩
    ·intro act w' hw' h1;obtain ⟨hk,hf⟩:=evkf act;generalize act.eval=ρ at *;replace h1:ρ (.tmp 2)=.slice (some ⟨b2,off2,none⟩) n cb:=h1.trans (by simp [Act.eval,q2])
     refine gxB hw' fun K hK hc hf'=>?_
     go_simp;exact hK _ _ ⟨rfl,Gr.refl _⟩
    refine ⟨opOK_rx [(8,none)] (by kernel_rfl) rfl ?_,?_⟩
    ·intro act w' hw' h1;obtain ⟨hk,hf⟩:=evkf act;generalize act.eval=ρ at *;replace h1:ρ (.tmp 8)=.int .i64 (k:Int):=h1.trans (by simp [Act.eval,q8])
     refine gxB hw' fun K hK hc hf'=>?_
     go_simp;exact hK _ _ ⟨rfl,Gr.refl _⟩
    refine ⟨opOK_rx [(33,some 2),(34,some 3)] (by kernel_rfl) rfl ?_,?_⟩
    ·intro act w' hw' h1 h2;obtain ⟨hk,hf⟩:=evkf act;generalize act.eval=ρ at *;replace h1:ρ (.tmp 33)=.slice (some ⟨b2,off2,none⟩) n cb:=h1;replace h2:ρ (.tmp 34)=.int .i64 (k:Int):=h2
     refine gxB hw' fun K hK hc hf'=>?_
     go_simp;exact hK _ _ ⟨rfl,Gr.refl _⟩
    refine ⟨opOK_rx [(35,some 4)] (by kernel_rfl) rfl ?_,?_⟩
    ·intro act w' hw' h1;obtain ⟨hk,hf⟩:=evkf act;generalize act.eval=ρ at *;replace h1:ρ (.tmp 35)=.pointer (some ⟨b2,off2+k,none⟩):=h1
     refine gxB hw' fun K hK hc hf'=>?_
     go_simp;exact hK _ _ ⟨rfl,Gr.refl _⟩
    refine ⟨opOK_rx [(32,some 1),(36,some 5)] (by kernel_rfl) rfl ?_,?_⟩
    ·intro act w' hw' h1 h2;obtain ⟨hk,hf⟩:=evkf act;generalize act.eval=ρ at *;replace h1:ρ (.tmp 32)=.slice (some ⟨b,off,none⟩) R.length c:=h1;replace h2:ρ (.tmp 36)=.int .i64 (x:Int):=h2
     refine gxB hw' fun K hK hc hf'=>?_
     go_simp;exact hK _ _ ⟨rfl,Gr.refl _⟩
    refine ⟨opOK_rx [(37,some 6)] (by kernel_rfl) rfl ?_,?_⟩
    ·intro act w' hw' h1;obtain ⟨hk,hf⟩:=evkf act;generalize act.eval=ρ at *;replace h1:ρ (.tmp 37)=.pointer (some ⟨b,off+x*34,none⟩):=h1
     refine gxB hw' fun K hK hc hf'=>?_
     go_simp;exact hK _ _ ⟨rfl,Gr.refl _⟩
    refine ⟨opOK_rx [(38,some 7)] (by kernel_rfl) rfl ?_,?_⟩
    ·intro act w' hw' h1;obtain ⟨hk,hf⟩:=evkf act;generalize act.eval=ρ at *;replace h1:ρ (.tmp 38)=.pointer (some ⟨b,off+x*34+16,none⟩):=h1;refine gx_gen (fun K hK=>?_)
     simp only [execOp,h1,Instr.loadAt,Instr.sureAddr,Sem.run_bind,Sem.run_pure,Result.andThen_ok,run_loadVar_mid w' b (off+x*34+16) 87 (valsCe p.n.ce) _ (rangeB (node_ce HRP.out) ((bdrewn hw'.out).block b hbl1)) Tryz.underlying87 rfl inf_Cell];exact hK _ _ ⟨rfl,Gr.refl _⟩
    refine ⟨opOK_rx [] (by kernel_rfl) rfl ?_,?_⟩
    ·intro act w' hw';obtain ⟨hk,hf⟩:=evkf act;generalize act.eval=ρ at *;refine gx_gen (fun K hK=>?_);obtain ⟨z,hz,hr⟩:=run_allocK (P:=Tryz.prog) (T:=87) w' infz_Cell;simp only [execOp,Sem.run_bind,hr,Result.andThen_ok,Sem.run_pure];exact hK _ _ ⟨⟨_,z,rfl,(bdrewn hw'.out).size,newS _ _,hz⟩,Gr.alloc _ _⟩
    exact trivial
   case hfin =>
    intro w1 hg1;intro v31 t31;replace t31:v31=.pointer (some ⟨w.heap.size,0,none⟩):=t31;subst t31;intro v32 t32;replace t32:v32=.slice (some ⟨b,off,none⟩) R.length c:=t32;subst t32;intro v33 t33;replace t33:v33=.slice (some ⟨b2,off2,none⟩) n cb:=t33;subst t33;intro v34 t34;replace t34:v34=.int .i64 (k:Int):=t34;subst t34;intro v35 t35;replace t35:v35=.pointer (some ⟨b2,off2+k,none⟩):=t35
    subst t35;intro v36 t36;replace t36:v36=.int .i64 (x:Int):=t36;subst t36;intro v37 t37;replace t37:v37=.pointer (some ⟨b,off+x*34,none⟩):=t37;subst t37;intro v38 t38;replace t38:v38=.pointer (some ⟨b,off+x*34+16,none⟩):=t38;subst t38;intro v39 t39;replace t39:v39=.agg (valsCe p.n.ce).toArray:=t39;subst t39;intro v9 t9;replace t9:(fun v w=>BxZ w v W.heap.size 87 9) v9 w1:=t9
    have hb1:=bdrewn hg1.out;clear hg1;simp only [finP,List.take_succ_cons,List.take_zero,Act.put,List.setIfInBounds_toArray,List.set_cons_succ,List.set_cons_zero];obtain ⟨gx,z,rfl,hgx2,hhx,hzx⟩:=t9
    refine wpAny_store 10 87 (.tmp 9) (.tmp 39) gx 0 (valsCe p.n.ce) (by kernel_rfl) (by kernel_rfl) (by kernel_rfl) (by simp [Act.eval,Act.put,hsz]) (by simp [Act.eval,Act.put,hsz]) (thereB hhx (by rw [hzx];show 0+9≤9;omega)) inf_Cell (valsCe_one _) ?_;simp only [Exit.then];refine hK.out _ _ ?_;clear hK K
    refine wp_abw (fun t' W'=>t'.size=60∧t'[2]?=some (.slice (some ⟨b2,off2,none⟩) n cb)∧t'[3]?=some (.pointer (some ⟨w.heap.size,0,none⟩))∧t'[6]?=some (.pointer (some ⟨w.heap.size+1,0,none⟩))∧t'[7]?=some (.pointer (some ⟨gg,0,none⟩))∧t'[8]?=some (.int .i64 (k:Int))∧t'[9]?=some (.pointer (some ⟨gx,0,none⟩))∧W'.heap[gx]?=some (.cells (valsCe p.n.ce).toArray 87 (0,0))∧Below W.heap.size W W'∧W.heap.size≤gx) ⟨by simp [Act.put,hsz],by simp [Act.put,q2],by simp [Act.put,q3],by simp [Act.put,q6],by simp [Act.put,q7],by simp [Act.put,q8],by simp [Act.put,hsz],⟨full_set hhx hzx (valsCe p.n.ce) rfl,below_setCells hgx2 _ _ _ hb1,hgx2⟩⟩ ?_
    clear hsz q2 l2 e2 q3 l3 e3 q6 l6 e6 q7 l7 e7 q8 l8 e8 t x0 lx hbl1 hd2 cx lb2 z hhx hzx hgx2 hb1;rintro t W1 ⟨hsz,q2,q3,q6,q7,q8,q9,hgp,hb2,hgx2⟩;have HGP:=hD hgp;replace HO:=hD (own_bw HO.out hb2);have hsw:Wb.heap.size≤W.heap.size:=HG.out.size;replace HG:=hD (HG.out.below hb2);replace HW:=hD (bkeep2 HW.out hb2);replace HG1:=hD ((hb2.block _ hgg0).trans HG1.out);clear hb2 hgp hgg0
    have y0:=cellS ((HG.out.block _ lxb (fun e=>hnxg (Option.some.inj e))).trans HXX.out) 0;have lx:w.heap.size<W1.heap.size:=Nat.lt_of_lt_of_le lxb HG.out.size;have cy:W1.cell? ⟨b2,off2+k,none⟩=some (.int .i64 (x:Int)):=HCX.out W1 HW.out;have lb2:b2<W1.heap.size:=Nat.lt_of_lt_of_le hb2' HW.out.size;obtain ⟨l2,e2⟩:=gE q2;obtain ⟨l3,e3⟩:=gE q3;obtain ⟨l6,e6⟩:=gE q6;obtain ⟨l7,e7⟩:=gE q7
    obtain ⟨l8,e8⟩:=gE q8;obtain ⟨l9,e9⟩:=gE q9
    refine wp_seq_h fun K hK=>?_
    refine wp_region_any (by kernel_rfl) ?_
    refine wpAny_rxp 11 0 #[true,true,true,true,true,true,true,true,true,true,true] (by kernel_rfl) (by kernel_rfl) (XV (.agg #[.slice (some ⟨b,off,none⟩) R.length c]) :: XV (.slice (some ⟨b2,off2,none⟩) n cb) :: XV (.int .i64 (k:Int)) :: XV (.pointer (some ⟨b2,off2+k,none⟩)) :: XV (.int .i64 (x:Int)) :: XV (.tuple #[.int .i64 (g x).1,.int .i64 (g x).2]) :: XV (.tuple #[.int .i64 (g x).1,.int .i64 (g x).2]) :: XV (.int .i64 (g x).1) :: XV (.int .i64 (g x).2) :: XV (.int .i64 (g x).1) :: XV (.int .i64 (g x).2) :: []) (by show rgC _ t.size=true;rw [hsz];kernel_rfl) (by kernel_rfl) ?hTs ?hops ?hfin
    case hTs =>
     intro T hT;simp only [List.mem_cons,List.not_mem_nil,or_false] at hT
     rcases hT with rfl | rfl | rfl | rfl | rfl | rfl | rfl | rfl | rfl | rfl | rfl <;> first | exact stay_V _ | exact stay_T | exact stay_of (fun v a b x g=>x.keep g) | exact stay_of (fun v a b x g=>x)
    case hops =>
     refine ⟨opOK_rx [(3,none)] (by kernel_rfl) rfl ?_,?_⟩
     ·intro act w' hw' h1;obtain ⟨hk,hf⟩:=evkf act;generalize act.eval=ρ at *;replace h1:ρ (.tmp 3)=.pointer (some ⟨w.heap.size,0,none⟩):=h1.trans (by simp [Act.eval,q3])
      refine gxB hw' fun K hK hc hf'=>?_
      go_simp;exact hK _ _ ⟨rfl,Gr.refl _⟩
     refine ⟨opOK_rx [(2,none)] (by kernel_rfl) rfl ?_,?_⟩
     ·intro act w' hw' h1;obtain ⟨hk,hf⟩:=evkf act;generalize act.eval=ρ at *;replace h1:ρ (.tmp 2)=.slice (some ⟨b2,off2,none⟩) n cb:=h1.trans (by simp [Act.eval,q2])
      refine gxB hw' fun K hK hc hf'=>?_
      go_simp;exact hK _ _ ⟨rfl,Gr.refl _⟩
     refine ⟨opOK_rx [(8,none)] (by kernel_rfl) rfl ?_,?_⟩
     ·intro act w' hw' h1;obtain ⟨hk,hf⟩:=evkf act;generalize act.eval=ρ at *;replace h1:ρ (.tmp 8)=.int .i64 (k:Int):=h1.trans (by simp [Act.eval,q8])
      refine gxB hw' fun K hK hc hf'=>?_
      go_simp;exact hK _ _ ⟨rfl,Gr.refl _⟩
     refine ⟨opOK_rx [(42,some 1),(43,some 2)] (by kernel_rfl) rfl ?_,?_⟩
     ·intro act w' hw' h1 h2;obtain ⟨hk,hf⟩:=evkf act;generalize act.eval=ρ at *;replace h1:ρ (.tmp 42)=.slice (some ⟨b2,off2,none⟩) n cb:=h1;replace h2:ρ (.tmp 43)=.int .i64 (k:Int):=h2
      refine gxB hw' fun K hK hc hf'=>?_
      go_simp;exact hK _ _ ⟨rfl,Gr.refl _⟩
     refine ⟨opOK_rx [(44,some 3)] (by kernel_rfl) rfl ?_,?_⟩
     ·intro act w' hw' h1;obtain ⟨hk,hf⟩:=evkf act;generalize act.eval=ρ at *;replace h1:ρ (.tmp 44)=.pointer (some ⟨b2,off2+k,none⟩):=h1
      refine gxB hw' fun K hK hc hf'=>?_
      go_simp;exact hK _ _ ⟨rfl,Gr.refl _⟩
     refine ⟨opOK_rx [(41,some 0),(45,some 4)] (by kernel_rfl) rfl ?_,?_⟩
     ·intro act w' hw' h1 h2;obtain ⟨hk,hf⟩:=evkf act;generalize act.eval=ρ at *;replace h1:ρ (.tmp 41)=.agg #[.slice (some ⟨b,off,none⟩) R.length c]:=h1;replace h2:ρ (.tmp 45)=.int .i64 (x:Int):=h2
      refine gxB hw' fun K hK hc hf'=>?_
      go_simp
      (refine (HS1.out _ (bkeep2 HW.out (bdrewn hw'.out))).mono ?_);rintro e w1 ⟨rfl,hb1⟩;exact ⟨_,rfl,hK _ _ ⟨rfl,hb1⟩⟩
     refine ⟨opOK_rx [(46,some 5)] (by kernel_rfl) rfl ?_,?_⟩
     ·intro act w' hw' h1;obtain ⟨hk,hf⟩:=evkf act;generalize act.eval=ρ at *;replace h1:ρ (.tmp 46)=.tuple #[.int .i64 (g x).1,.int .i64 (g x).2]:=h1
      refine gxB hw' fun K hK hc hf'=>?_
      go_simp;exact hK _ _ ⟨rfl,Gr.refl _⟩
     refine ⟨opOK_rx [(40,some 6)] (by kernel_rfl) rfl ?_,?_⟩
     ·intro act w' hw' h1;obtain ⟨hk,hf⟩:=evkf act;generalize act.eval=ρ at *;replace h1:ρ (.tmp 40)=.tuple #[.int .i64 (g x).1,.int .i64 (g x).2]:=h1
      refine gxB hw' fun K hK hc hf'=>?_
      go_simp;exact hK _ _ ⟨rfl,Gr.refl _⟩
     refine ⟨opOK_rx [(40,some 6)] (by kernel_rfl) rfl ?_,?_⟩
     ·intro act w' hw' h1;obtain ⟨hk,hf⟩:=evkf act;generalize act.eval=ρ at *;replace h1:ρ (.tmp 40)=.tuple #[.int .i64 (g x).1,.int .i64 (g x).2]:=h1
      refine gxB hw' fun K hK hc hf'=>?_
      go_simp;exact hK _ _ ⟨rfl,Gr.refl _⟩
     refine ⟨opOK_rx [(47,some 7)] (by kernel_rfl) rfl ?_,?_⟩
     ·intro act w' hw' h1;obtain ⟨hk,hf⟩:=evkf act;generalize act.eval=ρ at *;replace h1:ρ (.tmp 47)=.int .i64 (g x).1:=h1
      refine gxB hw' fun K hK hc hf'=>?_
      go_simp;exact hK _ _ ⟨rfl,Gr.refl _⟩
     refine ⟨opOK_rx [(48,some 8)] (by kernel_rfl) rfl ?_,?_⟩
     ·intro act w' hw' h1;obtain ⟨hk,hf⟩:=evkf act;generalize act.eval=ρ at *;replace h1:ρ (.tmp 48)=.int .i64 (g x).2:=h1
      refine gxB hw' fun K hK hc hf'=>?_
      go_simp;exact hK _ _ ⟨rfl,Gr.refl _⟩
     exact trivial
    case hfin =>
     intro w2 hg2;intro v41 t41;replace t41:v41=.agg #[.slice (some ⟨b,off,none⟩) R.length c]:=t41;subst t41;intro v42 t42;replace t42:v42=.slice (some ⟨b2,off2,none⟩) n cb:=t42;subst t42;intro v43 t43;replace t43:v43=.int .i64 (k:Int):=t43;subst t43;intro v44 t44;replace t44:v44=.pointer (some ⟨b2,off2+k,none⟩):=t44;subst t44;intro v45 t45;replace t45:v45=.int .i64 (x:Int):=t45;subst t45
     intro v46 t46;replace t46:v46=.tuple #[.int .i64 (g x).1,.int .i64 (g x).2]:=t46;subst t46;intro v40 t40;replace t40:v40=.tuple #[.int .i64 (g x).1,.int .i64 (g x).2]:=t40;subst t40;intro v47 t47;replace t47:v47=.int .i64 (g x).1:=t47;subst t47;intro v48 t48;replace t48:v48=.int .i64 (g x).2:=t48;subst t48;intro v10 t10;replace t10:v10=.int .i64 (g x).1:=t10;subst t10;intro v11 t11
     replace t11:v11=.int .i64 (g x).2:=t11;subst t11;have hb2:=bdrewn hg2.out;clear hg2;simp only [finP,List.take_succ_cons,List.take_zero,Act.put,List.setIfInBounds_toArray,List.set_cons_succ,List.set_cons_zero];refine wpAny_end (by kernel_rfl) ?_;simp only [Exit.then];refine hK.out _ _ ?_;clear hK K y0 cy
     refine wp_abw (fun t' W'=>t'.size=60∧t'[2]?=some (.slice (some ⟨b2,off2,none⟩) n cb)∧t'[3]?=some (.pointer (some ⟨w.heap.size,0,none⟩))∧t'[6]?=some (.pointer (some ⟨w.heap.size+1,0,none⟩))∧t'[7]?=some (.pointer (some ⟨gg,0,none⟩))∧t'[8]?=some (.int .i64 (k:Int))∧t'[9]?=some (.pointer (some ⟨gx,0,none⟩))∧t'[10]?=some (.int .i64 (g x).1)∧t'[11]?=some (.int .i64 (g x).2)∧W'.heap[gx]?=some (.cells (valsCe p.n.ce).toArray 87 (0,0))∧Below W1.heap.size W1 W') ⟨by simp [Act.put,hsz],by simp [Act.put,q2],by simp [Act.put,q3],by simp [Act.put,q6],by simp [Act.put,q7],by simp [Act.put,q8],by simp [Act.put,q9],by simp [Act.put,hsz],by simp [Act.put,hsz],⟨(hb2.block _ (ltS HGP.out)).trans HGP.out,hb2⟩⟩ ?_
     clear hsz q2 l2 e2 q3 l3 e3 q6 l6 e6 q7 l7 e7 q8 l8 e8 q9 l9 e9 t hb2;rintro t W2 ⟨hsz,q2,q3,q6,q7,q8,q9,q10,q11,hgp,hb2⟩;replace HO:=hD (own_bw HO.out hb2);replace HG1:=hD ((hb2.block _ (ltS HG1.out)).trans HG1.out);replace HG:=hD (HG.out.below hb2);clear hb2 lx lb2 HGP HW;have fz0:=frozenS hgp 4;obtain ⟨y1,z1⟩:=thereS hgp (i:=4) (by show 4<9;omega);have lgx:=ltS hgp;obtain ⟨l2,e2⟩:=gE q2
     obtain ⟨l3,e3⟩:=gE q3;obtain ⟨l6,e6⟩:=gE q6;obtain ⟨l7,e7⟩:=gE q7;obtain ⟨l8,e8⟩:=gE q8;obtain ⟨l9,e9⟩:=gE q9;obtain ⟨l10,e10⟩:=gE q10;obtain ⟨l11,e11⟩:=gE q11
     refine wp_seq_h fun K hK=>?_
     apply wp_region_lit
     repeat (first | go_step)
     refine hK.out _ _ ?_;clear hK K
     refine wp_abw (fun t' W'=>t'.size=60∧t'[2]?=some (.slice (some ⟨b2,off2,none⟩) n cb)∧t'[3]?=some (.pointer (some ⟨w.heap.size,0,none⟩))∧t'[6]?=some (.pointer (some ⟨w.heap.size+1,0,none⟩))∧t'[7]?=some (.pointer (some ⟨gg,0,none⟩))∧t'[8]?=some (.int .i64 (k:Int))∧t'[9]?=some (.pointer (some ⟨gx,0,none⟩))∧t'[10]?=some (.int .i64 (g x).1)∧t'[11]?=some (.int .i64 (g x).2)∧W'.heap[gx]?=some (.cells ((valsCe p.n.ce).toArray.setIfInBounds 4 (.int .i64 (g x).1)) 87 (0,0))∧W2.grownBy W' (some gx)) ⟨by simp [Act.put,hsz],by simp [Act.put,q2],by simp [Act.put,q3],by simp [Act.put,q6],by simp [Act.put,q7],by simp [Act.put,q8],by simp [Act.put,q9],by simp [Act.put,q10],by simp [Act.put,q11],⟨putS hgp _,gsetS (greflS _ gx) _ _⟩⟩ ?_
     clear hsz q2 l2 e2 q3 l3 e3 q6 l6 e6 q7 l7 e7 q8 l8 e8 q9 l9 e9 q10 l10 e10 q11 l11 e11 t fz0 z1 y1 lgx;rintro t W3 ⟨hsz,q2,q3,q6,q7,q8,q9,q10,q11,hgp3,hgr3⟩;have fz0:=frozenS hgp3 5;obtain ⟨y1,z1⟩:=thereS hgp3 (i:=5) (by show 5<9;omega);have lgx:=ltS hgp3;obtain ⟨l2,e2⟩:=gE q2;obtain ⟨l3,e3⟩:=gE q3;obtain ⟨l6,e6⟩:=gE q6;obtain ⟨l7,e7⟩:=gE q7;obtain ⟨l8,e8⟩:=gE q8;obtain ⟨l9,e9⟩:=gE q9
     obtain ⟨l10,e10⟩:=gE q10;obtain ⟨l11,e11⟩:=gE q11
     refine wp_seq_h fun K hK=>?_
     apply wp_region_lit
     repeat (first | go_step)
     refine hK.out _ _ ?_;clear hK K
     refine wp_abw (fun t' W'=>t'.size=60∧t'[2]?=some (.slice (some ⟨b2,off2,none⟩) n cb)∧t'[3]?=some (.pointer (some ⟨w.heap.size,0,none⟩))∧t'[6]?=some (.pointer (some ⟨w.heap.size+1,0,none⟩))∧t'[7]?=some (.pointer (some ⟨gg,0,none⟩))∧t'[8]?=some (.int .i64 (k:Int))∧t'[9]?=some (.pointer (some ⟨gx,0,none⟩))∧t'[10]?=some (.int .i64 (g x).1)∧t'[11]?=some (.int .i64 (g x).2)∧W'.heap[gx]?=some (.cells (valsCe (ceOf p.n (g x))).toArray 87 (0,0))∧W2.grownBy W' (some gx)) ⟨by simp [Act.put,hsz],by simp [Act.put,q2],by simp [Act.put,q3],by simp [Act.put,q6],by simp [Act.put,q7],by simp [Act.put,q8],by simp [Act.put,q9],by simp [Act.put,q10],by simp [Act.put,q11],⟨putS hgp3 _,gsetS hgr3 _ _⟩⟩ ?_
     clear hsz q2 l2 e2 q3 l3 e3 q6 l6 e6 q7 l7 e7 q8 l8 e8 q9 l9 e9 q10 l10 e10 q11 l11 e11 t fz0 z1 y1 lgx hgp3 hgr3;rintro t W4 ⟨hsz,q2,q3,q6,q7,q8,q9,q10,q11,hgp4,hgr4⟩;have hgxb:Wb.heap.size≤gx:=Nat.le_trans hsw hgx2
     have hne:∀ k,v.ownBlock=some k→k<gx:=fun k e=>Nat.lt_of_lt_of_le (HOL.out k e) hgx2
     have HO4:=hD (own_other HO.out hgr4 (fun e=>absurd (hne _ e) (Nat.lt_irrefl _)));have HG4:=hD (HG.out.grown hgr4 hgxb)
     have hggx:gg≠gx:=by omega
     replace HG1:=hD ((hgr4.block gg (ltS HG1.out) (fun e=>hggx (Option.some.inj e))).trans HG1.out);clear HO HG hgr4 hgp;have HR:=hD (show W4.rangeAt gx 0 (valsCe (ceOf p.n (g x))) from fun j v hj=>by rw [Nat.zero_add];exact (cellS hgp4 j).trans (by simpa using hj));have hob:∀ b,v.ownBlock=some b→Wb.heap.size≤b∧b<W4.heap.size:=HO4.out.lt;have hw4:Wb.heap.size≤W4.heap.size:=HG4.out.size
     have v2:=cellS HG1.out 2;rw [show (gridAg p0 v).toArray[2]?=some v from rfl] at v2;have lg4:=ltS HG1.out;obtain ⟨vA,vc,rfl⟩:=own_shape HO4.out;obtain ⟨l2,e2⟩:=gE q2;obtain ⟨l3,e3⟩:=gE q3;obtain ⟨l6,e6⟩:=gE q6;obtain ⟨l7,e7⟩:=gE q7;obtain ⟨l8,e8⟩:=gE q8;obtain ⟨l9,e9⟩:=gE q9;obtain ⟨l10,e10⟩:=gE q10;obtain ⟨l11,e11⟩:=gE q11;apply wp_region_lit
     repeat (first|((with_reducible show wpList _ _ _ _ _ _);refine ldK 87 _ [.int .i64 p.n.ce.co,.int .i64 p.n.ce.ro,.int .i64 p.n.ce.mc,.int .i64 p.n.ce.mr,.int .i64 (g x).1,.int .i64 (g x).2,.int .i64 p.n.ce.sk,.int .i64 p.n.ce.px,.int .i64 p.n.ce.py] gx 0 rfl rfl HR.out Tryz.underlying87 rfl inf_Cell (by simp [Act.eval,Act.put,hsz,e9]) ?_)|((with_reducible show wpList _ _ _ _ _ _);refine wpList_append_own _ rfl _ _ 120 rfl Wb.heap.size 87 ti tz 9 72 Tryz.underlying120 ti1 ti2 ti3 ti4 ti5 (by decide) (.slice vA k vc) _ _ (by simp [Act.eval,Act.put,hsz]) (HO4.out.alloc _) ⟨W4.heap.size,0,none⟩ 1 1 (valsCe (ceOf p.n (g x))) (by simp [Act.eval,Act.put,hsz]) rfl (newK _ (valsCe (ceOf p.n (g x))) _) (valsCe_one _) (by simp only [maxLen];omega) (by omega) (by simp;omega) ?_) | go_step)
     intro v5 w5 how5 hgr5 _;have hG5:=HG4.out.own hgr5 (fun k e=>(hob k e).1);rw [show ((cesF (R.map Nr.n) g (ks.take k)).map valsCe).flatten ++ valsCe (ceOf p.n (g x))=((cesF (R.map Nr.n) g (ks.take (k+1))).map valsCe).flatten by rw [HSN.out,List.map_append,List.flatten_append];simp] at how5
     have hg5:w5.heap[gg]?=some (.cells (gridAg p0 (.slice vA k vc)).toArray 122 (0,0)):=(hgr5.block gg (by simp;omega) (fun e=>by have:=(hob gg e.symm).1;omega)).trans ((Below.heap_alloc _ _ _ (by omega)).trans HG1.out);obtain ⟨vB,vd,rfl⟩:=own_shape how5;have fz0:=frozenS hg5 2;have z1:=cellS hg5 2;rw [show (gridAg p0 (.slice vA k vc)).toArray[2]?=some (.slice vA k vc) from rfl] at z1
     have lg5:=ltS hg5;clear v2 lg4
     repeat go_step
     try simp only [Exit.inBlock]
     refine hKB.out _ _ ?_;clear hKB KB
     refine wp_abw (fun t' W'=>t'.size=60∧t'[2]?=some (.slice (some ⟨b2,off2,none⟩) n cb)∧t'[3]?=some (.pointer (some ⟨w.heap.size,0,none⟩))∧t'[6]?=some (.pointer (some ⟨w.heap.size+1,0,none⟩))∧t'[7]?=some (.pointer (some ⟨gg,0,none⟩))∧t'[8]?=some (.int .i64 (k:Int))∧W'.heap[gg]?=some (.cells (gridAg p0 (.slice vB (k+1) vd)).toArray 122 (0,0))∧W'.ownsRow Wb.heap.size 87 9 (.slice vB (k+1) vd) (k+1) ((cesF (R.map Nr.n) g (ks.take (k+1))).map valsCe).flatten∧Bl1 gg Wb W') ⟨by simp [Act.put,hsz],by simp [Act.put,q2],by simp [Act.put,q3],by simp [Act.put,q6],by simp [Act.put,q7],by simp [Act.put,q8],⟨putS hg5 _,own_other how5 (gsetS (greflS _ gg) _ _) (fun e=>by have:=(how5.lt gg e).1;omega),gsetS hG5 _ _⟩⟩ ?_
     clear hsz q2 l2 e2 q3 l3 e3 q6 l6 e6 q7 l7 e7 q8 l8 e8 q9 l9 e9 q10 l10 e10 q11 l11 e11 t hob hw4 hgxb hne HR hgp4 fz0 z1 lg5;rintro t W6 ⟨hsz,q2,q3,q6,q7,q8,hgF,hOF,hGF⟩;obtain ⟨l2,e2⟩:=gE q2;obtain ⟨l3,e3⟩:=gE q3;obtain ⟨l6,e6⟩:=gE q6;obtain ⟨l7,e7⟩:=gE q7;obtain ⟨l8,e8⟩:=gE q8;apply wp_region_lit
     repeat go_step
     try simp only [Exit.then]
     refine ⟨⟨_,k+1,_,rfl,by omega,by simp [hsz],by simp [q2],by simp [q3],by simp [q6],by simp [q7],by simp [hsz],hgF,hOF,hGF⟩,?_⟩
     ·simp [hsz,intOf]
      omega
  ·have hd:decide ((k:Int)<(n:Int))=false:=decide_eq_false (by omega)
   refine wp_seq_h fun K1 hK1=>?_
   obtain ⟨l2,e2⟩:=gE q2;obtain ⟨l3,e3⟩:=gE q3;obtain ⟨l6,e6⟩:=gE q6;obtain ⟨l7,e7⟩:=gE q7;obtain ⟨l8,e8⟩:=gE q8
   refine wp_seq_h fun K hK=>?_
   apply wp_region_lit
   repeat (first | go_step)
   refine hK.out _ _ ?_;clear hK K
   refine wp_abw (fun t' W'=>t'.size=60∧t'[2]?=some (.slice B n cb)∧t'[3]?=some (.pointer (some ⟨w.heap.size,0,none⟩))∧t'[6]?=some (.pointer (some ⟨w.heap.size+1,0,none⟩))∧t'[7]?=some (.pointer (some ⟨gg,0,none⟩))∧t'[8]?=some (.int .i64 (k:Int))∧t'[28]?=some (.bool false)∧W=W') ⟨by simp [Act.put,hsz],by simp [Act.put,q2],by simp [Act.put,q3],by simp [Act.put,q6],by simp [Act.put,q7],by simp [Act.put,q8],by simp [Act.put,hsz,hd],rfl⟩ ?_
   clear hsz q2 l2 e2 q3 l3 e3 q6 l6 e6 q7 l7 e7 q8 l8 e8 t;rintro t _ ⟨hsz,q2,q3,q6,q7,q8,q28,rfl⟩;refine wp_cond_false (by simp [Act.eval,q28]) ?_;apply wp_exit;simp only [Exit.then,Exit.inBlock,if_true];refine hKE.out _ _ ?_;clear hd q28
   obtain rfl:k=n:=by omega
   have hall:ks.take k=ks:=List.take_of_length_le (by rw [HNK.out];exact Nat.le_refl _);have hO:=HO.out;rw [hall] at hO
   have hlen:k=((cesF (R.map Nr.n) g ks).map valsCe).length:=by
    have:=cesF_take_len (L:=R.map Nr.n) (g:=g) (ks:=ks) (by simpa using HKS.out) k (by rw [HNK.out];exact Nat.le_refl _)
    rw [hall] at this;rw [List.length_map,this]
   obtain ⟨A',c',rfl,hrv,_⟩:=own_rvK hO hlen (fun vs hv=>by obtain ⟨q,_,rfl⟩:=List.mem_map.1 hv;rfl);have HRV:=hD hrv;have HR:=hD (show W.rangeAt gg 0 (gridAg p0 (.slice A' k c')) from fun j v hj=>by rw [Nat.zero_add];exact (cellS HG1.out j).trans (by simpa using hj))
   have HTH:=hD (show W.there (w.heap.size+1) 0 (gridAg p0 (.slice A' k c')).length from thereB ((HG.out.block _ (by have:=ltS HZZ.out;omega) (fun e=>hnzg (Option.some.inj e))).trans HZZ.out) (by rw [hz6];show 0+3≤3;omega));clear hO hlen hall hrv lx x0;obtain ⟨l2,e2⟩:=gE q2;obtain ⟨l3,e3⟩:=gE q3;obtain ⟨l6,e6⟩:=gE q6;obtain ⟨l7,e7⟩:=gE q7;obtain ⟨l8,e8⟩:=gE q8
   refine wp_seq_h fun K hK=>?_
   apply wp_region_lit
   repeat (first|((with_reducible show wpList _ _ _ _ _ _);refine ldK 122 _ (gridAg p0 (.slice A' k c')) gg 0 rfl rfl HR.out Tryz.underlying122 rfl inf_Grid (by simp [Act.eval,Act.put,hsz,e7]) ?_)|((with_reducible show wpList _ _ _ _ _ _);refine stK 122 _ _ (gridAg p0 (.slice A' k c')) (w.heap.size+1) 0 rfl rfl HTH.out inf_Grid (gridAg_one _ _ _ _) (by simp [Act.eval,Act.put,hsz,e6]) (by simp [Act.eval,Act.put,hsz]) ?_) | go_step)
   refine hK.out _ _ ?_;clear hK K;apply wp_ret;refine bp_retcell 6 122 (w.heap.size+1) (gridAg p0 (.slice A' k c')) Tryz.results80 ?_ (World.rangeAt_setCells_same _ _ _ _ HTH.out) Tryz.underlying122 rfl inf_Grid rfl ⟨⟨A',c',rfl,?_⟩,below_setCells (by omega) _ _ _ HW.out⟩
   ·simp [Act.put,hsz,e6]
   ·refine cev_of (fun h0=>?_);obtain ⟨b9,off9,e9',hb9,hp9⟩:=HRV.out h0
    have hne:b9≠w.heap.size+1:=by
     rintro rfl
     have:=HO.out.lt _ (by rw [e9'];rfl)
     dsimp only at this
     have:=ltS HZZ.out
     omega
    exact ⟨b9,off9,e9',by rw [size_setCellsT];exact hb9,fun i vs hi=>rangeB (hp9 i vs hi) (heap_setCells_ne hne _ _ _)⟩
end
theorem kid_no0 {R:List Nr} (h:TrOK (R.map Nr.n)) (i:Nat):isKid R (i:Int) 0=false:=by
 rw [isKid_eq];unfold kidB
 cases hn:(R.map Nr.n)[0]? with
 | none=>rfl
 | some n =>
  rcases h.up 0 n hn with ⟨_,e⟩ | ⟨e,_⟩
  ·show (n.pa == (i:Int))=false
   rw [e];simp only [beq_eq_false_iff_ne,ne_eq];omega
  ·omega
theorem pks_big {L:List Nd} (h:TrOK L) (ks:List Nat):∀ p∈pksF L (szM L) ks,p.big:=fun p hp=>pk_bd h (fun k _=>szM_bd h k) p hp
theorem ces_w {L:List Nd} (h:TrOK L) {i:Nat} {n:Nd} (hn:L[i]?=some n) (h1:n.ki=1):(∀ p∈cesF L (szM L) (kidD L i),smW p)∧spansW n.cs.length ((cesF L (szM L) (kidD L i)).map acM)∧spansW n.rs.length ((cesF L (szM L) (kidD L i)).map dnM)∧(cesF L (szM L) (kidD L i)).length≤10:=by
 have hp:=ce_bd h hn h1 (fun k _=>szM_bd h k);have hl:=Nat.le_trans (cesF_len L (szM L) (kidD L i)) (Nat.le_trans (kidD_len L i) h.l10);refine ⟨fun p hm=>by have:=hp p hm;unfold smW;omega,⟨by simpa using hl,fun s hs=>?_⟩,⟨by simpa using hl,fun s hs=>?_⟩,hl⟩
 ·obtain ⟨p,hm,rfl⟩:=List.mem_map.1 hs
  have:=hp p hm
  refine ⟨p.co.toNat,p.mc.toNat,?_,?_,?_,?_,?_,?_⟩ <;> first | omega|(unfold acM;dsimp only;omega)
 ·obtain ⟨p,hm,rfl⟩:=List.mem_map.1 hs
  have:=hp p hm
  refine ⟨p.ro.toNat,p.mr.toNat,?_,?_,?_,?_,?_,?_⟩ <;> first | omega|(unfold dnM;dsimp only;omega)
theorem new_fullW {w:World} {o:Obj} {cs:Array Value} {T:TypeId} (p:Nr) (ho:o=.cells cs T (0,0)) (hs:cs.size=34):((w.alloc o).setCells w.heap.size 0 (valsNr p)).heap[w.heap.size]?=some (.cells (valsNr p).toArray T (0,0)):=by
 subst ho;rw [heap_setCells (valsNr p) 0 _ _ (newS w _),wrAt_all (by rw [hs];rfl)]
theorem ret_tup2 {a b c d:Int} (h1:a=c) (h2:b=d):Ending.returned (.tuple #[.int .i64 a,.int .i64 b])=.returned (.tuple #[.int .i64 c,.int .i64 d]):=by rw [h1,h2]
theorem pksF_all {L:List Nd} {g:Nat→Int × Int} {ks:List Nat} (hk:∀ x∈ks,x<L.length):(pksF L g ks).length=ks.length:=by
 have:=pksF_take_len (g:=g) hk ks.length (Nat.le_refl _)
 rwa [List.take_length] at this
theorem cesF_all {L:List Nd} {g:Nat→Int × Int} {ks:List Nat} (hk:∀ x∈ks,x<L.length):(cesF L g ks).length=ks.length:=by
 have:=cesF_take_len (g:=g) hk ks.length (Nat.le_refl _)
 rwa [List.take_length] at this
theorem askN_own {L:List Nd} {f:Nat→Int × Int} {i:Nat} {n:Nd} (h:n.ke=true∨kidD L i=[]∨n.ki=2):askN L f i n=(n.ww,n.hh):=by unfold askN;rw [if_pos h]
theorem askN_pk {L:List Nd} {f:Nat→Int × Int} {i:Nat} {n:Nd} {ks:List Nat} (hks:kidD L i=ks) (h1:n.ke=false) (h2:ks≠[]) (h3:n.ki=0):askN L f i n=reqM (pksF L f ks):=by
 subst hks;unfold askN;rw [if_neg (by simp [h1,h2,h3]),if_pos h3]
theorem askN_gr {L:List Nd} {f:Nat→Int × Int} {i:Nat} {n:Nd} {ks:List Nat} (hks:kidD L i=ks) (h1:n.ke=false) (h2:ks≠[]) (h3:n.ki=1):askN L f i n=gridM n.cs n.rs (cesF L f ks):=by
 subst hks;unfold askN;rw [if_neg (by simp [h1,h2,h3]),if_neg (by omega)]
theorem sizeOf_v (A:Option Addr) (c:Nat) (R:List Nr) (hT:TrOK (R.map Nr.n)):∀ (f i:Nat) (w:World),R.length≤f+i→i<R.length→NrV w A R→RdR w R →
  Calls Tryz.prog 113 #[.agg #[.slice A R.length c],.int .i64 (i:Int)] w fun e w'=>e=.returned (.tuple #[.int .i64 (szM (R.map Nr.n) i).1,.int .i64 (szM (R.map Nr.n) i).2])∧Below w.heap.size w w':=by
 intro f
 induction f with
 | zero=>intro i w h1 h2;omega
 | succ f ih =>
 intro i w hf hi h hr;have hget:R[i]?=some R[i]:=List.getElem?_eq_getElem hi
 have hmg:(R.map Nr.n)[i]?=some R[i].n:=by rw [List.getElem?_map,hget];rfl
 have hsz0:=szM_eq hT hmg;have hr1:=hr _ (List.getElem_mem hi);have hkis:=(hT.sz i _ hmg).2.2;generalize hp0:R[i]=p at *;obtain ⟨b,off,rfl,hb,hc⟩:=h.cells (by omega);have hcp:=hc i p hget
 have hL10:R.length≤10:=by have:=hT.l10;simpa using this
 have hL1:1≤R.length:=by omega
 have hdi:(i:Int)<(R.length:Int):=by omega
 have hB0:Below w.heap.size w (w.alloc (.cells #[.slice (some ⟨b,off,none⟩) R.length c] 30 (0,0))):=balloc (Below.refl _ _);have HX:=hD (newS w (.cells #[.slice (some ⟨b,off,none⟩) R.length c] 30 (0,0)));have HB:=hD hB0;have HNR:=hD (h.keep hB0);have HRD:=hD (hr.keep hB0);have HR1:=hD (hr1.keep hB0);have HC:=hD (rangeB hcp (hB0.block b hb));have HSZ:=hD hsz0;have HMG:=hD hmg;have HKI:=hD hkis
 have HGI:=hD hget
 have HIH:=hD (show ∀ k∈kidD (R.map Nr.n) i,∀ W,Below w.heap.size w W→Calls Tryz.prog 113 #[.agg #[.slice (some ⟨b,off,none⟩) R.length c],.int .i64 (k:Int)] W fun e W'=>e=.returned (.tuple #[.int .i64 (szM (R.map Nr.n) k).1,.int .i64 (szM (R.map Nr.n) k).2])∧Below W.heap.size W W' from fun k hk W hW=>by
  have:=kid_gt hT hk
  have hkl:=kidD_lt hk;rw [List.length_map] at hkl
  exact ih k W (by omega) hkl (h.keep hW) (hr.keep hW))
 have x0:=cellS HX.out 0;have lx:=ltS HX.out;clear h hr hr1 hcp hsz0 hc hget hmg ih hp0 hkis hB0
 go_enter Tryz.func113,Tryz.ntmps113
 go_upto_region 1 with fail
 refine wp_genGG (fun W=>W=w.alloc (.cells #[.slice (some ⟨b,off,none⟩) R.length c] 30 (0,0))) rfl (fun W1 e1=>?_);rw [<- e1] at x0 lx;replace HX:=hD (e1 ▸ HX.out);replace HB:=hD (e1 ▸ HB.out);replace HNR:=hD (e1 ▸ HNR.out);replace HRD:=hD (e1 ▸ HRD.out);replace HR1:=hD (e1 ▸ HR1.out);replace HC:=hD (e1 ▸ HC.out);clear e1
 go_upto_region 2 with (first|(refine ldN _ p b (off+i*34) rfl rfl rfl HC.out ?_)|(refine stN (.tmp 6) (.tmp 12) p W1.heap.size 0 rfl rfl rfl rfl (newS _ _) (by show (0+34:Nat)≤34;omega) ?_))
 refine wp_genGG (fun W=>W.heap[W1.heap.size]?=some (.cells (valsNr p).toArray 90 (0,0))∧Below W1.heap.size W1 W) ⟨new_fullW p rfl rfl,below_setCells (Nat.le_refl _) _ _ _ (balloc (Below.refl _ _))⟩ (fun W2 h0=>?_);obtain ⟨hn,hb2⟩:=h0;have HN:=hD hn;have ln:=ltS hn;clear hn x0 lx HC hdi;replace HX:=hbk hb2 HX;replace HNR:=hD (HNR.out.keep hb2);replace HRD:=hD (HRD.out.keep hb2)
 replace HR1:=hD (HR1.out.keep hb2);replace HB:=hD (bkeep2 HB.out hb2);clear hb2;have x0:=cellS HX.out 0;have lx:=ltS HX.out
 go_wp2_with fail
 with_reducible refine (skidsOf_v (some ⟨b,off,none⟩) c R (i:Int) _ HNR.out hL1 (by omega) (kid_no0 hT i)).mono ?_
 rintro e W3 ⟨⟨kv,rfl,hkv⟩,hb3⟩;rw [kidsM_eq] at hkv;obtain ⟨kA,kc,hkv,hkn,-⟩:=hkv;rw [List.length_map] at hkv;subst hkv;have ln3:=Nat.lt_of_lt_of_le ln hb3.size;clear x0 lx ln;replace HX:=hbk hb3 HX;replace HN:=hbk hb3 HN;replace HNR:=hD (HNR.out.keep hb3);replace HRD:=hD (HRD.out.keep hb3);replace HR1:=hD (HR1.out.keep hb3);replace HB:=hD (bkeep2 HB.out hb3);clear hb3;have HKN:=hD hkn;clear hkn
 have hkl10:(kidD (R.map Nr.n) i).length≤10:=Nat.le_trans (kidD_len _ _) (by simpa using hL10)
 have hkl:∀ k∈kidD (R.map Nr.n) i,k<(R.map Nr.n).length:=fun k hk=>kidD_lt hk
 have HCW:=hD (show p.n.ki=1→_ from fun h1=>ces_w hT HMG.out h1);have HLI:=hD (show p.n.ki=1→_ from fun h1=>hT.li i p.n HMG.out h1);have HPB:=hD (pks_big hT (kidD (R.map Nr.n) i))
 obtain ⟨ks,hks⟩:∃ ks,kidD (R.map Nr.n) i=ks:=⟨_,rfl⟩
 rw [hks] at HKN hkl10 hkl HIH HCW HPB ⊢;have HPL:=hD (pksF_all (g:=szM (R.map Nr.n)) hkl);have HCL:=hD (cesF_all (g:=szM (R.map Nr.n)) hkl);have HKL:=hD hkl;have HKS:=hD hks;clear hkl hks;have x0:=cellS HX.out 0;have lx:=ltS HX.out;have y1:W3.cell? ⟨W1.heap.size,1,none⟩=some (.int .i64 p.n.ww):=cellS HN.out 1;have y2:W3.cell? ⟨W1.heap.size,2,none⟩=some (.int .i64 p.n.hh):=cellS HN.out 2
 have y3:W3.cell? ⟨W1.heap.size,3,none⟩=some (.bool p.n.ke):=cellS HN.out 3;have y4:W3.cell? ⟨W1.heap.size,4,none⟩=some (.int .i64 p.n.ki):=cellS HN.out 4
 have hC:(p.n.ke=true)∨(p.n.ke=false∧ks=[])∨(p.n.ke=false∧ks≠[]∧p.n.ki=2)∨(p.n.ke=false∧ks≠[]∧p.n.ki≠2):=by
  cases p.n.ke <;> by_cases h1:ks=[] <;> by_cases h2:p.n.ki=2 <;> simp [h1,h2]
 rcases hC with hke | ⟨hke,hnil⟩ | ⟨hke,hnil,hk2⟩ | ⟨hke,hnil,hk2⟩
 ·rw [hke] at y3;have HKE:=hD hke;clear hke;have hz:szM (R.map Nr.n) i=(p.n.ww,p.n.hh):=HSZ.out.trans (askN_own (.inl HKE.out));have HZ:=hD hz;clear hz
  go_wp2_with fail
  go_quiet (fail)
  go_wp2;go_ret2;exact ⟨ret_tup2 (by rw [HZ.out]) (by rw [HZ.out]),belowN' HB.out _⟩
 ·rw [hke] at y3
  have hl0:((ks.length:Int) == 0)=true:=by simp [hnil]
  have HNI:=hD hnil;clear hke hnil;have hz:szM (R.map Nr.n) i=(p.n.ww,p.n.hh):=HSZ.out.trans (askN_own (.inr (.inl (HKS.out.trans HNI.out))));have HZ:=hD hz;clear hz
  go_wp2_with fail
  go_quiet (fail)
  go_wp2;go_ret2;exact ⟨ret_tup2 (by rw [HZ.out]) (by rw [HZ.out]),belowN' HB.out _⟩
 ·rw [hke] at y3
  have hl0:((ks.length:Int) == 0)=false:=by have:=List.length_pos_iff.2 hnil;rw [beq_eq_false_iff_ne];omega
  have hk22:(p.n.ki == 2)=true:=by simp [hk2]
  have HK2:=hD hk2;clear hke hnil hk2;have hz:szM (R.map Nr.n) i=(p.n.ww,p.n.hh):=HSZ.out.trans (askN_own (.inr (.inr HK2.out)));have HZ:=hD hz;clear hz
  go_wp2_with fail
  go_quiet (fail)
  go_wp2;go_ret2;exact ⟨ret_tup2 (by rw [HZ.out]) (by rw [HZ.out]),belowN' HB.out _⟩
 ·rw [hke] at y3
  have hl0:((ks.length:Int) == 0)=false:=by have:=List.length_pos_iff.2 hnil;rw [beq_eq_false_iff_ne];omega
  have hk22:(p.n.ki == 2)=false:=by simp [hk2]
  by_cases hk0:p.n.ki=0
  ·have hk00:(p.n.ki == 0)=true:=by simp [hk0]
   have HZ:=hD (HSZ.out.trans (askN_pk HKS.out hke hnil hk0));clear hke hnil hk2 hk0
   go_wp2_with fail
   with_reducible refine (packsOf_v (some ⟨b,off,none⟩) c R ks kA kc ks.length (szM (R.map Nr.n)) _ HNR.out hL1 (by omega) HKN.out rfl (by omega) (fun k hk=>by have:=HKL.out k hk;rwa [List.length_map] at this) (fun k hk W hW=>HIH.out k hk W (bkeep2 HB.out hW))).mono ?_
   rintro e W4 ⟨⟨A',c',rfl,hpv,-⟩,hb4⟩;have HRQ:=hD (show Calls Tryz.prog 138 #[.slice A' ks.length c'] W4 _ from HPL.out ▸ request_w A' c' _ W4 hpv HPB.out (by rw [HPL.out];omega));clear hpv x0 lx y1 y2 y3 y4;replace HB:=hD (bkeep2 HB.out hb4);clear hb4
   go_wp2_with fail
   with_reducible refine (HRQ.out).mono ?_
   rintro e W5 ⟨rfl,hb5⟩;replace HB:=hD (bkeep2 HB.out hb5);clear hb5;go_wp2;go_ret2;exact ⟨ret_tup2 (by rw [HZ.out]) (by rw [HZ.out]),HB.out⟩
  ·have hk00:(p.n.ki == 0)=false:=by simp [hk0]
   have hk1:p.n.ki=1:=by have:=HKI.out;omega
   have HZ:=hD (HSZ.out.trans (askN_gr HKS.out hke hnil hk1));have HC1:=hD (HCW.out hk1);have HL1:=hD (HLI.out hk1);clear hke hnil hk2 hk0 hk1
   go_wp2_with fail
   with_reducible refine (gridOf_v (some ⟨b,off,none⟩) c R i p ks kA kc ks.length (szM (R.map Nr.n)) _ HNR.out HGI.out (by omega) HKN.out rfl (by omega) (fun k hk=>by have:=HKL.out k hk;rwa [List.length_map] at this) (fun k hk W hW=>HIH.out k hk W (bkeep2 HB.out hW))).mono ?_
   rintro e W4 ⟨⟨A',c',rfl,hcv⟩,hb4⟩;have HRQ:=hD (show Calls Tryz.prog 139 #[.agg (gridAg p (.slice A' ks.length c')).toArray] W4 _ from HCL.out ▸ sgridRequest_w p.ca p.cc p.n.cs p.ra p.rc p.n.rs A' c' _ W4 (HR1.out.keep hb4).c (HR1.out.keep hb4).r hcv HL1.out.1 HL1.out.2 HC1.out.2.2.2 HC1.out.1 HC1.out.2.1 HC1.out.2.2.1 HR1.out.cl HR1.out.rl);clear hcv x0 lx y1 y2 y3 y4
   replace HB:=hD (bkeep2 HB.out hb4);clear hb4
   go_wp2_with fail
   with_reducible refine (HRQ.out).mono ?_
   rintro e W5 ⟨rfl,hb5⟩;replace HB:=hD (bkeep2 HB.out hb5);clear hb5;go_wp2;go_ret2;exact ⟨ret_tup2 (by rw [HZ.out];rfl) (by rw [HZ.out];rfl),HB.out⟩
theorem kidD_mem {L:List Nd} {i k:Nat} {m:Nd} (hm:L[k]?=some m) (hpa:m.pa=(i:Int)):k∈kidD L i:=by
 unfold kidD idsN;refine List.mem_filter.2 ⟨List.mem_range.2 (List.getElem?_eq_some_iff.1 hm).1,?_⟩;unfold kidB;rw [hm]
 simp [hpa]
section
attribute [local go_sem 5000] run_mx run_mn
end
end Go.Proofs.YtmmfifgdgbmgjaaGreat
