import Derived.Test.YtfnpdlnepjhljaaGreatQH04
import Derived.RangeFuncNested
import Derived.RangeFuncBound
import Derived.RangeFuncCalls
import Derived.RangeFuncLeaves
import Derived.Shelf.RegionOpen
import Derived.OwnWalkIn
import Derived.TacticsInMore
import Derived.LoopNIn
import Derived.LoopIn
set_option linter.unusedVariables false
set_option linter.unusedSimpArgs false
set_option maxRecDepth 100000
set_option maxHeartbeats 16000000
namespace Go.Proofs.YtfnpdlnepjhljaaGreat
open Go.RowKit
attribute [local go_sem] kZb kZp kZg
theorem each_wc (A:Option Addr) (c:Nat) (R:List (List Value)) (U:List Value→List Value) (w:World) (h:RvK 37 w A R) (hl:∀ vs∈R,vs.length=37∧one vs) (hL:R.length≤1048576) (hU:∀ vs∈R,(U vs).length=9∧one (U vs))
  (hf:∀ vs∈R,∀ W,Below w.heap.size w W→Calls Tryz.prog 131 #[.agg vs.toArray] W fun e W'=>e=.returned (.agg (U vs).toArray)∧Below W.heap.size W W') :
  Calls Tryz.prog 130 #[.slice A R.length c,.func (.func 131) #[] #[]] w fun e w'=>e=.returned (.slice (some ⟨w.heap.size,0,none⟩) R.length R.length)∧RbK 9 w' w.heap.size 39 (R.map U)∧Below w.heap.size w w':=by
 obtain ⟨fm,hfm,hmk0⟩:=made_Cell;have HR:=hD (show ∀ vs∈R.map U,vs.length=9 from fun vs hv=>by obtain ⟨us,hu,rfl⟩:=List.mem_map.1 hv;exact (hU us hu).1);have HU:=hD hU;have HF:=hD hf;have HH:=hD h;have HL:=hD hl;have HFM:=hD hfm;clear hU hf h hfm hl;refine kZ7 Tryz.func130 rfl 26 (by simp only [Tryz.ntmps130]) (by simp) (fun t hsz hargs=>?_)
 have q0:t[0]?=some (.slice A R.length c):=pZl (by omega) (hargs 0 _ rfl);have q1:t[1]?=some (.func (.func 131) #[] #[]):=pZl (by omega) (hargs 1 _ rfl);clear hargs;obtain ⟨l0,e0⟩:=gE q0;obtain ⟨l1,e1⟩:=gE q1
 refine jZe fun K hK=>?_
 apply wp_region_lit
 repeat (first | go_step)
 refine hK.out _ _ ?_;clear hK K;refine jZy (fun t' W'=>t'.size=26∧t'[0]?=some (.slice A R.length c)∧t'[1]?=some (.func (.func 131) #[] #[])∧w=W') ⟨by simp [hsz],by simp [q0],by simp [q1],rfl⟩ ?_;clear hsz q0 l0 e0 q1 l1 e1 t;rintro t _ ⟨hsz,q0,q1,rfl⟩;have hmk:=hmk0 R.length w hL;clear hmk0;obtain ⟨l0,e0⟩:=gE q0;obtain ⟨l1,e1⟩:=gE q1
 refine jZe fun K hK=>?_
 apply wp_region_lit
 repeat (first | go_step)
 refine hK.out _ _ ?_;clear hK K;refine jZy (fun t' W'=>t'.size=26∧t'[0]?=some (.slice A R.length c)∧t'[1]?=some (.func (.func 131) #[] #[])∧t'[5]?=some (.slice (some ⟨w.heap.size,0,none⟩) R.length R.length)∧RpK 9 W' w.heap.size 39 R.length 0 (R.map U)∧Below w.heap.size w W') ⟨by simp [hsz],by simp [q0],by simp [q1],by simp [hsz],⟨RpK.new _ (HFM.out _),jZd (Below.refl _ _)⟩⟩ ?_
 clear hsz q0 l0 e0 q1 l1 e1 t hmk;rintro t W0 ⟨hsz,q0,q1,q5,hP,hB⟩
 refine jZe fun KE hKE=>?_
 obtain ⟨l0,e0⟩:=gE q0;obtain ⟨l1,e1⟩:=gE q1;obtain ⟨l5,e5⟩:=gE q5
 refine jZe fun K hK=>?_
 apply wp_region_lit
 repeat (first | go_step)
 refine hK.out _ _ ?_;clear hK K;refine jZy (fun t' W'=>t'.size=26∧t'[1]?=some (.func (.func 131) #[] #[])∧t'[5]?=some (.slice (some ⟨w.heap.size,0,none⟩) R.length R.length)∧t'[11]?=some (.slice A R.length c)∧t'[12]?=some (.int .i64 (R.length:Int))∧t'[13]?=some (.int .i64 ((0:Nat):Int))∧W0=W') ⟨by simp [hsz],by simp [q1],by simp [q5],by simp [hsz],by simp [hsz],by simp [hsz],rfl⟩ ?_
 clear hsz q0 l0 e0 q1 l1 e1 q5 l5 e5 t;rintro t _ ⟨hsz,q1,q5,q11,q12,q13,rfl⟩;apply wp_block
 refine wp_loop (fun a W=>∃ (t:Array Value) (k:Nat),a=⟨t,[]⟩∧k≤R.length∧t.size=26∧t[1]?=some (.func (.func 131) #[] #[])∧t[5]?=some (.slice (some ⟨w.heap.size,0,none⟩) R.length R.length)∧t[11]?=some (.slice A R.length c)∧t[12]?=some (.int .i64 (R.length:Int))∧t[13]?=some (.int .i64 (k:Int))∧RpK 9 W w.heap.size 39 R.length k (R.map U)∧Below w.heap.size w W) (fun a _=>R.length-(intOf (a.tmps.getD 13 undef)).toNat) ⟨t,0,rfl,by omega,hsz,q1,q5,q11,q12,q13,hP,hB⟩ ?_
 clear t hsz q1 q5 q11 q12 q13 hP hB W0;rintro a W ⟨t,k,rfl,hk,hsz,q1,q5,q11,q12,q13,hP,hB⟩
 have hmu:intOf (t.getD 13 undef)=(k:Int):=by rw [Array.getD_eq_getD_getElem?,q13];rfl
 dsimp only
 rw [hmu];clear hmu;have HP:=hD hP;have HB:=hD hB;clear hP hB
 by_cases hlt:k<R.length
 ·have hd:decide ((k:Int)<(R.length:Int))=true:=by simpa using hlt
  obtain ⟨l1,e1⟩:=gE q1;obtain ⟨l5,e5⟩:=gE q5;obtain ⟨l11,e11⟩:=gE q11;obtain ⟨l12,e12⟩:=gE q12;obtain ⟨l13,e13⟩:=gE q13
  refine jZe fun K hK=>?_
  apply wp_region_lit
  repeat (first | go_step)
  refine hK.out _ _ ?_;clear hK K
  refine jZy (fun t' W'=>t'.size=26∧t'[1]?=some (.func (.func 131) #[] #[])∧t'[5]?=some (.slice (some ⟨w.heap.size,0,none⟩) R.length R.length)∧t'[11]?=some (.slice A R.length c)∧t'[12]?=some (.int .i64 (R.length:Int))∧t'[13]?=some (.int .i64 (k:Int))∧t'[14]?=some (.bool true)∧W=W') ⟨by simp [hsz],by simp [q1],by simp [q5],by simp [q11],by simp [q12],by simp [q13],by simp [hsz,hd],rfl⟩ ?_
  clear hsz q1 l1 e1 q5 l5 e5 q11 l11 e11 q12 l12 e12 q13 l13 e13 t;rintro t _ ⟨hsz,q1,q5,q11,q12,q13,q14,rfl⟩;clear hd
  refine jZe fun K1 hK1=>?_
  refine wp_cond_true (by simp [Act.eval,q14]) ?_;apply wp_skip;simp only [Exit.then];refine hK1.out _ _ ?_;clear hK1 K1 q14
  refine jZe fun KB hKB=>?_
  apply wp_block;have hget:R[k]?=some R[k]:=List.getElem?_eq_getElem hlt;obtain ⟨b,off,rfl,hb,hps⟩:=(HH.out.keep HB.out) (by omega);have hc:=hps k _ hget;have hll:=HL.out _ (List.mem_of_getElem? hget);obtain ⟨hlv,hov⟩:=hll;have hUv:=HU.out _ (List.mem_of_getElem? hget);obtain ⟨hul,huo⟩:=hUv;have hfv:=HF.out _ (List.mem_of_getElem? hget)
  have hmv:(R.map U)[k]?=some (U R[k]):=by rw [List.getElem?_map,hget];rfl
  obtain ⟨x,hx⟩:∃ x,R[k]=x:=⟨_,rfl⟩
  rw [hx] at hc hlv hov hul huo hfv hmv;have HC:=hD hc;have HLV:=hD hlv;have HOV:=hD hov;have HUL:=hD hul;have HUO:=hD huo;have HFV:=hD hfv;have HMV:=hD hmv;clear hget hps hc hlv hov hul huo hfv hmv hx
  have hd1:(k:Int)<(R.length:Int):=by omega
  obtain ⟨l1,e1⟩:=gE q1;obtain ⟨l5,e5⟩:=gE q5;obtain ⟨l11,e11⟩:=gE q11;obtain ⟨l12,e12⟩:=gE q12;obtain ⟨l13,e13⟩:=gE q13
  refine jZe fun K hK=>?_
  apply wp_region_lit
  repeat (first|((with_reducible show wpList _ _ _ _ _ _);refine ldK 112 _ x b (off+k*37) rfl rfl HC.out Tryz.underlying112 rfl (by rw [HLV.out];exact kZv) (by simp [Act.eval,hsz]) ?_)|((with_reducible show wpList _ _ _ _ _ _);refine sZa 112 37 rfl rfl rZv (fun z hz=>?_))|((with_reducible show wpList _ _ _ _ _ _);refine stK 112 (.tmp 7) _ x W.heap.size 0 rfl rfl (pZb (newS _ _) (by rw [HLV.out,hz];omega)) (by rw [HLV.out];exact kZv) HOV.out (by simp [Act.eval,hsz]) (by simp [Act.eval,hsz]) ?_) | go_step)
  refine hK.out _ _ ?_;clear hK K
  refine jZy (fun t' W'=>t'.size=26∧t'[1]?=some (.func (.func 131) #[] #[])∧t'[5]?=some (.slice (some ⟨w.heap.size,0,none⟩) R.length R.length)∧t'[6]?=some (.int .i64 (k:Int))∧t'[7]?=some (.pointer (some ⟨W.heap.size,0,none⟩))∧t'[11]?=some (.slice (some ⟨b,off,none⟩) R.length c)∧t'[12]?=some (.int .i64 (R.length:Int))∧t'[13]?=some (.int .i64 (k:Int))∧W'.rangeAt W.heap.size 0 x∧Below W.heap.size W W') ⟨by simp [hsz],by simp [q1],by simp [q5],by simp [hsz],by simp [hsz],by simp [q11],by simp [q12],by simp [q13],⟨World.rangeAt_setCells_same _ _ _ _ (pZb (newS _ _) (by rw [HLV.out,hz];omega)),jZi (Nat.le_refl _) _ _ _ (jZd (Below.refl _ _))⟩⟩ ?_
  clear hsz q1 l1 e1 q5 l5 e5 q11 l11 e11 q12 l12 e12 q13 l13 e13 t hd1 z hz;rintro t W1 ⟨hsz,q1,q5,q6,q7,q11,q12,q13,hx1,hb1⟩;have HX1:=hD hx1;have hwg:=HP.out.lt;replace HP:=hD (HP.out.keep hb1);replace HB:=hD (jZa HB.out hb1);clear hx1 hb1 HC
  have hd1:(k:Int)<(R.length:Int):=by omega
  obtain ⟨l1,e1⟩:=gE q1;obtain ⟨l5,e5⟩:=gE q5;obtain ⟨l6,e6⟩:=gE q6;obtain ⟨l7,e7⟩:=gE q7;obtain ⟨l11,e11⟩:=gE q11;obtain ⟨l12,e12⟩:=gE q12;obtain ⟨l13,e13⟩:=gE q13;apply wp_region_lit
  repeat (first|((with_reducible show wpList _ _ _ _ _ _);refine ldK 112 _ x W.heap.size 0 rfl rfl HX1.out Tryz.underlying112 rfl (by rw [HLV.out];exact kZv) (by simp [Act.eval,hsz,e7]) ?_) | go_step)
  refine (HFV.out _ HB.out).mono ?_;rintro e W2 ⟨rfl,hb2⟩
  dsimp only
  have hth:W2.there w.heap.size (k*9) (U x).length:=by rw [HUL.out];exact (HP.out.keep hb2).there hlt
  repeat (first|((with_reducible show wpList _ _ _ _ _ _);refine stK 39 _ _ (U x) w.heap.size (k*9) rfl rfl hth (by rw [HUL.out];exact sZt) HUO.out (by simp [Act.eval,hsz,hd1]) (by simp [Act.eval,hsz]) ?_) | go_step)
  try simp only [Exit.inBlock]
  refine hKB.out _ _ ?_;clear hKB KB
  refine jZy (fun t' W'=>t'.size=26∧t'[1]?=some (.func (.func 131) #[] #[])∧t'[5]?=some (.slice (some ⟨w.heap.size,0,none⟩) R.length R.length)∧t'[11]?=some (.slice (some ⟨b,off,none⟩) R.length c)∧t'[12]?=some (.int .i64 (R.length:Int))∧t'[13]?=some (.int .i64 (k:Int))∧RpK 9 W' w.heap.size 39 R.length (k+1) (R.map U)∧Below w.heap.size w W') ⟨by simp [hsz],by simp [q1],by simp [q5],by simp [q11],by simp [q12],by simp [q13],⟨(HP.out.keep hb2).step HR.out HMV.out hlt,jZi (Nat.le_refl _) _ _ _ (jZa HB.out hb2)⟩⟩ ?_
  clear hsz q1 l1 e1 q5 l5 e5 q6 l6 e6 q7 l7 e7 q11 l11 e11 q12 l12 e12 q13 l13 e13 t hth hb2 HP HB hd1;rintro t W3 ⟨hsz,q1,q5,q11,q12,q13,hP,hB⟩;obtain ⟨l1,e1⟩:=gE q1;obtain ⟨l5,e5⟩:=gE q5;obtain ⟨l11,e11⟩:=gE q11;obtain ⟨l12,e12⟩:=gE q12;obtain ⟨l13,e13⟩:=gE q13;apply wp_region_lit
  repeat go_step
  try simp only [Exit.then]
  refine ⟨⟨_,k+1,rfl,by omega,by simp [hsz],by simp [q1],by simp [q5],by simp [q11],by simp [q12],by simp [hsz],hP,hB⟩,?_⟩
  ·simp [hsz,intOf]
   omega
 ·have hd:decide ((k:Int)<(R.length:Int))=false:=decide_eq_false (by omega);obtain ⟨l1,e1⟩:=gE q1;obtain ⟨l5,e5⟩:=gE q5;obtain ⟨l11,e11⟩:=gE q11;obtain ⟨l12,e12⟩:=gE q12;obtain ⟨l13,e13⟩:=gE q13
  refine jZe fun K hK=>?_
  apply wp_region_lit
  repeat (first | go_step)
  refine hK.out _ _ ?_;clear hK K
  refine jZy (fun t' W'=>t'.size=26∧t'[1]?=some (.func (.func 131) #[] #[])∧t'[5]?=some (.slice (some ⟨w.heap.size,0,none⟩) R.length R.length)∧t'[11]?=some (.slice A R.length c)∧t'[12]?=some (.int .i64 (R.length:Int))∧t'[13]?=some (.int .i64 (k:Int))∧t'[14]?=some (.bool false)∧W=W') ⟨by simp [hsz],by simp [q1],by simp [q5],by simp [q11],by simp [q12],by simp [q13],by simp [hsz,hd],rfl⟩ ?_
  clear hsz q1 l1 e1 q5 l5 e5 q11 l11 e11 q12 l12 e12 q13 l13 e13 t;rintro t _ ⟨hsz,q1,q5,q11,q12,q13,q14,rfl⟩
  refine jZe fun K1 hK1=>?_
  refine wp_cond_false (by simp [Act.eval,q14]) ?_;apply wp_exit;simp only [Exit.then,Exit.inBlock,if_true];refine hKE.out _ _ ?_;clear hd;obtain ⟨l1,e1⟩:=gE q1;obtain ⟨l5,e5⟩:=gE q5;obtain ⟨l11,e11⟩:=gE q11;obtain ⟨l12,e12⟩:=gE q12;obtain ⟨l13,e13⟩:=gE q13;obtain ⟨l14,e14⟩:=gE q14
  repeat go_step
  refine bodyPost_ret (results_tmp rfl _ _ _) rfl ?_;exact ⟨by simp [hsz],HP.out.whole (by simp) (by omega),HB.out⟩
theorem each_wl (A:Option Addr) (c:Nat) (R:List (List Value)) (U:List Value→List Value) (w:World) (h:RvK 37 w A R) (hl:∀ vs∈R,vs.length=37∧one vs) (hL:R.length≤1048576) (hU:∀ vs∈R,(U vs).length=9∧one (U vs))
  (hf:∀ vs∈R,∀ W,Below w.heap.size w W→Calls Tryz.prog 133 #[.agg vs.toArray] W fun e W'=>e=.returned (.agg (U vs).toArray)∧Below W.heap.size W W') :
  Calls Tryz.prog 132 #[.slice A R.length c,.func (.func 133) #[] #[]] w fun e w'=>e=.returned (.slice (some ⟨w.heap.size,0,none⟩) R.length R.length)∧RbK 9 w' w.heap.size 41 (R.map U)∧Below w.heap.size w w':=by
 obtain ⟨fm,hfm,hmk0⟩:=made_Place;have HR:=hD (show ∀ vs∈R.map U,vs.length=9 from fun vs hv=>by obtain ⟨us,hu,rfl⟩:=List.mem_map.1 hv;exact (hU us hu).1);have HU:=hD hU;have HF:=hD hf;have HH:=hD h;have HL:=hD hl;have HFM:=hD hfm;clear hU hf h hfm hl;refine kZ7 Tryz.func132 rfl 26 (by simp only [Tryz.ntmps132]) (by simp) (fun t hsz hargs=>?_)
 have q0:t[0]?=some (.slice A R.length c):=pZl (by omega) (hargs 0 _ rfl);have q1:t[1]?=some (.func (.func 133) #[] #[]):=pZl (by omega) (hargs 1 _ rfl);clear hargs;obtain ⟨l0,e0⟩:=gE q0;obtain ⟨l1,e1⟩:=gE q1
 refine jZe fun K hK=>?_
 apply wp_region_lit
 repeat (first | go_step)
 refine hK.out _ _ ?_;clear hK K;refine jZy (fun t' W'=>t'.size=26∧t'[0]?=some (.slice A R.length c)∧t'[1]?=some (.func (.func 133) #[] #[])∧w=W') ⟨by simp [hsz],by simp [q0],by simp [q1],rfl⟩ ?_;clear hsz q0 l0 e0 q1 l1 e1 t;rintro t _ ⟨hsz,q0,q1,rfl⟩;have hmk:=hmk0 R.length w hL;clear hmk0;obtain ⟨l0,e0⟩:=gE q0;obtain ⟨l1,e1⟩:=gE q1
 refine jZe fun K hK=>?_
 apply wp_region_lit
 repeat (first | go_step)
 refine hK.out _ _ ?_;clear hK K;refine jZy (fun t' W'=>t'.size=26∧t'[0]?=some (.slice A R.length c)∧t'[1]?=some (.func (.func 133) #[] #[])∧t'[5]?=some (.slice (some ⟨w.heap.size,0,none⟩) R.length R.length)∧RpK 9 W' w.heap.size 41 R.length 0 (R.map U)∧Below w.heap.size w W') ⟨by simp [hsz],by simp [q0],by simp [q1],by simp [hsz],⟨RpK.new _ (HFM.out _),jZd (Below.refl _ _)⟩⟩ ?_
 clear hsz q0 l0 e0 q1 l1 e1 t hmk;rintro t W0 ⟨hsz,q0,q1,q5,hP,hB⟩
 refine jZe fun KE hKE=>?_
 obtain ⟨l0,e0⟩:=gE q0;obtain ⟨l1,e1⟩:=gE q1;obtain ⟨l5,e5⟩:=gE q5
 refine jZe fun K hK=>?_
 apply wp_region_lit
 repeat (first | go_step)
 refine hK.out _ _ ?_;clear hK K;refine jZy (fun t' W'=>t'.size=26∧t'[1]?=some (.func (.func 133) #[] #[])∧t'[5]?=some (.slice (some ⟨w.heap.size,0,none⟩) R.length R.length)∧t'[11]?=some (.slice A R.length c)∧t'[12]?=some (.int .i64 (R.length:Int))∧t'[13]?=some (.int .i64 ((0:Nat):Int))∧W0=W') ⟨by simp [hsz],by simp [q1],by simp [q5],by simp [hsz],by simp [hsz],by simp [hsz],rfl⟩ ?_
 clear hsz q0 l0 e0 q1 l1 e1 q5 l5 e5 t;rintro t _ ⟨hsz,q1,q5,q11,q12,q13,rfl⟩;apply wp_block
 refine wp_loop (fun a W=>∃ (t:Array Value) (k:Nat),a=⟨t,[]⟩∧k≤R.length∧t.size=26∧t[1]?=some (.func (.func 133) #[] #[])∧t[5]?=some (.slice (some ⟨w.heap.size,0,none⟩) R.length R.length)∧t[11]?=some (.slice A R.length c)∧t[12]?=some (.int .i64 (R.length:Int))∧t[13]?=some (.int .i64 (k:Int))∧RpK 9 W w.heap.size 41 R.length k (R.map U)∧Below w.heap.size w W) (fun a _=>R.length-(intOf (a.tmps.getD 13 undef)).toNat) ⟨t,0,rfl,by omega,hsz,q1,q5,q11,q12,q13,hP,hB⟩ ?_
 clear t hsz q1 q5 q11 q12 q13 hP hB W0;rintro a W ⟨t,k,rfl,hk,hsz,q1,q5,q11,q12,q13,hP,hB⟩
 have hmu:intOf (t.getD 13 undef)=(k:Int):=by rw [Array.getD_eq_getD_getElem?,q13];rfl
 dsimp only
 rw [hmu];clear hmu;have HP:=hD hP;have HB:=hD hB;clear hP hB
 by_cases hlt:k<R.length
 ·have hd:decide ((k:Int)<(R.length:Int))=true:=by simpa using hlt
  obtain ⟨l1,e1⟩:=gE q1;obtain ⟨l5,e5⟩:=gE q5;obtain ⟨l11,e11⟩:=gE q11;obtain ⟨l12,e12⟩:=gE q12;obtain ⟨l13,e13⟩:=gE q13
  refine jZe fun K hK=>?_
  apply wp_region_lit
  repeat (first | go_step)
  refine hK.out _ _ ?_;clear hK K
  refine jZy (fun t' W'=>t'.size=26∧t'[1]?=some (.func (.func 133) #[] #[])∧t'[5]?=some (.slice (some ⟨w.heap.size,0,none⟩) R.length R.length)∧t'[11]?=some (.slice A R.length c)∧t'[12]?=some (.int .i64 (R.length:Int))∧t'[13]?=some (.int .i64 (k:Int))∧t'[14]?=some (.bool true)∧W=W') ⟨by simp [hsz],by simp [q1],by simp [q5],by simp [q11],by simp [q12],by simp [q13],by simp [hsz,hd],rfl⟩ ?_
  clear hsz q1 l1 e1 q5 l5 e5 q11 l11 e11 q12 l12 e12 q13 l13 e13 t;rintro t _ ⟨hsz,q1,q5,q11,q12,q13,q14,rfl⟩;clear hd
  refine jZe fun K1 hK1=>?_
  refine wp_cond_true (by simp [Act.eval,q14]) ?_;apply wp_skip;simp only [Exit.then];refine hK1.out _ _ ?_;clear hK1 K1 q14
  refine jZe fun KB hKB=>?_
  apply wp_block;have hget:R[k]?=some R[k]:=List.getElem?_eq_getElem hlt;obtain ⟨b,off,rfl,hb,hps⟩:=(HH.out.keep HB.out) (by omega);have hc:=hps k _ hget;have hll:=HL.out _ (List.mem_of_getElem? hget);obtain ⟨hlv,hov⟩:=hll;have hUv:=HU.out _ (List.mem_of_getElem? hget);obtain ⟨hul,huo⟩:=hUv;have hfv:=HF.out _ (List.mem_of_getElem? hget)
  have hmv:(R.map U)[k]?=some (U R[k]):=by rw [List.getElem?_map,hget];rfl
  obtain ⟨x,hx⟩:∃ x,R[k]=x:=⟨_,rfl⟩
  rw [hx] at hc hlv hov hul huo hfv hmv;have HC:=hD hc;have HLV:=hD hlv;have HOV:=hD hov;have HUL:=hD hul;have HUO:=hD huo;have HFV:=hD hfv;have HMV:=hD hmv;clear hget hps hc hlv hov hul huo hfv hmv hx
  have hd1:(k:Int)<(R.length:Int):=by omega
  obtain ⟨l1,e1⟩:=gE q1;obtain ⟨l5,e5⟩:=gE q5;obtain ⟨l11,e11⟩:=gE q11;obtain ⟨l12,e12⟩:=gE q12;obtain ⟨l13,e13⟩:=gE q13
  refine jZe fun K hK=>?_
  apply wp_region_lit
  repeat (first|((with_reducible show wpList _ _ _ _ _ _);refine ldK 112 _ x b (off+k*37) rfl rfl HC.out Tryz.underlying112 rfl (by rw [HLV.out];exact kZv) (by simp [Act.eval,hsz]) ?_)|((with_reducible show wpList _ _ _ _ _ _);refine sZa 112 37 rfl rfl rZv (fun z hz=>?_))|((with_reducible show wpList _ _ _ _ _ _);refine stK 112 (.tmp 7) _ x W.heap.size 0 rfl rfl (pZb (newS _ _) (by rw [HLV.out,hz];omega)) (by rw [HLV.out];exact kZv) HOV.out (by simp [Act.eval,hsz]) (by simp [Act.eval,hsz]) ?_) | go_step)
  refine hK.out _ _ ?_;clear hK K
  refine jZy (fun t' W'=>t'.size=26∧t'[1]?=some (.func (.func 133) #[] #[])∧t'[5]?=some (.slice (some ⟨w.heap.size,0,none⟩) R.length R.length)∧t'[6]?=some (.int .i64 (k:Int))∧t'[7]?=some (.pointer (some ⟨W.heap.size,0,none⟩))∧t'[11]?=some (.slice (some ⟨b,off,none⟩) R.length c)∧t'[12]?=some (.int .i64 (R.length:Int))∧t'[13]?=some (.int .i64 (k:Int))∧W'.rangeAt W.heap.size 0 x∧Below W.heap.size W W') ⟨by simp [hsz],by simp [q1],by simp [q5],by simp [hsz],by simp [hsz],by simp [q11],by simp [q12],by simp [q13],⟨World.rangeAt_setCells_same _ _ _ _ (pZb (newS _ _) (by rw [HLV.out,hz];omega)),jZi (Nat.le_refl _) _ _ _ (jZd (Below.refl _ _))⟩⟩ ?_
  clear hsz q1 l1 e1 q5 l5 e5 q11 l11 e11 q12 l12 e12 q13 l13 e13 t hd1 z hz;rintro t W1 ⟨hsz,q1,q5,q6,q7,q11,q12,q13,hx1,hb1⟩;have HX1:=hD hx1;have hwg:=HP.out.lt;replace HP:=hD (HP.out.keep hb1);replace HB:=hD (jZa HB.out hb1);clear hx1 hb1 HC
  have hd1:(k:Int)<(R.length:Int):=by omega
  obtain ⟨l1,e1⟩:=gE q1;obtain ⟨l5,e5⟩:=gE q5;obtain ⟨l6,e6⟩:=gE q6;obtain ⟨l7,e7⟩:=gE q7;obtain ⟨l11,e11⟩:=gE q11;obtain ⟨l12,e12⟩:=gE q12;obtain ⟨l13,e13⟩:=gE q13;apply wp_region_lit
  repeat (first|((with_reducible show wpList _ _ _ _ _ _);refine ldK 112 _ x W.heap.size 0 rfl rfl HX1.out Tryz.underlying112 rfl (by rw [HLV.out];exact kZv) (by simp [Act.eval,hsz,e7]) ?_) | go_step)
  refine (HFV.out _ HB.out).mono ?_;rintro e W2 ⟨rfl,hb2⟩
  dsimp only
  have hth:W2.there w.heap.size (k*9) (U x).length:=by rw [HUL.out];exact (HP.out.keep hb2).there hlt
  repeat (first|((with_reducible show wpList _ _ _ _ _ _);refine stK 41 _ _ (U x) w.heap.size (k*9) rfl rfl hth (by rw [HUL.out];exact rZm) HUO.out (by simp [Act.eval,hsz,hd1]) (by simp [Act.eval,hsz]) ?_) | go_step)
  try simp only [Exit.inBlock]
  refine hKB.out _ _ ?_;clear hKB KB
  refine jZy (fun t' W'=>t'.size=26∧t'[1]?=some (.func (.func 133) #[] #[])∧t'[5]?=some (.slice (some ⟨w.heap.size,0,none⟩) R.length R.length)∧t'[11]?=some (.slice (some ⟨b,off,none⟩) R.length c)∧t'[12]?=some (.int .i64 (R.length:Int))∧t'[13]?=some (.int .i64 (k:Int))∧RpK 9 W' w.heap.size 41 R.length (k+1) (R.map U)∧Below w.heap.size w W') ⟨by simp [hsz],by simp [q1],by simp [q5],by simp [q11],by simp [q12],by simp [q13],⟨(HP.out.keep hb2).step HR.out HMV.out hlt,jZi (Nat.le_refl _) _ _ _ (jZa HB.out hb2)⟩⟩ ?_
  clear hsz q1 l1 e1 q5 l5 e5 q6 l6 e6 q7 l7 e7 q11 l11 e11 q12 l12 e12 q13 l13 e13 t hth hb2 HP HB hd1;rintro t W3 ⟨hsz,q1,q5,q11,q12,q13,hP,hB⟩;obtain ⟨l1,e1⟩:=gE q1;obtain ⟨l5,e5⟩:=gE q5;obtain ⟨l11,e11⟩:=gE q11;obtain ⟨l12,e12⟩:=gE q12;obtain ⟨l13,e13⟩:=gE q13;apply wp_region_lit
  repeat go_step
  try simp only [Exit.then]
  refine ⟨⟨_,k+1,rfl,by omega,by simp [hsz],by simp [q1],by simp [q5],by simp [q11],by simp [q12],by simp [hsz],hP,hB⟩,?_⟩
  ·simp [hsz,intOf]
   omega
 ·have hd:decide ((k:Int)<(R.length:Int))=false:=decide_eq_false (by omega);obtain ⟨l1,e1⟩:=gE q1;obtain ⟨l5,e5⟩:=gE q5;obtain ⟨l11,e11⟩:=gE q11;obtain ⟨l12,e12⟩:=gE q12;obtain ⟨l13,e13⟩:=gE q13
  refine jZe fun K hK=>?_
  apply wp_region_lit
  repeat (first | go_step)
  refine hK.out _ _ ?_;clear hK K
  refine jZy (fun t' W'=>t'.size=26∧t'[1]?=some (.func (.func 133) #[] #[])∧t'[5]?=some (.slice (some ⟨w.heap.size,0,none⟩) R.length R.length)∧t'[11]?=some (.slice A R.length c)∧t'[12]?=some (.int .i64 (R.length:Int))∧t'[13]?=some (.int .i64 (k:Int))∧t'[14]?=some (.bool false)∧W=W') ⟨by simp [hsz],by simp [q1],by simp [q5],by simp [q11],by simp [q12],by simp [q13],by simp [hsz,hd],rfl⟩ ?_
  clear hsz q1 l1 e1 q5 l5 e5 q11 l11 e11 q12 l12 e12 q13 l13 e13 t;rintro t _ ⟨hsz,q1,q5,q11,q12,q13,q14,rfl⟩
  refine jZe fun K1 hK1=>?_
  refine wp_cond_false (by simp [Act.eval,q14]) ?_;apply wp_exit;simp only [Exit.then,Exit.inBlock,if_true];refine hKE.out _ _ ?_;clear hd;obtain ⟨l1,e1⟩:=gE q1;obtain ⟨l5,e5⟩:=gE q5;obtain ⟨l11,e11⟩:=gE q11;obtain ⟨l12,e12⟩:=gE q12;obtain ⟨l13,e13⟩:=gE q13;obtain ⟨l14,e14⟩:=gE q14
  repeat go_step
  refine bodyPost_ret (results_tmp rfl _ _ _) rfl ?_;exact ⟨by simp [hsz],HP.out.whole (by simp) (by omega),HB.out⟩
theorem each_wp (A:Option Addr) (c:Nat) (R:List (List Value)) (U:List Value→List Value) (w:World) (h:RvK 37 w A R) (hl:∀ vs∈R,vs.length=37∧one vs) (hL:R.length≤1048576) (hU:∀ vs∈R,(U vs).length=9∧one (U vs))
  (hf:∀ vs∈R,∀ W,Below w.heap.size w W→Calls Tryz.prog 135 #[.agg vs.toArray] W fun e W'=>e=.returned (.agg (U vs).toArray)∧Below W.heap.size W W') :
  Calls Tryz.prog 134 #[.slice A R.length c,.func (.func 135) #[] #[]] w fun e w'=>e=.returned (.slice (some ⟨w.heap.size,0,none⟩) R.length R.length)∧RbK 9 w' w.heap.size 37 (R.map U)∧Below w.heap.size w w':=by
 obtain ⟨fm,hfm,hmk0⟩:=made_Pack;have HR:=hD (show ∀ vs∈R.map U,vs.length=9 from fun vs hv=>by obtain ⟨us,hu,rfl⟩:=List.mem_map.1 hv;exact (hU us hu).1);have HU:=hD hU;have HF:=hD hf;have HH:=hD h;have HL:=hD hl;have HFM:=hD hfm;clear hU hf h hfm hl;refine kZ7 Tryz.func134 rfl 26 (by simp only [Tryz.ntmps134]) (by simp) (fun t hsz hargs=>?_)
 have q0:t[0]?=some (.slice A R.length c):=pZl (by omega) (hargs 0 _ rfl);have q1:t[1]?=some (.func (.func 135) #[] #[]):=pZl (by omega) (hargs 1 _ rfl);clear hargs;obtain ⟨l0,e0⟩:=gE q0;obtain ⟨l1,e1⟩:=gE q1
 refine jZe fun K hK=>?_
 apply wp_region_lit
 repeat (first | go_step)
 refine hK.out _ _ ?_;clear hK K;refine jZy (fun t' W'=>t'.size=26∧t'[0]?=some (.slice A R.length c)∧t'[1]?=some (.func (.func 135) #[] #[])∧w=W') ⟨by simp [hsz],by simp [q0],by simp [q1],rfl⟩ ?_;clear hsz q0 l0 e0 q1 l1 e1 t;rintro t _ ⟨hsz,q0,q1,rfl⟩;have hmk:=hmk0 R.length w hL;clear hmk0;obtain ⟨l0,e0⟩:=gE q0;obtain ⟨l1,e1⟩:=gE q1
 refine jZe fun K hK=>?_
 apply wp_region_lit
 repeat (first | go_step)
 refine hK.out _ _ ?_;clear hK K;refine jZy (fun t' W'=>t'.size=26∧t'[0]?=some (.slice A R.length c)∧t'[1]?=some (.func (.func 135) #[] #[])∧t'[5]?=some (.slice (some ⟨w.heap.size,0,none⟩) R.length R.length)∧RpK 9 W' w.heap.size 37 R.length 0 (R.map U)∧Below w.heap.size w W') ⟨by simp [hsz],by simp [q0],by simp [q1],by simp [hsz],⟨RpK.new _ (HFM.out _),jZd (Below.refl _ _)⟩⟩ ?_
 clear hsz q0 l0 e0 q1 l1 e1 t hmk;rintro t W0 ⟨hsz,q0,q1,q5,hP,hB⟩
 refine jZe fun KE hKE=>?_
 obtain ⟨l0,e0⟩:=gE q0;obtain ⟨l1,e1⟩:=gE q1;obtain ⟨l5,e5⟩:=gE q5
 refine jZe fun K hK=>?_
 apply wp_region_lit
 repeat (first | go_step)
 refine hK.out _ _ ?_;clear hK K;refine jZy (fun t' W'=>t'.size=26∧t'[1]?=some (.func (.func 135) #[] #[])∧t'[5]?=some (.slice (some ⟨w.heap.size,0,none⟩) R.length R.length)∧t'[11]?=some (.slice A R.length c)∧t'[12]?=some (.int .i64 (R.length:Int))∧t'[13]?=some (.int .i64 ((0:Nat):Int))∧W0=W') ⟨by simp [hsz],by simp [q1],by simp [q5],by simp [hsz],by simp [hsz],by simp [hsz],rfl⟩ ?_
 clear hsz q0 l0 e0 q1 l1 e1 q5 l5 e5 t;rintro t _ ⟨hsz,q1,q5,q11,q12,q13,rfl⟩;apply wp_block
 refine wp_loop (fun a W=>∃ (t:Array Value) (k:Nat),a=⟨t,[]⟩∧k≤R.length∧t.size=26∧t[1]?=some (.func (.func 135) #[] #[])∧t[5]?=some (.slice (some ⟨w.heap.size,0,none⟩) R.length R.length)∧t[11]?=some (.slice A R.length c)∧t[12]?=some (.int .i64 (R.length:Int))∧t[13]?=some (.int .i64 (k:Int))∧RpK 9 W w.heap.size 37 R.length k (R.map U)∧Below w.heap.size w W) (fun a _=>R.length-(intOf (a.tmps.getD 13 undef)).toNat) ⟨t,0,rfl,by omega,hsz,q1,q5,q11,q12,q13,hP,hB⟩ ?_
 clear t hsz q1 q5 q11 q12 q13 hP hB W0;rintro a W ⟨t,k,rfl,hk,hsz,q1,q5,q11,q12,q13,hP,hB⟩
 have hmu:intOf (t.getD 13 undef)=(k:Int):=by rw [Array.getD_eq_getD_getElem?,q13];rfl
 dsimp only
 rw [hmu];clear hmu;have HP:=hD hP;have HB:=hD hB;clear hP hB
 by_cases hlt:k<R.length
 ·have hd:decide ((k:Int)<(R.length:Int))=true:=by simpa using hlt
  obtain ⟨l1,e1⟩:=gE q1;obtain ⟨l5,e5⟩:=gE q5;obtain ⟨l11,e11⟩:=gE q11;obtain ⟨l12,e12⟩:=gE q12;obtain ⟨l13,e13⟩:=gE q13
  refine jZe fun K hK=>?_
  apply wp_region_lit
  repeat (first | go_step)
  refine hK.out _ _ ?_;clear hK K
  refine jZy (fun t' W'=>t'.size=26∧t'[1]?=some (.func (.func 135) #[] #[])∧t'[5]?=some (.slice (some ⟨w.heap.size,0,none⟩) R.length R.length)∧t'[11]?=some (.slice A R.length c)∧t'[12]?=some (.int .i64 (R.length:Int))∧t'[13]?=some (.int .i64 (k:Int))∧t'[14]?=some (.bool true)∧W=W') ⟨by simp [hsz],by simp [q1],by simp [q5],by simp [q11],by simp [q12],by simp [q13],by simp [hsz,hd],rfl⟩ ?_
  clear hsz q1 l1 e1 q5 l5 e5 q11 l11 e11 q12 l12 e12 q13 l13 e13 t;rintro t _ ⟨hsz,q1,q5,q11,q12,q13,q14,rfl⟩;clear hd
  refine jZe fun K1 hK1=>?_
  refine wp_cond_true (by simp [Act.eval,q14]) ?_;apply wp_skip;simp only [Exit.then];refine hK1.out _ _ ?_;clear hK1 K1 q14
  refine jZe fun KB hKB=>?_
  apply wp_block;have hget:R[k]?=some R[k]:=List.getElem?_eq_getElem hlt;obtain ⟨b,off,rfl,hb,hps⟩:=(HH.out.keep HB.out) (by omega);have hc:=hps k _ hget;have hll:=HL.out _ (List.mem_of_getElem? hget);obtain ⟨hlv,hov⟩:=hll;have hUv:=HU.out _ (List.mem_of_getElem? hget);obtain ⟨hul,huo⟩:=hUv;have hfv:=HF.out _ (List.mem_of_getElem? hget)
  have hmv:(R.map U)[k]?=some (U R[k]):=by rw [List.getElem?_map,hget];rfl
  obtain ⟨x,hx⟩:∃ x,R[k]=x:=⟨_,rfl⟩
  rw [hx] at hc hlv hov hul huo hfv hmv;have HC:=hD hc;have HLV:=hD hlv;have HOV:=hD hov;have HUL:=hD hul;have HUO:=hD huo;have HFV:=hD hfv;have HMV:=hD hmv;clear hget hps hc hlv hov hul huo hfv hmv hx
  have hd1:(k:Int)<(R.length:Int):=by omega
  obtain ⟨l1,e1⟩:=gE q1;obtain ⟨l5,e5⟩:=gE q5;obtain ⟨l11,e11⟩:=gE q11;obtain ⟨l12,e12⟩:=gE q12;obtain ⟨l13,e13⟩:=gE q13
  refine jZe fun K hK=>?_
  apply wp_region_lit
  repeat (first|((with_reducible show wpList _ _ _ _ _ _);refine ldK 112 _ x b (off+k*37) rfl rfl HC.out Tryz.underlying112 rfl (by rw [HLV.out];exact kZv) (by simp [Act.eval,hsz]) ?_)|((with_reducible show wpList _ _ _ _ _ _);refine sZa 112 37 rfl rfl rZv (fun z hz=>?_))|((with_reducible show wpList _ _ _ _ _ _);refine stK 112 (.tmp 7) _ x W.heap.size 0 rfl rfl (pZb (newS _ _) (by rw [HLV.out,hz];omega)) (by rw [HLV.out];exact kZv) HOV.out (by simp [Act.eval,hsz]) (by simp [Act.eval,hsz]) ?_) | go_step)
  refine hK.out _ _ ?_;clear hK K
  refine jZy (fun t' W'=>t'.size=26∧t'[1]?=some (.func (.func 135) #[] #[])∧t'[5]?=some (.slice (some ⟨w.heap.size,0,none⟩) R.length R.length)∧t'[6]?=some (.int .i64 (k:Int))∧t'[7]?=some (.pointer (some ⟨W.heap.size,0,none⟩))∧t'[11]?=some (.slice (some ⟨b,off,none⟩) R.length c)∧t'[12]?=some (.int .i64 (R.length:Int))∧t'[13]?=some (.int .i64 (k:Int))∧W'.rangeAt W.heap.size 0 x∧Below W.heap.size W W') ⟨by simp [hsz],by simp [q1],by simp [q5],by simp [hsz],by simp [hsz],by simp [q11],by simp [q12],by simp [q13],⟨World.rangeAt_setCells_same _ _ _ _ (pZb (newS _ _) (by rw [HLV.out,hz];omega)),jZi (Nat.le_refl _) _ _ _ (jZd (Below.refl _ _))⟩⟩ ?_
  clear hsz q1 l1 e1 q5 l5 e5 q11 l11 e11 q12 l12 e12 q13 l13 e13 t hd1 z hz;rintro t W1 ⟨hsz,q1,q5,q6,q7,q11,q12,q13,hx1,hb1⟩;have HX1:=hD hx1;have hwg:=HP.out.lt;replace HP:=hD (HP.out.keep hb1);replace HB:=hD (jZa HB.out hb1);clear hx1 hb1 HC
  have hd1:(k:Int)<(R.length:Int):=by omega
  obtain ⟨l1,e1⟩:=gE q1;obtain ⟨l5,e5⟩:=gE q5;obtain ⟨l6,e6⟩:=gE q6;obtain ⟨l7,e7⟩:=gE q7;obtain ⟨l11,e11⟩:=gE q11;obtain ⟨l12,e12⟩:=gE q12;obtain ⟨l13,e13⟩:=gE q13;apply wp_region_lit
  repeat (first|((with_reducible show wpList _ _ _ _ _ _);refine ldK 112 _ x W.heap.size 0 rfl rfl HX1.out Tryz.underlying112 rfl (by rw [HLV.out];exact kZv) (by simp [Act.eval,hsz,e7]) ?_) | go_step)
  refine (HFV.out _ HB.out).mono ?_;rintro e W2 ⟨rfl,hb2⟩
  dsimp only
  have hth:W2.there w.heap.size (k*9) (U x).length:=by rw [HUL.out];exact (HP.out.keep hb2).there hlt
  repeat (first|((with_reducible show wpList _ _ _ _ _ _);refine stK 37 _ _ (U x) w.heap.size (k*9) rfl rfl hth (by rw [HUL.out];exact sZf) HUO.out (by simp [Act.eval,hsz,hd1]) (by simp [Act.eval,hsz]) ?_) | go_step)
  try simp only [Exit.inBlock]
  refine hKB.out _ _ ?_;clear hKB KB
  refine jZy (fun t' W'=>t'.size=26∧t'[1]?=some (.func (.func 135) #[] #[])∧t'[5]?=some (.slice (some ⟨w.heap.size,0,none⟩) R.length R.length)∧t'[11]?=some (.slice (some ⟨b,off,none⟩) R.length c)∧t'[12]?=some (.int .i64 (R.length:Int))∧t'[13]?=some (.int .i64 (k:Int))∧RpK 9 W' w.heap.size 37 R.length (k+1) (R.map U)∧Below w.heap.size w W') ⟨by simp [hsz],by simp [q1],by simp [q5],by simp [q11],by simp [q12],by simp [q13],⟨(HP.out.keep hb2).step HR.out HMV.out hlt,jZi (Nat.le_refl _) _ _ _ (jZa HB.out hb2)⟩⟩ ?_
  clear hsz q1 l1 e1 q5 l5 e5 q6 l6 e6 q7 l7 e7 q11 l11 e11 q12 l12 e12 q13 l13 e13 t hth hb2 HP HB hd1;rintro t W3 ⟨hsz,q1,q5,q11,q12,q13,hP,hB⟩;obtain ⟨l1,e1⟩:=gE q1;obtain ⟨l5,e5⟩:=gE q5;obtain ⟨l11,e11⟩:=gE q11;obtain ⟨l12,e12⟩:=gE q12;obtain ⟨l13,e13⟩:=gE q13;apply wp_region_lit
  repeat go_step
  try simp only [Exit.then]
  refine ⟨⟨_,k+1,rfl,by omega,by simp [hsz],by simp [q1],by simp [q5],by simp [q11],by simp [q12],by simp [hsz],hP,hB⟩,?_⟩
  ·simp [hsz,intOf]
   omega
 ·have hd:decide ((k:Int)<(R.length:Int))=false:=decide_eq_false (by omega);obtain ⟨l1,e1⟩:=gE q1;obtain ⟨l5,e5⟩:=gE q5;obtain ⟨l11,e11⟩:=gE q11;obtain ⟨l12,e12⟩:=gE q12;obtain ⟨l13,e13⟩:=gE q13
  refine jZe fun K hK=>?_
  apply wp_region_lit
  repeat (first | go_step)
  refine hK.out _ _ ?_;clear hK K
  refine jZy (fun t' W'=>t'.size=26∧t'[1]?=some (.func (.func 135) #[] #[])∧t'[5]?=some (.slice (some ⟨w.heap.size,0,none⟩) R.length R.length)∧t'[11]?=some (.slice A R.length c)∧t'[12]?=some (.int .i64 (R.length:Int))∧t'[13]?=some (.int .i64 (k:Int))∧t'[14]?=some (.bool false)∧W=W') ⟨by simp [hsz],by simp [q1],by simp [q5],by simp [q11],by simp [q12],by simp [q13],by simp [hsz,hd],rfl⟩ ?_
  clear hsz q1 l1 e1 q5 l5 e5 q11 l11 e11 q12 l12 e12 q13 l13 e13 t;rintro t _ ⟨hsz,q1,q5,q11,q12,q13,q14,rfl⟩
  refine jZe fun K1 hK1=>?_
  refine wp_cond_false (by simp [Act.eval,q14]) ?_;apply wp_exit;simp only [Exit.then,Exit.inBlock,if_true];refine hKE.out _ _ ?_;clear hd;obtain ⟨l1,e1⟩:=gE q1;obtain ⟨l5,e5⟩:=gE q5;obtain ⟨l11,e11⟩:=gE q11;obtain ⟨l12,e12⟩:=gE q12;obtain ⟨l13,e13⟩:=gE q13;obtain ⟨l14,e14⟩:=gE q14
  repeat go_step
  refine bodyPost_ret (results_tmp rfl _ _ _) rfl ?_;exact ⟨by simp [hsz],HP.out.whole (by simp) (by omega),HB.out⟩

theorem each_iw (A:Option Addr) (c:Nat) (R:List Int) (U:Int→List Value) (caps:Array Value) (w:World) (h:NV w A R) (hL:R.length≤1048576) (hU:∀ x∈R,(U x).length=37∧one (U x))
  (hf:∀ x∈R,∀ W,Below w.heap.size w W→Calls Tryz.prog 129 (#[.int .i64 x] ++ caps) W fun e W'=>e=.returned (.agg (U x).toArray)∧Below W.heap.size W W') :
  Calls Tryz.prog 128 #[.slice A R.length c,.func (.func 129) #[] caps] w fun e w'=>e=.returned (.slice (some ⟨w.heap.size,0,none⟩) R.length R.length)∧RbK 37 w' w.heap.size 112 (R.map U)∧Below w.heap.size w w':=by
 obtain ⟨fm,hfm,hmk0⟩:=gZ8;have HR:=hD (show ∀ vs∈R.map U,vs.length=37 from fun vs hv=>by obtain ⟨us,hu,rfl⟩:=List.mem_map.1 hv;exact (hU us hu).1);have HU:=hD hU;have HF:=hD hf;have HH:=hD h;have HFM:=hD hfm;clear hU hf h hfm;refine kZ7 Tryz.func128 rfl 26 (by simp only [Tryz.ntmps128]) (by simp) (fun t hsz hargs=>?_)
 have q0:t[0]?=some (.slice A R.length c):=pZl (by omega) (hargs 0 _ rfl);have q1:t[1]?=some (.func (.func 129) #[] caps):=pZl (by omega) (hargs 1 _ rfl);clear hargs;obtain ⟨l0,e0⟩:=gE q0;obtain ⟨l1,e1⟩:=gE q1
 refine jZe fun K hK=>?_
 apply wp_region_lit
 repeat (first | go_step)
 refine hK.out _ _ ?_;clear hK K;refine jZy (fun t' W'=>t'.size=26∧t'[0]?=some (.slice A R.length c)∧t'[1]?=some (.func (.func 129) #[] caps)∧w=W') ⟨by simp [hsz],by simp [q0],by simp [q1],rfl⟩ ?_;clear hsz q0 l0 e0 q1 l1 e1 t;rintro t _ ⟨hsz,q0,q1,rfl⟩;have hmk:=hmk0 R.length w hL;clear hmk0;obtain ⟨l0,e0⟩:=gE q0;obtain ⟨l1,e1⟩:=gE q1
 refine jZe fun K hK=>?_
 apply wp_region_lit
 repeat (first | go_step)
 refine hK.out _ _ ?_;clear hK K;refine jZy (fun t' W'=>t'.size=26∧t'[0]?=some (.slice A R.length c)∧t'[1]?=some (.func (.func 129) #[] caps)∧t'[5]?=some (.slice (some ⟨w.heap.size,0,none⟩) R.length R.length)∧RpK 37 W' w.heap.size 112 R.length 0 (R.map U)∧Below w.heap.size w W') ⟨by simp [hsz],by simp [q0],by simp [q1],by simp [hsz],⟨RpK.new _ (HFM.out _),jZd (Below.refl _ _)⟩⟩ ?_
 clear hsz q0 l0 e0 q1 l1 e1 t hmk;rintro t W0 ⟨hsz,q0,q1,q5,hP,hB⟩
 refine jZe fun KE hKE=>?_
 obtain ⟨l0,e0⟩:=gE q0;obtain ⟨l1,e1⟩:=gE q1;obtain ⟨l5,e5⟩:=gE q5
 refine jZe fun K hK=>?_
 apply wp_region_lit
 repeat (first | go_step)
 refine hK.out _ _ ?_;clear hK K;refine jZy (fun t' W'=>t'.size=26∧t'[1]?=some (.func (.func 129) #[] caps)∧t'[5]?=some (.slice (some ⟨w.heap.size,0,none⟩) R.length R.length)∧t'[11]?=some (.slice A R.length c)∧t'[12]?=some (.int .i64 (R.length:Int))∧t'[13]?=some (.int .i64 ((0:Nat):Int))∧W0=W') ⟨by simp [hsz],by simp [q1],by simp [q5],by simp [hsz],by simp [hsz],by simp [hsz],rfl⟩ ?_
 clear hsz q0 l0 e0 q1 l1 e1 q5 l5 e5 t;rintro t _ ⟨hsz,q1,q5,q11,q12,q13,rfl⟩;apply wp_block
 refine wp_loop (fun a W=>∃ (t:Array Value) (k:Nat),a=⟨t,[]⟩∧k≤R.length∧t.size=26∧t[1]?=some (.func (.func 129) #[] caps)∧t[5]?=some (.slice (some ⟨w.heap.size,0,none⟩) R.length R.length)∧t[11]?=some (.slice A R.length c)∧t[12]?=some (.int .i64 (R.length:Int))∧t[13]?=some (.int .i64 (k:Int))∧RpK 37 W w.heap.size 112 R.length k (R.map U)∧Below w.heap.size w W) (fun a _=>R.length-(intOf (a.tmps.getD 13 undef)).toNat) ⟨t,0,rfl,by omega,hsz,q1,q5,q11,q12,q13,hP,hB⟩ ?_
 clear t hsz q1 q5 q11 q12 q13 hP hB W0;rintro a W ⟨t,k,rfl,hk,hsz,q1,q5,q11,q12,q13,hP,hB⟩
 have hmu:intOf (t.getD 13 undef)=(k:Int):=by rw [Array.getD_eq_getD_getElem?,q13];rfl
 dsimp only
 rw [hmu];clear hmu;have HP:=hD hP;have HB:=hD hB;clear hP hB
 by_cases hlt:k<R.length
 ·have hd:decide ((k:Int)<(R.length:Int))=true:=by simpa using hlt
  obtain ⟨l1,e1⟩:=gE q1;obtain ⟨l5,e5⟩:=gE q5;obtain ⟨l11,e11⟩:=gE q11;obtain ⟨l12,e12⟩:=gE q12;obtain ⟨l13,e13⟩:=gE q13
  refine jZe fun K hK=>?_
  apply wp_region_lit
  repeat (first | go_step)
  refine hK.out _ _ ?_;clear hK K
  refine jZy (fun t' W'=>t'.size=26∧t'[1]?=some (.func (.func 129) #[] caps)∧t'[5]?=some (.slice (some ⟨w.heap.size,0,none⟩) R.length R.length)∧t'[11]?=some (.slice A R.length c)∧t'[12]?=some (.int .i64 (R.length:Int))∧t'[13]?=some (.int .i64 (k:Int))∧t'[14]?=some (.bool true)∧W=W') ⟨by simp [hsz],by simp [q1],by simp [q5],by simp [q11],by simp [q12],by simp [q13],by simp [hsz,hd],rfl⟩ ?_
  clear hsz q1 l1 e1 q5 l5 e5 q11 l11 e11 q12 l12 e12 q13 l13 e13 t;rintro t _ ⟨hsz,q1,q5,q11,q12,q13,q14,rfl⟩;clear hd
  refine jZe fun K1 hK1=>?_
  refine wp_cond_true (by simp [Act.eval,q14]) ?_;apply wp_skip;simp only [Exit.then];refine hK1.out _ _ ?_;clear hK1 K1 q14
  refine jZe fun KB hKB=>?_
  apply wp_block;have hget:R[k]?=some R[k]:=List.getElem?_eq_getElem hlt;obtain ⟨b,off,rfl,hb,hps⟩:=(HH.out.keep HB.out).cells (by omega);have hc:=hps k _ hget;have hUv:=HU.out _ (List.mem_of_getElem? hget);obtain ⟨hul,huo⟩:=hUv;have hfv:=HF.out _ (List.mem_of_getElem? hget)
  have hmv:(R.map U)[k]?=some (U R[k]):=by rw [List.getElem?_map,hget];rfl
  obtain ⟨x,hx⟩:∃ x,R[k]=x:=⟨_,rfl⟩
  rw [hx] at hc hul huo hfv hmv;have HUL:=hD hul;have HUO:=hD huo;have HFV:=hD hfv;have HMV:=hD hmv;clear hget hps hul huo hfv hmv hx
  have hd1:(k:Int)<(R.length:Int):=by omega
  obtain ⟨l1,e1⟩:=gE q1;obtain ⟨l5,e5⟩:=gE q5;obtain ⟨l11,e11⟩:=gE q11;obtain ⟨l12,e12⟩:=gE q12;obtain ⟨l13,e13⟩:=gE q13
  refine jZe fun K hK=>?_
  apply wp_region_lit
  repeat (first | go_step)
  refine hK.out _ _ ?_;clear hK K
  refine jZy (fun t' W'=>t'.size=26∧t'[1]?=some (.func (.func 129) #[] caps)∧t'[5]?=some (.slice (some ⟨w.heap.size,0,none⟩) R.length R.length)∧t'[6]?=some (.int .i64 (k:Int))∧t'[7]?=some (.int .i64 x)∧t'[11]?=some (.slice (some ⟨b,off,none⟩) R.length c)∧t'[12]?=some (.int .i64 (R.length:Int))∧t'[13]?=some (.int .i64 (k:Int))∧W=W') ⟨by simp [hsz],by simp [q1],by simp [q5],by simp [hsz],by simp [hsz],by simp [q11],by simp [q12],by simp [q13],rfl⟩ ?_
  clear hsz q1 l1 e1 q5 l5 e5 q11 l11 e11 q12 l12 e12 q13 l13 e13 t hd1 hc;rintro t _ ⟨hsz,q1,q5,q6,q7,q11,q12,q13,rfl⟩
  have hd1:(k:Int)<(R.length:Int):=by omega
  have hwg:=HP.out.lt;obtain ⟨l1,e1⟩:=gE q1;obtain ⟨l5,e5⟩:=gE q5;obtain ⟨l6,e6⟩:=gE q6;obtain ⟨l7,e7⟩:=gE q7;obtain ⟨l11,e11⟩:=gE q11;obtain ⟨l12,e12⟩:=gE q12;obtain ⟨l13,e13⟩:=gE q13;apply wp_region_lit
  repeat (first | go_step)
  refine (HFV.out _ HB.out).mono ?_;rintro e W2 ⟨rfl,hb2⟩
  dsimp only
  have hth:W2.there w.heap.size (k*37) (U x).length:=by rw [HUL.out];exact (HP.out.keep hb2).there hlt
  repeat (first|((with_reducible show wpList _ _ _ _ _ _);refine stK 112 _ _ (U x) w.heap.size (k*37) rfl rfl hth (by rw [HUL.out];exact kZv) HUO.out (by simp [Act.eval,hsz,hd1]) (by simp [Act.eval,hsz]) ?_) | go_step)
  try simp only [Exit.inBlock]
  refine hKB.out _ _ ?_;clear hKB KB
  refine jZy (fun t' W'=>t'.size=26∧t'[1]?=some (.func (.func 129) #[] caps)∧t'[5]?=some (.slice (some ⟨w.heap.size,0,none⟩) R.length R.length)∧t'[11]?=some (.slice (some ⟨b,off,none⟩) R.length c)∧t'[12]?=some (.int .i64 (R.length:Int))∧t'[13]?=some (.int .i64 (k:Int))∧RpK 37 W' w.heap.size 112 R.length (k+1) (R.map U)∧Below w.heap.size w W') ⟨by simp [hsz],by simp [q1],by simp [q5],by simp [q11],by simp [q12],by simp [q13],⟨(HP.out.keep hb2).step HR.out HMV.out hlt,jZi (Nat.le_refl _) _ _ _ (jZa HB.out hb2)⟩⟩ ?_
  clear hsz q1 l1 e1 q5 l5 e5 q6 l6 e6 q7 l7 e7 q11 l11 e11 q12 l12 e12 q13 l13 e13 t hth hb2 HP HB hd1;rintro t W3 ⟨hsz,q1,q5,q11,q12,q13,hP,hB⟩;obtain ⟨l1,e1⟩:=gE q1;obtain ⟨l5,e5⟩:=gE q5;obtain ⟨l11,e11⟩:=gE q11;obtain ⟨l12,e12⟩:=gE q12;obtain ⟨l13,e13⟩:=gE q13;apply wp_region_lit
  repeat go_step
  try simp only [Exit.then]
  refine ⟨⟨_,k+1,rfl,by omega,by simp [hsz],by simp [q1],by simp [q5],by simp [q11],by simp [q12],by simp [hsz],hP,hB⟩,?_⟩
  ·simp [hsz,intOf]
   omega
 ·have hd:decide ((k:Int)<(R.length:Int))=false:=decide_eq_false (by omega);obtain ⟨l1,e1⟩:=gE q1;obtain ⟨l5,e5⟩:=gE q5;obtain ⟨l11,e11⟩:=gE q11;obtain ⟨l12,e12⟩:=gE q12;obtain ⟨l13,e13⟩:=gE q13
  refine jZe fun K hK=>?_
  apply wp_region_lit
  repeat (first | go_step)
  refine hK.out _ _ ?_;clear hK K
  refine jZy (fun t' W'=>t'.size=26∧t'[1]?=some (.func (.func 129) #[] caps)∧t'[5]?=some (.slice (some ⟨w.heap.size,0,none⟩) R.length R.length)∧t'[11]?=some (.slice A R.length c)∧t'[12]?=some (.int .i64 (R.length:Int))∧t'[13]?=some (.int .i64 (k:Int))∧t'[14]?=some (.bool false)∧W=W') ⟨by simp [hsz],by simp [q1],by simp [q5],by simp [q11],by simp [q12],by simp [q13],by simp [hsz,hd],rfl⟩ ?_
  clear hsz q1 l1 e1 q5 l5 e5 q11 l11 e11 q12 l12 e12 q13 l13 e13 t;rintro t _ ⟨hsz,q1,q5,q11,q12,q13,q14,rfl⟩
  refine jZe fun K1 hK1=>?_
  refine wp_cond_false (by simp [Act.eval,q14]) ?_;apply wp_exit;simp only [Exit.then,Exit.inBlock,if_true];refine hKE.out _ _ ?_;clear hd;obtain ⟨l1,e1⟩:=gE q1;obtain ⟨l5,e5⟩:=gE q5;obtain ⟨l11,e11⟩:=gE q11;obtain ⟨l12,e12⟩:=gE q12;obtain ⟨l13,e13⟩:=gE q13;obtain ⟨l14,e14⟩:=gE q14
  repeat go_step
  refine bodyPost_ret (results_tmp rfl _ _ _) rfl ?_;exact ⟨by simp [hsz],HP.out.whole (by simp) (by omega),HB.out⟩
section
attribute [local go_sem] jZ0 jZ5 jZ2
theorem arr1_v (A:Option Addr) (c:Nat) (X:List Wd) (k bt:Nat) (x:Wd) (w:World) (h:RvK 37 w A (X.map valsWd)) (hx:X[k]?=some x) (ht:w.cell? ⟨bt,0,none⟩=some (.slice A X.length c)) (lt:bt<w.heap.size) (hL:X.length≤1048576) :
  Calls Tryz.prog 129 #[.int .i64 (k:Int),.pointer (some ⟨bt,0,none⟩)] w fun e w'=>e=.returned (.agg (valsWd x).toArray)∧Below w.heap.size w w':=by
 have hk:k<X.length:=(List.getElem?_eq_some_iff.1 hx).1;obtain ⟨b,off,rfl,hb,hp⟩:=h (by simp;omega);have hc:=hp k (valsWd x) (by rw [List.getElem?_map,hx];rfl);clear hp h
 have hd1:(k:Int)<(X.length:Int):=by omega
 refine kZ7 Tryz.func129 rfl 8 (by simp only [Tryz.ntmps129]) (by simp) (fun t hsz hargs=>?_);have q0:t[0]?=some (.int .i64 (k:Int)):=pZl (by omega) (hargs 0 _ rfl);have q1:t[1]?=some (.pointer (some ⟨bt,0,none⟩)):=pZl (by omega) (hargs 1 _ rfl);clear hargs;obtain ⟨l0,e0⟩:=gE q0;obtain ⟨l1,e1⟩:=gE q1
 refine jZe fun K hK=>?_
 apply wp_region_lit
 repeat (first|((with_reducible show wpList _ _ _ _ _ _);refine sZa 112 37 rfl rfl rZv (fun z hz=>?_)) | go_step)
 refine hK.out _ _ ?_;clear hK K
 refine jZy (fun t' W'=>t'.size=8∧t'[0]?=some (.int .i64 (k:Int))∧t'[1]?=some (.pointer (some ⟨bt,0,none⟩))∧t'[3]?=some (.pointer (some ⟨w.heap.size,0,none⟩))∧(∃ z:Array Value,W'.heap[w.heap.size]?=some (.cells z 112 (0,0))∧z.size=37)∧Below w.heap.size w W') ⟨by simp [Act.put,hsz],by simp [Act.put,q0],by simp [Act.put,q1],by simp [Act.put,hsz],⟨⟨z,newS _ _,hz⟩,jZd (Below.refl _ _)⟩⟩ ?_
 clear hsz q0 l0 e0 q1 l1 e1 t z hz;rintro t W1 ⟨hsz,q0,q1,q3,⟨z,H2,hz⟩,hB⟩;have hr:W1.rangeAt b (off+k*37) (valsWd x):=pZi hc (hB.block b hb);have x1:W1.cell? ⟨bt,0,none⟩=some (.slice (some ⟨b,off,none⟩) X.length c):=(hB.cell (p:=⟨bt,0,none⟩) lt).trans ht;have hlt1:bt<W1.heap.size:=Nat.lt_of_lt_of_le lt hB.size;have HR:=hD hr
 have HTH:=hD (show W1.there w.heap.size 0 (valsWd x).length from pZb H2 (by rw [hz];show 0+37≤37;omega));clear hr hc ht;obtain ⟨l0,e0⟩:=gE q0;obtain ⟨l1,e1⟩:=gE q1;obtain ⟨l3,e3⟩:=gE q3
 refine jZe fun K hK=>?_
 apply wp_region_lit
 repeat (first|((with_reducible show wpList _ _ _ _ _ _);refine ldK 112 _ (valsWd x) b (off+k*37) rfl rfl HR.out Tryz.underlying112 rfl kZv (by simp [Act.eval,Act.put,hsz]) ?_)|((with_reducible show wpList _ _ _ _ _ _);refine stK 112 _ _ (valsWd x) w.heap.size 0 rfl rfl HTH.out kZv (rZj _) (by simp [Act.eval,Act.put,hsz,e3]) (by simp [Act.eval,Act.put,hsz]) ?_) | go_step)
 refine hK.out _ _ ?_;clear hK K;apply wp_ret;refine qZm 3 112 w.heap.size (valsWd x) Tryz.results129 ?_ (World.rangeAt_setCells_same _ _ _ _ HTH.out) Tryz.underlying112 rfl kZv rfl ⟨rfl,jZi (Nat.le_refl _) _ _ _ hB⟩
 simp [Act.put,hsz,e3]
def pZf (X:List Wd) (ks:List Nat):List Wd:=ks.filterMap fun k=>X[k]?
theorem fZi {X:List Wd} {ks:List Nat} (h:∀ k∈ks,k<X.length):(ks.map fun (k:Nat)=>(k:Int)).map (fun (x:Int)=>((X.map valsWd)[x.toNat]?).getD [])=(pZf X ks).map valsWd:=by
 induction ks with
 | nil=>rfl
 | cons k t ih =>
  have hk:=h k List.mem_cons_self;have e:X[k]?=some X[k]:=List.getElem?_eq_getElem hk;simp only [List.map_cons,pZf,List.filterMap_cons,e];rw [ih (fun j hj=>h j (List.mem_cons_of_mem _ hj))]
  simp [List.getElem?_map,e,pZf]
theorem cZn {X:List Wd} {ks:List Nat} (h:∀ k∈ks,k<X.length):(pZf X ks).length=ks.length:=by
 have:=congrArg List.length (fZi h)
 simpa using this.symm
theorem idsN_lt {f:Nat→Bool} {n:Nat}:∀ k∈idsN f n,k<n:=fun k hk=>by
 unfold idsN at hk;exact List.mem_range.1 (List.mem_filter.1 hk).1
def SlV (w:World) (v:Value) (n:Nat) (R:List (List Value)):Prop:=∃ g,v=.slice (some ⟨g,0,none⟩) n n∧g<w.heap.size∧RvK 9 w (some ⟨g,0,none⟩) R
theorem SlV.keep {w w':World} {v:Value} {n:Nat} {R:List (List Value)} (h:SlV w v n R) (hb:Below w.heap.size w w'):SlV w' v n R:=let ⟨g,e,hg,hr⟩:=h;⟨g,e,Nat.lt_of_lt_of_le hg hb.size,hr.keep hb⟩
def AgV (w:World) (v u1 u2:Value) (n:Nat) (R:List (List Value)):Prop:=∃ g,v=.agg #[u1,u2,.slice (some ⟨g,0,none⟩) n n]∧g<w.heap.size∧RvK 9 w (some ⟨g,0,none⟩) R
theorem AgV.keep {w w':World} {v u1 u2:Value} {n:Nat} {R:List (List Value)} (h:AgV w v u1 u2 n R) (hb:Below w.heap.size w w'):AgV w' v u1 u2 n R:=let ⟨g,e,hg,hr⟩:=h;⟨g,e,Nat.lt_of_lt_of_le hg hb.size,hr.keep hb⟩
def IfV (w:World) (v u1 u2:Value) (n:Nat) (R:List (List Value)):Prop:=∃ g,v=.iface 149 (.agg #[u1,u2,.slice (some ⟨g,0,none⟩) n n])∧g<w.heap.size∧RvK 9 w (some ⟨g,0,none⟩) R
theorem IfV.keep {w w':World} {v u1 u2:Value} {n:Nat} {R:List (List Value)} (h:IfV w v u1 u2 n R) (hb:Below w.heap.size w w'):IfV w' v u1 u2 n R:=let ⟨g,e,hg,hr⟩:=h;⟨g,e,Nat.lt_of_lt_of_le hg hb.size,hr.keep hb⟩
def ArV (w:World) (v:Value) (x:Wd) (Y:List Wd):Prop :=
 ∃ g:Nat,g<w.heap.size∧((x.p.n.ki=1∧v=.iface 149 (.agg #[.slice x.p.ca x.p.n.cs.length x.p.cc,.slice x.p.ra x.p.n.rs.length x.p.rc,.slice (some ⟨g,0,none⟩) Y.length Y.length])∧RvK 9 w (some ⟨g,0,none⟩) (Y.map fun y=>kZn (ceW y))) ∨
  (x.p.n.ki=2∧v=.iface 151 (.slice (some ⟨g,0,none⟩) Y.length Y.length)∧RvK 9 w (some ⟨g,0,none⟩) (Y.map fun y=>rZd y.p.n.pl)) ∨
  (x.p.n.ki≠1∧x.p.n.ki≠2∧v=.iface 155 (.slice (some ⟨g,0,none⟩) Y.length Y.length)∧RvK 9 w (some ⟨g,0,none⟩) (Y.map fun y=>pZj (pkW y))))
theorem ArV.keep {w w':World} {v:Value} {x:Wd} {Y:List Wd} (h:ArV w v x Y) (hb:Below w.heap.size w w'):ArV w' v x Y:=by
 obtain ⟨g,hg,h⟩:=h;refine ⟨g,Nat.lt_of_lt_of_le hg hb.size,?_⟩
 rcases h with ⟨a,b,c⟩ | ⟨a,b,c⟩ | ⟨a,a',b,c⟩
 ·exact .inl ⟨a,b,c.keep hb⟩
 ·exact .inr (.inl ⟨a,b,c.keep hb⟩)
 ·exact .inr (.inr ⟨a,a',b,c.keep hb⟩)
theorem mapU {U:List Value→List Value} {V:Wd→List Value} (h:∀ x,U (valsWd x)=V x) (Y:List Wd):(Y.map valsWd).map U=Y.map V:=by
 rw [List.map_map]
 exact List.map_congr_left fun x _=>h x
theorem wdsOK (Y:List Wd):∀ vs∈Y.map valsWd,vs.length=37∧one vs:=fun vs hv=>by
 obtain ⟨x,_,rfl⟩:=List.mem_map.1 hv;exact ⟨rfl,rZj x⟩
theorem each_cells (A:Option Addr) (c n:Nat) (Y:List Wd) (w:World) (h:RvK 37 w A (Y.map valsWd)) (hn:n=Y.length) (hL:n≤1048576) :
  Calls Tryz.prog 130 #[.slice A n c,.func (.func 131) #[] #[]] w fun e w'=>e=.returned (.slice (some ⟨w.heap.size,0,none⟩) n n)∧RvK 9 w' (some ⟨w.heap.size,0,none⟩) (Y.map fun y=>kZn (ceW y))∧w.heap.size<w'.heap.size∧Below w.heap.size w w':=by
 have e:(Y.map valsWd).length=n:=by simp [hn]
 rw [<- e];refine (each_wc A c (Y.map valsWd) uCe w h (wdsOK Y) (by rw [e];exact hL) (fun vs hv=>by obtain ⟨x,_,rfl⟩:=List.mem_map.1 hv;exact ⟨rfl,tZf (ceW x)⟩) (fun vs hv W _=>by obtain ⟨x,_,rfl⟩:=List.mem_map.1 hv;exact asCell_v x W)).mono ?_;rintro e w1 ⟨rfl,hr,hb⟩;rw [mapU uCe_eq] at hr;exact ⟨rfl,hr.v,RpK.lt hr,hb⟩
theorem each_packs (A:Option Addr) (c n:Nat) (Y:List Wd) (w:World) (h:RvK 37 w A (Y.map valsWd)) (hn:n=Y.length) (hL:n≤1048576) :
  Calls Tryz.prog 134 #[.slice A n c,.func (.func 135) #[] #[]] w fun e w'=>e=.returned (.slice (some ⟨w.heap.size,0,none⟩) n n)∧RvK 9 w' (some ⟨w.heap.size,0,none⟩) (Y.map fun y=>pZj (pkW y))∧w.heap.size<w'.heap.size∧Below w.heap.size w w':=by
 have e:(Y.map valsWd).length=n:=by simp [hn]
 rw [<- e];refine (each_wp A c (Y.map valsWd) uPk w h (wdsOK Y) (by rw [e];exact hL) (fun vs hv=>by obtain ⟨x,_,rfl⟩:=List.mem_map.1 hv;exact ⟨rfl,tZh (pkW x)⟩) (fun vs hv W _=>by obtain ⟨x,_,rfl⟩:=List.mem_map.1 hv;exact asPack_v x W)).mono ?_;rintro e w1 ⟨rfl,hr,hb⟩;rw [mapU uPk_eq] at hr;exact ⟨rfl,hr.v,RpK.lt hr,hb⟩
theorem hZa (A:Option Addr) (c n:Nat) (Y:List Wd) (w:World) (h:RvK 37 w A (Y.map valsWd)) (hn:n=Y.length) (hL:n≤1048576) :
  Calls Tryz.prog 132 #[.slice A n c,.func (.func 133) #[] #[]] w fun e w'=>e=.returned (.slice (some ⟨w.heap.size,0,none⟩) n n)∧RvK 9 w' (some ⟨w.heap.size,0,none⟩) (Y.map fun y=>rZd y.p.n.pl)∧w.heap.size<w'.heap.size∧Below w.heap.size w w':=by
 have e:(Y.map valsWd).length=n:=by simp [hn]
 rw [<- e];refine (each_wl A c (Y.map valsWd) uPl w h (wdsOK Y) (by rw [e];exact hL) (fun vs hv=>by obtain ⟨x,_,rfl⟩:=List.mem_map.1 hv;exact ⟨rfl,vZl x.p.n.pl⟩) (fun vs hv W _=>by obtain ⟨x,_,rfl⟩:=List.mem_map.1 hv;exact asPlace_v x W)).mono ?_;rintro e w1 ⟨rfl,hr,hb⟩;rw [mapU uPl_eq] at hr;exact ⟨rfl,hr.v,RpK.lt hr,hb⟩
theorem gZ1 (A:Option Addr) (c bt:Nat) (X:List Wd) (ks:List Nat) (B:Option Addr) (cb m:Nat) (w:World) (h:RvK 37 w A (X.map valsWd)) (ht:w.cell? ⟨bt,0,none⟩=some (.slice A X.length c)) (lt:bt<w.heap.size) (hk:∀ k∈ks,k<X.length) (hB:NV w B (ks.map fun (k:Nat)=>(k:Int))) (hm:m=ks.length) (hL:X.length≤1048576) (hL2:m≤1048576) :
  Calls Tryz.prog 128 #[.slice B m cb,.func (.func 129) #[] #[.pointer (some ⟨bt,0,none⟩)]] w fun e w'=>e=.returned (.slice (some ⟨w.heap.size,0,none⟩) m m)∧RvK 37 w' (some ⟨w.heap.size,0,none⟩) ((pZf X ks).map valsWd)∧Below w.heap.size w w':=by
 have e:(ks.map fun (k:Nat)=>(k:Int)).length=m:=by simp [hm]
 rw [<- e]
 have hget:∀ x∈ks.map (fun (k:Nat)=>(k:Int)),∃ (k:Nat) (y:Wd),x=(k:Int)∧X[k]?=some y∧((X.map valsWd)[x.toNat]?).getD []=valsWd y:=fun x hx=>by
  obtain ⟨k,hk',rfl⟩:=List.mem_map.1 hx;have e:=List.getElem?_eq_getElem (hk k hk');exact ⟨k,_,rfl,e,by simp [List.getElem?_map,e]⟩
 refine (each_iw B cb (ks.map fun (k:Nat)=>(k:Int)) (fun x=>((X.map valsWd)[x.toNat]?).getD []) #[.pointer (some ⟨bt,0,none⟩)] w hB (by rw [e];exact hL2) (fun x hx=>by obtain ⟨k,y,rfl,h1,h2⟩:=hget x hx;rw [h2];exact ⟨rfl,rZj y⟩) (fun x hx W hW=>by
  obtain ⟨k,y,rfl,h1,h2⟩:=hget x hx;rw [h2]
  exact arr1_v A c X k bt y W (h.keep hW) h1 ((hW.cell (p:=⟨bt,0,none⟩) lt).trans ht) (Nat.lt_of_lt_of_le lt hW.size) hL)).mono ?_
 rintro e w1 ⟨rfl,hr,hb⟩;rw [fZi hk] at hr;exact ⟨rfl,hr.v,hb⟩
theorem cZ3 (A:Option Addr) (c k:Nat) (X:List Wd) (x:Wd) (ks:List Nat) (w:World) (h:RvK 37 w A (X.map valsWd)) (hx:X[k]?=some x) (hL:X.length≤1048576) (hk:∀ k∈ks,k<X.length) (hB:NV w x.ka (ks.map fun (k:Nat)=>(k:Int))) (hm:x.kn=ks.length) (hL2:x.kn≤1048576) :
  Calls Tryz.prog 99 #[.slice A X.length c,.int .i64 (k:Int)] w fun e w'=>(∃ v,e=.returned v∧ArV w' v x (pZf X ks))∧Below w.heap.size w w':=by
 have hkx:k<X.length:=(List.getElem?_eq_some_iff.1 hx).1;obtain ⟨b,off,rfl,hb,hp⟩:=id h (by simp;omega);have hc:=hp k (valsWd x) (by rw [List.getElem?_map,hx];rfl)
 have hd1:(k:Int)<(X.length:Int):=by omega
 have hpl:=cZn hk;have HV:=hD h;have HN:=hD hB;have HC:=hD hc;have HKS:=hD hk;have HM:=hD hm;have HPL:=hD hpl;clear hp h hB hc hk hm hx hpl;refine kZ7 Tryz.func99 rfl 38 (by simp only [Tryz.ntmps99]) (by simp) (fun t hsz hargs=>?_);have q0:t[0]?=some (.slice (some ⟨b,off,none⟩) X.length c):=pZl (by omega) (hargs 0 _ rfl)
 have q1:t[1]?=some (.int .i64 (k:Int)):=pZl (by omega) (hargs 1 _ rfl);clear hargs;obtain ⟨l0,e0⟩:=gE q0;obtain ⟨l1,e1⟩:=gE q1
 refine jZe fun K hK=>?_
 apply wp_region_lit
 repeat (first | go_step)
 refine hK.out _ _ ?_;clear hK K;refine jZy (fun t' W'=>t'.size=38∧t'[1]?=some (.int .i64 (k:Int))∧t'[2]?=some (.pointer (some ⟨w.heap.size,0,none⟩))∧W'.heap[w.heap.size]?=some (.cells #[.slice (some ⟨b,off,none⟩) X.length c] 109 (0,0))∧Below w.heap.size w W') ⟨by simp [Act.put,hsz],by simp [Act.put,q1],by simp [Act.put,hsz],⟨newS _ _,jZd (Below.refl _ _)⟩⟩ ?_;clear hsz q0 l0 e0 q1 l1 e1 t
 rintro t W1 ⟨hsz,q1,q2,H1,hB⟩;replace HV:=hD (HV.out.keep hB);replace HN:=hD (HN.out.keep hB);replace HC:=hD (pZi HC.out (hB.block b hb));have x0:=jZc H1 0;have lx:=ltS H1;have hb1:b<W1.heap.size:=Nat.lt_of_lt_of_le hb hB.size;have HX:=hD H1;have HB:=hD hB;clear H1 hB hb;obtain ⟨l1,e1⟩:=gE q1;obtain ⟨l2,e2⟩:=gE q2
 refine jZe fun K hK=>?_
 apply wp_region_lit
 repeat (first|((with_reducible show wpList _ _ _ _ _ _);refine ldK 112 _ (valsWd x) b (off+k*37) rfl rfl HC.out Tryz.underlying112 rfl kZv (by simp [Act.eval,Act.put,hsz]) ?_)|((with_reducible show wpList _ _ _ _ _ _);refine sZa 112 37 rfl rfl rZv (fun z hz=>?_))|((with_reducible show wpList _ _ _ _ _ _);refine stK 112 _ _ (valsWd x) W1.heap.size 0 rfl rfl (pZb (newS _ _) (by rw [hz];show 0+37≤37;omega)) kZv (rZj _) (by simp [Act.eval,Act.put,hsz]) (by simp [Act.eval,Act.put,hsz]) ?_) | go_step)
 refine hK.out _ _ ?_;clear hK K
 refine jZy (fun t' W'=>t'.size=38∧t'[2]?=some (.pointer (some ⟨w.heap.size,0,none⟩))∧t'[5]?=some (.pointer (some ⟨W1.heap.size,0,none⟩))∧W'.rangeAt W1.heap.size 0 (valsWd x)∧W1.heap.size<W'.heap.size∧Below W1.heap.size W1 W') ⟨by simp [Act.put,hsz],by simp [Act.put,q2],by simp [Act.put,hsz],⟨World.rangeAt_setCells_same _ _ _ _ (pZb (newS _ _) (by rw [hz];show 0+37≤37;omega)),by rw [pZr];simp,jZi (Nat.le_refl _) _ _ _ (jZd (Below.refl _ _))⟩⟩ ?_
 clear hsz q1 l1 e1 q2 l2 e2 t x0 lx hb1 hd1 z hz HC;rintro t W2 ⟨hsz,q2,q5,hr,hlt,hb2⟩;replace HV:=hD (HV.out.keep hb2);replace HN:=hD (HN.out.keep hb2);replace HX:=hD ((hb2.block _ (ltS HX.out)).trans HX.out);replace HB:=hD (jZa HB.out hb2);have y4:=hr 4 _ rfl;have y5:=hr 5 _ rfl;have y6:=hr 6 _ rfl;have y36:=hr 36 _ rfl;simp only [Nat.zero_add] at y4 y5 y6 y36;clear hb2;obtain ⟨l2,e2⟩:=gE q2
 obtain ⟨l5,e5⟩:=gE q5
 refine jZe fun K hK=>?_
 apply wp_region_lit
 repeat go_step
 refine (gZ1 (some ⟨b,off,none⟩) c w.heap.size X ks x.ka x.kc x.kn _ HV.out (jZc HX.out 0) (ltS HX.out) HKS.out HN.out HM.out hL hL2).mono ?_;rintro e W3 ⟨rfl,hr3,hb3⟩
 dsimp only
 repeat go_step
 refine hK.out _ _ ?_;clear hK K;refine jZy (fun t' W'=>t'.size=38∧t'[5]?=some (.pointer (some ⟨W1.heap.size,0,none⟩))∧t'[6]?=some (.slice (some ⟨W2.heap.size,0,none⟩) x.kn x.kn)∧W3=W') ⟨by simp [Act.put,hsz],by simp [Act.put,q5],by simp [Act.put,hsz],rfl⟩ ?_;clear hsz q2 l2 e2 q5 l5 e5 t;rintro t _ ⟨hsz,q5,q6,rfl⟩;have z4:=(hb3.cell (p:=⟨W1.heap.size,4,none⟩) hlt).trans y4
 have z5:=(hb3.cell (p:=⟨W1.heap.size,5,none⟩) hlt).trans y5;have z6:=(hb3.cell (p:=⟨W1.heap.size,6,none⟩) hlt).trans y6;have HY:=hD hr3;replace HB:=hD (jZa HB.out hb3);have hlt3:W1.heap.size<W3.heap.size:=Nat.lt_of_lt_of_le hlt hb3.size;have hyn:x.kn=(pZf X ks).length:=HM.out.trans HPL.out.symm;have HYN:=hD hyn;clear y4 y5 y6 y36 hr hb3 hr3 HV HN HX hlt hyn
 refine jZe fun KE hKE=>?_
 obtain ⟨l5,e5⟩:=gE q5;obtain ⟨l6,e6⟩:=gE q6
 refine jZe fun K hK=>?_
 apply wp_region_lit
 repeat (first | go_step)
 refine hK.out _ _ ?_;clear hK K;refine jZy (fun t' W'=>t'.size=38∧t'[5]?=some (.pointer (some ⟨W1.heap.size,0,none⟩))∧t'[6]?=some (.slice (some ⟨W2.heap.size,0,none⟩) x.kn x.kn)∧t'[17]?=some (.int .i64 x.p.n.ki)∧W3=W') ⟨by simp [Act.put,hsz],by simp [Act.put,q5],by simp [Act.put,q6],by simp [Act.put,hsz],rfl⟩ ?_;clear hsz q5 l5 e5 q6 l6 e6 t z4;rintro t _ ⟨hsz,q5,q6,q17,rfl⟩;apply wp_block
 by_cases h1:x.p.n.ki=1
 ·have hq:(x.p.n.ki == 1)=true:=by simp [h1]
  obtain ⟨l5,e5⟩:=gE q5;obtain ⟨l6,e6⟩:=gE q6;obtain ⟨l17,e17⟩:=gE q17
  refine jZe fun K hK=>?_
  apply wp_region_lit
  repeat (first | go_step)
  refine hK.out _ _ ?_;clear hK K;refine jZy (fun t' W'=>t'.size=38∧t'[5]?=some (.pointer (some ⟨W1.heap.size,0,none⟩))∧t'[6]?=some (.slice (some ⟨W2.heap.size,0,none⟩) x.kn x.kn)∧t'[17]?=some (.int .i64 x.p.n.ki)∧t'[18]?=some (.bool true)∧W3=W') ⟨by simp [Act.put,hsz],by simp [Act.put,q5],by simp [Act.put,q6],by simp [Act.put,q17],by simp [Act.put,hsz,hq],rfl⟩ ?_
  clear hsz q5 l5 e5 q6 l6 e6 q17 l17 e17 t;rintro t _ ⟨hsz,q5,q6,q17,q18,rfl⟩;refine wp_cond_true (by simp [Act.eval,q18]) ?_;clear q18 hq;obtain ⟨l5,e5⟩:=gE q5;obtain ⟨l6,e6⟩:=gE q6;obtain ⟨l17,e17⟩:=gE q17
  refine jZe fun K hK=>?_
  have hlt4:=hlt3
  refine kZ8 (XV (.pointer (some ⟨W1.heap.size,0,none⟩)) :: XV (.pointer (some ⟨W1.heap.size,5,none⟩)) :: XV (.slice x.p.ca x.p.n.cs.length x.p.cc) :: XV (.pointer (some ⟨W1.heap.size,0,none⟩)) :: XV (.pointer (some ⟨W1.heap.size,6,none⟩)) :: XV (.slice x.p.ra x.p.n.rs.length x.p.rc) :: XV (.slice (some ⟨W2.heap.size,0,none⟩) x.kn x.kn) :: (fun v w=>SlV w v x.kn ((pZf X ks).map fun y=>kZn (ceW y))) :: (fun v w=>AgV w v (.slice x.p.ca x.p.n.cs.length x.p.cc) (.slice x.p.ra x.p.n.rs.length x.p.rc) x.kn ((pZf X ks).map fun y=>kZn (ceW y))) :: (fun v w=>IfV w v (.slice x.p.ca x.p.n.cs.length x.p.cc) (.slice x.p.ra x.p.n.rs.length x.p.rc) x.kn ((pZf X ks).map fun y=>kZn (ceW y))) :: (fun v w=>IfV w v (.slice x.p.ca x.p.n.cs.length x.p.cc) (.slice x.p.ra x.p.n.rs.length x.p.rc) x.kn ((pZf X ks).map fun y=>kZn (ceW y))) :: []) (by kernel_rfl) (by show rgB _ t.size=true;rw [hsz];kernel_rfl) ?hTs ?hops ?hfin
  case hTs =>
   intro T hT;simp only [List.mem_cons,List.not_mem_nil,or_false] at hT
   rcases hT with rfl | rfl | rfl | rfl | rfl | rfl | rfl | rfl | rfl | rfl | rfl <;> first | exact qZn _ | exact qZo | exact kZh (fun v a b x g=>x.keep g) | exact kZh (fun v a b x g=>x)
  case hops =>
   refine ⟨jZb [(5,none)] (by kernel_rfl) rfl ?_,?_⟩
   ·intro act w' hw' h1;obtain ⟨hk,hf⟩:=evkf act;generalize act.eval=ρ at *;replace h1:ρ (.tmp 5)=.pointer (some ⟨W1.heap.size,0,none⟩):=h1.trans (by simp [Act.eval,q5])
    refine gxB hw' fun K hK hc hf'=>?_
    go_simp;exact hK _ _ ⟨rfl,Gr.refl _⟩
   refine ⟨jZb [(20,some 0)] (by kernel_rfl) rfl ?_,?_⟩
   ·intro act w' hw' h1;obtain ⟨hk,hf⟩:=evkf act;generalize act.eval=ρ at *;replace h1:ρ (.tmp 20)=.pointer (some ⟨W1.heap.size,0,none⟩):=h1
    refine gxB hw' fun K hK hc hf'=>?_
    go_simp;exact hK _ _ ⟨rfl,Gr.refl _⟩
   refine ⟨jZb [(21,some 1)] (by kernel_rfl) rfl ?_,?_⟩
   ·intro act w' hw' h1;obtain ⟨hk,hf⟩:=evkf act;generalize act.eval=ρ at *;replace h1:ρ (.tmp 21)=.pointer (some ⟨W1.heap.size,5,none⟩):=h1
    refine gxB hw' fun K hK hc hf'=>?_
    go_simp;exact hK _ _ ⟨rfl,Gr.refl _⟩
   refine ⟨jZb [(5,none)] (by kernel_rfl) rfl ?_,?_⟩
   ·intro act w' hw' h1;obtain ⟨hk,hf⟩:=evkf act;generalize act.eval=ρ at *;replace h1:ρ (.tmp 5)=.pointer (some ⟨W1.heap.size,0,none⟩):=h1.trans (by simp [Act.eval,q5])
    refine gxB hw' fun K hK hc hf'=>?_
    go_simp;exact hK _ _ ⟨rfl,Gr.refl _⟩
   refine ⟨jZb [(23,some 3)] (by kernel_rfl) rfl ?_,?_⟩
   ·intro act w' hw' h1;obtain ⟨hk,hf⟩:=evkf act;generalize act.eval=ρ at *;replace h1:ρ (.tmp 23)=.pointer (some ⟨W1.heap.size,0,none⟩):=h1
    refine gxB hw' fun K hK hc hf'=>?_
    go_simp;exact hK _ _ ⟨rfl,Gr.refl _⟩
   refine ⟨jZb [(24,some 4)] (by kernel_rfl) rfl ?_,?_⟩
   ·intro act w' hw' h1;obtain ⟨hk,hf⟩:=evkf act;generalize act.eval=ρ at *;replace h1:ρ (.tmp 24)=.pointer (some ⟨W1.heap.size,6,none⟩):=h1
    refine gxB hw' fun K hK hc hf'=>?_
    go_simp;exact hK _ _ ⟨rfl,Gr.refl _⟩
   refine ⟨jZb [(6,none)] (by kernel_rfl) rfl ?_,?_⟩
   ·intro act w' hw' h1;obtain ⟨hk,hf⟩:=evkf act;generalize act.eval=ρ at *;replace h1:ρ (.tmp 6)=.slice (some ⟨W2.heap.size,0,none⟩) x.kn x.kn:=h1.trans (by simp [Act.eval,q6])
    refine gxB hw' fun K hK hc hf'=>?_
    go_simp;exact hK _ _ ⟨rfl,Gr.refl _⟩
   refine ⟨jZb [(26,some 6)] (by kernel_rfl) rfl ?_,?_⟩
   ·intro act w' hw' h1;obtain ⟨hk,hf⟩:=evkf act;generalize act.eval=ρ at *;replace h1:ρ (.tmp 26)=.slice (some ⟨W2.heap.size,0,none⟩) x.kn x.kn:=h1
    refine gxB hw' fun K hK hc hf'=>?_
    go_simp
    (refine (each_cells _ x.kn x.kn (pZf X ks) _ (HY.out.keep (jZs hw'.out)) HYN.out hL2).mono ?_);rintro e w1 ⟨rfl,hr1,hg1,hb1⟩;exact ⟨_,rfl,hK _ _ ⟨⟨_,rfl,hg1,hr1⟩,hb1⟩⟩
   refine ⟨jZb [(22,some 2),(25,some 5),(27,some 7)] (by kernel_rfl) rfl ?_,?_⟩
   ·intro act w' hw' h1 h2 h3;obtain ⟨hk,hf⟩:=evkf act;generalize act.eval=ρ at *;replace h1:ρ (.tmp 22)=.slice x.p.ca x.p.n.cs.length x.p.cc:=h1;replace h2:ρ (.tmp 25)=.slice x.p.ra x.p.n.rs.length x.p.rc:=h2;replace h3:(fun v w=>SlV w v x.kn ((pZf X ks).map fun y=>kZn (ceW y))) (ρ (.tmp 27)) w':=h3;refine qZs (fun K hK=>?_)
    obtain ⟨g,e,hg,hr⟩:=h3;go_simp;exact hK _ _ ⟨⟨g,rfl,hg,hr⟩,Gr.refl _⟩
   refine ⟨jZb [(28,some 8)] (by kernel_rfl) rfl ?_,?_⟩
   ·intro act w' hw' h1;obtain ⟨hk,hf⟩:=evkf act;generalize act.eval=ρ at *;replace h1:(fun v w=>AgV w v (.slice x.p.ca x.p.n.cs.length x.p.cc) (.slice x.p.ra x.p.n.rs.length x.p.rc) x.kn ((pZf X ks).map fun y=>kZn (ceW y))) (ρ (.tmp 28)) w':=h1;refine qZs (fun K hK=>?_);obtain ⟨g,e,hg,hr⟩:=h1;go_simp;exact hK _ _ ⟨⟨g,rfl,hg,hr⟩,Gr.refl _⟩
   refine ⟨jZb [(29,some 9)] (by kernel_rfl) rfl ?_,?_⟩
   ·intro act w' hw' h1;obtain ⟨hk,hf⟩:=evkf act;generalize act.eval=ρ at *;replace h1:(fun v w=>IfV w v (.slice x.p.ca x.p.n.cs.length x.p.cc) (.slice x.p.ra x.p.n.rs.length x.p.rc) x.kn ((pZf X ks).map fun y=>kZn (ceW y))) (ρ (.tmp 29)) w':=h1
    refine gxB hw' fun K hK hc hf'=>?_
    go_simp;exact hK _ _ ⟨h1,Gr.refl _⟩
   exact trivial
  case hfin =>
   intro w4 hg4;intro v20 t20;replace t20:v20=.pointer (some ⟨W1.heap.size,0,none⟩):=t20;subst t20;intro v21 t21;replace t21:v21=.pointer (some ⟨W1.heap.size,5,none⟩):=t21;subst t21;intro v22 t22;replace t22:v22=.slice x.p.ca x.p.n.cs.length x.p.cc:=t22;subst t22;intro v23 t23;replace t23:v23=.pointer (some ⟨W1.heap.size,0,none⟩):=t23;subst t23;intro v24 t24
   replace t24:v24=.pointer (some ⟨W1.heap.size,6,none⟩):=t24;subst t24;intro v25 t25;replace t25:v25=.slice x.p.ra x.p.n.rs.length x.p.rc:=t25;subst t25;intro v26 t26;replace t26:v26=.slice (some ⟨W2.heap.size,0,none⟩) x.kn x.kn:=t26;subst t26;intro v27 t27;replace t27:(fun v w=>SlV w v x.kn ((pZf X ks).map fun y=>kZn (ceW y))) v27 w4:=t27;intro v28 t28
   replace t28:(fun v w=>AgV w v (.slice x.p.ca x.p.n.cs.length x.p.cc) (.slice x.p.ra x.p.n.rs.length x.p.rc) x.kn ((pZf X ks).map fun y=>kZn (ceW y))) v28 w4:=t28;intro v29 t29;replace t29:(fun v w=>IfV w v (.slice x.p.ca x.p.n.cs.length x.p.cc) (.slice x.p.ra x.p.n.rs.length x.p.rc) x.kn ((pZf X ks).map fun y=>kZn (ceW y))) v29 w4:=t29;intro v4 t4
   replace t4:(fun v w=>IfV w v (.slice x.p.ca x.p.n.cs.length x.p.cc) (.slice x.p.ra x.p.n.rs.length x.p.rc) x.kn ((pZf X ks).map fun y=>kZn (ceW y))) v4 w4:=t4;have hb4:=jZs hg4.out;clear hg4;simp only [finP,Act.put,List.setIfInBounds_toArray,List.set_cons_succ,List.set_cons_zero];obtain ⟨g,rfl,hg4,hr4⟩:=t4;clear t27 t28 t29;replace HB:=hD (jZa HB.out hb4);simp only [Exit.then]
   refine hK.out _ _ ?_;apply wp_ret;simp only [Exit.then,Exit.inBlock];refine bodyPost_ret (results_tmp rfl _ _ _) rfl ?_;refine ⟨⟨_,by simp [hsz];rfl,g,hg4,.inl ⟨h1,by rw [<- HYN.out],hr4⟩⟩,HB.out⟩
 ·have hq:(x.p.n.ki == 1)=false:=by simp [h1]
  obtain ⟨l5,e5⟩:=gE q5;obtain ⟨l6,e6⟩:=gE q6;obtain ⟨l17,e17⟩:=gE q17
  refine jZe fun K hK=>?_
  apply wp_region_lit
  repeat (first | go_step)
  refine hK.out _ _ ?_;clear hK K;refine jZy (fun t' W'=>t'.size=38∧t'[5]?=some (.pointer (some ⟨W1.heap.size,0,none⟩))∧t'[6]?=some (.slice (some ⟨W2.heap.size,0,none⟩) x.kn x.kn)∧t'[17]?=some (.int .i64 x.p.n.ki)∧t'[18]?=some (.bool false)∧W3=W') ⟨by simp [Act.put,hsz],by simp [Act.put,q5],by simp [Act.put,q6],by simp [Act.put,q17],by simp [Act.put,hsz,hq],rfl⟩ ?_
  clear hsz q5 l5 e5 q6 l6 e6 q17 l17 e17 t;rintro t _ ⟨hsz,q5,q6,q17,q18,rfl⟩;refine wp_cond_false (by simp [Act.eval,q18]) ?_;clear q18 hq z5 z6
  by_cases h2:x.p.n.ki=2
  ·have hq:(x.p.n.ki == 2)=true:=by simp [h2]
   obtain ⟨l5,e5⟩:=gE q5;obtain ⟨l6,e6⟩:=gE q6;obtain ⟨l17,e17⟩:=gE q17
   refine jZe fun K hK=>?_
   apply wp_region_lit
   repeat (first | go_step)
   refine hK.out _ _ ?_;clear hK K;refine jZy (fun t' W'=>t'.size=38∧t'[5]?=some (.pointer (some ⟨W1.heap.size,0,none⟩))∧t'[6]?=some (.slice (some ⟨W2.heap.size,0,none⟩) x.kn x.kn)∧t'[17]?=some (.int .i64 x.p.n.ki)∧t'[30]?=some (.bool true)∧W3=W') ⟨by simp [Act.put,hsz],by simp [Act.put,q5],by simp [Act.put,q6],by simp [Act.put,q17],by simp [Act.put,hsz,hq],rfl⟩ ?_
   clear hsz q5 l5 e5 q6 l6 e6 q17 l17 e17 t;rintro t _ ⟨hsz,q5,q6,q17,q30,rfl⟩;refine wp_cond_true (by simp [Act.eval,q30]) ?_;clear q30 hq;obtain ⟨l5,e5⟩:=gE q5;obtain ⟨l6,e6⟩:=gE q6;obtain ⟨l17,e17⟩:=gE q17
   refine jZe fun K hK=>?_
   apply wp_region_lit
   repeat go_step
   refine (hZa _ x.kn x.kn (pZf X ks) _ HY.out HYN.out hL2).mono ?_;rintro e W4 ⟨rfl,hr4,hg4,hb4⟩
   dsimp only
   repeat go_step
   refine hK.out _ _ ?_;apply wp_ret;simp only [Exit.then,Exit.inBlock];refine bodyPost_ret (results_tmp rfl _ _ _) rfl ?_;exact ⟨⟨_,by simp [hsz];rfl,W3.heap.size,hg4,.inr (.inl ⟨h2,by rw [<- HYN.out],hr4⟩)⟩,jZa HB.out hb4⟩
  ·have hq:(x.p.n.ki == 2)=false:=by simp [h2]
   obtain ⟨l5,e5⟩:=gE q5;obtain ⟨l6,e6⟩:=gE q6;obtain ⟨l17,e17⟩:=gE q17
   refine jZe fun K hK=>?_
   apply wp_region_lit
   repeat (first | go_step)
   refine hK.out _ _ ?_;clear hK K;refine jZy (fun t' W'=>t'.size=38∧t'[5]?=some (.pointer (some ⟨W1.heap.size,0,none⟩))∧t'[6]?=some (.slice (some ⟨W2.heap.size,0,none⟩) x.kn x.kn)∧t'[17]?=some (.int .i64 x.p.n.ki)∧t'[30]?=some (.bool false)∧W3=W') ⟨by simp [Act.put,hsz],by simp [Act.put,q5],by simp [Act.put,q6],by simp [Act.put,q17],by simp [Act.put,hsz,hq],rfl⟩ ?_
   clear hsz q5 l5 e5 q6 l6 e6 q17 l17 e17 t;rintro t _ ⟨hsz,q5,q6,q17,q30,rfl⟩;refine wp_cond_false (by simp [Act.eval,q30]) ?_;clear q30 hq;apply wp_skip;simp only [Exit.then,Exit.inBlock];refine hKE.out _ _ ?_;obtain ⟨l5,e5⟩:=gE q5;obtain ⟨l6,e6⟩:=gE q6;obtain ⟨l17,e17⟩:=gE q17
   refine jZe fun K hK=>?_
   apply wp_region_lit
   repeat go_step
   refine (each_packs _ x.kn x.kn (pZf X ks) _ HY.out HYN.out hL2).mono ?_;rintro e W4 ⟨rfl,hr4,hg4,hb4⟩
   dsimp only
   repeat go_step
   refine hK.out _ _ ?_;apply wp_ret;refine bodyPost_ret (results_tmp rfl _ _ _) rfl ?_;exact ⟨⟨_,by simp [hsz];rfl,W3.heap.size,hg4,.inr (.inr ⟨h1,h2,by rw [<- HYN.out],hr4⟩)⟩,jZa HB.out hb4⟩
end
def Pk.ok (p:Pk):Bool:=vpB p.w p.h p.s p.an p.px p.py
def Pk.down (p:Pk):Bool:=decide (p.s=0∨p.s=1)
def Pk.need (p:Pk) (d:Bool):Int:=if d then p.h+2*p.py else p.w+2*p.px
def Pk.big (p:Pk):Prop:=((0≤p.w∧p.w≤1000000000000)∧(0≤p.h∧p.h≤1000000000000)∧(0≤p.s∧p.s≤3)∧(0≤p.an∧p.an≤8)∧(0≤p.px∧p.px≤10)∧(0≤p.py∧p.py≤10))
theorem Pk.need_bdW {p:Pk} (h:p.big) (d:Bool):0≤p.need d∧p.need d≤1000000000020:=by
 unfold Pk.big at h;unfold Pk.need
 split <;> omega
def cZz (w:World) (b o:Nat) (p:Pk):Prop :=
 w.cell? ⟨b,o,none⟩=some (.int .i64 p.w)∧w.cell? ⟨b,o+1,none⟩=some (.int .i64 p.h)∧w.cell? ⟨b,o+2,none⟩=some (.int .i64 p.s)∧w.cell? ⟨b,o+3,none⟩=some (.bool p.fx)∧w.cell? ⟨b,o+4,none⟩=some (.bool p.fy) ∧
 w.cell? ⟨b,o+5,none⟩=some (.bool p.ex)∧w.cell? ⟨b,o+6,none⟩=some (.int .i64 p.an)∧w.cell? ⟨b,o+7,none⟩=some (.int .i64 p.px)∧w.cell? ⟨b,o+8,none⟩=some (.int .i64 p.py)
def PS (w:World) (b off:Nat) (L:List Pk):Prop:=∀ i p,L[i]?=some p→cZz w b (off+i*9) p
structure PV (w:World) (A:Option Addr) (L:List Pk):Prop where
 cells:0<L.length→∃ b off,A=some ⟨b,off,none⟩∧b<w.heap.size∧PS w b off L
theorem cZz.keep {w w':World} {b o:Nat} {p:Pk} (h:cZz w b o p) (hb:w'.heap[b]?=w.heap[b]?):cZz w' b o p:=by
 have e:∀ i,w'.cell? ⟨b,i,none⟩=w.cell? ⟨b,i,none⟩:=fun i=>World.cell?_of_block (a:=⟨b,i,none⟩) hb
 unfold cZz at *
 simpa only [e] using h
theorem PV.keep {w w':World} {A:Option Addr} {L:List Pk} (h:PV w A L) (hb:Below w.heap.size w w'):PV w' A L :=
 ⟨fun h0=>let ⟨b,off,e,hl,hp⟩:=h.cells h0;⟨b,off,e,Nat.lt_of_lt_of_le hl hb.size,fun i p hi=>(hp i p hi).keep (hb.block b hl)⟩⟩
theorem gZt (p:Pk) (b:Bool) (h:p.ok=b) (w:World):Calls Tryz.prog 136 #[.agg #[.int .i64 p.w,.int .i64 p.h,.int .i64 p.s,.bool p.fx,.bool p.fy,.bool p.ex,.int .i64 p.an,.int .i64 p.px,.int .i64 p.py]] w fun e w'=>e=.returned (.bool b)∧Below w.heap.size w w':=by
 rw [<- h];exact vZo _ _ _ _ _ _ _ _ _ _
theorem vp_v (p:Pk) (b:Bool) (h:p.ok=b) (w:World):Calls Tryz.prog 124 #[.agg #[.int .i64 p.w,.int .i64 p.h,.int .i64 p.s,.bool p.fx,.bool p.fy,.bool p.ex,.int .i64 p.an,.int .i64 p.px,.int .i64 p.py]] w fun e w'=>e=.returned (.bool b)∧Below w.heap.size w w':=by
 rw [<- h];exact eZc _ _ _ _ _ _ _ _ _ _

def qZ2 (cs:Array Value) (o:Nat):List Value→Array Value
 | []=>cs
 | v :: r=>qZ2 (cs.setIfInBounds o v) (o+1) r
theorem rZ1:∀ (vs:List Value) (cs:Array Value) (o:Nat),(qZ2 cs o vs).size=cs.size
 | [],cs,o=>rfl
 | v :: r,cs,o=>by unfold qZ2;rw [rZ1 r];simp
theorem vZm:∀ (vs:List Value) (cs:Array Value) (o i:Nat),i<o→(qZ2 cs o vs)[i]?=cs[i]?
 | [],cs,o,i,_=>rfl
 | v :: r,cs,o,i,h=>by unfold qZ2;rw [vZm r _ _ _ (by omega),Array.getElem?_setIfInBounds_ne (by omega)]
theorem dZp:∀ (vs:List Value) (cs:Array Value) (o i:Nat),o+vs.length≤i→(qZ2 cs o vs)[i]?=cs[i]?
 | [],cs,o,i,_=>rfl
 | v :: r,cs,o,i,h=>by
  simp only [List.length_cons] at h;unfold qZ2;rw [dZp r _ _ _ (by omega),Array.getElem?_setIfInBounds_ne (by omega)]
theorem dZg:∀ (vs:List Value) (cs:Array Value) (o j:Nat),o+vs.length≤cs.size→j<vs.length→(qZ2 cs o vs)[o+j]?=vs[j]?
 | [],cs,o,j,_,h=>by simp at h
 | v :: r,cs,o,0,h,_=>by
  simp only [List.length_cons] at h;unfold qZ2;rw [vZm r _ _ _ (by omega),Nat.add_zero,Array.getElem?_setIfInBounds_self_of_lt (by omega)]
  rfl
 | v :: r,cs,o,j+1,h,hj=>by
  simp only [List.length_cons] at h hj;unfold qZ2;rw [show o+(j+1)=o+1+j from by omega,dZg r _ _ _ (by simp;omega) (by omega)]
  simp
theorem fZ8 {w:World} {b i:Nat} {cs:Array Value} {T:TypeId} {fz:Nat × Nat} (h:w.heap[b]?=some (.cells cs T fz)) (u:Value):(w.setCell ⟨b,i,none⟩ u).heap[b]?=some (.cells (cs.setIfInBounds i u) T fz):=by
 simp [World.setCell,Array.getElem?_modify,h]
theorem vZ1 {w:World} {b:Nat} {cs:Array Value} {T:TypeId} {fz:Nat × Nat} (h:w.heap[b]?=some (.cells cs T fz)) {i:Nat} (hi:i<cs.size):∃ v,w.cell? ⟨b,i,none⟩=some v :=
 ⟨cs[i],(qZi h i).trans (by simp [hi])⟩
theorem jZl {w:World} {b:Nat} {cs:Array Value} {T:TypeId} (h:w.heap[b]?=some (.cells cs T (0,0))) (i:Nat):w.frozen? ⟨b,i,none⟩=false:=by simp [World.frozen?,h]


def kZ1:List Pk→Bool→Int→Int→Int→Int
 | [],d,sh,rm,n=>mn sh (mx rm 0 / n)
 | p :: r,d,sh,rm,n=>if p.down=d then kZ1 r d sh (rm-p.need d) (if p.ex then n+1 else n) else kZ1 r d (mn sh (mx (rm-p.need d) 0 / n)) rm n
theorem rZ0 {p:Pk} {r:List Pk} {d:Bool} {sh rm n:Int} (h:p.down=d) (hx:p.ex=true):kZ1 (p :: r) d sh rm n=kZ1 r d sh (rm-p.need d) (n+1):=by
 rw [kZ1,if_pos h,hx];rfl
theorem sZq {p:Pk} {r:List Pk} {d:Bool} {sh rm n:Int} (h:p.down=d) (hx:p.ex=false):kZ1 (p :: r) d sh rm n=kZ1 r d sh (rm-p.need d) n:=by
 rw [kZ1,if_pos h,hx];rfl
theorem uZr {p:Pk} {r:List Pk} {d:Bool} {sh rm n:Int} (h:¬ p.down=d):kZ1 (p :: r) d sh rm n=kZ1 r d (mn sh (mx (rm-p.need d) 0 / n)) rm n:=by
 rw [kZ1,if_neg h]
def halfI (r n:Int):Int:=if r<0 then 0 else r / n
theorem halfI_eq {r n:Int}:halfI r n=mx r 0 / n:=by
 unfold halfI mx
 by_cases h:r<0
 ·rw [if_pos h,if_pos (by omega),Int.zero_ediv]
 ·rw [if_neg h,if_neg (by omega)]
theorem pZw {L:List Pk} {k:Nat} {p:Pk} (h:L[k]?=some p):L.drop k=p :: L.drop (k+1):=by
 have hk:=(List.getElem?_eq_some_iff.1 h).1;have e:=(List.getElem?_eq_some_iff.1 h).2;rw [List.drop_eq_getElem_cons hk,e]
section
attribute [local go_sem 5000] kZk kZj
theorem dZu {B:Nat} {a w:World} (h:Below B a w) (n:Nat):Below B a (w.drewN n):=⟨h.os,h.tape,h.output,h.size,h.block⟩
theorem dZ5 (p:Pk) (ex:Bool) (w:World):Calls Tryz.prog 201 #[.agg #[.int .i64 p.w,.int .i64 p.h,.int .i64 p.s,.bool p.fx,.bool p.fy,.bool ex,.int .i64 p.an,.int .i64 p.px,.int .i64 p.py]] w fun e w'=>e=.returned (.bool p.down)∧Below w.heap.size w w':=by
 by_cases h0:p.s=0
 ·have e0:(p.s == 0)=true:=by simpa using h0
  go_enter Tryz.func201,Tryz.ntmps201
  go_wp2;go_ret;exact ⟨jZ8 (by simp [Pk.down,h0]),jZd (Below.refl _ _)⟩
 ·have e0:(p.s == 0)=false:=by simpa using h0
  by_cases h1:p.s=1
  ·have e1:(p.s == 1)=true:=by simpa using h1
   go_enter Tryz.func201,Tryz.ntmps201
   go_wp2;go_ret;exact ⟨jZ8 (by simp [Pk.down,h1]),jZd (Below.refl _ _)⟩
  ·have e1:(p.s == 1)=false:=by simpa using h1
   go_enter Tryz.func201,Tryz.ntmps201
   go_wp2;go_ret;exact ⟨jZ8 (by simp [Pk.down,h0,h1]),jZd (Below.refl _ _)⟩
theorem eZd (p:Pk) (w:World):Calls Tryz.prog 201 #[.agg #[.int .i64 p.w,.int .i64 p.h,.int .i64 p.s,.bool p.fx,.bool p.fy,.bool p.ex,.int .i64 p.an,.int .i64 p.px,.int .i64 p.py]] w fun e w'=>e=.returned (.bool p.down)∧Below w.heap.size w w':=dZ5 p p.ex w
theorem eZ7 (s:Int) (w:World):Calls Tryz.prog 150 #[.int .i64 s] w fun e w'=>e=.returned (.bool (decide (s=0∨s=1)))∧w=w':=by
 by_cases h0:s=0
 ·have e0:(s == 0)=true:=by simpa using h0
  go_enter Tryz.func150,Tryz.ntmps150
  go_wp2;go_ret;exact ⟨jZ8 (by simp [h0]),rfl⟩
 ·have e0:(s == 0)=false:=by simpa using h0
  by_cases h1:s=1
  ·have e1:(s == 1)=true:=by simpa using h1
   go_enter Tryz.func150,Tryz.ntmps150
   go_wp2;go_ret;exact ⟨jZ8 (by simp [h1]),rfl⟩
  ·have e1:(s == 1)=false:=by simpa using h1
   go_enter Tryz.func150,Tryz.ntmps150
   go_wp2;go_ret;exact ⟨jZ8 (by simp [h0,h1]),rfl⟩
theorem cZc (p:Pk) (d:Bool) (w:World) (h:p.big):Calls Tryz.prog 241 #[.agg #[.int .i64 p.w,.int .i64 p.h,.int .i64 p.s,.bool p.fx,.bool p.fy,.bool p.ex,.int .i64 p.an,.int .i64 p.px,.int .i64 p.py],.bool d] w fun e w'=>e=.returned (.int .i64 (p.need d))∧Below w.heap.size w w':=by
 obtain ⟨⟨a1,a2⟩,⟨a3,a4⟩,_,_,⟨a5,a6⟩,⟨a7,a8⟩⟩:=h
 cases d
 all_goals
  go_enter Tryz.func241,Tryz.ntmps241
  go_wp2;go_ret;exact ⟨sZv rfl,jZd (Below.refl _ _)⟩
theorem eZ4 (p:Pk) (w:World) (h:p.big):Calls Tryz.prog 149 #[.agg #[.int .i64 p.w,.int .i64 p.h,.int .i64 p.s,.bool p.fx,.bool p.fy,.bool p.ex,.int .i64 p.an,.int .i64 p.px,.int .i64 p.py]] w fun e w'=>e=.returned (.tuple #[.int .i64 (p.need false),.int .i64 (p.need true)])∧Below w.heap.size w w':=by
 obtain ⟨⟨a1,a2⟩,⟨a3,a4⟩,_,_,⟨a5,a6⟩,⟨a7,a8⟩⟩:=h;have e1:IntKind.i64.wrap (2*p.px)=2*p.px:=IntWalk.i64_in _ (by omega);have e2:IntKind.i64.wrap (2*p.py)=2*p.py:=IntWalk.i64_in _ (by omega);have e3:IntKind.i64.wrap (p.w+2*p.px)=p.w+2*p.px:=IntWalk.i64_in _ (by omega);have e4:IntKind.i64.wrap (p.h+2*p.py)=p.h+2*p.py:=IntWalk.i64_in _ (by omega)
 go_enter Tryz.func149,Tryz.ntmps149
 go_wp2_with fail
 go_quiet (fail)
 clear e1 e2 e3 e4;go_wp2;go_ret2;exact ⟨rfl,dZu (jZd (Below.refl _ _)) _⟩
end
structure Rc where
 x:Int
 y:Int
 u:Int
 v:Int
def Rc.ok (r:Rc):Bool:=vr r.x r.y r.u r.v
def cutP (r:Rc) (s n:Int):Rc × Rc :=
 if s=0 then (⟨r.x,r.y,r.u,mn n r.v⟩,⟨r.x,r.y+mn n r.v,r.u,r.v-mn n r.v⟩)
 else if s=1 then (⟨r.x,r.y+(r.v-mn n r.v),r.u,mn n r.v⟩,⟨r.x,r.y,r.u,r.v-mn n r.v⟩)
 else if s=2 then (⟨r.x,r.y,mn n r.u,r.v⟩,⟨r.x+mn n r.u,r.y,r.u-mn n r.u,r.v⟩)
 else (⟨r.x+(r.u-mn n r.u),r.y,mn n r.u,r.v⟩,⟨r.x,r.y,r.u-mn n r.u,r.v⟩)
def Rc.size (r:Rc) (d:Bool):Int:=if d then r.v else r.u
def rZt:List Pk→Rc→Int
 | [],_=>0
 | p :: r,z=>if p.ex then kZ1 (p :: r) p.down (z.size p.down) (z.size p.down) 0 else 0
def pZt (p:Pk) (r:List Pk) (z:Rc):Int:=p.need p.down+rZt (p :: r) z
def qZh:List Pk→Rc→List Rc × Rc
 | [],z=>([],z)
 | p :: r,z=>((cutP z p.s (pZt p r z)).1 :: (qZh r (cutP z p.s (pZt p r z)).2).1,(qZh r (cutP z p.s (pZt p r z)).2).2)
theorem sZe:∀ {L:List Pk} {z:Rc},(qZh L z).1.length=L.length
 | [],z=>rfl
 | p :: r,z=>by simp [qZh,sZe (L:=r)]
def reqM:List Pk→Int × Int
 | []=>(0,0)
 | p :: t=>if p.down then (mx (reqM t).1 (p.need false),(reqM t).2+p.need true) else ((reqM t).1+p.need false,mx (reqM t).2 (p.need true))
def reqD (L:List Pk) (d:Bool):Int:=if d then (reqM L).2 else (reqM L).1
theorem reqD_nil (d:Bool):reqD [] d=0:=by cases d <;> rfl
theorem reqD_same {p:Pk} {t:List Pk} {d:Bool} (h:p.down=d):reqD (p :: t) d=reqD t d+p.need d:=by
 cases d <;> simp [reqD,reqM,h]
theorem reqD_other {p:Pk} {t:List Pk} {d:Bool} (h:¬ p.down=d):reqD (p :: t) d=mx (reqD t d) (p.need d):=by
 cases d
 ·have h':p.down=true:=by simpa using h
  simp [reqD,reqM,h']
 ·have h':p.down=false:=by simpa using h
  simp [reqD,reqM,h']
theorem reqM_bdW:∀ {L:List Pk},(∀ p∈L,p.big)→0≤(reqM L).1∧(reqM L).1≤1000000000020*L.length∧0≤(reqM L).2∧(reqM L).2≤1000000000020*L.length
 | [],_=>by simp [reqM]
 | p :: t,h=>by
  obtain ⟨a1,a2,a3,a4⟩:=reqM_bdW (L:=t) (fun q hq=>h q (List.mem_cons_of_mem _ hq));have n1:=Pk.need_bdW (h p List.mem_cons_self) false;have n2:=Pk.need_bdW (h p List.mem_cons_self) true;have m1:=kZc (reqM t).1 (p.need false);have m2:=kZc (reqM t).2 (p.need true);simp only [reqM,List.length_cons]
  split <;> (dsimp only;omega)
def Pk.flip (p:Pk):Pk:={ p with s:=if p.s=0 then 1 else if p.s=1 then 0 else if p.s=2 then 3 else 2 }
def Rc.inn (a b:Rc):Prop:=a.x≤b.x∧a.y≤b.y∧b.x+b.u≤a.x+a.u∧b.y+b.v≤a.y+a.v
theorem Rc.inn_trans {a b c:Rc} (h1:a.inn b) (h2:b.inn c):a.inn c:=by unfold Rc.inn at *;omega
def Rc.met (a b:Rc):Prop:=0<mn (a.x+a.u) (b.x+b.u)-mx a.x b.x∧0<mn (a.y+a.v) (b.y+b.v)-mx a.y b.y
def Rc.area (r:Rc):Int:=r.u*r.v
section
attribute [local go_sem 5000] kZk kZj
attribute [local go_sem] Oper.semAt_some
structure BkE where
 i:Int
 p:Pk
 ok:p.big
def encB (x:BkE):Array Value:=#[.int .i64 x.i,.agg #[.int .i64 x.p.w,.int .i64 x.p.h,.int .i64 x.p.s,.bool x.p.fx,.bool x.p.fy,.bool x.p.ex,.int .i64 x.p.an,.int .i64 x.p.px,.int .i64 x.p.py]]
def KpB (n0 Bs:Nat) (W W':World):Prop:=Below n0 W W'∧W'.heap[Bs]?=W.heap[Bs]?
theorem KpB.cell {n0 Bs:Nat} {W W':World} (h:KpB n0 Bs W W') (o:Nat):W'.cell? ⟨Bs,o,none⟩=W.cell? ⟨Bs,o,none⟩:=World.cell?_of_block h.2
theorem KpB.refl (n0 Bs:Nat) (W:World):KpB n0 Bs W W:=⟨Below.refl _ _,rfl⟩
theorem KpB.trans {n0 Bs:Nat} {A B C:World} (h:KpB n0 Bs A B) (k:KpB n0 Bs B C):KpB n0 Bs A C:=⟨h.1.trans k.1,k.2.trans h.2⟩
def PVn (n0:Nat) (W:World) (A:Option Addr) (L:List Pk):Prop:=0<L.length→∃ b off,A=some ⟨b,off,none⟩∧b<n0∧PS W b off L
theorem PVn.below {n0:Nat} {W W':World} {A:Option Addr} {L:List Pk} (h:PVn n0 W A L) (hb:Below n0 W W'):PVn n0 W' A L:=fun h0 =>
 let ⟨b,off,e,hl,hp⟩:=h h0;⟨b,off,e,hl,fun i p hi=>(hp i p hi).keep (hb.block b hl)⟩
theorem bk1_in (F:Fence) (n:Nat) (hF:F.fn 246) (hro:F.round=none) (hn:1≤n) (l Bs n0:Nat) (A:Option Addr) (c:Nat) (L:List Pk) (hL:L.length≤10) (hok:∀ p∈L,p.big) (J Jx:List BkE→World→Prop)
  (hY:∀ pre x W,J pre W→pre.length<L.length→YieldAt F (n-1) Tryz.prog l (encB x) W fun e W' =>
   (e=.returned (.bool true)∧J (pre ++ [x]) W'∧KpB n0 Bs W W')∨(e=.returned (.bool false)∧Jx (pre ++ [x]) W'))
  (W:World) (hBs:W.cell? ⟨Bs,0,none⟩=some (.slice A L.length c)) (hp:PVn n0 W A L) (h0:J [] W) :
  CallsIn F n Tryz.prog 246 #[.func (.yield l) #[] #[],.pointer (some ⟨Bs,0,none⟩)] W fun e W'=>(∃ v,e=.returned v) ∧
   ((∃ ys,ys.map BkE.p=L.reverse∧J ys W')∨(∃ pre,True∧Jx pre W')):=by
 refine callsIn_of_wp Tryz.func246 rfl hF ?_ hro;simp only [Tryz.ntmps246,List.size_toArray,List.length_cons,List.length_nil,Nat.reduceAdd,Nat.reduceSub,Array.replicate_succ,Array.replicate_zero,List.push_toArray,List.append_toArray,List.nil_append,List.cons_append]
 gi_wp2
 gi_loopw [3] (fun i wr=>∃ k:Nat,k≤L.length∧i=.int .i64 ((k:Int)-1)∧(∃ ys,ys.map BkE.p=(L.drop k).reverse∧J ys wr)∧KpB n0 Bs W wr)
  (fun i _=>(intOf i+1).toNat)
 case atStart=>exact ⟨L.length,Nat.le_refl _,rfl,⟨[],by simp,h0⟩,KpB.refl _ _ _⟩
 case round =>
  obtain ⟨k,hk,rfl,⟨ys,hys,hJs⟩,hK⟩:=hrel
  rcases k with _ | j
  ·have hd:decide (((0:Nat):Int)-1≥0)=false:=by simp
   rw [List.drop_zero] at hys;have HYS:=hD hys;clear hys
   gi_wp2
   go_end0
   exact ⟨⟨_,rfl⟩,.inl ⟨ys,HYS.out,hJs⟩⟩
  ·have e1:((j+1:Nat):Int)-1=(j:Int):=by omega
   rw [e1]
   have hlt:j<L.length:=by omega
   have hd:decide ((j:Int)≥0)=true:=by simp
   have hd2:decide ((0:Int)≤(j:Int))=true:=by simp
   obtain ⟨b,off,rfl,hb,hps⟩:=hp.below hK.1 (by omega);have hget:L[j]?=some L[j]:=List.getElem?_eq_getElem hlt;obtain ⟨c0,c1,c2,c3,c4,c5,c6,c7,c8⟩:=hps j _ hget;have hpok:L[j].big:=hok _ (List.getElem_mem hlt);have hdrop:=pZw hget;generalize hx:L[j]=p at *
   have hl:ys.length<L.length:=by
    have:=congrArg List.length hys
    simp at this;omega
   have hcs:=(hK.cell 0).trans hBs;obtain ⟨fn,tmps,assign,body,hy,hR⟩:=hY ys ⟨j,p,hpok⟩ wr hJs hl
   dsimp only [encB] at hy
   have HYS:=hD hys;have HD:=hD hdrop;have HK:=hD hK;have HG:=hD hget;have HX:=hD hx;have HPS:=hD hps;clear hys hdrop hK hget hx hps e1;have hjs:IntKind.i64.wrap ((j:Int)-1)=(j:Int)-1:=IntWalk.i64_in _ (by omega)
   gi_wp2
   refine hR.mono ?_;rintro e W3 (⟨rfl,hJ3,hk3⟩ | ⟨rfl,hJx3⟩)
   ·gi_wp2
    go_roundw
    case rel=>exact ⟨j,by omega,by go_num,⟨_,by rw [HD.out,List.reverse_cons,List.map_append,HYS.out];rfl,hJ3⟩,HK.out.trans hk3⟩
    case measure=>simp [intOf]
   ·gi_wp2
    refine bodyPost_ret (results_none rfl _ _ _) rfl ?_;exact ⟨⟨_,rfl⟩,.inr ⟨_,trivial,hJx3⟩⟩
end
section
attribute [local go_sem 5000] kZk kZj
attribute [local go_sem] Oper.semAt_some
theorem gZs (F:Fence) (n:Nat) (hF:F.fn 240) (hro:F.round=none) (a:Option Addr) (len cap:Nat) (w:World) :
  CallsIn F n Tryz.prog 240 #[.slice a len cap] w fun e w'=>e=.returned (.func (.func 246) #[] #[.pointer (some ⟨w.heap.size,0,none⟩)])∧w'=w.alloc (.cells #[.slice a len cap] 123):=by
 refine callsIn_of_wp Tryz.func240 rfl hF ?_ hro;simp only [Tryz.ntmps240,List.size_toArray,List.length_cons,List.length_nil,Nat.reduceAdd,Nat.reduceSub,Array.replicate_succ,Array.replicate_zero,List.push_toArray,List.append_toArray,List.nil_append,List.cons_append]
 gi_wp2
 go_ret;exact ⟨rfl,rfl⟩
theorem bk_stops (F:Fence) (n:Nat) (hF:F.fn 246) (hro:F.round=none) (hn:1≤n) (Bs n0:Nat) (A:Option Addr) (c:Nat) (L:List Pk) (hL:L.length≤10) (hok:∀ p∈L,p.big) (w:World) (hBs:Bs<w.heap.size) (hn0:n0≤w.heap.size)
  (hc:w.cell? ⟨Bs,0,none⟩=some (.slice A L.length c)) (hp:PVn n0 w A L) :
  SeqStopsK F n Tryz.prog 246 #[.pointer (some ⟨Bs,0,none⟩)] encB (KpB n0 Bs) (fun ys=>ys.map BkE.p=L.reverse) (fun _=>True) L.length w:=fun l J Jx W hW _ _ hY h0 =>
 bk1_in F n hF hro hn l Bs n0 A c L hL hok J Jx hY W ((hW.cell (p:=⟨Bs,0,none⟩) hBs).trans hc) (hp.below (hW.mono hn0)) h0
def accB (d:Bool):List BkE→Int
 | []=>0
 | x :: t=>if x.p.down=d then accB d t+x.p.need d else mx (accB d t) (x.p.need d)
theorem accB_bd (d:Bool):∀ ys:List BkE,0≤accB d ys∧accB d ys≤1000000000020*ys.length
 | []=>by simp [accB]
 | x :: t=>by
  have:=accB_bd d t
  have nb:=Pk.need_bdW x.ok d;have m:=kZc (accB d t) (x.p.need d);simp only [accB,List.length_cons]
  split <;> omega
def acc (d:Bool) (ys:List BkE):Int:=accB d ys.reverse
theorem acc_bd (d:Bool) (ys:List BkE):0≤acc d ys∧acc d ys≤1000000000020*ys.length:=by have:=accB_bd d ys.reverse;rwa [List.length_reverse] at this
theorem acc_same {d:Bool} {ys:List BkE} {x:BkE} (h:x.p.down=d):acc d (ys ++ [x])=acc d ys+x.p.need d:=by
 simp [acc,accB,h]
theorem gZd {d:Bool} {ys:List BkE} {x:BkE} (h:¬ x.p.down=d):acc d (ys ++ [x])=mx (acc d ys) (x.p.need d):=by
 simp only [acc,List.reverse_append,List.reverse_cons,List.reverse_nil,List.nil_append,List.cons_append,accB,if_neg h]
theorem accB_req {d:Bool}:∀ {ys:List BkE} {L:List Pk},ys.map BkE.p=L→accB d ys=reqD L d
 | [],L,h=>by
  simp at h;subst h
  rw [reqD_nil];rfl
 | x :: t,L,h=>by
  simp at h
  subst h;have ih:=accB_req (d:=d) (ys:=t) rfl
  by_cases hd:x.p.down=d
  ·rw [reqD_same hd,<- ih,accB,if_pos hd]
  ·rw [reqD_other hd,<- ih,accB,if_neg hd]
theorem acc_req {d:Bool} {ys:List BkE} {L:List Pk} (h:ys.map BkE.p=L.reverse):acc d ys=reqD L d:=by
 refine accB_req ?_;rw [List.map_reverse,h,List.reverse_reverse]
theorem bZl (p:Pk) (b:Bool) (h:p.down=b) (w:World):Calls Tryz.prog 201 #[.agg #[.int .i64 p.w,.int .i64 p.h,.int .i64 p.s,.bool p.fx,.bool p.fy,.bool p.ex,.int .i64 p.an,.int .i64 p.px,.int .i64 p.py]] w fun e w'=>e=.returned (.bool b)∧Below w.heap.size w w':=by rw [<- h];exact eZd p w
theorem bdr {W w':World} (h:Below W.drew.heap.size W.drew w'):Below W.heap.size W w':=(Below.refl _ _).drew.trans h
theorem pZv {B:Nat} {W W':World} (h:Below W.heap.size W W'):KeepsFrom B W W':=⟨h.size,fun k o _ hk _=>(h.block k (gE hk).1).trans hk⟩
theorem kpB_below {n0 Bs:Nat} {W W':World} (h:Below W.heap.size W W') (h0:n0≤W.heap.size) (hs:Bs<W.heap.size):KpB n0 Bs W W':=⟨h.mono h0,h.block Bs hs⟩
theorem uZl {w W w2:World} {B0:Nat} {A:Option Addr} {c:Nat} {L:List Pk} {d:Bool} {pre:List BkE} {x:BkE} {v u:Int} {T1 T2 T3:TypeId} (b2:Below W.heap.size W w2) (bS:Boxed W (w.heap.size+1) T1 (.int .i64 u)) (bD:Boxed W w.heap.size T2 (.bool d)) (bL:Boxed W (w.heap.size+1+1) T3 (.slice A L.length c)) (hB:Below w.heap.size w W) (hl:w.heap.size≤W.heap.size) (hv:acc d (pre ++ [x])=v) :
  KeepsFrom B0 W (w2.setCell ⟨w.heap.size+1,0,none⟩ (.int .i64 v))∧KpB w.heap.size (w.heap.size+1+1) W (w2.setCell ⟨w.heap.size+1,0,none⟩ (.int .i64 v)) ∧
   ((Boxed (w2.setCell ⟨w.heap.size+1,0,none⟩ (.int .i64 v)) (w.heap.size+1) T1 (.int .i64 (acc d (pre ++ [x])))∧(Boxed (w2.setCell ⟨w.heap.size+1,0,none⟩ (.int .i64 v)) w.heap.size T2 (.bool d)∧Boxed (w2.setCell ⟨w.heap.size+1,0,none⟩ (.int .i64 v)) (w.heap.size+1+1) T3 (.slice A L.length c))) ∧
    Below w.heap.size w (w2.setCell ⟨w.heap.size+1,0,none⟩ (.int .i64 v))):=by
 have cS:Boxed w2 (w.heap.size+1) T1 (.int .i64 u):=(b2.block _ bS.lt).trans bS;have cD:Boxed w2 w.heap.size T2 (.bool d):=(b2.block _ bD.lt).trans bD;have cL:Boxed w2 (w.heap.size+1+1) T3 (.slice A L.length c):=(b2.block _ bL.lt).trans bL
 refine ⟨(pZv b2).trans ((KeepsOthers.setCell _ _ _).from _),(kpB_below b2 hl bL.lt).trans ⟨(Below.refl _ _).setCell (p:=⟨w.heap.size+1,0,none⟩) (by simp) _,Below.heap_setCell _ ⟨w.heap.size+1,0,none⟩ _ _ (by simp)⟩,⟨⟨by rw [hv];exact cS.set _,cD.other (by omega) _,cL.other (by omega) _⟩,(hB.trans (b2.mono hl)).setCell (p:=⟨w.heap.size+1,0,none⟩) (by simp) _⟩⟩
theorem uZh (A:Option Addr) (c:Nat) (L:List Pk) (d:Bool) (w:World) (h:PV w A L) (hok:∀ p∈L,p.big) (h7:L.length≤10) :
  Calls Tryz.prog 237 #[.slice A L.length c,.bool d] w fun e W'=>e=.returned (.int .i64 (reqD L d))∧Below w.heap.size w W':=by
 have HOK:=Lib.hid hok;clear hok;refine (callsIn_wide (n:=6)).1 ?_;refine callsIn_of_wp_marks Tryz.func237 rfl trivial ?_ rfl;simp only [Tryz.ntmps237,List.size_toArray,List.length_cons,List.length_nil,Nat.reduceAdd,Nat.reduceSub,Array.replicate_succ,Array.replicate_zero,List.push_toArray,List.append_toArray,List.nil_append,List.cons_append]
 gi_wp2_with (refine ⟨trivial,?_⟩;gi_at_call 240;refine (gZs Fence.wide _ trivial rfl _ _ _ _).mono ?_;rintro e w' ⟨rfl,rfl⟩)
 have bL:=Boxed.new ((w.alloc (.cells #[.bool d] 4)).alloc (.cells #[.int .i64 0] 3)) 123 (.slice A L.length c);have bS:=(Boxed.new (w.alloc (.cells #[.bool d] 4)) 3 (.int .i64 0)).alloc (.cells #[.slice A L.length c] 123);have bD:=((Boxed.new w 4 (.bool d)).alloc (.cells #[.int .i64 0] 3)).alloc (.cells #[.slice A L.length c] 123);simp only [World.size_alloc] at bL bS bD
 have hB0:Below w.heap.size w (((w.alloc (.cells #[.bool d] 4)).alloc (.cells #[.int .i64 0] 3)).alloc (.cells #[.slice A L.length c] 123)):=(((Below.refl _ w).alloc (Nat.le_refl _) _).alloc (by simp) _).alloc (by simp;omega) _
 have hsz:(((w.alloc (.cells #[.bool d] 4)).alloc (.cells #[.int .i64 0] 3)).alloc (.cells #[.slice A L.length c] 123)).heap.size=w.heap.size+3:=by simp
 obtain ⟨W0,hW0⟩:∃ W0,((w.alloc (.cells #[.bool d] 4)).alloc (.cells #[.int .i64 0] 3)).alloc (.cells #[.slice A L.length c] 123)=W0:=⟨_,rfl⟩
 rw [hW0] at bL bS bD hB0 hsz ⊢;clear hW0;have hp0:PVn w.heap.size W0 A L:=PVn.below (fun h0=>let ⟨b,off,e,hl,hp⟩:=h.cells h0;⟨b,off,e,hl,hp⟩) hB0
 refine wpIn_rangeFunc_ownH rfl (by omega) (gf:=246) (lb:=#[.pointer (some ⟨w.heap.size+1+1,0,none⟩)]) rfl trivial (enters_of Tryz.func246 (by kernel_rfl) rfl)
  (bk_stops Fence.wide _ trivial rfl (by omega) (w.heap.size+1+1) w.heap.size A c L h7 HOK.out W0 (by omega) (by omega) bL.cell hp0) KpB.trans
  (fun W l o o' hl ho hc hw=>⟨belowK_b (w:=W0) (by omega) W l o o' hl ho hc hw,World.putObj_heap_other (by omega)⟩) (Below.refl _ _) (fun _=>rfl)
  (fun pre W=>(Boxed W (w.heap.size+1) 3 (.int .i64 (acc d pre))∧(Boxed W w.heap.size 4 (.bool d)∧Boxed W (w.heap.size+1+1) 123 (.slice A L.length c)))∧Below w.heap.size w W)
  (fun _ _ _=>False)
  (OwnFrom.and (OwnFrom.and (Own.from (boxed_own _ _ _) _) (OwnFrom.and (Own.from (boxed_own _ _ _) _) (Own.from (boxed_own _ _ _) _))) (ownFrom_below (Nat.le_refl _) (by omega)))
  (fun _ _ _ _ _ hs _ _=>hs)
  ⟨⟨bS,bD,bL⟩,hB0⟩
  (fun x a' W=>∃ Bx,w.heap.size+2<Bx∧W.heap[Bx]?=some (.cells #[.int .i64 x.p.w,.int .i64 x.p.h,.int .i64 x.p.s,.bool x.p.fx,.bool x.p.fy,.bool x.p.ex,.int .i64 x.p.an,.int .i64 x.p.px,.int .i64 x.p.py] 37 (0,0))∧a'={ tmps:=#[.slice A L.length c,.bool d,undef,.pointer (some ⟨w.heap.size,0,none⟩),.int .i64 0,.pointer (some ⟨w.heap.size+1,0,none⟩),undef,.pointer (some ⟨Bx,0,none⟩),.slice A L.length c,.func (.func 246) #[] #[.pointer (some ⟨w.heap.size+1+1,0,none⟩)],.int .i64 x.i,.agg #[.int .i64 x.p.w,.int .i64 x.p.h,.int .i64 x.p.s,.bool x.p.fx,.bool x.p.fy,.bool x.p.ex,.int .i64 x.p.an,.int .i64 x.p.px,.int .i64 x.p.py],undef,undef,undef,undef,undef,undef,undef,undef,undef,undef,undef,undef,undef,undef,undef],defers:=[] })
  (fun x a' _ X Y row hs hg hr=>by
   obtain ⟨Bx,h1,h2,h3⟩:=hs
   exact ⟨Bx,h1,(hg.block Bx (gE h2).1 (fun e=>by
    obtain ⟨_,o,ho,hoc⟩:=hr Bx e.symm;rw [h2] at ho;obtain rfl:=Option.some.inj ho
    simp [Obj.isCells] at hoc)).trans h2,h3⟩)
  ?assign ?body ?done ?stop
 case assign =>
  rintro l pre x W K ⟨⟨bS1,bD1,bL1⟩,hB1⟩ hK;have hlt2:=bL1.lt;simp only [encB]
  gi_wp2
  refine hK _ _ ((KeepsOthers.alloc _ _).from _) ⟨(Below.refl _ W).alloc hB1.size _,Below.heap_alloc _ _ _ (by omega)⟩ ⟨⟨bS1.alloc _,bD1.alloc _,bL1.alloc _⟩,hB1.alloc hB1.size _⟩ ⟨W.heap.size,by omega,pZo _ _,rfl⟩
 case body =>
  rintro l pre x a' W hl ⟨r,hr⟩ ⟨⟨bS1,bD1,bL1⟩,hB1⟩ ⟨Bx,hBx,hX,rfl⟩ hlt;have cS:=bS1.cell;have fS:=bS1.frozen;have cD:=bD1.cell;have sS:=bS1.lt;have sD:=bD1.lt;have sL:=bL1.lt;have sX:Bx<W.heap.size:=(gE hX).1;obtain ⟨a1,a2⟩:=acc_bd d pre;have nb:=Pk.need_bdW x.ok d;obtain ⟨c0,c1,c2,c3,c4,c5,c6,c7,c8⟩:=b9c hX
  have hmx:Tryz.prog.follows .mixedOrders=true:=by kernel_rfl
  have hn1:1≤6-1-1:=by omega
  have hl0:w.heap.size≤W.heap.size:=hB1.size
  cases d <;> cases hdn:x.p.down
  ·have hacc:=acc_same (ys:=pre) (x:=x) (d:=false) hdn;have HA:=Lib.hid hacc;clear hacc
   gi_wp2
   gi_region_with_o (refine ⟨trivial,?_⟩;gi_at_call 201;refine (CallsIn.inRound l (callsIn_wide.2 (bZl x.p false hdn _))).mono ?_;rintro e w1 ⟨rfl,hb1⟩;have b1:=bdr hb1;have kD:=(b1.cell (p:=⟨w.heap.size,0,none⟩) sD).trans cD;have kS:=(b1.cell (p:=⟨w.heap.size+1,0,none⟩) sS).trans cS;have kX:=(b1.block Bx sX).trans hX;obtain ⟨k0,k1,k2,k3,k4,k5,k6,k7,k8⟩:=b9c kX;have z1:=b1.size;have tS:=Nat.lt_of_lt_of_le sS z1;have tD:=Nat.lt_of_lt_of_le sD z1)
   all_goals
    gi_wp2
    gi_region_with_o (refine ⟨trivial,?_⟩;gi_at_call 241;refine (CallsIn.inRound l (callsIn_wide.2 (cZc x.p false _ x.ok))).mono ?_;rintro e w2 ⟨rfl,hb2⟩;have b2:=b1.trans ((bdr hb2).mono z1);have jD:=(b2.cell (p:=⟨w.heap.size,0,none⟩) sD).trans cD;have jS:=(b2.cell (p:=⟨w.heap.size+1,0,none⟩) sS).trans cS;have fS2:=(b2.frozen (p:=⟨w.heap.size+1,0,none⟩) sS).trans fS;clear kS kD k0 k1 k2 k3 k4 k5 k6 k7 k8)
    all_goals
     gi_wp2
     all_goals (try go_bits)
     all_goals exact uZl b2 bS1 bD1 bL1 hB1 hl0 HA.out
  ·have hacc:=gZd (ys:=pre) (x:=x) (d:=false) (by simp [hdn]);have HA:=Lib.hid hacc;clear hacc
   gi_wp2
   gi_region_with_o (refine ⟨trivial,?_⟩;gi_at_call 201;refine (CallsIn.inRound l (callsIn_wide.2 (bZl x.p true hdn _))).mono ?_;rintro e w1 ⟨rfl,hb1⟩;have b1:=bdr hb1;have kD:=(b1.cell (p:=⟨w.heap.size,0,none⟩) sD).trans cD;have kS:=(b1.cell (p:=⟨w.heap.size+1,0,none⟩) sS).trans cS;have kX:=(b1.block Bx sX).trans hX;obtain ⟨k0,k1,k2,k3,k4,k5,k6,k7,k8⟩:=b9c kX;have z1:=b1.size;have tS:=Nat.lt_of_lt_of_le sS z1;have tD:=Nat.lt_of_lt_of_le sD z1)
   all_goals
    gi_wp2
    gi_region_with_o (refine ⟨trivial,?_⟩;gi_at_call 241;refine (CallsIn.inRound l (callsIn_wide.2 (cZc x.p false _ x.ok))).mono ?_;rintro e w2 ⟨rfl,hb2⟩;have b2:=b1.trans ((bdr hb2).mono z1);have jD:=(b2.cell (p:=⟨w.heap.size,0,none⟩) sD).trans cD;have jS:=(b2.cell (p:=⟨w.heap.size+1,0,none⟩) sS).trans cS;have fS2:=(b2.frozen (p:=⟨w.heap.size+1,0,none⟩) sS).trans fS;clear kS kD k0 k1 k2 k3 k4 k5 k6 k7 k8)
    all_goals
     gi_wp2
     all_goals (try go_bits)
     all_goals exact uZl b2 bS1 bD1 bL1 hB1 hl0 HA.out
  ·have hacc:=gZd (ys:=pre) (x:=x) (d:=true) (by simp [hdn]);have HA:=Lib.hid hacc;clear hacc
   gi_wp2
   gi_region_with_o (refine ⟨trivial,?_⟩;gi_at_call 201;refine (CallsIn.inRound l (callsIn_wide.2 (bZl x.p false hdn _))).mono ?_;rintro e w1 ⟨rfl,hb1⟩;have b1:=bdr hb1;have kD:=(b1.cell (p:=⟨w.heap.size,0,none⟩) sD).trans cD;have kS:=(b1.cell (p:=⟨w.heap.size+1,0,none⟩) sS).trans cS;have kX:=(b1.block Bx sX).trans hX;obtain ⟨k0,k1,k2,k3,k4,k5,k6,k7,k8⟩:=b9c kX;have z1:=b1.size;have tS:=Nat.lt_of_lt_of_le sS z1;have tD:=Nat.lt_of_lt_of_le sD z1)
   all_goals
    gi_wp2
    gi_region_with_o (refine ⟨trivial,?_⟩;gi_at_call 241;refine (CallsIn.inRound l (callsIn_wide.2 (cZc x.p true _ x.ok))).mono ?_;rintro e w2 ⟨rfl,hb2⟩;have b2:=b1.trans ((bdr hb2).mono z1);have jD:=(b2.cell (p:=⟨w.heap.size,0,none⟩) sD).trans cD;have jS:=(b2.cell (p:=⟨w.heap.size+1,0,none⟩) sS).trans cS;have fS2:=(b2.frozen (p:=⟨w.heap.size+1,0,none⟩) sS).trans fS;clear kS kD k0 k1 k2 k3 k4 k5 k6 k7 k8)
    all_goals
     gi_wp2
     all_goals (try go_bits)
     all_goals exact uZl b2 bS1 bD1 bL1 hB1 hl0 HA.out
  ·have hacc:=acc_same (ys:=pre) (x:=x) (d:=true) hdn;have HA:=Lib.hid hacc;clear hacc
   gi_wp2
   gi_region_with_o (refine ⟨trivial,?_⟩;gi_at_call 201;refine (CallsIn.inRound l (callsIn_wide.2 (bZl x.p true hdn _))).mono ?_;rintro e w1 ⟨rfl,hb1⟩;have b1:=bdr hb1;have kD:=(b1.cell (p:=⟨w.heap.size,0,none⟩) sD).trans cD;have kS:=(b1.cell (p:=⟨w.heap.size+1,0,none⟩) sS).trans cS;have kX:=(b1.block Bx sX).trans hX;obtain ⟨k0,k1,k2,k3,k4,k5,k6,k7,k8⟩:=b9c kX;have z1:=b1.size;have tS:=Nat.lt_of_lt_of_le sS z1;have tD:=Nat.lt_of_lt_of_le sD z1)
   all_goals
    gi_wp2
    gi_region_with_o (refine ⟨trivial,?_⟩;gi_at_call 241;refine (CallsIn.inRound l (callsIn_wide.2 (cZc x.p true _ x.ok))).mono ?_;rintro e w2 ⟨rfl,hb2⟩;have b2:=b1.trans ((bdr hb2).mono z1);have jD:=(b2.cell (p:=⟨w.heap.size,0,none⟩) sD).trans cD;have jS:=(b2.cell (p:=⟨w.heap.size+1,0,none⟩) sS).trans cS;have fS2:=(b2.frozen (p:=⟨w.heap.size+1,0,none⟩) sS).trans fS;clear kS kD k0 k1 k2 k3 k4 k5 k6 k7 k8)
    all_goals
     gi_wp2
     all_goals (try go_bits)
     all_goals exact uZl b2 bS1 bD1 bL1 hB1 hl0 HA.out
 case done =>
  rintro D ys W hD hys ⟨⟨bS1,bD1,bL1⟩,hB1⟩ hK;have cS:=bS1.cell;rw [acc_req hys] at cS
  gi_wp2
  refine ⟨by simp,.inl ⟨_,_,rfl,run_takeDeferred hK,?_⟩⟩;exact ⟨_,results_tmp rfl _ _ _,rfl,hB1.trans (belowK_b (w:=w) (Nat.le_refl _) W D _ _ (by omega) hK rfl rfl)⟩
 case stop =>
  rintro D c pre W _ _ h _;exact h.elim
end
section
attribute [local go_sem 5000] kZk kZj
end
section
attribute [local go_sem 5000] kZk kZj
theorem uZu (p:Pk) (w:World):Calls Tryz.prog 150 #[.int .i64 p.s] w fun e w'=>e=.returned (.bool p.down)∧w=w':=eZ7 p.s w
end
section
attribute [local go_sem 5000] kZk kZj
theorem gZv {w:World} {A:Option Addr} {L:List Pk} {p:Pk} {r:List Pk} (h:PV w A L) (e:L=p :: r):∃ b off,A=some ⟨b,off,none⟩∧b<w.heap.size∧cZz w b off p:=by
 subst e;obtain ⟨b,off,e,hb,hp⟩:=h.cells (by simp)
 have:=hp 0 p rfl
 exact ⟨b,off,e,hb,by simpa using this⟩
end
section
attribute [local go_sem 5000] kZk kZj
theorem request_w (A:Option Addr) (c:Nat) (L:List Pk) (w:World) (h:PV w A L) (hok:∀ p∈L,p.big) (h7:L.length≤10) :
  Calls Tryz.prog 110 #[.slice A L.length c] w fun e w'=>e=.returned (.tuple #[.int .i64 (reqM L).1,.int .i64 (reqM L).2])∧Below w.heap.size w w':=by
 have HOK:=hD hok;clear hok
 go_enter Tryz.func110,Tryz.ntmps110
 go_wp2_with fail
 go_loopw [4,5,6] (fun a b i wr=>∃ k:Nat,k≤L.length∧i=.int .i64 ((k:Int)-1)∧a=.int .i64 (reqM (L.drop k)).1∧b=.int .i64 (reqM (L.drop k)).2∧Below w.heap.size w wr) (fun _ _ i _=>(intOf i+1).toNat)
 case atStart=>exact ⟨L.length,Nat.le_refl _,rfl,by rw [List.drop_length];rfl,by rw [List.drop_length];rfl,Below.refl _ _⟩
 case round =>
  obtain ⟨k,hk,rfl,rfl,rfl,hB⟩:=hrel
  rcases k with _ | j
  ·have hd:decide (((0:Nat):Int)-1≥0)=false:=by simp
   have HBB:=hD hB;clear hB;rw [List.drop_zero];go_wp2;exact bodyPost_ret (v:=.tuple #[.int .i64 (reqM L).1,.int .i64 (reqM L).2]) (by simp only [results,Tryz.results110];go_simp) rfl ⟨rfl,HBB.out⟩
  ·have e1:((j+1:Nat):Int)-1=(j:Int):=by omega
   rw [e1]
   have hlt:j<L.length:=by omega
   have hd:decide ((j:Int)≥0)=true:=by simp
   have hd2:decide ((0:Int)≤(j:Int))=true:=by simp
   obtain ⟨b,off,rfl,hb,hps⟩:=(h.keep hB).cells (by omega);have hget:L[j]?=some L[j]:=List.getElem?_eq_getElem hlt;obtain ⟨c0,c1,c2,c3,c4,c5,c6,c7,c8⟩:=hps j _ hget;generalize hx:L[j]=p at *;have hpk:p.big:=HOK.out p (List.mem_of_getElem? hget);have hdrop:=pZw hget;obtain ⟨q1,q2,q3,q4⟩:=reqM_bdW (L:=L.drop (j+1)) (fun q hq=>HOK.out q (List.mem_of_mem_drop hq));rw [List.length_drop] at q2 q4
   have n1:=Pk.need_bdW hpk false;have n2:=Pk.need_bdW hpk true
   obtain ⟨U,hU⟩:∃ U,(reqM (L.drop (j+1))).1=U:=⟨_,rfl⟩
   obtain ⟨V,hV⟩:∃ V,(reqM (L.drop (j+1))).2=V:=⟨_,rfl⟩
   rw [hU] at q1 q2;rw [hV] at q3 q4;rw [hU,hV];have HU:=hD hU;have HV:=hD hV;have HD:=hD hdrop;have HPS:=hD hps;have HG:=hD hget;have HBB:=hD hB;clear hU hV hdrop hx hps hget hB e1
   go_wp2_with fail
   refine (eZ4 p _ hpk).mono ?_;rintro e w1 ⟨rfl,hb1⟩;have hc9:=(HPS.out j p HG.out).keep (hb1.block b hb);obtain ⟨d0,d1,d2,d3,d4,d5,d6,d7,d8⟩:=hc9;replace HBB:=hD (HBB.out.trans (hb1.mono HBB.out.size));clear hb1 c0 c1 c2 c3 c4 c5 c6 c7 c8;have hjs:IntKind.i64.wrap ((j:Int)-1)=(j:Int)-1:=IntWalk.i64_in _ (by omega)
   cases hdn:p.down
   ·go_wp2_with fail
    refine (uZu p _).mono ?_;rintro e w2 ⟨rfl,rfl⟩;rw [hdn];go_wp2
    go_roundw
    case rel=>exact ⟨j,by omega,by go_num,by rw [HD.out];simp [reqM,hdn,HU.out,HV.out],by rw [HD.out];simp [reqM,hdn,HU.out,HV.out],HBB.out⟩
    case measure=>simp [intOf]
   ·go_wp2_with fail
    refine (uZu p _).mono ?_;rintro e w2 ⟨rfl,rfl⟩;rw [hdn];go_wp2
    go_roundw
    case rel=>exact ⟨j,by omega,by go_num,by rw [HD.out];simp [reqM,hdn,HU.out,HV.out],by rw [HD.out];simp [reqM,hdn,HU.out,HV.out],HBB.out⟩
    case measure=>simp [intOf]
end
def rZa (n m:Int) (c:Ce):Bool:=runB c.co c.mc n&&(runB c.ro c.mr m&&(rng c.cw 0 30&&(rng c.ch 0 30&&(rng c.sk 0 15&&(rng c.px 0 10&&rng c.py 0 10)))))
theorem gZ9 (c:Ce) (n m:Int) (b:Bool) (w:World) (hn:1≤n) (hn5:n≤5) (hm:1≤m) (hm5:m≤5) (hb:rZa n m c=b):Calls Tryz.prog 126 #[.agg #[.int .i64 c.co,.int .i64 c.ro,.int .i64 c.mc,.int .i64 c.mr,.int .i64 c.cw,.int .i64 c.ch,.int .i64 c.sk,.int .i64 c.px,.int .i64 c.py],.int .i64 n,.int .i64 m] w fun e w'=>e=.returned (.bool b)∧Below w.heap.size w w':=by
 cases h1:runB c.co c.mc n
 ·have hbf:false=b:=by rw [<- hb];simp [rZa,h1]
  subst hbf
  go_enter Tryz.func126,Tryz.ntmps126
  go_wp2_with fail
  with_reducible refine (pZx _ _ n false _ hn hn5 h1).mono ?_
  rintro e w1 ⟨rfl,rfl⟩;go_wp2;go_ret;exact ⟨rfl,(by repeat (first | with_reducible exact Below.refl _ _ | with_reducible assumption | with_reducible refine jZd ?_|(with_reducible refine bset ?_ ?_;rotate_left;((try dsimp only);omega)) | refine jZa ?_ (by assumption) | with_reducible refine Below.drew ?_))⟩
 cases h2:runB c.ro c.mr m
 ·have hbf:false=b:=by rw [<- hb];simp [rZa,h2]
  subst hbf
  go_enter Tryz.func126,Tryz.ntmps126
  go_wp2_with fail
  with_reducible refine (pZx _ _ n true _ hn hn5 h1).mono ?_
  rintro e w1 ⟨rfl,rfl⟩
  go_wp2_with fail
  with_reducible refine (pZx _ _ m false _ hm hm5 h2).mono ?_
  rintro e w1 ⟨rfl,rfl⟩;go_wp2;go_ret;exact ⟨rfl,(by repeat (first | with_reducible exact Below.refl _ _ | with_reducible assumption | with_reducible refine jZd ?_|(with_reducible refine bset ?_ ?_;rotate_left;((try dsimp only);omega)) | refine jZa ?_ (by assumption) | with_reducible refine Below.drew ?_))⟩
 cases h3:(rng c.cw 0 30&&rng c.ch 0 30)
 ·have hbf:false=b:=by rw [<- hb];cases u:rng c.cw 0 30 <;> cases v:rng c.ch 0 30 <;> simp [rZa,u,v] at h3 ⊢
  subst hbf
  go_enter Tryz.func126,Tryz.ntmps126
  go_wp2_with fail
  with_reducible refine (pZx _ _ n true _ hn hn5 h1).mono ?_
  rintro e w1 ⟨rfl,rfl⟩
  go_wp2_with fail
  with_reducible refine (pZx _ _ m true _ hm hm5 h2).mono ?_
  rintro e w1 ⟨rfl,rfl⟩
  go_wp2_with fail
  with_reducible refine (kZm _ _ false _ h3).mono ?_
  rintro e w1 ⟨rfl,rfl⟩;go_wp2;go_ret;exact ⟨rfl,(by repeat (first | with_reducible exact Below.refl _ _ | with_reducible assumption | with_reducible refine jZd ?_|(with_reducible refine bset ?_ ?_;rotate_left;((try dsimp only);omega)) | refine jZa ?_ (by assumption) | with_reducible refine Below.drew ?_))⟩
 obtain ⟨h3a,h3b⟩:rng c.cw 0 30=true∧rng c.ch 0 30=true:=by simpa using h3
 cases h4:rng c.sk 0 15
 ·have hbf:false=b:=by rw [<- hb];simp [rZa,h4,h3a,h3b]
  subst hbf
  go_enter Tryz.func126,Tryz.ntmps126
  go_wp2_with fail
  with_reducible refine (pZx _ _ n true _ hn hn5 h1).mono ?_
  rintro e w1 ⟨rfl,rfl⟩
  go_wp2_with fail
  with_reducible refine (pZx _ _ m true _ hm hm5 h2).mono ?_
  rintro e w1 ⟨rfl,rfl⟩
  go_wp2_with fail
  with_reducible refine (kZm _ _ true _ h3).mono ?_
  rintro e w1 ⟨rfl,rfl⟩
  go_wp2_with fail
  with_reducible refine (kZu _ 0 15 false _ h4).mono ?_
  rintro e w1 ⟨rfl,rfl⟩;go_wp2;go_ret;exact ⟨rfl,(by repeat (first | with_reducible exact Below.refl _ _ | with_reducible assumption | with_reducible refine jZd ?_|(with_reducible refine bset ?_ ?_;rotate_left;((try dsimp only);omega)) | refine jZa ?_ (by assumption) | with_reducible refine Below.drew ?_))⟩
 cases h5:rng c.px 0 10
 ·have hbf:false=b:=by rw [<- hb];simp [rZa,h5,h3a,h3b]
  subst hbf
  go_enter Tryz.func126,Tryz.ntmps126
  go_wp2_with fail
  with_reducible refine (pZx _ _ n true _ hn hn5 h1).mono ?_
  rintro e w1 ⟨rfl,rfl⟩
  go_wp2_with fail
  with_reducible refine (pZx _ _ m true _ hm hm5 h2).mono ?_
  rintro e w1 ⟨rfl,rfl⟩
  go_wp2_with fail
  with_reducible refine (kZm _ _ true _ h3).mono ?_
  rintro e w1 ⟨rfl,rfl⟩
  go_wp2_with fail
  with_reducible refine (kZu _ 0 15 true _ h4).mono ?_
  rintro e w1 ⟨rfl,rfl⟩
  go_wp2_with fail
  with_reducible refine (kZu _ 0 10 false _ h5).mono ?_
  rintro e w1 ⟨rfl,rfl⟩;go_wp2;go_ret;exact ⟨rfl,(by repeat (first | with_reducible exact Below.refl _ _ | with_reducible assumption | with_reducible refine jZd ?_|(with_reducible refine bset ?_ ?_;rotate_left;((try dsimp only);omega)) | refine jZa ?_ (by assumption) | with_reducible refine Below.drew ?_))⟩
 have h6:rng c.py 0 10=b:=by rw [<- hb];simp [rZa,h1,h2,h4,h5,h3a,h3b]
 cases b
 all_goals
  go_enter Tryz.func126,Tryz.ntmps126
  go_wp2_with fail
  with_reducible refine (pZx _ _ n true _ hn hn5 h1).mono ?_
  rintro e w1 ⟨rfl,rfl⟩
  go_wp2_with fail
  with_reducible refine (pZx _ _ m true _ hm hm5 h2).mono ?_
  rintro e w1 ⟨rfl,rfl⟩
  go_wp2_with fail
  with_reducible refine (kZm _ _ true _ h3).mono ?_
  rintro e w1 ⟨rfl,rfl⟩
  go_wp2_with fail
  with_reducible refine (kZu _ 0 15 true _ h4).mono ?_
  rintro e w1 ⟨rfl,rfl⟩
  go_wp2_with fail
  with_reducible refine (kZu _ 0 10 true _ h5).mono ?_
  rintro e w1 ⟨rfl,rfl⟩
  go_wp2_with fail
  with_reducible refine (kZu _ 0 10 _ _ h6).mono ?_
  rintro e w1 ⟨rfl,rfl⟩;go_wp2;go_ret;exact ⟨rfl,(by repeat (first | with_reducible exact Below.refl _ _ | with_reducible assumption | with_reducible refine jZd ?_|(with_reducible refine bset ?_ ?_;rotate_left;((try dsimp only);omega)) | refine jZa ?_ (by assumption) | with_reducible refine Below.drew ?_))⟩
theorem bZu {L:List Ln} (h:kZd L=true):1≤L.length∧L.length≤5:=by
 simp only [kZd,Bool.and_eq_true,pZa] at h;omega
theorem vZs (c:Ce) (n1 n2 n3 c1 c2 c3:Nat) (A1 A2 A3:Option Addr) (b:Bool) (w:World) (hn:n1≤1048576) (hm:n2≤1048576) (hb:rZa n1 n2 c=b):Calls Tryz.prog 139 #[.agg #[.slice A1 n1 c1,.slice A2 n2 c2,.slice A3 n3 c3],.agg #[.int .i64 c.co,.int .i64 c.ro,.int .i64 c.mc,.int .i64 c.mr,.int .i64 c.cw,.int .i64 c.ch,.int .i64 c.sk,.int .i64 c.px,.int .i64 c.py]] w fun e w'=>e=.returned (.bool b)∧Below w.heap.size w w':=by
 cases h1:rng c.co 0 ((n1:Int)-1)
 ·have hbf:false=b:=by rw [<- hb];simp [rZa,runB,h1]
  subst hbf
  go_enter Tryz.func139,Tryz.ntmps139
  go_wp2_with fail
  with_reducible refine (jZh _ 0 ((n1:Int)-1) false _ h1).mono ?_
  rintro e w1 ⟨rfl,rfl⟩;go_wp2;go_ret;exact ⟨rfl,(by repeat (first | with_reducible exact Below.refl _ _ | with_reducible assumption | with_reducible refine jZd ?_|(with_reducible refine bset ?_ ?_;rotate_left;((try dsimp only);omega)) | refine jZa ?_ (by assumption) | with_reducible refine Below.drew ?_))⟩
 have ha1:=pZa.1 h1
 cases h2:rng c.ro 0 ((n2:Int)-1)
 ·have hbf:false=b:=by rw [<- hb];simp [rZa,runB,h2]
  subst hbf
  go_enter Tryz.func139,Tryz.ntmps139
  go_wp2_with fail
  with_reducible refine (jZh _ 0 ((n1:Int)-1) true _ h1).mono ?_
  rintro e w1 ⟨rfl,rfl⟩
  go_wp2_with fail
  with_reducible refine (jZh _ 0 ((n2:Int)-1) false _ h2).mono ?_
  rintro e w1 ⟨rfl,rfl⟩;go_wp2;go_ret;exact ⟨rfl,(by repeat (first | with_reducible exact Below.refl _ _ | with_reducible assumption | with_reducible refine jZd ?_|(with_reducible refine bset ?_ ?_;rotate_left;((try dsimp only);omega)) | refine jZa ?_ (by assumption) | with_reducible refine Below.drew ?_))⟩
 have ha2:=pZa.1 h2
 cases h3:rng c.mc 1 ((n1:Int)-c.co)
 ·have hbf:false=b:=by rw [<- hb];simp [rZa,runB,h3]
  subst hbf
  go_enter Tryz.func139,Tryz.ntmps139
  go_wp2_with fail
  with_reducible refine (jZh _ 0 ((n1:Int)-1) true _ h1).mono ?_
  rintro e w1 ⟨rfl,rfl⟩
  go_wp2_with fail
  with_reducible refine (jZh _ 0 ((n2:Int)-1) true _ h2).mono ?_
  rintro e w1 ⟨rfl,rfl⟩
  go_wp2_with fail
  with_reducible refine (jZh _ 1 ((n1:Int)-c.co) false _ h3).mono ?_
  rintro e w1 ⟨rfl,rfl⟩;go_wp2;go_ret;exact ⟨rfl,(by repeat (first | with_reducible exact Below.refl _ _ | with_reducible assumption | with_reducible refine jZd ?_|(with_reducible refine bset ?_ ?_;rotate_left;((try dsimp only);omega)) | refine jZa ?_ (by assumption) | with_reducible refine Below.drew ?_))⟩
 cases h4:rng c.mr 1 ((n2:Int)-c.ro)
 ·have hbf:false=b:=by rw [<- hb];simp [rZa,runB,h4]
  subst hbf
  go_enter Tryz.func139,Tryz.ntmps139
  go_wp2_with fail
  with_reducible refine (jZh _ 0 ((n1:Int)-1) true _ h1).mono ?_
  rintro e w1 ⟨rfl,rfl⟩
  go_wp2_with fail
  with_reducible refine (jZh _ 0 ((n2:Int)-1) true _ h2).mono ?_
  rintro e w1 ⟨rfl,rfl⟩
  go_wp2_with fail
  with_reducible refine (jZh _ 1 ((n1:Int)-c.co) true _ h3).mono ?_
  rintro e w1 ⟨rfl,rfl⟩
  go_wp2_with fail
  with_reducible refine (jZh _ 1 ((n2:Int)-c.ro) false _ h4).mono ?_
  rintro e w1 ⟨rfl,rfl⟩;go_wp2;go_ret;exact ⟨rfl,(by repeat (first | with_reducible exact Below.refl _ _ | with_reducible assumption | with_reducible refine jZd ?_|(with_reducible refine bset ?_ ?_;rotate_left;((try dsimp only);omega)) | refine jZa ?_ (by assumption) | with_reducible refine Below.drew ?_))⟩
 cases h5:rng c.cw 0 30
 ·have hbf:false=b:=by rw [<- hb];simp [rZa,runB,h5]
  subst hbf
  go_enter Tryz.func139,Tryz.ntmps139
  go_wp2_with fail
  with_reducible refine (jZh _ 0 ((n1:Int)-1) true _ h1).mono ?_
  rintro e w1 ⟨rfl,rfl⟩
  go_wp2_with fail
  with_reducible refine (jZh _ 0 ((n2:Int)-1) true _ h2).mono ?_
  rintro e w1 ⟨rfl,rfl⟩
  go_wp2_with fail
  with_reducible refine (jZh _ 1 ((n1:Int)-c.co) true _ h3).mono ?_
  rintro e w1 ⟨rfl,rfl⟩
  go_wp2_with fail
  with_reducible refine (jZh _ 1 ((n2:Int)-c.ro) true _ h4).mono ?_
  rintro e w1 ⟨rfl,rfl⟩
  go_wp2_with fail
  with_reducible refine (jZh _ 0 30 false _ h5).mono ?_
  rintro e w1 ⟨rfl,rfl⟩;go_wp2;go_ret;exact ⟨rfl,(by repeat (first | with_reducible exact Below.refl _ _ | with_reducible assumption | with_reducible refine jZd ?_|(with_reducible refine bset ?_ ?_;rotate_left;((try dsimp only);omega)) | refine jZa ?_ (by assumption) | with_reducible refine Below.drew ?_))⟩
 cases h6:rng c.ch 0 30
 ·have hbf:false=b:=by rw [<- hb];simp [rZa,runB,h6]
  subst hbf
  go_enter Tryz.func139,Tryz.ntmps139
  go_wp2_with fail
  with_reducible refine (jZh _ 0 ((n1:Int)-1) true _ h1).mono ?_
  rintro e w1 ⟨rfl,rfl⟩
  go_wp2_with fail
  with_reducible refine (jZh _ 0 ((n2:Int)-1) true _ h2).mono ?_
  rintro e w1 ⟨rfl,rfl⟩
  go_wp2_with fail
  with_reducible refine (jZh _ 1 ((n1:Int)-c.co) true _ h3).mono ?_
  rintro e w1 ⟨rfl,rfl⟩
  go_wp2_with fail
  with_reducible refine (jZh _ 1 ((n2:Int)-c.ro) true _ h4).mono ?_
  rintro e w1 ⟨rfl,rfl⟩
  go_wp2_with fail
  with_reducible refine (jZh _ 0 30 true _ h5).mono ?_
  rintro e w1 ⟨rfl,rfl⟩
  go_wp2_with fail
  with_reducible refine (jZh _ 0 30 false _ h6).mono ?_
  rintro e w1 ⟨rfl,rfl⟩;go_wp2;go_ret;exact ⟨rfl,(by repeat (first | with_reducible exact Below.refl _ _ | with_reducible assumption | with_reducible refine jZd ?_|(with_reducible refine bset ?_ ?_;rotate_left;((try dsimp only);omega)) | refine jZa ?_ (by assumption) | with_reducible refine Below.drew ?_))⟩
 cases h7:rng c.sk 0 15
 ·have hbf:false=b:=by rw [<- hb];simp [rZa,runB,h7]
  subst hbf
  go_enter Tryz.func139,Tryz.ntmps139
  go_wp2_with fail
  with_reducible refine (jZh _ 0 ((n1:Int)-1) true _ h1).mono ?_
  rintro e w1 ⟨rfl,rfl⟩
  go_wp2_with fail
  with_reducible refine (jZh _ 0 ((n2:Int)-1) true _ h2).mono ?_
  rintro e w1 ⟨rfl,rfl⟩
  go_wp2_with fail
  with_reducible refine (jZh _ 1 ((n1:Int)-c.co) true _ h3).mono ?_
  rintro e w1 ⟨rfl,rfl⟩
  go_wp2_with fail
  with_reducible refine (jZh _ 1 ((n2:Int)-c.ro) true _ h4).mono ?_
  rintro e w1 ⟨rfl,rfl⟩
  go_wp2_with fail
  with_reducible refine (jZh _ 0 30 true _ h5).mono ?_
  rintro e w1 ⟨rfl,rfl⟩
  go_wp2_with fail
  with_reducible refine (jZh _ 0 30 true _ h6).mono ?_
  rintro e w1 ⟨rfl,rfl⟩
  go_wp2_with fail
  with_reducible refine (jZh _ 0 15 false _ h7).mono ?_
  rintro e w1 ⟨rfl,rfl⟩;go_wp2;go_ret;exact ⟨rfl,(by repeat (first | with_reducible exact Below.refl _ _ | with_reducible assumption | with_reducible refine jZd ?_|(with_reducible refine bset ?_ ?_;rotate_left;((try dsimp only);omega)) | refine jZa ?_ (by assumption) | with_reducible refine Below.drew ?_))⟩
 cases h8:rng c.px 0 10
 ·have hbf:false=b:=by rw [<- hb];simp [rZa,runB,h8]
  subst hbf
  go_enter Tryz.func139,Tryz.ntmps139
  go_wp2_with fail
  with_reducible refine (jZh _ 0 ((n1:Int)-1) true _ h1).mono ?_
  rintro e w1 ⟨rfl,rfl⟩
  go_wp2_with fail
  with_reducible refine (jZh _ 0 ((n2:Int)-1) true _ h2).mono ?_
  rintro e w1 ⟨rfl,rfl⟩
  go_wp2_with fail
  with_reducible refine (jZh _ 1 ((n1:Int)-c.co) true _ h3).mono ?_
  rintro e w1 ⟨rfl,rfl⟩
  go_wp2_with fail
  with_reducible refine (jZh _ 1 ((n2:Int)-c.ro) true _ h4).mono ?_
  rintro e w1 ⟨rfl,rfl⟩
  go_wp2_with fail
  with_reducible refine (jZh _ 0 30 true _ h5).mono ?_
  rintro e w1 ⟨rfl,rfl⟩
  go_wp2_with fail
  with_reducible refine (jZh _ 0 30 true _ h6).mono ?_
  rintro e w1 ⟨rfl,rfl⟩
  go_wp2_with fail
  with_reducible refine (jZh _ 0 15 true _ h7).mono ?_
  rintro e w1 ⟨rfl,rfl⟩
  go_wp2_with fail
  with_reducible refine (jZh _ 0 10 false _ h8).mono ?_
  rintro e w1 ⟨rfl,rfl⟩;go_wp2;go_ret;exact ⟨rfl,(by repeat (first | with_reducible exact Below.refl _ _ | with_reducible assumption | with_reducible refine jZd ?_|(with_reducible refine bset ?_ ?_;rotate_left;((try dsimp only);omega)) | refine jZa ?_ (by assumption) | with_reducible refine Below.drew ?_))⟩
 have h9:rng c.py 0 10=b:=by rw [<- hb];simp [rZa,runB,h1,h2,h3,h4,h5,h6,h7,h8]
 cases b
 all_goals
  go_enter Tryz.func139,Tryz.ntmps139
  go_wp2_with fail
  with_reducible refine (jZh _ 0 ((n1:Int)-1) true _ h1).mono ?_
  rintro e w1 ⟨rfl,rfl⟩
  go_wp2_with fail
  with_reducible refine (jZh _ 0 ((n2:Int)-1) true _ h2).mono ?_
  rintro e w1 ⟨rfl,rfl⟩
  go_wp2_with fail
  with_reducible refine (jZh _ 1 ((n1:Int)-c.co) true _ h3).mono ?_
  rintro e w1 ⟨rfl,rfl⟩
  go_wp2_with fail
  with_reducible refine (jZh _ 1 ((n2:Int)-c.ro) true _ h4).mono ?_
  rintro e w1 ⟨rfl,rfl⟩
  go_wp2_with fail
  with_reducible refine (jZh _ 0 30 true _ h5).mono ?_
  rintro e w1 ⟨rfl,rfl⟩
  go_wp2_with fail
  with_reducible refine (jZh _ 0 30 true _ h6).mono ?_
  rintro e w1 ⟨rfl,rfl⟩
  go_wp2_with fail
  with_reducible refine (jZh _ 0 15 true _ h7).mono ?_
  rintro e w1 ⟨rfl,rfl⟩
  go_wp2_with fail
  with_reducible refine (jZh _ 0 10 true _ h8).mono ?_
  rintro e w1 ⟨rfl,rfl⟩
  go_wp2_with fail
  with_reducible refine (jZh _ 0 10 _ _ h9).mono ?_
  rintro e w1 ⟨rfl,rfl⟩;go_wp2;go_ret;exact ⟨rfl,(by repeat (first | with_reducible exact Below.refl _ _ | with_reducible assumption | with_reducible refine jZd ?_|(with_reducible refine bset ?_ ?_;rotate_left;((try dsimp only);omega)) | refine jZa ?_ (by assumption) | with_reducible refine Below.drew ?_))⟩
end Go.Proofs.YtfnpdlnepjhljaaGreat
