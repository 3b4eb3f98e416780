import Derived.Test.YtenckjdiggaonaaGreatQu08
set_option linter.unusedVariables false
set_option linter.unusedSimpArgs false
set_option maxRecDepth 100000
set_option maxHeartbeats 16000000
namespace Go.Proofs.YtenckjdiggaonaaGreat
open Go.RowKit
attribute [local go_sem] growUpon_value growUpon_skip growUpon_enter
section
theorem each_wc (A:Option Addr) (c:Nat) (R:List (List Value)) (U:List Value→List Value) (w:World) (h:RvK 37 w A R) (hl:∀ vs ∈ R,vs.length=37∧one vs) (hL:R.length≤1048576) (hU:∀ vs ∈ R,(U vs).length=9∧one (U vs))
  (hf:∀ vs ∈ R,∀ W,Below w.heap.size w W→Calls Tryz.prog 129 #[.agg vs.toArray] W fun e W'=>e=.returned (.agg (U vs).toArray)∧Below W.heap.size W W') :
  Calls Tryz.prog 128 #[.slice A R.length c,.func (.func 129) #[] #[]] w fun e w'=>e=.returned (.slice (some ⟨w.heap.size,0,none⟩) R.length R.length)∧RbK 9 w' w.heap.size 80 (R.map U)∧Below w.heap.size w w':=by
 obtain ⟨fm,hfm,hmk0⟩:=made_Cell;have HR:=hD (show ∀ vs ∈ R.map U,vs.length=9 from fun vs hv=>by obtain ⟨us,hu,rfl⟩:=List.mem_map.1 hv;exact (hU us hu).1);have HU:=hD hU;have HF:=hD hf;have HH:=hD h;have HL:=hD hl;have HFM:=hD hfm;clear hU hf h hfm hl;refine calls_abs Tryz.func128 rfl 26 (by simp only [Tryz.ntmps128]) (by simp) (fun t hsz hargs=>?_)
 have q0:t[0]?=some (.slice A R.length c):=get_of (by omega) (hargs 0 _ rfl);have q1:t[1]?=some (.func (.func 129) #[] #[]):=get_of (by omega) (hargs 1 _ rfl);clear hargs;obtain ⟨l0,e0⟩:=gE q0;obtain ⟨l1,e1⟩:=gE q1
 refine wp_seq_h fun K hK=>?_
 apply wp_region_lit
 repeat (first | go_step)
 refine hK.out _ _ ?_;clear hK K;refine wp_abw (fun t' W'=>t'.size=26∧t'[0]?=some (.slice A R.length c)∧t'[1]?=some (.func (.func 129) #[] #[])∧w=W') ⟨by simp [hsz],by simp [q0],by simp [q1],rfl⟩ ?_;clear hsz q0 l0 e0 q1 l1 e1 t;rintro t _ ⟨hsz,q0,q1,rfl⟩;have hmk:=hmk0 R.length w hL;clear hmk0;obtain ⟨l0,e0⟩:=gE q0;obtain ⟨l1,e1⟩:=gE q1
 refine wp_seq_h fun K hK=>?_
 apply wp_region_lit
 repeat (first | go_step)
 refine hK.out _ _ ?_;clear hK K;refine wp_abw (fun t' W'=>t'.size=26∧t'[0]?=some (.slice A R.length c)∧t'[1]?=some (.func (.func 129) #[] #[])∧t'[5]?=some (.slice (some ⟨w.heap.size,0,none⟩) R.length R.length)∧RpK 9 W' w.heap.size 80 R.length 0 (R.map U)∧Below w.heap.size w W') ⟨by simp [hsz],by simp [q0],by simp [q1],by simp [hsz],⟨RpK.new _ (HFM.out _),balloc (Below.refl _ _)⟩⟩ ?_
 clear hsz q0 l0 e0 q1 l1 e1 t hmk;rintro t W0 ⟨hsz,q0,q1,q5,hP,hB⟩
 refine wp_seq_h fun KE hKE=>?_
 obtain ⟨l0,e0⟩:=gE q0;obtain ⟨l1,e1⟩:=gE q1;obtain ⟨l5,e5⟩:=gE q5
 refine wp_seq_h fun K hK=>?_
 apply wp_region_lit
 repeat (first | go_step)
 refine hK.out _ _ ?_;clear hK K;refine wp_abw (fun t' W'=>t'.size=26∧t'[1]?=some (.func (.func 129) #[] #[])∧t'[5]?=some (.slice (some ⟨w.heap.size,0,none⟩) R.length R.length)∧t'[11]?=some (.slice A R.length c)∧t'[12]?=some (.int .i64 (R.length:Int))∧t'[13]?=some (.int .i64 ((0:Nat):Int))∧W0=W') ⟨by simp [hsz],by simp [q1],by simp [q5],by simp [hsz],by simp [hsz],by simp [hsz],rfl⟩ ?_
 clear hsz q0 l0 e0 q1 l1 e1 q5 l5 e5 t;rintro t _ ⟨hsz,q1,q5,q11,q12,q13,rfl⟩;apply wp_block
 refine wp_loop (fun a W=>∃ (t:Array Value) (k:Nat),a=⟨t,[]⟩∧k≤R.length∧t.size=26∧t[1]?=some (.func (.func 129) #[] #[])∧t[5]?=some (.slice (some ⟨w.heap.size,0,none⟩) R.length R.length)∧t[11]?=some (.slice A R.length c)∧t[12]?=some (.int .i64 (R.length:Int))∧t[13]?=some (.int .i64 (k:Int))∧RpK 9 W w.heap.size 80 R.length k (R.map U)∧Below w.heap.size w W) (fun a _=>R.length - (intOf (a.tmps.getD 13 undef)).toNat) ⟨t,0,rfl,by omega,hsz,q1,q5,q11,q12,q13,hP,hB⟩ ?_
 clear t hsz q1 q5 q11 q12 q13 hP hB W0;rintro a W ⟨t,k,rfl,hk,hsz,q1,q5,q11,q12,q13,hP,hB⟩
 have hmu:intOf (t.getD 13 undef)=(k:Int):=by rw [Array.getD_eq_getD_getElem?,q13];rfl
 dsimp only
 rw [hmu];clear hmu;have HP:=hD hP;have HB:=hD hB;clear hP hB
 by_cases hlt:k<R.length
 ·have hd:decide ((k:Int)<(R.length:Int))=true:=by simpa using hlt
  obtain ⟨l1,e1⟩:=gE q1;obtain ⟨l5,e5⟩:=gE q5;obtain ⟨l11,e11⟩:=gE q11;obtain ⟨l12,e12⟩:=gE q12;obtain ⟨l13,e13⟩:=gE q13
  refine wp_seq_h fun K hK=>?_
  apply wp_region_lit
  repeat (first | go_step)
  refine hK.out _ _ ?_;clear hK K
  refine wp_abw (fun t' W'=>t'.size=26∧t'[1]?=some (.func (.func 129) #[] #[])∧t'[5]?=some (.slice (some ⟨w.heap.size,0,none⟩) R.length R.length)∧t'[11]?=some (.slice A R.length c)∧t'[12]?=some (.int .i64 (R.length:Int))∧t'[13]?=some (.int .i64 (k:Int))∧t'[14]?=some (.bool true)∧W=W') ⟨by simp [hsz],by simp [q1],by simp [q5],by simp [q11],by simp [q12],by simp [q13],by simp [hsz,hd],rfl⟩ ?_
  clear hsz q1 l1 e1 q5 l5 e5 q11 l11 e11 q12 l12 e12 q13 l13 e13 t;rintro t _ ⟨hsz,q1,q5,q11,q12,q13,q14,rfl⟩;clear hd
  refine wp_seq_h fun K1 hK1=>?_
  refine wp_cond_true (by simp [Act.eval,q14]) ?_;apply wp_skip;simp only [Exit.then];refine hK1.out _ _ ?_;clear hK1 K1 q14
  refine wp_seq_h fun KB hKB=>?_
  apply wp_block;have hget:R[k]?=some R[k]:=List.getElem?_eq_getElem hlt;obtain ⟨b,off,rfl,hb,hps⟩:=(HH.out.keep HB.out) (by omega);have hc:=hps k _ hget;have hll:=HL.out _ (List.mem_of_getElem? hget);obtain ⟨hlv,hov⟩:=hll;have hUv:=HU.out _ (List.mem_of_getElem? hget);obtain ⟨hul,huo⟩:=hUv;have hfv:=HF.out _ (List.mem_of_getElem? hget)
  have hmv:(R.map U)[k]?=some (U R[k]):=by rw [List.getElem?_map,hget];rfl
  obtain ⟨x,hx⟩:∃ x,R[k]=x:=⟨_,rfl⟩
  rw [hx] at hc hlv hov hul huo hfv hmv;have HC:=hD hc;have HLV:=hD hlv;have HOV:=hD hov;have HUL:=hD hul;have HUO:=hD huo;have HFV:=hD hfv;have HMV:=hD hmv;clear hget hps hc hlv hov hul huo hfv hmv hx
  have hd1:(k:Int)<(R.length:Int):=by omega
  obtain ⟨l1,e1⟩:=gE q1;obtain ⟨l5,e5⟩:=gE q5;obtain ⟨l11,e11⟩:=gE q11;obtain ⟨l12,e12⟩:=gE q12;obtain ⟨l13,e13⟩:=gE q13
  refine wp_seq_h fun K hK=>?_
  apply wp_region_lit
  repeat (first | ((with_reducible show wpList _ _ _ _ _ _);refine ldK 108 _ x b (off+k*37) rfl rfl HC.out Tryz.underlying108 rfl (by rw [HLV.out];exact inf_widget) (by simp [Act.eval,hsz]) ?_) | ((with_reducible show wpList _ _ _ _ _ _);refine allocK 108 37 rfl rfl infz_widget (fun z hz=>?_)) | ((with_reducible show wpList _ _ _ _ _ _);refine stK 108 (.tmp 7) _ x W.heap.size 0 rfl rfl (thereB (newS _ _) (by rw [HLV.out,hz];omega)) (by rw [HLV.out];exact inf_widget) HOV.out (by simp [Act.eval,hsz]) (by simp [Act.eval,hsz]) ?_) | go_step)
  refine hK.out _ _ ?_;clear hK K
  refine wp_abw (fun t' W'=>t'.size=26∧t'[1]?=some (.func (.func 129) #[] #[])∧t'[5]?=some (.slice (some ⟨w.heap.size,0,none⟩) R.length R.length)∧t'[6]?=some (.int .i64 (k:Int))∧t'[7]?=some (.pointer (some ⟨W.heap.size,0,none⟩))∧t'[11]?=some (.slice (some ⟨b,off,none⟩) R.length c)∧t'[12]?=some (.int .i64 (R.length:Int))∧t'[13]?=some (.int .i64 (k:Int))∧W'.rangeAt W.heap.size 0 x∧Below W.heap.size W W') ⟨by simp [hsz],by simp [q1],by simp [q5],by simp [hsz],by simp [hsz],by simp [q11],by simp [q12],by simp [q13],⟨World.rangeAt_setCells_same _ _ _ _ (thereB (newS _ _) (by rw [HLV.out,hz];omega)),below_setCells (Nat.le_refl _) _ _ _ (balloc (Below.refl _ _))⟩⟩ ?_
  clear hsz q1 l1 e1 q5 l5 e5 q11 l11 e11 q12 l12 e12 q13 l13 e13 t hd1 z hz;rintro t W1 ⟨hsz,q1,q5,q6,q7,q11,q12,q13,hx1,hb1⟩;have HX1:=hD hx1;have hwg:=HP.out.lt;replace HP:=hD (HP.out.keep hb1);replace HB:=hD (bkeep2 HB.out hb1);clear hx1 hb1 HC
  have hd1:(k:Int)<(R.length:Int):=by omega
  obtain ⟨l1,e1⟩:=gE q1;obtain ⟨l5,e5⟩:=gE q5;obtain ⟨l6,e6⟩:=gE q6;obtain ⟨l7,e7⟩:=gE q7;obtain ⟨l11,e11⟩:=gE q11;obtain ⟨l12,e12⟩:=gE q12;obtain ⟨l13,e13⟩:=gE q13;apply wp_region_lit
  repeat (first | ((with_reducible show wpList _ _ _ _ _ _);refine ldK 108 _ x W.heap.size 0 rfl rfl HX1.out Tryz.underlying108 rfl (by rw [HLV.out];exact inf_widget) (by simp [Act.eval,hsz,e7]) ?_) | go_step)
  refine (HFV.out _ HB.out).mono ?_;rintro e W2 ⟨rfl,hb2⟩
  dsimp only
  have hth:W2.there w.heap.size (k*9) (U x).length:=by rw [HUL.out];exact (HP.out.keep hb2).there hlt
  repeat (first | ((with_reducible show wpList _ _ _ _ _ _);refine stK 80 _ _ (U x) w.heap.size (k*9) rfl rfl hth (by rw [HUL.out];exact inf_Cell) HUO.out (by simp [Act.eval,hsz,hd1]) (by simp [Act.eval,hsz]) ?_) | go_step)
  try simp only [Exit.inBlock]
  refine hKB.out _ _ ?_;clear hKB KB
  refine wp_abw (fun t' W'=>t'.size=26∧t'[1]?=some (.func (.func 129) #[] #[])∧t'[5]?=some (.slice (some ⟨w.heap.size,0,none⟩) R.length R.length)∧t'[11]?=some (.slice (some ⟨b,off,none⟩) R.length c)∧t'[12]?=some (.int .i64 (R.length:Int))∧t'[13]?=some (.int .i64 (k:Int))∧RpK 9 W' w.heap.size 80 R.length (k+1) (R.map U)∧Below w.heap.size w W') ⟨by simp [hsz],by simp [q1],by simp [q5],by simp [q11],by simp [q12],by simp [q13],⟨(HP.out.keep hb2).step HR.out HMV.out hlt,below_setCells (Nat.le_refl _) _ _ _ (bkeep2 HB.out hb2)⟩⟩ ?_
  clear hsz q1 l1 e1 q5 l5 e5 q6 l6 e6 q7 l7 e7 q11 l11 e11 q12 l12 e12 q13 l13 e13 t hth hb2 HP HB hd1;rintro t W3 ⟨hsz,q1,q5,q11,q12,q13,hP,hB⟩;obtain ⟨l1,e1⟩:=gE q1;obtain ⟨l5,e5⟩:=gE q5;obtain ⟨l11,e11⟩:=gE q11;obtain ⟨l12,e12⟩:=gE q12;obtain ⟨l13,e13⟩:=gE q13;apply wp_region_lit
  repeat go_step
  try simp only [Exit.then]
  refine ⟨⟨_,k+1,rfl,by omega,by simp [hsz],by simp [q1],by simp [q5],by simp [q11],by simp [q12],by simp [hsz],hP,hB⟩,?_⟩
  ·simp [hsz,intOf]
   omega
 ·have hd:decide ((k:Int)<(R.length:Int))=false:=decide_eq_false (by omega);obtain ⟨l1,e1⟩:=gE q1;obtain ⟨l5,e5⟩:=gE q5;obtain ⟨l11,e11⟩:=gE q11;obtain ⟨l12,e12⟩:=gE q12;obtain ⟨l13,e13⟩:=gE q13
  refine wp_seq_h fun K hK=>?_
  apply wp_region_lit
  repeat (first | go_step)
  refine hK.out _ _ ?_;clear hK K
  refine wp_abw (fun t' W'=>t'.size=26∧t'[1]?=some (.func (.func 129) #[] #[])∧t'[5]?=some (.slice (some ⟨w.heap.size,0,none⟩) R.length R.length)∧t'[11]?=some (.slice A R.length c)∧t'[12]?=some (.int .i64 (R.length:Int))∧t'[13]?=some (.int .i64 (k:Int))∧t'[14]?=some (.bool false)∧W=W') ⟨by simp [hsz],by simp [q1],by simp [q5],by simp [q11],by simp [q12],by simp [q13],by simp [hsz,hd],rfl⟩ ?_
  clear hsz q1 l1 e1 q5 l5 e5 q11 l11 e11 q12 l12 e12 q13 l13 e13 t;rintro t _ ⟨hsz,q1,q5,q11,q12,q13,q14,rfl⟩
  refine wp_seq_h fun K1 hK1=>?_
  refine wp_cond_false (by simp [Act.eval,q14]) ?_;apply wp_exit;simp only [Exit.then,Exit.inBlock,if_true];refine hKE.out _ _ ?_;clear hd;obtain ⟨l1,e1⟩:=gE q1;obtain ⟨l5,e5⟩:=gE q5;obtain ⟨l11,e11⟩:=gE q11;obtain ⟨l12,e12⟩:=gE q12;obtain ⟨l13,e13⟩:=gE q13;obtain ⟨l14,e14⟩:=gE q14
  repeat go_step
  refine bodyPost_ret (results_tmp rfl _ _ _) rfl ?_;exact ⟨by simp [hsz],HP.out.whole (by simp) (by omega),HB.out⟩
end
section
theorem each_wl (A:Option Addr) (c:Nat) (R:List (List Value)) (U:List Value→List Value) (w:World) (h:RvK 37 w A R) (hl:∀ vs ∈ R,vs.length=37∧one vs) (hL:R.length≤1048576) (hU:∀ vs ∈ R,(U vs).length=9∧one (U vs))
  (hf:∀ vs ∈ R,∀ W,Below w.heap.size w W→Calls Tryz.prog 131 #[.agg vs.toArray] W fun e W'=>e=.returned (.agg (U vs).toArray)∧Below W.heap.size W W') :
  Calls Tryz.prog 130 #[.slice A R.length c,.func (.func 131) #[] #[]] w fun e w'=>e=.returned (.slice (some ⟨w.heap.size,0,none⟩) R.length R.length)∧RbK 9 w' w.heap.size 82 (R.map U)∧Below w.heap.size w w':=by
 obtain ⟨fm,hfm,hmk0⟩:=made_Place;have HR:=hD (show ∀ vs ∈ R.map U,vs.length=9 from fun vs hv=>by obtain ⟨us,hu,rfl⟩:=List.mem_map.1 hv;exact (hU us hu).1);have HU:=hD hU;have HF:=hD hf;have HH:=hD h;have HL:=hD hl;have HFM:=hD hfm;clear hU hf h hfm hl;refine calls_abs Tryz.func130 rfl 26 (by simp only [Tryz.ntmps130]) (by simp) (fun t hsz hargs=>?_)
 have q0:t[0]?=some (.slice A R.length c):=get_of (by omega) (hargs 0 _ rfl);have q1:t[1]?=some (.func (.func 131) #[] #[]):=get_of (by omega) (hargs 1 _ rfl);clear hargs;obtain ⟨l0,e0⟩:=gE q0;obtain ⟨l1,e1⟩:=gE q1
 refine wp_seq_h fun K hK=>?_
 apply wp_region_lit
 repeat (first | go_step)
 refine hK.out _ _ ?_;clear hK K;refine wp_abw (fun t' W'=>t'.size=26∧t'[0]?=some (.slice A R.length c)∧t'[1]?=some (.func (.func 131) #[] #[])∧w=W') ⟨by simp [hsz],by simp [q0],by simp [q1],rfl⟩ ?_;clear hsz q0 l0 e0 q1 l1 e1 t;rintro t _ ⟨hsz,q0,q1,rfl⟩;have hmk:=hmk0 R.length w hL;clear hmk0;obtain ⟨l0,e0⟩:=gE q0;obtain ⟨l1,e1⟩:=gE q1
 refine wp_seq_h fun K hK=>?_
 apply wp_region_lit
 repeat (first | go_step)
 refine hK.out _ _ ?_;clear hK K;refine wp_abw (fun t' W'=>t'.size=26∧t'[0]?=some (.slice A R.length c)∧t'[1]?=some (.func (.func 131) #[] #[])∧t'[5]?=some (.slice (some ⟨w.heap.size,0,none⟩) R.length R.length)∧RpK 9 W' w.heap.size 82 R.length 0 (R.map U)∧Below w.heap.size w W') ⟨by simp [hsz],by simp [q0],by simp [q1],by simp [hsz],⟨RpK.new _ (HFM.out _),balloc (Below.refl _ _)⟩⟩ ?_
 clear hsz q0 l0 e0 q1 l1 e1 t hmk;rintro t W0 ⟨hsz,q0,q1,q5,hP,hB⟩
 refine wp_seq_h fun KE hKE=>?_
 obtain ⟨l0,e0⟩:=gE q0;obtain ⟨l1,e1⟩:=gE q1;obtain ⟨l5,e5⟩:=gE q5
 refine wp_seq_h fun K hK=>?_
 apply wp_region_lit
 repeat (first | go_step)
 refine hK.out _ _ ?_;clear hK K;refine wp_abw (fun t' W'=>t'.size=26∧t'[1]?=some (.func (.func 131) #[] #[])∧t'[5]?=some (.slice (some ⟨w.heap.size,0,none⟩) R.length R.length)∧t'[11]?=some (.slice A R.length c)∧t'[12]?=some (.int .i64 (R.length:Int))∧t'[13]?=some (.int .i64 ((0:Nat):Int))∧W0=W') ⟨by simp [hsz],by simp [q1],by simp [q5],by simp [hsz],by simp [hsz],by simp [hsz],rfl⟩ ?_
 clear hsz q0 l0 e0 q1 l1 e1 q5 l5 e5 t;rintro t _ ⟨hsz,q1,q5,q11,q12,q13,rfl⟩;apply wp_block
 refine wp_loop (fun a W=>∃ (t:Array Value) (k:Nat),a=⟨t,[]⟩∧k≤R.length∧t.size=26∧t[1]?=some (.func (.func 131) #[] #[])∧t[5]?=some (.slice (some ⟨w.heap.size,0,none⟩) R.length R.length)∧t[11]?=some (.slice A R.length c)∧t[12]?=some (.int .i64 (R.length:Int))∧t[13]?=some (.int .i64 (k:Int))∧RpK 9 W w.heap.size 82 R.length k (R.map U)∧Below w.heap.size w W) (fun a _=>R.length - (intOf (a.tmps.getD 13 undef)).toNat) ⟨t,0,rfl,by omega,hsz,q1,q5,q11,q12,q13,hP,hB⟩ ?_
 clear t hsz q1 q5 q11 q12 q13 hP hB W0;rintro a W ⟨t,k,rfl,hk,hsz,q1,q5,q11,q12,q13,hP,hB⟩
 have hmu:intOf (t.getD 13 undef)=(k:Int):=by rw [Array.getD_eq_getD_getElem?,q13];rfl
 dsimp only
 rw [hmu];clear hmu;have HP:=hD hP;have HB:=hD hB;clear hP hB
 by_cases hlt:k<R.length
 ·have hd:decide ((k:Int)<(R.length:Int))=true:=by simpa using hlt
  obtain ⟨l1,e1⟩:=gE q1;obtain ⟨l5,e5⟩:=gE q5;obtain ⟨l11,e11⟩:=gE q11;obtain ⟨l12,e12⟩:=gE q12;obtain ⟨l13,e13⟩:=gE q13
  refine wp_seq_h fun K hK=>?_
  apply wp_region_lit
  repeat (first | go_step)
  refine hK.out _ _ ?_;clear hK K
  refine wp_abw (fun t' W'=>t'.size=26∧t'[1]?=some (.func (.func 131) #[] #[])∧t'[5]?=some (.slice (some ⟨w.heap.size,0,none⟩) R.length R.length)∧t'[11]?=some (.slice A R.length c)∧t'[12]?=some (.int .i64 (R.length:Int))∧t'[13]?=some (.int .i64 (k:Int))∧t'[14]?=some (.bool true)∧W=W') ⟨by simp [hsz],by simp [q1],by simp [q5],by simp [q11],by simp [q12],by simp [q13],by simp [hsz,hd],rfl⟩ ?_
  clear hsz q1 l1 e1 q5 l5 e5 q11 l11 e11 q12 l12 e12 q13 l13 e13 t;rintro t _ ⟨hsz,q1,q5,q11,q12,q13,q14,rfl⟩;clear hd
  refine wp_seq_h fun K1 hK1=>?_
  refine wp_cond_true (by simp [Act.eval,q14]) ?_;apply wp_skip;simp only [Exit.then];refine hK1.out _ _ ?_;clear hK1 K1 q14
  refine wp_seq_h fun KB hKB=>?_
  apply wp_block;have hget:R[k]?=some R[k]:=List.getElem?_eq_getElem hlt;obtain ⟨b,off,rfl,hb,hps⟩:=(HH.out.keep HB.out) (by omega);have hc:=hps k _ hget;have hll:=HL.out _ (List.mem_of_getElem? hget);obtain ⟨hlv,hov⟩:=hll;have hUv:=HU.out _ (List.mem_of_getElem? hget);obtain ⟨hul,huo⟩:=hUv;have hfv:=HF.out _ (List.mem_of_getElem? hget)
  have hmv:(R.map U)[k]?=some (U R[k]):=by rw [List.getElem?_map,hget];rfl
  obtain ⟨x,hx⟩:∃ x,R[k]=x:=⟨_,rfl⟩
  rw [hx] at hc hlv hov hul huo hfv hmv;have HC:=hD hc;have HLV:=hD hlv;have HOV:=hD hov;have HUL:=hD hul;have HUO:=hD huo;have HFV:=hD hfv;have HMV:=hD hmv;clear hget hps hc hlv hov hul huo hfv hmv hx
  have hd1:(k:Int)<(R.length:Int):=by omega
  obtain ⟨l1,e1⟩:=gE q1;obtain ⟨l5,e5⟩:=gE q5;obtain ⟨l11,e11⟩:=gE q11;obtain ⟨l12,e12⟩:=gE q12;obtain ⟨l13,e13⟩:=gE q13
  refine wp_seq_h fun K hK=>?_
  apply wp_region_lit
  repeat (first | ((with_reducible show wpList _ _ _ _ _ _);refine ldK 108 _ x b (off+k*37) rfl rfl HC.out Tryz.underlying108 rfl (by rw [HLV.out];exact inf_widget) (by simp [Act.eval,hsz]) ?_) | ((with_reducible show wpList _ _ _ _ _ _);refine allocK 108 37 rfl rfl infz_widget (fun z hz=>?_)) | ((with_reducible show wpList _ _ _ _ _ _);refine stK 108 (.tmp 7) _ x W.heap.size 0 rfl rfl (thereB (newS _ _) (by rw [HLV.out,hz];omega)) (by rw [HLV.out];exact inf_widget) HOV.out (by simp [Act.eval,hsz]) (by simp [Act.eval,hsz]) ?_) | go_step)
  refine hK.out _ _ ?_;clear hK K
  refine wp_abw (fun t' W'=>t'.size=26∧t'[1]?=some (.func (.func 131) #[] #[])∧t'[5]?=some (.slice (some ⟨w.heap.size,0,none⟩) R.length R.length)∧t'[6]?=some (.int .i64 (k:Int))∧t'[7]?=some (.pointer (some ⟨W.heap.size,0,none⟩))∧t'[11]?=some (.slice (some ⟨b,off,none⟩) R.length c)∧t'[12]?=some (.int .i64 (R.length:Int))∧t'[13]?=some (.int .i64 (k:Int))∧W'.rangeAt W.heap.size 0 x∧Below W.heap.size W W') ⟨by simp [hsz],by simp [q1],by simp [q5],by simp [hsz],by simp [hsz],by simp [q11],by simp [q12],by simp [q13],⟨World.rangeAt_setCells_same _ _ _ _ (thereB (newS _ _) (by rw [HLV.out,hz];omega)),below_setCells (Nat.le_refl _) _ _ _ (balloc (Below.refl _ _))⟩⟩ ?_
  clear hsz q1 l1 e1 q5 l5 e5 q11 l11 e11 q12 l12 e12 q13 l13 e13 t hd1 z hz;rintro t W1 ⟨hsz,q1,q5,q6,q7,q11,q12,q13,hx1,hb1⟩;have HX1:=hD hx1;have hwg:=HP.out.lt;replace HP:=hD (HP.out.keep hb1);replace HB:=hD (bkeep2 HB.out hb1);clear hx1 hb1 HC
  have hd1:(k:Int)<(R.length:Int):=by omega
  obtain ⟨l1,e1⟩:=gE q1;obtain ⟨l5,e5⟩:=gE q5;obtain ⟨l6,e6⟩:=gE q6;obtain ⟨l7,e7⟩:=gE q7;obtain ⟨l11,e11⟩:=gE q11;obtain ⟨l12,e12⟩:=gE q12;obtain ⟨l13,e13⟩:=gE q13;apply wp_region_lit
  repeat (first | ((with_reducible show wpList _ _ _ _ _ _);refine ldK 108 _ x W.heap.size 0 rfl rfl HX1.out Tryz.underlying108 rfl (by rw [HLV.out];exact inf_widget) (by simp [Act.eval,hsz,e7]) ?_) | go_step)
  refine (HFV.out _ HB.out).mono ?_;rintro e W2 ⟨rfl,hb2⟩
  dsimp only
  have hth:W2.there w.heap.size (k*9) (U x).length:=by rw [HUL.out];exact (HP.out.keep hb2).there hlt
  repeat (first | ((with_reducible show wpList _ _ _ _ _ _);refine stK 82 _ _ (U x) w.heap.size (k*9) rfl rfl hth (by rw [HUL.out];exact inf_Place) HUO.out (by simp [Act.eval,hsz,hd1]) (by simp [Act.eval,hsz]) ?_) | go_step)
  try simp only [Exit.inBlock]
  refine hKB.out _ _ ?_;clear hKB KB
  refine wp_abw (fun t' W'=>t'.size=26∧t'[1]?=some (.func (.func 131) #[] #[])∧t'[5]?=some (.slice (some ⟨w.heap.size,0,none⟩) R.length R.length)∧t'[11]?=some (.slice (some ⟨b,off,none⟩) R.length c)∧t'[12]?=some (.int .i64 (R.length:Int))∧t'[13]?=some (.int .i64 (k:Int))∧RpK 9 W' w.heap.size 82 R.length (k+1) (R.map U)∧Below w.heap.size w W') ⟨by simp [hsz],by simp [q1],by simp [q5],by simp [q11],by simp [q12],by simp [q13],⟨(HP.out.keep hb2).step HR.out HMV.out hlt,below_setCells (Nat.le_refl _) _ _ _ (bkeep2 HB.out hb2)⟩⟩ ?_
  clear hsz q1 l1 e1 q5 l5 e5 q6 l6 e6 q7 l7 e7 q11 l11 e11 q12 l12 e12 q13 l13 e13 t hth hb2 HP HB hd1;rintro t W3 ⟨hsz,q1,q5,q11,q12,q13,hP,hB⟩;obtain ⟨l1,e1⟩:=gE q1;obtain ⟨l5,e5⟩:=gE q5;obtain ⟨l11,e11⟩:=gE q11;obtain ⟨l12,e12⟩:=gE q12;obtain ⟨l13,e13⟩:=gE q13;apply wp_region_lit
  repeat go_step
  try simp only [Exit.then]
  refine ⟨⟨_,k+1,rfl,by omega,by simp [hsz],by simp [q1],by simp [q5],by simp [q11],by simp [q12],by simp [hsz],hP,hB⟩,?_⟩
  ·simp [hsz,intOf]
   omega
 ·have hd:decide ((k:Int)<(R.length:Int))=false:=decide_eq_false (by omega);obtain ⟨l1,e1⟩:=gE q1;obtain ⟨l5,e5⟩:=gE q5;obtain ⟨l11,e11⟩:=gE q11;obtain ⟨l12,e12⟩:=gE q12;obtain ⟨l13,e13⟩:=gE q13
  refine wp_seq_h fun K hK=>?_
  apply wp_region_lit
  repeat (first | go_step)
  refine hK.out _ _ ?_;clear hK K
  refine wp_abw (fun t' W'=>t'.size=26∧t'[1]?=some (.func (.func 131) #[] #[])∧t'[5]?=some (.slice (some ⟨w.heap.size,0,none⟩) R.length R.length)∧t'[11]?=some (.slice A R.length c)∧t'[12]?=some (.int .i64 (R.length:Int))∧t'[13]?=some (.int .i64 (k:Int))∧t'[14]?=some (.bool false)∧W=W') ⟨by simp [hsz],by simp [q1],by simp [q5],by simp [q11],by simp [q12],by simp [q13],by simp [hsz,hd],rfl⟩ ?_
  clear hsz q1 l1 e1 q5 l5 e5 q11 l11 e11 q12 l12 e12 q13 l13 e13 t;rintro t _ ⟨hsz,q1,q5,q11,q12,q13,q14,rfl⟩
  refine wp_seq_h fun K1 hK1=>?_
  refine wp_cond_false (by simp [Act.eval,q14]) ?_;apply wp_exit;simp only [Exit.then,Exit.inBlock,if_true];refine hKE.out _ _ ?_;clear hd;obtain ⟨l1,e1⟩:=gE q1;obtain ⟨l5,e5⟩:=gE q5;obtain ⟨l11,e11⟩:=gE q11;obtain ⟨l12,e12⟩:=gE q12;obtain ⟨l13,e13⟩:=gE q13;obtain ⟨l14,e14⟩:=gE q14
  repeat go_step
  refine bodyPost_ret (results_tmp rfl _ _ _) rfl ?_;exact ⟨by simp [hsz],HP.out.whole (by simp) (by omega),HB.out⟩
end
section
theorem each_wp (A:Option Addr) (c:Nat) (R:List (List Value)) (U:List Value→List Value) (w:World) (h:RvK 37 w A R) (hl:∀ vs ∈ R,vs.length=37∧one vs) (hL:R.length≤1048576) (hU:∀ vs ∈ R,(U vs).length=9∧one (U vs))
  (hf:∀ vs ∈ R,∀ W,Below w.heap.size w W→Calls Tryz.prog 133 #[.agg vs.toArray] W fun e W'=>e=.returned (.agg (U vs).toArray)∧Below W.heap.size W W') :
  Calls Tryz.prog 132 #[.slice A R.length c,.func (.func 133) #[] #[]] w fun e w'=>e=.returned (.slice (some ⟨w.heap.size,0,none⟩) R.length R.length)∧RbK 9 w' w.heap.size 78 (R.map U)∧Below w.heap.size w w':=by
 obtain ⟨fm,hfm,hmk0⟩:=made_Pack;have HR:=hD (show ∀ vs ∈ R.map U,vs.length=9 from fun vs hv=>by obtain ⟨us,hu,rfl⟩:=List.mem_map.1 hv;exact (hU us hu).1);have HU:=hD hU;have HF:=hD hf;have HH:=hD h;have HL:=hD hl;have HFM:=hD hfm;clear hU hf h hfm hl;refine calls_abs Tryz.func132 rfl 26 (by simp only [Tryz.ntmps132]) (by simp) (fun t hsz hargs=>?_)
 have q0:t[0]?=some (.slice A R.length c):=get_of (by omega) (hargs 0 _ rfl);have q1:t[1]?=some (.func (.func 133) #[] #[]):=get_of (by omega) (hargs 1 _ rfl);clear hargs;obtain ⟨l0,e0⟩:=gE q0;obtain ⟨l1,e1⟩:=gE q1
 refine wp_seq_h fun K hK=>?_
 apply wp_region_lit
 repeat (first | go_step)
 refine hK.out _ _ ?_;clear hK K;refine wp_abw (fun t' W'=>t'.size=26∧t'[0]?=some (.slice A R.length c)∧t'[1]?=some (.func (.func 133) #[] #[])∧w=W') ⟨by simp [hsz],by simp [q0],by simp [q1],rfl⟩ ?_;clear hsz q0 l0 e0 q1 l1 e1 t;rintro t _ ⟨hsz,q0,q1,rfl⟩;have hmk:=hmk0 R.length w hL;clear hmk0;obtain ⟨l0,e0⟩:=gE q0;obtain ⟨l1,e1⟩:=gE q1
 refine wp_seq_h fun K hK=>?_
 apply wp_region_lit
 repeat (first | go_step)
 refine hK.out _ _ ?_;clear hK K;refine wp_abw (fun t' W'=>t'.size=26∧t'[0]?=some (.slice A R.length c)∧t'[1]?=some (.func (.func 133) #[] #[])∧t'[5]?=some (.slice (some ⟨w.heap.size,0,none⟩) R.length R.length)∧RpK 9 W' w.heap.size 78 R.length 0 (R.map U)∧Below w.heap.size w W') ⟨by simp [hsz],by simp [q0],by simp [q1],by simp [hsz],⟨RpK.new _ (HFM.out _),balloc (Below.refl _ _)⟩⟩ ?_
 clear hsz q0 l0 e0 q1 l1 e1 t hmk;rintro t W0 ⟨hsz,q0,q1,q5,hP,hB⟩
 refine wp_seq_h fun KE hKE=>?_
 obtain ⟨l0,e0⟩:=gE q0;obtain ⟨l1,e1⟩:=gE q1;obtain ⟨l5,e5⟩:=gE q5
 refine wp_seq_h fun K hK=>?_
 apply wp_region_lit
 repeat (first | go_step)
 refine hK.out _ _ ?_;clear hK K;refine wp_abw (fun t' W'=>t'.size=26∧t'[1]?=some (.func (.func 133) #[] #[])∧t'[5]?=some (.slice (some ⟨w.heap.size,0,none⟩) R.length R.length)∧t'[11]?=some (.slice A R.length c)∧t'[12]?=some (.int .i64 (R.length:Int))∧t'[13]?=some (.int .i64 ((0:Nat):Int))∧W0=W') ⟨by simp [hsz],by simp [q1],by simp [q5],by simp [hsz],by simp [hsz],by simp [hsz],rfl⟩ ?_
 clear hsz q0 l0 e0 q1 l1 e1 q5 l5 e5 t;rintro t _ ⟨hsz,q1,q5,q11,q12,q13,rfl⟩;apply wp_block
 refine wp_loop (fun a W=>∃ (t:Array Value) (k:Nat),a=⟨t,[]⟩∧k≤R.length∧t.size=26∧t[1]?=some (.func (.func 133) #[] #[])∧t[5]?=some (.slice (some ⟨w.heap.size,0,none⟩) R.length R.length)∧t[11]?=some (.slice A R.length c)∧t[12]?=some (.int .i64 (R.length:Int))∧t[13]?=some (.int .i64 (k:Int))∧RpK 9 W w.heap.size 78 R.length k (R.map U)∧Below w.heap.size w W) (fun a _=>R.length - (intOf (a.tmps.getD 13 undef)).toNat) ⟨t,0,rfl,by omega,hsz,q1,q5,q11,q12,q13,hP,hB⟩ ?_
 clear t hsz q1 q5 q11 q12 q13 hP hB W0;rintro a W ⟨t,k,rfl,hk,hsz,q1,q5,q11,q12,q13,hP,hB⟩
 have hmu:intOf (t.getD 13 undef)=(k:Int):=by rw [Array.getD_eq_getD_getElem?,q13];rfl
 dsimp only
 rw [hmu];clear hmu;have HP:=hD hP;have HB:=hD hB;clear hP hB
 by_cases hlt:k<R.length
 ·have hd:decide ((k:Int)<(R.length:Int))=true:=by simpa using hlt
  obtain ⟨l1,e1⟩:=gE q1;obtain ⟨l5,e5⟩:=gE q5;obtain ⟨l11,e11⟩:=gE q11;obtain ⟨l12,e12⟩:=gE q12;obtain ⟨l13,e13⟩:=gE q13
  refine wp_seq_h fun K hK=>?_
  apply wp_region_lit
  repeat (first | go_step)
  refine hK.out _ _ ?_;clear hK K
  refine wp_abw (fun t' W'=>t'.size=26∧t'[1]?=some (.func (.func 133) #[] #[])∧t'[5]?=some (.slice (some ⟨w.heap.size,0,none⟩) R.length R.length)∧t'[11]?=some (.slice A R.length c)∧t'[12]?=some (.int .i64 (R.length:Int))∧t'[13]?=some (.int .i64 (k:Int))∧t'[14]?=some (.bool true)∧W=W') ⟨by simp [hsz],by simp [q1],by simp [q5],by simp [q11],by simp [q12],by simp [q13],by simp [hsz,hd],rfl⟩ ?_
  clear hsz q1 l1 e1 q5 l5 e5 q11 l11 e11 q12 l12 e12 q13 l13 e13 t;rintro t _ ⟨hsz,q1,q5,q11,q12,q13,q14,rfl⟩;clear hd
  refine wp_seq_h fun K1 hK1=>?_
  refine wp_cond_true (by simp [Act.eval,q14]) ?_;apply wp_skip;simp only [Exit.then];refine hK1.out _ _ ?_;clear hK1 K1 q14
  refine wp_seq_h fun KB hKB=>?_
  apply wp_block;have hget:R[k]?=some R[k]:=List.getElem?_eq_getElem hlt;obtain ⟨b,off,rfl,hb,hps⟩:=(HH.out.keep HB.out) (by omega);have hc:=hps k _ hget;have hll:=HL.out _ (List.mem_of_getElem? hget);obtain ⟨hlv,hov⟩:=hll;have hUv:=HU.out _ (List.mem_of_getElem? hget);obtain ⟨hul,huo⟩:=hUv;have hfv:=HF.out _ (List.mem_of_getElem? hget)
  have hmv:(R.map U)[k]?=some (U R[k]):=by rw [List.getElem?_map,hget];rfl
  obtain ⟨x,hx⟩:∃ x,R[k]=x:=⟨_,rfl⟩
  rw [hx] at hc hlv hov hul huo hfv hmv;have HC:=hD hc;have HLV:=hD hlv;have HOV:=hD hov;have HUL:=hD hul;have HUO:=hD huo;have HFV:=hD hfv;have HMV:=hD hmv;clear hget hps hc hlv hov hul huo hfv hmv hx
  have hd1:(k:Int)<(R.length:Int):=by omega
  obtain ⟨l1,e1⟩:=gE q1;obtain ⟨l5,e5⟩:=gE q5;obtain ⟨l11,e11⟩:=gE q11;obtain ⟨l12,e12⟩:=gE q12;obtain ⟨l13,e13⟩:=gE q13
  refine wp_seq_h fun K hK=>?_
  apply wp_region_lit
  repeat (first | ((with_reducible show wpList _ _ _ _ _ _);refine ldK 108 _ x b (off+k*37) rfl rfl HC.out Tryz.underlying108 rfl (by rw [HLV.out];exact inf_widget) (by simp [Act.eval,hsz]) ?_) | ((with_reducible show wpList _ _ _ _ _ _);refine allocK 108 37 rfl rfl infz_widget (fun z hz=>?_)) | ((with_reducible show wpList _ _ _ _ _ _);refine stK 108 (.tmp 7) _ x W.heap.size 0 rfl rfl (thereB (newS _ _) (by rw [HLV.out,hz];omega)) (by rw [HLV.out];exact inf_widget) HOV.out (by simp [Act.eval,hsz]) (by simp [Act.eval,hsz]) ?_) | go_step)
  refine hK.out _ _ ?_;clear hK K
  refine wp_abw (fun t' W'=>t'.size=26∧t'[1]?=some (.func (.func 133) #[] #[])∧t'[5]?=some (.slice (some ⟨w.heap.size,0,none⟩) R.length R.length)∧t'[6]?=some (.int .i64 (k:Int))∧t'[7]?=some (.pointer (some ⟨W.heap.size,0,none⟩))∧t'[11]?=some (.slice (some ⟨b,off,none⟩) R.length c)∧t'[12]?=some (.int .i64 (R.length:Int))∧t'[13]?=some (.int .i64 (k:Int))∧W'.rangeAt W.heap.size 0 x∧Below W.heap.size W W') ⟨by simp [hsz],by simp [q1],by simp [q5],by simp [hsz],by simp [hsz],by simp [q11],by simp [q12],by simp [q13],⟨World.rangeAt_setCells_same _ _ _ _ (thereB (newS _ _) (by rw [HLV.out,hz];omega)),below_setCells (Nat.le_refl _) _ _ _ (balloc (Below.refl _ _))⟩⟩ ?_
  clear hsz q1 l1 e1 q5 l5 e5 q11 l11 e11 q12 l12 e12 q13 l13 e13 t hd1 z hz;rintro t W1 ⟨hsz,q1,q5,q6,q7,q11,q12,q13,hx1,hb1⟩;have HX1:=hD hx1;have hwg:=HP.out.lt;replace HP:=hD (HP.out.keep hb1);replace HB:=hD (bkeep2 HB.out hb1);clear hx1 hb1 HC
  have hd1:(k:Int)<(R.length:Int):=by omega
  obtain ⟨l1,e1⟩:=gE q1;obtain ⟨l5,e5⟩:=gE q5;obtain ⟨l6,e6⟩:=gE q6;obtain ⟨l7,e7⟩:=gE q7;obtain ⟨l11,e11⟩:=gE q11;obtain ⟨l12,e12⟩:=gE q12;obtain ⟨l13,e13⟩:=gE q13;apply wp_region_lit
  repeat (first | ((with_reducible show wpList _ _ _ _ _ _);refine ldK 108 _ x W.heap.size 0 rfl rfl HX1.out Tryz.underlying108 rfl (by rw [HLV.out];exact inf_widget) (by simp [Act.eval,hsz,e7]) ?_) | go_step)
  refine (HFV.out _ HB.out).mono ?_;rintro e W2 ⟨rfl,hb2⟩
  dsimp only
  have hth:W2.there w.heap.size (k*9) (U x).length:=by rw [HUL.out];exact (HP.out.keep hb2).there hlt
  repeat (first | ((with_reducible show wpList _ _ _ _ _ _);refine stK 78 _ _ (U x) w.heap.size (k*9) rfl rfl hth (by rw [HUL.out];exact inf_Pack) HUO.out (by simp [Act.eval,hsz,hd1]) (by simp [Act.eval,hsz]) ?_) | go_step)
  try simp only [Exit.inBlock]
  refine hKB.out _ _ ?_;clear hKB KB
  refine wp_abw (fun t' W'=>t'.size=26∧t'[1]?=some (.func (.func 133) #[] #[])∧t'[5]?=some (.slice (some ⟨w.heap.size,0,none⟩) R.length R.length)∧t'[11]?=some (.slice (some ⟨b,off,none⟩) R.length c)∧t'[12]?=some (.int .i64 (R.length:Int))∧t'[13]?=some (.int .i64 (k:Int))∧RpK 9 W' w.heap.size 78 R.length (k+1) (R.map U)∧Below w.heap.size w W') ⟨by simp [hsz],by simp [q1],by simp [q5],by simp [q11],by simp [q12],by simp [q13],⟨(HP.out.keep hb2).step HR.out HMV.out hlt,below_setCells (Nat.le_refl _) _ _ _ (bkeep2 HB.out hb2)⟩⟩ ?_
  clear hsz q1 l1 e1 q5 l5 e5 q6 l6 e6 q7 l7 e7 q11 l11 e11 q12 l12 e12 q13 l13 e13 t hth hb2 HP HB hd1;rintro t W3 ⟨hsz,q1,q5,q11,q12,q13,hP,hB⟩;obtain ⟨l1,e1⟩:=gE q1;obtain ⟨l5,e5⟩:=gE q5;obtain ⟨l11,e11⟩:=gE q11;obtain ⟨l12,e12⟩:=gE q12;obtain ⟨l13,e13⟩:=gE q13;apply wp_region_lit
  repeat go_step
  try simp only [Exit.then]
  refine ⟨⟨_,k+1,rfl,by omega,by simp [hsz],by simp [q1],by simp [q5],by simp [q11],by simp [q12],by simp [hsz],hP,hB⟩,?_⟩
  ·simp [hsz,intOf]
   omega
 ·have hd:decide ((k:Int)<(R.length:Int))=false:=decide_eq_false (by omega);obtain ⟨l1,e1⟩:=gE q1;obtain ⟨l5,e5⟩:=gE q5;obtain ⟨l11,e11⟩:=gE q11;obtain ⟨l12,e12⟩:=gE q12;obtain ⟨l13,e13⟩:=gE q13
  refine wp_seq_h fun K hK=>?_
  apply wp_region_lit
  repeat (first | go_step)
  refine hK.out _ _ ?_;clear hK K
  refine wp_abw (fun t' W'=>t'.size=26∧t'[1]?=some (.func (.func 133) #[] #[])∧t'[5]?=some (.slice (some ⟨w.heap.size,0,none⟩) R.length R.length)∧t'[11]?=some (.slice A R.length c)∧t'[12]?=some (.int .i64 (R.length:Int))∧t'[13]?=some (.int .i64 (k:Int))∧t'[14]?=some (.bool false)∧W=W') ⟨by simp [hsz],by simp [q1],by simp [q5],by simp [q11],by simp [q12],by simp [q13],by simp [hsz,hd],rfl⟩ ?_
  clear hsz q1 l1 e1 q5 l5 e5 q11 l11 e11 q12 l12 e12 q13 l13 e13 t;rintro t _ ⟨hsz,q1,q5,q11,q12,q13,q14,rfl⟩
  refine wp_seq_h fun K1 hK1=>?_
  refine wp_cond_false (by simp [Act.eval,q14]) ?_;apply wp_exit;simp only [Exit.then,Exit.inBlock,if_true];refine hKE.out _ _ ?_;clear hd;obtain ⟨l1,e1⟩:=gE q1;obtain ⟨l5,e5⟩:=gE q5;obtain ⟨l11,e11⟩:=gE q11;obtain ⟨l12,e12⟩:=gE q12;obtain ⟨l13,e13⟩:=gE q13;obtain ⟨l14,e14⟩:=gE q14
  repeat go_step
  refine bodyPost_ret (results_tmp rfl _ _ _) rfl ?_;exact ⟨by simp [hsz],HP.out.whole (by simp) (by omega),HB.out⟩
end
section
theorem each_ww (A:Option Addr) (c:Nat) (R:List (List Value)) (U:List Value→List Value) (w:World) (h:RvK 37 w A R) (hl:∀ vs ∈ R,vs.length=37∧one vs) (hL:R.length≤1048576) (hU:∀ vs ∈ R,(U vs).length=2∧one (U vs))
  (hf:∀ vs ∈ R,∀ W,Below w.heap.size w W→Calls Tryz.prog 108 #[.agg vs.toArray] W fun e W'=>e=.returned (.agg (U vs).toArray)∧Below W.heap.size W W') :
  Calls Tryz.prog 107 #[.slice A R.length c,.func (.func 108) #[] #[]] w fun e w'=>e=.returned (.slice (some ⟨w.heap.size,0,none⟩) R.length R.length)∧RbK 2 w' w.heap.size 93 (R.map U)∧Below w.heap.size w w':=by
 obtain ⟨fm,hfm,hmk0⟩:=made_wish;have HR:=hD (show ∀ vs ∈ R.map U,vs.length=2 from fun vs hv=>by obtain ⟨us,hu,rfl⟩:=List.mem_map.1 hv;exact (hU us hu).1);have HU:=hD hU;have HF:=hD hf;have HH:=hD h;have HL:=hD hl;have HFM:=hD hfm;clear hU hf h hfm hl;refine calls_abs Tryz.func107 rfl 26 (by simp only [Tryz.ntmps107]) (by simp) (fun t hsz hargs=>?_)
 have q0:t[0]?=some (.slice A R.length c):=get_of (by omega) (hargs 0 _ rfl);have q1:t[1]?=some (.func (.func 108) #[] #[]):=get_of (by omega) (hargs 1 _ rfl);clear hargs;obtain ⟨l0,e0⟩:=gE q0;obtain ⟨l1,e1⟩:=gE q1
 refine wp_seq_h fun K hK=>?_
 apply wp_region_lit
 repeat (first | go_step)
 refine hK.out _ _ ?_;clear hK K;refine wp_abw (fun t' W'=>t'.size=26∧t'[0]?=some (.slice A R.length c)∧t'[1]?=some (.func (.func 108) #[] #[])∧w=W') ⟨by simp [hsz],by simp [q0],by simp [q1],rfl⟩ ?_;clear hsz q0 l0 e0 q1 l1 e1 t;rintro t _ ⟨hsz,q0,q1,rfl⟩;have hmk:=hmk0 R.length w hL;clear hmk0;obtain ⟨l0,e0⟩:=gE q0;obtain ⟨l1,e1⟩:=gE q1
 refine wp_seq_h fun K hK=>?_
 apply wp_region_lit
 repeat (first | go_step)
 refine hK.out _ _ ?_;clear hK K;refine wp_abw (fun t' W'=>t'.size=26∧t'[0]?=some (.slice A R.length c)∧t'[1]?=some (.func (.func 108) #[] #[])∧t'[5]?=some (.slice (some ⟨w.heap.size,0,none⟩) R.length R.length)∧RpK 2 W' w.heap.size 93 R.length 0 (R.map U)∧Below w.heap.size w W') ⟨by simp [hsz],by simp [q0],by simp [q1],by simp [hsz],⟨RpK.new _ (HFM.out _),balloc (Below.refl _ _)⟩⟩ ?_
 clear hsz q0 l0 e0 q1 l1 e1 t hmk;rintro t W0 ⟨hsz,q0,q1,q5,hP,hB⟩
 refine wp_seq_h fun KE hKE=>?_
 obtain ⟨l0,e0⟩:=gE q0;obtain ⟨l1,e1⟩:=gE q1;obtain ⟨l5,e5⟩:=gE q5
 refine wp_seq_h fun K hK=>?_
 apply wp_region_lit
 repeat (first | go_step)
 refine hK.out _ _ ?_;clear hK K;refine wp_abw (fun t' W'=>t'.size=26∧t'[1]?=some (.func (.func 108) #[] #[])∧t'[5]?=some (.slice (some ⟨w.heap.size,0,none⟩) R.length R.length)∧t'[11]?=some (.slice A R.length c)∧t'[12]?=some (.int .i64 (R.length:Int))∧t'[13]?=some (.int .i64 ((0:Nat):Int))∧W0=W') ⟨by simp [hsz],by simp [q1],by simp [q5],by simp [hsz],by simp [hsz],by simp [hsz],rfl⟩ ?_
 clear hsz q0 l0 e0 q1 l1 e1 q5 l5 e5 t;rintro t _ ⟨hsz,q1,q5,q11,q12,q13,rfl⟩;apply wp_block
 refine wp_loop (fun a W=>∃ (t:Array Value) (k:Nat),a=⟨t,[]⟩∧k≤R.length∧t.size=26∧t[1]?=some (.func (.func 108) #[] #[])∧t[5]?=some (.slice (some ⟨w.heap.size,0,none⟩) R.length R.length)∧t[11]?=some (.slice A R.length c)∧t[12]?=some (.int .i64 (R.length:Int))∧t[13]?=some (.int .i64 (k:Int))∧RpK 2 W w.heap.size 93 R.length k (R.map U)∧Below w.heap.size w W) (fun a _=>R.length - (intOf (a.tmps.getD 13 undef)).toNat) ⟨t,0,rfl,by omega,hsz,q1,q5,q11,q12,q13,hP,hB⟩ ?_
 clear t hsz q1 q5 q11 q12 q13 hP hB W0;rintro a W ⟨t,k,rfl,hk,hsz,q1,q5,q11,q12,q13,hP,hB⟩
 have hmu:intOf (t.getD 13 undef)=(k:Int):=by rw [Array.getD_eq_getD_getElem?,q13];rfl
 dsimp only
 rw [hmu];clear hmu;have HP:=hD hP;have HB:=hD hB;clear hP hB
 by_cases hlt:k<R.length
 ·have hd:decide ((k:Int)<(R.length:Int))=true:=by simpa using hlt
  obtain ⟨l1,e1⟩:=gE q1;obtain ⟨l5,e5⟩:=gE q5;obtain ⟨l11,e11⟩:=gE q11;obtain ⟨l12,e12⟩:=gE q12;obtain ⟨l13,e13⟩:=gE q13
  refine wp_seq_h fun K hK=>?_
  apply wp_region_lit
  repeat (first | go_step)
  refine hK.out _ _ ?_;clear hK K
  refine wp_abw (fun t' W'=>t'.size=26∧t'[1]?=some (.func (.func 108) #[] #[])∧t'[5]?=some (.slice (some ⟨w.heap.size,0,none⟩) R.length R.length)∧t'[11]?=some (.slice A R.length c)∧t'[12]?=some (.int .i64 (R.length:Int))∧t'[13]?=some (.int .i64 (k:Int))∧t'[14]?=some (.bool true)∧W=W') ⟨by simp [hsz],by simp [q1],by simp [q5],by simp [q11],by simp [q12],by simp [q13],by simp [hsz,hd],rfl⟩ ?_
  clear hsz q1 l1 e1 q5 l5 e5 q11 l11 e11 q12 l12 e12 q13 l13 e13 t;rintro t _ ⟨hsz,q1,q5,q11,q12,q13,q14,rfl⟩;clear hd
  refine wp_seq_h fun K1 hK1=>?_
  refine wp_cond_true (by simp [Act.eval,q14]) ?_;apply wp_skip;simp only [Exit.then];refine hK1.out _ _ ?_;clear hK1 K1 q14
  refine wp_seq_h fun KB hKB=>?_
  apply wp_block;have hget:R[k]?=some R[k]:=List.getElem?_eq_getElem hlt;obtain ⟨b,off,rfl,hb,hps⟩:=(HH.out.keep HB.out) (by omega);have hc:=hps k _ hget;have hll:=HL.out _ (List.mem_of_getElem? hget);obtain ⟨hlv,hov⟩:=hll;have hUv:=HU.out _ (List.mem_of_getElem? hget);obtain ⟨hul,huo⟩:=hUv;have hfv:=HF.out _ (List.mem_of_getElem? hget)
  have hmv:(R.map U)[k]?=some (U R[k]):=by rw [List.getElem?_map,hget];rfl
  obtain ⟨x,hx⟩:∃ x,R[k]=x:=⟨_,rfl⟩
  rw [hx] at hc hlv hov hul huo hfv hmv;have HC:=hD hc;have HLV:=hD hlv;have HOV:=hD hov;have HUL:=hD hul;have HUO:=hD huo;have HFV:=hD hfv;have HMV:=hD hmv;clear hget hps hc hlv hov hul huo hfv hmv hx
  have hd1:(k:Int)<(R.length:Int):=by omega
  obtain ⟨l1,e1⟩:=gE q1;obtain ⟨l5,e5⟩:=gE q5;obtain ⟨l11,e11⟩:=gE q11;obtain ⟨l12,e12⟩:=gE q12;obtain ⟨l13,e13⟩:=gE q13
  refine wp_seq_h fun K hK=>?_
  apply wp_region_lit
  repeat (first | ((with_reducible show wpList _ _ _ _ _ _);refine ldK 108 _ x b (off+k*37) rfl rfl HC.out Tryz.underlying108 rfl (by rw [HLV.out];exact inf_widget) (by simp [Act.eval,hsz]) ?_) | ((with_reducible show wpList _ _ _ _ _ _);refine allocK 108 37 rfl rfl infz_widget (fun z hz=>?_)) | ((with_reducible show wpList _ _ _ _ _ _);refine stK 108 (.tmp 7) _ x W.heap.size 0 rfl rfl (thereB (newS _ _) (by rw [HLV.out,hz];omega)) (by rw [HLV.out];exact inf_widget) HOV.out (by simp [Act.eval,hsz]) (by simp [Act.eval,hsz]) ?_) | go_step)
  refine hK.out _ _ ?_;clear hK K
  refine wp_abw (fun t' W'=>t'.size=26∧t'[1]?=some (.func (.func 108) #[] #[])∧t'[5]?=some (.slice (some ⟨w.heap.size,0,none⟩) R.length R.length)∧t'[6]?=some (.int .i64 (k:Int))∧t'[7]?=some (.pointer (some ⟨W.heap.size,0,none⟩))∧t'[11]?=some (.slice (some ⟨b,off,none⟩) R.length c)∧t'[12]?=some (.int .i64 (R.length:Int))∧t'[13]?=some (.int .i64 (k:Int))∧W'.rangeAt W.heap.size 0 x∧Below W.heap.size W W') ⟨by simp [hsz],by simp [q1],by simp [q5],by simp [hsz],by simp [hsz],by simp [q11],by simp [q12],by simp [q13],⟨World.rangeAt_setCells_same _ _ _ _ (thereB (newS _ _) (by rw [HLV.out,hz];omega)),below_setCells (Nat.le_refl _) _ _ _ (balloc (Below.refl _ _))⟩⟩ ?_
  clear hsz q1 l1 e1 q5 l5 e5 q11 l11 e11 q12 l12 e12 q13 l13 e13 t hd1 z hz;rintro t W1 ⟨hsz,q1,q5,q6,q7,q11,q12,q13,hx1,hb1⟩;have HX1:=hD hx1;have hwg:=HP.out.lt;replace HP:=hD (HP.out.keep hb1);replace HB:=hD (bkeep2 HB.out hb1);clear hx1 hb1 HC
  have hd1:(k:Int)<(R.length:Int):=by omega
  obtain ⟨l1,e1⟩:=gE q1;obtain ⟨l5,e5⟩:=gE q5;obtain ⟨l6,e6⟩:=gE q6;obtain ⟨l7,e7⟩:=gE q7;obtain ⟨l11,e11⟩:=gE q11;obtain ⟨l12,e12⟩:=gE q12;obtain ⟨l13,e13⟩:=gE q13;apply wp_region_lit
  repeat (first | ((with_reducible show wpList _ _ _ _ _ _);refine ldK 108 _ x W.heap.size 0 rfl rfl HX1.out Tryz.underlying108 rfl (by rw [HLV.out];exact inf_widget) (by simp [Act.eval,hsz,e7]) ?_) | go_step)
  refine (HFV.out _ HB.out).mono ?_;rintro e W2 ⟨rfl,hb2⟩
  dsimp only
  have hth:W2.there w.heap.size (k*2) (U x).length:=by rw [HUL.out];exact (HP.out.keep hb2).there hlt
  repeat (first | ((with_reducible show wpList _ _ _ _ _ _);refine stK 93 _ _ (U x) w.heap.size (k*2) rfl rfl hth (by rw [HUL.out];exact inf_wish) HUO.out (by simp [Act.eval,hsz,hd1]) (by simp [Act.eval,hsz]) ?_) | go_step)
  try simp only [Exit.inBlock]
  refine hKB.out _ _ ?_;clear hKB KB
  refine wp_abw (fun t' W'=>t'.size=26∧t'[1]?=some (.func (.func 108) #[] #[])∧t'[5]?=some (.slice (some ⟨w.heap.size,0,none⟩) R.length R.length)∧t'[11]?=some (.slice (some ⟨b,off,none⟩) R.length c)∧t'[12]?=some (.int .i64 (R.length:Int))∧t'[13]?=some (.int .i64 (k:Int))∧RpK 2 W' w.heap.size 93 R.length (k+1) (R.map U)∧Below w.heap.size w W') ⟨by simp [hsz],by simp [q1],by simp [q5],by simp [q11],by simp [q12],by simp [q13],⟨(HP.out.keep hb2).step HR.out HMV.out hlt,below_setCells (Nat.le_refl _) _ _ _ (bkeep2 HB.out hb2)⟩⟩ ?_
  clear hsz q1 l1 e1 q5 l5 e5 q6 l6 e6 q7 l7 e7 q11 l11 e11 q12 l12 e12 q13 l13 e13 t hth hb2 HP HB hd1;rintro t W3 ⟨hsz,q1,q5,q11,q12,q13,hP,hB⟩;obtain ⟨l1,e1⟩:=gE q1;obtain ⟨l5,e5⟩:=gE q5;obtain ⟨l11,e11⟩:=gE q11;obtain ⟨l12,e12⟩:=gE q12;obtain ⟨l13,e13⟩:=gE q13;apply wp_region_lit
  repeat go_step
  try simp only [Exit.then]
  refine ⟨⟨_,k+1,rfl,by omega,by simp [hsz],by simp [q1],by simp [q5],by simp [q11],by simp [q12],by simp [hsz],hP,hB⟩,?_⟩
  ·simp [hsz,intOf]
   omega
 ·have hd:decide ((k:Int)<(R.length:Int))=false:=decide_eq_false (by omega);obtain ⟨l1,e1⟩:=gE q1;obtain ⟨l5,e5⟩:=gE q5;obtain ⟨l11,e11⟩:=gE q11;obtain ⟨l12,e12⟩:=gE q12;obtain ⟨l13,e13⟩:=gE q13
  refine wp_seq_h fun K hK=>?_
  apply wp_region_lit
  repeat (first | go_step)
  refine hK.out _ _ ?_;clear hK K
  refine wp_abw (fun t' W'=>t'.size=26∧t'[1]?=some (.func (.func 108) #[] #[])∧t'[5]?=some (.slice (some ⟨w.heap.size,0,none⟩) R.length R.length)∧t'[11]?=some (.slice A R.length c)∧t'[12]?=some (.int .i64 (R.length:Int))∧t'[13]?=some (.int .i64 (k:Int))∧t'[14]?=some (.bool false)∧W=W') ⟨by simp [hsz],by simp [q1],by simp [q5],by simp [q11],by simp [q12],by simp [q13],by simp [hsz,hd],rfl⟩ ?_
  clear hsz q1 l1 e1 q5 l5 e5 q11 l11 e11 q12 l12 e12 q13 l13 e13 t;rintro t _ ⟨hsz,q1,q5,q11,q12,q13,q14,rfl⟩
  refine wp_seq_h fun K1 hK1=>?_
  refine wp_cond_false (by simp [Act.eval,q14]) ?_;apply wp_exit;simp only [Exit.then,Exit.inBlock,if_true];refine hKE.out _ _ ?_;clear hd;obtain ⟨l1,e1⟩:=gE q1;obtain ⟨l5,e5⟩:=gE q5;obtain ⟨l11,e11⟩:=gE q11;obtain ⟨l12,e12⟩:=gE q12;obtain ⟨l13,e13⟩:=gE q13;obtain ⟨l14,e14⟩:=gE q14
  repeat go_step
  refine bodyPost_ret (results_tmp rfl _ _ _) rfl ?_;exact ⟨by simp [hsz],HP.out.whole (by simp) (by omega),HB.out⟩
end
end Go.Proofs.YtenckjdiggaonaaGreat
