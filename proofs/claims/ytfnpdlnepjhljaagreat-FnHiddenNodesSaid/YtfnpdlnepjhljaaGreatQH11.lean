import Derived.Test.YtfnpdlnepjhljaaGreatQH10
set_option linter.unusedVariables false
set_option linter.unusedSimpArgs false
set_option maxRecDepth 100000
set_option maxHeartbeats 16000000
namespace Go.Proofs.YtfnpdlnepjhljaaGreat
open Go.RowKit
attribute [local go_sem] kZb kZp kZg
theorem each_pr (A:Option Addr) (c:Nat) (R:List (List Value)) (U:List Value→List Value) (caps:Array Value) (w:World) (h:RvK 9 w A R) (hl:∀ vs∈R,vs.length=9∧one vs) (hL:R.length≤1048576) (hU:∀ vs∈R,(U vs).length=4∧one (U vs))
  (hf:∀ vs∈R,∀ W,Below w.heap.size w W→Calls Tryz.prog 229 (#[.agg vs.toArray] ++ caps) W fun e W'=>e=.returned (.agg (U vs).toArray)∧Below W.heap.size W W') :
  Calls Tryz.prog 228 #[.slice A R.length c,.func (.func 229) #[] caps] w fun e w'=>e=.returned (.slice (some ⟨w.heap.size,0,none⟩) R.length R.length)∧RbK 4 w' w.heap.size 32 (R.map U)∧Below w.heap.size w w':=by
 obtain ⟨fm,hfm,hmk0⟩:=bZr;have HR:=hD (show ∀ vs∈R.map U,vs.length=4 from fun vs hv=>by obtain ⟨us,hu,rfl⟩:=List.mem_map.1 hv;exact (hU us hu).1);have HU:=hD hU;have HF:=hD hf;have HH:=hD h;have HL:=hD hl;have HFM:=hD hfm;clear hU hf h hfm hl;refine kZ7 Tryz.func228 rfl 26 (by simp only [Tryz.ntmps228]) (by simp) (fun t hsz hargs=>?_)
 have q0:t[0]?=some (.slice A R.length c):=pZl (by omega) (hargs 0 _ rfl);have q1:t[1]?=some (.func (.func 229) #[] caps):=pZl (by omega) (hargs 1 _ rfl);clear hargs;obtain ⟨l0,e0⟩:=gE q0;obtain ⟨l1,e1⟩:=gE q1
 refine jZe fun K hK=>?_
 apply wp_region_lit
 repeat (first | go_step)
 refine hK.out _ _ ?_;clear hK K;refine jZy (fun t' W'=>t'.size=26∧t'[0]?=some (.slice A R.length c)∧t'[1]?=some (.func (.func 229) #[] caps)∧w=W') ⟨by simp [Act.put,hsz],by simp [Act.put,q0],by simp [Act.put,q1],rfl⟩ ?_;clear hsz q0 l0 e0 q1 l1 e1 t;rintro t _ ⟨hsz,q0,q1,rfl⟩;have hmk:=hmk0 R.length w hL;clear hmk0;obtain ⟨l0,e0⟩:=gE q0;obtain ⟨l1,e1⟩:=gE q1
 refine jZe fun K hK=>?_
 apply wp_region_lit
 repeat (first | go_step)
 refine hK.out _ _ ?_;clear hK K
 refine jZy (fun t' W'=>t'.size=26∧t'[0]?=some (.slice A R.length c)∧t'[1]?=some (.func (.func 229) #[] caps)∧t'[5]?=some (.slice (some ⟨w.heap.size,0,none⟩) R.length R.length)∧RpK 4 W' w.heap.size 32 R.length 0 (R.map U)∧Below w.heap.size w W') ⟨by simp [Act.put,hsz],by simp [Act.put,q0],by simp [Act.put,q1],by simp [Act.put,hsz],⟨RpK.new _ (HFM.out _),jZd (Below.refl _ _)⟩⟩ ?_
 clear hsz q0 l0 e0 q1 l1 e1 t hmk;rintro t W0 ⟨hsz,q0,q1,q5,hP,hB⟩
 refine jZe fun KE hKE=>?_
 obtain ⟨l0,e0⟩:=gE q0;obtain ⟨l1,e1⟩:=gE q1;obtain ⟨l5,e5⟩:=gE q5
 refine jZe fun K hK=>?_
 apply wp_region_lit
 repeat (first | go_step)
 refine hK.out _ _ ?_;clear hK K
 refine jZy (fun t' W'=>t'.size=26∧t'[1]?=some (.func (.func 229) #[] caps)∧t'[5]?=some (.slice (some ⟨w.heap.size,0,none⟩) R.length R.length)∧t'[11]?=some (.slice A R.length c)∧t'[12]?=some (.int .i64 (R.length:Int))∧t'[13]?=some (.int .i64 ((0:Nat):Int))∧W0=W') ⟨by simp [Act.put,hsz],by simp [Act.put,q1],by simp [Act.put,q5],by simp [Act.put,hsz],by simp [Act.put,hsz],by simp [Act.put,hsz],rfl⟩ ?_
 clear hsz q0 l0 e0 q1 l1 e1 q5 l5 e5 t;rintro t _ ⟨hsz,q1,q5,q11,q12,q13,rfl⟩;apply wp_block
 refine wp_loop (fun a W=>∃ (t:Array Value) (k:Nat),a=⟨t,[]⟩∧k≤R.length∧t.size=26∧t[1]?=some (.func (.func 229) #[] caps)∧t[5]?=some (.slice (some ⟨w.heap.size,0,none⟩) R.length R.length)∧t[11]?=some (.slice A R.length c)∧t[12]?=some (.int .i64 (R.length:Int))∧t[13]?=some (.int .i64 (k:Int))∧RpK 4 W w.heap.size 32 R.length k (R.map U)∧Below w.heap.size w W) (fun a _=>R.length-(intOf (a.tmps.getD 13 undef)).toNat) ⟨t,0,rfl,by omega,hsz,q1,q5,q11,q12,q13,hP,hB⟩ ?_
 clear t hsz q1 q5 q11 q12 q13 hP hB W0;rintro a W ⟨t,k,rfl,hk,hsz,q1,q5,q11,q12,q13,hP,hB⟩
 have hmu:intOf (t.getD 13 undef)=(k:Int):=by rw [Array.getD_eq_getD_getElem?,q13];rfl
 dsimp only
 rw [hmu];clear hmu;have HP:=hD hP;have HB:=hD hB;clear hP hB
 by_cases hlt:k<R.length
 ·have hd:decide ((k:Int)<(R.length:Int))=true:=by simpa using hlt
  obtain ⟨l1,e1⟩:=gE q1;obtain ⟨l5,e5⟩:=gE q5;obtain ⟨l11,e11⟩:=gE q11;obtain ⟨l12,e12⟩:=gE q12;obtain ⟨l13,e13⟩:=gE q13
  refine jZe fun K hK=>?_
  apply wp_region_lit
  repeat (first | go_step)
  refine hK.out _ _ ?_;clear hK K
  refine jZy (fun t' W'=>t'.size=26∧t'[1]?=some (.func (.func 229) #[] caps)∧t'[5]?=some (.slice (some ⟨w.heap.size,0,none⟩) R.length R.length)∧t'[11]?=some (.slice A R.length c)∧t'[12]?=some (.int .i64 (R.length:Int))∧t'[13]?=some (.int .i64 (k:Int))∧t'[14]?=some (.bool true)∧W=W') ⟨by simp [Act.put,hsz],by simp [Act.put,q1],by simp [Act.put,q5],by simp [Act.put,q11],by simp [Act.put,q12],by simp [Act.put,q13],by simp [Act.put,hsz,hd],rfl⟩ ?_
  clear hsz q1 l1 e1 q5 l5 e5 q11 l11 e11 q12 l12 e12 q13 l13 e13 t;rintro t _ ⟨hsz,q1,q5,q11,q12,q13,q14,rfl⟩;clear hd
  refine jZe fun K1 hK1=>?_
  refine wp_cond_true (by simp [Act.eval,q14]) ?_;apply wp_skip;simp only [Exit.then];refine hK1.out _ _ ?_;clear hK1 K1 q14
  refine jZe fun KB hKB=>?_
  apply wp_block;have hget:R[k]?=some R[k]:=List.getElem?_eq_getElem hlt;obtain ⟨b,off,rfl,hb,hps⟩:=(HH.out.keep HB.out) (by omega);have hc:=hps k _ hget;have hll:=HL.out _ (List.mem_of_getElem? hget);obtain ⟨hlv,hov⟩:=hll;have hUv:=HU.out _ (List.mem_of_getElem? hget);obtain ⟨hul,huo⟩:=hUv;have hfv:=HF.out _ (List.mem_of_getElem? hget)
  have hmv:(R.map U)[k]?=some (U R[k]):=by rw [List.getElem?_map,hget];rfl
  obtain ⟨x,hx⟩:∃ x,R[k]=x:=⟨_,rfl⟩
  rw [hx] at hc hlv hov hul huo hfv hmv;have HC:=hD hc;have HLV:=hD hlv;have HOV:=hD hov;have HUL:=hD hul;have HUO:=hD huo;have HFV:=hD hfv;have HMV:=hD hmv;clear hget hps hc hlv hov hul huo hfv hmv hx
  have hd1:(k:Int)<(R.length:Int):=by omega
  obtain ⟨l1,e1⟩:=gE q1;obtain ⟨l5,e5⟩:=gE q5;obtain ⟨l11,e11⟩:=gE q11;obtain ⟨l12,e12⟩:=gE q12;obtain ⟨l13,e13⟩:=gE q13
  refine jZe fun K hK=>?_
  apply wp_region_lit
  repeat (first|((with_reducible show wpList _ _ _ _ _ _);refine ldK 41 _ x b (off+k*9) rfl rfl HC.out Tryz.underlying41 rfl (by rw [HLV.out];exact rZm) (by simp [Act.eval,hsz]) ?_)|((with_reducible show wpList _ _ _ _ _ _);refine sZa 41 9 rfl rfl dZb (fun z hz=>?_))|((with_reducible show wpList _ _ _ _ _ _);refine stK 41 (.tmp 7) _ x W.heap.size 0 rfl rfl (pZb (newS _ _) (by rw [HLV.out,hz];omega)) (by rw [HLV.out];exact rZm) HOV.out (by simp [Act.eval,hsz]) (by simp [Act.eval,hsz]) ?_) | go_step)
  refine hK.out _ _ ?_;clear hK K
  refine jZy (fun t' W'=>t'.size=26∧t'[1]?=some (.func (.func 229) #[] caps)∧t'[5]?=some (.slice (some ⟨w.heap.size,0,none⟩) R.length R.length)∧t'[6]?=some (.int .i64 (k:Int))∧t'[7]?=some (.pointer (some ⟨W.heap.size,0,none⟩))∧t'[11]?=some (.slice (some ⟨b,off,none⟩) R.length c)∧t'[12]?=some (.int .i64 (R.length:Int))∧t'[13]?=some (.int .i64 (k:Int))∧W'.rangeAt W.heap.size 0 x∧Below W.heap.size W W') ⟨by simp [Act.put,hsz],by simp [Act.put,q1],by simp [Act.put,q5],by simp [Act.put,hsz],by simp [Act.put,hsz],by simp [Act.put,q11],by simp [Act.put,q12],by simp [Act.put,q13],⟨World.rangeAt_setCells_same _ _ _ _ (pZb (newS _ _) (by rw [HLV.out,hz];omega)),jZi (Nat.le_refl _) _ _ _ (jZd (Below.refl _ _))⟩⟩ ?_
  clear hsz q1 l1 e1 q5 l5 e5 q11 l11 e11 q12 l12 e12 q13 l13 e13 t hd1 z hz;rintro t W1 ⟨hsz,q1,q5,q6,q7,q11,q12,q13,hx1,hb1⟩;have HX1:=hD hx1;have hwg:=HP.out.lt;replace HP:=hD (HP.out.keep hb1);replace HB:=hD (jZa HB.out hb1);clear hx1 hb1 HC
  have hd1:(k:Int)<(R.length:Int):=by omega
  obtain ⟨l1,e1⟩:=gE q1;obtain ⟨l5,e5⟩:=gE q5;obtain ⟨l6,e6⟩:=gE q6;obtain ⟨l7,e7⟩:=gE q7;obtain ⟨l11,e11⟩:=gE q11;obtain ⟨l12,e12⟩:=gE q12;obtain ⟨l13,e13⟩:=gE q13;apply wp_region_lit
  repeat (first|((with_reducible show wpList _ _ _ _ _ _);refine ldK 41 _ x W.heap.size 0 rfl rfl HX1.out Tryz.underlying41 rfl (by rw [HLV.out];exact rZm) (by simp [Act.eval,hsz,e7]) ?_) | go_step)
  refine (HFV.out _ HB.out).mono ?_;rintro e W2 ⟨rfl,hb2⟩
  dsimp only
  have hth:W2.there w.heap.size (k*4) (U x).length:=by rw [HUL.out];exact (HP.out.keep hb2).there hlt
  repeat (first|((with_reducible show wpList _ _ _ _ _ _);refine stK 32 _ _ (U x) w.heap.size (k*4) rfl rfl hth (by rw [HUL.out];exact inf_Rect) HUO.out (by simp [Act.eval,hsz,hd1]) (by simp [Act.eval,hsz]) ?_) | go_step)
  try simp only [Exit.inBlock]
  refine hKB.out _ _ ?_;clear hKB KB
  refine jZy (fun t' W'=>t'.size=26∧t'[1]?=some (.func (.func 229) #[] caps)∧t'[5]?=some (.slice (some ⟨w.heap.size,0,none⟩) R.length R.length)∧t'[11]?=some (.slice (some ⟨b,off,none⟩) R.length c)∧t'[12]?=some (.int .i64 (R.length:Int))∧t'[13]?=some (.int .i64 (k:Int))∧RpK 4 W' w.heap.size 32 R.length (k+1) (R.map U)∧Below w.heap.size w W') ⟨by simp [Act.put,hsz],by simp [Act.put,q1],by simp [Act.put,q5],by simp [Act.put,q11],by simp [Act.put,q12],by simp [Act.put,q13],⟨(HP.out.keep hb2).step HR.out HMV.out hlt,jZi (Nat.le_refl _) _ _ _ (jZa HB.out hb2)⟩⟩ ?_
  clear hsz q1 l1 e1 q5 l5 e5 q6 l6 e6 q7 l7 e7 q11 l11 e11 q12 l12 e12 q13 l13 e13 t hth hb2 HP HB hd1;rintro t W3 ⟨hsz,q1,q5,q11,q12,q13,hP,hB⟩;obtain ⟨l1,e1⟩:=gE q1;obtain ⟨l5,e5⟩:=gE q5;obtain ⟨l11,e11⟩:=gE q11;obtain ⟨l12,e12⟩:=gE q12;obtain ⟨l13,e13⟩:=gE q13;apply wp_region_lit
  repeat go_step
  try simp only [Exit.then]
  refine ⟨⟨_,k+1,rfl,by omega,by simp [hsz],by simp [q1],by simp [q5],by simp [q11],by simp [q12],by simp [hsz],hP,hB⟩,?_⟩
  ·simp [hsz,intOf]
   omega
 ·have hd:decide ((k:Int)<(R.length:Int))=false:=decide_eq_false (by omega);obtain ⟨l1,e1⟩:=gE q1;obtain ⟨l5,e5⟩:=gE q5;obtain ⟨l11,e11⟩:=gE q11;obtain ⟨l12,e12⟩:=gE q12;obtain ⟨l13,e13⟩:=gE q13
  refine jZe fun K hK=>?_
  apply wp_region_lit
  repeat (first | go_step)
  refine hK.out _ _ ?_;clear hK K
  refine jZy (fun t' W'=>t'.size=26∧t'[1]?=some (.func (.func 229) #[] caps)∧t'[5]?=some (.slice (some ⟨w.heap.size,0,none⟩) R.length R.length)∧t'[11]?=some (.slice A R.length c)∧t'[12]?=some (.int .i64 (R.length:Int))∧t'[13]?=some (.int .i64 (k:Int))∧t'[14]?=some (.bool false)∧W=W') ⟨by simp [Act.put,hsz],by simp [Act.put,q1],by simp [Act.put,q5],by simp [Act.put,q11],by simp [Act.put,q12],by simp [Act.put,q13],by simp [Act.put,hsz,hd],rfl⟩ ?_
  clear hsz q1 l1 e1 q5 l5 e5 q11 l11 e11 q12 l12 e12 q13 l13 e13 t;rintro t _ ⟨hsz,q1,q5,q11,q12,q13,q14,rfl⟩
  refine jZe fun K1 hK1=>?_
  refine wp_cond_false (by simp [Act.eval,q14]) ?_;apply wp_exit;simp only [Exit.then,Exit.inBlock,if_true];refine hKE.out _ _ ?_;clear hd;obtain ⟨l1,e1⟩:=gE q1;obtain ⟨l5,e5⟩:=gE q5;obtain ⟨l11,e11⟩:=gE q11;obtain ⟨l12,e12⟩:=gE q12;obtain ⟨l13,e13⟩:=gE q13;obtain ⟨l14,e14⟩:=gE q14
  repeat go_step
  refine bodyPost_ret (results_tmp rfl _ _ _) rfl ?_;exact ⟨by simp [hsz],HP.out.whole (by simp) (by omega),HB.out⟩
section
attribute [local go_sem 5000] kZk kZj
attribute [local go_sem] jZ0 jZ5 jZ2
theorem belowNg {B:Nat} {a w:World} (h:Below B a w) (n:Nat):Below B a (w.drewN n):=⟨h.os,h.tape,h.output,h.size,h.block⟩
theorem put4g {w:World} {b:Nat} {a0 a1 a2 a3:Value} {T:TypeId} {fz:Nat × Nat} (h:w.heap[b]?=some (.cells #[a0,a1,a2,a3] T fz)) (x0 x1 x2 x3:Value) :
  ((((w.setCell ⟨b,0,none⟩ x0).setCell ⟨b,1,none⟩ x1).setCell ⟨b,2,none⟩ x2).setCell ⟨b,3,none⟩ x3).heap[b]?=some (.cells #[x0,x1,x2,x3] T fz):=by
 replace h:=putS (i:=0) h x0;simp only [List.setIfInBounds_toArray,List.set_cons_zero] at h;replace h:=putS (i:=1) h x1;simp only [List.setIfInBounds_toArray,List.set_cons_succ,List.set_cons_zero] at h;replace h:=putS (i:=2) h x2;simp only [List.setIfInBounds_toArray,List.set_cons_succ,List.set_cons_zero] at h;replace h:=putS (i:=3) h x3
 simp only [List.setIfInBounds_toArray,List.set_cons_succ,List.set_cons_zero] at h;exact h
theorem put4gb {B b:Nat} {a w:World} (h:Below B a w) (hb:B≤b) (x0 x1 x2 x3:Value) :
  Below B a ((((w.setCell ⟨b,0,none⟩ x0).setCell ⟨b,1,none⟩ x1).setCell ⟨b,2,none⟩ x2).setCell ⟨b,3,none⟩ x3) :=
 (((h.setCell (p:=⟨b,0,none⟩) hb _).setCell (p:=⟨b,1,none⟩) hb _).setCell (p:=⟨b,2,none⟩) hb _).setCell (p:=⟨b,3,none⟩) hb _
theorem inset_g (x y u v p q:Int) (w:World) (h:((0≤x∧x≤20000000000000)∧(0≤y∧y≤20000000000000))∧((0≤u∧u≤20000000000000)∧(0≤v∧v≤20000000000000))) (hp:0≤p∧p≤10) (hq:0≤q∧q≤10):Calls Tryz.prog 217 #[.agg #[.int .i64 (x),.int .i64 (y),.int .i64 (u),.int .i64 (v)],.int .i64 p,.int .i64 q] w fun e w'=>e=.returned (.agg #[.int .i64 (x+mn p (u / 2)),.int .i64 (y+mn q (v / 2)),.int .i64 (mx (u-2*p) 0),.int .i64 (mx (v-2*q) 0)])∧Below w.heap.size w w':=by
 have hbd:=ins_bd (a:=⟨x,y,u,v⟩) h hp hq
 dsimp only at hbd
 obtain ⟨⟨⟨m1,m2⟩,m3,m4⟩,⟨m5,m6⟩,m7,m8⟩:=hbd;obtain ⟨⟨⟨a1,a2⟩,⟨a3,a4⟩⟩,⟨a5,a6⟩,⟨a7,a8⟩⟩:=h;obtain ⟨b1,b2⟩:=hp;obtain ⟨b3,b4⟩:=hq
 go_enter Tryz.func217,Tryz.ntmps217
 go_wp2
 exact bodyPost_ret (v:=.agg #[.int .i64 (x+mn p (u / 2)),.int .i64 (y+mn q (v / 2)),.int .i64 (mx (u-2*p) 0),.int .i64 (mx (v-2*q) 0)]) (by simp only [results,Tryz.results217];go_simp) rfl ⟨rfl,(by repeat (first | with_reducible exact Below.refl _ _ | with_reducible assumption | with_reducible refine jZd ?_|(with_reducible refine bset ?_ ?_;rotate_left;((try dsimp only);omega)) | refine jZa ?_ (by assumption) | with_reducible refine Below.drew ?_))⟩
theorem anchored_g (x y u v p q k:Int) (w:World) (h:((0≤x∧x≤20000000000010)∧(0≤y∧y≤20000000000010))∧((0≤u∧u≤20000000000000)∧(0≤v∧v≤20000000000000))) (hp:0≤p∧p≤20000000000000) (hq:0≤q∧q≤20000000000000) (hk:0≤k∧k≤8):Calls Tryz.prog 219 #[.agg #[.int .i64 (x),.int .i64 (y),.int .i64 (u),.int .i64 (v)],.int .i64 p,.int .i64 q,.int .i64 k] w fun e w'=>e=.returned (.agg #[.int .i64 (x+(u-mn p u)*(k % 3) / 2),.int .i64 (y+(v-mn q v)*(k / 3) / 2),.int .i64 (mn p u),.int .i64 (mn q v)])∧Below w.heap.size w w':=by
 obtain ⟨m1,m2,m3,m4,m5,m6,m7,m8,m9,m10,m11,m12⟩:=anc_bd h.2.1 h.2.2 hp hq hk;obtain ⟨⟨⟨a1,a2⟩,⟨a3,a4⟩⟩,⟨a5,a6⟩,⟨a7,a8⟩⟩:=h;obtain ⟨b5,b6⟩:=hk
 go_enter Tryz.func219,Tryz.ntmps219
 go_wp2_with fail
 go_quiet (fail)
 go_wp2
 exact bodyPost_ret (v:=.agg #[.int .i64 (x+(u-mn p u)*(k % 3) / 2),.int .i64 (y+(v-mn q v)*(k / 3) / 2),.int .i64 (mn p u),.int .i64 (mn q v)]) (by simp only [results,Tryz.results219];go_simp) rfl ⟨rfl,(by repeat (first | with_reducible exact Below.refl _ _ | with_reducible assumption | with_reducible refine jZd ?_|(with_reducible refine bset ?_ ?_;rotate_left;((try dsimp only);omega)) | refine jZa ?_ (by assumption) | with_reducible refine Below.drew ?_ | refine belowNg ?_ _))⟩
theorem inset_r (a b:Re) (p q:Int) (w:World) (h:BdR a) (hp:0≤p∧p≤10) (hq:0≤q∧q≤10) (hb:insR a p q=b):Calls Tryz.prog 217 #[.agg #[.int .i64 a.x,.int .i64 a.y,.int .i64 a.u,.int .i64 a.v],.int .i64 p,.int .i64 q] w fun e w'=>e=.returned (.agg #[.int .i64 b.x,.int .i64 b.y,.int .i64 b.u,.int .i64 b.v])∧Below w.heap.size w w':=by
 subst hb;exact inset_g _ _ _ _ _ _ w h hp hq
theorem anchored_r (a S:Re) (p q k:Int) (w:World) (h:((0≤a.x∧a.x≤20000000000010)∧(0≤a.y∧a.y≤20000000000010))∧((0≤a.u∧a.u≤20000000000000)∧(0≤a.v∧a.v≤20000000000000))) (hp:0≤p∧p≤20000000000000) (hq:0≤q∧q≤20000000000000) (hk:0≤k∧k≤8) (hb:ancR a p q k=S):Calls Tryz.prog 219 #[.agg #[.int .i64 a.x,.int .i64 a.y,.int .i64 a.u,.int .i64 a.v],.int .i64 p,.int .i64 q,.int .i64 k] w fun e w'=>e=.returned (.agg #[.int .i64 S.x,.int .i64 S.y,.int .i64 S.u,.int .i64 S.v])∧Below w.heap.size w w':=by
 subst hb;exact anchored_g _ _ _ _ _ _ _ w h hp hq hk
theorem stuck_v (n room k s t:Int) (w:World) (h:0≤k∧k≤3) (hs:stkI n room k=(s,t)):Calls Tryz.prog 218 #[.int .i64 n,.int .i64 room,.int .i64 k] w fun e w'=>e=.returned (.tuple #[.int .i64 s,.int .i64 t])∧w=w':=by
 have hk:k=0∨k=1∨k=2∨k=3:=by omega
 rcases hk with rfl | rfl | rfl | rfl
 all_goals
  simp [stkI] at hs
  obtain ⟨rfl,rfl⟩:=hs
  go_enter Tryz.func218,Tryz.ntmps218
  go_wp2;refine bodyPost_ret (by simp only [results,Tryz.results218];go_simp) rfl ⟨rfl,rfl⟩
theorem inLines_v (p:Ce) (a:Re) (w:World) (hp:smW p) (hs:0≤p.sk∧p.sk≤15) (ha:BdR a) (S:Re) (hS:celI a p=S) :
  Calls Tryz.prog 210 #[.agg #[.int .i64 p.co,.int .i64 p.ro,.int .i64 p.mc,.int .i64 p.mr,.int .i64 p.cw,.int .i64 p.ch,.int .i64 p.sk,.int .i64 p.px,.int .i64 p.py],.agg #[.int .i64 a.x,.int .i64 a.y,.int .i64 a.u,.int .i64 a.v]] w fun e w'=>e=.returned (.agg #[.int .i64 S.x,.int .i64 S.y,.int .i64 S.u,.int .i64 S.v])∧Below w.heap.size w w':=by
 obtain ⟨hw,hh,hpx,hpy⟩:=hp;have hins:=ins_bd ha hpx hpy
 obtain ⟨b,hb⟩:∃ b,insR a p.px p.py=b:=⟨_,rfl⟩
 have hbx:b.x=a.x+mn p.px (a.u / 2)∧b.y=a.y+mn p.py (a.v / 2)∧b.u=mx (a.u-2*p.px) 0∧b.v=mx (a.v-2*p.py) 0:=by rw [<- hb];exact ⟨rfl,rfl,rfl,rfl⟩
 have hbb:((0≤b.x∧b.x≤20000000000010)∧(0≤b.y∧b.y≤20000000000010))∧((0≤b.u∧b.u≤20000000000000)∧(0≤b.v∧b.v≤20000000000000)):=by
  obtain ⟨⟨h1,h2⟩,h3,h4⟩:=ha;omega
 unfold celI at hS;rw [hb] at hS;have q1:=dZ7 (k:=p.sk % 4) hw hbb.2.1;have q2:=dZ7 (k:=p.sk / 4) hh hbb.2.2
 obtain ⟨⟨s1,t1⟩,hst1⟩:∃ z,stkI p.cw b.u (p.sk % 4)=z:=⟨_,rfl⟩
 obtain ⟨⟨s2,t2⟩,hst2⟩:∃ z,stkI p.ch b.v (p.sk / 4)=z:=⟨_,rfl⟩
 rw [hst1] at hS q1;rw [hst2] at hS q2;obtain ⟨q1a,q1b,q1c⟩:=q1;obtain ⟨q2a,q2b,q2c⟩:=q2
 dsimp only at hS q1a q1b q1c q2a q2b q2c
 obtain ⟨hs0,hs1⟩:=hs;have HBB:=hD hbb;have HAB:=hD ha;have HP:=hD (And.intro hpx hpy);have HQ:=hD (And.intro q1a q2a);have HS1:=hD hst1;have HS2:=hD hst2;have HSS:=hD hS;have HIN:=hD hb;clear hins hbx hbb ha hpx hpy hst1 hst2 hS q1a q2a hb hw hh
 go_enter Tryz.func210,Tryz.ntmps210
 go_upto_region 1 with (fail)
 refine kZf (fun W=>W.heap[w.heap.size]?=some (.cells #[.int .i64 p.co,.int .i64 p.ro,.int .i64 p.mc,.int .i64 p.mr,.int .i64 p.cw,.int .i64 p.ch,.int .i64 p.sk,.int .i64 p.px,.int .i64 p.py] 39 (0,0))∧W.heap[w.heap.size+1]?=some (.cells #[.int .i64 a.x,.int .i64 a.y,.int .i64 a.u,.int .i64 a.v] 32 (0,0))∧W.heap[w.heap.size+1+1]?=some (.cells #[.int .i64 0,.int .i64 0,.int .i64 0,.int .i64 0] 32 (0,0))∧Below w.heap.size w W) ⟨(Below.heap_alloc _ _ w.heap.size (by simp;omega)).trans ((Below.heap_alloc _ _ w.heap.size (by simp)).trans (newS w _)),(Below.heap_alloc _ _ (w.heap.size+1) (by simp)).trans (by have:=newS (w.alloc (.cells #[.int .i64 p.co,.int .i64 p.ro,.int .i64 p.mc,.int .i64 p.mr,.int .i64 p.cw,.int .i64 p.ch,.int .i64 p.sk,.int .i64 p.px,.int .i64 p.py] 39 (0,0))) (.cells #[.int .i64 a.x,.int .i64 a.y,.int .i64 a.u,.int .i64 a.v] 32 (0,0));rwa [World.size_alloc] at this),by have:=newS ((w.alloc (.cells #[.int .i64 p.co,.int .i64 p.ro,.int .i64 p.mc,.int .i64 p.mr,.int .i64 p.cw,.int .i64 p.ch,.int .i64 p.sk,.int .i64 p.px,.int .i64 p.py] 39 (0,0))).alloc (.cells #[.int .i64 a.x,.int .i64 a.y,.int .i64 a.u,.int .i64 a.v] 32 (0,0))) (.cells #[.int .i64 0,.int .i64 0,.int .i64 0,.int .i64 0] 32 (0,0));rwa [World.size_alloc,World.size_alloc] at this,jZd (jZd (jZd (Below.refl _ _)))⟩ (fun w0 h0=>?_)
 obtain ⟨hx,hy,hz,hb0⟩:=h0;have HX:=hD hx;have HY:=hD hy;have HZ:=hD hz;have HB:=hD hb0;have lz:=ltS hz;have d7:=jZc hx 7;have d8:=jZc hx 8;have y0:=jZc hy 0;have y1:=jZc hy 1;have y2:=jZc hy 2;have y3:=jZc hy 3;clear hx hy hz hb0
 go_wp2_with fail
 with_reducible refine (inset_r a b p.px p.py _ HAB.out HP.out.1 HP.out.2 HIN.out).mono ?_
 rintro e w1 ⟨rfl,hb1⟩;clear d7 d8 y0 y1 y2 y3 lz;replace HX:=hbk hb1 HX;replace HY:=hbk hb1 HY;replace HZ:=hbk hb1 HZ;replace HB:=hD (jZa HB.out hb1);clear hb1
 go_upto_region 2 with (fail)
 refine kZf (fun W=>W.heap[w.heap.size]?=some (.cells #[.int .i64 p.co,.int .i64 p.ro,.int .i64 p.mc,.int .i64 p.mr,.int .i64 p.cw,.int .i64 p.ch,.int .i64 p.sk,.int .i64 p.px,.int .i64 p.py] 39 (0,0))∧W.heap[w.heap.size+1+1]?=some (.cells #[.int .i64 0,.int .i64 0,.int .i64 0,.int .i64 0] 32 (0,0))∧W.heap[w1.heap.size]?=some (.cells #[.int .i64 b.x,.int .i64 b.y,.int .i64 b.u,.int .i64 b.v] 32 (0,0))∧Below w.heap.size w W) ⟨(Below.heap_alloc _ _ _ (ltS HX.out)).trans HX.out,(Below.heap_alloc _ _ _ (ltS HZ.out)).trans HZ.out,newS _ _,jZd HB.out⟩ (fun w2 h2=>?_)
 have ne:w.heap.size+1+1≠w1.heap.size:=by have:=ltS HZ.out;omega
 have HN:=hD ne;clear HX HY HZ HB ne;obtain ⟨hx,hz,hy,hb0⟩:=h2;have HX:=hD hx;have HY:=hD hy;have HZ:=hD hz;have HB:=hD hb0;have d4:=jZc hx 4;have d5:=jZc hx 5;have d6:=jZc hx 6;have y2:=jZc hy 2;have y3:=jZc hy 3;have lx:=ltS hx;have ly:=ltS hy;clear hx hy hz hb0
 go_wp2_with fail
 with_reducible refine (stuck_v p.cw b.u (p.sk % 4) s1 t1 _ (by omega) HS1.out).mono ?_
 rintro e w3 ⟨rfl,rfl⟩
 go_wp2_with fail
 with_reducible refine (stuck_v p.ch b.v (p.sk / 4) s2 t2 _ (by omega) HS2.out).mono ?_
 rintro e w3 ⟨rfl,rfl⟩;have y0:=jZc HY.out 0;have y1:=jZc HY.out 1
 go_wp2_with fail
 with_reducible refine (anchored_r b S s1 s2 (t1+3*t2) _ HBB.out HQ.out.1 HQ.out.2 (by omega) HSS.out).mono ?_
 rintro e w4 ⟨rfl,hb4⟩;clear d4 d5 d6 y0 y1 y2 y3 lx ly;replace HX:=hbk hb4 HX;replace HZ:=hbk hb4 HZ;replace HB:=hD (jZa HB.out hb4);clear hb4;have z0:=jZc HZ.out 0;have z1:=jZc HZ.out 1;have z2:=jZc HZ.out 2;have z3:=jZc HZ.out 3;have f0:=jZm HZ.out 0;have f1:=jZm HZ.out 1;have f2:=jZm HZ.out 2;have f3:=jZm HZ.out 3;have lz:=ltS HZ.out;go_wp2
 refine hZe (fun W=>W.heap[w.heap.size+1+1]?=some (.cells #[.int .i64 S.x,.int .i64 S.y,.int .i64 S.u,.int .i64 S.v] 32 (0,0))∧Below w.heap.size w W) ⟨put4g HZ.out _ _ _ _,put4gb HB.out (by omega) _ _ _ _⟩ ?_;clear z0 z1 z2 z3 f0 f1 f2 f3 lz;rintro W ⟨hp,hbW⟩;have z0:=jZc hp 0;have z1:=jZc hp 1;have z2:=jZc hp 2;have z3:=jZc hp 3
 exact bodyPost_ret (v:=.agg #[.int .i64 S.x,.int .i64 S.y,.int .i64 S.u,.int .i64 S.v]) (by simp only [results,Tryz.results210];go_simp) rfl ⟨rfl,hbW⟩
end
section
attribute [local go_sem] jZ0 jZ5 jZ2
theorem cellK_v (k1 k2 m1 m2:Nat) (cw ch sk px py:Int) (S1 S2:List Int) (B1 B2:Option Addr) (n1 e1 n2 e2 bx1 bx2:Nat) (S:Re) (w:World)
  (hp:smW ⟨k1,k2,m1,m2,cw,ch,sk,px,py⟩) (hs:0≤sk∧sk≤15) (hk1:k1+m1≤S1.length) (hk2:k2+m2≤S2.length) (hz1:SzB S1) (hz2:SzB S2) (hn1:n1=S1.length+1) (hn2:n2=S2.length+1)
  (hx1:w.heap[bx1]?=some (.cells #[.slice B1 n1 e1] 47 (0,0))) (hx2:w.heap[bx2]?=some (.cells #[.slice B2 n2 e2] 47 (0,0))) (hv1:NV w B1 (edL S1)) (hv2:NV w B2 (edL S2)) (hS:qZf S1 S2 ⟨k1,k2,m1,m2,cw,ch,sk,px,py⟩=S) :
  Calls Tryz.prog 209 #[.agg #[.int .i64 k1,.int .i64 k2,.int .i64 m1,.int .i64 m2,.int .i64 cw,.int .i64 ch,.int .i64 sk,.int .i64 px,.int .i64 py],.pointer (some ⟨bx1,0,none⟩),.pointer (some ⟨bx2,0,none⟩)] w fun e w'=>e=.returned (.agg #[.int .i64 S.x,.int .i64 S.y,.int .i64 S.u,.int .i64 S.v])∧Below w.heap.size w w':=by
 have har:=area_bd hz1 hz2 ⟨k1,k2,m1,m2,cw,ch,sk,px,py⟩;have heq:=celI_eq (S1:=S1) (S2:=S2) (c:=⟨k1,k2,m1,m2,cw,ch,sk,px,py⟩) hs hp.1 hp.2.1 hp.2.2.1 hp.2.2.2 har;rw [hS] at heq;have t1:=uZc S1 k1 m1;have t2:=uZc S2 k2 m2;have b1:=hz1.take k1;have b2:=hz2.take k2;have b3:=hz1.take (k1+m1);have b4:=hz2.take (k2+m2);have l5:=hz1.2.2;have l6:=hz2.2.2
 obtain ⟨b1_,off1,rfl,hb1,hp1⟩:=hv1.cells (by rw [gZw];omega);obtain ⟨b2_,off2,rfl,hb2,hp2⟩:=hv2.cells (by rw [gZw];omega);have c1:=hp1 k1 _ (dZ2 (S:=S1) (i:=k1) (by omega));have c2:=hp1 (k1+m1) _ (dZ2 (S:=S1) (i:=k1+m1) (by omega));have c3:=hp2 k2 _ (dZ2 (S:=S2) (i:=k2) (by omega));have c4:=hp2 (k2+m2) _ (dZ2 (S:=S2) (i:=k2+m2) (by omega));have g1:=jZc hx1 0
 have g2:=jZc hx2 0;have lx1:=ltS hx1;have lx2:=ltS hx2
 have hA:pZm S1 S2 ⟨k1,k2,m1,m2,cw,ch,sk,px,py⟩=⟨sumI (S1.take k1),sumI (S2.take k2),sumI (S1.take (k1+m1))-sumI (S1.take k1),sumI (S2.take (k2+m2))-sumI (S2.take k2)⟩:=by
  unfold pZm;rw [t1,t2];simp only [Int.toNat_natCast];rw [Int.add_comm,Int.add_sub_cancel,Int.add_comm (sumI (List.take k2 S2)),Int.add_sub_cancel]
 rw [hA] at heq har;clear t1 t2 hA hx1 hx2 hp1 hp2 hv1 hv2 hS
 obtain ⟨l,hl⟩:∃ z,sumI (S1.take k1)=z:=⟨_,rfl⟩
 obtain ⟨t,ht⟩:∃ z,sumI (S2.take k2)=z:=⟨_,rfl⟩
 obtain ⟨r,hr⟩:∃ z,sumI (S1.take (k1+m1))=z:=⟨_,rfl⟩
 obtain ⟨b,hbb⟩:∃ z,sumI (S2.take (k2+m2))=z:=⟨_,rfl⟩
 rw [hl] at c1 b1 heq har;rw [ht] at c3 b2 heq har;rw [hr] at c2 b3 heq har;rw [hbb] at c4 b4 heq har;have hSm:SmW l t r b:=dZs (by omega)
 have i1:(k1:Int)<(n1:Int):=by omega
 have i2:(k1:Int)+(m1:Int)<(n1:Int):=by omega
 have i3:(0:Int)≤(k1:Int)+(m1:Int):=by omega
 have i4:((k1:Int)+(m1:Int)).toNat=k1+m1:=by omega
 have w1:IntKind.i64.wrap ((k1:Int)+(m1:Int))=(k1:Int)+(m1:Int):=IntWalk.i64_in _ (by omega)
 have j1:(k2:Int)<(n2:Int):=by omega
 have j2:(k2:Int)+(m2:Int)<(n2:Int):=by omega
 have j3:(0:Int)≤(k2:Int)+(m2:Int):=by omega
 have j4:((k2:Int)+(m2:Int)).toNat=k2+m2:=by omega
 have w2:IntKind.i64.wrap ((k2:Int)+(m2:Int))=(k2:Int)+(m2:Int):=IntWalk.i64_in _ (by omega);have HQ:=hD (And.intro hp (And.intro hs (And.intro har heq)));have HC:=hD (And.intro c1 (And.intro c2 (And.intro c3 (And.intro c4 (And.intro g1 g2)))));clear hl ht hr hbb c1 c2 c3 c4 g1 g2 hp hs har heq b1 b2 b3 b4 l5 l6 hn1 hn2 hk1 hk2 hz1 hz2
 go_enter Tryz.func209,Tryz.ntmps209
 go_upto_region 1 with (fail)
 refine kZf (fun W=>W.heap[w.heap.size]?=some (.cells #[.int .i64 k1,.int .i64 k2,.int .i64 m1,.int .i64 m2,.int .i64 cw,.int .i64 ch,.int .i64 sk,.int .i64 px,.int .i64 py] 39 (0,0))∧W.heap[w.heap.size+1]?=some (.cells #[.int .i64 0,.int .i64 0,.int .i64 0,.int .i64 0] 32 (0,0))∧Below w.heap.size w W) ⟨(Below.heap_alloc _ _ w.heap.size (by simp)).trans (newS w _),by have:=newS (w.alloc (.cells #[.int .i64 k1,.int .i64 k2,.int .i64 m1,.int .i64 m2,.int .i64 cw,.int .i64 ch,.int .i64 sk,.int .i64 px,.int .i64 py] 39 (0,0))) (.cells #[.int .i64 0,.int .i64 0,.int .i64 0,.int .i64 0] 32 (0,0));rwa [World.size_alloc] at this,jZd (jZd (Below.refl _ _))⟩ (fun w0 h0=>?_)
 obtain ⟨hx,hz,hB⟩:=h0;obtain ⟨c1,c2,c3,c4,g1,g2⟩:=HC.out;obtain ⟨hcw,-⟩:=kZi hB;have x0:=jZc hx 0;have x1:=jZc hx 1;have x2:=jZc hx 2;have x3:=jZc hx 3;have x4:=jZc hx 4;have x5:=jZc hx 5;have x6:=jZc hx 6;have x7:=jZc hx 7;have x8:=jZc hx 8;have d1:=(hcw _ _ hb1).trans c1;have d2:=(hcw _ _ hb1).trans c2;have d3:=(hcw _ _ hb2).trans c3;have d4:=(hcw _ _ hb2).trans c4
 have d5:=(hcw _ _ lx1).trans g1;have d6:=(hcw _ _ lx2).trans g2;have z0:=jZc hz 0;have z1:=jZc hz 1;have z2:=jZc hz 2;have z3:=jZc hz 3;have f0:=jZm hz 0;have f1:=jZm hz 1;have f2:=jZm hz 2;have f3:=jZm hz 3;have lx:=ltS hx;have lz:=ltS hz;have hsw:=hB.size
 have q1:b1_<w0.heap.size:=by omega
 have q2:b2_<w0.heap.size:=by omega
 have q3:bx1<w0.heap.size:=by omega
 have q4:bx2<w0.heap.size:=by omega
 have HZ:=hD hz;have HB:=hD hB;clear hx hz hB c1 c2 c3 c4 g1 g2 hcw HC
 go_wp2_with fail
 refine jZg 29 1 (·<29) (by kernel_rfl) (by kernel_rfl) rfl ?_
 iterate 29 (refine jZ3 (fun K hK=>?_);first|(refine kZr rfl ?_;go_simp;refine hK _ ?_;clear hK K)|(apply Exists.intro;refine ⟨.inl ⟨rfl,fun w' hw'=>?_⟩,?_⟩;(focus ((obtain ⟨hc,hf⟩:=kZi hw'.out);(have hcS:=kZq hw'.out);go_simp <;> first | rfl|(go_at_call 155;exact gZi _ _ _ _ _ hSm)|(go_at_call 210;exact inLines_v ⟨k1,k2,m1,m2,cw,ch,sk,px,py⟩ ⟨l,t,r-l,b-t⟩ _ HQ.out.1 HQ.out.2.1 HQ.out.2.2.1 S HQ.out.2.2.2)));(go_simp;refine hK _ ?_;clear hK K)))
 refine jZ9 ?_;refine jZ1 (by kernel_rfl) (fun w8 hg8=>?_);have hb8:=jZs hg8.out;obtain ⟨hc8,hf8⟩:=kZi hb8;refine jZn (i:=29) (by kernel_rfl) rfl rfl ?_;go_simp;refine jZq (by kernel_rfl) ?_;refine kZ0.thn ?_;clear hc8 hf8;clear hg8;have hz2:=put4g ((hb8.block _ lz).trans HZ.out) (.int .i64 S.x) (.int .i64 S.y) (.int .i64 S.u) (.int .i64 S.v)
 have hbz:=put4gb (jZa HB.out hb8) (b:=w.heap.size+1) (by omega) (.int .i64 S.x) (.int .i64 S.y) (.int .i64 S.u) (.int .i64 S.v);go_wp2;refine hZe (fun W=>W.heap[w.heap.size+1]?=some (.cells #[.int .i64 S.x,.int .i64 S.y,.int .i64 S.u,.int .i64 S.v] 32 (0,0))∧Below w.heap.size w W) ⟨hz2,hbz⟩ ?_;clear x0 x1 x2 x3 x4 x5 x6 x7 x8 d1 d2 d3 d4 d5 d6 z0 z1 z2 z3 f0 f1 f2 f3 hz2 hbz
 rintro W ⟨hq,hbW⟩;have z0:=jZc hq 0;have z1:=jZc hq 1;have z2:=jZc hq 2;have z3:=jZc hq 3;exact bodyPost_ret (v:=.agg #[.int .i64 S.x,.int .i64 S.y,.int .i64 S.u,.int .i64 S.v]) (by simp only [results,Tryz.results209];go_simp) rfl ⟨rfl,hbW⟩
def fitC (S1 S2:List Int) (p:Ce):Prop:=smW p∧(0≤p.sk∧p.sk≤15)∧(0≤p.co∧0≤p.ro∧1≤p.mc∧1≤p.mr)∧p.co+p.mc≤S1.length∧p.ro+p.mr≤S2.length
theorem cellJ_v (p:Ce) (S1 S2:List Int) (B1 B2:Option Addr) (n1 e1 n2 e2 bx1 bx2:Nat) (w:World) (hf:fitC S1 S2 p) (hz1:SzB S1) (hz2:SzB S2) (hn1:n1=S1.length+1) (hn2:n2=S2.length+1)
  (hx1:w.heap[bx1]?=some (.cells #[.slice B1 n1 e1] 47 (0,0))) (hx2:w.heap[bx2]?=some (.cells #[.slice B2 n2 e2] 47 (0,0))) (hv1:NV w B1 (edL S1)) (hv2:NV w B2 (edL S2)) :
  Calls Tryz.prog 209 #[.agg #[.int .i64 p.co,.int .i64 p.ro,.int .i64 p.mc,.int .i64 p.mr,.int .i64 p.cw,.int .i64 p.ch,.int .i64 p.sk,.int .i64 p.px,.int .i64 p.py],.pointer (some ⟨bx1,0,none⟩),.pointer (some ⟨bx2,0,none⟩)] w fun e w'=>e=.returned (.agg #[.int .i64 (qZf S1 S2 p).x,.int .i64 (qZf S1 S2 p).y,.int .i64 (qZf S1 S2 p).u,.int .i64 (qZf S1 S2 p).v])∧Below w.heap.size w w':=by
 obtain ⟨co,ro,mc,mr,cw,ch,sk,px,py⟩:=p;obtain ⟨h1,h2,⟨h3,h4,h5,h6⟩,h7,h8⟩:=hf
 dsimp only at h3 h4 h5 h6 h7 h8
 obtain ⟨k1,rfl⟩:=Int.eq_ofNat_of_zero_le h3;obtain ⟨k2,rfl⟩:=Int.eq_ofNat_of_zero_le h4;obtain ⟨m1,rfl⟩:=Int.eq_ofNat_of_zero_le (show 0≤mc by omega);obtain ⟨m2,rfl⟩:=Int.eq_ofNat_of_zero_le (show 0≤mr by omega);exact cellK_v k1 k2 m1 m2 cw ch sk px py S1 S2 B1 B2 n1 e1 n2 e2 bx1 bx2 _ w h1 h2 (by omega) (by omega) hz1 hz2 hn1 hn2 hx1 hx2 hv1 hv2 rfl
theorem each_rect (A:Option Addr) (c:Nat) (L:List Ce) (S1 S2:List Int) (B1 B2:Option Addr) (n1 e1 n2 e2 bx1 bx2:Nat) (w:World) (h:CeV w A L) (hL:L.length≤1048576) (hsm:∀ p∈L,fitC S1 S2 p) (hz1:SzB S1) (hz2:SzB S2) (hn1:n1=S1.length+1) (hn2:n2=S2.length+1)
  (hx1:w.heap[bx1]?=some (.cells #[.slice B1 n1 e1] 47 (0,0))) (hx2:w.heap[bx2]?=some (.cells #[.slice B2 n2 e2] 47 (0,0))) (hv1:NV w B1 (edL S1)) (hv2:NV w B2 (edL S2)) :
  Calls Tryz.prog 208 #[.slice A L.length c,.func (.func 209) #[] #[.pointer (some ⟨bx1,0,none⟩),.pointer (some ⟨bx2,0,none⟩)]] w fun e w'=>e=.returned (.slice (some ⟨w.heap.size,0,none⟩) L.length L.length)∧ReB w' w.heap.size (L.map (qZf S1 S2))∧Below w.heap.size w w':=by
 obtain ⟨f,hf,hmk0⟩:=madeRe
 have hmk:∀ w:World,(Instr.makeSlice 28 (.int .i64 (L.length:Int)) (.int .i64 (L.length:Int))).run Tryz.prog w=.ok (.slice (some ⟨w.heap.size,0,none⟩) L.length L.length) (w.alloc (.cells (f L.length) 32)):=fun w=>hmk0 L.length w hL
 have HSM:=hD hsm;have HZZ:=hD (And.intro hz1 (And.intro hz2 (And.intro hn1 hn2)));have HX1:=hD hx1;have HX2:=hD hx2;have HW1:=hD hv1;have HW2:=hD hv2;clear hz1 hz2 hn1 hn2 hx1 hx2 hv1 hv2
 go_enter Tryz.func208,Tryz.ntmps208
 go_wp2_with fail
 have HWW:Hid (∃ cs:Array Value,(w.alloc (.cells (f L.length) 32)).heap[w.heap.size]?=some (.cells cs 32 (0,0))∧cs.size=L.length*4∧∀ i p,i<0→(L.map (qZf S1 S2))[i]?=some p→InS cs (i*4) (jZr p)):=hD ⟨_,newS _ _,hf _,fun i p hi=>absurd hi (by omega)⟩;clear hmk hmk0 hf hsm
 go_loopw [13] (fun i wr=>∃ k:Nat,k≤L.length∧i=.int .i64 k∧(∃ cs:Array Value,wr.heap[w.heap.size]?=some (.cells cs 32 (0,0))∧cs.size=L.length*4∧∀ i p,i<k→(L.map (qZf S1 S2))[i]?=some p→InS cs (i*4) (jZr p))∧Below w.heap.size w wr) (fun i _=>L.length-(intOf i).toNat)
 case atStart=>exact ⟨0,by omega,rfl,HWW.out,jZd (Below.refl _ _)⟩
 case round =>
  obtain ⟨k,hk,rfl,⟨cs,hh,hs,hc⟩,hB⟩:=hrel;clear HWW
  by_cases hlt:k<L.length
  ·have hd:decide ((k:Int)<(L.length:Int))=true:=by simpa using hlt
   obtain ⟨b,off,rfl,hb,hp⟩:=(h.keep hB).cells (by omega);have hget:L[k]?=some L[k]:=List.getElem?_eq_getElem hlt;obtain ⟨c0,c1,c2,c3,c4,c5,c6,c7,c8⟩:=hp k _ hget;have hsk:fitC S1 S2 L[k]:=HSM.out _ (List.getElem_mem hlt);generalize hx:L[k]=p at *;have HG:=hD (show (L.map (qZf S1 S2))[k]?=some (qZf S1 S2 p) by rw [List.getElem?_map,hget];rfl);have HH:=hD hh;have HS:=hD hs;have HC:=hD hc
   have HBB:=hD hB;have HK:=hD hsk;clear hget hx hh hs hc hB hp hsk
   go_wp2_with fail
   have hbn:Below w.heap.size w (wr.alloc (.cells #[.int .i64 p.co,.int .i64 p.ro,.int .i64 p.mc,.int .i64 p.mr,.int .i64 p.cw,.int .i64 p.ch,.int .i64 p.sk,.int .i64 p.px,.int .i64 p.py] 39)):=jZd HBB.out
   with_reducible refine (cellJ_v p S1 S2 B1 B2 n1 e1 n2 e2 bx1 bx2 _ HK.out HZZ.out.1 HZZ.out.2.1 HZZ.out.2.2.1 HZZ.out.2.2.2 ((hbn.block _ (ltS HX1.out)).trans HX1.out) ((hbn.block _ (ltS HX2.out)).trans HX2.out) (HW1.out.keep hbn) (HW2.out.keep hbn)).mono ?_
   rintro e w1 ⟨rfl,hb1⟩;have hlg:w.heap.size<wr.heap.size:=ltS HH.out;have hb01:=jZa (jZd (Below.refl wr.heap.size wr)) hb1;replace HH:=hD ((hb01.block _ hlg).trans HH.out);replace HBB:=hD (HBB.out.trans (hb01.mono HBB.out.size));clear hbn hb1 hb01 c0 c1 c2 c3 c4 c5 c6 c7 c8 hlg
   have hsz:k*4+4≤cs.size:=by rw [HS.out];omega
   obtain ⟨y0,d0⟩:=pZz HH.out (i:=k*4) (by omega);obtain ⟨y1,d1⟩:=pZz HH.out (i:=k*4+1) (by omega);obtain ⟨y2,d2⟩:=pZz HH.out (i:=k*4+2) (by omega);obtain ⟨y3,d3⟩:=pZz HH.out (i:=k*4+3) (by omega);have f0:=jZm HH.out (k*4);have f1:=jZm HH.out (k*4+1);have f2:=jZm HH.out (k*4+2);have f3:=jZm HH.out (k*4+3);have E1:=hD (putRe HH.out (k*4) (qZf S1 S2 p))
   have E2:=hD (putReb HBB.out (Nat.le_refl _) (k*4) (qZf S1 S2 p));go_wp2
   go_roundw
   case rel=>exact ⟨k+1,by omega,by go_num,⟨_,E1.out,(pZ6 _ _ _).trans HS.out,fun i q hi hq=>by
    by_cases e:i=k
    ·subst e
     obtain rfl:(qZf S1 S2 p)=q:=by have:=HG.out;rw [this] at hq;exact Option.some.inj hq
     exact InS.write (by simp only [jZr,List.length_cons,List.length_nil];omega)
    ·exact (HC.out i q (by omega) hq).keepS (.inl (by simp only [jZr,List.length_cons,List.length_nil];omega))⟩,E2.out⟩
   case measure=>simp [intOf];omega
  ·have hd:decide ((k:Int)<(L.length:Int))=false:=decide_eq_false (by omega)
   obtain rfl:k=L.length:=by omega
   have HR:=hD (show ReB wr w.heap.size (L.map (qZf S1 S2)) from ⟨cs,hh,by rw [List.length_map];exact hs,fun i p hp=>hc i p (by have:=(List.getElem?_eq_some_iff.1 hp).1;rwa [List.length_map] at this) hp⟩);have HBB:=hD hB;clear hh hs hc hB;go_wp2;go_ret;exact ⟨rfl,HR.out,HBB.out⟩
theorem fit_ofW {L1 L2:List Ln} {L3:List Ce} {S1 S2:List Int} (hg:GW L1 L2 L3) (h1:S1.length=L1.length) (h2:S2.length=L2.length):∀ p∈L3,fitC S1 S2 p:=fun p hp=>by
 have hs:=hg.hsm p hp;obtain ⟨a,b,c⟩:=hg.hin p hp;exact ⟨hs,c,by omega,by omega,by omega⟩
theorem gZu (A1:Option Addr) (c1:Nat) (L1:List Ln) (A2:Option Addr) (c2:Nat) (L2:List Ln) (A3:Option Addr) (c3:Nat) (L3:List Ce) (u v:Int) (w:World) (h1:LnV w A1 L1) (h2:LnV w A2 L2) (h3:CeV w A3 L3) (gf:GW L1 L2 L3) (hu:rqW u v=true) :
  Calls Tryz.prog 206 #[.agg #[.slice A1 L1.length c1,.slice A2 L2.length c2,.slice A3 L3.length c3],.int .i64 u,.int .i64 v] w fun e w'=>(∃ g,e=.returned (.slice (some ⟨g,0,none⟩) L3.length L3.length)∧w.heap.size≤g∧ReB w' g (L3.map (qZf (kZa L1 (L3.map acM) u) (kZa L2 (L3.map dnM) v))))∧Below w.heap.size w w':=by
 obtain ⟨⟨u0,u1⟩,⟨y0,y1⟩⟩:=pZu.1 hu;have q1:=qZ4 (room:=u) gf.v1 gf.s1 u0 u1;have q2:=qZ4 (room:=v) gf.v2 gf.s2 y0 y1;have HFT:=hD (fit_ofW gf q1 q2);have HZ1:=hD (SzB.of gf.v1 gf.s1 u0 u1);have HZ2:=hD (SzB.of gf.v2 gf.s2 y0 y1);have HQ:=hD (And.intro q1 q2);have hl8:=gf.hl8;have HG:=hD (And.intro gf hu)
 have hB0:Below w.heap.size w (w.alloc (.cells #[.slice A1 L1.length c1,.slice A2 L2.length c2,.slice A3 L3.length c3] 128 (0,0))):=jZd (Below.refl _ _);have HX:=hD (newS w (.cells #[.slice A1 L1.length c1,.slice A2 L2.length c2,.slice A3 L3.length c3] 128 (0,0)));have HV1:=hD (h1.keep hB0);have HV2:=hD (h2.keep hB0);have HV3:=hD (h3.keep hB0);have HB:=hD hB0;clear hB0 h1 h2 h3 gf hu q1 q2
 go_enter Tryz.func206,Tryz.ntmps206
 go_wp2_with fail
 with_reducible refine (edges_w A1 c1 L1 A2 c2 L2 A3 c3 L3 u v _ HV1.out HV2.out HV3.out HG.out.1 HG.out.2).mono ?_
 rintro e w1 ⟨⟨B1,e1,B2,e2,rfl,hi1,hi2⟩,hb⟩;replace HX:=hbk hb HX;replace HV3:=hD (HV3.out.keep hb);replace HB:=hD (jZa HB.out hb);clear hb;have HI1:=hD hi1;have HI2:=hD hi2;clear hi1 hi2
 go_upto_region 2 with (fail)
 refine kZf (fun W=>W.heap[w1.heap.size]?=some (.cells #[.slice B1 (L1.length+1) e1] 47 (0,0))∧W.heap[w1.heap.size+1]?=some (.cells #[.slice B2 (L2.length+1) e2] 47 (0,0))∧Below w1.heap.size w1 W) ?hw (fun w2 h2=>?_)
 case hw =>
  exact ⟨(Below.heap_alloc _ _ _ (by simp)).trans (newS _ _),by have:=newS (w1.alloc (.cells #[.slice B1 (L1.length+1) e1] 47 (0,0))) (.cells #[.slice B2 (L2.length+1) e2] 47 (0,0));rwa [World.size_alloc] at this,jZd (jZd (Below.refl _ _))⟩
 obtain ⟨hx1,hx2,hb2⟩:=h2;replace HX:=hbk hb2 HX;replace HV3:=hD (HV3.out.keep hb2);replace HI1:=hD (HI1.out.keep hb2);replace HI2:=hD (HI2.out.keep hb2);replace HB:=hD (jZa HB.out hb2);clear hb2;have HX1:=hD hx1;have HX2:=hD hx2;clear hx1 hx2;have d2:=jZc HX.out 2
 go_wp2_with fail
 with_reducible refine (each_rect A3 c3 L3 _ _ B1 B2 (L1.length+1) e1 (L2.length+1) e2 w1.heap.size (w1.heap.size+1) _ HV3.out (by omega) HFT.out HZ1.out HZ2.out (by rw [HQ.out.1]) (by rw [HQ.out.2]) HX1.out HX2.out HI1.out HI2.out).mono ?_
 rintro e w3 ⟨rfl,hr,hb3⟩;have hsz:=HB.out.size;clear d2;replace HX:=hbk hb3 HX;replace HB:=hD (jZa HB.out hb3);clear hb3;have HR:=hD hr;clear hr;go_wp2;go_ret;exact ⟨⟨_,rfl,hsz,HR.out⟩,HB.out⟩
def ReR (w:World) (x:Value) (M:List Re):Prop:=∃ A c,x=.slice A M.length c∧ReV w A M
theorem ReR.keep {w w':World} {x:Value} {M:List Re} (h:ReR w x M) (hb:Below w.heap.size w w'):ReR w' x M:=let ⟨A,c,e,n⟩:=h;⟨A,c,e,n.keep hb⟩
end
theorem reB_blk {w:World} {g:Nat} {M:List Rc} (h:Blk4 w g M):ReB w g (M.map rcRe):=by
 obtain ⟨cs,hh,hs,hc⟩:=h;refine ⟨cs,hh,by rw [hs,List.length_map],fun i p hp=>?_⟩;rw [List.getElem?_map] at hp;obtain ⟨r,hr,rfl⟩:=Option.map_eq_some_iff.1 hp;intro j u hj;have hj4:j<4:=(List.getElem?_eq_some_iff.1 hj).1;rw [hc i r hr j hj4];exact hj
theorem reB_rbk {w:World} {g:Nat} {M:List Re} (h:RbK 4 w g 32 (M.map jZr)):ReB w g M:=by
 obtain ⟨cs,hh,hs,hc⟩:=h;rw [List.length_map] at hs;exact ⟨cs,hh,hs,fun i p hp=>hc i (jZr p) (by rw [List.length_map];exact (List.getElem?_eq_some_iff.1 hp).1) (by rw [List.getElem?_map,hp];rfl)⟩
theorem pkRects_v (A:Option Addr) (c n:Nat) (L:List Pk) (u v:Int) (w:World) (h:PV w A L) (hn:n=L.length) (hcap:L.length≤c) (hL:bgL L) (hq:rqW u v=true) :
  Calls Tryz.prog 234 #[.slice A n c,.int .i64 u,.int .i64 v] w fun e w'=>(∃ g,e=.returned (.slice (some ⟨g,0,none⟩) n n)∧w.heap.size≤g∧ReB w' g ((setL L (qZh L ⟨0,0,u,v⟩).1).map rcRe))∧Below w.heap.size w w':=by
 subst hn;obtain ⟨q1,q2⟩:=pZu.1 hq
 have hz:(⟨0,0,u,v⟩:Rc).okW:=by unfold Rc.okW;dsimp only;omega
 obtain ⟨M,Z,hM⟩:∃ M Z,qZh L ⟨0,0,u,v⟩=(M,Z):=⟨_,_,rfl⟩
 rw [show (qZh L ⟨0,0,u,v⟩).1=M from by rw [hM]];have HP:=hD (gZ3 A c L ⟨0,0,u,v⟩ w h hcap hL hz M Z hM);clear h hcap hL hq hz hM q1 q2
 go_enter Tryz.func234,Tryz.ntmps234
 go_wp2_with fail
 refine HP.out.mono ?_;rintro e w1 ⟨⟨g,rfl,hg,hk⟩,hb⟩;have HK:=hD (reB_blk hk);have HB:=hD hb;clear hk hb;go_wp2;go_ret;exact ⟨⟨g,rfl,hg,HK.out⟩,HB.out⟩
theorem grRects_v (A1:Option Addr) (c1:Nat) (L1:List Ln) (A2:Option Addr) (c2:Nat) (L2:List Ln) (A3:Option Addr) (c3 n3:Nat) (L3:List Ce) (u v:Int) (w:World) (h1:LnV w A1 L1) (h2:LnV w A2 L2) (h3:CeV w A3 L3) (hn:n3=L3.length) (gf:GW L1 L2 L3) (hq:rqW u v=true) :
  Calls Tryz.prog 204 #[.agg #[.slice A1 L1.length c1,.slice A2 L2.length c2,.slice A3 n3 c3],.int .i64 u,.int .i64 v] w fun e w'=>(∃ g,e=.returned (.slice (some ⟨g,0,none⟩) n3 n3)∧w.heap.size≤g∧ReB w' g (L3.map (qZf (kZa L1 (L3.map acM) u) (kZa L2 (L3.map dnM) v))))∧Below w.heap.size w w':=by
 subst hn;have hB0:Below w.heap.size w (w.alloc (.cells #[.slice A1 L1.length c1,.slice A2 L2.length c2,.slice A3 L3.length c3] 149 (0,0))):=jZd (Below.refl _ _);have HG:=hD (gZu A1 c1 L1 A2 c2 L2 A3 c3 L3 u v _ (h1.keep hB0) (h2.keep hB0) (h3.keep hB0) gf hq);have HX:=hD (newS w (.cells #[.slice A1 L1.length c1,.slice A2 L2.length c2,.slice A3 L3.length c3] 149 (0,0)))
 have d0:=jZc HX.out 0;have d1:=jZc HX.out 1;have d2:=jZc HX.out 2;clear hB0 h1 h2 h3 gf hq
 go_enter Tryz.func204,Tryz.ntmps204
 go_wp2_with fail
 refine HG.out.mono ?_;rintro e w1 ⟨⟨g,rfl,hg,hr⟩,hb⟩;have HB:=hD (jZa (jZd (Below.refl w.heap.size w)) hb);have HR:=hD hr
 have hg2:w.heap.size≤g:=by simp only [World.size_alloc] at hg;omega
 clear hr hb d0 d1 d2 HX HG;go_wp2;go_ret;exact ⟨⟨g,rfl,hg2,HR.out⟩,HB.out⟩
theorem plr1_v (p:Plc) (u v:Int) (b1 b2:Nat) (w:World) (hp:plB p=true) (hq:rqW u v=true) (h1:w.cell? ⟨b1,0,none⟩=some (.int .i64 u)) (h2:w.cell? ⟨b2,0,none⟩=some (.int .i64 v)) (l1:b1<w.heap.size) (l2:b2<w.heap.size) :
  Calls Tryz.prog 229 #[.agg #[.int .i64 p.x,.int .i64 p.y,.int .i64 p.rx,.int .i64 p.ry,.int .i64 p.ww,.int .i64 p.hh,.int .i64 p.qw,.int .i64 p.qh,.int .i64 p.an],.pointer (some ⟨b1,0,none⟩),.pointer (some ⟨b2,0,none⟩)] w fun e w'=>e=.returned (.agg #[.int .i64 (xM p u),.int .i64 (yM p v),.int .i64 (wM p u),.int .i64 (hM p v)])∧Below w.heap.size w w':=by
 have HPR:=hD (fun W=>gZy p u v W hp hq);have HC:=hD (And.intro h1 h2);clear hp hq h1 h2
 go_enter Tryz.func229,Tryz.ntmps229
 go_upto_region 1 with (fail)
 refine kZf (fun W=>W.heap[w.heap.size]?=some (.cells #[.int .i64 p.x,.int .i64 p.y,.int .i64 p.rx,.int .i64 p.ry,.int .i64 p.ww,.int .i64 p.hh,.int .i64 p.qw,.int .i64 p.qh,.int .i64 p.an] 41 (0,0))∧W.heap[w.heap.size+1]?=some (.cells #[.int .i64 0,.int .i64 0,.int .i64 0,.int .i64 0] 32 (0,0))∧Below w.heap.size w W) ⟨(Below.heap_alloc _ _ w.heap.size (by simp)).trans (newS w _),uZx w _ _,jZd (jZd (Below.refl _ _))⟩ (fun W0 h0=>?_)
 obtain ⟨hx,hz,hB⟩:=h0;obtain ⟨c0,c1,c2,c3,c4,c5,c6,c7,c8⟩:=c9_q hx;have d1:=(hB.cell (p:=⟨b1,0,none⟩) l1).trans HC.out.1;have d2:=(hB.cell (p:=⟨b2,0,none⟩) l2).trans HC.out.2;have lx:=ltS hx;have HZ:=hD hz;have HB:=hD hB;have k1:b1<W0.heap.size:=Nat.lt_of_lt_of_le l1 hB.size;have k2:b2<W0.heap.size:=Nat.lt_of_lt_of_le l2 hB.size;clear hx hz hB
 go_wp2_with fail
 refine (HPR.out _).mono ?_;rintro e w1 ⟨rfl,hb1⟩;clear c0 c1 c2 c3 c4 c5 c6 c7 c8 d1 d2 lx k1 k2;replace HZ:=hbk hb1 HZ;replace HB:=hD (jZa HB.out hb1);clear hb1;have z0:=jZc HZ.out 0;have z1:=jZc HZ.out 1;have z2:=jZc HZ.out 2;have z3:=jZc HZ.out 3;have f0:=jZm HZ.out 0;have f1:=jZm HZ.out 1;have f2:=jZm HZ.out 2;have f3:=jZm HZ.out 3;have lz:=ltS HZ.out
 obtain ⟨x0,e0⟩:∃ z,xM p u=z:=⟨_,rfl⟩
 obtain ⟨y0,e1⟩:∃ z,yM p v=z:=⟨_,rfl⟩
 obtain ⟨u0,e2⟩:∃ z,wM p u=z:=⟨_,rfl⟩
 obtain ⟨v0,e3⟩:∃ z,hM p v=z:=⟨_,rfl⟩
 rw [e0,e1,e2,e3];have HE:=hD (And.intro e0 (And.intro e1 (And.intro e2 e3)));clear e0 e1 e2 e3;go_wp2;refine hZe (fun W=>W.heap[w.heap.size+1]?=some (.cells #[.int .i64 x0,.int .i64 y0,.int .i64 u0,.int .i64 v0] 32 (0,0))∧Below w.heap.size w W) ⟨put4g HZ.out _ _ _ _,put4gb HB.out (by omega) _ _ _ _⟩ ?_;clear z0 z1 z2 z3 f0 f1 f2 f3 lz;rintro W ⟨hp,hbW⟩;have z0:=jZc hp 0;have z1:=jZc hp 1
 have z2:=jZc hp 2;have z3:=jZc hp 3;exact bodyPost_ret (v:=.agg #[.int .i64 x0,.int .i64 y0,.int .i64 u0,.int .i64 v0]) (by simp only [results,Tryz.results229];go_simp) rfl ⟨by rw [HE.out.1,HE.out.2.1,HE.out.2.2.1,HE.out.2.2.2],hbW⟩
def iV (v:Value):Int:=intOf v
def plOf (vs:List Value):Plc:=⟨iV (gd vs 0),iV (gd vs 1),iV (gd vs 2),iV (gd vs 3),iV (gd vs 4),iV (gd vs 5),iV (gd vs 6),iV (gd vs 7),iV (gd vs 8)⟩
theorem tZ5 (r:Re):one (jZr r):=by
 intro v hv;simp only [jZr,List.mem_cons,List.not_mem_nil,or_false] at hv
 rcases hv with rfl | rfl | rfl | rfl <;> rfl
theorem each_prL (A:Option Addr) (c n:Nat) (L:List Plc) (u v:Int) (b1 b2:Nat) (w:World) (h:RvK 9 w A (L.map rZd)) (hn:n=L.length) (hl:n≤1048576) (hp:∀ p∈L,plB p=true) (hq:rqW u v=true) (h1:w.cell? ⟨b1,0,none⟩=some (.int .i64 u)) (h2:w.cell? ⟨b2,0,none⟩=some (.int .i64 v)) (l1:b1<w.heap.size) (l2:b2<w.heap.size) :
  Calls Tryz.prog 228 #[.slice A n c,.func (.func 229) #[] #[.pointer (some ⟨b1,0,none⟩),.pointer (some ⟨b2,0,none⟩)]] w fun e w'=>e=.returned (.slice (some ⟨w.heap.size,0,none⟩) n n)∧ReB w' w.heap.size (L.map (plR u v))∧Below w.heap.size w w':=by
 have e:(L.map rZd).length=n:=by simp [hn]
 rw [<- e]
 refine (each_pr A c (L.map rZd) (fun vs=>jZr (plR u v (plOf vs))) #[.pointer (some ⟨b1,0,none⟩),.pointer (some ⟨b2,0,none⟩)] w h (fun vs hv=>by obtain ⟨p,_,rfl⟩:=List.mem_map.1 hv;exact ⟨rfl,vZl p⟩) (by rw [e];exact hl) (fun vs hv=>⟨rfl,tZ5 _⟩) (fun vs hv W hW=>by
  obtain ⟨p,hm,rfl⟩:=List.mem_map.1 hv
  exact plr1_v p u v b1 b2 W (hp p hm) hq ((hW.cell (p:=⟨b1,0,none⟩) l1).trans h1) ((hW.cell (p:=⟨b2,0,none⟩) l2).trans h2) (Nat.lt_of_lt_of_le l1 hW.size) (Nat.lt_of_lt_of_le l2 hW.size))).mono ?_
 rintro e w1 ⟨rfl,hr,hb⟩;rw [List.map_map] at hr;refine ⟨rfl,reB_rbk ?_,hb⟩;rw [List.map_map];exact hr
theorem plRects_v (A:Option Addr) (c n:Nat) (L:List Plc) (u v:Int) (w:World) (h:RvK 9 w A (L.map rZd)) (hn:n=L.length) (hl:n≤1048576) (hp:∀ p∈L,plB p=true) (hq:rqW u v=true) :
  Calls Tryz.prog 226 #[.slice A n c,.int .i64 u,.int .i64 v] w fun e w'=>(∃ g,e=.returned (.slice (some ⟨g,0,none⟩) n n)∧w.heap.size≤g∧ReB w' g (L.map (plR u v)))∧Below w.heap.size w w':=by
 have HE:=hD (fun (W:World) b1 b2 (hW:Below w.heap.size w W)=>each_prL A c n L u v b1 b2 W (h.keep hW) hn hl hp hq);clear h hn hp hq
 go_enter Tryz.func226,Tryz.ntmps226
 go_upto_region 1 with (fail)
 refine kZf (fun W=>W.heap[w.heap.size]?=some (.cells #[.int .i64 u] 3 (0,0))∧W.heap[w.heap.size+1]?=some (.cells #[.int .i64 v] 3 (0,0))∧Below w.heap.size w W) ⟨(Below.heap_alloc _ _ w.heap.size (by simp)).trans (newS w _),uZx w _ _,jZd (jZd (Below.refl _ _))⟩ (fun W0 h0=>?_);obtain ⟨hx,hz,hB⟩:=h0;have HC:=hD (HE.out W0 _ _ hB (jZc hx 0) (jZc hz 0) (ltS hx) (ltS hz))
 have HB:=hD hB;clear hx hz hB HE
 go_wp2_with fail
 refine HC.out.mono ?_;rintro e w1 ⟨rfl,hr,hb⟩;have hs:=HB.out.size;have HR:=hD hr;clear hr HC;replace HB:=hD (jZa HB.out hb);clear hb;go_wp2;go_ret;exact ⟨⟨_,rfl,hs,HR.out⟩,HB.out⟩
theorem ncr_pk (v:Value) (w:World):(nilAhead (Tryz.prog.types.size+Made.depth) 155 v "loop.example/widgetroom/impl.rects").run Tryz.prog w=.ok (some false) w:=by kernel_rfl
theorem ncr_gr (v:Value) (w:World):(nilAhead (Tryz.prog.types.size+Made.depth) 149 v "loop.example/widgetroom/impl.rects").run Tryz.prog w=.ok (some false) w:=by kernel_rfl
theorem ncr_pl (v:Value) (w:World):(nilAhead (Tryz.prog.types.size+Made.depth) 151 v "loop.example/widgetroom/impl.rects").run Tryz.prog w=.ok (some false) w:=by kernel_rfl
theorem cmr_pk (v a b:Value) (w:World):(callMethod (.iface 155 v) "loop.example/widgetroom/impl.rects" #[a,b]).run Tryz.prog w=.ok (.enter 234 #[v,a,b]) w:=by kernel_rfl
theorem cmr_gr (v a b:Value) (w:World):(callMethod (.iface 149 v) "loop.example/widgetroom/impl.rects" #[a,b]).run Tryz.prog w=.ok (.enter 204 #[v,a,b]) w:=by kernel_rfl
theorem cmr_pl (v a b:Value) (w:World):(callMethod (.iface 151 v) "loop.example/widgetroom/impl.rects" #[a,b]).run Tryz.prog w=.ok (.enter 226 #[v,a,b]) w:=by kernel_rfl
theorem run_inv2 {P:Program} {ρ:Operand→Value} {o:Oper} {w:World} {T:TypeId} {v u1 u2:Value} {x y z:Operand} {name:String} {ts:Array TypeId} {F:FuncId} (ho:o.op=.call { callee:=.invoke x name,args:=#[y,z],argTypes:=ts }) (hx:ρ x=.iface T v) (hy:ρ y=u1) (hz:ρ z=u2) (hc:(callMethod (.iface T v) name #[u1,u2]).run P w=.ok (.enter F #[v,u1,u2]) w):(execOp ρ o).run P w=.ok (.enter F #[v,u1,u2]) w:=by
 unfold execOp;simp only [ho,resolve,List.map_toArray,List.map_cons,List.map_nil,hx,hy,hz,Sem.run_bind,Sem.run_pure,Result.andThen_ok,invoke]
 simpa using hc
def arM (n:Nd) (Y:List Wd) (a b:Int):List Re :=
 if n.ki=1 then (Y.map ceW).map (qZf (kZa n.cs ((Y.map ceW).map acM) a) (kZa n.rs ((Y.map ceW).map dnM) b))
 else if n.ki=2 then (Y.map fun y=>y.p.n.pl).map (plR a b)
 else (setL (Y.map pkW) (qZh (Y.map pkW) ⟨0,0,a,b⟩).1).map rcRe
theorem arRects {v:Value} {x:Wd} {p:Nr} {Y:List Wd} {w:World} {a b:Int} (h:ArV w v x Y) (hx:x.p=p) (hr:RdN w p) (hl:Y.length≤10) (hq:rqW a b=true)
  (c0:p.n.ki≠1→p.n.ki≠2→bgL (Y.map pkW)) (c1:p.n.ki=1→GW p.n.cs p.n.rs (Y.map ceW)) (c2:∀ y∈Y,plB y.p.n.pl=true) :
  ∃ T u F,v=.iface T u∧(nilAhead (Tryz.prog.types.size+Made.depth) T u "loop.example/widgetroom/impl.rects").run Tryz.prog w=.ok (some false) w ∧
   (∀ y z w,(callMethod (.iface T u) "loop.example/widgetroom/impl.rects" #[y,z]).run Tryz.prog w=.ok (.enter F #[u,y,z]) w) ∧
   Calls Tryz.prog F #[u,.int .i64 a,.int .i64 b] w fun e w'=>(∃ g,e=.returned (.slice (some ⟨g,0,none⟩) Y.length Y.length)∧w.heap.size≤g∧ReB w' g (arM p.n Y a b))∧Below w.heap.size w w':=by
 subst hx;obtain ⟨g,hg,⟨k1,rfl,hv⟩ | ⟨k1,rfl,hv⟩ | ⟨k1,k2,rfl,hv⟩⟩:=h
 ·refine ⟨_,_,_,rfl,ncr_gr _ _,fun _ _ _=>cmr_gr _ _ _ _,?_⟩;unfold arM;rw [if_pos k1];exact grRects_v _ _ _ _ _ _ _ _ _ (Y.map ceW) a b w hr.c hr.r (cev_of (by rw [List.map_map];exact hv)) (by rw [List.length_map]) (c1 k1) hq
 ·refine ⟨_,_,_,rfl,ncr_pl _ _,fun _ _ _=>cmr_pl _ _ _ _,?_⟩;unfold arM;rw [if_neg (by omega),if_pos k1];exact plRects_v _ _ _ (Y.map fun y=>y.p.n.pl) a b w (by rw [List.map_map];exact hv) (by rw [List.length_map]) (by omega) (fun q hq=>by obtain ⟨y,hy,rfl⟩:=List.mem_map.1 hq;exact c2 y hy) hq
 ·refine ⟨_,_,_,rfl,ncr_pk _ _,fun _ _ _=>cmr_pk _ _ _ _,?_⟩;unfold arM;rw [if_neg k1,if_neg k2];exact pkRects_v _ _ _ (Y.map pkW) a b w (pv_of (by rw [List.map_map];exact hv)) (by rw [List.length_map]) (by rw [List.length_map];exact Nat.le_refl _) (c0 k1 k2) hq
def MrV (w:World) (v:Value) (x:Wd) (Y:List Wd):Prop:=∃ u,v=.func (.method "loop.example/widgetroom/impl.rects") #[u] #[]∧ArV w u x Y
theorem MrV.keep {w w':World} {v:Value} {x:Wd} {Y:List Wd} (h:MrV w v x Y) (hb:Below w.heap.size w w'):MrV w' v x Y:=let ⟨u,e,k⟩:=h;⟨u,e,k.keep hb⟩
theorem pick_pl {R:List Nr} {X:List Wd}:∀ {ks:List Nat},(∀ k∈ks,∃ y p,X[k]?=some y∧R[k]?=some p∧y.p=p)→(pZf X ks).map (fun y=>y.p.n.pl)=plsF (R.map Nr.n) ks
 | [],_=>rfl
 | k :: t,h=>by
  obtain ⟨y,p,h1,h2,h3⟩:=h k (List.mem_cons_self ..)
  have ih:=pick_pl (X:=X) (R:=R) (ks:=t) fun k hk=>h k (List.mem_cons_of_mem _ hk)
  have e:(R.map Nr.n)[k]?=some p.n:=by rw [List.getElem?_map,h2];rfl
  unfold pZf at ih ⊢;unfold plsF at ih ⊢;rw [List.filterMap_cons_some (b:=y) h1,List.filterMap_cons_some (b:=p.n.pl) (by rw [e];rfl),List.map_cons,ih,h3]
theorem arM_eq {L:List Nd} {i:Nat} {n:Nd} {Y:List Wd} (a b:Int) (h1:Y.map pkW=pksF L (szM L) (kidD L i)) (h2:Y.map ceW=cesF L (szM L) (kidD L i)) (h3:Y.map (fun y=>y.p.n.pl)=plsF L (kidD L i)):arM n Y a b=cZt L i n a b:=by
 unfold arM cZt;rw [h1,h2,h3]
def QrV (lo:Nat) (w:World) (v:Value) (n:Nat) (M:List Re):Prop:=∃ g,v=.slice (some ⟨g,0,none⟩) n n∧lo≤g∧ReB w g M
theorem QrV.keep {lo:Nat} {w w':World} {v:Value} {n:Nat} {M:List Re} (h:QrV lo w v n M) (hb:Below w.heap.size w w'):QrV lo w' v n M:=let ⟨g,e,hl,k⟩:=h;⟨g,e,hl,k.keep hb⟩
theorem moved_w (x y u v p q:Int) (w:World) (h1:-1000000000000000≤x∧x≤1000000000000000) (h2:-1000000000000000≤y∧y≤1000000000000000) (h3:-1000000000000000≤p∧p≤1000000000000000) (h4:-1000000000000000≤q∧q≤1000000000000000):Calls Tryz.prog 100 #[.agg #[.int .i64 (x),.int .i64 (y),.int .i64 (u),.int .i64 (v)],.int .i64 p,.int .i64 q] w fun e w'=>e=.returned (.agg #[.int .i64 (x+p),.int .i64 (y+q),.int .i64 (u),.int .i64 (v)])∧Below w.heap.size w w':=by
 have e1:IntKind.i64.wrap (x+p)=x+p:=IntWalk.i64_in _ (by omega);have e2:IntKind.i64.wrap (y+q)=y+q:=IntWalk.i64_in _ (by omega);obtain ⟨a1,a2⟩:=h1;obtain ⟨a3,a4⟩:=h2;obtain ⟨b1,b2⟩:=h3;obtain ⟨b3,b4⟩:=h4
 go_enter Tryz.func100,Tryz.ntmps100
 go_wp2
 exact bodyPost_ret (v:=.agg #[.int .i64 (x+p),.int .i64 (y+q),.int .i64 (u),.int .i64 (v)]) (by simp only [results,Tryz.results100];go_simp) rfl ⟨rfl,(by repeat (first | with_reducible exact Below.refl _ _ | with_reducible assumption | with_reducible refine jZd ?_|(with_reducible refine bset ?_ ?_;rotate_left;((try dsimp only);omega)) | refine jZa ?_ (by assumption) | with_reducible refine Below.drew ?_))⟩
section
section
variable {P:Program}
def cloX (l:List Oper) (n:Nat) (X:Nat→Bool):Bool:=decide (n≤l.length)&&(List.range l.length).all fun i=>decide (i<n) || (List.range n).all fun j=>X j || tZx l l.length i j
theorem wpAny_rgpX {l:List Oper} {Q:Exit→Act→World→Prop} {a0:Act} {w:World} (T:Nat→Value→World→Prop) (R:World→World→Prop) (I:Nat→World→Prop)
  (n1:Nat) (hB:rgC l a0.tmps.size=true) (X:Nat→Bool) (hC:cloX l n1 X=true) (hRr:∀ a,R a a) (hRt:∀ a b c,R a b→R b c→R a c) (hTs:∀ k v a b,T k v a→R a b→T k v b) (hI0:I 0 w.drew)
  (hops:cZf P l T R I a0 w.drew (l.take n1) 0) (hfin:∀ w',R w.drew w'→I n1 w'→finP T w' (fun a'=>wpAny P .any l.toArray Q (l.length-n1) (kZy n1 0 (Array.replicate l.toArray.size false)) a' w') (l.take n1) 0 a0) :
  ∀ (fuel m:Nat) (listed:Array Bool) (a:Act) (w':World),cntF (fun i=>listed.getD i true) l.length=fuel→listed.size=l.length→fuel+m=l.length→(∀ i,n1≤i→i<l.length→listed.getD i false=false)→(∀ j,X j=true→listed.getD j false=true)→DC l listed→RJ l T R I a0 w.drew m listed a w' →
   wpAny P .any l.toArray Q fuel listed a w':=by
 simp only [rgC,Bool.and_eq_true] at hB;obtain ⟨hns,hB⟩:=hB
 have hB':∀ (i:Nat) (o:Oper),l[i]?=some o→(∀ e∈o.after,Region.binds .any e=true→e.on<i)∧(∀ d,o.dst=some d→d<a0.tmps.size∧pZy d l 0=some i)∧(∀ t∈o.looksAt l.toArray,∀ j,pZy t l 0=some j→∃ e∈o.after,e.on=j∧Region.binds .any e=true):=by
  intro i o ho;have hlt:=(List.getElem?_eq_some_iff.1 ho).1;have h1:=List.all_eq_true.1 hB i (List.mem_range.2 hlt);simp only [ho,Bool.and_eq_true] at h1;obtain ⟨⟨h1,h2⟩,h3⟩:=h1;refine ⟨fun e he hb=>by have:=List.all_eq_true.1 h1 e (by simpa using he);simpa [hb] using this,fun d hd=>?_,fun t ht j hj=>?_⟩
  ·rw [hd] at h2;simp only [Option.all_some,Bool.and_eq_true,decide_eq_true_eq,beq_iff_eq] at h2;exact h2
  ·have h4:=List.all_eq_true.1 h3 t ht;rw [hj] at h4;obtain ⟨e,he,h5⟩:=List.any_eq_true.1 h4;simp only [Bool.and_eq_true,beq_iff_eq] at h5;exact ⟨e,by simpa using he,h5⟩
 have hdist:∀ (i:Nat) (o:Oper) (j:Nat) (p:Oper),l[i]?=some o→l[j]?=some p→i≠j→∀ d,o.dst=some d→p.dst≠some d:=by
  intro i o j p ho hp hij d hd hpd;have h1:=((hB' i o ho).2.1 d hd).2;rw [((hB' j p hp).2.1 d hpd).2] at h1
  injection h1 with h1
  exact hij h1.symm
 obtain ⟨hle1,hcl⟩:n1≤l.length∧∀ i,n1≤i→i<l.length→∀ j,j<n1→X j=false→tZx l l.length i j=true:=by
  simp only [cloX,Bool.and_eq_true,decide_eq_true_eq,List.all_eq_true,List.mem_range,Bool.or_eq_true] at hC;refine ⟨hC.1,fun i hi hil j hj hX=>?_⟩
  rcases hC.2 i hil with h | h
  ·omega
  ·rcases h j hj with h | h
   ·rw [hX] at h;cases h
   ·exact h
 intro fuel
 have hdone:∀ (m:Nat) (listed:Array Bool) (a:Act) (w':World),cntF (fun i=>listed.getD i true) l.length=l.length-m→listed.size=l.length→m≤l.length→(∀ i,n1≤i→i<l.length→listed.getD i false=false)→(∀ i,i<n1→listed.getD i false=true)→RJ l T R I a0 w.drew m listed a w'→wpAny P .any l.toArray Q (l.length-m) listed a w':=by
  rintro m listed a w' hc hls hml hlow hall ⟨hR,hI,hd,hs,ht,hT⟩
  have hm1:m=n1:=by
   have h1:cntF (fun i=>listed.getD i true) l.length=cntF (fun i=>decide (i<n1)) l.length:=sZ6 (fun i hi=>by
    by_cases h:i<n1
    ·have:=hall i h
     rw [Array.getD_eq_getD_getElem?,Array.getElem?_eq_getElem (by omega)] at *
     simpa [h] using this
    ·have:=hlow i (by omega) hi
     rw [Array.getD_eq_getD_getElem?,Array.getElem?_eq_getElem (by omega)] at *
     simpa [h] using this)
   rw [h1,hZb] at hc;omega
  subst hm1
  have he:listed=kZy m 0 (Array.replicate l.toArray.size false):=by
   apply Array.ext
   ·rw [sZl];simp [hls]
   ·intro i h1 h2
    have e1:listed[i]=listed.getD i false:=by rw [Array.getD_eq_getD_getElem?,Array.getElem?_eq_getElem h1];rfl
    have e2:(kZy m 0 (Array.replicate l.toArray.size false))[i]=(kZy m 0 (Array.replicate l.toArray.size false)).getD i false:=by rw [Array.getD_eq_getD_getElem?,Array.getElem?_eq_getElem h2];rfl
    rw [e1,e2,sZn (by simpa using (by omega:0+m≤l.length))]
    by_cases h:i<m
    ·rw [hall i h,if_pos (by omega)]
    ·rw [hlow i (by omega) (by omega),if_neg (by omega),Array.getD_eq_getD_getElem?,Array.getElem?_replicate]
     split <;> rfl
  have hlm:∀ (j:Nat) (o:Oper),l[j]?=some o→listed.getD j false=true→j<m:=fun j o ho hl=>by
   by_cases h:j<m
   ·exact h
   ·exfalso
    have:=hlow j (by omega) (List.getElem?_eq_some_iff.1 ho).1
    rw [hl] at this
    cases this
  rw [he];refine bZ1 (T:=T) (w:=w') (F:=fun a'=>wpAny P .any l.toArray Q (l.length-m) (kZy m 0 (Array.replicate l.toArray.size false)) a' w') (l:=l.take m) (k:=0) (b:=a0) hd.symm hs.symm (fun t h=>?_) (fun j o ho hn=>?_) (hfin w' hR hI)
  ·exact (ht t fun j o ho hl=>h o (by
    have hj:=hlm j o ho hl
    exact List.mem_of_getElem? (i:=j) (by rw [List.getElem?_take,if_pos hj];exact ho))).symm
  ·rw [Nat.zero_add];rw [List.getElem?_take] at ho
   split at ho
   ·rename_i hj
    exact hT j o ho (hall j hj) hn
   ·cases ho
 induction fuel with
 | zero =>
  intro m listed a w' hc hls hm' hlow hx hdc hJ
  have hall:∀ i,i<l.length→listed.getD i false=true:=fun i hi=>by
   have:=uZz hc i hi
   rw [Array.getD_eq_getD_getElem?,Array.getElem?_eq_getElem (by omega)] at *
   simpa using this
  have h:=hdone m listed a w' (by rw [hc];omega) hls (by omega) hlow (fun i hi=>hall i (by omega)) hJ
  rwa [show l.length-m=0 by omega] at h
 | succ fuel ih =>
  intro m listed a w' hc hls hm' hlow hx hdc hJ
  by_cases hph:∀ i,i<n1→listed.getD i false=true
  ·have h:=hdone m listed a w' (by rw [hc];omega) hls (by omega) hlow hph hJ
   rwa [show l.length-m=fuel+1 by omega] at h
  have hlt1:∀ (i:Nat) (o:Oper),l[i]?=some o→listed.getD i false=false→(∀ e∈o.after,Region.binds .any e=true→listed.getD e.on false=true)→i<n1:=fun i o ho h0 hall=>by
   by_cases h:i<n1
   ·exact h
   ·exfalso
    apply hph;intro j hj
    by_cases hX:X j=true
    ·exact hx j hX
    have hr:=hcl i (by omega) (List.getElem?_eq_some_iff.1 ho).1 j hj (by simpa using hX)
    have hpos:l.length=(l.length-1)+1:=by have:=(List.getElem?_eq_some_iff.1 ho).1;omega
    rw [hpos] at hr;simp only [tZx,ho,List.any_eq_true,Bool.and_eq_true,Bool.or_eq_true,beq_iff_eq] at hr;obtain ⟨e,he,hb,hr⟩:=hr;have hl:=hall e (by simpa using he) hb
    rcases hr with rfl | hr
    ·exact hl
    ·exact DC.reach hdc _ hl hr
  refine ⟨fun hr=>?_,fun i hi=>?_⟩
  ·exfalso
   apply hph;intro i
   induction i using Nat.strongRecOn with
   | ind i ih' =>
    intro hi
    by_cases hl:listed.getD i false=true
    ·exact hl
    ·exfalso
     have hil:i<l.length:=by omega
     have ho:l[i]?=some l[i]:=List.getElem?_eq_getElem hil
     have hmem:i∈Region.ready .any l.toArray listed:=mem_ready.2 ⟨by
      rw [Array.getD_eq_getD_getElem?,Array.getElem?_eq_getElem (by omega)] at *;simp only [Option.getD_some,Bool.not_eq_true] at *
      exact hl,l[i],by simp,fun e he hb=>ih' e.on ((hB' i _ ho).1 e he hb) (by have:=(hB' i _ ho).1 e he hb;omega)⟩
     rw [hr] at hmem
     cases hmem
  ·obtain ⟨h0,o,ho',hall⟩:=mem_ready.1 hi
   have ho:l[i]?=some o:=by simpa using ho'
   have hlt:i<l.length:=(List.getElem?_eq_some_iff.1 ho).1
   have h0':listed.getD i false=false:=by
    rw [Array.getD_eq_getD_getElem?,Array.getElem?_eq_getElem (by omega)] at *
    simpa using h0
   have hi1:i<n1:=hlt1 i o ho h0' hall
   have hot:(l.take n1)[i]?=some o:=by rw [List.getElem?_take,if_pos hi1];exact ho
   obtain ⟨hR,hI,hd,hs,ht,hT⟩:=hJ;obtain ⟨b1,b2,b3⟩:=hB' i o ho
   have hlook:∀ t∈o.looksAt l.toArray,match pZy t l 0 with | some j=>T j (tv a t) w' | none=>tv a t=tv a0 t:=by
    intro t htm
    cases hj:pZy t l 0 with
    | none =>
     refine fZk (ht t fun j p hp _=>rZr hj p (List.mem_of_getElem? hp))
    | some j =>
     obtain ⟨e,he,rfl,hb⟩:=b3 t htm j hj;obtain ⟨_,p,hp,hpd⟩:=sZp hj
     have:=hT e.on p (by simpa using hp) (hall e he hb) (by rw [hpd];simp)
     rw [hpd] at this;exact this
   have hop:=dZ4 hlook (bZi hops hot m a w' (by omega) hR hI);rw [Nat.zero_add] at hop
   have hget:∀ d,(listed.setIfInBounds i true).getD i d=true:=fun d=>by
    rw [Array.getD_eq_getD_getElem?,Array.getElem?_setIfInBounds_self_of_lt (by omega)];rfl
   have next:∀ v w1,T i v w1→R w' w1→I (m+1) w1→wpAny P .any l.toArray Q fuel (listed.setIfInBounds i true) (a.put o.dst v) w1:=by
    intro v w1 hTv hR1 hI1;refine ih (m+1) _ _ _ ?_ (by simpa using hls) (by omega) (fun k hk hkl=>?_) ?_ (hdc.set ho hall) ⟨hRt _ _ _ hR hR1,hI1,(rZq _ _ _).trans hd,(tZc _ _ _).trans hs,fun t h=>?_,fun j p hp hl hn=>?_⟩
    ·have:=uZa (f:=fun i=>listed.getD i true) (g:=fun j=>(listed.setIfInBounds i true).getD j true) (i:=i) h0 (hget true) (fun j hj=>getD_set_ne true (Ne.symm hj)) hlt
     omega
    ·rw [getD_set_ne false (by omega)];exact hlow k hk hkl
    ·exact fun k hk=>getD_set_true (hx k hk)
    ·have hne:o.dst≠some t:=h i o ho (hget false);rw [uZp _ _ _ hne]
     exact ht t fun j p hp hl=>h j p hp (getD_set_true hl)
    ·by_cases e:i=j
     ·subst e;rw [ho] at hp;obtain rfl:=Option.some.inj hp
      cases hod:o.dst with
      | none=>exact absurd hod hn
      | some d =>
       have:tv (a.put (some d) v) d=v:=by
        unfold tv;rw [Array.getD_eq_getD_getElem?,uZi _ _ _ (by rw [hs];exact (b2 d hod).1)]
        rfl
       simp only [vof];rw [this];exact hTv
     ·rw [getD_set_ne false e] at hl;have h2:=hTs j _ w' w1 (hT j p hp hl hn) hR1
      cases hpd:p.dst with
      | none=>exact absurd hpd hn
      | some d =>
       rw [hpd] at h2;simp only [vof] at h2 ⊢;rw [show tv (a.put o.dst v) d=tv a d from fZk (uZp _ _ _ (fun hod=>hdist i o j p ho hp e d hod hpd))];exact h2
   unfold wpOp;simp only [ho']
   cases hg:o.guard with
   | none =>
    rw [hg] at hop;rw [if_pos (by simp [Region.wanted,hg])];exact .inl (qZ3 hop fun v w1 ⟨h1,h2,h3⟩=>next v w1 h1 h2 h3)
   | some g =>
    rw [hg] at hop;obtain ⟨g1,g2⟩:=hop
    split
    ·rename_i hw
     exact .inl (qZ3 (g1 hw) fun v w1 ⟨h1,h2,h3⟩=>next v w1 h1 h2 h3)
    ·rename_i hw
     obtain ⟨h1,h2⟩:=g2 (by simpa using hw);exact next undef w' h1 (hRr _) h2
theorem rj_step {l:List Oper} {T:Nat→Value→World→Prop} {R:World→World→Prop} {I:Nat→World→Prop} {a0 a:Act} {w0 w w1:World} {m i:Nat} {listed:Array Bool} {o:Oper} {v:Value}
  (hRt:∀ a b c,R a b→R b c→R a c) (hTs:∀ k v a b,T k v a→R a b→T k v b) (hB:rgC l a0.tmps.size=true) (hls:listed.size=l.length) (ho:l[i]?=some o) (hTv:T i v w1) (hR1:R w w1) (hI1:I (m+1) w1) (hJ:RJ l T R I a0 w0 m listed a w) :
  RJ l T R I a0 w0 (m+1) (listed.setIfInBounds i true) (a.put o.dst v) w1:=by
 obtain ⟨hR,hI,hd,hs,ht,hT⟩:=hJ;simp only [rgC,Bool.and_eq_true] at hB;obtain ⟨hns,hB⟩:=hB
 have hB':∀ (i:Nat) (o:Oper),l[i]?=some o→∀ d,o.dst=some d→d<a0.tmps.size∧pZy d l 0=some i:=by
  intro i o ho d hd;have hlt:=(List.getElem?_eq_some_iff.1 ho).1;have h1:=List.all_eq_true.1 hB i (List.mem_range.2 hlt);simp only [ho,Bool.and_eq_true] at h1;obtain ⟨⟨h1,h2⟩,h3⟩:=h1;rw [hd] at h2
  simpa using h2
 have hlt:i<l.length:=(List.getElem?_eq_some_iff.1 ho).1
 have hget:∀ d,(listed.setIfInBounds i true).getD i d=true:=fun d=>by
  rw [Array.getD_eq_getD_getElem?,Array.getElem?_setIfInBounds_self_of_lt (by omega)];rfl
 refine ⟨hRt _ _ _ hR hR1,hI1,(rZq _ _ _).trans hd,(tZc _ _ _).trans hs,fun t h=>?_,fun j p hp hl hn=>?_⟩
 ·have hne:o.dst≠some t:=h i o ho (hget false);rw [uZp _ _ _ hne]
  exact ht t fun j p hp hl=>h j p hp (getD_set_true hl)
 ·by_cases e:i=j
  ·subst e;rw [ho] at hp;obtain rfl:=Option.some.inj hp
   cases hod:o.dst with
   | none=>exact absurd hod hn
   | some d =>
    have:tv (a.put (some d) v) d=v:=by
     unfold tv;rw [Array.getD_eq_getD_getElem?,uZi _ _ _ (by rw [hs];exact (hB' i o ho d hod).1)]
     rfl
    simp only [vof];rw [this];exact hTv
  ·rw [getD_set_ne false e] at hl;have h2:=hTs j _ w w1 (hT j p hp hl hn) hR1
   cases hpd:p.dst with
   | none=>exact absurd hpd hn
   | some d =>
    rw [hpd] at h2;simp only [vof] at h2 ⊢
    rw [show tv (a.put o.dst v) d=tv a d from fZk (uZp _ _ _ (fun hod=>by
     have e1:=(hB' i o ho d hod).2;rw [(hB' j p hp d hpd).2] at e1
     exact e (Option.some.inj e1).symm))]
    exact h2
def hZ8 (l:List Oper):List (Nat × Nat × Nat)→Array Bool→Bool
 | [],_=>true
 | (x,d,s) :: r,listed=>(match l[x]? with
  | some o=>o.guard.isNone&&(match o.op,o.dst with | .move (.tmp s'),some d'=>s' == s&&d' == d | _,_=>false)&&(o.after.toList.all fun e=>!Region.binds .any e)&&Region.free .any l.toArray listed x&&(Region.ready .any l.toArray listed).contains x&&(pZy s l 0).isNone&&!(listed.getD x true)
  | none=>false)&&hZ8 l r (listed.setIfInBounds x true)
theorem bZt {l:List Oper} {Q:Exit→Act→World→Prop} {a0:Act} {w:World} (n1:Nat) (X:Nat→Bool) (tl:List (Value→World→Prop)) (hB:rgC l a0.tmps.size=true) (hC:cloX l n1 X=true) (hTs:∀ T∈tl,Stay T)
  (hops:cZf P l (fun k=>tl.getD k XT) Gr GIx a0 w.drew (l.take n1) 0) (hfin:∀ w',Gr w.drew w'→finP (fun k=>tl.getD k XT) w' (fun a'=>wpAny P .any l.toArray (kZ0 Q) (l.length-n1) (kZy n1 0 (Array.replicate l.toArray.size false)) a' w') (l.take n1) 0 a0) :
  ∀ (xs:List (Nat × Nat × Nat)) (fuel m:Nat) (listed:Array Bool) (a:Act),hZ8 l xs listed=true→(∀ x d s,(x,d,s)∈xs→x<n1∧(tl.getD x XT) (a0.eval (.tmp s)) w.drew) →
   cntF (fun i=>listed.getD i true) l.length=fuel→listed.size=l.length→fuel+m=l.length→(∀ i,n1≤i→i<l.length→listed.getD i false=false)→(∀ j,X j=true→listed.getD j false=true∨∃ d s,(j,d,s)∈xs)→DC l listed→RJ l (fun k=>tl.getD k XT) Gr GIx a0 w.drew m listed a w.drew →
   wpAny P .any l.toArray (kZ0 Q) fuel listed a w.drew
 | [],fuel,m,listed,a,_,_,hc,hls,hm,hlow,hX,hdc,hJ =>
  wpAny_rgpX (w:=w) (a0:=a0) (fun k=>tl.getD k XT) Gr GIx n1 hB X hC Gr.refl (fun _ _ _ h k=>h.trans k) (uZ3 hTs) trivial hops (fun w' h _=>hfin w' h) fuel m listed a w.drew hc hls hm hlow (fun j hj=>by rcases hX j hj with h | ⟨d,s,h⟩;exact h;simp at h) hdc hJ
 | (x,d,s) :: r,fuel,m,listed,a,hl,hT,hc,hls,hm,hlow,hX,hdc,hJ=>by
  simp only [hZ8,Bool.and_eq_true] at hl;obtain ⟨hl,hlr⟩:=hl
  cases ho:l[x]? with
  | none=>rw [ho] at hl;cases hl
  | some o =>
   rw [ho] at hl;simp only [Bool.and_eq_true,List.all_eq_true,Bool.not_eq_true',Option.isNone_iff_eq_none] at hl;obtain ⟨⟨⟨⟨⟨⟨hg,h2⟩,haf⟩,hfr⟩,hr⟩,hds⟩,hxl⟩:=hl
   obtain ⟨hop,hd⟩:o.op=.move (.tmp s)∧o.dst=some d:=by
    revert h2
    cases hop:o.op <;> cases hd:o.dst <;> simp
    try
     rename_i y z
     cases y <;> simp
     try
      intro a b
      simp [a,b]
   have hlt:x<l.length:=(List.getElem?_eq_some_iff.1 ho).1;have hB2:=hB;simp only [rgC,Bool.and_eq_true] at hB2;obtain ⟨hxn,hTx⟩:=hT x d s List.mem_cons_self
   have hev:a.eval (.tmp s)=a0.eval (.tmp s):=by
    have:=hJ.2.2.2.2.1 s (fun j o' ho' _=>rZr hds o' (List.mem_of_getElem? ho'))
    exact fZk this
   have hset:=uZa (f:=fun i=>listed.getD i true) (g:=fun j=>(listed.setIfInBounds x true).getD j true) (i:=x) hxl (by
    show (listed.setIfInBounds x true).getD x true=true
    rw [Array.getD_eq_getD_getElem?,Array.getElem?_setIfInBounds_self_of_lt (by omega)];rfl) (fun j hj=>getD_set_ne true (Ne.symm hj)) hlt
   have ho':l.toArray[x]?=some o:=by simpa using ho
   have hpos:fuel=(fuel-1)+1:=by omega
   rw [hpos];refine wpAny_first (i:=x) (oi:=o) (v:=a.eval (.tmp s)) ho' (Region.noSelect_spec hB2.1) (fun c a w h=>(h:False).elim) (fuel-1) _ a w.drew (Region.free_spec ho' hfr) (by simpa using hr) (.inl ⟨?_,?_⟩) ?_
   ·simp [Region.wanted,hg]
   ·intro w';obtain ⟨dst,op,type,pos,after,guard⟩:=o;simp only at hop;subst hop
    rfl
   refine bZt n1 X tl hB hC hTs hops hfin r (fuel-1) (m+1) _ _ hlr (fun x' d' s' h=>hT x' d' s' (List.mem_cons_of_mem _ h)) (by omega) (by simpa using hls) (by omega) (fun i hi hil=>?_) (fun j hj=>?_) ?_ ?_
   ·rw [getD_set_ne false (by omega)];exact hlow i hi hil
   ·by_cases e:j=x
    ·subst e
     left
     rw [Array.getD_eq_getD_getElem?,Array.getElem?_setIfInBounds_self_of_lt (by omega)];rfl
    ·rcases hX j hj with h | ⟨d',s',h⟩
     ·exact .inl (getD_set_true h)
     ·rcases List.mem_cons.1 h with h | h
      ·cases h;exact absurd rfl e
      ·exact .inr ⟨d',s',h⟩
   ·exact hdc.set ho (fun e he hb=>by rw [haf e (by simpa using he)] at hb;cases hb)
   ·exact rj_step (fun _ _ _ h k=>h.trans k) (uZ3 hTs) hB hls ho (by rw [hev];exact hTx) (Gr.refl _) trivial hJ
theorem uZf {id:Nat} {l:List Oper} {Q:Exit→Act→World→Prop} {a0:Act} {w:World} (n1 m:Nat) (xs:List (Nat × Nat × Nat)) (listed:Array Bool) (hf:P.follows .mixedOrders=true) (hm:l.length-n1=m) (hls:kZy n1 0 (Array.replicate l.toArray.size false)=listed) (tl:List (Value→World→Prop)) (hB:rgC l a0.tmps.size=true) (hC:cloX l n1 (fun j=>xs.any fun p=>p.1 == j)=true) (hl:hZ8 l xs (Array.replicate l.length false)=true) (hTs:∀ T∈tl,Stay T) (hT:∀ x d s,(x,d,s)∈xs→x<n1∧(tl.getD x XT) (a0.eval (.tmp s)) w.drew)
  (hops:cZf P l (fun k=>tl.getD k XT) Gr GIx a0 w.drew (l.take n1) 0) (hfin:∀ w',Gr w.drew w'→finP (fun k=>tl.getD k XT) w' (fun a'=>wpAny P .any l.toArray (kZ0 Q) m listed a' w') (l.take n1) 0 a0):(Code.region id l.toArray true).wp P Q a0 w:=by
 subst hm hls;refine Code.wp_mono kZ0.imp (wp_region_any hf ?_)
 have hsz':l.toArray.size=l.length:=by simp
 rw [show Array.replicate l.toArray.size false=Array.replicate l.length false from by rw [hsz'],hsz']
 have hrep:∀ j,(Array.replicate l.length false).getD j false=false:=fun j=>by
  rw [Array.getD_eq_getD_getElem?,Array.getElem?_replicate];split <;> rfl
 refine bZt n1 _ tl hB hC hTs hops hfin xs l.length 0 _ a0 hl hT ?_ (by simp) (by omega) (fun i _ _=>hrep i) (fun j hj=>?_) (fun i o hi hl'=>by rw [hrep] at hl';cases hl') ⟨Gr.refl _,trivial,rfl,rfl,fun t _=>rfl,fun j p hp hl'=>by rw [hrep] at hl';cases hl'⟩
 ·have:∀ n,n≤l.length→cntF (fun i=>(Array.replicate l.length false).getD i true) n=n:=by
   intro n
   induction n with
   | zero=>intro _;rfl
   | succ n ihn =>
    intro hn;simp only [cntF];rw [ihn (by omega)]
    have:(Array.replicate l.length false).getD n true=false:=by
     rw [Array.getD_eq_getD_getElem?,Array.getElem?_replicate,if_pos (by omega)];rfl
    rw [if_neg (by rw [this];decide)]
  exact this l.length (Nat.le_refl _)
 ·obtain ⟨p,hp,he⟩:=List.any_eq_true.1 hj;obtain ⟨x,d,s⟩:=p
  obtain rfl:x=j:=by simpa using he
  exact .inr ⟨d,s,hp⟩
end
end
section
attribute [local go_sem] jZ0 jZ5 jZ2
def LyP (w:World) (g N:Nat) (F:Nat→Re) (K:Nat→Prop):Prop:=∃ cs:Array Value,w.heap[g]?=some (.cells cs 32 (0,0))∧cs.size=N*4∧∀ j,j<N→K j→InS cs (j*4) (jZr (F j))
theorem LyP.lt {w:World} {g N:Nat} {F:Nat→Re} {K:Nat→Prop} (h:LyP w g N F K):g<w.heap.size:=by obtain ⟨cs,hh,_⟩:=h;exact ltS hh
theorem LyP.same {w w':World} {g N:Nat} {F:Nat→Re} {K:Nat→Prop} (h:LyP w g N F K) (hb:w'.heap[g]?=w.heap[g]?):LyP w' g N F K:=let ⟨cs,hh,r⟩:=h;⟨cs,hb.trans hh,r⟩
theorem LyP.keep {w w':World} {g N:Nat} {F:Nat→Re} {K:Nat→Prop} (h:LyP w g N F K) (hb:Below w.heap.size w w'):LyP w' g N F K:=h.same (hb.block g h.lt)
theorem LyP.mono {w:World} {g N:Nat} {F:Nat→Re} {K K':Nat→Prop} (h:LyP w g N F K) (hK:∀ j,j<N→K' j→K j):LyP w g N F K':=let ⟨cs,hh,hs,hc⟩:=h;⟨cs,hh,hs,fun j hj k=>hc j hj (hK j hj k)⟩
theorem LyP.there {w:World} {g N:Nat} {F:Nat→Re} {K:Nat→Prop} (h:LyP w g N F K) {j:Nat} (hj:j<N):w.there g (j*4) 4:=by
 obtain ⟨cs,hh,hs,_⟩:=h;exact pZb hh (by rw [hs];omega)
theorem LyP.put {w:World} {g N:Nat} {F:Nat→Re} {K K':Nat→Prop} (h:LyP w g N F K) {j:Nat} (hj:j<N) {r:Re} (hr:F j=r) (hK:∀ i,K' i→i=j∨K i):LyP (w.setCells g (j*4) (jZr r)) g N F K':=by
 obtain ⟨cs,hh,hs,hc⟩:=h;refine ⟨_,jZ4 _ (j*4) _ _ hh,(pZ6 _ _ _).trans hs,fun i hi ki=>?_⟩
 by_cases e:i=j
 ·subst e;rw [hr];exact InS.write (by rw [hs];show i*4+4≤_;omega)
 ·rcases hK i ki with h1 | h1
  ·exact absurd h1 e
  ·refine (hc i hi h1).keepS ?_
   show i*4+4≤_∨j*4+4≤_
   omega
theorem LyP.cell {w:World} {g N:Nat} {F:Nat→Re} {K:Nat→Prop} (h:LyP w g N F K) {j:Nat} (hj:j<N) (k:K j):w.cell? ⟨g,j*4,none⟩=some (.int .i64 (F j).x)∧w.cell? ⟨g,j*4+1,none⟩=some (.int .i64 (F j).y)∧w.cell? ⟨g,j*4+2,none⟩=some (.int .i64 (F j).u)∧w.cell? ⟨g,j*4+3,none⟩=some (.int .i64 (F j).v):=by
 obtain ⟨cs,hh,hs,hc⟩:=h;have hi:=hc j hj k;exact ⟨(jZc hh _).trans (hi 0 _ rfl),(jZc hh _).trans (hi 1 _ rfl),(jZc hh _).trans (hi 2 _ rfl),(jZc hh _).trans (hi 3 _ rfl)⟩
theorem LyP.whole {w:World} {g N:Nat} {F:Nat→Re} {K:Nat→Prop} (h:LyP w g N F K) (hK:∀ j,j<N→K j):ReB w g ((List.range N).map F):=by
 obtain ⟨cs,hh,hs,hc⟩:=h;refine ⟨cs,hh,by rw [hs,List.length_map,List.length_range],fun i p hp=>?_⟩;rw [List.getElem?_map] at hp;obtain ⟨j,hj,rfl⟩:=Option.map_eq_some_iff.1 hp;obtain ⟨h1,h2⟩:=List.getElem?_eq_some_iff.1 hj;rw [List.length_range] at h1;rw [List.getElem_range] at h2;subst h2;exact hc i h1 (hK i h1)
theorem LyP.new {w:World} {g N:Nat} {F:Nat→Re} {cs:Array Value} {r:Re} (hh:w.heap[g]?=some (.cells (wrAt cs 0 (jZr r)) 32 (0,0))) (hs:cs.size=N*4) (hr:F 0=r):LyP w g N F (fun j=>j=0):=by
 refine ⟨_,hh,(pZ6 _ _ _).trans hs,fun j hj e=>?_⟩;subst e;rw [hr];exact InS.write (by rw [hs];show 0+4≤_;omega)
def knL (L:List Nd) (i j:Nat):Prop:=j=0∨∃ m,L[j]?=some m∧m.pa<(i:Int)
def knI (L:List Nd) (i m j:Nat):Prop:=knL L i j∨∃ m',m'<m∧(kidD L i)[m']?=some j
theorem knL_zero {L:List Nd} (hT:TrOK L) {j:Nat} (h:knL L 0 j):j=0:=by
 rcases h with h | ⟨m,hm,hp⟩
 ·exact h
 ·rcases hT.up j m hm with ⟨e,_⟩ | ⟨_,h1,_⟩
  ·exact e
  ·omega
theorem knL_own {L:List Nd} (hT:TrOK L) {i:Nat} (hi:i<L.length):knL L i i:=by
 have hm:L[i]?=some L[i]:=List.getElem?_eq_getElem hi
 rcases hT.up i _ hm with ⟨e,_⟩ | ⟨_,_,h⟩
 ·exact .inl e
 ·exact .inr ⟨_,hm,h⟩
theorem knL_all {L:List Nd} (hT:TrOK L) {j:Nat} (hj:j<L.length):knL L L.length j:=by
 have hm:L[j]?=some L[j]:=List.getElem?_eq_getElem hj
 rcases hT.up j _ hm with ⟨e,_⟩ | ⟨_,_,h⟩
 ·exact .inl e
 ·exact .inr ⟨_,hm,by omega⟩
theorem knI_zero {L:List Nd} {i j:Nat} (h:knI L i 0 j):knL L i j:=h.elim id fun ⟨m',h,_⟩=>absurd h (by omega)
theorem knI_step {L:List Nd} {i m j k:Nat} (hk:(kidD L i)[m]?=some k) (h:knI L i (m+1) j):j=k∨knI L i m j:=by
 rcases h with h | ⟨m',h1,h2⟩
 ·exact .inr (.inl h)
 ·by_cases e:m'=m
  ·subst e;rw [hk] at h2;exact .inl (Option.some.inj h2).symm
  ·exact .inr (.inr ⟨m',by omega,h2⟩)
theorem knI_all {L:List Nd} {i j:Nat} (hj:j<L.length) (h:knL L (i+1) j):knI L i (kidD L i).length j:=by
 rcases h with h | ⟨m,hm,hp⟩
 ·exact .inl (.inl h)
 ·by_cases e:m.pa=(i:Int)
  ·obtain ⟨q,hq⟩:=List.getElem?_of_mem (hZ3 hm e);exact .inr ⟨q,(List.getElem?_eq_some_iff.1 hq).1,hq⟩
  ·exact .inl (.inr ⟨m,hm,by omega⟩)
theorem new_fullWd {w:World} {o:Obj} {cs:Array Value} {T:TypeId} (x:Wd) (ho:o=.cells cs T (0,0)) (hs:cs.size=37):((w.alloc o).setCells w.heap.size 0 (valsWd x)).heap[w.heap.size]?=some (.cells (valsWd x).toArray T (0,0)):=by
 subst ho;rw [jZ4 (valsWd x) 0 _ _ (newS w _),pZ3 (by rw [hs];rfl)]
theorem layout_v (A:Option Addr) (c k:Nat) (R:List Nr) (a b:Int) (w:World) (hT:TrOK (R.map Nr.n)) (hk:k=R.length) (h:NrV w A R) (hr:RdR w R) (ha:0≤a∧a≤400) (hb:0≤b∧b≤400) :
  Calls Tryz.prog 55 #[.agg #[.slice A k c],.int .i64 a,.int .i64 b] w fun e w'=>(∃ g,e=.returned (.slice (some ⟨g,0,none⟩) k k)∧w.heap.size≤g∧ReB w' g ((List.range k).map (lrM (R.map Nr.n) a b)))∧Below w.heap.size w w':=by
 subst hk
 have hL:R.length≤10:=by have:=hT.l10;rwa [List.length_map] at this
 have hL1:0<R.length:=by have:=hT.l1;rw [List.length_map] at this;omega
 obtain ⟨fm,hfm,hmk0⟩:=bZr
 have hmk:=fun w=>hmk0 R.length w (by omega)
 have HFM:=hD (hfm R.length);have HAB:=hD (And.intro ha hb);have hB0:Below w.heap.size w (w.alloc (.cells #[.slice A R.length c] 25 (0,0))):=jZd (Below.refl _ _);have HX:=hD (newS w (.cells #[.slice A R.length c] 25 (0,0)));have HB:=hD hB0;have HV:=hD (h.keep hB0);have HR:=hD (hr.keep hB0);have x0:=jZc HX.out 0;clear hB0 h hr hmk0 hfm ha hb
 go_enter Tryz.func55,Tryz.ntmps55
 go_wp2_with fail
 refine (settled_v A c R hT _ HV.out HR.out hL).mono ?_;rintro e W0 ⟨⟨v,rfl,gX,X,rfl,hgX,X1,X2,X3⟩,hb0⟩;clear x0 HX;replace HV:=hD (HV.out.keep hb0);replace HR:=hD (HR.out.keep hb0);replace HB:=hD (jZa HB.out hb0);clear hb0;have HX1:=hD X1;have HX2:=hD X2;have HX3:=hD X3;have hgl:gX<W0.heap.size:=RpK.lt X2;have hsz0:w.heap.size≤W0.heap.size:=HB.out.size;clear X1 X2 X3 hgX
 go_upto_region 3 with (fail)
 refine kZf (fun W=>(∃ cs:Array Value,W.heap[W0.heap.size]?=some (.cells cs 32 (0,0))∧cs.size=R.length*4)∧Below W0.heap.size W0 W) ⟨⟨_,newS _ _,HFM.out⟩,jZd (Below.refl _ _)⟩ (fun W1 h1=>?_);obtain ⟨⟨cs0,hc0,hs0⟩,hb1⟩:=h1;have HC0:=hD hc0;have HS0:=hD hs0;have HB1:=hD hb1;obtain ⟨y0,d0⟩:=pZz hc0 (i:=0) (by omega);obtain ⟨y1,d1⟩:=pZz hc0 (i:=1) (by omega)
 obtain ⟨y2,d2⟩:=pZz hc0 (i:=2) (by omega);obtain ⟨y3,d3⟩:=pZz hc0 (i:=3) (by omega);have f0:=jZm hc0 0;have f1:=jZm hc0 1;have f2:=jZm hc0 2;have f3:=jZm hc0 3;have lg:=ltS hc0;clear hc0 hs0 hb1 HFM hmk
 go_upto_region 4 with (fail)
 refine kZf (fun W=>LyP W W0.heap.size R.length (lrM (R.map Nr.n) a b) (knL (R.map Nr.n) 0)∧Below W0.heap.size W0 W) ⟨(LyP.new (putRe HC0.out 0 ⟨0,0,a,b⟩) HS0.out (bZg _ _ _)).mono fun j _ hj=>knL_zero hT hj,putReb HB1.out (Nat.le_refl _) 0 ⟨0,0,a,b⟩⟩ (fun W2 h2=>?_);obtain ⟨hly2,hb2⟩:=h2;have HLY:=hD hly2;have HB2:=hD hb2
 clear y0 d0 y1 d1 y2 d2 y3 d3 f0 f1 f2 f3 lg HC0 HS0 HB1 hly2 hb2 W1
 go_wp2_with fail
 go_loopw [25] (fun iv wr=>∃ i:Nat,i≤R.length∧iv=.int .i64 (i:Int)∧LyP wr W0.heap.size R.length (lrM (R.map Nr.n) a b) (knL (R.map Nr.n) i)∧Below W0.heap.size W0 wr) (fun iv _=>R.length-(intOf iv).toNat)
 case atStart=>exact ⟨0,by omega,rfl,HLY.out,HB2.out⟩
 case round =>
  obtain ⟨i,hi,rfl,hly,hB⟩:=hrel;clear HLY HB2
  by_cases hlt:i<R.length
  ·have hd:decide ((i:Int)<(R.length:Int))=true:=by simpa using hlt
   have hdi:(i:Int)<(R.length:Int):=by omega
   have hlm:i<(R.map Nr.n).length:=by rw [List.length_map];exact hlt
   obtain ⟨x,hx⟩:∃ x,X[i]?=some x:=⟨_,List.getElem?_eq_getElem (by rw [HX1.out];exact hlt)⟩
   obtain ⟨p,hp,hxp,-,hxn,hxk⟩:=HX3.out i x hx
   have hmg:(R.map Nr.n)[i]?=some p.n:=by rw [List.getElem?_map,hp];rfl
   obtain ⟨b0,off,e0,hb0,hps⟩:=(HX2.out.v.keep hB) (by rw [List.length_map,HX1.out];exact hL1)
   cases e0
   have hc:=hps i (valsWd x) (by rw [List.getElem?_map,hx];rfl);rw [Nat.zero_add] at hc;have HC:=hD hc;have HLY:=hD hly;have HB2:=hD hB;have HP:=hD hp;have HXX:=hD hx;have HXP:=hD hxp;have HXN:=hD hxn;have HXK:=hD hxk;have HMG:=hD hmg;have hsw:W0.heap.size<wr.heap.size:=hly.lt;clear hly hB hps hc hp hx hxp hxn hxk hmg
   go_upto_region 7 with (first|((with_reducible show wpList _ _ _ _ _ _);refine ldK 112 _ (valsWd x) gX (i*37) rfl rfl HC.out Tryz.underlying112 rfl kZv rfl ?_)|((with_reducible show wpList _ _ _ _ _ _);refine stK 112 (.tmp 10) (.tmp 29) (valsWd x) wr.heap.size 0 rfl rfl (pZb (newS _ _) (by show (0+37:Nat)≤37;omega)) kZv (rZj _) rfl rfl ?_))
   refine kZf (fun W=>W.heap[wr.heap.size]?=some (.cells (valsWd x).toArray 112 (0,0))∧Below wr.heap.size wr W) ⟨new_fullWd x rfl rfl,jZi (Nat.le_refl _) _ _ _ (jZd (Below.refl _ _))⟩ (fun W3 h3=>?_);obtain ⟨hxw,hb3⟩:=h3;have HXW:=hD hxw;have lbx:=ltS hxw;have hB3:=jZa HB2.out hb3;replace HLY:=hD (HLY.out.keep hb3);clear hb3 hxw HC;generalize wr.heap.size=bx at *
   have hkl:∀ k∈kidD (R.map Nr.n) i,k<R.length:=fun k hk=>by have:=rZb hk;rwa [List.length_map] at this
   have hk10:(kidD (R.map Nr.n) i).length≤10:=Nat.le_trans (sZo _ _) (by rw [List.length_map];exact hL)
   have hpick:∀ k∈kidD (R.map Nr.n) i,∃ y q,X[k]?=some y∧R[k]?=some q∧y.p=q∧(y.sw,y.sh)=szM (R.map Nr.n) k:=fun k hk=>by
    have hlt:=hkl k hk;have hy:X[k]?=some (X[k]'(by rw [HX1.out];exact hlt)):=List.getElem?_eq_getElem _;obtain ⟨q,hq,e1,e2,_⟩:=HX3.out k _ hy;exact ⟨_,q,hy,hq,e1,e2⟩
   obtain ⟨hp1,hp2⟩:=hZk hpick
   have hp3:=pick_pl (R:=R) (X:=X) (ks:=kidD (R.map Nr.n) i) fun k hk=>by obtain ⟨y,q,h1,h2,h3,_⟩:=hpick k hk;exact ⟨y,q,h1,h2,h3⟩
   have hpl:=cZn (X:=X) (ks:=kidD (R.map Nr.n) i) (fun k hk=>by rw [HX1.out];exact hkl k hk)
   obtain ⟨Y,hY⟩:∃ Y,pZf X (kidD (R.map Nr.n) i)=Y:=⟨_,rfl⟩
   rw [hY] at hp1 hp2 hp3 hpl;have HYL:=hD (show Y.length≤10 by omega);have C0:=hD (show p.n.ki≠1→p.n.ki≠2→bgL (Y.map pkW) from fun _ _=>by rw [hp1];exact bg_of hT i);have C1:=hD (show p.n.ki=1→GW p.n.cs p.n.rs (Y.map ceW) from fun h1=>by rw [hp2];exact gw_of hT HMG.out h1);have C2:=hD (show ∀ y∈Y,plB y.p.n.pl=true from fun y hy=>pls_mem hT _ (hp3 ▸ List.mem_map_of_mem hy))
   obtain ⟨r,hr⟩:∃ r,lrM (R.map Nr.n) a b i=r:=⟨_,rfl⟩
   obtain ⟨hq,hrx,hry⟩:=eZx hT HAB.out.1 HAB.out.2 hlm;obtain ⟨-,-,r2,r3⟩:=HLY.out.cell hlt (knL_own hT hlm);rw [hr] at hq hrx hry r2 r3;have HQR:=hD hq;have HRR:=hD hr;have HXY:=hD (And.intro hrx hry);have HM0:=hD (arM_eq (n:=p.n) r.u r.v hp1 hp2 hp3)
   obtain ⟨M,hM⟩:∃ M,arM p.n Y r.u r.v=M:=⟨_,rfl⟩
   rw [hM] at HM0;have HM:=hD hM
   obtain ⟨n2,hn2⟩:∃ n2,Y.length=n2:=⟨_,rfl⟩
   have HN2:=hD hn2;have HNK:=hD (show n2=(kidD (R.map Nr.n) i).length by omega)
   have hn10:n2≤10:=by omega
   have HR1:=hD ((HR.out p (List.mem_of_getElem? HP.out)).keep hB3)
   have HAR:=hD (show ∀ W',Below W3.heap.size W3 W'→Calls Tryz.prog 99 #[.slice (some ⟨gX,0,none⟩) R.length R.length,.int .i64 (i:Int)] W' (fun e w'=>(∃ v,e=.returned v∧ArV w' v x Y)∧Below W'.heap.size W' w') from fun W' hW'=>by
    have:=cZ3 (some ⟨gX,0,none⟩) R.length i X x (kidD (R.map Nr.n) i) W' ((HX2.out.v.keep hB3).keep hW') HXX.out (by rw [HX1.out];omega) (fun k hk=>by rw [HX1.out];exact hkl k hk) ((HXK.out.nv.keep hB3).keep hW') (by rw [HXN.out,List.length_map]) (by rw [HXN.out,List.length_map];omega)
    rw [HX1.out,hY] at this
    exact this)
   have HB3:=hD hB3;have hlg3:W0.heap.size<W3.heap.size:=HLY.out.lt;clear hkl hk10 hpick hp1 hp2 hp3 hpl hY hq hrx hry hr hM hn2 hB3 HX2 HX3
   go_wp2_with fail
   refine kZ8 (XV (.slice (some ⟨gX,0,none⟩) R.length R.length) :: XV (.int .i64 (i:Int)) :: (fun v z=>ArV z v x Y) :: XV (.slice (some ⟨W0.heap.size,0,none⟩) R.length R.length) :: XV (.int .i64 (i:Int)) :: XV (.pointer (some ⟨W0.heap.size,i*4,none⟩)) :: XV (.pointer (some ⟨W0.heap.size,i*4+2,none⟩)) :: XV (.int .i64 r.u) :: XV (.slice (some ⟨W0.heap.size,0,none⟩) R.length R.length) :: XV (.int .i64 (i:Int)) :: XV (.pointer (some ⟨W0.heap.size,i*4,none⟩)) :: XV (.pointer (some ⟨W0.heap.size,i*4+3,none⟩)) :: XV (.int .i64 r.v) :: (fun v z=>MrV z v x Y) :: (fun v z=>MrV z v x Y) :: (fun v z=>ArV z v x Y) :: (fun v z=>QrV W3.heap.size z v n2 M) :: XV (.int .i64 (n2:Int)) :: XV (.int .i64 0) :: []) (by kernel_rfl) (by kernel_rfl) ?hTs ?hops ?hfin
   case hTs =>
    intro T hT;simp only [List.mem_cons,List.not_mem_nil,or_false] at hT
    rcases hT with rfl | rfl | rfl | rfl | rfl | rfl | rfl | rfl | rfl | rfl | rfl | rfl | rfl | rfl | rfl | rfl | rfl | rfl | rfl <;> first | exact qZn _ | exact qZo | exact kZh (fun v a b x g=>x.keep g) | exact kZh (fun v a b x g=>x)
   case hops =>
    refine ⟨jZb [(7,none)] (by kernel_rfl) rfl ?_,?_⟩
    ·intro act w' hw' h1;obtain ⟨hk,hf⟩:=evkf act;generalize act.eval=ρ at *;replace h1:ρ (.tmp 7)=.slice (some ⟨gX,0,none⟩) R.length R.length:=h1
     refine gxB hw' fun K hK hc hf'=>?_
     go_simp;exact hK _ _ ⟨rfl,Gr.refl _⟩
    refine ⟨jZb [(9,none)] (by kernel_rfl) rfl ?_,?_⟩
    ·intro act w' hw' h1;obtain ⟨hk,hf⟩:=evkf act;generalize act.eval=ρ at *;replace h1:ρ (.tmp 9)=.int .i64 (i:Int):=h1
     refine gxB hw' fun K hK hc hf'=>?_
     go_simp;exact hK _ _ ⟨rfl,Gr.refl _⟩
    refine ⟨jZb [(30,some 0),(31,some 1)] (by kernel_rfl) rfl ?_,?_⟩
    ·intro act w' hw' h1 h2;obtain ⟨hk,hf⟩:=evkf act;generalize act.eval=ρ at *;replace h1:ρ (.tmp 30)=.slice (some ⟨gX,0,none⟩) R.length R.length:=h1;replace h2:ρ (.tmp 31)=.int .i64 (i:Int):=h2
     refine gxB hw' fun K hK hc hf'=>?_
     go_simp
     (refine (HAR.out _ (jZs hw'.out)).mono ?_);rintro e w1 ⟨⟨v,rfl,hv⟩,hb1⟩;exact ⟨_,rfl,hK _ _ ⟨hv,hb1⟩⟩
    refine ⟨jZb [(8,none)] (by kernel_rfl) rfl ?_,?_⟩
    ·intro act w' hw' h1;obtain ⟨hk,hf⟩:=evkf act;generalize act.eval=ρ at *;replace h1:ρ (.tmp 8)=.slice (some ⟨W0.heap.size,0,none⟩) R.length R.length:=h1
     refine gxB hw' fun K hK hc hf'=>?_
     go_simp;exact hK _ _ ⟨rfl,Gr.refl _⟩
    refine ⟨jZb [(9,none)] (by kernel_rfl) rfl ?_,?_⟩
    ·intro act w' hw' h1;obtain ⟨hk,hf⟩:=evkf act;generalize act.eval=ρ at *;replace h1:ρ (.tmp 9)=.int .i64 (i:Int):=h1
     refine gxB hw' fun K hK hc hf'=>?_
     go_simp;exact hK _ _ ⟨rfl,Gr.refl _⟩
    refine ⟨jZb [(33,some 3),(34,some 4)] (by kernel_rfl) rfl ?_,?_⟩
    ·intro act w' hw' h1 h2;obtain ⟨hk,hf⟩:=evkf act;generalize act.eval=ρ at *;replace h1:ρ (.tmp 33)=.slice (some ⟨W0.heap.size,0,none⟩) R.length R.length:=h1;replace h2:ρ (.tmp 34)=.int .i64 (i:Int):=h2
     refine gxB hw' fun K hK hc hf'=>?_
     go_simp;exact hK _ _ ⟨rfl,Gr.refl _⟩
    refine ⟨jZb [(35,some 5)] (by kernel_rfl) rfl ?_,?_⟩
    ·intro act w' hw' h1;obtain ⟨hk,hf⟩:=evkf act;generalize act.eval=ρ at *;replace h1:ρ (.tmp 35)=.pointer (some ⟨W0.heap.size,i*4,none⟩):=h1
     refine gxB hw' fun K hK hc hf'=>?_
     go_simp;exact hK _ _ ⟨rfl,Gr.refl _⟩
    refine ⟨jZb [(36,some 6)] (by kernel_rfl) rfl ?_,?_⟩
    ·intro act w' hw' h1;obtain ⟨hk,hf⟩:=evkf act;generalize act.eval=ρ at *;replace h1:ρ (.tmp 36)=.pointer (some ⟨W0.heap.size,i*4+2,none⟩):=h1
     refine gxB hw' fun K hK hc hf'=>?_
     go_simp;exact hK _ _ ⟨rfl,Gr.refl _⟩
    refine ⟨jZb [(8,none)] (by kernel_rfl) rfl ?_,?_⟩
    ·intro act w' hw' h1;obtain ⟨hk,hf⟩:=evkf act;generalize act.eval=ρ at *;replace h1:ρ (.tmp 8)=.slice (some ⟨W0.heap.size,0,none⟩) R.length R.length:=h1
     refine gxB hw' fun K hK hc hf'=>?_
     go_simp;exact hK _ _ ⟨rfl,Gr.refl _⟩
    refine ⟨jZb [(9,none)] (by kernel_rfl) rfl ?_,?_⟩
    ·intro act w' hw' h1;obtain ⟨hk,hf⟩:=evkf act;generalize act.eval=ρ at *;replace h1:ρ (.tmp 9)=.int .i64 (i:Int):=h1
     refine gxB hw' fun K hK hc hf'=>?_
     go_simp;exact hK _ _ ⟨rfl,Gr.refl _⟩
    refine ⟨jZb [(38,some 8),(39,some 9)] (by kernel_rfl) rfl ?_,?_⟩
    ·intro act w' hw' h1 h2;obtain ⟨hk,hf⟩:=evkf act;generalize act.eval=ρ at *;replace h1:ρ (.tmp 38)=.slice (some ⟨W0.heap.size,0,none⟩) R.length R.length:=h1;replace h2:ρ (.tmp 39)=.int .i64 (i:Int):=h2
     refine gxB hw' fun K hK hc hf'=>?_
     go_simp;exact hK _ _ ⟨rfl,Gr.refl _⟩
    refine ⟨jZb [(40,some 10)] (by kernel_rfl) rfl ?_,?_⟩
    ·intro act w' hw' h1;obtain ⟨hk,hf⟩:=evkf act;generalize act.eval=ρ at *;replace h1:ρ (.tmp 40)=.pointer (some ⟨W0.heap.size,i*4,none⟩):=h1
     refine gxB hw' fun K hK hc hf'=>?_
     go_simp;exact hK _ _ ⟨rfl,Gr.refl _⟩
    refine ⟨jZb [(41,some 11)] (by kernel_rfl) rfl ?_,?_⟩
    ·intro act w' hw' h1;obtain ⟨hk,hf⟩:=evkf act;generalize act.eval=ρ at *;replace h1:ρ (.tmp 41)=.pointer (some ⟨W0.heap.size,i*4+3,none⟩):=h1
     refine gxB hw' fun K hK hc hf'=>?_
     go_simp;exact hK _ _ ⟨rfl,Gr.refl _⟩
    refine ⟨jZb [(32,some 2)] (by kernel_rfl) rfl ?_,?_⟩
    ·intro act w' hw' h1;obtain ⟨hk,hf⟩:=evkf act;generalize act.eval=ρ at *;replace h1:(fun v z=>ArV z v x Y) (ρ (.tmp 32)) w':=h1;refine qZs (fun K hK=>?_);rw [run_mf rfl];exact hK _ _ ⟨⟨_,rfl,h1⟩,Gr.refl _⟩
    refine ⟨jZb [(43,some 13)] (by kernel_rfl) rfl ?_,?_⟩
    ·intro act w' hw' h1;obtain ⟨hk,hf⟩:=evkf act;generalize act.eval=ρ at *;replace h1:(fun v z=>MrV z v x Y) (ρ (.tmp 43)) w':=h1;refine qZs (fun K hK=>?_);obtain ⟨u,e,hu⟩:=h1;obtain ⟨T,u2,F,rfl,hn,hc,hcall⟩:=arRects (a:=r.u) (b:=r.v) hu HXP.out (HR1.out.keep (jZs hw'.out)) HYL.out HQR.out C0.out C1.out C2.out;rw [run_nc rfl e hn];exact hK _ _ ⟨⟨_,e,hu⟩,Gr.refl _⟩
    refine ⟨jZb [(32,some 2)] (by kernel_rfl) rfl ?_,?_⟩
    ·intro act w' hw' h1;obtain ⟨hk,hf⟩:=evkf act;generalize act.eval=ρ at *;replace h1:(fun v z=>ArV z v x Y) (ρ (.tmp 32)) w':=h1
     refine gxB hw' fun K hK hc hf'=>?_
     go_simp;exact hK _ _ ⟨h1,Gr.refl _⟩
    refine ⟨jZb [(45,some 15),(37,some 7),(42,some 12)] (by kernel_rfl) rfl ?_,?_⟩
    ·intro act w' hw' h1 h2 h3;obtain ⟨hk,hf⟩:=evkf act;generalize act.eval=ρ at *;replace h1:(fun v z=>ArV z v x Y) (ρ (.tmp 45)) w':=h1;replace h2:ρ (.tmp 37)=.int .i64 r.u:=h2;replace h3:ρ (.tmp 42)=.int .i64 r.v:=h3;refine qZs (fun K hK=>?_)
     obtain ⟨T,u,F,e,hn,hc,hcall⟩:=arRects (a:=r.u) (b:=r.v) h1 HXP.out (HR1.out.keep (jZs hw'.out)) HYL.out HQR.out C0.out C1.out C2.out;rw [HN2.out,HM.out] at hcall;rw [run_inv2 rfl e h2 h3 (hc _ _ _)];refine hcall.mono ?_;rintro e' w1 ⟨⟨g,rfl,hg,hr1⟩,hb1⟩;exact ⟨_,rfl,hK _ _ ⟨⟨g,rfl,Nat.le_trans (jZs hw'.out).size hg,hr1⟩,hb1⟩⟩
    refine ⟨jZb [(46,some 16)] (by kernel_rfl) rfl ?_,?_⟩
    ·intro act w' hw' h1;obtain ⟨hk,hf⟩:=evkf act;generalize act.eval=ρ at *;replace h1:(fun v z=>QrV W3.heap.size z v n2 M) (ρ (.tmp 46)) w':=h1;refine qZs (fun K hK=>?_);obtain ⟨g,e,hg,hr1⟩:=h1;go_simp;exact hK _ _ ⟨rfl,Gr.refl _⟩
    refine ⟨jZb [] (by kernel_rfl) rfl ?_,?_⟩
    ·intro act w' hw';obtain ⟨hk,hf⟩:=evkf act;generalize act.eval=ρ at *
     refine gxB hw' fun K hK hc hf'=>?_
     go_simp;exact hK _ _ ⟨rfl,Gr.refl _⟩
    exact trivial
   case hfin =>
    intro w7 hg7;intro v30 t30;replace t30:v30=.slice (some ⟨gX,0,none⟩) R.length R.length:=t30;subst t30;intro v31 t31;replace t31:v31=.int .i64 (i:Int):=t31;subst t31;intro v32 t32;replace t32:(fun v z=>ArV z v x Y) v32 w7:=t32;intro v33 t33;replace t33:v33=.slice (some ⟨W0.heap.size,0,none⟩) R.length R.length:=t33;subst t33;intro v34 t34;replace t34:v34=.int .i64 (i:Int):=t34;subst t34
    intro v35 t35;replace t35:v35=.pointer (some ⟨W0.heap.size,i*4,none⟩):=t35;subst t35;intro v36 t36;replace t36:v36=.pointer (some ⟨W0.heap.size,i*4+2,none⟩):=t36;subst t36;intro v37 t37;replace t37:v37=.int .i64 r.u:=t37;subst t37;intro v38 t38;replace t38:v38=.slice (some ⟨W0.heap.size,0,none⟩) R.length R.length:=t38;subst t38;intro v39 t39;replace t39:v39=.int .i64 (i:Int):=t39;subst t39
    intro v40 t40;replace t40:v40=.pointer (some ⟨W0.heap.size,i*4,none⟩):=t40;subst t40;intro v41 t41;replace t41:v41=.pointer (some ⟨W0.heap.size,i*4+3,none⟩):=t41;subst t41;intro v42 t42;replace t42:v42=.int .i64 r.v:=t42;subst t42;intro v43 t43;replace t43:(fun v z=>MrV z v x Y) v43 w7:=t43;intro v44 t44;replace t44:(fun v z=>MrV z v x Y) v44 w7:=t44;intro v45 t45
    replace t45:(fun v z=>ArV z v x Y) v45 w7:=t45;intro v46 t46;replace t46:(fun v z=>QrV W3.heap.size z v n2 M) v46 w7:=t46;intro v47 t47;replace t47:v47=.int .i64 (n2:Int):=t47;subst t47;intro v48 t48;replace t48:v48=.int .i64 0:=t48;subst t48;have hb7:=jZs hg7.out;clear hg7;simp only [finP,Act.put,List.setIfInBounds_toArray,List.set_cons_succ,List.set_cons_zero];obtain ⟨gq,rfl,hgq,hRQ⟩:=t46
    clear t32 t43 t44 t45 r2 r3;replace HLY:=hD (HLY.out.keep hb7);replace HXW:=hD ((hb7.block _ lbx).trans HXW.out);replace HB3:=hD (jZa HB3.out hb7);have HRQ:=hD hRQ
    have hne1:gq≠W0.heap.size:=by omega
    have hne2:bx≠W0.heap.size:=by omega
    clear hRQ hb7 HAR HR1 C0 C1 C2 HYL HN2 HM
    go_wp2_with fail
    go_loopw [48] (fun mv wr=>∃ m:Nat,m≤n2∧mv=.int .i64 (m:Int)∧LyP wr W0.heap.size R.length (lrM (R.map Nr.n) a b) (knI (R.map Nr.n) i m)∧ReB wr gq M∧wr.heap[bx]?=some (.cells (valsWd x).toArray 112 (0,0))∧Below W0.heap.size W0 wr) (fun mv _=>n2-(intOf mv).toNat)
    case atStart=>exact ⟨0,by omega,rfl,HLY.out.mono fun j _ hj=>knI_zero hj,HRQ.out,HXW.out,HB3.out⟩
    case round =>
     obtain ⟨m,hm,rfl,hly,hq,hxw,hB⟩:=hrel;clear HLY HRQ HXW HB3
     by_cases hlt2:m<n2
     ·have hd2:decide ((m:Int)<(n2:Int))=true:=by simpa using hlt2
      have hdm:(m:Int)<(n2:Int):=by omega
      obtain ⟨kd,hkd⟩:∃ kd,(kidD (R.map Nr.n) i)[m]?=some kd:=⟨_,List.getElem?_eq_getElem (by rw [<- HNK.out];exact hlt2)⟩
      have hkdl:kd<R.length:=by have:=rZb (List.mem_of_getElem? hkd);rwa [List.length_map] at this
      obtain ⟨q,hq0⟩:∃ q,M[m]?=some q:=⟨_,List.getElem?_eq_getElem (by rw [HM0.out,fZq,<- HNK.out];exact hlt2)⟩
      obtain ⟨b1,off,e1,hb1,hps⟩:=hq.v.cells (by have:=(List.getElem?_eq_some_iff.1 hq0).1;omega)
      cases e1
      obtain ⟨c0,c1,c2,c3⟩:=hps m q hq0;rw [Nat.zero_add] at c0 c1 c2 c3
      have hkid:lrM (R.map Nr.n) a b kd=q.at r.x r.y:=by
       refine hZp hT HMG.out hkd ?_;rw [HRR.out];unfold kidR;rw [List.getElem?_map,<- HM0.out,hq0]
       rfl
      have hbd:(-1000000000000000≤q.x∧q.x≤1000000000000000)∧(-1000000000000000≤q.y∧q.y≤1000000000000000):=by
       obtain ⟨z1,z2⟩:=pZu.1 HQR.out
       have:=kidR0_bd hT HMG.out z1 z2 (by rw [<- HM0.out];exact hq0)
       omega
      obtain ⟨kb,koff,ek,hkb,hkp⟩:=(HXK.out.nv.keep hB).cells (by rw [List.length_map];have:=(List.getElem?_eq_some_iff.1 hkd).1;omega);have ck:=hkp m (kd:Int) (by rw [List.getElem?_map,hkd];rfl);have HLY:=hD hly;have HRQ:=hD hq;have HXW:=hD hxw;have HB3:=hD hB;have HKD:=hD hkd;have HKI:=hD hkid;have HBD:=hD hbd;have HEK:=hD ek;have CK:=hD ck;have lgs:=hly.lt;have lxs:=ltS hxw
      clear hly hq hxw hB hkd hkid hbd hps hkp hq0 ek ck
      go_upto_region 10 with (fail)
      refine kZf (fun W=>W.heap[wr.heap.size]?=some (.cells #[.int .i64 q.x,.int .i64 q.y,.int .i64 q.u,.int .i64 q.v] 32 (0,0))∧Below wr.heap.size wr W) ⟨newS _ _,jZd (Below.refl _ _)⟩ (fun W8 h8=>?_);obtain ⟨hq8,hb8⟩:=h8;replace HLY:=hD (HLY.out.keep hb8);replace HRQ:=hD (HRQ.out.keep hb8);replace HXW:=hD ((hb8.block _ lxs).trans HXW.out);replace HB3:=hD (jZa HB3.out hb8)
      obtain ⟨r0,r1,-,-⟩:=HLY.out.cell hlt (.inl (knL_own hT hlm));rw [HRR.out] at r0 r1;have z0:=jZc hq8 0;have z1:=jZc hq8 1;have z2:=jZc hq8 2;have z3:=jZc hq8 3
      have x36:W8.cell? ⟨bx,36,none⟩=some (.slice (some ⟨kb,koff,none⟩) n2 x.kc):=by
       rw [jZc HXW.out 36]
       show some (Value.slice x.ka x.kn x.kc)=_
       rw [HEK.out,HXN.out,List.length_map,<- HNK.out]
      have ck8:=(hb8.cell (p:=⟨kb,koff+m,none⟩) hkb).trans CK.out;have l1:=ltS HXW.out;have l2:=ltS hq8;have l3:=HLY.out.lt;have l4:kb<W8.heap.size:=Nat.lt_of_lt_of_le hkb hb8.size
      have hkdi:(kd:Int)<(R.length:Int):=by omega
      clear hq8 hb8 c0 c1 c2 c3 lxs lgs hkb CK
      go_wp2_with fail
      refine uZf 19 1 [] #[true,true,true,true,true,true,true,true,true,true,true,true,true,true,true,true,true,true,true,false] (by kernel_rfl) (by kernel_rfl) (by kernel_rfl) (XV (.slice (some ⟨W0.heap.size,0,none⟩) R.length R.length) :: XV (.pointer (some ⟨bx,36,none⟩)) :: XV (.slice (some ⟨kb,koff,none⟩) n2 x.kc) :: XV (.int .i64 (m:Int)) :: XV (.pointer (some ⟨kb,koff+m,none⟩)) :: XV (.int .i64 (kd:Int)) :: XV (.agg #[.int .i64 q.x,.int .i64 q.y,.int .i64 q.u,.int .i64 q.v]) :: XV (.slice (some ⟨W0.heap.size,0,none⟩) R.length R.length) :: XV (.int .i64 (i:Int)) :: XV (.pointer (some ⟨W0.heap.size,i*4,none⟩)) :: XV (.pointer (some ⟨W0.heap.size,i*4,none⟩)) :: XV (.int .i64 r.x) :: XV (.slice (some ⟨W0.heap.size,0,none⟩) R.length R.length) :: XV (.int .i64 (i:Int)) :: XV (.pointer (some ⟨W0.heap.size,i*4,none⟩)) :: XV (.pointer (some ⟨W0.heap.size,i*4+1,none⟩)) :: XV (.int .i64 r.y) :: XV (.agg #[.int .i64 (q.x+r.x),.int .i64 (q.y+r.y),.int .i64 q.u,.int .i64 q.v]) :: XV (.pointer (some ⟨W0.heap.size,kd*4,none⟩)) :: []) (by kernel_rfl) (by kernel_rfl) (by kernel_rfl) ?hTs ?hXs ?hops ?hfin
      case hTs =>
       intro T hT;simp only [List.mem_cons,List.not_mem_nil,or_false] at hT
       rcases hT with rfl | rfl | rfl | rfl | rfl | rfl | rfl | rfl | rfl | rfl | rfl | rfl | rfl | rfl | rfl | rfl | rfl | rfl | rfl <;> first | exact qZn _ | exact qZo | exact kZh (fun v a b x g=>x.keep g) | exact kZh (fun v a b x g=>x)
      case hXs =>
       intro x d s hx;exact absurd hx (List.not_mem_nil)
      case hops =>
       refine ⟨jZb [(8,none)] (by kernel_rfl) rfl ?_,?_⟩
       ·intro act w' hw' h1;obtain ⟨hk,hf⟩:=evkf act;generalize act.eval=ρ at *;replace h1:ρ (.tmp 8)=.slice (some ⟨W0.heap.size,0,none⟩) R.length R.length:=h1
        refine gxB hw' fun K hK hc hf'=>?_
        go_simp;exact hK _ _ ⟨rfl,Gr.refl _⟩
       refine ⟨jZb [(10,none)] (by kernel_rfl) rfl ?_,?_⟩
       ·intro act w' hw' h1;obtain ⟨hk,hf⟩:=evkf act;generalize act.eval=ρ at *;replace h1:ρ (.tmp 10)=.pointer (some ⟨bx,0,none⟩):=h1
        refine gxB hw' fun K hK hc hf'=>?_
        go_simp;exact hK _ _ ⟨rfl,Gr.refl _⟩
       refine ⟨jZb [(54,some 1)] (by kernel_rfl) rfl ?_,?_⟩
       ·intro act w' hw' h1;obtain ⟨hk,hf⟩:=evkf act;generalize act.eval=ρ at *;replace h1:ρ (.tmp 54)=.pointer (some ⟨bx,36,none⟩):=h1
        refine gxB hw' fun K hK hc hf'=>?_
        go_simp;exact hK _ _ ⟨rfl,Gr.refl _⟩
       refine ⟨jZb [(11,none)] (by kernel_rfl) rfl ?_,?_⟩
       ·intro act w' hw' h1;obtain ⟨hk,hf⟩:=evkf act;generalize act.eval=ρ at *;replace h1:ρ (.tmp 11)=.int .i64 (m:Int):=h1
        refine gxB hw' fun K hK hc hf'=>?_
        go_simp;exact hK _ _ ⟨rfl,Gr.refl _⟩
       refine ⟨jZb [(55,some 2),(56,some 3)] (by kernel_rfl) rfl ?_,?_⟩
       ·intro act w' hw' h1 h2;obtain ⟨hk,hf⟩:=evkf act;generalize act.eval=ρ at *;replace h1:ρ (.tmp 55)=.slice (some ⟨kb,koff,none⟩) n2 x.kc:=h1;replace h2:ρ (.tmp 56)=.int .i64 (m:Int):=h2
        refine gxB hw' fun K hK hc hf'=>?_
        go_simp;exact hK _ _ ⟨rfl,Gr.refl _⟩
       refine ⟨jZb [(57,some 4)] (by kernel_rfl) rfl ?_,?_⟩
       ·intro act w' hw' h1;obtain ⟨hk,hf⟩:=evkf act;generalize act.eval=ρ at *;replace h1:ρ (.tmp 57)=.pointer (some ⟨kb,koff+m,none⟩):=h1
        refine gxB hw' fun K hK hc hf'=>?_
        go_simp;exact hK _ _ ⟨rfl,Gr.refl _⟩
       refine ⟨jZb [(12,none)] (by kernel_rfl) rfl ?_,?_⟩
       ·intro act w' hw' h1;obtain ⟨hk,hf⟩:=evkf act;generalize act.eval=ρ at *;replace h1:ρ (.tmp 12)=.pointer (some ⟨wr.heap.size,0,none⟩):=h1
        refine gxB hw' fun K hK hc hf'=>?_
        go_simp;exact hK _ _ ⟨rfl,Gr.refl _⟩
       refine ⟨jZb [(8,none)] (by kernel_rfl) rfl ?_,?_⟩
       ·intro act w' hw' h1;obtain ⟨hk,hf⟩:=evkf act;generalize act.eval=ρ at *;replace h1:ρ (.tmp 8)=.slice (some ⟨W0.heap.size,0,none⟩) R.length R.length:=h1
        refine gxB hw' fun K hK hc hf'=>?_
        go_simp;exact hK _ _ ⟨rfl,Gr.refl _⟩
       refine ⟨jZb [(9,none)] (by kernel_rfl) rfl ?_,?_⟩
       ·intro act w' hw' h1;obtain ⟨hk,hf⟩:=evkf act;generalize act.eval=ρ at *;replace h1:ρ (.tmp 9)=.int .i64 (i:Int):=h1
        refine gxB hw' fun K hK hc hf'=>?_
        go_simp;exact hK _ _ ⟨rfl,Gr.refl _⟩
       refine ⟨jZb [(60,some 7),(61,some 8)] (by kernel_rfl) rfl ?_,?_⟩
       ·intro act w' hw' h1 h2;obtain ⟨hk,hf⟩:=evkf act;generalize act.eval=ρ at *;replace h1:ρ (.tmp 60)=.slice (some ⟨W0.heap.size,0,none⟩) R.length R.length:=h1;replace h2:ρ (.tmp 61)=.int .i64 (i:Int):=h2
        refine gxB hw' fun K hK hc hf'=>?_
        go_simp;exact hK _ _ ⟨rfl,Gr.refl _⟩
       refine ⟨jZb [(62,some 9)] (by kernel_rfl) rfl ?_,?_⟩
       ·intro act w' hw' h1;obtain ⟨hk,hf⟩:=evkf act;generalize act.eval=ρ at *;replace h1:ρ (.tmp 62)=.pointer (some ⟨W0.heap.size,i*4,none⟩):=h1
        refine gxB hw' fun K hK hc hf'=>?_
        go_simp;exact hK _ _ ⟨rfl,Gr.refl _⟩
       refine ⟨jZb [(63,some 10)] (by kernel_rfl) rfl ?_,?_⟩
       ·intro act w' hw' h1;obtain ⟨hk,hf⟩:=evkf act;generalize act.eval=ρ at *;replace h1:ρ (.tmp 63)=.pointer (some ⟨W0.heap.size,i*4,none⟩):=h1
        refine gxB hw' fun K hK hc hf'=>?_
        go_simp;exact hK _ _ ⟨rfl,Gr.refl _⟩
       refine ⟨jZb [(8,none)] (by kernel_rfl) rfl ?_,?_⟩
       ·intro act w' hw' h1;obtain ⟨hk,hf⟩:=evkf act;generalize act.eval=ρ at *;replace h1:ρ (.tmp 8)=.slice (some ⟨W0.heap.size,0,none⟩) R.length R.length:=h1
        refine gxB hw' fun K hK hc hf'=>?_
        go_simp;exact hK _ _ ⟨rfl,Gr.refl _⟩
       refine ⟨jZb [(9,none)] (by kernel_rfl) rfl ?_,?_⟩
       ·intro act w' hw' h1;obtain ⟨hk,hf⟩:=evkf act;generalize act.eval=ρ at *;replace h1:ρ (.tmp 9)=.int .i64 (i:Int):=h1
        refine gxB hw' fun K hK hc hf'=>?_
        go_simp;exact hK _ _ ⟨rfl,Gr.refl _⟩
       refine ⟨jZb [(65,some 12),(66,some 13)] (by kernel_rfl) rfl ?_,?_⟩
       ·intro act w' hw' h1 h2;obtain ⟨hk,hf⟩:=evkf act;generalize act.eval=ρ at *;replace h1:ρ (.tmp 65)=.slice (some ⟨W0.heap.size,0,none⟩) R.length R.length:=h1;replace h2:ρ (.tmp 66)=.int .i64 (i:Int):=h2
        refine gxB hw' fun K hK hc hf'=>?_
        go_simp;exact hK _ _ ⟨rfl,Gr.refl _⟩
       refine ⟨jZb [(67,some 14)] (by kernel_rfl) rfl ?_,?_⟩
       ·intro act w' hw' h1;obtain ⟨hk,hf⟩:=evkf act;generalize act.eval=ρ at *;replace h1:ρ (.tmp 67)=.pointer (some ⟨W0.heap.size,i*4,none⟩):=h1
        refine gxB hw' fun K hK hc hf'=>?_
        go_simp;exact hK _ _ ⟨rfl,Gr.refl _⟩
       refine ⟨jZb [(68,some 15)] (by kernel_rfl) rfl ?_,?_⟩
       ·intro act w' hw' h1;obtain ⟨hk,hf⟩:=evkf act;generalize act.eval=ρ at *;replace h1:ρ (.tmp 68)=.pointer (some ⟨W0.heap.size,i*4+1,none⟩):=h1
        refine gxB hw' fun K hK hc hf'=>?_
        go_simp;exact hK _ _ ⟨rfl,Gr.refl _⟩
       refine ⟨jZb [(59,some 6),(64,some 11),(69,some 16)] (by kernel_rfl) rfl ?_,?_⟩
       ·intro act w' hw' h1 h2 h3;obtain ⟨hk,hf⟩:=evkf act;generalize act.eval=ρ at *;replace h1:ρ (.tmp 59)=.agg #[.int .i64 q.x,.int .i64 q.y,.int .i64 q.u,.int .i64 q.v]:=h1;replace h2:ρ (.tmp 64)=.int .i64 r.x:=h2;replace h3:ρ (.tmp 69)=.int .i64 r.y:=h3
        refine gxB hw' fun K hK hc hf'=>?_
        go_simp
        (refine (moved_w q.x q.y q.u q.v r.x r.y _ HBD.out.1 HBD.out.2 ?_ ?_).mono ?_) <;> first|(have:=HXY.out;have:=pZu.1 HQR.out;omega)|(rintro e w1 ⟨rfl,hb1⟩;exact ⟨_,rfl,hK _ _ ⟨rfl,hb1⟩⟩)
       refine ⟨jZb [(53,some 0),(58,some 5)] (by kernel_rfl) rfl ?_,?_⟩
       ·intro act w' hw' h1 h2;obtain ⟨hk,hf⟩:=evkf act;generalize act.eval=ρ at *;replace h1:ρ (.tmp 53)=.slice (some ⟨W0.heap.size,0,none⟩) R.length R.length:=h1;replace h2:ρ (.tmp 58)=.int .i64 (kd:Int):=h2
        refine gxB hw' fun K hK hc hf'=>?_
        go_simp;exact hK _ _ ⟨rfl,Gr.refl _⟩
       exact trivial
      case hfin =>
       intro w10 hg10;intro v53 t53;replace t53:v53=.slice (some ⟨W0.heap.size,0,none⟩) R.length R.length:=t53;subst t53;intro v54 t54;replace t54:v54=.pointer (some ⟨bx,36,none⟩):=t54;subst t54;intro v55 t55;replace t55:v55=.slice (some ⟨kb,koff,none⟩) n2 x.kc:=t55;subst t55;intro v56 t56;replace t56:v56=.int .i64 (m:Int):=t56;subst t56;intro v57 t57
       replace t57:v57=.pointer (some ⟨kb,koff+m,none⟩):=t57;subst t57;intro v58 t58;replace t58:v58=.int .i64 (kd:Int):=t58;subst t58;intro v59 t59;replace t59:v59=.agg #[.int .i64 q.x,.int .i64 q.y,.int .i64 q.u,.int .i64 q.v]:=t59;subst t59;intro v60 t60;replace t60:v60=.slice (some ⟨W0.heap.size,0,none⟩) R.length R.length:=t60;subst t60;intro v61 t61;replace t61:v61=.int .i64 (i:Int):=t61
       subst t61;intro v62 t62;replace t62:v62=.pointer (some ⟨W0.heap.size,i*4,none⟩):=t62;subst t62;intro v63 t63;replace t63:v63=.pointer (some ⟨W0.heap.size,i*4,none⟩):=t63;subst t63;intro v64 t64;replace t64:v64=.int .i64 r.x:=t64;subst t64;intro v65 t65;replace t65:v65=.slice (some ⟨W0.heap.size,0,none⟩) R.length R.length:=t65;subst t65;intro v66 t66;replace t66:v66=.int .i64 (i:Int):=t66
       subst t66;intro v67 t67;replace t67:v67=.pointer (some ⟨W0.heap.size,i*4,none⟩):=t67;subst t67;intro v68 t68;replace t68:v68=.pointer (some ⟨W0.heap.size,i*4+1,none⟩):=t68;subst t68;intro v69 t69;replace t69:v69=.int .i64 r.y:=t69;subst t69;intro v70 t70;replace t70:v70=.agg #[.int .i64 (q.x+r.x),.int .i64 (q.y+r.y),.int .i64 q.u,.int .i64 q.v]:=t70;subst t70;intro v71 t71
       replace t71:v71=.pointer (some ⟨W0.heap.size,kd*4,none⟩):=t71;subst t71;have hb10:=jZs hg10.out;clear hg10;simp only [finP,List.take_succ_cons,List.take_zero,Act.put,List.setIfInBounds_toArray,List.set_cons_succ,List.set_cons_zero];have hth:w10.there W0.heap.size (kd*4) (jZr (q.at r.x r.y)).length:=(HLY.out.keep hb10).there hkdl
       refine qZ1 19 32 (.tmp 71) (.tmp 70) W0.heap.size (kd*4) (jZr (q.at r.x r.y)) (by kernel_rfl) (by kernel_rfl) (by kernel_rfl) rfl rfl hth (by kernel_rfl) (tZ5 _) ?_;refine qZp ?_;have E1:=hD ((HLY.out.keep hb10).put hkdl HKI.out (fun j hj=>knI_step HKD.out hj));have hRQ:=HRQ.out.keep hb10
       have E2:=hD (show ReB (w10.setCells W0.heap.size (kd*4) (jZr (q.at r.x r.y))) gq M from let ⟨cs,hh,hs⟩:=hRQ;⟨cs,(jZv hne1 _ _ _).trans hh,hs⟩);have E3:=hD ((jZv hne2 (jZr (q.at r.x r.y)) (kd*4) w10).trans ((hb10.block _ l1).trans HXW.out));have E4:=hD (jZi (Nat.le_refl _) (jZr (q.at r.x r.y)) (kd*4) _ (jZa HB3.out hb10))
       clear hth hb10 hRQ HLY HRQ HXW HB3 z0 z1 z2 z3 x36 ck8 r0 r1 l1 l2 l3 l4;go_wp2
       go_roundw
       case rel=>exact ⟨m+1,by omega,by go_num,E1.out,E2.out,E3.out,E4.out⟩
       case measure=>simp [intOf];omega
     ·have hd2:decide ((m:Int)<(n2:Int))=false:=by simp;omega
      obtain rfl:m=n2:=by omega
      have HLY:=hD hly;have HB3:=hD hB;clear hly hq hxw hB;go_wp2
      go_roundw
      case rel=>exact ⟨i+1,by omega,by go_num,HLY.out.mono fun j hj hk=>by rw [HNK.out];exact knI_all (by rw [List.length_map];exact hj) hk,HB3.out⟩
      case measure=>simp [intOf];omega
  ·have hd:decide ((i:Int)<(R.length:Int))=false:=by simp;omega
   obtain rfl:i=R.length:=by omega
   have HK:=hD (hly.whole fun j hj=>by have:=knL_all hT (j:=j) (by rw [List.length_map];exact hj);rwa [List.length_map] at this);have HB2:=hD (HB.out.trans (hB.mono hsz0));clear hly hB;go_wp2;go_ret;exact ⟨⟨_,rfl,hsz0,HK.out⟩,HB2.out⟩
end
end Go.Proofs.YtfnpdlnepjhljaaGreat
