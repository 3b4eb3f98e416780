import Derived.Test.YtenckjdiggaonaaGreatQu15
set_option linter.unusedVariables false
set_option linter.unusedSimpArgs false
set_option maxRecDepth 100000
set_option maxHeartbeats 16000000
namespace Go.Proofs.YtenckjdiggaonaaGreat
open Go.RowKit
attribute [local go_sem] growUpon_value growUpon_skip growUpon_enter
section
attribute [local go_sem] givesUpon_value givesUpon_skip givesUpon_enter
theorem flat_get {k:Nat}:∀ {R:List (List Value)} {i j:Nat} {vs:List Value} {u:Value},(∀ vs ∈ R,vs.length=k)→R[i]?=some vs→vs[j]?=some u→R.flatten[i*k+j]?=some u
 | x :: t,0,j,vs,u,hl,h,hj=>by
  simp at h
  subst h
  have:=(List.getElem?_eq_some_iff.1 hj).1
  rw [Nat.zero_mul,Nat.zero_add,List.flatten_cons,List.getElem?_append_left this];exact hj
 | x :: t,i+1,j,vs,u,hl,h,hj=>by
  have hx:=hl x List.mem_cons_self;rw [List.getElem?_cons_succ] at h
  have:=flat_get (fun vs hv=>hl vs (List.mem_cons_of_mem _ hv)) h hj
  rw [List.flatten_cons,List.getElem?_append_right (by rw [hx,Nat.add_mul];omega),hx,show (i+1)*k+j - k=i*k+j from by rw [Nat.add_mul];omega];exact this
theorem own_rvK {w:World} {base k n:Nat} {T:TypeId} {v:Value} {R:List (List Value)} (h:w.ownsRow base T k v n R.flatten) (hn:n=R.length) (hl:∀ vs ∈ R,vs.length=k):∃ A c,v=.slice A n c∧RvK k w A R∧n≤c:=by
 rcases h.2 with ⟨rfl,h0⟩ | ⟨g,cap,cur,rfl,hb,hg,hc,_,hs,ht⟩
 ·have:R=[]:=List.length_eq_zero_iff.1 (by omega)
  subst this;exact ⟨none,0,by rw [h0],RvK.nil _ _ _,by omega⟩
 ·refine ⟨_,cap,rfl,fun _=>⟨g,0,rfl,ltS hg,fun i vs hi j u hj=>?_⟩,hc⟩;have hil:=(List.getElem?_eq_some_iff.1 hi).1;have hjl:=(List.getElem?_eq_some_iff.1 hj).1;have hvl:=hl vs (List.mem_of_getElem? hi);have e:=flat_get hl hi hj;rw [<- ht,List.getElem?_take] at e
  split at e
  ·rw [Nat.zero_add];exact (cellS hg _).trans (by simpa using e)
  ·cases e
theorem newK (W:World) (vs:List Value) (T:TypeId):∀ (j:Nat) (u:Value),vs[j]?=some u→(W.alloc (.cells vs.toArray T)).cell? ((⟨W.heap.size,0,none⟩:Addr).add j)=some u:=fun j u h=>by
 have hadd:(⟨W.heap.size,0,none⟩:Addr).add j=⟨W.heap.size,j,none⟩:=by unfold Addr.add;split <;> simp_all
 rw [hadd];exact (cellS (newS W _) j).trans (by simpa using h)
theorem full_set {w:World} {g k:Nat} {z:Array Value} {T:TypeId} (h:w.heap[g]?=some (.cells z T (0,0))) (hz:z.size=k) (vs:List Value) (hv:vs.length=k):(w.setCells g 0 vs).heap[g]?=some (.cells vs.toArray T (0,0)):=by
 rw [heap_setCells vs 0 w z h]
 congr 2
 apply Array.ext
 ·rw [wrAt_size,hz];simp [hv]
 ·intro i h1 h2
  have:=wrAt_in vs z 0 i (by omega) (by simpa using h2)
  rw [Nat.zero_add,Array.getElem?_eq_getElem h1] at this;rw [List.getElem?_eq_getElem (by simpa using h2)] at this
  simpa using this
theorem own_other {w w':World} {base g:Nat} {e:TypeId} {size:Nat} {v:Value} {n:Nat} {xs:List Value} (h:w.ownsRow base e size v n xs) (hg:w.grownBy w' (some g)) (hne:v.ownBlock=some g→False):w'.ownsRow base e size v n xs :=
 h.kept hg (.inr hne)
theorem below_grownW {a w w':World} {g n:Nat} (hb:Below n a w) (hg:w.grownBy w' (some g)) (hle:n≤g) (hn:n≤w.heap.size):Below n a w' :=
 ⟨hg.os.trans hb.os,hg.tape.trans hb.tape,hg.output.trans hb.output,Nat.le_trans hb.size hg.size,fun k hk=>(hg.block k (Nat.lt_of_lt_of_le hk hn) (fun e=>by have:=Option.some.inj e;omega)).trans (hb.block k hk)⟩
def BxZ (w:World) (v:Value) (lo:Nat) (T:TypeId) (k:Nat):Prop:=∃ (g:Nat) (z:Array Value),v=.pointer (some ⟨g,0,none⟩)∧lo≤g∧w.heap[g]?=some (.cells z T (0,0))∧z.size=k
theorem BxZ.keep {w w':World} {v:Value} {lo:Nat} {T:TypeId} {k:Nat} (h:BxZ w v lo T k) (hb:Below w.heap.size w w'):BxZ w' v lo T k:=let ⟨g,z,e,hl,hh,hz⟩:=h;⟨g,z,e,hl,(hb.block _ (ltS hh)).trans hh,hz⟩
theorem run_allocK {P:Program} {T:TypeId} {k:Nat} (w:World) (hi:∃ i z,P.info? T=some i∧i.zero=some z∧z.cells.size=k):∃ f:Array Value,f.size=k∧(Instr.alloc T true (.tuple #[])).run P w=.ok (.pointer (some ⟨w.heap.size,0,none⟩)) (w.alloc (.cells f T)):=by
 obtain ⟨i,z,h1,h2,h3⟩:=hi;exact ⟨z.cells,h3,by simp [Instr.alloc,zeroValue,typeInfo,h1,h2,newVar,go_sem]⟩
theorem info_own {P:Program} {T:TypeId} {k b:Nat} (h:(P.info? T).map (fun i=>(i.size,i.bytes,i.zero.map (fun z=>z.cells.size)))=some (k,b,some k)):∃ (i:TypeInfo) (z:Value),P.info? T=some i∧i.zero=some z∧i.size=k∧i.bytes=b∧z.cells.size=k:=by
 cases hq:P.info? T with
 | none=>rw [hq] at h;cases h
 | some i =>
  rw [hq] at h;simp only [Option.map_some,Option.some.injEq,Prod.mk.injEq] at h;obtain ⟨e1,e2,e3⟩:=h
  cases hz:i.zero with
  | none=>rw [hz] at e3;cases e3
  | some z=>rw [hz] at e3;simp only [Option.map_some,Option.some.injEq] at e3;exact ⟨i,z,rfl,hz,e1,e2,e3⟩
theorem pksF_snoc {L:List Nd} {g:Nat→Int × Int} {ks:List Nat} {k x:Nat} {m:Nd} (h:ks[k]?=some x) (hm:L[x]?=some m):pksF L g (ks.take (k+1))=pksF L g (ks.take k) ++ [pkOf m (g x)]:=by
 obtain ⟨hk,e⟩:=List.getElem?_eq_some_iff.1 h;unfold pksF;rw [List.take_succ_eq_append_getElem hk,e,List.filterMap_append]
 simp [hm]
theorem pksF_take_len {L:List Nd} {g:Nat→Int × Int} {ks:List Nat} (hk:∀ x ∈ ks,x<L.length):∀ k,k≤ks.length→(pksF L g (ks.take k)).length=k:=by
 intro k
 induction k with
 | zero=>intro _;simp [pksF]
 | succ k ih =>
  intro h;have e:ks[k]?=some ks[k]:=List.getElem?_eq_getElem (by omega);have hlt:ks[k]'(by omega)<L.length:=hk _ (List.getElem_mem (by omega));have em:L[ks[k]'(by omega)]?=some (L[ks[k]'(by omega)]'hlt):=List.getElem?_eq_getElem hlt;rw [pksF_snoc e em,List.length_append,ih (by omega)]
  rfl
theorem packsOf_v (A:Option Addr) (c:Nat) (R:List Nr) (ks:List Nat) (B:Option Addr) (cb n:Nat) (g:Nat→Int × Int) (w:World) (h:NrV w A R) (hR1:1≤R.length) (hL:R.length≤1048576) (hB:NV w B (ks.map fun (k:Nat)=>(k:Int))) (hn:n=ks.length) (hn2:n≤1048576) (hk:∀ k ∈ ks,k<R.length)
  (hS:∀ k ∈ ks,∀ W,Below w.heap.size w W→Calls Tryz.prog 55 #[.agg #[.slice A R.length c],.int .i64 (k:Int)] W fun e W'=>e=.returned (.tuple #[.int .i64 (g k).1,.int .i64 (g k).2])∧Below W.heap.size W W') :
  Calls Tryz.prog 96 #[.agg #[.slice A R.length c],.slice B n cb] w fun e w'=>(∃ A' c',e=.returned (.slice A' n c')∧PV w' A' (pksF (R.map Nr.n) g ks)∧n≤c')∧Below w.heap.size w w':=by
 obtain ⟨ti,tz,ti1,ti2,ti3,ti4,ti5⟩:=info_own (P:=Tryz.prog) (T:=78) (k:=9) (b:=56) (by kernel_rfl);obtain ⟨b,off,rfl,hb,hc⟩:=h.cells hR1;have HC:=hD hc;have HS:=hD hS;have HKS:=hD hk;have HN:=hD hB;have hnk:=hn;have HNK:=hD hnk;clear hc h hS hk hB hn hnk;refine calls_abs Tryz.func96 rfl 44 (by simp only [Tryz.ntmps96]) (by simp) (fun t hsz hargs=>?_)
 have q0:t[0]?=some (.agg #[.slice (some ⟨b,off,none⟩) R.length c]):=get_of (by omega) (hargs 0 _ rfl);have q1:t[1]?=some (.slice B n cb):=get_of (by omega) (hargs 1 _ rfl);clear hargs;obtain ⟨l0,e0⟩:=gE q0;obtain ⟨l1,e1⟩:=gE q1
 refine wp_seq_h fun K hK=>?_
 apply wp_region_lit
 repeat (first | go_step)
 refine hK.out _ _ ?_;clear hK K;refine wp_abw (fun t' W'=>t'.size=44∧t'[1]?=some (.slice B n cb)∧t'[2]?=some (.pointer (some ⟨w.heap.size,0,none⟩))∧W'.heap[w.heap.size]?=some (.cells #[.slice (some ⟨b,off,none⟩) R.length c] 30 (0,0))∧Below w.heap.size w W') ⟨by simp [Act.put,hsz],by simp [Act.put,q1],by simp [Act.put,hsz],⟨newS _ _,balloc (Below.refl _ _)⟩⟩ ?_;clear hsz q0 l0 e0 q1 l1 e1 t
 rintro t Wb ⟨hsz,q1,q2,HX,hB0⟩;have HXX:=hD HX;have HB0:=hD hB0;replace HC:=hD (show ∀ k p,R[k]?=some p→Wb.rangeAt b (off+k*34) (valsNr p) from fun k p hk=>rangeB (HC.out k p hk) (hB0.block b hb));replace HN:=hD (HN.out.keep hB0);have hbl:b<Wb.heap.size:=Nat.lt_of_lt_of_le hb hB0.size;have lxb:w.heap.size<Wb.heap.size:=ltS HX;clear HX hB0 hb;obtain ⟨l1,e1⟩:=gE q1;obtain ⟨l2,e2⟩:=gE q2
 refine wp_seq_h fun K hK=>?_
 apply wp_region_lit
 repeat (first | go_step)
 refine hK.out _ _ ?_;clear hK K
 refine wp_abw (fun t' W'=>t'.size=44∧t'[1]?=some (.slice B n cb)∧t'[2]?=some (.pointer (some ⟨w.heap.size,0,none⟩))∧t'[5]?=some (.slice (some ⟨Wb.heap.size,0,none⟩) 0 0)∧W'.ownsRow Wb.heap.size 78 9 (.slice (some ⟨Wb.heap.size,0,none⟩) 0 0) 0 (([]:List (List Value)).flatten)∧Below Wb.heap.size Wb W') ⟨by simp [Act.put,hsz],by simp [Act.put,q1],by simp [Act.put,q2],by simp [Act.put,hsz],⟨World.ownsRow_lit (base:=Wb.heap.size) (e:=78) (size:=9) Wb #[] 0 (Nat.le_refl _) (by decide) rfl,balloc (Below.refl _ _)⟩⟩ ?_
 clear hsz q1 l1 e1 q2 l2 e2 t;rintro t W0 ⟨hsz,q1,q2,q5,hO,hB⟩
 refine wp_seq_h fun KE hKE=>?_
 obtain ⟨l1,e1⟩:=gE q1;obtain ⟨l2,e2⟩:=gE q2;obtain ⟨l5,e5⟩:=gE q5
 refine wp_seq_h fun K hK=>?_
 apply wp_region_lit
 repeat (first | go_step)
 refine hK.out _ _ ?_;clear hK K;refine wp_abw (fun t' W'=>t'.size=44∧t'[1]?=some (.slice B n cb)∧t'[2]?=some (.pointer (some ⟨w.heap.size,0,none⟩))∧t'[5]?=some (.slice (some ⟨Wb.heap.size,0,none⟩) 0 0)∧t'[6]?=some (.int .i64 ((0:Nat):Int))∧W0=W') ⟨by simp [Act.put,hsz],by simp [Act.put,q1],by simp [Act.put,q2],by simp [Act.put,q5],by simp [Act.put,hsz],rfl⟩ ?_
 clear hsz q1 l1 e1 q2 l2 e2 q5 l5 e5 t;rintro t _ ⟨hsz,q1,q2,q5,q6,rfl⟩;apply wp_block
 refine wp_loop (fun a W=>∃ (t:Array Value) (k:Nat) (v:Value),a=⟨t,[]⟩∧k≤n∧t.size=44∧t[1]?=some (.slice B n cb)∧t[2]?=some (.pointer (some ⟨w.heap.size,0,none⟩))∧t[5]?=some (v)∧t[6]?=some (.int .i64 (k:Int))∧W.ownsRow Wb.heap.size 78 9 v k ((pksF (R.map Nr.n) g (ks.take k)).map valsPk).flatten∧Below Wb.heap.size Wb W) (fun a _=>n - (intOf (a.tmps.getD 6 undef)).toNat) ⟨t,0,_,rfl,by omega,hsz,q1,q2,q5,q6,by simpa [pksF] using hO,hB⟩ ?_
 clear t hsz q1 q2 q5 q6 hO hB W0;rintro a W ⟨t,k,v,rfl,hk,hsz,q1,q2,q5,q6,hO,hB⟩
 have hmu:intOf (t.getD 6 undef)=(k:Int):=by rw [Array.getD_eq_getD_getElem?,q6];rfl
 dsimp only
 rw [hmu];clear hmu;have HO:=hD hO;have HB:=hD hB;clear hO hB
 by_cases hlt:k<n
 ·have hd:decide ((k:Int)<(n:Int))=true:=by simpa using hlt
  refine wp_seq_h fun K1 hK1=>?_
  obtain ⟨l1,e1⟩:=gE q1;obtain ⟨l2,e2⟩:=gE q2;obtain ⟨l5,e5⟩:=gE q5;obtain ⟨l6,e6⟩:=gE q6
  refine wp_seq_h fun K hK=>?_
  apply wp_region_lit
  repeat (first | go_step)
  refine hK.out _ _ ?_;clear hK K;refine wp_abw (fun t' W'=>t'.size=44∧t'[1]?=some (.slice B n cb)∧t'[2]?=some (.pointer (some ⟨w.heap.size,0,none⟩))∧t'[5]?=some (v)∧t'[6]?=some (.int .i64 (k:Int))∧t'[14]?=some (.bool true)∧W=W') ⟨by simp [Act.put,hsz],by simp [Act.put,q1],by simp [Act.put,q2],by simp [Act.put,q5],by simp [Act.put,q6],by simp [Act.put,hsz,hd],rfl⟩ ?_
  clear hsz q1 l1 e1 q2 l2 e2 q5 l5 e5 q6 l6 e6 t;rintro t _ ⟨hsz,q1,q2,q5,q6,q14,rfl⟩;clear hd;refine wp_cond_true (by simp [Act.eval,q14]) ?_;apply wp_skip;simp only [Exit.then];refine hK1.out _ _ ?_;clear hK1 K1 q14
  refine wp_seq_h fun KB hKB=>?_
  apply wp_block
  have hkl:k<ks.length:=by rw [<- HNK.out];exact hlt
  have hkg:ks[k]?=some ks[k]:=List.getElem?_eq_getElem hkl;have hxl:ks[k]<R.length:=HKS.out _ (List.getElem_mem hkl);have hget:R[ks[k]]?=some R[ks[k]]:=List.getElem?_eq_getElem hxl;have hS1:=HS.out _ (List.getElem_mem hkl);have hsn:=pksF_snoc (L:=R.map Nr.n) (g:=g) hkg (m:=R[ks[k]].n) (by rw [List.getElem?_map,hget];rfl);obtain ⟨b2,off2,rfl,hb2,hp2⟩:=(HN.out.keep HB.out).cells (by simp;omega)
  have cx:=hp2 k (ks[k]:Int) (by rw [List.getElem?_map,hkg];rfl);have hrp:=HC.out _ _ hget;generalize hxe:ks[k]=x at *;have hget2:R[x]?=some (R[x]'hxl):=List.getElem?_eq_getElem hxl;generalize (R[x]'hxl)=p at *
  have hd1:(k:Int)<(n:Int):=by omega
  have hd2:(x:Int)<(R.length:Int):=by omega
  have x0:=cellS ((HB.out.block _ lxb).trans HXX.out) 0;have lx:w.heap.size<W.heap.size:=Nat.lt_of_lt_of_le lxb HB.out.size;have hbl1:b<W.heap.size:=Nat.lt_of_lt_of_le hbl HB.out.size;have HRP:=hD (show W.rangeAt b (off+x*34) (valsNr p) from rangeB hrp (HB.out.block b hbl));have HS1:=hD hS1;have HSN:=hD hsn
  have HCX:=hD (show ∀ W',Below Wb.heap.size Wb W'→W'.cell? ⟨b2,off2+k,none⟩=some (.int .i64 (x:Int)) from fun W' hW'=>by obtain ⟨b3,off3,e3,hb3,hp3⟩:=(HN.out.keep hW').cells (by simp;omega);cases e3;exact hp3 k _ (by rw [List.getElem?_map,hkg];rfl));have HB2:=hD (show b2<Wb.heap.size by obtain ⟨b3,off3,e3,hb3,_⟩:=HN.out.cells (by simp;omega);cases e3;exact hb3);have HBW:=hD HB.out.size
  have HOL:=hD (show ∀ k,v.ownBlock=some k→k<W.heap.size from fun k e=>(HO.out.lt k e).2);clear hp2 hrp hS1 hsn hkg hget hget2 hxe hxl hkl;obtain ⟨l1,e1⟩:=gE q1;obtain ⟨l2,e2⟩:=gE q2;obtain ⟨l5,e5⟩:=gE q5;obtain ⟨l6,e6⟩:=gE q6
  refine wp_seq_h fun K hK=>?_
  refine wp_region_any (by kernel_rfl) ?_
  refine wpAny_rxp 10 1 #[true,true,true,true,true,true,true,true,true,true,false] (by kernel_rfl) (by kernel_rfl) (XV (.pointer (some ⟨w.heap.size,0,none⟩)) :: XV (.slice (some ⟨b,off,none⟩) R.length c) :: XV (.slice (some ⟨b2,off2,none⟩) n cb) :: XV (.int .i64 (k:Int)) :: XV (.pointer (some ⟨b2,off2+k,none⟩)) :: XV (.int .i64 (x:Int)) :: XV (.pointer (some ⟨b,off+x*34,none⟩)) :: XV (.pointer (some ⟨b,off+x*34+7,none⟩)) :: XV (.agg (valsPk p.n.pk).toArray) :: (fun v w=>BxZ w v W.heap.size 78 9) :: []) (by show rgC _ t.size=true;rw [hsz];kernel_rfl) (by kernel_rfl) ?hTs ?hops ?hfin
  case hTs =>
   intro T hT;simp only [List.mem_cons,List.not_mem_nil,or_false] at hT
   rcases hT with rfl | rfl | rfl | rfl | rfl | rfl | rfl | rfl | rfl | rfl <;> first | exact stay_V _ | exact stay_T | exact stay_of (fun v a b x g=>x.keep g) | exact stay_of (fun v a b x g=>x)
  case hops =>
   refine ⟨opOK_rx [(2,none)] (by kernel_rfl) rfl ?_,?_⟩
   ·intro act w' hw' h1;obtain ⟨hk,hf⟩:=evkf act;generalize act.eval=ρ at *;replace h1:ρ (.tmp 2)=.pointer (some ⟨w.heap.size,0,none⟩):=h1.trans (by simp [Act.eval,q2]);refine gx_gen (fun K hK=>?_);obtain ⟨hc,hf'⟩:=bcell (bdrewn hw'.out);go_simp;exact hK _ _ ⟨rfl,Gr.refl _⟩
   refine ⟨opOK_rx [(17,some 0)] (by kernel_rfl) rfl ?_,?_⟩
   ·intro act w' hw' h1;obtain ⟨hk,hf⟩:=evkf act;generalize act.eval=ρ at *;replace h1:ρ (.tmp 17)=.pointer (some ⟨w.heap.size,0,none⟩):=h1;refine gx_gen (fun K hK=>?_);obtain ⟨hc,hf'⟩:=bcell (bdrewn hw'.out);go_simp;exact hK _ _ ⟨rfl,Gr.refl _⟩
   refine ⟨opOK_rx [(1,none)] (by kernel_rfl) rfl ?_,?_⟩
   ·intro act w' hw' h1;obtain ⟨hk,hf⟩:=evkf act;generalize act.eval=ρ at *;replace h1:ρ (.tmp 1)=.slice (some ⟨b2,off2,none⟩) n cb:=h1.trans (by simp [Act.eval,q1]);refine gx_gen (fun K hK=>?_);obtain ⟨hc,hf'⟩:=bcell (bdrewn hw'.out);go_simp;exact hK _ _ ⟨rfl,Gr.refl _⟩
   refine ⟨opOK_rx [(6,none)] (by kernel_rfl) rfl ?_,?_⟩
   ·intro act w' hw' h1;obtain ⟨hk,hf⟩:=evkf act;generalize act.eval=ρ at *;replace h1:ρ (.tmp 6)=.int .i64 (k:Int):=h1.trans (by simp [Act.eval,q6]);refine gx_gen (fun K hK=>?_);obtain ⟨hc,hf'⟩:=bcell (bdrewn hw'.out);go_simp;exact hK _ _ ⟨rfl,Gr.refl _⟩
   refine ⟨opOK_rx [(19,some 2),(20,some 3)] (by kernel_rfl) rfl ?_,?_⟩
   ·intro act w' hw' h1 h2;obtain ⟨hk,hf⟩:=evkf act;generalize act.eval=ρ at *;replace h1:ρ (.tmp 19)=.slice (some ⟨b2,off2,none⟩) n cb:=h1;replace h2:ρ (.tmp 20)=.int .i64 (k:Int):=h2;refine gx_gen (fun K hK=>?_);obtain ⟨hc,hf'⟩:=bcell (bdrewn hw'.out);go_simp;exact hK _ _ ⟨rfl,Gr.refl _⟩
   refine ⟨opOK_rx [(21,some 4)] (by kernel_rfl) rfl ?_,?_⟩
   ·intro act w' hw' h1;obtain ⟨hk,hf⟩:=evkf act;generalize act.eval=ρ at *;replace h1:ρ (.tmp 21)=.pointer (some ⟨b2,off2+k,none⟩):=h1;refine gx_gen (fun K hK=>?_);obtain ⟨hc,hf'⟩:=bcell (bdrewn hw'.out);go_simp;exact hK _ _ ⟨rfl,Gr.refl _⟩
   refine ⟨opOK_rx [(18,some 1),(22,some 5)] (by kernel_rfl) rfl ?_,?_⟩
   ·intro act w' hw' h1 h2;obtain ⟨hk,hf⟩:=evkf act;generalize act.eval=ρ at *;replace h1:ρ (.tmp 18)=.slice (some ⟨b,off,none⟩) R.length c:=h1;replace h2:ρ (.tmp 22)=.int .i64 (x:Int):=h2;refine gx_gen (fun K hK=>?_);obtain ⟨hc,hf'⟩:=bcell (bdrewn hw'.out);go_simp;exact hK _ _ ⟨rfl,Gr.refl _⟩
   refine ⟨opOK_rx [(23,some 6)] (by kernel_rfl) rfl ?_,?_⟩
   ·intro act w' hw' h1;obtain ⟨hk,hf⟩:=evkf act;generalize act.eval=ρ at *;replace h1:ρ (.tmp 23)=.pointer (some ⟨b,off+x*34,none⟩):=h1;refine gx_gen (fun K hK=>?_);obtain ⟨hc,hf'⟩:=bcell (bdrewn hw'.out);go_simp;exact hK _ _ ⟨rfl,Gr.refl _⟩
   refine ⟨opOK_rx [(24,some 7)] (by kernel_rfl) rfl ?_,?_⟩
   ·intro act w' hw' h1;obtain ⟨hk,hf⟩:=evkf act;generalize act.eval=ρ at *;replace h1:ρ (.tmp 24)=.pointer (some ⟨b,off+x*34+7,none⟩):=h1;refine gx_gen (fun K hK=>?_)
    simp only [execOp,h1,Instr.loadAt,Instr.sureAddr,Sem.run_bind,Sem.run_pure,Result.andThen_ok,run_loadVar_mid w' b (off+x*34+7) 78 (valsPk p.n.pk) _ (rangeB (node_pk HRP.out) ((bdrewn hw'.out).block b hbl1)) Tryz.underlying78 rfl inf_Pack];exact hK _ _ ⟨rfl,Gr.refl _⟩
   refine ⟨opOK_rx [] (by kernel_rfl) rfl ?_,?_⟩
   ·intro act w' hw';obtain ⟨hk,hf⟩:=evkf act;generalize act.eval=ρ at *;refine gx_gen (fun K hK=>?_);obtain ⟨z,hz,hr⟩:=run_allocK (P:=Tryz.prog) (T:=78) w' infz_Pack;simp only [execOp,Sem.run_bind,hr,Result.andThen_ok,Sem.run_pure];exact hK _ _ ⟨⟨_,z,rfl,(bdrewn hw'.out).size,newS _ _,hz⟩,Gr.alloc _ _⟩
   exact trivial
  case hfin =>
   intro w1 hg1;intro v17 t17;replace t17:v17=.pointer (some ⟨w.heap.size,0,none⟩):=t17;subst t17;intro v18 t18;replace t18:v18=.slice (some ⟨b,off,none⟩) R.length c:=t18;subst t18;intro v19 t19;replace t19:v19=.slice (some ⟨b2,off2,none⟩) n cb:=t19;subst t19;intro v20 t20;replace t20:v20=.int .i64 (k:Int):=t20;subst t20;intro v21 t21;replace t21:v21=.pointer (some ⟨b2,off2+k,none⟩):=t21;subst t21
   intro v22 t22;replace t22:v22=.int .i64 (x:Int):=t22;subst t22;intro v23 t23;replace t23:v23=.pointer (some ⟨b,off+x*34,none⟩):=t23;subst t23;intro v24 t24;replace t24:v24=.pointer (some ⟨b,off+x*34+7,none⟩):=t24;subst t24;intro v25 t25;replace t25:v25=.agg (valsPk p.n.pk).toArray:=t25;subst t25;intro v7 t7;replace t7:(fun v w=>BxZ w v W.heap.size 78 9) v7 w1:=t7;have hb1:=bdrewn hg1.out
   clear hg1;simp only [finP,List.take_succ_cons,List.take_zero,Act.put,List.setIfInBounds_toArray,List.set_cons_succ,List.set_cons_zero];obtain ⟨gx,z,rfl,hgx,hhx,hzx⟩:=t7
   refine wpAny_store 10 78 (.tmp 7) (.tmp 25) gx 0 (valsPk p.n.pk) (by kernel_rfl) (by kernel_rfl) (by kernel_rfl) (by simp [Act.eval,Act.put,hsz]) (by simp [Act.eval,Act.put,hsz]) (thereB hhx (by rw [hzx];show 0+9≤9;omega)) inf_Pack (valsPk_one _) ?_;simp only [Exit.then];refine hK.out _ _ ?_;clear hK K
   refine wp_abw (fun t' W'=>t'.size=44∧t'[1]?=some (.slice (some ⟨b2,off2,none⟩) n cb)∧t'[2]?=some (.pointer (some ⟨w.heap.size,0,none⟩))∧t'[5]?=some (v)∧t'[6]?=some (.int .i64 (k:Int))∧t'[7]?=some (.pointer (some ⟨gx,0,none⟩))∧W'.heap[gx]?=some (.cells (valsPk p.n.pk).toArray 78 (0,0))∧Below W.heap.size W W'∧W.heap.size≤gx) ⟨by simp [Act.put,hsz],by simp [Act.put,q1],by simp [Act.put,q2],by simp [Act.put,q5],by simp [Act.put,q6],by simp [Act.put,hsz],⟨full_set hhx hzx (valsPk p.n.pk) rfl,below_setCells hgx _ _ _ hb1,hgx⟩⟩ ?_
   clear hsz q1 l1 e1 q2 l2 e2 q5 l5 e5 q6 l6 e6 t x0 lx hbl1 hd2 cx z hhx hzx hgx hb1 hb2;rintro t W1 ⟨hsz,q1,q2,q5,q6,q7,hgp,hb2,hgx⟩;have HGP:=hD hgp;replace HO:=hD (own_bw HO.out hb2);replace HB:=hD (bkeep2 HB.out hb2);clear hb2 hgp;have y0:=cellS ((HB.out.block _ lxb).trans HXX.out) 0;have lx:w.heap.size<W1.heap.size:=Nat.lt_of_lt_of_le lxb HB.out.size
   have cy:W1.cell? ⟨b2,off2+k,none⟩=some (.int .i64 (x:Int)):=HCX.out W1 HB.out;have lb2:b2<W1.heap.size:=Nat.lt_of_lt_of_le HB2.out HB.out.size;obtain ⟨l1,e1⟩:=gE q1;obtain ⟨l2,e2⟩:=gE q2;obtain ⟨l5,e5⟩:=gE q5;obtain ⟨l6,e6⟩:=gE q6;obtain ⟨l7,e7⟩:=gE q7
   refine wp_seq_h fun K hK=>?_
   refine wp_region_any (by kernel_rfl) ?_
   refine wpAny_rxp 11 0 #[true,true,true,true,true,true,true,true,true,true,true] (by kernel_rfl) (by kernel_rfl) (XV (.agg #[.slice (some ⟨b,off,none⟩) R.length c]) :: XV (.slice (some ⟨b2,off2,none⟩) n cb) :: XV (.int .i64 (k:Int)) :: XV (.pointer (some ⟨b2,off2+k,none⟩)) :: XV (.int .i64 (x:Int)) :: XV (.tuple #[.int .i64 (g x).1,.int .i64 (g x).2]) :: XV (.tuple #[.int .i64 (g x).1,.int .i64 (g x).2]) :: XV (.int .i64 (g x).1) :: XV (.int .i64 (g x).2) :: XV (.int .i64 (g x).1) :: XV (.int .i64 (g x).2) :: []) (by show rgC _ t.size=true;rw [hsz];kernel_rfl) (by kernel_rfl) ?hTs ?hops ?hfin
   case hTs =>
    intro T hT;simp only [List.mem_cons,List.not_mem_nil,or_false] at hT
    rcases hT with rfl | rfl | rfl | rfl | rfl | rfl | rfl | rfl | rfl | rfl | rfl <;> first | exact stay_V _ | exact stay_T | exact stay_of (fun v a b x g=>x.keep g) | exact stay_of (fun v a b x g=>x)
   case hops =>
    refine ⟨opOK_rx [(2,none)] (by kernel_rfl) rfl ?_,?_⟩
    ·intro act w' hw' h1;obtain ⟨hk,hf⟩:=evkf act;generalize act.eval=ρ at *;replace h1:ρ (.tmp 2)=.pointer (some ⟨w.heap.size,0,none⟩):=h1.trans (by simp [Act.eval,q2]);refine gx_gen (fun K hK=>?_);obtain ⟨hc,hf'⟩:=bcell (bdrewn hw'.out);go_simp;exact hK _ _ ⟨rfl,Gr.refl _⟩
    refine ⟨opOK_rx [(1,none)] (by kernel_rfl) rfl ?_,?_⟩
    ·intro act w' hw' h1;obtain ⟨hk,hf⟩:=evkf act;generalize act.eval=ρ at *;replace h1:ρ (.tmp 1)=.slice (some ⟨b2,off2,none⟩) n cb:=h1.trans (by simp [Act.eval,q1]);refine gx_gen (fun K hK=>?_);obtain ⟨hc,hf'⟩:=bcell (bdrewn hw'.out);go_simp;exact hK _ _ ⟨rfl,Gr.refl _⟩
    refine ⟨opOK_rx [(6,none)] (by kernel_rfl) rfl ?_,?_⟩
    ·intro act w' hw' h1;obtain ⟨hk,hf⟩:=evkf act;generalize act.eval=ρ at *;replace h1:ρ (.tmp 6)=.int .i64 (k:Int):=h1.trans (by simp [Act.eval,q6]);refine gx_gen (fun K hK=>?_);obtain ⟨hc,hf'⟩:=bcell (bdrewn hw'.out);go_simp;exact hK _ _ ⟨rfl,Gr.refl _⟩
    refine ⟨opOK_rx [(28,some 1),(29,some 2)] (by kernel_rfl) rfl ?_,?_⟩
    ·intro act w' hw' h1 h2;obtain ⟨hk,hf⟩:=evkf act;generalize act.eval=ρ at *;replace h1:ρ (.tmp 28)=.slice (some ⟨b2,off2,none⟩) n cb:=h1;replace h2:ρ (.tmp 29)=.int .i64 (k:Int):=h2;refine gx_gen (fun K hK=>?_);obtain ⟨hc,hf'⟩:=bcell (bdrewn hw'.out);go_simp;exact hK _ _ ⟨rfl,Gr.refl _⟩
    refine ⟨opOK_rx [(30,some 3)] (by kernel_rfl) rfl ?_,?_⟩
    ·intro act w' hw' h1;obtain ⟨hk,hf⟩:=evkf act;generalize act.eval=ρ at *;replace h1:ρ (.tmp 30)=.pointer (some ⟨b2,off2+k,none⟩):=h1;refine gx_gen (fun K hK=>?_);obtain ⟨hc,hf'⟩:=bcell (bdrewn hw'.out);go_simp;exact hK _ _ ⟨rfl,Gr.refl _⟩
    refine ⟨opOK_rx [(27,some 0),(31,some 4)] (by kernel_rfl) rfl ?_,?_⟩
    ·intro act w' hw' h1 h2;obtain ⟨hk,hf⟩:=evkf act;generalize act.eval=ρ at *;replace h1:ρ (.tmp 27)=.agg #[.slice (some ⟨b,off,none⟩) R.length c]:=h1;replace h2:ρ (.tmp 31)=.int .i64 (x:Int):=h2;refine gx_gen (fun K hK=>?_);obtain ⟨hc,hf'⟩:=bcell (bdrewn hw'.out);go_simp
     (refine (HS1.out _ (bkeep2 (bkeep2 HB0.out HB.out) (bdrewn hw'.out))).mono ?_);rintro e w1 ⟨rfl,hb1⟩;exact ⟨_,rfl,hK _ _ ⟨rfl,hb1⟩⟩
    refine ⟨opOK_rx [(32,some 5)] (by kernel_rfl) rfl ?_,?_⟩
    ·intro act w' hw' h1;obtain ⟨hk,hf⟩:=evkf act;generalize act.eval=ρ at *;replace h1:ρ (.tmp 32)=.tuple #[.int .i64 (g x).1,.int .i64 (g x).2]:=h1;refine gx_gen (fun K hK=>?_);obtain ⟨hc,hf'⟩:=bcell (bdrewn hw'.out);go_simp;exact hK _ _ ⟨rfl,Gr.refl _⟩
    refine ⟨opOK_rx [(26,some 6)] (by kernel_rfl) rfl ?_,?_⟩
    ·intro act w' hw' h1;obtain ⟨hk,hf⟩:=evkf act;generalize act.eval=ρ at *;replace h1:ρ (.tmp 26)=.tuple #[.int .i64 (g x).1,.int .i64 (g x).2]:=h1;refine gx_gen (fun K hK=>?_);obtain ⟨hc,hf'⟩:=bcell (bdrewn hw'.out);go_simp;exact hK _ _ ⟨rfl,Gr.refl _⟩
    refine ⟨opOK_rx [(26,some 6)] (by kernel_rfl) rfl ?_,?_⟩
    ·intro act w' hw' h1;obtain ⟨hk,hf⟩:=evkf act;generalize act.eval=ρ at *;replace h1:ρ (.tmp 26)=.tuple #[.int .i64 (g x).1,.int .i64 (g x).2]:=h1;refine gx_gen (fun K hK=>?_);obtain ⟨hc,hf'⟩:=bcell (bdrewn hw'.out);go_simp;exact hK _ _ ⟨rfl,Gr.refl _⟩
    refine ⟨opOK_rx [(33,some 7)] (by kernel_rfl) rfl ?_,?_⟩
    ·intro act w' hw' h1;obtain ⟨hk,hf⟩:=evkf act;generalize act.eval=ρ at *;replace h1:ρ (.tmp 33)=.int .i64 (g x).1:=h1;refine gx_gen (fun K hK=>?_);obtain ⟨hc,hf'⟩:=bcell (bdrewn hw'.out);go_simp;exact hK _ _ ⟨rfl,Gr.refl _⟩
    refine ⟨opOK_rx [(34,some 8)] (by kernel_rfl) rfl ?_,?_⟩
    ·intro act w' hw' h1;obtain ⟨hk,hf⟩:=evkf act;generalize act.eval=ρ at *;replace h1:ρ (.tmp 34)=.int .i64 (g x).2:=h1;refine gx_gen (fun K hK=>?_);obtain ⟨hc,hf'⟩:=bcell (bdrewn hw'.out);go_simp;exact hK _ _ ⟨rfl,Gr.refl _⟩
    exact trivial
   case hfin =>
    intro w2 hg2;intro v27 t27;replace t27:v27=.agg #[.slice (some ⟨b,off,none⟩) R.length c]:=t27;subst t27;intro v28 t28;replace t28:v28=.slice (some ⟨b2,off2,none⟩) n cb:=t28;subst t28;intro v29 t29;replace t29:v29=.int .i64 (k:Int):=t29;subst t29;intro v30 t30;replace t30:v30=.pointer (some ⟨b2,off2+k,none⟩):=t30;subst t30;intro v31 t31;replace t31:v31=.int .i64 (x:Int):=t31;subst t31
    intro v32 t32;replace t32:v32=.tuple #[.int .i64 (g x).1,.int .i64 (g x).2]:=t32;subst t32;intro v26 t26;replace t26:v26=.tuple #[.int .i64 (g x).1,.int .i64 (g x).2]:=t26;subst t26;intro v33 t33;replace t33:v33=.int .i64 (g x).1:=t33;subst t33;intro v34 t34;replace t34:v34=.int .i64 (g x).2:=t34;subst t34;intro v8 t8;replace t8:v8=.int .i64 (g x).1:=t8;subst t8;intro v9 t9
    replace t9:v9=.int .i64 (g x).2:=t9;subst t9;have hb2:=bdrewn hg2.out;clear hg2;simp only [finP,List.take_succ_cons,List.take_zero,Act.put,List.setIfInBounds_toArray,List.set_cons_succ,List.set_cons_zero];refine wpAny_end (by kernel_rfl) ?_;simp only [Exit.then];refine hK.out _ _ ?_;clear hK K y0 cy
    refine wp_abw (fun t' W'=>t'.size=44∧t'[1]?=some (.slice (some ⟨b2,off2,none⟩) n cb)∧t'[2]?=some (.pointer (some ⟨w.heap.size,0,none⟩))∧t'[5]?=some (v)∧t'[6]?=some (.int .i64 (k:Int))∧t'[7]?=some (.pointer (some ⟨gx,0,none⟩))∧t'[8]?=some (.int .i64 (g x).1)∧t'[9]?=some (.int .i64 (g x).2)∧W'.heap[gx]?=some (.cells (valsPk p.n.pk).toArray 78 (0,0))∧Below W1.heap.size W1 W') ⟨by simp [Act.put,hsz],by simp [Act.put,q1],by simp [Act.put,q2],by simp [Act.put,q5],by simp [Act.put,q6],by simp [Act.put,q7],by simp [Act.put,hsz],by simp [Act.put,hsz],⟨(hb2.block _ (ltS HGP.out)).trans HGP.out,hb2⟩⟩ ?_
    clear hsz q1 l1 e1 q2 l2 e2 q5 l5 e5 q6 l6 e6 q7 l7 e7 t hb2;rintro t W2 ⟨hsz,q1,q2,q5,q6,q7,q8,q9,hgp,hb2⟩;replace HO:=hD (own_bw HO.out hb2);replace HB:=hD (bkeep2 HB.out hb2);clear hb2 lx lb2 HGP;have fz0:=frozenS hgp 0;obtain ⟨y1,z1⟩:=thereS hgp (i:=0) (by show 0<9;omega);have lgx:=ltS hgp;obtain ⟨l1,e1⟩:=gE q1;obtain ⟨l2,e2⟩:=gE q2;obtain ⟨l5,e5⟩:=gE q5;obtain ⟨l6,e6⟩:=gE q6
    obtain ⟨l7,e7⟩:=gE q7;obtain ⟨l8,e8⟩:=gE q8;obtain ⟨l9,e9⟩:=gE q9
    refine wp_seq_h fun K hK=>?_
    apply wp_region_lit
    repeat (first | go_step)
    refine hK.out _ _ ?_;clear hK K
    refine wp_abw (fun t' W'=>t'.size=44∧t'[1]?=some (.slice (some ⟨b2,off2,none⟩) n cb)∧t'[2]?=some (.pointer (some ⟨w.heap.size,0,none⟩))∧t'[5]?=some (v)∧t'[6]?=some (.int .i64 (k:Int))∧t'[7]?=some (.pointer (some ⟨gx,0,none⟩))∧t'[8]?=some (.int .i64 (g x).1)∧t'[9]?=some (.int .i64 (g x).2)∧W'.heap[gx]?=some (.cells ((valsPk p.n.pk).toArray.setIfInBounds 0 (.int .i64 (g x).1)) 78 (0,0))∧W2.grownBy W' (some gx)) ⟨by simp [Act.put,hsz],by simp [Act.put,q1],by simp [Act.put,q2],by simp [Act.put,q5],by simp [Act.put,q6],by simp [Act.put,q7],by simp [Act.put,q8],by simp [Act.put,q9],⟨putS hgp _,gsetS (greflS _ gx) _ _⟩⟩ ?_
    clear hsz q1 l1 e1 q2 l2 e2 q5 l5 e5 q6 l6 e6 q7 l7 e7 q8 l8 e8 q9 l9 e9 t fz0 z1 y1 lgx;rintro t W3 ⟨hsz,q1,q2,q5,q6,q7,q8,q9,hgp3,hgr3⟩;have fz0:=frozenS hgp3 1;obtain ⟨y1,z1⟩:=thereS hgp3 (i:=1) (by show 1<9;omega);have lgx:=ltS hgp3;obtain ⟨l1,e1⟩:=gE q1;obtain ⟨l2,e2⟩:=gE q2;obtain ⟨l5,e5⟩:=gE q5;obtain ⟨l6,e6⟩:=gE q6;obtain ⟨l7,e7⟩:=gE q7;obtain ⟨l8,e8⟩:=gE q8;obtain ⟨l9,e9⟩:=gE q9
    refine wp_seq_h fun K hK=>?_
    apply wp_region_lit
    repeat (first | go_step)
    refine hK.out _ _ ?_;clear hK K
    refine wp_abw (fun t' W'=>t'.size=44∧t'[1]?=some (.slice (some ⟨b2,off2,none⟩) n cb)∧t'[2]?=some (.pointer (some ⟨w.heap.size,0,none⟩))∧t'[5]?=some (v)∧t'[6]?=some (.int .i64 (k:Int))∧t'[7]?=some (.pointer (some ⟨gx,0,none⟩))∧t'[8]?=some (.int .i64 (g x).1)∧t'[9]?=some (.int .i64 (g x).2)∧W'.heap[gx]?=some (.cells (valsPk (pkOf p.n (g x))).toArray 78 (0,0))∧W2.grownBy W' (some gx)) ⟨by simp [Act.put,hsz],by simp [Act.put,q1],by simp [Act.put,q2],by simp [Act.put,q5],by simp [Act.put,q6],by simp [Act.put,q7],by simp [Act.put,q8],by simp [Act.put,q9],⟨putS hgp3 _,gsetS hgr3 _ _⟩⟩ ?_
    clear hsz q1 l1 e1 q2 l2 e2 q5 l5 e5 q6 l6 e6 q7 l7 e7 q8 l8 e8 q9 l9 e9 t fz0 z1 y1 lgx hgp3 hgr3;rintro t W4 ⟨hsz,q1,q2,q5,q6,q7,q8,q9,hgp4,hgr4⟩;have hgxb:Wb.heap.size≤gx:=Nat.le_trans HBW.out hgx
    have hne:∀ k,v.ownBlock=some k→k<gx:=fun k e=>Nat.lt_of_lt_of_le (HOL.out k e) hgx
    have HO4:=hD (own_other HO.out hgr4 (fun e=>absurd (hne _ e) (Nat.lt_irrefl _)));have HB4:=hD (below_grownW HB.out hgr4 hgxb HB.out.size);clear HO HB hgr4 hgp;have HR:=hD (show W4.rangeAt gx 0 (valsPk (pkOf p.n (g x))) from fun j v hj=>by rw [Nat.zero_add];exact (cellS hgp4 j).trans (by simpa using hj));have hob:∀ b,v.ownBlock=some b→Wb.heap.size≤b∧b<W4.heap.size:=HO4.out.lt
    have hw4:Wb.heap.size≤W4.heap.size:=HB4.out.size;obtain ⟨l1,e1⟩:=gE q1;obtain ⟨l2,e2⟩:=gE q2;obtain ⟨l5,e5⟩:=gE q5;obtain ⟨l6,e6⟩:=gE q6;obtain ⟨l7,e7⟩:=gE q7;obtain ⟨l8,e8⟩:=gE q8;obtain ⟨l9,e9⟩:=gE q9;apply wp_region_lit
    repeat (first | ((with_reducible show wpList _ _ _ _ _ _);refine ldK 78 _ [.int .i64 (g x).1,.int .i64 (g x).2,.int .i64 p.n.pk.s,.bool p.n.pk.fx,.bool p.n.pk.fy,.bool p.n.pk.ex,.int .i64 p.n.pk.an,.int .i64 p.n.pk.px,.int .i64 p.n.pk.py] gx 0 rfl rfl HR.out Tryz.underlying78 rfl inf_Pack (by simp [Act.eval,Act.put,hsz,e7]) ?_) | ((with_reducible show wpList _ _ _ _ _ _);refine wpList_append_own _ rfl _ _ 118 rfl Wb.heap.size 78 ti tz 9 56 Tryz.underlying118 ti1 ti2 ti3 ti4 ti5 (by decide) v _ _ (by simp [Act.eval,Act.put,hsz,e5]) (HO4.out.alloc _) ⟨W4.heap.size,0,none⟩ 1 1 (valsPk (pkOf p.n (g x))) (by simp [Act.eval,Act.put,hsz]) rfl (newK _ (valsPk (pkOf p.n (g x))) _) (valsPk_one _) (by simp only [maxLen];omega) (by omega) (by simp;omega) ?_) | go_step)
    intro v5 w5 how5 hgr5 _;have hb5:=below_own HB4.out hgr5 hob (Nat.le_refl _) (Nat.le_refl _);rw [show ((pksF (R.map Nr.n) g (ks.take k)).map valsPk).flatten ++ valsPk (pkOf p.n (g x))=((pksF (R.map Nr.n) g (ks.take (k+1))).map valsPk).flatten by rw [HSN.out,List.map_append,List.flatten_append];simp] at how5
    repeat go_step
    try simp only [Exit.inBlock]
    refine hKB.out _ _ ?_;clear hKB KB;refine wp_abw (fun t' W'=>t'.size=44∧t'[1]?=some (.slice (some ⟨b2,off2,none⟩) n cb)∧t'[2]?=some (.pointer (some ⟨w.heap.size,0,none⟩))∧t'[5]?=some (v5)∧t'[6]?=some (.int .i64 (k:Int))∧w5=W') ⟨by simp [Act.put,hsz],by simp [Act.put,q1],by simp [Act.put,q2],by simp [Act.put,hsz],by simp [Act.put,q6],rfl⟩ ?_
    clear hsz q1 l1 e1 q2 l2 e2 q5 l5 e5 q6 l6 e6 q7 l7 e7 q8 l8 e8 q9 l9 e9 t hob hw4 hgxb hne HR hgp4;rintro t _ ⟨hsz,q1,q2,q5,q6,rfl⟩;obtain ⟨l1,e1⟩:=gE q1;obtain ⟨l2,e2⟩:=gE q2;obtain ⟨l5,e5⟩:=gE q5;obtain ⟨l6,e6⟩:=gE q6;apply wp_region_lit
    repeat go_step
    try simp only [Exit.then]
    refine ⟨⟨_,k+1,v5,rfl,by omega,by simp [hsz],by simp [q1],by simp [q2],by simp [q5],by simp [hsz],how5,hb5⟩,?_⟩
    ·simp [hsz,intOf]
     omega
 ·have hd:decide ((k:Int)<(n:Int))=false:=decide_eq_false (by omega)
  refine wp_seq_h fun K1 hK1=>?_
  obtain ⟨l1,e1⟩:=gE q1;obtain ⟨l2,e2⟩:=gE q2;obtain ⟨l5,e5⟩:=gE q5;obtain ⟨l6,e6⟩:=gE q6
  refine wp_seq_h fun K hK=>?_
  apply wp_region_lit
  repeat (first | go_step)
  refine hK.out _ _ ?_;clear hK K;refine wp_abw (fun t' W'=>t'.size=44∧t'[1]?=some (.slice B n cb)∧t'[2]?=some (.pointer (some ⟨w.heap.size,0,none⟩))∧t'[5]?=some (v)∧t'[6]?=some (.int .i64 (k:Int))∧t'[14]?=some (.bool false)∧W=W') ⟨by simp [Act.put,hsz],by simp [Act.put,q1],by simp [Act.put,q2],by simp [Act.put,q5],by simp [Act.put,q6],by simp [Act.put,hsz,hd],rfl⟩ ?_
  clear hsz q1 l1 e1 q2 l2 e2 q5 l5 e5 q6 l6 e6 t;rintro t _ ⟨hsz,q1,q2,q5,q6,q14,rfl⟩;refine wp_cond_false (by simp [Act.eval,q14]) ?_;apply wp_exit;simp only [Exit.then,Exit.inBlock,if_true];refine hKE.out _ _ ?_;clear hd
  obtain rfl:k=n:=by omega
  have hall:ks.take k=ks:=List.take_of_length_le (by rw [HNK.out];exact Nat.le_refl _);have hO:=HO.out;rw [hall] at hO
  have hlen:k=((pksF (R.map Nr.n) g ks).map valsPk).length:=by
   have:=pksF_take_len (L:=R.map Nr.n) (g:=g) (ks:=ks) (by simpa using HKS.out) k (by rw [HNK.out];exact Nat.le_refl _)
   rw [hall] at this;rw [List.length_map,this]
  obtain ⟨A',c',hv,hrv,hcn⟩:=own_rvK hO hlen (fun vs hv=>by obtain ⟨q,_,rfl⟩:=List.mem_map.1 hv;rfl);have HRV:=hD hrv;have HCN:=hD hcn;have HV:=hD hv;clear hO hlen hall hrv hv hcn;obtain ⟨l1,e1⟩:=gE q1;obtain ⟨l2,e2⟩:=gE q2;obtain ⟨l5,e5⟩:=gE q5;obtain ⟨l6,e6⟩:=gE q6;obtain ⟨l14,e14⟩:=gE q14
  repeat go_step
  refine bodyPost_ret (results_tmp rfl _ _ _) rfl ?_;exact ⟨⟨A',c',by simp [hsz,HV.out],pv_of HRV.out,HCN.out⟩,bkeep2 HB0.out HB.out⟩
end
end Go.Proofs.YtenckjdiggaonaaGreat
