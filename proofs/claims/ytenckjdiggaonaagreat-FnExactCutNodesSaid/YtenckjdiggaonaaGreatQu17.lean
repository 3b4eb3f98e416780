import Derived.Test.YtenckjdiggaonaaGreatQu16
set_option linter.unusedVariables false
set_option linter.unusedSimpArgs false
set_option maxRecDepth 100000
set_option maxHeartbeats 16000000
namespace Go.Proofs.YtenckjdiggaonaaGreat
open Go.RowKit
attribute [local go_sem] growUpon_value growUpon_skip growUpon_enter
section
attribute [local go_sem] givesUpon_value givesUpon_skip givesUpon_enter
theorem cesF_snoc {L:List Nd} {g:Nat→Int × Int} {ks:List Nat} {k x:Nat} {m:Nd} (h:ks[k]?=some x) (hm:L[x]?=some m):cesF L g (ks.take (k+1))=cesF L g (ks.take k) ++ [ceOf m (g x)]:=by
 obtain ⟨hk,e⟩:=List.getElem?_eq_some_iff.1 h;unfold cesF;rw [List.take_succ_eq_append_getElem hk,e,List.filterMap_append]
 simp [hm]
theorem cesF_take_len {L:List Nd} {g:Nat→Int × Int} {ks:List Nat} (hk:∀ x ∈ ks,x<L.length):∀ k,k≤ks.length→(cesF L g (ks.take k)).length=k:=by
 intro k
 induction k with
 | zero=>intro _;simp [cesF]
 | succ k ih =>
  intro h;have e:ks[k]?=some ks[k]:=List.getElem?_eq_getElem (by omega);have hlt:ks[k]'(by omega)<L.length:=hk _ (List.getElem_mem (by omega));have em:L[ks[k]'(by omega)]?=some (L[ks[k]'(by omega)]'hlt):=List.getElem?_eq_getElem hlt;rw [cesF_snoc e em,List.length_append,ih (by omega)]
  rfl
def Bl1 (g:Nat) (w w':World):Prop:=w.grownBy w' (some g)
theorem Bl1.refl (g:Nat) (w:World):Bl1 g w w:=greflS w g
theorem Bl1.below {g:Nat} {a w w':World} (h:Bl1 g a w) (hb:Below w.heap.size w w'):Bl1 g a w' :=
 ⟨hb.os.trans h.os,hb.tape.trans h.tape,hb.output.trans h.output,Nat.le_trans h.size hb.size,fun k hk hn=>(hb.block k (Nat.lt_of_lt_of_le hk h.size)).trans (h.block k hk hn)⟩
theorem Bl1.grown {g x:Nat} {a w w':World} (h:Bl1 g a w) (hg:w.grownBy w' (some x)) (hx:a.heap.size≤x):Bl1 g a w' :=
 ⟨hg.os.trans h.os,hg.tape.trans h.tape,hg.output.trans h.output,Nat.le_trans h.size hg.size,fun k hk hn=>(hg.block k (Nat.lt_of_lt_of_le hk h.size) (fun e=>by have:=Option.some.inj e;omega)).trans (h.block k hk hn)⟩
theorem Bl1.set {g:Nat} {a w:World} (h:Bl1 g a w) (o:Nat) (v:Value):Bl1 g a (w.setCell ⟨g,o,none⟩ v):=gsetS h o v
theorem Bl1.own {g:Nat} {a w w':World} {v:Value} {o:Obj} (h:Bl1 g a w) (hg:(w.alloc o).grownBy w' v.ownBlock) (hv:∀ k,v.ownBlock=some k→a.heap.size≤k):Bl1 g a w':=by
 have h2:=h.below (w':=w.alloc o) (balloc (Below.refl _ _));exact ⟨hg.os.trans h2.os,hg.tape.trans h2.tape,hg.output.trans h2.output,Nat.le_trans h2.size hg.size,fun k hk hn=>(hg.block k (Nat.lt_of_lt_of_le hk h2.size) (fun e=>by have:=hv k e.symm;omega)).trans (h2.block k hk hn)⟩
theorem Bl1.toB {g:Nat} {a w z:World} (h:Bl1 g a w) (hz:Below z.heap.size z a) (hg:z.heap.size≤g):Below z.heap.size z w:=below_grownW hz h hg hz.size
theorem own_shape {w:World} {base k n:Nat} {T:TypeId} {v:Value} {xs:List Value} (h:w.ownsRow base T k v n xs):∃ A c,v=.slice A n c:=by
 rcases h.2 with ⟨rfl,h0⟩ | ⟨g,cap,cur,rfl,_⟩
 ·exact ⟨none,0,by rw [h0]⟩
 ·exact ⟨_,_,rfl⟩
def gridAg (p:Nr) (v:Value):List Value:=[.slice p.ca p.n.cs.length p.cc,.slice p.ra p.n.rs.length p.rc,v]
theorem gridAg_one (p:Nr) (A:Option Addr) (n c:Nat):one (gridAg p (.slice A n c)):=by
 intro v hv;simp only [gridAg,List.mem_cons,List.not_mem_nil,or_false] at hv
 rcases hv with rfl | rfl | rfl <;> rfl
theorem inf_Grid:(Tryz.prog.info? 123).map (·.size)=some 3:=by kernel_rfl
theorem infz_Grid:∃ i z,Tryz.prog.info? 123=some i∧i.zero=some z∧z.cells.size=3:=info_z (by kernel_rfl)
theorem gridOf_v (A:Option Addr) (c:Nat) (R:List Nr) (i:Nat) (p0:Nr) (ks:List Nat) (B:Option Addr) (cb n:Nat) (g:Nat→Int × Int) (w:World) (h:NrV w A R) (hi:R[i]?=some p0) (hL:R.length≤1048576) (hB:NV w B (ks.map fun (k:Nat)=>(k:Int))) (hn:n=ks.length) (hn2:n≤1048576) (hk:∀ k ∈ ks,k<R.length)
  (hS:∀ k ∈ ks,∀ W,Below w.heap.size w W→Calls Tryz.prog 55 #[.agg #[.slice A R.length c],.int .i64 (k:Int)] W fun e W'=>e=.returned (.tuple #[.int .i64 (g k).1,.int .i64 (g k).2])∧Below W.heap.size W W') :
  Calls Tryz.prog 98 #[.agg #[.slice A R.length c],.int .i64 (i:Int),.slice B n cb] w fun e w'=>(∃ A' c',e=.returned (.agg (gridAg p0 (.slice A' n c')).toArray)∧CeV w' A' (cesF (R.map Nr.n) g ks))∧Below w.heap.size w w':=by
 obtain ⟨ti,tz,ti1,ti2,ti3,ti4,ti5⟩:=info_own (P:=Tryz.prog) (T:=80) (k:=9) (b:=72) (by kernel_rfl);have hil:=(List.getElem?_eq_some_iff.1 hi).1;obtain ⟨b,off,rfl,hb,hc⟩:=h.cells (by omega);have HC:=hD hc;have HI:=hD hi;have HS:=hD hS;have HKS:=hD hk;have HN:=hD hB;have hnk:=hn;have HNK:=hD hnk
 have hdi:(i:Int)<(R.length:Int):=by omega
 have HN0:=hD hB;have HC0:=hD hc;have hb0w:=hb;clear hc h hS hk hB hn hnk hi;refine calls_abs Tryz.func98 rfl 60 (by simp only [Tryz.ntmps98]) (by simp) (fun t hsz hargs=>?_);have q0:t[0]?=some (.agg #[.slice (some ⟨b,off,none⟩) R.length c]):=get_of (by omega) (hargs 0 _ rfl);have q1:t[1]?=some (.int .i64 (i:Int)):=get_of (by omega) (hargs 1 _ rfl)
 have q2:t[2]?=some (.slice B n cb):=get_of (by omega) (hargs 2 _ rfl);clear hargs;obtain ⟨l0,e0⟩:=gE q0;obtain ⟨l1,e1⟩:=gE q1;obtain ⟨l2,e2⟩:=gE q2
 refine wp_seq_h fun K hK=>?_
 apply wp_region_lit
 repeat (first | ((with_reducible show wpList _ _ _ _ _ _);refine allocK 123 3 rfl rfl infz_Grid (fun z hz=>?_)) | go_step)
 refine hK.out _ _ ?_;clear hK K
 refine wp_abw (fun t' W'=>t'.size=60∧t'[1]?=some (.int .i64 (i:Int))∧t'[2]?=some (.slice B n cb)∧t'[3]?=some (.pointer (some ⟨w.heap.size,0,none⟩))∧t'[6]?=some (.pointer (some ⟨w.heap.size+1,0,none⟩))∧W'.heap[w.heap.size]?=some (.cells #[.slice (some ⟨b,off,none⟩) R.length c] 30 (0,0))∧(∃ z:Array Value,W'.heap[w.heap.size+1]?=some (.cells z 123 (0,0))∧z.size=3)∧Below w.heap.size w W') ⟨by simp [Act.put,hsz],by simp [Act.put,q1],by simp [Act.put,q2],by simp [Act.put,hsz],by simp [Act.put,hsz],⟨(Below.heap_alloc _ _ _ (by simp)).trans (newS _ _),⟨z,by have:=newS (w.alloc (.cells #[.slice (some ⟨b,off,none⟩) R.length c] 30)) (.cells z 123);simpa using this,hz⟩,(balloc (Below.refl _ _)).trans ((balloc (Below.refl _ _)).mono (by simp))⟩⟩ ?_
 clear hsz q0 l0 e0 q1 l1 e1 q2 l2 e2 t z hz;rintro t Wa ⟨hsz,q1,q2,q3,q6,HX,⟨z6,HZ,hz6⟩,hB0⟩;have HXX:=hD HX;have HZZ:=hD HZ;have HB0:=hD hB0;replace HC:=hD (show ∀ k p,R[k]?=some p→Wa.rangeAt b (off+k*34) (valsNr p) from fun k p hk=>rangeB (HC.out k p hk) (hB0.block b hb));replace HN:=hD (HN.out.keep hB0);have hbl:b<Wa.heap.size:=Nat.lt_of_lt_of_le hb hB0.size
 have lxa:w.heap.size<Wa.heap.size:=ltS HX;have lza:w.heap.size+1<Wa.heap.size:=ltS HZ;have x0:=cellS HX 0;have c5:=HC.out i p0 HI.out 5 _ rfl;have c6:=HC.out i p0 HI.out 6 _ rfl;clear HX HZ hB0 hb;obtain ⟨l1,e1⟩:=gE q1;obtain ⟨l2,e2⟩:=gE q2;obtain ⟨l3,e3⟩:=gE q3;obtain ⟨l6,e6⟩:=gE q6
 refine wp_seq_h fun K hK=>?_
 refine wp_region_any (by kernel_rfl) ?_
 refine wpAny_rxp 14 1 #[true,true,true,true,true,true,true,true,true,true,true,true,true,true,false] (by kernel_rfl) (by kernel_rfl) (XV (.pointer (some ⟨w.heap.size,0,none⟩)) :: XV (.slice (some ⟨b,off,none⟩) R.length c) :: XV (.int .i64 (i:Int)) :: XV (.pointer (some ⟨b,off+i*34,none⟩)) :: XV (.pointer (some ⟨b,off+i*34+5,none⟩)) :: XV (.slice p0.ca p0.n.cs.length p0.cc) :: XV (.pointer (some ⟨w.heap.size,0,none⟩)) :: XV (.slice (some ⟨b,off,none⟩) R.length c) :: XV (.int .i64 (i:Int)) :: XV (.pointer (some ⟨b,off+i*34,none⟩)) :: XV (.pointer (some ⟨b,off+i*34+6,none⟩)) :: XV (.slice p0.ra p0.n.rs.length p0.rc) :: XV (.agg (gridAg p0 (.slice none 0 0)).toArray) :: (fun v w=>BxZ w v Wa.heap.size 123 3) :: []) (by show rgC _ t.size=true;rw [hsz];kernel_rfl) (by kernel_rfl) ?hTs ?hops ?hfin
 case hTs =>
  intro T hT;simp only [List.mem_cons,List.not_mem_nil,or_false] at hT
  rcases hT with rfl | rfl | rfl | rfl | rfl | rfl | rfl | rfl | rfl | rfl | rfl | rfl | rfl | rfl <;> first | exact stay_V _ | exact stay_T | exact stay_of (fun v a b x g=>x.keep g) | exact stay_of (fun v a b x g=>x)
 case hops =>
  refine ⟨opOK_rx [(3,none)] (by kernel_rfl) rfl ?_,?_⟩
  ·intro act w' hw' h1;obtain ⟨hk,hf⟩:=evkf act;generalize act.eval=ρ at *;replace h1:ρ (.tmp 3)=.pointer (some ⟨w.heap.size,0,none⟩):=h1.trans (by simp [Act.eval,q3]);refine gx_gen (fun K hK=>?_);obtain ⟨hc,hf'⟩:=bcell (bdrewn hw'.out);go_simp;exact hK _ _ ⟨rfl,Gr.refl _⟩
  refine ⟨opOK_rx [(12,some 0)] (by kernel_rfl) rfl ?_,?_⟩
  ·intro act w' hw' h1;obtain ⟨hk,hf⟩:=evkf act;generalize act.eval=ρ at *;replace h1:ρ (.tmp 12)=.pointer (some ⟨w.heap.size,0,none⟩):=h1;refine gx_gen (fun K hK=>?_);obtain ⟨hc,hf'⟩:=bcell (bdrewn hw'.out);go_simp;exact hK _ _ ⟨rfl,Gr.refl _⟩
  refine ⟨opOK_rx [(1,none)] (by kernel_rfl) rfl ?_,?_⟩
  ·intro act w' hw' h1;obtain ⟨hk,hf⟩:=evkf act;generalize act.eval=ρ at *;replace h1:ρ (.tmp 1)=.int .i64 (i:Int):=h1.trans (by simp [Act.eval,q1]);refine gx_gen (fun K hK=>?_);obtain ⟨hc,hf'⟩:=bcell (bdrewn hw'.out);go_simp;exact hK _ _ ⟨rfl,Gr.refl _⟩
  refine ⟨opOK_rx [(13,some 1),(14,some 2)] (by kernel_rfl) rfl ?_,?_⟩
  ·intro act w' hw' h1 h2;obtain ⟨hk,hf⟩:=evkf act;generalize act.eval=ρ at *;replace h1:ρ (.tmp 13)=.slice (some ⟨b,off,none⟩) R.length c:=h1;replace h2:ρ (.tmp 14)=.int .i64 (i:Int):=h2;refine gx_gen (fun K hK=>?_);obtain ⟨hc,hf'⟩:=bcell (bdrewn hw'.out);go_simp;exact hK _ _ ⟨rfl,Gr.refl _⟩
  refine ⟨opOK_rx [(15,some 3)] (by kernel_rfl) rfl ?_,?_⟩
  ·intro act w' hw' h1;obtain ⟨hk,hf⟩:=evkf act;generalize act.eval=ρ at *;replace h1:ρ (.tmp 15)=.pointer (some ⟨b,off+i*34,none⟩):=h1;refine gx_gen (fun K hK=>?_);obtain ⟨hc,hf'⟩:=bcell (bdrewn hw'.out);go_simp;exact hK _ _ ⟨rfl,Gr.refl _⟩
  refine ⟨opOK_rx [(16,some 4)] (by kernel_rfl) rfl ?_,?_⟩
  ·intro act w' hw' h1;obtain ⟨hk,hf⟩:=evkf act;generalize act.eval=ρ at *;replace h1:ρ (.tmp 16)=.pointer (some ⟨b,off+i*34+5,none⟩):=h1;refine gx_gen (fun K hK=>?_);obtain ⟨hc,hf'⟩:=bcell (bdrewn hw'.out);go_simp;exact hK _ _ ⟨rfl,Gr.refl _⟩
  refine ⟨opOK_rx [(3,none)] (by kernel_rfl) rfl ?_,?_⟩
  ·intro act w' hw' h1;obtain ⟨hk,hf⟩:=evkf act;generalize act.eval=ρ at *;replace h1:ρ (.tmp 3)=.pointer (some ⟨w.heap.size,0,none⟩):=h1.trans (by simp [Act.eval,q3]);refine gx_gen (fun K hK=>?_);obtain ⟨hc,hf'⟩:=bcell (bdrewn hw'.out);go_simp;exact hK _ _ ⟨rfl,Gr.refl _⟩
  refine ⟨opOK_rx [(18,some 6)] (by kernel_rfl) rfl ?_,?_⟩
  ·intro act w' hw' h1;obtain ⟨hk,hf⟩:=evkf act;generalize act.eval=ρ at *;replace h1:ρ (.tmp 18)=.pointer (some ⟨w.heap.size,0,none⟩):=h1;refine gx_gen (fun K hK=>?_);obtain ⟨hc,hf'⟩:=bcell (bdrewn hw'.out);go_simp;exact hK _ _ ⟨rfl,Gr.refl _⟩
  refine ⟨opOK_rx [(1,none)] (by kernel_rfl) rfl ?_,?_⟩
  ·intro act w' hw' h1;obtain ⟨hk,hf⟩:=evkf act;generalize act.eval=ρ at *;replace h1:ρ (.tmp 1)=.int .i64 (i:Int):=h1.trans (by simp [Act.eval,q1]);refine gx_gen (fun K hK=>?_);obtain ⟨hc,hf'⟩:=bcell (bdrewn hw'.out);go_simp;exact hK _ _ ⟨rfl,Gr.refl _⟩
  refine ⟨opOK_rx [(19,some 7),(20,some 8)] (by kernel_rfl) rfl ?_,?_⟩
  ·intro act w' hw' h1 h2;obtain ⟨hk,hf⟩:=evkf act;generalize act.eval=ρ at *;replace h1:ρ (.tmp 19)=.slice (some ⟨b,off,none⟩) R.length c:=h1;replace h2:ρ (.tmp 20)=.int .i64 (i:Int):=h2;refine gx_gen (fun K hK=>?_);obtain ⟨hc,hf'⟩:=bcell (bdrewn hw'.out);go_simp;exact hK _ _ ⟨rfl,Gr.refl _⟩
  refine ⟨opOK_rx [(21,some 9)] (by kernel_rfl) rfl ?_,?_⟩
  ·intro act w' hw' h1;obtain ⟨hk,hf⟩:=evkf act;generalize act.eval=ρ at *;replace h1:ρ (.tmp 21)=.pointer (some ⟨b,off+i*34,none⟩):=h1;refine gx_gen (fun K hK=>?_);obtain ⟨hc,hf'⟩:=bcell (bdrewn hw'.out);go_simp;exact hK _ _ ⟨rfl,Gr.refl _⟩
  refine ⟨opOK_rx [(22,some 10)] (by kernel_rfl) rfl ?_,?_⟩
  ·intro act w' hw' h1;obtain ⟨hk,hf⟩:=evkf act;generalize act.eval=ρ at *;replace h1:ρ (.tmp 22)=.pointer (some ⟨b,off+i*34+6,none⟩):=h1;refine gx_gen (fun K hK=>?_);obtain ⟨hc,hf'⟩:=bcell (bdrewn hw'.out);go_simp;exact hK _ _ ⟨rfl,Gr.refl _⟩
  refine ⟨opOK_rx [(17,some 5),(23,some 11)] (by kernel_rfl) rfl ?_,?_⟩
  ·intro act w' hw' h1 h2;obtain ⟨hk,hf⟩:=evkf act;generalize act.eval=ρ at *;replace h1:ρ (.tmp 17)=.slice p0.ca p0.n.cs.length p0.cc:=h1;replace h2:ρ (.tmp 23)=.slice p0.ra p0.n.rs.length p0.rc:=h2;refine gx_gen (fun K hK=>?_);obtain ⟨hc,hf'⟩:=bcell (bdrewn hw'.out);go_simp;exact hK _ _ ⟨rfl,Gr.refl _⟩
  refine ⟨opOK_rx [] (by kernel_rfl) rfl ?_,?_⟩
  ·intro act w' hw';obtain ⟨hk,hf⟩:=evkf act;generalize act.eval=ρ at *;refine gx_gen (fun K hK=>?_);obtain ⟨z,hz,hr⟩:=run_allocK (P:=Tryz.prog) (T:=123) w' infz_Grid;simp only [execOp,Sem.run_bind,hr,Result.andThen_ok,Sem.run_pure];exact hK _ _ ⟨⟨_,z,rfl,(bdrewn hw'.out).size,newS _ _,hz⟩,Gr.alloc _ _⟩
  exact trivial
 case hfin =>
  intro w0 hg0;intro v12 t12;replace t12:v12=.pointer (some ⟨w.heap.size,0,none⟩):=t12;subst t12;intro v13 t13;replace t13:v13=.slice (some ⟨b,off,none⟩) R.length c:=t13;subst t13;intro v14 t14;replace t14:v14=.int .i64 (i:Int):=t14;subst t14;intro v15 t15;replace t15:v15=.pointer (some ⟨b,off+i*34,none⟩):=t15;subst t15;intro v16 t16;replace t16:v16=.pointer (some ⟨b,off+i*34+5,none⟩):=t16
  subst t16;intro v17 t17;replace t17:v17=.slice p0.ca p0.n.cs.length p0.cc:=t17;subst t17;intro v18 t18;replace t18:v18=.pointer (some ⟨w.heap.size,0,none⟩):=t18;subst t18;intro v19 t19;replace t19:v19=.slice (some ⟨b,off,none⟩) R.length c:=t19;subst t19;intro v20 t20;replace t20:v20=.int .i64 (i:Int):=t20;subst t20;intro v21 t21;replace t21:v21=.pointer (some ⟨b,off+i*34,none⟩):=t21;subst t21
  intro v22 t22;replace t22:v22=.pointer (some ⟨b,off+i*34+6,none⟩):=t22;subst t22;intro v23 t23;replace t23:v23=.slice p0.ra p0.n.rs.length p0.rc:=t23;subst t23;intro v24 t24;replace t24:v24=.agg (gridAg p0 (.slice none 0 0)).toArray:=t24;subst t24;intro v7 t7;replace t7:(fun v w=>BxZ w v Wa.heap.size 123 3) v7 w0:=t7;have hb0:=bdrewn hg0.out;clear hg0
  simp only [finP,List.take_succ_cons,List.take_zero,Act.put,List.setIfInBounds_toArray,List.set_cons_succ,List.set_cons_zero];obtain ⟨gg,z,rfl,hgx,hhx,hzx⟩:=t7
  refine wpAny_store 14 123 (.tmp 7) (.tmp 24) gg 0 (gridAg p0 (.slice none 0 0)) (by kernel_rfl) (by kernel_rfl) (by kernel_rfl) (by simp [Act.eval,Act.put,hsz]) (by simp [Act.eval,Act.put,hsz]) (thereB hhx (by rw [hzx];show 0+3≤3;omega)) inf_Grid (gridAg_one _ _ _ _) ?_;simp only [Exit.then];refine hK.out _ _ ?_;clear hK K
  refine wp_abw (fun t' W'=>t'.size=60∧t'[2]?=some (.slice B n cb)∧t'[3]?=some (.pointer (some ⟨w.heap.size,0,none⟩))∧t'[6]?=some (.pointer (some ⟨w.heap.size+1,0,none⟩))∧t'[7]?=some (.pointer (some ⟨gg,0,none⟩))∧W'.heap[gg]?=some (.cells (gridAg p0 (.slice none 0 0)).toArray 123 (0,0))∧Below Wa.heap.size Wa W'∧Wa.heap.size≤gg) ⟨by simp [Act.put,hsz],by simp [Act.put,q2],by simp [Act.put,q3],by simp [Act.put,q6],by simp [Act.put,hsz],⟨full_set hhx hzx (gridAg p0 (.slice none 0 0)) rfl,below_setCells hgx _ _ _ hb0,hgx⟩⟩ ?_
  clear hsz q1 l1 e1 q2 l2 e2 q3 l3 e3 q6 l6 e6 t x0 c5 c6 hdi z hhx hzx hgx hb0;rintro t Wb ⟨hsz,q2,q3,q6,q7,hgg,hbb,hgx⟩;have HGG:=hD hgg;have lgg:=ltS hgg;have HB1:=hD hbb;replace HC:=hD (show ∀ k p,R[k]?=some p→Wb.rangeAt b (off+k*34) (valsNr p) from fun k p hk=>rangeB (HC.out k p hk) (hbb.block b hbl));replace HN:=hD (HN.out.keep hbb);replace HXX:=hD ((hbb.block _ lxa).trans HXX.out)
  replace HZZ:=hD ((hbb.block _ lza).trans HZZ.out);have hsab:=hbb.size
  have hbl2:b<Wb.heap.size:=by omega
  have lxb:w.heap.size<Wb.heap.size:=by omega
  have hnxg:w.heap.size ≠ gg:=by omega
  have hnzg:w.heap.size+1 ≠ gg:=by omega
  have hnbg:b ≠ gg:=by omega
  clear hgg hbb lxa lza
  refine wp_seq_h fun KE hKE=>?_
  obtain ⟨l2,e2⟩:=gE q2;obtain ⟨l3,e3⟩:=gE q3;obtain ⟨l6,e6⟩:=gE q6;obtain ⟨l7,e7⟩:=gE q7
  refine wp_seq_h fun K hK=>?_
  apply wp_region_lit
  repeat (first | go_step)
  refine hK.out _ _ ?_;clear hK K
  refine wp_abw (fun t' W'=>t'.size=60∧t'[2]?=some (.slice B n cb)∧t'[3]?=some (.pointer (some ⟨w.heap.size,0,none⟩))∧t'[6]?=some (.pointer (some ⟨w.heap.size+1,0,none⟩))∧t'[7]?=some (.pointer (some ⟨gg,0,none⟩))∧t'[8]?=some (.int .i64 ((0:Nat):Int))∧Wb=W') ⟨by simp [Act.put,hsz],by simp [Act.put,q2],by simp [Act.put,q3],by simp [Act.put,q6],by simp [Act.put,q7],by simp [Act.put,hsz],rfl⟩ ?_
  clear hsz q2 l2 e2 q3 l3 e3 q6 l6 e6 q7 l7 e7 t;rintro t _ ⟨hsz,q2,q3,q6,q7,q8,rfl⟩;apply wp_block
  refine wp_loop (fun a W=>∃ (t:Array Value) (k:Nat) (v:Value),a=⟨t,[]⟩∧k≤n∧t.size=60∧t[2]?=some (.slice B n cb)∧t[3]?=some (.pointer (some ⟨w.heap.size,0,none⟩))∧t[6]?=some (.pointer (some ⟨w.heap.size+1,0,none⟩))∧t[7]?=some (.pointer (some ⟨gg,0,none⟩))∧t[8]?=some (.int .i64 (k:Int))∧W.heap[gg]?=some (.cells (gridAg p0 v).toArray 123 (0,0))∧W.ownsRow Wb.heap.size 80 9 v k ((cesF (R.map Nr.n) g (ks.take k)).map valsCe).flatten∧Bl1 gg Wb W) (fun a _=>n - (intOf (a.tmps.getD 8 undef)).toNat) ⟨t,0,_,rfl,by omega,hsz,q2,q3,q6,q7,q8,HGG.out,⟨by simp [cesF],.inl ⟨rfl,rfl⟩⟩,Bl1.refl _ _⟩ ?_
  clear t hsz q2 q3 q6 q7 q8;rintro a W ⟨t,k,v,rfl,hk,hsz,q2,q3,q6,q7,q8,hg1,hO,hG⟩
  have hmu:intOf (t.getD 8 undef)=(k:Int):=by rw [Array.getD_eq_getD_getElem?,q8];rfl
  dsimp only
  rw [hmu];clear hmu;have HW:=hD (hG.toB (bkeep2 HB0.out HB1.out) (Nat.le_trans HB0.out.size hgx));have x0:=cellS ((hG.block _ lxb (fun e=>hnxg (Option.some.inj e))).trans HXX.out) 0;have HO:=hD hO;have HG:=hD hG;have HG1:=hD hg1;have lx:w.heap.size<W.heap.size:=Nat.lt_of_lt_of_le lxb hG.size;clear hO hG hg1
  by_cases hlt:k<n
  ·have hd:decide ((k:Int)<(n:Int))=true:=by simpa using hlt
   refine wp_seq_h fun K1 hK1=>?_
   obtain ⟨l2,e2⟩:=gE q2;obtain ⟨l3,e3⟩:=gE q3;obtain ⟨l6,e6⟩:=gE q6;obtain ⟨l7,e7⟩:=gE q7;obtain ⟨l8,e8⟩:=gE q8
   refine wp_seq_h fun K hK=>?_
   apply wp_region_lit
   repeat (first | go_step)
   refine hK.out _ _ ?_;clear hK K
   refine wp_abw (fun t' W'=>t'.size=60∧t'[2]?=some (.slice B n cb)∧t'[3]?=some (.pointer (some ⟨w.heap.size,0,none⟩))∧t'[6]?=some (.pointer (some ⟨w.heap.size+1,0,none⟩))∧t'[7]?=some (.pointer (some ⟨gg,0,none⟩))∧t'[8]?=some (.int .i64 (k:Int))∧t'[28]?=some (.bool true)∧W=W') ⟨by simp [Act.put,hsz],by simp [Act.put,q2],by simp [Act.put,q3],by simp [Act.put,q6],by simp [Act.put,q7],by simp [Act.put,q8],by simp [Act.put,hsz,hd],rfl⟩ ?_
   clear hsz q2 l2 e2 q3 l3 e3 q6 l6 e6 q7 l7 e7 q8 l8 e8 t;rintro t _ ⟨hsz,q2,q3,q6,q7,q8,q28,rfl⟩;clear hd;refine wp_cond_true (by simp [Act.eval,q28]) ?_;apply wp_skip;simp only [Exit.then];refine hK1.out _ _ ?_;clear hK1 K1 q28
   refine wp_seq_h fun KB hKB=>?_
   apply wp_block
   have hkl:k<ks.length:=by rw [<- HNK.out];exact hlt
   have hkg:ks[k]?=some ks[k]:=List.getElem?_eq_getElem hkl;have hxl:ks[k]<R.length:=HKS.out _ (List.getElem_mem hkl);have hget:R[ks[k]]?=some R[ks[k]]:=List.getElem?_eq_getElem hxl;have hS1:=HS.out _ (List.getElem_mem hkl);have hsn:=cesF_snoc (L:=R.map Nr.n) (g:=g) hkg (m:=R[ks[k]].n) (by rw [List.getElem?_map,hget];rfl);obtain ⟨b2,off2,rfl,hb2,hp2⟩:=HN0.out.cells (by simp;omega)
   have cx0:=hp2 k (ks[k]:Int) (by rw [List.getElem?_map,hkg];rfl);have hrp:=HC0.out _ _ hget;generalize hxe:ks[k]=x at *;have hget2:R[x]?=some (R[x]'hxl):=List.getElem?_eq_getElem hxl;generalize (R[x]'hxl)=p at *
   have hd1:(k:Int)<(n:Int):=by omega
   have hd2:(x:Int)<(R.length:Int):=by omega
   have HCX:=hD (show ∀ W',Below w.heap.size w W'→W'.cell? ⟨b2,off2+k,none⟩=some (.int .i64 (x:Int)) from fun W' hW'=>(hW'.cell (p:=⟨b2,off2+k,none⟩) hb2).trans cx0);have cx:=HCX.out W HW.out;have lb2:b2<W.heap.size:=Nat.lt_of_lt_of_le hb2 HW.out.size;have hbl1:b<W.heap.size:=Nat.lt_of_lt_of_le hb0w HW.out.size
   have HRP:=hD (show W.rangeAt b (off+x*34) (valsNr p) from rangeB hrp (HW.out.block b hb0w));have HS1:=hD hS1;have HSN:=hD hsn;have hgg0:gg<W.heap.size:=ltS HG1.out;have HOL:=hD (show ∀ k,v.ownBlock=some k→k<W.heap.size from fun k e=>(HO.out.lt k e).2);have hb2':=hb2;clear hp2 hrp hS1 hsn hkg hget hget2 hxe hxl hkl cx0;obtain ⟨l2,e2⟩:=gE q2;obtain ⟨l3,e3⟩:=gE q3;obtain ⟨l6,e6⟩:=gE q6
   obtain ⟨l7,e7⟩:=gE q7;obtain ⟨l8,e8⟩:=gE q8
   refine wp_seq_h fun K hK=>?_
   refine wp_region_any (by kernel_rfl) ?_
   refine wpAny_rxp 10 1 #[true,true,true,true,true,true,true,true,true,true,false] (by kernel_rfl) (by kernel_rfl) (XV (.pointer (some ⟨w.heap.size,0,none⟩)) :: XV (.slice (some ⟨b,off,none⟩) R.length c) :: XV (.slice (some ⟨b2,off2,none⟩) n cb) :: XV (.int .i64 (k:Int)) :: XV (.pointer (some ⟨b2,off2+k,none⟩)) :: XV (.int .i64 (x:Int)) :: XV (.pointer (some ⟨b,off+x*34,none⟩)) :: XV (.pointer (some ⟨b,off+x*34+16,none⟩)) :: XV (.agg (valsCe p.n.ce).toArray) :: (fun v w=>BxZ w v W.heap.size 80 9) :: []) (by show rgC _ t.size=true;rw [hsz];kernel_rfl) (by kernel_rfl) ?hTs ?hops ?hfin
   case hTs =>
    intro T hT;simp only [List.mem_cons,List.not_mem_nil,or_false] at hT
    rcases hT with rfl | rfl | rfl | rfl | rfl | rfl | rfl | rfl | rfl | rfl <;> first | exact stay_V _ | exact stay_T | exact stay_of (fun v a b x g=>x.keep g) | exact stay_of (fun v a b x g=>x)
   case hops =>
    refine ⟨opOK_rx [(3,none)] (by kernel_rfl) rfl ?_,?_⟩
    ·intro act w' hw' h1;obtain ⟨hk,hf⟩:=evkf act;generalize act.eval=ρ at *;replace h1:ρ (.tmp 3)=.pointer (some ⟨w.heap.size,0,none⟩):=h1.trans (by simp [Act.eval,q3]);refine gx_gen (fun K hK=>?_);obtain ⟨hc,hf'⟩:=bcell (bdrewn hw'.out);go_simp;exact hK _ _ ⟨rfl,Gr.refl _⟩
    refine ⟨opOK_rx [(31,some 0)] (by kernel_rfl) rfl ?_,?_⟩
    ·intro act w' hw' h1;obtain ⟨hk,hf⟩:=evkf act;generalize act.eval=ρ at *;replace h1:ρ (.tmp 31)=.pointer (some ⟨w.heap.size,0,none⟩):=h1;refine gx_gen (fun K hK=>?_);obtain ⟨hc,hf'⟩:=bcell (bdrewn hw'.out);go_simp;exact hK _ _ ⟨rfl,Gr.refl _⟩
    refine ⟨opOK_rx [(2,none)] (by kernel_rfl) rfl ?_,?_⟩
    ·intro act w' hw' h1;obtain ⟨hk,hf⟩:=evkf act;generalize act.eval=ρ at *;replace h1:ρ (.tmp 2)=.slice (some ⟨b2,off2,none⟩) n cb:=h1.trans (by simp [Act.eval,q2]);refine gx_gen (fun K hK=>?_);obtain ⟨hc,hf'⟩:=bcell (bdrewn hw'.out);go_simp;exact hK _ _ ⟨rfl,Gr.refl _⟩
    refine ⟨opOK_rx [(8,none)] (by kernel_rfl) rfl ?_,?_⟩
    ·intro act w' hw' h1;obtain ⟨hk,hf⟩:=evkf act;generalize act.eval=ρ at *;replace h1:ρ (.tmp 8)=.int .i64 (k:Int):=h1.trans (by simp [Act.eval,q8]);refine gx_gen (fun K hK=>?_);obtain ⟨hc,hf'⟩:=bcell (bdrewn hw'.out);go_simp;exact hK _ _ ⟨rfl,Gr.refl _⟩
    refine ⟨opOK_rx [(33,some 2),(34,some 3)] (by kernel_rfl) rfl ?_,?_⟩
    ·intro act w' hw' h1 h2;obtain ⟨hk,hf⟩:=evkf act;generalize act.eval=ρ at *;replace h1:ρ (.tmp 33)=.slice (some ⟨b2,off2,none⟩) n cb:=h1;replace h2:ρ (.tmp 34)=.int .i64 (k:Int):=h2;refine gx_gen (fun K hK=>?_);obtain ⟨hc,hf'⟩:=bcell (bdrewn hw'.out);go_simp;exact hK _ _ ⟨rfl,Gr.refl _⟩
    refine ⟨opOK_rx [(35,some 4)] (by kernel_rfl) rfl ?_,?_⟩
    ·intro act w' hw' h1;obtain ⟨hk,hf⟩:=evkf act;generalize act.eval=ρ at *;replace h1:ρ (.tmp 35)=.pointer (some ⟨b2,off2+k,none⟩):=h1;refine gx_gen (fun K hK=>?_);obtain ⟨hc,hf'⟩:=bcell (bdrewn hw'.out);go_simp;exact hK _ _ ⟨rfl,Gr.refl _⟩
    refine ⟨opOK_rx [(32,some 1),(36,some 5)] (by kernel_rfl) rfl ?_,?_⟩
    ·intro act w' hw' h1 h2;obtain ⟨hk,hf⟩:=evkf act;generalize act.eval=ρ at *;replace h1:ρ (.tmp 32)=.slice (some ⟨b,off,none⟩) R.length c:=h1;replace h2:ρ (.tmp 36)=.int .i64 (x:Int):=h2;refine gx_gen (fun K hK=>?_);obtain ⟨hc,hf'⟩:=bcell (bdrewn hw'.out);go_simp;exact hK _ _ ⟨rfl,Gr.refl _⟩
    refine ⟨opOK_rx [(37,some 6)] (by kernel_rfl) rfl ?_,?_⟩
    ·intro act w' hw' h1;obtain ⟨hk,hf⟩:=evkf act;generalize act.eval=ρ at *;replace h1:ρ (.tmp 37)=.pointer (some ⟨b,off+x*34,none⟩):=h1;refine gx_gen (fun K hK=>?_);obtain ⟨hc,hf'⟩:=bcell (bdrewn hw'.out);go_simp;exact hK _ _ ⟨rfl,Gr.refl _⟩
    refine ⟨opOK_rx [(38,some 7)] (by kernel_rfl) rfl ?_,?_⟩
    ·intro act w' hw' h1;obtain ⟨hk,hf⟩:=evkf act;generalize act.eval=ρ at *;replace h1:ρ (.tmp 38)=.pointer (some ⟨b,off+x*34+16,none⟩):=h1;refine gx_gen (fun K hK=>?_)
     simp only [execOp,h1,Instr.loadAt,Instr.sureAddr,Sem.run_bind,Sem.run_pure,Result.andThen_ok,run_loadVar_mid w' b (off+x*34+16) 80 (valsCe p.n.ce) _ (rangeB (node_ce HRP.out) ((bdrewn hw'.out).block b hbl1)) Tryz.underlying80 rfl inf_Cell];exact hK _ _ ⟨rfl,Gr.refl _⟩
    refine ⟨opOK_rx [] (by kernel_rfl) rfl ?_,?_⟩
    ·intro act w' hw';obtain ⟨hk,hf⟩:=evkf act;generalize act.eval=ρ at *;refine gx_gen (fun K hK=>?_);obtain ⟨z,hz,hr⟩:=run_allocK (P:=Tryz.prog) (T:=80) w' infz_Cell;simp only [execOp,Sem.run_bind,hr,Result.andThen_ok,Sem.run_pure];exact hK _ _ ⟨⟨_,z,rfl,(bdrewn hw'.out).size,newS _ _,hz⟩,Gr.alloc _ _⟩
    exact trivial
   case hfin =>
    intro w1 hg1;intro v31 t31;replace t31:v31=.pointer (some ⟨w.heap.size,0,none⟩):=t31;subst t31;intro v32 t32;replace t32:v32=.slice (some ⟨b,off,none⟩) R.length c:=t32;subst t32;intro v33 t33;replace t33:v33=.slice (some ⟨b2,off2,none⟩) n cb:=t33;subst t33;intro v34 t34;replace t34:v34=.int .i64 (k:Int):=t34;subst t34;intro v35 t35;replace t35:v35=.pointer (some ⟨b2,off2+k,none⟩):=t35
    subst t35;intro v36 t36;replace t36:v36=.int .i64 (x:Int):=t36;subst t36;intro v37 t37;replace t37:v37=.pointer (some ⟨b,off+x*34,none⟩):=t37;subst t37;intro v38 t38;replace t38:v38=.pointer (some ⟨b,off+x*34+16,none⟩):=t38;subst t38;intro v39 t39;replace t39:v39=.agg (valsCe p.n.ce).toArray:=t39;subst t39;intro v9 t9;replace t9:(fun v w=>BxZ w v W.heap.size 80 9) v9 w1:=t9
    have hb1:=bdrewn hg1.out;clear hg1;simp only [finP,List.take_succ_cons,List.take_zero,Act.put,List.setIfInBounds_toArray,List.set_cons_succ,List.set_cons_zero];obtain ⟨gx,z,rfl,hgx2,hhx,hzx⟩:=t9
    refine wpAny_store 10 80 (.tmp 9) (.tmp 39) gx 0 (valsCe p.n.ce) (by kernel_rfl) (by kernel_rfl) (by kernel_rfl) (by simp [Act.eval,Act.put,hsz]) (by simp [Act.eval,Act.put,hsz]) (thereB hhx (by rw [hzx];show 0+9≤9;omega)) inf_Cell (valsCe_one _) ?_;simp only [Exit.then];refine hK.out _ _ ?_;clear hK K
    refine wp_abw (fun t' W'=>t'.size=60∧t'[2]?=some (.slice (some ⟨b2,off2,none⟩) n cb)∧t'[3]?=some (.pointer (some ⟨w.heap.size,0,none⟩))∧t'[6]?=some (.pointer (some ⟨w.heap.size+1,0,none⟩))∧t'[7]?=some (.pointer (some ⟨gg,0,none⟩))∧t'[8]?=some (.int .i64 (k:Int))∧t'[9]?=some (.pointer (some ⟨gx,0,none⟩))∧W'.heap[gx]?=some (.cells (valsCe p.n.ce).toArray 80 (0,0))∧Below W.heap.size W W'∧W.heap.size≤gx) ⟨by simp [Act.put,hsz],by simp [Act.put,q2],by simp [Act.put,q3],by simp [Act.put,q6],by simp [Act.put,q7],by simp [Act.put,q8],by simp [Act.put,hsz],⟨full_set hhx hzx (valsCe p.n.ce) rfl,below_setCells hgx2 _ _ _ hb1,hgx2⟩⟩ ?_
    clear hsz q2 l2 e2 q3 l3 e3 q6 l6 e6 q7 l7 e7 q8 l8 e8 t x0 lx hbl1 hd2 cx lb2 z hhx hzx hgx2 hb1;rintro t W1 ⟨hsz,q2,q3,q6,q7,q8,q9,hgp,hb2,hgx2⟩;have HGP:=hD hgp;replace HO:=hD (own_bw HO.out hb2);have hsw:Wb.heap.size≤W.heap.size:=HG.out.size;replace HG:=hD (HG.out.below hb2);replace HW:=hD (bkeep2 HW.out hb2);replace HG1:=hD ((hb2.block _ hgg0).trans HG1.out);clear hb2 hgp hgg0
    have y0:=cellS ((HG.out.block _ lxb (fun e=>hnxg (Option.some.inj e))).trans HXX.out) 0;have lx:w.heap.size<W1.heap.size:=Nat.lt_of_lt_of_le lxb HG.out.size;have cy:W1.cell? ⟨b2,off2+k,none⟩=some (.int .i64 (x:Int)):=HCX.out W1 HW.out;have lb2:b2<W1.heap.size:=Nat.lt_of_lt_of_le hb2' HW.out.size;obtain ⟨l2,e2⟩:=gE q2;obtain ⟨l3,e3⟩:=gE q3;obtain ⟨l6,e6⟩:=gE q6;obtain ⟨l7,e7⟩:=gE q7
    obtain ⟨l8,e8⟩:=gE q8;obtain ⟨l9,e9⟩:=gE q9
    refine wp_seq_h fun K hK=>?_
    refine wp_region_any (by kernel_rfl) ?_
    refine wpAny_rxp 11 0 #[true,true,true,true,true,true,true,true,true,true,true] (by kernel_rfl) (by kernel_rfl) (XV (.agg #[.slice (some ⟨b,off,none⟩) R.length c]) :: XV (.slice (some ⟨b2,off2,none⟩) n cb) :: XV (.int .i64 (k:Int)) :: XV (.pointer (some ⟨b2,off2+k,none⟩)) :: XV (.int .i64 (x:Int)) :: XV (.tuple #[.int .i64 (g x).1,.int .i64 (g x).2]) :: XV (.tuple #[.int .i64 (g x).1,.int .i64 (g x).2]) :: XV (.int .i64 (g x).1) :: XV (.int .i64 (g x).2) :: XV (.int .i64 (g x).1) :: XV (.int .i64 (g x).2) :: []) (by show rgC _ t.size=true;rw [hsz];kernel_rfl) (by kernel_rfl) ?hTs ?hops ?hfin
    case hTs =>
     intro T hT;simp only [List.mem_cons,List.not_mem_nil,or_false] at hT
     rcases hT with rfl | rfl | rfl | rfl | rfl | rfl | rfl | rfl | rfl | rfl | rfl <;> first | exact stay_V _ | exact stay_T | exact stay_of (fun v a b x g=>x.keep g) | exact stay_of (fun v a b x g=>x)
    case hops =>
     refine ⟨opOK_rx [(3,none)] (by kernel_rfl) rfl ?_,?_⟩
     ·intro act w' hw' h1;obtain ⟨hk,hf⟩:=evkf act;generalize act.eval=ρ at *;replace h1:ρ (.tmp 3)=.pointer (some ⟨w.heap.size,0,none⟩):=h1.trans (by simp [Act.eval,q3]);refine gx_gen (fun K hK=>?_);obtain ⟨hc,hf'⟩:=bcell (bdrewn hw'.out);go_simp;exact hK _ _ ⟨rfl,Gr.refl _⟩
     refine ⟨opOK_rx [(2,none)] (by kernel_rfl) rfl ?_,?_⟩
     ·intro act w' hw' h1;obtain ⟨hk,hf⟩:=evkf act;generalize act.eval=ρ at *;replace h1:ρ (.tmp 2)=.slice (some ⟨b2,off2,none⟩) n cb:=h1.trans (by simp [Act.eval,q2]);refine gx_gen (fun K hK=>?_);obtain ⟨hc,hf'⟩:=bcell (bdrewn hw'.out);go_simp;exact hK _ _ ⟨rfl,Gr.refl _⟩
     refine ⟨opOK_rx [(8,none)] (by kernel_rfl) rfl ?_,?_⟩
     ·intro act w' hw' h1;obtain ⟨hk,hf⟩:=evkf act;generalize act.eval=ρ at *;replace h1:ρ (.tmp 8)=.int .i64 (k:Int):=h1.trans (by simp [Act.eval,q8]);refine gx_gen (fun K hK=>?_);obtain ⟨hc,hf'⟩:=bcell (bdrewn hw'.out);go_simp;exact hK _ _ ⟨rfl,Gr.refl _⟩
     refine ⟨opOK_rx [(42,some 1),(43,some 2)] (by kernel_rfl) rfl ?_,?_⟩
     ·intro act w' hw' h1 h2;obtain ⟨hk,hf⟩:=evkf act;generalize act.eval=ρ at *;replace h1:ρ (.tmp 42)=.slice (some ⟨b2,off2,none⟩) n cb:=h1;replace h2:ρ (.tmp 43)=.int .i64 (k:Int):=h2;refine gx_gen (fun K hK=>?_);obtain ⟨hc,hf'⟩:=bcell (bdrewn hw'.out);go_simp;exact hK _ _ ⟨rfl,Gr.refl _⟩
     refine ⟨opOK_rx [(44,some 3)] (by kernel_rfl) rfl ?_,?_⟩
     ·intro act w' hw' h1;obtain ⟨hk,hf⟩:=evkf act;generalize act.eval=ρ at *;replace h1:ρ (.tmp 44)=.pointer (some ⟨b2,off2+k,none⟩):=h1;refine gx_gen (fun K hK=>?_);obtain ⟨hc,hf'⟩:=bcell (bdrewn hw'.out);go_simp;exact hK _ _ ⟨rfl,Gr.refl _⟩
     refine ⟨opOK_rx [(41,some 0),(45,some 4)] (by kernel_rfl) rfl ?_,?_⟩
     ·intro act w' hw' h1 h2;obtain ⟨hk,hf⟩:=evkf act;generalize act.eval=ρ at *;replace h1:ρ (.tmp 41)=.agg #[.slice (some ⟨b,off,none⟩) R.length c]:=h1;replace h2:ρ (.tmp 45)=.int .i64 (x:Int):=h2;refine gx_gen (fun K hK=>?_);obtain ⟨hc,hf'⟩:=bcell (bdrewn hw'.out);go_simp
      (refine (HS1.out _ (bkeep2 HW.out (bdrewn hw'.out))).mono ?_);rintro e w1 ⟨rfl,hb1⟩;exact ⟨_,rfl,hK _ _ ⟨rfl,hb1⟩⟩
     refine ⟨opOK_rx [(46,some 5)] (by kernel_rfl) rfl ?_,?_⟩
     ·intro act w' hw' h1;obtain ⟨hk,hf⟩:=evkf act;generalize act.eval=ρ at *;replace h1:ρ (.tmp 46)=.tuple #[.int .i64 (g x).1,.int .i64 (g x).2]:=h1;refine gx_gen (fun K hK=>?_);obtain ⟨hc,hf'⟩:=bcell (bdrewn hw'.out);go_simp;exact hK _ _ ⟨rfl,Gr.refl _⟩
     refine ⟨opOK_rx [(40,some 6)] (by kernel_rfl) rfl ?_,?_⟩
     ·intro act w' hw' h1;obtain ⟨hk,hf⟩:=evkf act;generalize act.eval=ρ at *;replace h1:ρ (.tmp 40)=.tuple #[.int .i64 (g x).1,.int .i64 (g x).2]:=h1;refine gx_gen (fun K hK=>?_);obtain ⟨hc,hf'⟩:=bcell (bdrewn hw'.out);go_simp;exact hK _ _ ⟨rfl,Gr.refl _⟩
     refine ⟨opOK_rx [(40,some 6)] (by kernel_rfl) rfl ?_,?_⟩
     ·intro act w' hw' h1;obtain ⟨hk,hf⟩:=evkf act;generalize act.eval=ρ at *;replace h1:ρ (.tmp 40)=.tuple #[.int .i64 (g x).1,.int .i64 (g x).2]:=h1;refine gx_gen (fun K hK=>?_);obtain ⟨hc,hf'⟩:=bcell (bdrewn hw'.out);go_simp;exact hK _ _ ⟨rfl,Gr.refl _⟩
     refine ⟨opOK_rx [(47,some 7)] (by kernel_rfl) rfl ?_,?_⟩
     ·intro act w' hw' h1;obtain ⟨hk,hf⟩:=evkf act;generalize act.eval=ρ at *;replace h1:ρ (.tmp 47)=.int .i64 (g x).1:=h1;refine gx_gen (fun K hK=>?_);obtain ⟨hc,hf'⟩:=bcell (bdrewn hw'.out);go_simp;exact hK _ _ ⟨rfl,Gr.refl _⟩
     refine ⟨opOK_rx [(48,some 8)] (by kernel_rfl) rfl ?_,?_⟩
     ·intro act w' hw' h1;obtain ⟨hk,hf⟩:=evkf act;generalize act.eval=ρ at *;replace h1:ρ (.tmp 48)=.int .i64 (g x).2:=h1;refine gx_gen (fun K hK=>?_);obtain ⟨hc,hf'⟩:=bcell (bdrewn hw'.out);go_simp;exact hK _ _ ⟨rfl,Gr.refl _⟩
     exact trivial
    case hfin =>
     intro w2 hg2;intro v41 t41;replace t41:v41=.agg #[.slice (some ⟨b,off,none⟩) R.length c]:=t41;subst t41;intro v42 t42;replace t42:v42=.slice (some ⟨b2,off2,none⟩) n cb:=t42;subst t42;intro v43 t43;replace t43:v43=.int .i64 (k:Int):=t43;subst t43;intro v44 t44;replace t44:v44=.pointer (some ⟨b2,off2+k,none⟩):=t44;subst t44;intro v45 t45;replace t45:v45=.int .i64 (x:Int):=t45;subst t45
     intro v46 t46;replace t46:v46=.tuple #[.int .i64 (g x).1,.int .i64 (g x).2]:=t46;subst t46;intro v40 t40;replace t40:v40=.tuple #[.int .i64 (g x).1,.int .i64 (g x).2]:=t40;subst t40;intro v47 t47;replace t47:v47=.int .i64 (g x).1:=t47;subst t47;intro v48 t48;replace t48:v48=.int .i64 (g x).2:=t48;subst t48;intro v10 t10;replace t10:v10=.int .i64 (g x).1:=t10;subst t10;intro v11 t11
     replace t11:v11=.int .i64 (g x).2:=t11;subst t11;have hb2:=bdrewn hg2.out;clear hg2;simp only [finP,List.take_succ_cons,List.take_zero,Act.put,List.setIfInBounds_toArray,List.set_cons_succ,List.set_cons_zero];refine wpAny_end (by kernel_rfl) ?_;simp only [Exit.then];refine hK.out _ _ ?_;clear hK K y0 cy
     refine wp_abw (fun t' W'=>t'.size=60∧t'[2]?=some (.slice (some ⟨b2,off2,none⟩) n cb)∧t'[3]?=some (.pointer (some ⟨w.heap.size,0,none⟩))∧t'[6]?=some (.pointer (some ⟨w.heap.size+1,0,none⟩))∧t'[7]?=some (.pointer (some ⟨gg,0,none⟩))∧t'[8]?=some (.int .i64 (k:Int))∧t'[9]?=some (.pointer (some ⟨gx,0,none⟩))∧t'[10]?=some (.int .i64 (g x).1)∧t'[11]?=some (.int .i64 (g x).2)∧W'.heap[gx]?=some (.cells (valsCe p.n.ce).toArray 80 (0,0))∧Below W1.heap.size W1 W') ⟨by simp [Act.put,hsz],by simp [Act.put,q2],by simp [Act.put,q3],by simp [Act.put,q6],by simp [Act.put,q7],by simp [Act.put,q8],by simp [Act.put,q9],by simp [Act.put,hsz],by simp [Act.put,hsz],⟨(hb2.block _ (ltS HGP.out)).trans HGP.out,hb2⟩⟩ ?_
     clear hsz q2 l2 e2 q3 l3 e3 q6 l6 e6 q7 l7 e7 q8 l8 e8 q9 l9 e9 t hb2;rintro t W2 ⟨hsz,q2,q3,q6,q7,q8,q9,q10,q11,hgp,hb2⟩;replace HO:=hD (own_bw HO.out hb2);replace HG1:=hD ((hb2.block _ (ltS HG1.out)).trans HG1.out);replace HG:=hD (HG.out.below hb2);clear hb2 lx lb2 HGP HW;have fz0:=frozenS hgp 4;obtain ⟨y1,z1⟩:=thereS hgp (i:=4) (by show 4<9;omega);have lgx:=ltS hgp;obtain ⟨l2,e2⟩:=gE q2
     obtain ⟨l3,e3⟩:=gE q3;obtain ⟨l6,e6⟩:=gE q6;obtain ⟨l7,e7⟩:=gE q7;obtain ⟨l8,e8⟩:=gE q8;obtain ⟨l9,e9⟩:=gE q9;obtain ⟨l10,e10⟩:=gE q10;obtain ⟨l11,e11⟩:=gE q11
     refine wp_seq_h fun K hK=>?_
     apply wp_region_lit
     repeat (first | go_step)
     refine hK.out _ _ ?_;clear hK K
     refine wp_abw (fun t' W'=>t'.size=60∧t'[2]?=some (.slice (some ⟨b2,off2,none⟩) n cb)∧t'[3]?=some (.pointer (some ⟨w.heap.size,0,none⟩))∧t'[6]?=some (.pointer (some ⟨w.heap.size+1,0,none⟩))∧t'[7]?=some (.pointer (some ⟨gg,0,none⟩))∧t'[8]?=some (.int .i64 (k:Int))∧t'[9]?=some (.pointer (some ⟨gx,0,none⟩))∧t'[10]?=some (.int .i64 (g x).1)∧t'[11]?=some (.int .i64 (g x).2)∧W'.heap[gx]?=some (.cells ((valsCe p.n.ce).toArray.setIfInBounds 4 (.int .i64 (g x).1)) 80 (0,0))∧W2.grownBy W' (some gx)) ⟨by simp [Act.put,hsz],by simp [Act.put,q2],by simp [Act.put,q3],by simp [Act.put,q6],by simp [Act.put,q7],by simp [Act.put,q8],by simp [Act.put,q9],by simp [Act.put,q10],by simp [Act.put,q11],⟨putS hgp _,gsetS (greflS _ gx) _ _⟩⟩ ?_
     clear hsz q2 l2 e2 q3 l3 e3 q6 l6 e6 q7 l7 e7 q8 l8 e8 q9 l9 e9 q10 l10 e10 q11 l11 e11 t fz0 z1 y1 lgx;rintro t W3 ⟨hsz,q2,q3,q6,q7,q8,q9,q10,q11,hgp3,hgr3⟩;have fz0:=frozenS hgp3 5;obtain ⟨y1,z1⟩:=thereS hgp3 (i:=5) (by show 5<9;omega);have lgx:=ltS hgp3;obtain ⟨l2,e2⟩:=gE q2;obtain ⟨l3,e3⟩:=gE q3;obtain ⟨l6,e6⟩:=gE q6;obtain ⟨l7,e7⟩:=gE q7;obtain ⟨l8,e8⟩:=gE q8;obtain ⟨l9,e9⟩:=gE q9
     obtain ⟨l10,e10⟩:=gE q10;obtain ⟨l11,e11⟩:=gE q11
     refine wp_seq_h fun K hK=>?_
     apply wp_region_lit
     repeat (first | go_step)
     refine hK.out _ _ ?_;clear hK K
     refine wp_abw (fun t' W'=>t'.size=60∧t'[2]?=some (.slice (some ⟨b2,off2,none⟩) n cb)∧t'[3]?=some (.pointer (some ⟨w.heap.size,0,none⟩))∧t'[6]?=some (.pointer (some ⟨w.heap.size+1,0,none⟩))∧t'[7]?=some (.pointer (some ⟨gg,0,none⟩))∧t'[8]?=some (.int .i64 (k:Int))∧t'[9]?=some (.pointer (some ⟨gx,0,none⟩))∧t'[10]?=some (.int .i64 (g x).1)∧t'[11]?=some (.int .i64 (g x).2)∧W'.heap[gx]?=some (.cells (valsCe (ceOf p.n (g x))).toArray 80 (0,0))∧W2.grownBy W' (some gx)) ⟨by simp [Act.put,hsz],by simp [Act.put,q2],by simp [Act.put,q3],by simp [Act.put,q6],by simp [Act.put,q7],by simp [Act.put,q8],by simp [Act.put,q9],by simp [Act.put,q10],by simp [Act.put,q11],⟨putS hgp3 _,gsetS hgr3 _ _⟩⟩ ?_
     clear hsz q2 l2 e2 q3 l3 e3 q6 l6 e6 q7 l7 e7 q8 l8 e8 q9 l9 e9 q10 l10 e10 q11 l11 e11 t fz0 z1 y1 lgx hgp3 hgr3;rintro t W4 ⟨hsz,q2,q3,q6,q7,q8,q9,q10,q11,hgp4,hgr4⟩;have hgxb:Wb.heap.size≤gx:=Nat.le_trans hsw hgx2
     have hne:∀ k,v.ownBlock=some k→k<gx:=fun k e=>Nat.lt_of_lt_of_le (HOL.out k e) hgx2
     have HO4:=hD (own_other HO.out hgr4 (fun e=>absurd (hne _ e) (Nat.lt_irrefl _)));have HG4:=hD (HG.out.grown hgr4 hgxb)
     have hggx:gg ≠ gx:=by omega
     replace HG1:=hD ((hgr4.block gg (ltS HG1.out) (fun e=>hggx (Option.some.inj e))).trans HG1.out);clear HO HG hgr4 hgp;have HR:=hD (show W4.rangeAt gx 0 (valsCe (ceOf p.n (g x))) from fun j v hj=>by rw [Nat.zero_add];exact (cellS hgp4 j).trans (by simpa using hj));have hob:∀ b,v.ownBlock=some b→Wb.heap.size≤b∧b<W4.heap.size:=HO4.out.lt;have hw4:Wb.heap.size≤W4.heap.size:=HG4.out.size
     have v2:=cellS HG1.out 2;rw [show (gridAg p0 v).toArray[2]?=some v from rfl] at v2;have lg4:=ltS HG1.out;obtain ⟨vA,vc,rfl⟩:=own_shape HO4.out;obtain ⟨l2,e2⟩:=gE q2;obtain ⟨l3,e3⟩:=gE q3;obtain ⟨l6,e6⟩:=gE q6;obtain ⟨l7,e7⟩:=gE q7;obtain ⟨l8,e8⟩:=gE q8;obtain ⟨l9,e9⟩:=gE q9;obtain ⟨l10,e10⟩:=gE q10;obtain ⟨l11,e11⟩:=gE q11;apply wp_region_lit
     repeat (first | ((with_reducible show wpList _ _ _ _ _ _);refine ldK 80 _ [.int .i64 p.n.ce.co,.int .i64 p.n.ce.ro,.int .i64 p.n.ce.mc,.int .i64 p.n.ce.mr,.int .i64 (g x).1,.int .i64 (g x).2,.int .i64 p.n.ce.sk,.int .i64 p.n.ce.px,.int .i64 p.n.ce.py] gx 0 rfl rfl HR.out Tryz.underlying80 rfl inf_Cell (by simp [Act.eval,Act.put,hsz,e9]) ?_) | ((with_reducible show wpList _ _ _ _ _ _);refine wpList_append_own _ rfl _ _ 121 rfl Wb.heap.size 80 ti tz 9 72 Tryz.underlying121 ti1 ti2 ti3 ti4 ti5 (by decide) (.slice vA k vc) _ _ (by simp [Act.eval,Act.put,hsz]) (HO4.out.alloc _) ⟨W4.heap.size,0,none⟩ 1 1 (valsCe (ceOf p.n (g x))) (by simp [Act.eval,Act.put,hsz]) rfl (newK _ (valsCe (ceOf p.n (g x))) _) (valsCe_one _) (by simp only [maxLen];omega) (by omega) (by simp;omega) ?_) | go_step)
     intro v5 w5 how5 hgr5 _;have hG5:=HG4.out.own hgr5 (fun k e=>(hob k e).1);rw [show ((cesF (R.map Nr.n) g (ks.take k)).map valsCe).flatten ++ valsCe (ceOf p.n (g x))=((cesF (R.map Nr.n) g (ks.take (k+1))).map valsCe).flatten by rw [HSN.out,List.map_append,List.flatten_append];simp] at how5
     have hg5:w5.heap[gg]?=some (.cells (gridAg p0 (.slice vA k vc)).toArray 123 (0,0)):=(hgr5.block gg (by simp;omega) (fun e=>by have:=(hob gg e.symm).1;omega)).trans ((Below.heap_alloc _ _ _ (by omega)).trans HG1.out);obtain ⟨vB,vd,rfl⟩:=own_shape how5;have fz0:=frozenS hg5 2;have z1:=cellS hg5 2;rw [show (gridAg p0 (.slice vA k vc)).toArray[2]?=some (.slice vA k vc) from rfl] at z1
     have lg5:=ltS hg5;clear v2 lg4
     repeat go_step
     try simp only [Exit.inBlock]
     refine hKB.out _ _ ?_;clear hKB KB
     refine wp_abw (fun t' W'=>t'.size=60∧t'[2]?=some (.slice (some ⟨b2,off2,none⟩) n cb)∧t'[3]?=some (.pointer (some ⟨w.heap.size,0,none⟩))∧t'[6]?=some (.pointer (some ⟨w.heap.size+1,0,none⟩))∧t'[7]?=some (.pointer (some ⟨gg,0,none⟩))∧t'[8]?=some (.int .i64 (k:Int))∧W'.heap[gg]?=some (.cells (gridAg p0 (.slice vB (k+1) vd)).toArray 123 (0,0))∧W'.ownsRow Wb.heap.size 80 9 (.slice vB (k+1) vd) (k+1) ((cesF (R.map Nr.n) g (ks.take (k+1))).map valsCe).flatten∧Bl1 gg Wb W') ⟨by simp [Act.put,hsz],by simp [Act.put,q2],by simp [Act.put,q3],by simp [Act.put,q6],by simp [Act.put,q7],by simp [Act.put,q8],⟨putS hg5 _,own_other how5 (gsetS (greflS _ gg) _ _) (fun e=>by have:=(how5.lt gg e).1;omega),gsetS hG5 _ _⟩⟩ ?_
     clear hsz q2 l2 e2 q3 l3 e3 q6 l6 e6 q7 l7 e7 q8 l8 e8 q9 l9 e9 q10 l10 e10 q11 l11 e11 t hob hw4 hgxb hne HR hgp4 fz0 z1 lg5;rintro t W6 ⟨hsz,q2,q3,q6,q7,q8,hgF,hOF,hGF⟩;obtain ⟨l2,e2⟩:=gE q2;obtain ⟨l3,e3⟩:=gE q3;obtain ⟨l6,e6⟩:=gE q6;obtain ⟨l7,e7⟩:=gE q7;obtain ⟨l8,e8⟩:=gE q8;apply wp_region_lit
     repeat go_step
     try simp only [Exit.then]
     refine ⟨⟨_,k+1,_,rfl,by omega,by simp [hsz],by simp [q2],by simp [q3],by simp [q6],by simp [q7],by simp [hsz],hgF,hOF,hGF⟩,?_⟩
     ·simp [hsz,intOf]
      omega
  ·have hd:decide ((k:Int)<(n:Int))=false:=decide_eq_false (by omega)
   refine wp_seq_h fun K1 hK1=>?_
   obtain ⟨l2,e2⟩:=gE q2;obtain ⟨l3,e3⟩:=gE q3;obtain ⟨l6,e6⟩:=gE q6;obtain ⟨l7,e7⟩:=gE q7;obtain ⟨l8,e8⟩:=gE q8
   refine wp_seq_h fun K hK=>?_
   apply wp_region_lit
   repeat (first | go_step)
   refine hK.out _ _ ?_;clear hK K
   refine wp_abw (fun t' W'=>t'.size=60∧t'[2]?=some (.slice B n cb)∧t'[3]?=some (.pointer (some ⟨w.heap.size,0,none⟩))∧t'[6]?=some (.pointer (some ⟨w.heap.size+1,0,none⟩))∧t'[7]?=some (.pointer (some ⟨gg,0,none⟩))∧t'[8]?=some (.int .i64 (k:Int))∧t'[28]?=some (.bool false)∧W=W') ⟨by simp [Act.put,hsz],by simp [Act.put,q2],by simp [Act.put,q3],by simp [Act.put,q6],by simp [Act.put,q7],by simp [Act.put,q8],by simp [Act.put,hsz,hd],rfl⟩ ?_
   clear hsz q2 l2 e2 q3 l3 e3 q6 l6 e6 q7 l7 e7 q8 l8 e8 t;rintro t _ ⟨hsz,q2,q3,q6,q7,q8,q28,rfl⟩;refine wp_cond_false (by simp [Act.eval,q28]) ?_;apply wp_exit;simp only [Exit.then,Exit.inBlock,if_true];refine hKE.out _ _ ?_;clear hd q28
   obtain rfl:k=n:=by omega
   have hall:ks.take k=ks:=List.take_of_length_le (by rw [HNK.out];exact Nat.le_refl _);have hO:=HO.out;rw [hall] at hO
   have hlen:k=((cesF (R.map Nr.n) g ks).map valsCe).length:=by
    have:=cesF_take_len (L:=R.map Nr.n) (g:=g) (ks:=ks) (by simpa using HKS.out) k (by rw [HNK.out];exact Nat.le_refl _)
    rw [hall] at this;rw [List.length_map,this]
   obtain ⟨A',c',rfl,hrv,_⟩:=own_rvK hO hlen (fun vs hv=>by obtain ⟨q,_,rfl⟩:=List.mem_map.1 hv;rfl);have HRV:=hD hrv;have HR:=hD (show W.rangeAt gg 0 (gridAg p0 (.slice A' k c')) from fun j v hj=>by rw [Nat.zero_add];exact (cellS HG1.out j).trans (by simpa using hj))
   have HTH:=hD (show W.there (w.heap.size+1) 0 (gridAg p0 (.slice A' k c')).length from thereB ((HG.out.block _ (by have:=ltS HZZ.out;omega) (fun e=>hnzg (Option.some.inj e))).trans HZZ.out) (by rw [hz6];show 0+3≤3;omega));clear hO hlen hall hrv lx x0;obtain ⟨l2,e2⟩:=gE q2;obtain ⟨l3,e3⟩:=gE q3;obtain ⟨l6,e6⟩:=gE q6;obtain ⟨l7,e7⟩:=gE q7;obtain ⟨l8,e8⟩:=gE q8
   refine wp_seq_h fun K hK=>?_
   apply wp_region_lit
   repeat (first | ((with_reducible show wpList _ _ _ _ _ _);refine ldK 123 _ (gridAg p0 (.slice A' k c')) gg 0 rfl rfl HR.out Tryz.underlying123 rfl inf_Grid (by simp [Act.eval,Act.put,hsz,e7]) ?_) | ((with_reducible show wpList _ _ _ _ _ _);refine stK 123 _ _ (gridAg p0 (.slice A' k c')) (w.heap.size+1) 0 rfl rfl HTH.out inf_Grid (gridAg_one _ _ _ _) (by simp [Act.eval,Act.put,hsz,e6]) (by simp [Act.eval,Act.put,hsz]) ?_) | go_step)
   refine hK.out _ _ ?_;clear hK K;apply wp_ret;refine bp_retcell 6 123 (w.heap.size+1) (gridAg p0 (.slice A' k c')) Tryz.results98 ?_ (World.rangeAt_setCells_same _ _ _ _ HTH.out) Tryz.underlying123 rfl inf_Grid rfl ⟨⟨A',c',rfl,?_⟩,below_setCells (by omega) _ _ _ HW.out⟩
   ·simp [Act.put,hsz,e6]
   ·refine cev_of (fun h0=>?_);obtain ⟨b9,off9,e9',hb9,hp9⟩:=HRV.out h0
    have hne:b9 ≠ w.heap.size+1:=by
     rintro rfl
     have:=HO.out.lt _ (by rw [e9'];rfl)
     dsimp only at this
     have:=ltS HZZ.out
     omega
    exact ⟨b9,off9,e9',by rw [size_setCellsT];exact hb9,fun i vs hi=>rangeB (hp9 i vs hi) (heap_setCells_ne hne _ _ _)⟩
end
section
theorem kid_no0 {R:List Nr} (h:TrOK (R.map Nr.n)) (i:Nat):isKid R (i:Int) 0=false:=by
 rw [isKid_eq];unfold kidB
 cases hn:(R.map Nr.n)[0]? with
 | none=>rfl
 | some n =>
  rcases h.up 0 n hn with ⟨_,e⟩ | ⟨e,_⟩
  ·show (n.pa == (i:Int))=false
   rw [e];simp only [beq_eq_false_iff_ne,ne_eq];omega
  ·omega
theorem pks_big {L:List Nd} (h:TrOK L) (ks:List Nat):∀ p ∈ pksF L (szM L) ks,p.big:=fun p hp=>pk_bd h (fun k _=>szM_bd h k) p hp
theorem ces_w {L:List Nd} (h:TrOK L) {i:Nat} {n:Nd} (hn:L[i]?=some n) (h1:n.ki=1):(∀ p ∈ cesF L (szM L) (kidD L i),smW p)∧spansW n.cs.length ((cesF L (szM L) (kidD L i)).map acM)∧spansW n.rs.length ((cesF L (szM L) (kidD L i)).map dnM)∧(cesF L (szM L) (kidD L i)).length≤10:=by
 have hp:=ce_bd h hn h1 (fun k _=>szM_bd h k);have hl:=Nat.le_trans (cesF_len L (szM L) (kidD L i)) (Nat.le_trans (kidD_len L i) h.l10);refine ⟨fun p hm=>by have:=hp p hm;unfold smW;omega,⟨by simpa using hl,fun s hs=>?_⟩,⟨by simpa using hl,fun s hs=>?_⟩,hl⟩
 ·obtain ⟨p,hm,rfl⟩:=List.mem_map.1 hs
  have:=hp p hm
  refine ⟨p.co.toNat,p.mc.toNat,?_,?_,?_,?_,?_,?_⟩ <;> first | omega | (unfold acM;dsimp only;omega)
 ·obtain ⟨p,hm,rfl⟩:=List.mem_map.1 hs
  have:=hp p hm
  refine ⟨p.ro.toNat,p.mr.toNat,?_,?_,?_,?_,?_,?_⟩ <;> first | omega | (unfold dnM;dsimp only;omega)
end
end Go.Proofs.YtenckjdiggaonaaGreat
