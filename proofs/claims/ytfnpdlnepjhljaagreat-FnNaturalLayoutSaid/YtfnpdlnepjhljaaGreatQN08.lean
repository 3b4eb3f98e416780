import Derived.Test.YtfnpdlnepjhljaaGreatQN07
set_option linter.unusedVariables false
set_option linter.unusedSimpArgs false
set_option maxRecDepth 100000
set_option maxHeartbeats 16000000
namespace Go.Proofs.YtfnpdlnepjhljaaGreat
open Go.RowKit
attribute [local go_sem] growUpon_value growUpon_skip growUpon_enter
section
attribute [local go_sem] givesUpon_value givesUpon_skip givesUpon_enter
theorem cesF_snoc {L:List Nd} {g:Nat→Int × Int} {ks:List Nat} {k x:Nat} {m:Nd} (h:ks[k]?=some x) (hm:L[x]?=some m):cesF L g (ks.take (k+1))=cesF L g (ks.take k) ++ [ceOf m (g x)]:=by
 obtain ⟨hk,e⟩:=List.getElem?_eq_some_iff.1 h;unfold cesF;rw [List.take_succ_eq_append_getElem hk,e,List.filterMap_append]
 simp [hm]
theorem cesF_take_len {L:List Nd} {g:Nat→Int × Int} {ks:List Nat} (hk:∀ x∈ks,x<L.length):∀ k,k≤ks.length→(cesF L g (ks.take k)).length=k:=by
 intro k
 induction k with
 | zero=>intro _;simp [cesF]
 | succ k ih =>
  intro h;have e:ks[k]?=some ks[k]:=List.getElem?_eq_getElem (by omega);have hlt:ks[k]'(by omega)<L.length:=hk _ (List.getElem_mem (by omega));have em:L[ks[k]'(by omega)]?=some (L[ks[k]'(by omega)]'hlt):=List.getElem?_eq_getElem hlt;rw [cesF_snoc e em,List.length_append,ih (by omega)]
  rfl
def Bl1 (g:Nat) (w w':World):Prop:=w.grownBy w' (some g)
theorem Bl1.refl (g:Nat) (w:World):Bl1 g w w:=greflS w g
theorem Bl1.below {g:Nat} {a w w':World} (h:Bl1 g a w) (hb:Below w.heap.size w w'):Bl1 g a w' :=
 ⟨hb.os.trans h.os,hb.tape.trans h.tape,hb.output.trans h.output,Nat.le_trans h.size hb.size,fun k hk hn=>(hb.block k (Nat.lt_of_lt_of_le hk h.size)).trans (h.block k hk hn)⟩
theorem Bl1.grown {g x:Nat} {a w w':World} (h:Bl1 g a w) (hg:w.grownBy w' (some x)) (hx:a.heap.size≤x):Bl1 g a w' :=
 ⟨hg.os.trans h.os,hg.tape.trans h.tape,hg.output.trans h.output,Nat.le_trans h.size hg.size,fun k hk hn=>(hg.block k (Nat.lt_of_lt_of_le hk h.size) (fun e=>by have:=Option.some.inj e;omega)).trans (h.block k hk hn)⟩
theorem Bl1.own {g:Nat} {a w w':World} {v:Value} {o:Obj} (h:Bl1 g a w) (hg:(w.alloc o).grownBy w' v.ownBlock) (hv:∀ k,v.ownBlock=some k→a.heap.size≤k):Bl1 g a w':=by
 have h2:=h.below (w':=w.alloc o) (balloc (Below.refl _ _));exact ⟨hg.os.trans h2.os,hg.tape.trans h2.tape,hg.output.trans h2.output,Nat.le_trans h2.size hg.size,fun k hk hn=>(hg.block k (Nat.lt_of_lt_of_le hk h2.size) (fun e=>by have:=hv k e.symm;omega)).trans (h2.block k hk hn)⟩
theorem Bl1.toB {g:Nat} {a w z:World} (h:Bl1 g a w) (hz:Below z.heap.size z a) (hg:z.heap.size≤g):Below z.heap.size z w:=below_grownW hz h hg hz.size
theorem own_shape {w:World} {base k n:Nat} {T:TypeId} {v:Value} {xs:List Value} (h:w.ownsRow base T k v n xs):∃ A c,v=.slice A n c:=by
 rcases h.2 with ⟨rfl,h0⟩ | ⟨g,cap,cur,rfl,_⟩
 ·exact ⟨none,0,by rw [h0]⟩
 ·exact ⟨_,_,rfl⟩
def gridAg (p:Nr) (v:Value):List Value:=[.slice p.ca p.n.cs.length p.cc,.slice p.ra p.n.rs.length p.rc,v]
theorem gridAg_one (p:Nr) (A:Option Addr) (n c:Nat):one (gridAg p (.slice A n c)):=by
 intro v hv;simp only [gridAg,List.mem_cons,List.not_mem_nil,or_false] at hv
 rcases hv with rfl | rfl | rfl <;> rfl
theorem inf_Grid:(Tryz.prog.info? 128).map (·.size)=some 3:=by kernel_rfl
theorem infz_Grid:∃ i z,Tryz.prog.info? 128=some i∧i.zero=some z∧z.cells.size=3:=info_z (by kernel_rfl)
theorem gridOf_v (A:Option Addr) (c:Nat) (R:List Nr) (i:Nat) (p0:Nr) (ks:List Nat) (B:Option Addr) (cb n:Nat) (g:Nat→Int × Int) (w:World) (h:NrV w A R) (hi:R[i]?=some p0) (hL:R.length≤1048576) (hB:NV w B (ks.map fun (k:Nat)=>(k:Int))) (hn:n=ks.length) (hn2:n≤1048576) (hk:∀ k∈ks,k<R.length)
  (hS:∀ k∈ks,∀ W,Below w.heap.size w W→Calls Tryz.prog 68 #[.agg #[.slice A R.length c],.int .i64 (k:Int)] W fun e W'=>e=.returned (.tuple #[.int .i64 (g k).1,.int .i64 (g k).2])∧Below W.heap.size W W') :
  Calls Tryz.prog 113 #[.agg #[.slice A R.length c],.int .i64 (i:Int),.slice B n cb] w fun e w'=>(∃ A' c',e=.returned (.agg (gridAg p0 (.slice A' n c')).toArray)∧CeV w' A' (cesF (R.map Nr.n) g ks))∧Below w.heap.size w w':=by
 obtain ⟨ti,tz,ti1,ti2,ti3,ti4,ti5⟩:=info_own (P:=Tryz.prog) (T:=39) (k:=9) (b:=72) (by kernel_rfl);have hil:=(List.getElem?_eq_some_iff.1 hi).1;obtain ⟨b,off,rfl,hb,hc⟩:=h.cells (by omega);have HC:=hD hc;have HI:=hD hi;have HS:=hD hS;have HKS:=hD hk;have HN:=hD hB;have hnk:=hn;have HNK:=hD hnk
 have hdi:(i:Int)<(R.length:Int):=by omega
 have HN0:=hD hB;have HC0:=hD hc;have hb0w:=hb;clear hc h hS hk hB hn hnk hi;refine calls_abs Tryz.func113 rfl 60 (by simp only [Tryz.ntmps113]) (by simp) (fun t hsz hargs=>?_);have q0:t[0]?=some (.agg #[.slice (some ⟨b,off,none⟩) R.length c]):=get_of (by omega) (hargs 0 _ rfl);have q1:t[1]?=some (.int .i64 (i:Int)):=get_of (by omega) (hargs 1 _ rfl)
 have q2:t[2]?=some (.slice B n cb):=get_of (by omega) (hargs 2 _ rfl);clear hargs;obtain ⟨l0,e0⟩:=gE q0;obtain ⟨l1,e1⟩:=gE q1;obtain ⟨l2,e2⟩:=gE q2
 refine wp_seq_h fun K hK=>?_
 apply wp_region_lit
 repeat (first|((with_reducible show wpList _ _ _ _ _ _);refine allocK 128 3 rfl rfl infz_Grid (fun z hz=>?_)) | go_step)
 refine hK.out _ _ ?_;clear hK K
 refine wp_abw (fun t' W'=>t'.size=60∧t'[1]?=some (.int .i64 (i:Int))∧t'[2]?=some (.slice B n cb)∧t'[3]?=some (.pointer (some ⟨w.heap.size,0,none⟩))∧t'[6]?=some (.pointer (some ⟨w.heap.size+1,0,none⟩))∧W'.heap[w.heap.size]?=some (.cells #[.slice (some ⟨b,off,none⟩) R.length c] 25 (0,0))∧(∃ z:Array Value,W'.heap[w.heap.size+1]?=some (.cells z 128 (0,0))∧z.size=3)∧Below w.heap.size w W') ⟨by simp [Act.put,hsz],by simp [Act.put,q1],by simp [Act.put,q2],by simp [Act.put,hsz],by simp [Act.put,hsz],⟨(Below.heap_alloc _ _ _ (by simp)).trans (newS _ _),⟨z,by have:=newS (w.alloc (.cells #[.slice (some ⟨b,off,none⟩) R.length c] 25)) (.cells z 128);simpa using this,hz⟩,(balloc (Below.refl _ _)).trans ((balloc (Below.refl _ _)).mono (by simp))⟩⟩ ?_
 clear hsz q0 l0 e0 q1 l1 e1 q2 l2 e2 t z hz;rintro t Wa ⟨hsz,q1,q2,q3,q6,HX,⟨z6,HZ,hz6⟩,hB0⟩;have HXX:=hD HX;have HZZ:=hD HZ;have HB0:=hD hB0;replace HC:=hD (show ∀ k p,R[k]?=some p→Wa.rangeAt b (off+k*34) (valsNr p) from fun k p hk=>rangeB (HC.out k p hk) (hB0.block b hb));replace HN:=hD (HN.out.keep hB0);have hbl:b<Wa.heap.size:=Nat.lt_of_lt_of_le hb hB0.size
 have lxa:w.heap.size<Wa.heap.size:=ltS HX;have lza:w.heap.size+1<Wa.heap.size:=ltS HZ;have x0:=cellS HX 0;have c5:=HC.out i p0 HI.out 5 _ rfl;have c6:=HC.out i p0 HI.out 6 _ rfl;clear HX HZ hB0 hb;obtain ⟨l1,e1⟩:=gE q1;obtain ⟨l2,e2⟩:=gE q2;obtain ⟨l3,e3⟩:=gE q3;obtain ⟨l6,e6⟩:=gE q6
 refine wp_seq_h fun K hK=>?_
 refine wp_region_any (by kernel_rfl) ?_
 refine wpAny_rxp 14 1 #[true,true,true,true,true,true,true,true,true,true,true,true,true,true,false] (by kernel_rfl) (by kernel_rfl) (XV (.pointer (some ⟨w.heap.size,0,none⟩)) :: XV (.slice (some ⟨b,off,none⟩) R.length c) :: XV (.int .i64 (i:Int)) :: XV (.pointer (some ⟨b,off+i*34,none⟩)) :: XV (.pointer (some ⟨b,off+i*34+5,none⟩)) :: XV (.slice p0.ca p0.n.cs.length p0.cc) :: XV (.pointer (some ⟨w.heap.size,0,none⟩)) :: XV (.slice (some ⟨b,off,none⟩) R.length c) :: XV (.int .i64 (i:Int)) :: XV (.pointer (some ⟨b,off+i*34,none⟩)) :: XV (.pointer (some ⟨b,off+i*34+6,none⟩)) :: XV (.slice p0.ra p0.n.rs.length p0.rc) :: XV (.agg (gridAg p0 (.slice none 0 0)).toArray) :: (fun v w=>BxZ w v Wa.heap.size 128 3) :: []) (by show rgC _ t.size=true;rw [hsz];kernel_rfl) (by kernel_rfl) ?hTs ?hops ?hfin
 case hTs =>
  intro T hT;simp only [List.mem_cons,List.not_mem_nil,or_false] at hT
  rcases hT with rfl | rfl | rfl | rfl | rfl | rfl | rfl | rfl | rfl | rfl | rfl | rfl | rfl | rfl <;> first | exact stay_V _ | exact stay_T | exact stay_of (fun v a b x g=>x.keep g) | exact stay_of (fun v a b x g=>x)
 case hops =>
  refine ⟨opOK_rx [(3,none)] (by kernel_rfl) rfl ?_,?_⟩
  ·intro act w' hw' h1;obtain ⟨hk,hf⟩:=evkf act;generalize act.eval=ρ at *;replace h1:ρ (.tmp 3)=.pointer (some ⟨w.heap.size,0,none⟩):=h1.trans (by simp [Act.eval,q3])
   refine gxB hw' fun K hK hc hf'=>?_
   go_simp;exact hK _ _ ⟨rfl,Gr.refl _⟩
  refine ⟨opOK_rx [(12,some 0)] (by kernel_rfl) rfl ?_,?_⟩
  ·intro act w' hw' h1;obtain ⟨hk,hf⟩:=evkf act;generalize act.eval=ρ at *;replace h1:ρ (.tmp 12)=.pointer (some ⟨w.heap.size,0,none⟩):=h1
   refine gxB hw' fun K hK hc hf'=>?_
   go_simp;exact hK _ _ ⟨rfl,Gr.refl _⟩
  refine ⟨opOK_rx [(1,none)] (by kernel_rfl) rfl ?_,?_⟩
  ·intro act w' hw' h1;obtain ⟨hk,hf⟩:=evkf act;generalize act.eval=ρ at *;replace h1:ρ (.tmp 1)=.int .i64 (i:Int):=h1.trans (by simp [Act.eval,q1])
   refine gxB hw' fun K hK hc hf'=>?_
   go_simp;exact hK _ _ ⟨rfl,Gr.refl _⟩
  refine ⟨opOK_rx [(13,some 1),(14,some 2)] (by kernel_rfl) rfl ?_,?_⟩
  ·intro act w' hw' h1 h2;obtain ⟨hk,hf⟩:=evkf act;generalize act.eval=ρ at *;replace h1:ρ (.tmp 13)=.slice (some ⟨b,off,none⟩) R.length c:=h1;replace h2:ρ (.tmp 14)=.int .i64 (i:Int):=h2
   refine gxB hw' fun K hK hc hf'=>?_
   go_simp;exact hK _ _ ⟨rfl,Gr.refl _⟩
  refine ⟨opOK_rx [(15,some 3)] (by kernel_rfl) rfl ?_,?_⟩
  ·intro act w' hw' h1;obtain ⟨hk,hf⟩:=evkf act;generalize act.eval=ρ at *;replace h1:ρ (.tmp 15)=.pointer (some ⟨b,off+i*34,none⟩):=h1
   refine gxB hw' fun K hK hc hf'=>?_
   go_simp;exact hK _ _ ⟨rfl,Gr.refl _⟩
  refine ⟨opOK_rx [(16,some 4)] (by kernel_rfl) rfl ?_,?_⟩
  ·intro act w' hw' h1;obtain ⟨hk,hf⟩:=evkf act;generalize act.eval=ρ at *;replace h1:ρ (.tmp 16)=.pointer (some ⟨b,off+i*34+5,none⟩):=h1
   refine gxB hw' fun K hK hc hf'=>?_
   go_simp;exact hK _ _ ⟨rfl,Gr.refl _⟩
  refine ⟨opOK_rx [(3,none)] (by kernel_rfl) rfl ?_,?_⟩
  ·intro act w' hw' h1;obtain ⟨hk,hf⟩:=evkf act;generalize act.eval=ρ at *;replace h1:ρ (.tmp 3)=.pointer (some ⟨w.heap.size,0,none⟩):=h1.trans (by simp [Act.eval,q3])
   refine gxB hw' fun K hK hc hf'=>?_
   go_simp;exact hK _ _ ⟨rfl,Gr.refl _⟩
  refine ⟨opOK_rx [(18,some 6)] (by kernel_rfl) rfl ?_,?_⟩
  ·intro act w' hw' h1;obtain ⟨hk,hf⟩:=evkf act;generalize act.eval=ρ at *;replace h1:ρ (.tmp 18)=.pointer (some ⟨w.heap.size,0,none⟩):=h1
   refine gxB hw' fun K hK hc hf'=>?_
   go_simp;exact hK _ _ ⟨rfl,Gr.refl _⟩
  refine ⟨opOK_rx [(1,none)] (by kernel_rfl) rfl ?_,?_⟩
  ·intro act w' hw' h1;obtain ⟨hk,hf⟩:=evkf act;generalize act.eval=ρ at *;replace h1:ρ (.tmp 1)=.int .i64 (i:Int):=h1.trans (by simp [Act.eval,q1])
   refine gxB hw' fun K hK hc hf'=>?_
   go_simp;exact hK _ _ ⟨rfl,Gr.refl _⟩
  refine ⟨opOK_rx [(19,some 7),(20,some 8)] (by kernel_rfl) rfl ?_,?_⟩
  ·intro act w' hw' h1 h2;obtain ⟨hk,hf⟩:=evkf act;generalize act.eval=ρ at *;replace h1:ρ (.tmp 19)=.slice (some ⟨b,off,none⟩) R.length c:=h1;replace h2:ρ (.tmp 20)=.int .i64 (i:Int):=h2
   refine gxB hw' fun K hK hc hf'=>?_
   go_simp;exact hK _ _ ⟨rfl,Gr.refl _⟩
  refine ⟨opOK_rx [(21,some 9)] (by kernel_rfl) rfl ?_,?_⟩
  ·intro act w' hw' h1;obtain ⟨hk,hf⟩:=evkf act;generalize act.eval=ρ at *;replace h1:ρ (.tmp 21)=.pointer (some ⟨b,off+i*34,none⟩):=h1
   refine gxB hw' fun K hK hc hf'=>?_
   go_simp;exact hK _ _ ⟨rfl,Gr.refl _⟩
  refine ⟨opOK_rx [(22,some 10)] (by kernel_rfl) rfl ?_,?_⟩
  ·intro act w' hw' h1;obtain ⟨hk,hf⟩:=evkf act;generalize act.eval=ρ at *;replace h1:ρ (.tmp 22)=.pointer (some ⟨b,off+i*34+6,none⟩):=h1
   refine gxB hw' fun K hK hc hf'=>?_
   go_simp;exact hK _ _ ⟨rfl,Gr.refl _⟩
  refine ⟨opOK_rx [(17,some 5),(23,some 11)] (by kernel_rfl) rfl ?_,?_⟩
  ·intro act w' hw' h1 h2;obtain ⟨hk,hf⟩:=evkf act;generalize act.eval=ρ at *;replace h1:ρ (.tmp 17)=.slice p0.ca p0.n.cs.length p0.cc:=h1;replace h2:ρ (.tmp 23)=.slice p0.ra p0.n.rs.length p0.rc:=h2
   refine gxB hw' fun K hK hc hf'=>?_
   go_simp;exact hK _ _ ⟨rfl,Gr.refl _⟩
  refine ⟨opOK_rx [] (by kernel_rfl) rfl ?_,?_⟩
  ·intro act w' hw';obtain ⟨hk,hf⟩:=evkf act;generalize act.eval=ρ at *;refine gx_gen (fun K hK=>?_);obtain ⟨z,hz,hr⟩:=run_allocK (P:=Tryz.prog) (T:=128) w' infz_Grid;simp only [execOp,Sem.run_bind,hr,Result.andThen_ok,Sem.run_pure];exact hK _ _ ⟨⟨_,z,rfl,(bdrewn hw'.out).size,newS _ _,hz⟩,Gr.alloc _ _⟩
  exact trivial
 case hfin =>
  intro w0 hg0;intro v12 t12;replace t12:v12=.pointer (some ⟨w.heap.size,0,none⟩):=t12;subst t12;intro v13 t13;replace t13:v13=.slice (some ⟨b,off,none⟩) R.length c:=t13;subst t13;intro v14 t14;replace t14:v14=.int .i64 (i:Int):=t14;subst t14;intro v15 t15;replace t15:v15=.pointer (some ⟨b,off+i*34,none⟩):=t15;subst t15;intro v16 t16;replace t16:v16=.pointer (some ⟨b,off+i*34+5,none⟩):=t16
  subst t16;intro v17 t17;replace t17:v17=.slice p0.ca p0.n.cs.length p0.cc:=t17;subst t17;intro v18 t18;replace t18:v18=.pointer (some ⟨w.heap.size,0,none⟩):=t18;subst t18;intro v19 t19;replace t19:v19=.slice (some ⟨b,off,none⟩) R.length c:=t19;subst t19;intro v20 t20;replace t20:v20=.int .i64 (i:Int):=t20;subst t20;intro v21 t21;replace t21:v21=.pointer (some ⟨b,off+i*34,none⟩):=t21;subst t21
  intro v22 t22;replace t22:v22=.pointer (some ⟨b,off+i*34+6,none⟩):=t22;subst t22;intro v23 t23;replace t23:v23=.slice p0.ra p0.n.rs.length p0.rc:=t23;subst t23;intro v24 t24;replace t24:v24=.agg (gridAg p0 (.slice none 0 0)).toArray:=t24;subst t24;intro v7 t7;replace t7:(fun v w=>BxZ w v Wa.heap.size 128 3) v7 w0:=t7;have hb0:=bdrewn hg0.out;clear hg0
  simp only [finP,List.take_succ_cons,List.take_zero,Act.put,List.setIfInBounds_toArray,List.set_cons_succ,List.set_cons_zero];obtain ⟨gg,z,rfl,hgx,hhx,hzx⟩:=t7
  refine wpAny_store 14 128 (.tmp 7) (.tmp 24) gg 0 (gridAg p0 (.slice none 0 0)) (by kernel_rfl) (by kernel_rfl) (by kernel_rfl) (by simp [Act.eval,Act.put,hsz]) (by simp [Act.eval,Act.put,hsz]) (thereB hhx (by rw [hzx];show 0+3≤3;omega)) inf_Grid (gridAg_one _ _ _ _) ?_;simp only [Exit.then];refine hK.out _ _ ?_;clear hK K
  refine wp_abw (fun t' W'=>t'.size=60∧t'[2]?=some (.slice B n cb)∧t'[3]?=some (.pointer (some ⟨w.heap.size,0,none⟩))∧t'[6]?=some (.pointer (some ⟨w.heap.size+1,0,none⟩))∧t'[7]?=some (.pointer (some ⟨gg,0,none⟩))∧W'.heap[gg]?=some (.cells (gridAg p0 (.slice none 0 0)).toArray 128 (0,0))∧Below Wa.heap.size Wa W'∧Wa.heap.size≤gg) ⟨by simp [Act.put,hsz],by simp [Act.put,q2],by simp [Act.put,q3],by simp [Act.put,q6],by simp [Act.put,hsz],⟨full_set hhx hzx (gridAg p0 (.slice none 0 0)) rfl,below_setCells hgx _ _ _ hb0,hgx⟩⟩ ?_
  clear hsz q1 l1 e1 q2 l2 e2 q3 l3 e3 q6 l6 e6 t x0 c5 c6 hdi z hhx hzx hgx hb0;rintro t Wb ⟨hsz,q2,q3,q6,q7,hgg,hbb,hgx⟩;have HGG:=hD hgg;have lgg:=ltS hgg;have HB1:=hD hbb;replace HC:=hD (show ∀ k p,R[k]?=some p→Wb.rangeAt b (off+k*34) (valsNr p) from fun k p hk=>rangeB (HC.out k p hk) (hbb.block b hbl));replace HN:=hD (HN.out.keep hbb);replace HXX:=hD ((hbb.block _ lxa).trans HXX.out)
  replace HZZ:=hD ((hbb.block _ lza).trans HZZ.out);have hsab:=hbb.size
  have hbl2:b<Wb.heap.size:=by omega
  have lxb:w.heap.size<Wb.heap.size:=by omega
  have hnxg:w.heap.size≠gg:=by omega
  have hnzg:w.heap.size+1≠gg:=by omega
  have hnbg:b≠gg:=by omega
  clear hgg hbb lxa lza
  refine wp_seq_h fun KE hKE=>?_
  obtain ⟨l2,e2⟩:=gE q2;obtain ⟨l3,e3⟩:=gE q3;obtain ⟨l6,e6⟩:=gE q6;obtain ⟨l7,e7⟩:=gE q7
  refine wp_seq_h fun K hK=>?_
  apply wp_region_lit
  repeat (first | go_step)
  refine hK.out _ _ ?_;clear hK K
  refine wp_abw (fun t' W'=>t'.size=60∧t'[2]?=some (.slice B n cb)∧t'[3]?=some (.pointer (some ⟨w.heap.size,0,none⟩))∧t'[6]?=some (.pointer (some ⟨w.heap.size+1,0,none⟩))∧t'[7]?=some (.pointer (some ⟨gg,0,none⟩))∧t'[8]?=some (.int .i64 ((0:Nat):Int))∧Wb=W') ⟨by simp [Act.put,hsz],by simp [Act.put,q2],by simp [Act.put,q3],by simp [Act.put,q6],by simp [Act.put,q7],by simp [Act.put,hsz],rfl⟩ ?_
  clear hsz q2 l2 e2 q3 l3 e3 q6 l6 e6 q7 l7 e7 t;rintro t _ ⟨hsz,q2,q3,q6,q7,q8,rfl⟩;apply wp_block
  refine wp_loop (fun a W=>∃ (t:Array Value) (k:Nat) (v:Value),a=⟨t,[]⟩∧k≤n∧t.size=60∧t[2]?=some (.slice B n cb)∧t[3]?=some (.pointer (some ⟨w.heap.size,0,none⟩))∧t[6]?=some (.pointer (some ⟨w.heap.size+1,0,none⟩))∧t[7]?=some (.pointer (some ⟨gg,0,none⟩))∧t[8]?=some (.int .i64 (k:Int))∧W.heap[gg]?=some (.cells (gridAg p0 v).toArray 128 (0,0))∧W.ownsRow Wb.heap.size 39 9 v k ((cesF (R.map Nr.n) g (ks.take k)).map valsCe).flatten∧Bl1 gg Wb W) (fun a _=>n-(intOf (a.tmps.getD 8 undef)).toNat) ⟨t,0,_,rfl,by omega,hsz,q2,q3,q6,q7,q8,HGG.out,⟨by simp [cesF],.inl ⟨rfl,rfl⟩⟩,Bl1.refl _ _⟩ ?_
  clear t hsz q2 q3 q6 q7 q8;rintro a W ⟨t,k,v,rfl,hk,hsz,q2,q3,q6,q7,q8,hg1,hO,hG⟩
  have hmu:intOf (t.getD 8 undef)=(k:Int):=by rw [Array.getD_eq_getD_getElem?,q8];rfl
  dsimp only
  rw [hmu];clear hmu;have HW:=hD (hG.toB (bkeep2 HB0.out HB1.out) (Nat.le_trans HB0.out.size hgx));have x0:=cellS ((hG.block _ lxb (fun e=>hnxg (Option.some.inj e))).trans HXX.out) 0;have HO:=hD hO;have HG:=hD hG;have HG1:=hD hg1;have lx:w.heap.size<W.heap.size:=Nat.lt_of_lt_of_le lxb hG.size;clear hO hG hg1
  by_cases hlt:k<n
  ·have hd:decide ((k:Int)<(n:Int))=true:=by simpa using hlt
   refine wp_seq_h fun K1 hK1=>?_
   obtain ⟨l2,e2⟩:=gE q2;obtain ⟨l3,e3⟩:=gE q3;obtain ⟨l6,e6⟩:=gE q6;obtain ⟨l7,e7⟩:=gE q7;obtain ⟨l8,e8⟩:=gE q8
   refine wp_seq_h fun K hK=>?_
   apply wp_region_lit
   repeat (first | go_step)
   refine hK.out _ _ ?_;clear hK K
   refine wp_abw (fun t' W'=>t'.size=60∧t'[2]?=some (.slice B n cb)∧t'[3]?=some (.pointer (some ⟨w.heap.size,0,none⟩))∧t'[6]?=some (.pointer (some ⟨w.heap.size+1,0,none⟩))∧t'[7]?=some (.pointer (some ⟨gg,0,none⟩))∧t'[8]?=some (.int .i64 (k:Int))∧t'[28]?=some (.bool true)∧W=W') ⟨by simp [Act.put,hsz],by simp [Act.put,q2],by simp [Act.put,q3],by simp [Act.put,q6],by simp [Act.put,q7],by simp [Act.put,q8],by simp [Act.put,hsz,hd],rfl⟩ ?_
   clear hsz q2 l2 e2 q3 l3 e3 q6 l6 e6 q7 l7 e7 q8 l8 e8 t;rintro t _ ⟨hsz,q2,q3,q6,q7,q8,q28,rfl⟩;clear hd;refine wp_cond_true (by simp [Act.eval,q28]) ?_;apply wp_skip;simp only [Exit.then];refine hK1.out _ _ ?_;clear hK1 K1 q28
   refine wp_seq_h fun KB hKB=>?_
   apply wp_block
   have hkl:k<ks.length:=by rw [<- HNK.out];exact hlt
   have hkg:ks[k]?=some ks[k]:=List.getElem?_eq_getElem hkl;have hxl:ks[k]<R.length:=HKS.out _ (List.getElem_mem hkl);have hget:R[ks[k]]?=some R[ks[k]]:=List.getElem?_eq_getElem hxl;have hS1:=HS.out _ (List.getElem_mem hkl);have hsn:=cesF_snoc (L:=R.map Nr.n) (g:=g) hkg (m:=R[ks[k]].n) (by rw [List.getElem?_map,hget];rfl);obtain ⟨b2,off2,rfl,hb2,hp2⟩:=HN0.out.cells (by simp;omega)
   have cx0:=hp2 k (ks[k]:Int) (by rw [List.getElem?_map,hkg];rfl);have hrp:=HC0.out _ _ hget;generalize hxe:ks[k]=x at *;have hget2:R[x]?=some (R[x]'hxl):=List.getElem?_eq_getElem hxl;generalize (R[x]'hxl)=p at *
   have hd1:(k:Int)<(n:Int):=by omega
   have hd2:(x:Int)<(R.length:Int):=by omega
   have HCX:=hD (show ∀ W',Below w.heap.size w W'→W'.cell? ⟨b2,off2+k,none⟩=some (.int .i64 (x:Int)) from fun W' hW'=>(hW'.cell (p:=⟨b2,off2+k,none⟩) hb2).trans cx0);have cx:=HCX.out W HW.out;have lb2:b2<W.heap.size:=Nat.lt_of_lt_of_le hb2 HW.out.size;have hbl1:b<W.heap.size:=Nat.lt_of_lt_of_le hb0w HW.out.size
   have HRP:=hD (show W.rangeAt b (off+x*34) (valsNr p) from rangeB hrp (HW.out.block b hb0w));have HS1:=hD hS1;have HSN:=hD hsn;have hgg0:gg<W.heap.size:=ltS HG1.out;have HOL:=hD (show ∀ k,v.ownBlock=some k→k<W.heap.size from fun k e=>(HO.out.lt k e).2);have hb2':=hb2;clear hp2 hrp hS1 hsn hkg hget hget2 hxe hxl hkl cx0;obtain ⟨l2,e2⟩:=gE q2;obtain ⟨l3,e3⟩:=gE q3;obtain ⟨l6,e6⟩:=gE q6
   obtain ⟨l7,e7⟩:=gE q7;obtain ⟨l8,e8⟩:=gE q8
   refine wp_seq_h fun K hK=>?_
   refine wp_region_any (by kernel_rfl) ?_
   refine wpAny_rxp 10 1 #[true,true,true,true,true,true,true,true,true,true,false] (by kernel_rfl) (by kernel_rfl) (XV (.pointer (some ⟨w.heap.size,0,none⟩)) :: XV (.slice (some ⟨b,off,none⟩) R.length c) :: XV (.slice (some ⟨b2,off2,none⟩) n cb) :: XV (.int .i64 (k:Int)) :: XV (.pointer (some ⟨b2,off2+k,none⟩)) :: XV (.int .i64 (x:Int)) :: XV (.pointer (some ⟨b,off+x*34,none⟩)) :: XV (.pointer (some ⟨b,off+x*34+16,none⟩)) :: XV (.agg (valsCe p.n.ce).toArray) :: (fun v w=>BxZ w v W.heap.size 39 9) :: []) (by show rgC _ t.size=true;rw [hsz];kernel_rfl) (by kernel_rfl) ?hTs ?hops ?hfin
   case hTs =>
    intro T hT;simp only [List.mem_cons,List.not_mem_nil,or_false] at hT
    rcases hT with rfl | rfl | rfl | rfl | rfl | rfl | rfl | rfl | rfl | rfl <;> first | exact stay_V _ | exact stay_T | exact stay_of (fun v a b x g=>x.keep g) | exact stay_of (fun v a b x g=>x)
   case hops =>
    refine ⟨opOK_rx [(3,none)] (by kernel_rfl) rfl ?_,?_⟩
    ·intro act w' hw' h1;obtain ⟨hk,hf⟩:=evkf act;generalize act.eval=ρ at *;replace h1:ρ (.tmp 3)=.pointer (some ⟨w.heap.size,0,none⟩):=h1.trans (by simp [Act.eval,q3])
     refine gxB hw' fun K hK hc hf'=>?_
     go_simp;exact hK _ _ ⟨rfl,Gr.refl _⟩
    refine ⟨opOK_rx [(31,some 0)] (by kernel_rfl) rfl ?_,?_⟩
    ·intro act w' hw' h1;obtain ⟨hk,hf⟩:=evkf act;generalize act.eval=ρ at *;replace h1:ρ (.tmp 31)=.pointer (some ⟨w.heap.size,0,none⟩):=h1
     refine gxB hw' fun K hK hc hf'=>?_
     go_simp;exact hK _ _ ⟨rfl,Gr.refl _⟩
    refine ⟨opOK_rx [(2,none)] (by kernel_rfl) rfl ?_,?_⟩
    ·intro act w' hw' h1;obtain ⟨hk,hf⟩:=evkf act;generalize act.eval=ρ at *;replace h1:ρ (.tmp 2)=.slice (some ⟨b2,off2,none⟩) n cb:=h1.trans (by simp [Act.eval,q2])
     refine gxB hw' fun K hK hc hf'=>?_
     go_simp;exact hK _ _ ⟨rfl,Gr.refl _⟩
    refine ⟨opOK_rx [(8,none)] (by kernel_rfl) rfl ?_,?_⟩
    ·intro act w' hw' h1;obtain ⟨hk,hf⟩:=evkf act;generalize act.eval=ρ at *;replace h1:ρ (.tmp 8)=.int .i64 (k:Int):=h1.trans (by simp [Act.eval,q8])
     refine gxB hw' fun K hK hc hf'=>?_
     go_simp;exact hK _ _ ⟨rfl,Gr.refl _⟩
    refine ⟨opOK_rx [(33,some 2),(34,some 3)] (by kernel_rfl) rfl ?_,?_⟩
    ·intro act w' hw' h1 h2;obtain ⟨hk,hf⟩:=evkf act;generalize act.eval=ρ at *;replace h1:ρ (.tmp 33)=.slice (some ⟨b2,off2,none⟩) n cb:=h1;replace h2:ρ (.tmp 34)=.int .i64 (k:Int):=h2
     refine gxB hw' fun K hK hc hf'=>?_
     go_simp;exact hK _ _ ⟨rfl,Gr.refl _⟩
    refine ⟨opOK_rx [(35,some 4)] (by kernel_rfl) rfl ?_,?_⟩
    ·intro act w' hw' h1;obtain ⟨hk,hf⟩:=evkf act;generalize act.eval=ρ at *;replace h1:ρ (.tmp 35)=.pointer (some ⟨b2,off2+k,none⟩):=h1
     refine gxB hw' fun K hK hc hf'=>?_
     go_simp;exact hK _ _ ⟨rfl,Gr.refl _⟩
    refine ⟨opOK_rx [(32,some 1),(36,some 5)] (by kernel_rfl) rfl ?_,?_⟩
    ·intro act w' hw' h1 h2;obtain ⟨hk,hf⟩:=evkf act;generalize act.eval=ρ at *;replace h1:ρ (.tmp 32)=.slice (some ⟨b,off,none⟩) R.length c:=h1;replace h2:ρ (.tmp 36)=.int .i64 (x:Int):=h2
     refine gxB hw' fun K hK hc hf'=>?_
     go_simp;exact hK _ _ ⟨rfl,Gr.refl _⟩
    refine ⟨opOK_rx [(37,some 6)] (by kernel_rfl) rfl ?_,?_⟩
    ·intro act w' hw' h1;obtain ⟨hk,hf⟩:=evkf act;generalize act.eval=ρ at *;replace h1:ρ (.tmp 37)=.pointer (some ⟨b,off+x*34,none⟩):=h1
     refine gxB hw' fun K hK hc hf'=>?_
     go_simp;exact hK _ _ ⟨rfl,Gr.refl _⟩
    refine ⟨opOK_rx [(38,some 7)] (by kernel_rfl) rfl ?_,?_⟩
    ·intro act w' hw' h1;obtain ⟨hk,hf⟩:=evkf act;generalize act.eval=ρ at *;replace h1:ρ (.tmp 38)=.pointer (some ⟨b,off+x*34+16,none⟩):=h1;refine gx_gen (fun K hK=>?_)
     simp only [execOp,h1,Instr.loadAt,Instr.sureAddr,Sem.run_bind,Sem.run_pure,Result.andThen_ok,run_loadVar_mid w' b (off+x*34+16) 39 (valsCe p.n.ce) _ (rangeB (node_ce HRP.out) ((bdrewn hw'.out).block b hbl1)) Tryz.underlying39 rfl inf_Cell];exact hK _ _ ⟨rfl,Gr.refl _⟩
    refine ⟨opOK_rx [] (by kernel_rfl) rfl ?_,?_⟩
    ·intro act w' hw';obtain ⟨hk,hf⟩:=evkf act;generalize act.eval=ρ at *;refine gx_gen (fun K hK=>?_);obtain ⟨z,hz,hr⟩:=run_allocK (P:=Tryz.prog) (T:=39) w' infz_Cell;simp only [execOp,Sem.run_bind,hr,Result.andThen_ok,Sem.run_pure];exact hK _ _ ⟨⟨_,z,rfl,(bdrewn hw'.out).size,newS _ _,hz⟩,Gr.alloc _ _⟩
    exact trivial
   case hfin =>
    intro w1 hg1;intro v31 t31;replace t31:v31=.pointer (some ⟨w.heap.size,0,none⟩):=t31;subst t31;intro v32 t32;replace t32:v32=.slice (some ⟨b,off,none⟩) R.length c:=t32;subst t32;intro v33 t33;replace t33:v33=.slice (some ⟨b2,off2,none⟩) n cb:=t33;subst t33;intro v34 t34;replace t34:v34=.int .i64 (k:Int):=t34;subst t34;intro v35 t35;replace t35:v35=.pointer (some ⟨b2,off2+k,none⟩):=t35
    subst t35;intro v36 t36;replace t36:v36=.int .i64 (x:Int):=t36;subst t36;intro v37 t37;replace t37:v37=.pointer (some ⟨b,off+x*34,none⟩):=t37;subst t37;intro v38 t38;replace t38:v38=.pointer (some ⟨b,off+x*34+16,none⟩):=t38;subst t38;intro v39 t39;replace t39:v39=.agg (valsCe p.n.ce).toArray:=t39;subst t39;intro v9 t9;replace t9:(fun v w=>BxZ w v W.heap.size 39 9) v9 w1:=t9
    have hb1:=bdrewn hg1.out;clear hg1;simp only [finP,List.take_succ_cons,List.take_zero,Act.put,List.setIfInBounds_toArray,List.set_cons_succ,List.set_cons_zero];obtain ⟨gx,z,rfl,hgx2,hhx,hzx⟩:=t9
    refine wpAny_store 10 39 (.tmp 9) (.tmp 39) gx 0 (valsCe p.n.ce) (by kernel_rfl) (by kernel_rfl) (by kernel_rfl) (by simp [Act.eval,Act.put,hsz]) (by simp [Act.eval,Act.put,hsz]) (thereB hhx (by rw [hzx];show 0+9≤9;omega)) inf_Cell (valsCe_one _) ?_;simp only [Exit.then];refine hK.out _ _ ?_;clear hK K
    refine wp_abw (fun t' W'=>t'.size=60∧t'[2]?=some (.slice (some ⟨b2,off2,none⟩) n cb)∧t'[3]?=some (.pointer (some ⟨w.heap.size,0,none⟩))∧t'[6]?=some (.pointer (some ⟨w.heap.size+1,0,none⟩))∧t'[7]?=some (.pointer (some ⟨gg,0,none⟩))∧t'[8]?=some (.int .i64 (k:Int))∧t'[9]?=some (.pointer (some ⟨gx,0,none⟩))∧W'.heap[gx]?=some (.cells (valsCe p.n.ce).toArray 39 (0,0))∧Below W.heap.size W W'∧W.heap.size≤gx) ⟨by simp [Act.put,hsz],by simp [Act.put,q2],by simp [Act.put,q3],by simp [Act.put,q6],by simp [Act.put,q7],by simp [Act.put,q8],by simp [Act.put,hsz],⟨full_set hhx hzx (valsCe p.n.ce) rfl,below_setCells hgx2 _ _ _ hb1,hgx2⟩⟩ ?_
    clear hsz q2 l2 e2 q3 l3 e3 q6 l6 e6 q7 l7 e7 q8 l8 e8 t x0 lx hbl1 hd2 cx lb2 z hhx hzx hgx2 hb1;rintro t W1 ⟨hsz,q2,q3,q6,q7,q8,q9,hgp,hb2,hgx2⟩;have HGP:=hD hgp;replace HO:=hD (own_bw HO.out hb2);have hsw:Wb.heap.size≤W.heap.size:=HG.out.size;replace HG:=hD (HG.out.below hb2);replace HW:=hD (bkeep2 HW.out hb2);replace HG1:=hD ((hb2.block _ hgg0).trans HG1.out);clear hb2 hgp hgg0
    have y0:=cellS ((HG.out.block _ lxb (fun e=>hnxg (Option.some.inj e))).trans HXX.out) 0;have lx:w.heap.size<W1.heap.size:=Nat.lt_of_lt_of_le lxb HG.out.size;have cy:W1.cell? ⟨b2,off2+k,none⟩=some (.int .i64 (x:Int)):=HCX.out W1 HW.out;have lb2:b2<W1.heap.size:=Nat.lt_of_lt_of_le hb2' HW.out.size;obtain ⟨l2,e2⟩:=gE q2;obtain ⟨l3,e3⟩:=gE q3;obtain ⟨l6,e6⟩:=gE q6;obtain ⟨l7,e7⟩:=gE q7
    obtain ⟨l8,e8⟩:=gE q8;obtain ⟨l9,e9⟩:=gE q9
    refine wp_seq_h fun K hK=>?_
    refine wp_region_any (by kernel_rfl) ?_
    refine wpAny_rxp 11 0 #[true,true,true,true,true,true,true,true,true,true,true] (by kernel_rfl) (by kernel_rfl) (XV (.agg #[.slice (some ⟨b,off,none⟩) R.length c]) :: XV (.slice (some ⟨b2,off2,none⟩) n cb) :: XV (.int .i64 (k:Int)) :: XV (.pointer (some ⟨b2,off2+k,none⟩)) :: XV (.int .i64 (x:Int)) :: XV (.tuple #[.int .i64 (g x).1,.int .i64 (g x).2]) :: XV (.tuple #[.int .i64 (g x).1,.int .i64 (g x).2]) :: XV (.int .i64 (g x).1) :: XV (.int .i64 (g x).2) :: XV (.int .i64 (g x).1) :: XV (.int .i64 (g x).2) :: []) (by show rgC _ t.size=true;rw [hsz];kernel_rfl) (by kernel_rfl) ?hTs ?hops ?hfin
    case hTs =>
     intro T hT;simp only [List.mem_cons,List.not_mem_nil,or_false] at hT
     rcases hT with rfl | rfl | rfl | rfl | rfl | rfl | rfl | rfl | rfl | rfl | rfl <;> first | exact stay_V _ | exact stay_T | exact stay_of (fun v a b x g=>x.keep g) | exact stay_of (fun v a b x g=>x)
    case hops =>
     refine ⟨opOK_rx [(3,none)] (by kernel_rfl) rfl ?_,?_⟩
     ·intro act w' hw' h1;obtain ⟨hk,hf⟩:=evkf act;generalize act.eval=ρ at *;replace h1:ρ (.tmp 3)=.pointer (some ⟨w.heap.size,0,none⟩):=h1.trans (by simp [Act.eval,q3])
      refine gxB hw' fun K hK hc hf'=>?_
      go_simp;exact hK _ _ ⟨rfl,Gr.refl _⟩
     refine ⟨opOK_rx [(2,none)] (by kernel_rfl) rfl ?_,?_⟩
     ·intro act w' hw' h1;obtain ⟨hk,hf⟩:=evkf act;generalize act.eval=ρ at *;replace h1:ρ (.tmp 2)=.slice (some ⟨b2,off2,none⟩) n cb:=h1.trans (by simp [Act.eval,q2])
      refine gxB hw' fun K hK hc hf'=>?_
      go_simp;exact hK _ _ ⟨rfl,Gr.refl _⟩
     refine ⟨opOK_rx [(8,none)] (by kernel_rfl) rfl ?_,?_⟩
     ·intro act w' hw' h1;obtain ⟨hk,hf⟩:=evkf act;generalize act.eval=ρ at *;replace h1:ρ (.tmp 8)=.int .i64 (k:Int):=h1.trans (by simp [Act.eval,q8])
      refine gxB hw' fun K hK hc hf'=>?_
      go_simp;exact hK _ _ ⟨rfl,Gr.refl _⟩
     refine ⟨opOK_rx [(42,some 1),(43,some 2)] (by kernel_rfl) rfl ?_,?_⟩
     ·intro act w' hw' h1 h2;obtain ⟨hk,hf⟩:=evkf act;generalize act.eval=ρ at *;replace h1:ρ (.tmp 42)=.slice (some ⟨b2,off2,none⟩) n cb:=h1;replace h2:ρ (.tmp 43)=.int .i64 (k:Int):=h2
      refine gxB hw' fun K hK hc hf'=>?_
      go_simp;exact hK _ _ ⟨rfl,Gr.refl _⟩
     refine ⟨opOK_rx [(44,some 3)] (by kernel_rfl) rfl ?_,?_⟩
     ·intro act w' hw' h1;obtain ⟨hk,hf⟩:=evkf act;generalize act.eval=ρ at *;replace h1:ρ (.tmp 44)=.pointer (some ⟨b2,off2+k,none⟩):=h1
      refine gxB hw' fun K hK hc hf'=>?_
      go_simp;exact hK _ _ ⟨rfl,Gr.refl _⟩
     refine ⟨opOK_rx [(41,some 0),(45,some 4)] (by kernel_rfl) rfl ?_,?_⟩
     ·intro act w' hw' h1 h2;obtain ⟨hk,hf⟩:=evkf act;generalize act.eval=ρ at *;replace h1:ρ (.tmp 41)=.agg #[.slice (some ⟨b,off,none⟩) R.length c]:=h1;replace h2:ρ (.tmp 45)=.int .i64 (x:Int):=h2
      refine gxB hw' fun K hK hc hf'=>?_
      go_simp
      (refine (HS1.out _ (bkeep2 HW.out (bdrewn hw'.out))).mono ?_);rintro e w1 ⟨rfl,hb1⟩;exact ⟨_,rfl,hK _ _ ⟨rfl,hb1⟩⟩
     refine ⟨opOK_rx [(46,some 5)] (by kernel_rfl) rfl ?_,?_⟩
     ·intro act w' hw' h1;obtain ⟨hk,hf⟩:=evkf act;generalize act.eval=ρ at *;replace h1:ρ (.tmp 46)=.tuple #[.int .i64 (g x).1,.int .i64 (g x).2]:=h1
      refine gxB hw' fun K hK hc hf'=>?_
      go_simp;exact hK _ _ ⟨rfl,Gr.refl _⟩
     refine ⟨opOK_rx [(40,some 6)] (by kernel_rfl) rfl ?_,?_⟩
     ·intro act w' hw' h1;obtain ⟨hk,hf⟩:=evkf act;generalize act.eval=ρ at *;replace h1:ρ (.tmp 40)=.tuple #[.int .i64 (g x).1,.int .i64 (g x).2]:=h1
      refine gxB hw' fun K hK hc hf'=>?_
      go_simp;exact hK _ _ ⟨rfl,Gr.refl _⟩
     refine ⟨opOK_rx [(40,some 6)] (by kernel_rfl) rfl ?_,?_⟩
     ·intro act w' hw' h1;obtain ⟨hk,hf⟩:=evkf act;generalize act.eval=ρ at *;replace h1:ρ (.tmp 40)=.tuple #[.int .i64 (g x).1,.int .i64 (g x).2]:=h1
      refine gxB hw' fun K hK hc hf'=>?_
      go_simp;exact hK _ _ ⟨rfl,Gr.refl _⟩
     refine ⟨opOK_rx [(47,some 7)] (by kernel_rfl) rfl ?_,?_⟩
     ·intro act w' hw' h1;obtain ⟨hk,hf⟩:=evkf act;generalize act.eval=ρ at *;replace h1:ρ (.tmp 47)=.int .i64 (g x).1:=h1
      refine gxB hw' fun K hK hc hf'=>?_
      go_simp;exact hK _ _ ⟨rfl,Gr.refl _⟩
     refine ⟨opOK_rx [(48,some 8)] (by kernel_rfl) rfl ?_,?_⟩
     ·intro act w' hw' h1;obtain ⟨hk,hf⟩:=evkf act;generalize act.eval=ρ at *;replace h1:ρ (.tmp 48)=.int .i64 (g x).2:=h1
      refine gxB hw' fun K hK hc hf'=>?_
      go_simp;exact hK _ _ ⟨rfl,Gr.refl _⟩
     exact trivial
    case hfin =>
     intro w2 hg2;intro v41 t41;replace t41:v41=.agg #[.slice (some ⟨b,off,none⟩) R.length c]:=t41;subst t41;intro v42 t42;replace t42:v42=.slice (some ⟨b2,off2,none⟩) n cb:=t42;subst t42;intro v43 t43;replace t43:v43=.int .i64 (k:Int):=t43;subst t43;intro v44 t44;replace t44:v44=.pointer (some ⟨b2,off2+k,none⟩):=t44;subst t44;intro v45 t45;replace t45:v45=.int .i64 (x:Int):=t45;subst t45
     intro v46 t46;replace t46:v46=.tuple #[.int .i64 (g x).1,.int .i64 (g x).2]:=t46;subst t46;intro v40 t40;replace t40:v40=.tuple #[.int .i64 (g x).1,.int .i64 (g x).2]:=t40;subst t40;intro v47 t47;replace t47:v47=.int .i64 (g x).1:=t47;subst t47;intro v48 t48;replace t48:v48=.int .i64 (g x).2:=t48;subst t48;intro v10 t10;replace t10:v10=.int .i64 (g x).1:=t10;subst t10;intro v11 t11
     replace t11:v11=.int .i64 (g x).2:=t11;subst t11;have hb2:=bdrewn hg2.out;clear hg2;simp only [finP,List.take_succ_cons,List.take_zero,Act.put,List.setIfInBounds_toArray,List.set_cons_succ,List.set_cons_zero];refine wpAny_end (by kernel_rfl) ?_;simp only [Exit.then];refine hK.out _ _ ?_;clear hK K y0 cy
     refine wp_abw (fun t' W'=>t'.size=60∧t'[2]?=some (.slice (some ⟨b2,off2,none⟩) n cb)∧t'[3]?=some (.pointer (some ⟨w.heap.size,0,none⟩))∧t'[6]?=some (.pointer (some ⟨w.heap.size+1,0,none⟩))∧t'[7]?=some (.pointer (some ⟨gg,0,none⟩))∧t'[8]?=some (.int .i64 (k:Int))∧t'[9]?=some (.pointer (some ⟨gx,0,none⟩))∧t'[10]?=some (.int .i64 (g x).1)∧t'[11]?=some (.int .i64 (g x).2)∧W'.heap[gx]?=some (.cells (valsCe p.n.ce).toArray 39 (0,0))∧Below W1.heap.size W1 W') ⟨by simp [Act.put,hsz],by simp [Act.put,q2],by simp [Act.put,q3],by simp [Act.put,q6],by simp [Act.put,q7],by simp [Act.put,q8],by simp [Act.put,q9],by simp [Act.put,hsz],by simp [Act.put,hsz],⟨(hb2.block _ (ltS HGP.out)).trans HGP.out,hb2⟩⟩ ?_
     clear hsz q2 l2 e2 q3 l3 e3 q6 l6 e6 q7 l7 e7 q8 l8 e8 q9 l9 e9 t hb2;rintro t W2 ⟨hsz,q2,q3,q6,q7,q8,q9,q10,q11,hgp,hb2⟩;replace HO:=hD (own_bw HO.out hb2);replace HG1:=hD ((hb2.block _ (ltS HG1.out)).trans HG1.out);replace HG:=hD (HG.out.below hb2);clear hb2 lx lb2 HGP HW;have fz0:=frozenS hgp 4;obtain ⟨y1,z1⟩:=thereS hgp (i:=4) (by show 4<9;omega);have lgx:=ltS hgp;obtain ⟨l2,e2⟩:=gE q2
     obtain ⟨l3,e3⟩:=gE q3;obtain ⟨l6,e6⟩:=gE q6;obtain ⟨l7,e7⟩:=gE q7;obtain ⟨l8,e8⟩:=gE q8;obtain ⟨l9,e9⟩:=gE q9;obtain ⟨l10,e10⟩:=gE q10;obtain ⟨l11,e11⟩:=gE q11
     refine wp_seq_h fun K hK=>?_
     apply wp_region_lit
     repeat (first | go_step)
     refine hK.out _ _ ?_;clear hK K
     refine wp_abw (fun t' W'=>t'.size=60∧t'[2]?=some (.slice (some ⟨b2,off2,none⟩) n cb)∧t'[3]?=some (.pointer (some ⟨w.heap.size,0,none⟩))∧t'[6]?=some (.pointer (some ⟨w.heap.size+1,0,none⟩))∧t'[7]?=some (.pointer (some ⟨gg,0,none⟩))∧t'[8]?=some (.int .i64 (k:Int))∧t'[9]?=some (.pointer (some ⟨gx,0,none⟩))∧t'[10]?=some (.int .i64 (g x).1)∧t'[11]?=some (.int .i64 (g x).2)∧W'.heap[gx]?=some (.cells ((valsCe p.n.ce).toArray.setIfInBounds 4 (.int .i64 (g x).1)) 39 (0,0))∧W2.grownBy W' (some gx)) ⟨by simp [Act.put,hsz],by simp [Act.put,q2],by simp [Act.put,q3],by simp [Act.put,q6],by simp [Act.put,q7],by simp [Act.put,q8],by simp [Act.put,q9],by simp [Act.put,q10],by simp [Act.put,q11],⟨putS hgp _,gsetS (greflS _ gx) _ _⟩⟩ ?_
     clear hsz q2 l2 e2 q3 l3 e3 q6 l6 e6 q7 l7 e7 q8 l8 e8 q9 l9 e9 q10 l10 e10 q11 l11 e11 t fz0 z1 y1 lgx;rintro t W3 ⟨hsz,q2,q3,q6,q7,q8,q9,q10,q11,hgp3,hgr3⟩;have fz0:=frozenS hgp3 5;obtain ⟨y1,z1⟩:=thereS hgp3 (i:=5) (by show 5<9;omega);have lgx:=ltS hgp3;obtain ⟨l2,e2⟩:=gE q2;obtain ⟨l3,e3⟩:=gE q3;obtain ⟨l6,e6⟩:=gE q6;obtain ⟨l7,e7⟩:=gE q7;obtain ⟨l8,e8⟩:=gE q8;obtain ⟨l9,e9⟩:=gE q9
     obtain ⟨l10,e10⟩:=gE q10;obtain ⟨l11,e11⟩:=gE q11
     refine wp_seq_h fun K hK=>?_
     apply wp_region_lit
     repeat (first | go_step)
     refine hK.out _ _ ?_;clear hK K
     refine wp_abw (fun t' W'=>t'.size=60∧t'[2]?=some (.slice (some ⟨b2,off2,none⟩) n cb)∧t'[3]?=some (.pointer (some ⟨w.heap.size,0,none⟩))∧t'[6]?=some (.pointer (some ⟨w.heap.size+1,0,none⟩))∧t'[7]?=some (.pointer (some ⟨gg,0,none⟩))∧t'[8]?=some (.int .i64 (k:Int))∧t'[9]?=some (.pointer (some ⟨gx,0,none⟩))∧t'[10]?=some (.int .i64 (g x).1)∧t'[11]?=some (.int .i64 (g x).2)∧W'.heap[gx]?=some (.cells (valsCe (ceOf p.n (g x))).toArray 39 (0,0))∧W2.grownBy W' (some gx)) ⟨by simp [Act.put,hsz],by simp [Act.put,q2],by simp [Act.put,q3],by simp [Act.put,q6],by simp [Act.put,q7],by simp [Act.put,q8],by simp [Act.put,q9],by simp [Act.put,q10],by simp [Act.put,q11],⟨putS hgp3 _,gsetS hgr3 _ _⟩⟩ ?_
     clear hsz q2 l2 e2 q3 l3 e3 q6 l6 e6 q7 l7 e7 q8 l8 e8 q9 l9 e9 q10 l10 e10 q11 l11 e11 t fz0 z1 y1 lgx hgp3 hgr3;rintro t W4 ⟨hsz,q2,q3,q6,q7,q8,q9,q10,q11,hgp4,hgr4⟩;have hgxb:Wb.heap.size≤gx:=Nat.le_trans hsw hgx2
     have hne:∀ k,v.ownBlock=some k→k<gx:=fun k e=>Nat.lt_of_lt_of_le (HOL.out k e) hgx2
     have HO4:=hD (own_other HO.out hgr4 (fun e=>absurd (hne _ e) (Nat.lt_irrefl _)));have HG4:=hD (HG.out.grown hgr4 hgxb)
     have hggx:gg≠gx:=by omega
     replace HG1:=hD ((hgr4.block gg (ltS HG1.out) (fun e=>hggx (Option.some.inj e))).trans HG1.out);clear HO HG hgr4 hgp;have HR:=hD (show W4.rangeAt gx 0 (valsCe (ceOf p.n (g x))) from fun j v hj=>by rw [Nat.zero_add];exact (cellS hgp4 j).trans (by simpa using hj));have hob:∀ b,v.ownBlock=some b→Wb.heap.size≤b∧b<W4.heap.size:=HO4.out.lt;have hw4:Wb.heap.size≤W4.heap.size:=HG4.out.size
     have v2:=cellS HG1.out 2;rw [show (gridAg p0 v).toArray[2]?=some v from rfl] at v2;have lg4:=ltS HG1.out;obtain ⟨vA,vc,rfl⟩:=own_shape HO4.out;obtain ⟨l2,e2⟩:=gE q2;obtain ⟨l3,e3⟩:=gE q3;obtain ⟨l6,e6⟩:=gE q6;obtain ⟨l7,e7⟩:=gE q7;obtain ⟨l8,e8⟩:=gE q8;obtain ⟨l9,e9⟩:=gE q9;obtain ⟨l10,e10⟩:=gE q10;obtain ⟨l11,e11⟩:=gE q11;apply wp_region_lit
     repeat (first|((with_reducible show wpList _ _ _ _ _ _);refine ldK 39 _ [.int .i64 p.n.ce.co,.int .i64 p.n.ce.ro,.int .i64 p.n.ce.mc,.int .i64 p.n.ce.mr,.int .i64 (g x).1,.int .i64 (g x).2,.int .i64 p.n.ce.sk,.int .i64 p.n.ce.px,.int .i64 p.n.ce.py] gx 0 rfl rfl HR.out Tryz.underlying39 rfl inf_Cell (by simp [Act.eval,Act.put,hsz,e9]) ?_)|((with_reducible show wpList _ _ _ _ _ _);refine wpList_append_own _ rfl _ _ 126 rfl Wb.heap.size 39 ti tz 9 72 Tryz.underlying126 ti1 ti2 ti3 ti4 ti5 (by decide) (.slice vA k vc) _ _ (by simp [Act.eval,Act.put,hsz]) (HO4.out.alloc _) ⟨W4.heap.size,0,none⟩ 1 1 (valsCe (ceOf p.n (g x))) (by simp [Act.eval,Act.put,hsz]) rfl (newK _ (valsCe (ceOf p.n (g x))) _) (valsCe_one _) (by simp only [maxLen];omega) (by omega) (by simp;omega) ?_) | go_step)
     intro v5 w5 how5 hgr5 _;have hG5:=HG4.out.own hgr5 (fun k e=>(hob k e).1);rw [show ((cesF (R.map Nr.n) g (ks.take k)).map valsCe).flatten ++ valsCe (ceOf p.n (g x))=((cesF (R.map Nr.n) g (ks.take (k+1))).map valsCe).flatten by rw [HSN.out,List.map_append,List.flatten_append];simp] at how5
     have hg5:w5.heap[gg]?=some (.cells (gridAg p0 (.slice vA k vc)).toArray 128 (0,0)):=(hgr5.block gg (by simp;omega) (fun e=>by have:=(hob gg e.symm).1;omega)).trans ((Below.heap_alloc _ _ _ (by omega)).trans HG1.out);obtain ⟨vB,vd,rfl⟩:=own_shape how5;have fz0:=frozenS hg5 2;have z1:=cellS hg5 2;rw [show (gridAg p0 (.slice vA k vc)).toArray[2]?=some (.slice vA k vc) from rfl] at z1
     have lg5:=ltS hg5;clear v2 lg4
     repeat go_step
     try simp only [Exit.inBlock]
     refine hKB.out _ _ ?_;clear hKB KB
     refine wp_abw (fun t' W'=>t'.size=60∧t'[2]?=some (.slice (some ⟨b2,off2,none⟩) n cb)∧t'[3]?=some (.pointer (some ⟨w.heap.size,0,none⟩))∧t'[6]?=some (.pointer (some ⟨w.heap.size+1,0,none⟩))∧t'[7]?=some (.pointer (some ⟨gg,0,none⟩))∧t'[8]?=some (.int .i64 (k:Int))∧W'.heap[gg]?=some (.cells (gridAg p0 (.slice vB (k+1) vd)).toArray 128 (0,0))∧W'.ownsRow Wb.heap.size 39 9 (.slice vB (k+1) vd) (k+1) ((cesF (R.map Nr.n) g (ks.take (k+1))).map valsCe).flatten∧Bl1 gg Wb W') ⟨by simp [Act.put,hsz],by simp [Act.put,q2],by simp [Act.put,q3],by simp [Act.put,q6],by simp [Act.put,q7],by simp [Act.put,q8],⟨putS hg5 _,own_other how5 (gsetS (greflS _ gg) _ _) (fun e=>by have:=(how5.lt gg e).1;omega),gsetS hG5 _ _⟩⟩ ?_
     clear hsz q2 l2 e2 q3 l3 e3 q6 l6 e6 q7 l7 e7 q8 l8 e8 q9 l9 e9 q10 l10 e10 q11 l11 e11 t hob hw4 hgxb hne HR hgp4 fz0 z1 lg5;rintro t W6 ⟨hsz,q2,q3,q6,q7,q8,hgF,hOF,hGF⟩;obtain ⟨l2,e2⟩:=gE q2;obtain ⟨l3,e3⟩:=gE q3;obtain ⟨l6,e6⟩:=gE q6;obtain ⟨l7,e7⟩:=gE q7;obtain ⟨l8,e8⟩:=gE q8;apply wp_region_lit
     repeat go_step
     try simp only [Exit.then]
     refine ⟨⟨_,k+1,_,rfl,by omega,by simp [hsz],by simp [q2],by simp [q3],by simp [q6],by simp [q7],by simp [hsz],hgF,hOF,hGF⟩,?_⟩
     ·simp [hsz,intOf]
      omega
  ·have hd:decide ((k:Int)<(n:Int))=false:=decide_eq_false (by omega)
   refine wp_seq_h fun K1 hK1=>?_
   obtain ⟨l2,e2⟩:=gE q2;obtain ⟨l3,e3⟩:=gE q3;obtain ⟨l6,e6⟩:=gE q6;obtain ⟨l7,e7⟩:=gE q7;obtain ⟨l8,e8⟩:=gE q8
   refine wp_seq_h fun K hK=>?_
   apply wp_region_lit
   repeat (first | go_step)
   refine hK.out _ _ ?_;clear hK K
   refine wp_abw (fun t' W'=>t'.size=60∧t'[2]?=some (.slice B n cb)∧t'[3]?=some (.pointer (some ⟨w.heap.size,0,none⟩))∧t'[6]?=some (.pointer (some ⟨w.heap.size+1,0,none⟩))∧t'[7]?=some (.pointer (some ⟨gg,0,none⟩))∧t'[8]?=some (.int .i64 (k:Int))∧t'[28]?=some (.bool false)∧W=W') ⟨by simp [Act.put,hsz],by simp [Act.put,q2],by simp [Act.put,q3],by simp [Act.put,q6],by simp [Act.put,q7],by simp [Act.put,q8],by simp [Act.put,hsz,hd],rfl⟩ ?_
   clear hsz q2 l2 e2 q3 l3 e3 q6 l6 e6 q7 l7 e7 q8 l8 e8 t;rintro t _ ⟨hsz,q2,q3,q6,q7,q8,q28,rfl⟩;refine wp_cond_false (by simp [Act.eval,q28]) ?_;apply wp_exit;simp only [Exit.then,Exit.inBlock,if_true];refine hKE.out _ _ ?_;clear hd q28
   obtain rfl:k=n:=by omega
   have hall:ks.take k=ks:=List.take_of_length_le (by rw [HNK.out];exact Nat.le_refl _);have hO:=HO.out;rw [hall] at hO
   have hlen:k=((cesF (R.map Nr.n) g ks).map valsCe).length:=by
    have:=cesF_take_len (L:=R.map Nr.n) (g:=g) (ks:=ks) (by simpa using HKS.out) k (by rw [HNK.out];exact Nat.le_refl _)
    rw [hall] at this;rw [List.length_map,this]
   obtain ⟨A',c',rfl,hrv,_⟩:=own_rvK hO hlen (fun vs hv=>by obtain ⟨q,_,rfl⟩:=List.mem_map.1 hv;rfl);have HRV:=hD hrv;have HR:=hD (show W.rangeAt gg 0 (gridAg p0 (.slice A' k c')) from fun j v hj=>by rw [Nat.zero_add];exact (cellS HG1.out j).trans (by simpa using hj))
   have HTH:=hD (show W.there (w.heap.size+1) 0 (gridAg p0 (.slice A' k c')).length from thereB ((HG.out.block _ (by have:=ltS HZZ.out;omega) (fun e=>hnzg (Option.some.inj e))).trans HZZ.out) (by rw [hz6];show 0+3≤3;omega));clear hO hlen hall hrv lx x0;obtain ⟨l2,e2⟩:=gE q2;obtain ⟨l3,e3⟩:=gE q3;obtain ⟨l6,e6⟩:=gE q6;obtain ⟨l7,e7⟩:=gE q7;obtain ⟨l8,e8⟩:=gE q8
   refine wp_seq_h fun K hK=>?_
   apply wp_region_lit
   repeat (first|((with_reducible show wpList _ _ _ _ _ _);refine ldK 128 _ (gridAg p0 (.slice A' k c')) gg 0 rfl rfl HR.out Tryz.underlying128 rfl inf_Grid (by simp [Act.eval,Act.put,hsz,e7]) ?_)|((with_reducible show wpList _ _ _ _ _ _);refine stK 128 _ _ (gridAg p0 (.slice A' k c')) (w.heap.size+1) 0 rfl rfl HTH.out inf_Grid (gridAg_one _ _ _ _) (by simp [Act.eval,Act.put,hsz,e6]) (by simp [Act.eval,Act.put,hsz]) ?_) | go_step)
   refine hK.out _ _ ?_;clear hK K;apply wp_ret;refine bp_retcell 6 128 (w.heap.size+1) (gridAg p0 (.slice A' k c')) Tryz.results113 ?_ (World.rangeAt_setCells_same _ _ _ _ HTH.out) Tryz.underlying128 rfl inf_Grid rfl ⟨⟨A',c',rfl,?_⟩,below_setCells (by omega) _ _ _ HW.out⟩
   ·simp [Act.put,hsz,e6]
   ·refine cev_of (fun h0=>?_);obtain ⟨b9,off9,e9',hb9,hp9⟩:=HRV.out h0
    have hne:b9≠w.heap.size+1:=by
     rintro rfl
     have:=HO.out.lt _ (by rw [e9'];rfl)
     dsimp only at this
     have:=ltS HZZ.out
     omega
    exact ⟨b9,off9,e9',by rw [size_setCellsT];exact hb9,fun i vs hi=>rangeB (hp9 i vs hi) (heap_setCells_ne hne _ _ _)⟩
end
theorem kid_no0 {R:List Nr} (h:TrOK (R.map Nr.n)) (i:Nat):isKid R (i:Int) 0=false:=by
 rw [isKid_eq];unfold kidB
 cases hn:(R.map Nr.n)[0]? with
 | none=>rfl
 | some n =>
  rcases h.up 0 n hn with ⟨_,e⟩ | ⟨e,_⟩
  ·show (n.pa == (i:Int))=false
   rw [e];simp only [beq_eq_false_iff_ne,ne_eq];omega
  ·omega
theorem pks_big {L:List Nd} (h:TrOK L) (ks:List Nat):∀ p∈pksF L (szM L) ks,p.big:=fun p hp=>pk_bd h (fun k _=>szM_bd h k) p hp
theorem ces_w {L:List Nd} (h:TrOK L) {i:Nat} {n:Nd} (hn:L[i]?=some n) (h1:n.ki=1):(∀ p∈cesF L (szM L) (kidD L i),smW p)∧spansW n.cs.length ((cesF L (szM L) (kidD L i)).map acM)∧spansW n.rs.length ((cesF L (szM L) (kidD L i)).map dnM)∧(cesF L (szM L) (kidD L i)).length≤10:=by
 have hp:=ce_bd h hn h1 (fun k _=>szM_bd h k);have hl:=Nat.le_trans (cesF_len L (szM L) (kidD L i)) (Nat.le_trans (kidD_len L i) h.l10);refine ⟨fun p hm=>by have:=hp p hm;unfold smW;omega,⟨by simpa using hl,fun s hs=>?_⟩,⟨by simpa using hl,fun s hs=>?_⟩,hl⟩
 ·obtain ⟨p,hm,rfl⟩:=List.mem_map.1 hs
  have:=hp p hm
  refine ⟨p.co.toNat,p.mc.toNat,?_,?_,?_,?_,?_,?_⟩ <;> first | omega|(unfold acM;dsimp only;omega)
 ·obtain ⟨p,hm,rfl⟩:=List.mem_map.1 hs
  have:=hp p hm
  refine ⟨p.ro.toNat,p.mr.toNat,?_,?_,?_,?_,?_,?_⟩ <;> first | omega|(unfold dnM;dsimp only;omega)
theorem new_fullW {w:World} {o:Obj} {cs:Array Value} {T:TypeId} (p:Nr) (ho:o=.cells cs T (0,0)) (hs:cs.size=34):((w.alloc o).setCells w.heap.size 0 (valsNr p)).heap[w.heap.size]?=some (.cells (valsNr p).toArray T (0,0)):=by
 subst ho;rw [heap_setCells (valsNr p) 0 _ _ (newS w _),wrAt_all (by rw [hs];rfl)]
theorem ret_tup2 {a b c d:Int} (h1:a=c) (h2:b=d):Ending.returned (.tuple #[.int .i64 a,.int .i64 b])=.returned (.tuple #[.int .i64 c,.int .i64 d]):=by rw [h1,h2]
theorem pksF_all {L:List Nd} {g:Nat→Int × Int} {ks:List Nat} (hk:∀ x∈ks,x<L.length):(pksF L g ks).length=ks.length:=by
 have:=pksF_take_len (g:=g) hk ks.length (Nat.le_refl _)
 rwa [List.take_length] at this
theorem cesF_all {L:List Nd} {g:Nat→Int × Int} {ks:List Nat} (hk:∀ x∈ks,x<L.length):(cesF L g ks).length=ks.length:=by
 have:=cesF_take_len (g:=g) hk ks.length (Nat.le_refl _)
 rwa [List.take_length] at this
theorem askN_own {L:List Nd} {f:Nat→Int × Int} {i:Nat} {n:Nd} (h:n.ke=true∨kidD L i=[]∨n.ki=2):askN L f i n=(n.ww,n.hh):=by unfold askN;rw [if_pos h]
theorem askN_pk {L:List Nd} {f:Nat→Int × Int} {i:Nat} {n:Nd} {ks:List Nat} (hks:kidD L i=ks) (h1:n.ke=false) (h2:ks≠[]) (h3:n.ki=0):askN L f i n=reqM (pksF L f ks):=by
 subst hks;unfold askN;rw [if_neg (by simp [h1,h2,h3]),if_pos h3]
theorem askN_gr {L:List Nd} {f:Nat→Int × Int} {i:Nat} {n:Nd} {ks:List Nat} (hks:kidD L i=ks) (h1:n.ke=false) (h2:ks≠[]) (h3:n.ki=1):askN L f i n=gridM n.cs n.rs (cesF L f ks):=by
 subst hks;unfold askN;rw [if_neg (by simp [h1,h2,h3]),if_neg (by omega)]
theorem sizeOf_v (A:Option Addr) (c:Nat) (R:List Nr) (hT:TrOK (R.map Nr.n)):∀ (f i:Nat) (w:World),R.length≤f+i→i<R.length→NrV w A R→RdR w R →
  Calls Tryz.prog 68 #[.agg #[.slice A R.length c],.int .i64 (i:Int)] w fun e w'=>e=.returned (.tuple #[.int .i64 (szM (R.map Nr.n) i).1,.int .i64 (szM (R.map Nr.n) i).2])∧Below w.heap.size w w':=by
 intro f
 induction f with
 | zero=>intro i w h1 h2;omega
 | succ f ih =>
 intro i w hf hi h hr;have hget:R[i]?=some R[i]:=List.getElem?_eq_getElem hi
 have hmg:(R.map Nr.n)[i]?=some R[i].n:=by rw [List.getElem?_map,hget];rfl
 have hsz0:=szM_eq hT hmg;have hr1:=hr _ (List.getElem_mem hi);have hkis:=(hT.sz i _ hmg).2.2;generalize hp0:R[i]=p at *;obtain ⟨b,off,rfl,hb,hc⟩:=h.cells (by omega);have hcp:=hc i p hget
 have hL10:R.length≤10:=by have:=hT.l10;simpa using this
 have hL1:1≤R.length:=by omega
 have hdi:(i:Int)<(R.length:Int):=by omega
 have hB0:Below w.heap.size w (w.alloc (.cells #[.slice (some ⟨b,off,none⟩) R.length c] 25 (0,0))):=balloc (Below.refl _ _);have HX:=hD (newS w (.cells #[.slice (some ⟨b,off,none⟩) R.length c] 25 (0,0)));have HB:=hD hB0;have HNR:=hD (h.keep hB0);have HRD:=hD (hr.keep hB0);have HR1:=hD (hr1.keep hB0);have HC:=hD (rangeB hcp (hB0.block b hb));have HSZ:=hD hsz0;have HMG:=hD hmg;have HKI:=hD hkis
 have HGI:=hD hget
 have HIH:=hD (show ∀ k∈kidD (R.map Nr.n) i,∀ W,Below w.heap.size w W→Calls Tryz.prog 68 #[.agg #[.slice (some ⟨b,off,none⟩) R.length c],.int .i64 (k:Int)] W fun e W'=>e=.returned (.tuple #[.int .i64 (szM (R.map Nr.n) k).1,.int .i64 (szM (R.map Nr.n) k).2])∧Below W.heap.size W W' from fun k hk W hW=>by
  have:=kid_gt hT hk
  have hkl:=kidD_lt hk;rw [List.length_map] at hkl
  exact ih k W (by omega) hkl (h.keep hW) (hr.keep hW))
 have x0:=cellS HX.out 0;have lx:=ltS HX.out;clear h hr hr1 hcp hsz0 hc hget hmg ih hp0 hkis hB0
 go_enter Tryz.func68,Tryz.ntmps68
 go_upto_region 1 with fail
 refine wp_genGG (fun W=>W=w.alloc (.cells #[.slice (some ⟨b,off,none⟩) R.length c] 25 (0,0))) rfl (fun W1 e1=>?_);rw [<- e1] at x0 lx;replace HX:=hD (e1 ▸ HX.out);replace HB:=hD (e1 ▸ HB.out);replace HNR:=hD (e1 ▸ HNR.out);replace HRD:=hD (e1 ▸ HRD.out);replace HR1:=hD (e1 ▸ HR1.out);replace HC:=hD (e1 ▸ HC.out);clear e1
 go_upto_region 2 with (first|(refine ldN _ p b (off+i*34) rfl rfl rfl HC.out ?_)|(refine stN (.tmp 6) (.tmp 12) p W1.heap.size 0 rfl rfl rfl rfl (newS _ _) (by show (0+34:Nat)≤34;omega) ?_))
 refine wp_genGG (fun W=>W.heap[W1.heap.size]?=some (.cells (valsNr p).toArray 43 (0,0))∧Below W1.heap.size W1 W) ⟨new_fullW p rfl rfl,below_setCells (Nat.le_refl _) _ _ _ (balloc (Below.refl _ _))⟩ (fun W2 h0=>?_);obtain ⟨hn,hb2⟩:=h0;have HN:=hD hn;have ln:=ltS hn;clear hn x0 lx HC hdi;replace HX:=hbk hb2 HX;replace HNR:=hD (HNR.out.keep hb2);replace HRD:=hD (HRD.out.keep hb2)
 replace HR1:=hD (HR1.out.keep hb2);replace HB:=hD (bkeep2 HB.out hb2);clear hb2;have x0:=cellS HX.out 0;have lx:=ltS HX.out
 go_wp2_with fail
 with_reducible refine (skidsOf_v (some ⟨b,off,none⟩) c R (i:Int) _ HNR.out hL1 (by omega) (kid_no0 hT i)).mono ?_
 rintro e W3 ⟨⟨kv,rfl,hkv⟩,hb3⟩;rw [kidsM_eq] at hkv;obtain ⟨kA,kc,hkv,hkn,-⟩:=hkv;rw [List.length_map] at hkv;subst hkv;have ln3:=Nat.lt_of_lt_of_le ln hb3.size;clear x0 lx ln;replace HX:=hbk hb3 HX;replace HN:=hbk hb3 HN;replace HNR:=hD (HNR.out.keep hb3);replace HRD:=hD (HRD.out.keep hb3);replace HR1:=hD (HR1.out.keep hb3);replace HB:=hD (bkeep2 HB.out hb3);clear hb3;have HKN:=hD hkn;clear hkn
 have hkl10:(kidD (R.map Nr.n) i).length≤10:=Nat.le_trans (kidD_len _ _) (by simpa using hL10)
 have hkl:∀ k∈kidD (R.map Nr.n) i,k<(R.map Nr.n).length:=fun k hk=>kidD_lt hk
 have HCW:=hD (show p.n.ki=1→_ from fun h1=>ces_w hT HMG.out h1);have HLI:=hD (show p.n.ki=1→_ from fun h1=>hT.li i p.n HMG.out h1);have HPB:=hD (pks_big hT (kidD (R.map Nr.n) i))
 obtain ⟨ks,hks⟩:∃ ks,kidD (R.map Nr.n) i=ks:=⟨_,rfl⟩
 rw [hks] at HKN hkl10 hkl HIH HCW HPB ⊢;have HPL:=hD (pksF_all (g:=szM (R.map Nr.n)) hkl);have HCL:=hD (cesF_all (g:=szM (R.map Nr.n)) hkl);have HKL:=hD hkl;have HKS:=hD hks;clear hkl hks;have x0:=cellS HX.out 0;have lx:=ltS HX.out;have y1:W3.cell? ⟨W1.heap.size,1,none⟩=some (.int .i64 p.n.ww):=cellS HN.out 1;have y2:W3.cell? ⟨W1.heap.size,2,none⟩=some (.int .i64 p.n.hh):=cellS HN.out 2
 have y3:W3.cell? ⟨W1.heap.size,3,none⟩=some (.bool p.n.ke):=cellS HN.out 3;have y4:W3.cell? ⟨W1.heap.size,4,none⟩=some (.int .i64 p.n.ki):=cellS HN.out 4
 have hC:(p.n.ke=true)∨(p.n.ke=false∧ks=[])∨(p.n.ke=false∧ks≠[]∧p.n.ki=2)∨(p.n.ke=false∧ks≠[]∧p.n.ki≠2):=by
  cases p.n.ke <;> by_cases h1:ks=[] <;> by_cases h2:p.n.ki=2 <;> simp [h1,h2]
 rcases hC with hke | ⟨hke,hnil⟩ | ⟨hke,hnil,hk2⟩ | ⟨hke,hnil,hk2⟩
 ·rw [hke] at y3;have HKE:=hD hke;clear hke;have hz:szM (R.map Nr.n) i=(p.n.ww,p.n.hh):=HSZ.out.trans (askN_own (.inl HKE.out));have HZ:=hD hz;clear hz
  go_wp2_with fail
  go_quiet (fail)
  go_wp2;go_ret2;exact ⟨ret_tup2 (by rw [HZ.out]) (by rw [HZ.out]),belowN' HB.out _⟩
 ·rw [hke] at y3
  have hl0:((ks.length:Int) == 0)=true:=by simp [hnil]
  have HNI:=hD hnil;clear hke hnil;have hz:szM (R.map Nr.n) i=(p.n.ww,p.n.hh):=HSZ.out.trans (askN_own (.inr (.inl (HKS.out.trans HNI.out))));have HZ:=hD hz;clear hz
  go_wp2_with fail
  go_quiet (fail)
  go_wp2;go_ret2;exact ⟨ret_tup2 (by rw [HZ.out]) (by rw [HZ.out]),belowN' HB.out _⟩
 ·rw [hke] at y3
  have hl0:((ks.length:Int) == 0)=false:=by have:=List.length_pos_iff.2 hnil;rw [beq_eq_false_iff_ne];omega
  have hk22:(p.n.ki == 2)=true:=by simp [hk2]
  have HK2:=hD hk2;clear hke hnil hk2;have hz:szM (R.map Nr.n) i=(p.n.ww,p.n.hh):=HSZ.out.trans (askN_own (.inr (.inr HK2.out)));have HZ:=hD hz;clear hz
  go_wp2_with fail
  go_quiet (fail)
  go_wp2;go_ret2;exact ⟨ret_tup2 (by rw [HZ.out]) (by rw [HZ.out]),belowN' HB.out _⟩
 ·rw [hke] at y3
  have hl0:((ks.length:Int) == 0)=false:=by have:=List.length_pos_iff.2 hnil;rw [beq_eq_false_iff_ne];omega
  have hk22:(p.n.ki == 2)=false:=by simp [hk2]
  by_cases hk0:p.n.ki=0
  ·have hk00:(p.n.ki == 0)=true:=by simp [hk0]
   have HZ:=hD (HSZ.out.trans (askN_pk HKS.out hke hnil hk0));clear hke hnil hk2 hk0
   go_wp2_with fail
   with_reducible refine (packsOf_v (some ⟨b,off,none⟩) c R ks kA kc ks.length (szM (R.map Nr.n)) _ HNR.out hL1 (by omega) HKN.out rfl (by omega) (fun k hk=>by have:=HKL.out k hk;rwa [List.length_map] at this) (fun k hk W hW=>HIH.out k hk W (bkeep2 HB.out hW))).mono ?_
   rintro e W4 ⟨⟨A',c',rfl,hpv,-⟩,hb4⟩;have HRQ:=hD (show Calls Tryz.prog 110 #[.slice A' ks.length c'] W4 _ from HPL.out ▸ request_w A' c' _ W4 hpv HPB.out (by rw [HPL.out];omega));clear hpv x0 lx y1 y2 y3 y4;replace HB:=hD (bkeep2 HB.out hb4);clear hb4
   go_wp2_with fail
   with_reducible refine (HRQ.out).mono ?_
   rintro e W5 ⟨rfl,hb5⟩;replace HB:=hD (bkeep2 HB.out hb5);clear hb5;go_wp2;go_ret2;exact ⟨ret_tup2 (by rw [HZ.out]) (by rw [HZ.out]),HB.out⟩
  ·have hk00:(p.n.ki == 0)=false:=by simp [hk0]
   have hk1:p.n.ki=1:=by have:=HKI.out;omega
   have HZ:=hD (HSZ.out.trans (askN_gr HKS.out hke hnil hk1));have HC1:=hD (HCW.out hk1);have HL1:=hD (HLI.out hk1);clear hke hnil hk2 hk0 hk1
   go_wp2_with fail
   with_reducible refine (gridOf_v (some ⟨b,off,none⟩) c R i p ks kA kc ks.length (szM (R.map Nr.n)) _ HNR.out HGI.out (by omega) HKN.out rfl (by omega) (fun k hk=>by have:=HKL.out k hk;rwa [List.length_map] at this) (fun k hk W hW=>HIH.out k hk W (bkeep2 HB.out hW))).mono ?_
   rintro e W4 ⟨⟨A',c',rfl,hcv⟩,hb4⟩;have HRQ:=hD (show Calls Tryz.prog 112 #[.agg (gridAg p (.slice A' ks.length c')).toArray] W4 _ from HCL.out ▸ sgridRequest_w p.ca p.cc p.n.cs p.ra p.rc p.n.rs A' c' _ W4 (HR1.out.keep hb4).c (HR1.out.keep hb4).r hcv HL1.out.1 HL1.out.2 HC1.out.2.2.2 HC1.out.1 HC1.out.2.1 HC1.out.2.2.1 HR1.out.cl HR1.out.rl);clear hcv x0 lx y1 y2 y3 y4
   replace HB:=hD (bkeep2 HB.out hb4);clear hb4
   go_wp2_with fail
   with_reducible refine (HRQ.out).mono ?_
   rintro e W5 ⟨rfl,hb5⟩;replace HB:=hD (bkeep2 HB.out hb5);clear hb5;go_wp2;go_ret2;exact ⟨ret_tup2 (by rw [HZ.out];rfl) (by rw [HZ.out];rfl),HB.out⟩
section
attribute [local go_sem 5000] run_mx run_mn
attribute [local go_sem] Oper.semAt_some
theorem ldNI {F:Fence} {n:Nat} {P:Program} {ops:Array Oper} {rest:List Oper} {op:Oper} {a:Act} {w:World} {Q:Exit→Act→World→Prop} (T:TypeId) (x:Operand) (vs:List Value) (b o:Nat) {d:TypeDesc} (hgd:op.guard=none) (ho:op.op=.load T x) (hx:a.eval x=.pointer (some ⟨b,o,none⟩))
  (hc:w.rangeAt b o vs) (hu:P.underlying T=some d) (hd:d.isRow=true) (hi:(P.info? T).map (·.size)=some vs.length)
  (h:wpListIn F n P ops Q rest (a.put op.dst (.agg vs.toArray)) w):wpListIn F n P ops Q (op :: rest) a w:=by
 refine wpListIn_plain hgd fun K hK=>⟨fun f hf=>?_,?_⟩
 ·simp [Oper.about,ho] at hf
 ·rw [Oper.semAt_eq _ _ _ (fun c e=>by rw [ho] at e;cases e)];unfold execOp;simp only [ho,hx,Instr.loadAt,Instr.sureAddr,Sem.run_bind,Sem.run_pure,Result.andThen_ok,run_loadVar_mid w b o T vs d hc hu hd hi];exact hK _ _ h
theorem backwardN_in (F:Fence) (n:Nat) (hF:F.fn 127) (hro:F.round=none) (a:Option Addr) (len cap:Nat) (w:World) :
  CallsIn F n Tryz.prog 127 #[.slice a len cap] w fun e w'=>e=.returned (.func (.func 165) #[] #[.pointer (some ⟨w.heap.size,0,none⟩)])∧w'=w.alloc (.cells #[.slice a len cap] 23):=by
 refine callsIn_of_wp Tryz.func127 rfl hF ?_ hro;simp only [Tryz.ntmps127,List.size_toArray,List.length_cons,List.length_nil,Nat.reduceAdd,Nat.reduceSub,Array.replicate_succ,Array.replicate_zero,List.push_toArray,List.append_toArray,List.nil_append,List.cons_append]
 gi_wp2
 go_ret;exact ⟨rfl,rfl⟩
end
def KeepsC (B:Nat) (W W':World):Prop:=Below B W W'∧∀ (k:Nat) (o:Obj),W.heap[k]?=some o→o.isCells=true→W'.heap[k]?=some o
theorem keepsC_alloc {B:Nat} {W:World} (o:Obj) (h:B≤W.heap.size):KeepsC B W (W.alloc o) :=
 ⟨(Below.refl _ _).alloc h o,fun k o' hk _=>(Below.heap_alloc _ _ _ (gE hk).1).trans hk⟩
theorem keepsC_put {w W:World} {l:Nat} {o o':Obj} (hl:w.heap.size≤l) (h:W.heap[l]?=some o) (hc:o.isCells=false) (hw:o.isWalk=false):KeepsC w.heap.size W (W.putObj l o') :=
 ⟨belowK_b (w:=w) (Nat.le_refl _) W l o o' hl h hc hw,fun k o2 hk h2=>by
  by_cases e:k=l
  ·subst e;rw [h] at hk;obtain rfl:=Option.some.inj hk;rw [hc] at h2
   cases h2
  ·exact (World.putObj_heap_other e).trans hk⟩
theorem KeepsC.cells {B k:Nat} {W W':World} {cs:Array Value} {T:TypeId} {fz:Nat × Nat} (h:KeepsC B W W') (hk:W.heap[k]?=some (.cells cs T fz)):W'.heap[k]?=some (.cells cs T fz):=h.2 k _ hk rfl
theorem KeepsC.block {B k:Nat} {W W':World} {cs:Array Value} {T:TypeId} {fz:Nat × Nat} (h:KeepsC B W W') (hk:W.heap[k]?=some (.cells cs T fz)):W'.heap[k]?=W.heap[k]?:=(h.cells hk).trans hk.symm
def SeqCnt (F:Fence) (n:Nat) (P:Program) (g:Nat) (lb:Array Value) (enc:Nat→Array Value) (Nd:World→Prop) (N:Nat):Prop :=
 ∀ (l:Nat) (J:Nat→World→Prop) (W:World),
  (∀ k W1,k<N→J k W1→YieldAt F (n-1) P l (enc k) W1 fun e W'=>e=.returned (.bool true)∧J (k+1) W') →
  (∀ k W1,J k W1→Nd W1)→J 0 W→CallsIn F n P g (#[.func (.yield l) #[] #[]] ++ lb) W fun e W'=>(∃ v,e=.returned v)∧J N W'
theorem wpIn_rangeFunc_cnt {F:Fence} {n:Nat} {P:Program} {g:Operand} {ps:Array Tmp} {assign body:Code} {Q:Exit→Act→World→Prop} {a:Act} {w:World}
  (hro:F.round=none) (h1:1≤n) {gf:Nat} {lb:Array Value} (hg:a.eval g=.func (.func gf) #[] lb) (hFg:F.fn gf) (eg:∀ args w,(callFunc gf args).run P w=.ok (.enter gf args) w)
  {enc:Nat→Array Value} {Nd:World→Prop} {N:Nat} (hseq:SeqCnt F (n-1) P gf lb enc Nd N) (hps:∀ k,(enc k).size=ps.size)
  (I:Nat→World→Prop) (hI:∀ k W W',I k W→KeepsC w.heap.size W W'→I k W') (hN:∀ k W,I k W→Nd W) (h0:I 0 w)
  (Ax:Nat→Act→World→Prop) (hAx:∀ k a' W W',Ax k a' W→KeepsC w.heap.size W W'→Ax k a' W')
  (hassign:∀ (l k:Nat) (W:World) (K:Act→World→Prop),k<N→I k W→(∀ a' W',KeepsFrom w.heap.size W W'→I k W'→Ax k a' W'→K a' W') →
   assign.wpIn (F.inRound l) (n-1-1) P (Exit.then K (fun _ _ _=>False)) { tmps:=(ps.zip (enc k)).foldl (fun t (p,v)=>t.setIfInBounds p v) a.tmps,defers:=[] } W)
  (hbody:∀ (l k:Nat) (a':Act) (W:World),k<N→I k W→Ax k a' W→body.wpIn (F.inRound l) (n-1-1) P (fun e _ W'=>e=.normal∧KeepsFrom w.heap.size W W'∧I (k+1) W') a' W)
  (hdone:∀ (D:Nat) (W:World),w.heap.size≤D→I N W→W.heap[D]?=some (.deferred (some []))→Q .normal { a with defers:={ target:=.collected D,args:=#[] } :: a.defers } W) :
  (Code.rangeFunc g ps assign body).wpIn F n P Q a w:=by
 refine wpIn_rangeFunc fun fn hfn=>?_
 rw [hro]
 obtain ⟨mk,hmk⟩:∃ mk:LoopState→Loop,∀ st,mk st={ state:=st,pending:=none,fn,tmps:=a.tmps,params:=ps,assign,body,defers:=w.heap.size }:=⟨_,fun _=>rfl⟩
 obtain ⟨Bk,hBk⟩:∃ Bk:LoopState→World→Prop,∀ st W,Bk st W↔W.heap[w.heap.size+1]?=some (.loop (mk st))∧W.heap[w.heap.size]?=some (.deferred (some [])):=⟨_,fun _ _=>Iff.rfl⟩
 have keep:∀ st W W',Bk st W→KeepsFrom w.heap.size W W'→Bk st W':=fun st W W' hb hk=>by
  rw [hBk] at hb ⊢;exact ⟨hk.same _ _ (by omega) hb.1 rfl,hk.same _ _ (Nat.le_refl _) hb.2 rfl⟩
 have turn:∀ st st' W,Bk st W→Bk st' (W.putObj (w.heap.size+1) (.loop (mk st')))∧KeepsC w.heap.size W (W.putObj (w.heap.size+1) (.loop (mk st'))):=fun st st' W hb=>by
  rw [hBk] at hb ⊢;exact ⟨⟨World.putObj_heap_same (gE hb.1).1,(World.putObj_heap_other (by omega)).trans hb.2⟩,keepsC_put (by omega) hb.1 rfl rfl⟩
 obtain ⟨W1,hW1⟩:∃ W1,(w.alloc (.deferred (some []))).alloc (.loop (mk .ready))=W1:=⟨_,rfl⟩
 have b1:Bk .ready W1:=by
  rw [hBk,<- hW1];refine ⟨?_,(Below.heap_alloc _ _ _ (by simp)).trans (World.alloc_heap_new w _)⟩
  have:=World.alloc_heap_new (w.alloc (.deferred (some []))) (.loop (mk .ready))
  rwa [World.size_alloc] at this
 have i1:I 0 W1:=by
  rw [<- hW1];exact hI _ _ _ (hI _ _ _ h0 (keepsC_alloc _ (Nat.le_refl _))) (keepsC_alloc _ (by simp))
 refine ⟨w.heap.size+1,[{ target:=.collected w.heap.size,args:=#[] }],W1,{ target:=.fn (.func gf) lb,args:=#[.func (.yield (w.heap.size+1)) #[] #[]] },W1,gf,
  #[.func (.yield (w.heap.size+1)) #[] #[]] ++ lb,W1,?_,?_,?_,?_,fun _=>h1,?_⟩
 ·rw [<- hW1,hmk];exact run_enterLoop_outer _ _ _ _ _
 ·simp only [resolve,hg]
  simp [go_sem]
 ·intro f' hf'
  simp [Target.leads] at hf'
  subst hf';exact hFg
 ·simp [invoke,go_sem,eg]
 ·refine (hseq (w.heap.size+1) (fun k W=>I k W∧Bk .ready W) W1 ?_ (fun k W h=>hN k W h.1) ⟨i1,b1⟩).mono ?_
  ·rintro k W hk ⟨hi,hb⟩;have hl:=((hBk _ _).1 hb).1;have hy:=run_yield (P:=P) (args:=enc k) hl (by rw [hmk];exact hps k);rw [hmk] at hy;refine ⟨fn,_,assign,body,hy,roundIn_of_wpIn hfn (hassign _ k W _ hk hi ?_)⟩;intro a' Wa hka hia hax;have hba:=keep _ _ _ hb hka;have hla:=((hBk _ _).1 hba).1;have hbr:=run_beginRound (P:=P) hla (by rw [hmk])
   rw [show ({ mk .ready with state:=.busy }:Loop)=mk .busy by rw [hmk,hmk]] at hbr;obtain ⟨hbb,hcb⟩:=turn _ .busy _ hba;refine ⟨_,hbr,wpIn_mono (hbody _ k a' _ hk (hI _ _ _ hia hcb) (hAx _ _ _ _ hax hcb)) ?_⟩;rintro e a3 W3 ⟨rfl,hk3,hi3⟩;have hb3:=keep _ _ _ hbb hk3;have her:=run_endRound (P:=P) none ((hBk _ _).1 hb3).1
   rw [show ({ mk .busy with state:=if (none:Option Code).isNone then .ready else .done,pending:=none }:Loop)=mk .ready by rw [hmk,hmk];rfl] at her;obtain ⟨hb4,hc4⟩:=turn _ .ready _ hb3;exact ⟨_,_,her,rfl,hI _ _ _ hi3 hc4,hb4⟩
  ·rintro e W2 ⟨⟨v,rfl⟩,hi,hb⟩;have hl:=((hBk _ _).1 hb).1;have hel:=run_endLoop (P:=P) hl (by rw [hmk];simp);rw [show (mk .ready).pending=none by rw [hmk]] at hel;exact ⟨none,_,hel,hdone _ _ (Nat.le_refl _) (hI _ _ _ hi (keepsC_put (by omega) hl rfl rfl)) ((World.putObj_heap_other (by omega)).trans ((hBk _ _).1 hb).2)⟩
section
attribute [local go_sem] Oper.semAt_some
def zeroNr:Nr:=⟨⟨0,0,0,false,0,[],[],⟨0,0,0,false,false,false,0,0,0⟩,⟨0,0,0,0,0,0,0,0,0⟩,⟨0,0,0,0,0,0,0,0,0⟩⟩,none,0,none,0⟩
def nrAt (R:List Nr) (i:Nat):Nr:=(R[i]?).getD zeroNr
theorem nrAt_get {R:List Nr} {i:Nat} {p:Nr} (h:R[i]?=some p):nrAt R i=p:=by unfold nrAt;rw [h];rfl
def encR (R:List Nr) (k:Nat):Array Value:=#[.int .i64 ((R.length-1-k:Nat):Int),.agg (valsNr (nrAt R (R.length-1-k))).toArray]
theorem encR_at {R:List Nr} {j:Nat} {p:Nr} (h:R[j]?=some p):encR R (R.length-(j+1))=#[.int .i64 (j:Int),.agg (valsNr p).toArray]:=by
 have hj:=(List.getElem?_eq_some_iff.1 h).1;unfold encR;rw [show R.length-1-(R.length-(j+1))=j by omega,nrAt_get h]
theorem bkc_in (F:Fence) (n:Nat) (hF:F.fn 165) (hro:F.round=none) (hn:1≤n) (Bs:Nat) (A:Option Addr) (c:Nat) (R:List Nr) (hL:R.length≤1048576) :
  SeqCnt F n Tryz.prog 165 #[.pointer (some ⟨Bs,0,none⟩)] (encR R) (fun W=>W.cell? ⟨Bs,0,none⟩=some (.slice A R.length c)∧NrV W A R) R.length:=by
 intro l J W hY hJN h0;have hcs:=(hJN _ _ h0).1;refine callsIn_of_wp Tryz.func165 rfl hF ?_ hro;simp only [Tryz.ntmps165,List.size_toArray,List.length_cons,List.length_nil,Nat.reduceAdd,Nat.reduceSub,Array.replicate_succ,Array.replicate_zero,List.push_toArray,List.append_toArray,List.nil_append,List.cons_append]
 gi_wp2
 clear hcs
 gi_loopw [3] (fun i wr=>∃ k:Nat,k≤R.length∧i=.int .i64 ((k:Int)-1)∧J (R.length-k) wr)
  (fun i _=>(intOf i+1).toNat)
 case atStart=>exact ⟨R.length,Nat.le_refl _,rfl,by rw [Nat.sub_self];exact h0⟩
 case round =>
  obtain ⟨k,hk,rfl,hJs⟩:=hrel
  rcases k with _ | j
  ·have hd:decide (((0:Nat):Int)-1≥0)=false:=by simp
   gi_wp2
   go_end0
   exact ⟨⟨_,rfl⟩,hJs⟩
  ·have e1:((j+1:Nat):Int)-1=(j:Int):=by omega
   rw [e1]
   have hlt:j<R.length:=by omega
   have hd:decide ((j:Int)≥0)=true:=by simp
   have hd2:decide ((0:Int)≤(j:Int))=true:=by simp
   obtain ⟨hcs,hp⟩:=hJN _ _ hJs;obtain ⟨b,off,rfl,hb,hps⟩:=hp.cells (by omega);have hget:R[j]?=some R[j]:=List.getElem?_eq_getElem hlt;have hc:=hps j _ hget;have he:=encR_at hget;generalize hx:R[j]=p at *;obtain ⟨fn,tmps,assign,body,hy,hR⟩:=hY (R.length-(j+1)) wr (by omega) hJs;rw [he] at hy;have HC:=hD hc;have HE:Hid (R.length-(j+1)+1=R.length-j):=hD (by omega);clear hc hget hx hps e1 hp he
   have hjs:IntKind.i64.wrap ((j:Int)-1)=(j:Int)-1:=IntWalk.i64_in _ (by omega)
   gi_wp2_with (refine ldNI 43 _ (valsNr p) b (off+j*34) rfl rfl rfl HC.out Tryz.underlying43 rfl (by rw [valsNr_len];kernel_rfl) ?_)
   refine hR.mono ?_;rintro e W3 ⟨rfl,hJ3⟩;rw [HE.out] at hJ3
   gi_wp2
   go_roundw
   case rel=>exact ⟨j,by omega,by go_num,hJ3⟩
   case measure=>simp [intOf]
end

theorem OB.sameL {w w':World} {g cap:Nat} {L:List Int} (h:OB w g cap L) (e:w'.heap[g]?=w.heap[g]?):OB w' g cap L:=by
 obtain ⟨hl,cs,hh,hs,hc⟩:=h;exact ⟨hl,cs,e.trans hh,hs,hc⟩
def GO (lo:Nat) (w:World) (v:Value) (M:List Int):Prop:=(v=.slice none 0 0∧M=[])∨∃ g cap n,v=.slice (some ⟨g,0,none⟩) n cap∧n=M.length∧lo≤g∧OB w g cap M
theorem GO.of {lo n:Nat} {w:World} {v:Value} {M:List Int} (h:w.ownsRow lo 3 1 v n (nvalsW M)) (hn:n=M.length):GO lo w v M :=
 (own_inW h hn).imp id fun ⟨g,cap,h1,h2,h3⟩=>⟨g,cap,n,h1,hn,h2,h3⟩
theorem GO.keep {lo:Nat} {w w':World} {v:Value} {L:List Int} (h:GO lo w v L) (hb:Below w.heap.size w w'):GO lo w' v L:=h.imp id fun ⟨g,cap,n,h1,h2,h3,hk⟩=>⟨g,cap,n,h1,h2,h3,hk.keep hb⟩
theorem GO.mono {lo lo':Nat} {w:World} {v:Value} {L:List Int} (h:GO lo w v L) (hl:lo'≤lo):GO lo' w v L:=h.imp id fun ⟨g,cap,n,h1,h2,h3,hk⟩=>⟨g,cap,n,h1,h2,Nat.le_trans hl h3,hk⟩
theorem indicesF_v (n:Nat) (f:Nat→Bool) (caps:Array Value) (w:World) (hn:n≤1048576)
  (hf:∀ k,k<n→∀ W,Below w.heap.size w W→Calls Tryz.prog 122 (#[.int .i64 (k:Int)] ++ caps) W fun e W'=>e=.returned (.bool (f k))∧Below W.heap.size W W') :
  Calls Tryz.prog 81 #[.int .i64 (n:Int),.func (.func 122) #[] caps] w fun e w'=>(∃ v,e=.returned v∧GO w.heap.size w' v (idsM f n))∧Below w.heap.size w w' :=
 (indicesG_v 122 (enters_of Tryz.func122 (by kernel_rfl) rfl) n f caps w hn hf).mono fun e w' ⟨⟨v,h1,h2⟩,h3⟩=>⟨⟨v,h1,GO.of h2 rfl⟩,h3⟩
theorem kidsOf_f (A:Option Addr) (c:Nat) (R:List Nr) (i:Int) (w:World) (h:NrV w A R) (hL:R.length≤1048576) :
  Calls Tryz.prog 88 #[.agg #[.slice A R.length c],.int .i64 i] w fun e w'=>(∃ v,e=.returned v∧GO w.heap.size w' v (kidsM R i))∧Below w.heap.size w w':=by
 have hB0:Below w.heap.size w ((w.alloc (.cells #[.slice A R.length c] 25 (0,0))).alloc (.cells #[.int .i64 i] 3 (0,0))):=(balloc (Below.refl _ _)).trans ((balloc (Below.refl _ _)).mono (by simp))
 have H1:=hD (show ((w.alloc (.cells #[.slice A R.length c] 25 (0,0))).alloc (.cells #[.int .i64 i] 3 (0,0))).heap[w.heap.size]?=some (.cells #[.slice A R.length c] 25 (0,0)) from (Below.heap_alloc _ _ _ (by simp)).trans (newS _ _))
 have H2:=hD (show ((w.alloc (.cells #[.slice A R.length c] 25 (0,0))).alloc (.cells #[.int .i64 i] 3 (0,0))).heap[w.heap.size+1]?=some (.cells #[.int .i64 i] 3 (0,0)) from by have:=newS (w.alloc (.cells #[.slice A R.length c] 25 (0,0))) (.cells #[.int .i64 i] 3 (0,0));simpa using this);have HV:=hD (h.keep hB0);have HB:=hD hB0;clear hB0 h
 go_enter Tryz.func88,Tryz.ntmps88
 go_wp2_with fail
 refine (indicesF_v R.length (isKid R i) #[.pointer (some ⟨w.heap.size,0,none⟩),.pointer (some ⟨w.heap.size+1,0,none⟩)] _ hL (fun k hk W hW=>kid1_v A c R i k _ _ W (HV.out.keep hW) hk ((cellS ((hW.block _ (ltS H1.out)).trans H1.out) 0)) ((cellS ((hW.block _ (ltS H2.out)).trans H2.out) 0)) (Nat.lt_of_lt_of_le (ltS H1.out) hW.size) (Nat.lt_of_lt_of_le (ltS H2.out) hW.size) hL)).mono ?_
 rintro e w1 ⟨⟨v,rfl,hv⟩,hb1⟩;have HK:Hid (GO w.heap.size w1 v (kidsM R i)):=hD (hv.mono (by simp <;> omega));replace HB:=hD (bkeep2 HB.out hb1);clear hv hb1 H1 H2 HV;go_wp2;go_ret;exact ⟨⟨v,rfl,HK.out⟩,HB.out⟩
theorem nc_pk (v:Value) (w:World):(nilAhead (Tryz.prog.types.size+Made.depth) 155 v "loop.example/widgetroom/impl.request").run Tryz.prog w=.ok (some false) w:=by kernel_rfl
theorem nc_gr (v:Value) (w:World):(nilAhead (Tryz.prog.types.size+Made.depth) 149 v "loop.example/widgetroom/impl.request").run Tryz.prog w=.ok (some false) w:=by kernel_rfl
theorem nc_pl (v:Value) (w:World):(nilAhead (Tryz.prog.types.size+Made.depth) 151 v "loop.example/widgetroom/impl.request").run Tryz.prog w=.ok (some false) w:=by kernel_rfl
theorem cm_pk (v u:Value) (w:World):(callMethod (.iface 155 v) "loop.example/widgetroom/impl.request" #[u]).run Tryz.prog w=.ok (.enter 235 #[v,u]) w:=by kernel_rfl
theorem cm_gr (v u:Value) (w:World):(callMethod (.iface 149 v) "loop.example/widgetroom/impl.request" #[u]).run Tryz.prog w=.ok (.enter 205 #[v,u]) w:=by kernel_rfl
theorem cm_pl (v u:Value) (w:World):(callMethod (.iface 151 v) "loop.example/widgetroom/impl.request" #[u]).run Tryz.prog w=.ok (.enter 227 #[v,u]) w:=by kernel_rfl
theorem run_inv {P:Program} {ρ:Operand→Value} {o:Oper} {w:World} {T:TypeId} {v u:Value} {x y:Operand} {name:String} {ts:Array TypeId} {F:FuncId} (ho:o.op=.call { callee:=.invoke x name,args:=#[y],argTypes:=ts }) (hx:ρ x=.iface T v) (hy:ρ y=u) (hc:(callMethod (.iface T v) name #[u]).run P w=.ok (.enter F #[v,u]) w):(execOp ρ o).run P w=.ok (.enter F #[v,u]) w:=by
 unfold execOp;simp only [ho,resolve,List.map_toArray,List.map_cons,List.map_nil,hx,hy,Sem.run_bind,Sem.run_pure,Result.andThen_ok,invoke]
 simpa using hc
theorem run_mf {P:Program} {ρ:Operand→Value} {o:Oper} {w:World} {x:Operand} {name:String} (ho:o.op=.makeFunc (.method name) #[x] #[]):(execOp ρ o).run P w=.ok (.value (.func (.method name) #[ρ x] #[])) w:=by
 unfold execOp;simp only [ho]
 simp [Instr.makeFunc,Sem.run_pure]
theorem run_nc {P:Program} {ρ:Operand→Value} {o:Oper} {w:World} {T:TypeId} {v:Value} {x:Operand} {name:String} (ho:o.op=.nilCheck x) (hx:ρ x=.func (.method name) #[.iface T v] #[]) (hn:(nilAhead (P.types.size+Made.depth) T v name).run P w=.ok (some false) w):(execOp ρ o).run P w=.ok (.value (ρ x)) w:=by
 unfold execOp;simp only [ho,hx]
 simp [Sem.run_bind,hn]
theorem arReq {v:Value} {x:Wd} {p:Nr} {Y:List Wd} {w:World} {ww hh:Int} {q:Int × Int} (h:ArV w v x Y) (hx:x.p=p) (hr:RdN w p) (hl:Y.length≤10)
  (c0:p.n.ki≠1→p.n.ki≠2→(∀ r∈Y.map pkW,r.big)∧reqM (Y.map pkW)=q)
  (c1:p.n.ki=1→(linesB p.n.cs=true∧linesB p.n.rs=true)∧((∀ r∈Y.map ceW,smW r)∧spansW p.n.cs.length ((Y.map ceW).map acM)∧spansW p.n.rs.length ((Y.map ceW).map dnM))∧gridM p.n.cs p.n.rs (Y.map ceW)=q)
  (c2:p.n.ki=2→(ww,hh)=q) :
  ∃ T u F,v=.iface T u∧(nilAhead (Tryz.prog.types.size+Made.depth) T u "loop.example/widgetroom/impl.request").run Tryz.prog w=.ok (some false) w ∧
   (∀ z w,(callMethod (.iface T u) "loop.example/widgetroom/impl.request" #[z]).run Tryz.prog w=.ok (.enter F #[u,z]) w) ∧
   Calls Tryz.prog F #[u,.agg (valsWi (ww,hh)).toArray] w fun e w'=>e=.returned (.agg (valsWi q).toArray)∧Below w.heap.size w w':=by
 subst hx;obtain ⟨g,hg,⟨k1,rfl,hv⟩ | ⟨k1,rfl,hv⟩ | ⟨k1,k2,rfl,hv⟩⟩:=h
 ·obtain ⟨⟨l1,l2⟩,⟨s1,s2,s3⟩,rfl⟩:=c1 k1;refine ⟨_,_,_,rfl,nc_gr _ _,fun _ _=>cm_gr _ _ _,?_⟩;exact gridReq_v _ _ _ _ _ _ _ _ _ (Y.map ceW) ww hh w hr.c hr.r (cev_of (by rw [List.map_map];exact hv)) (by rw [List.length_map]) l1 l2 (by rw [List.length_map];exact hl) s1 s2 s3
 ·obtain rfl:=c2 k1;exact ⟨_,_,_,rfl,nc_pl _ _,fun _ _=>cm_pl _ _ _,placeReq_v _ ww hh w⟩
 ·obtain ⟨b1,rfl⟩:=c0 k1 k2;refine ⟨_,_,_,rfl,nc_pk _ _,fun _ _=>cm_pk _ _ _,?_⟩;exact packReq_v _ _ _ (Y.map pkW) ww hh w (pv_of (by rw [List.map_map];exact hv)) (by rw [List.length_map]) b1 (by rw [List.length_map];exact hl)
def MfV (w:World) (v:Value) (x:Wd) (Y:List Wd):Prop:=∃ u,v=.func (.method "loop.example/widgetroom/impl.request") #[u] #[]∧ArV w u x Y
theorem MfV.keep {w w':World} {v:Value} {x:Wd} {Y:List Wd} (h:MfV w v x Y) (hb:Below w.heap.size w w'):MfV w' v x Y:=let ⟨u,e,k⟩:=h;⟨u,e,k.keep hb⟩
theorem pick_pk {R:List Nr} {X:List Wd} {f:Nat→Int × Int}:∀ {ks:List Nat},(∀ k∈ks,∃ y p,X[k]?=some y∧R[k]?=some p∧y.p=p∧(y.sw,y.sh)=f k)→(pickW X ks).map pkW=pksF (R.map Nr.n) f ks∧(pickW X ks).map ceW=cesF (R.map Nr.n) f ks
 | [],_=>⟨rfl,rfl⟩
 | k :: t,h=>by
  obtain ⟨y,p,h1,h2,h3,h4⟩:=h k (List.mem_cons_self ..)
  obtain ⟨i1,i2⟩:=pick_pk (X:=X) (R:=R) (f:=f) (ks:=t) fun k hk=>h k (List.mem_cons_of_mem _ hk)
  have e:(R.map Nr.n)[k]?=some p.n:=by rw [List.getElem?_map,h2];rfl
  unfold pickW at i1 i2 ⊢;unfold pksF at i1 ⊢;unfold cesF at i2 ⊢;rw [List.filterMap_cons_some (b:=y) h1,List.filterMap_cons_some (b:=pkOf p.n (f k)) (by rw [e];rfl),List.filterMap_cons_some (b:=ceOf p.n (f k)) (by rw [e];rfl)];rw [List.map_cons,List.map_cons,i1,i2];refine ⟨?_,?_⟩
  ·congr 1
   unfold pkW pkOf;rw [h3,<- h4]
  ·congr 1
   unfold ceW ceOf;rw [h3,<- h4]
section
attribute [local go_sem] Oper.semAt_some
attribute [local go_sem] givesUpon_value givesUpon_skip givesUpon_enter
def zeroNrA:Array Value:=(valsNr zeroNr).toArray
def zeroWd:Wd:=⟨zeroNr,0,0,none,0,0⟩
theorem made_zero:∃ f:Nat→Array Value,(∀ n,(f n).size=n*37)∧(∀ n i,i<n→InS (f n) (i*37) (valsWd zeroWd))∧∀ (n:Nat) (w:World),n≤1048576→(Instr.makeSlice 109 (.int .i64 (n:Int)) (.int .i64 (n:Int))).run Tryz.prog w=.ok (.slice (some ⟨w.heap.size,0,none⟩) n n) (w.alloc (.cells (f n) 112)):=by
 obtain ⟨i,z,hi,h1,h2,h3,h4⟩:∃ (i:TypeInfo) (z:Value),Tryz.prog.info? 112=some i∧i.zero=some z∧i.size=37∧i.bytes≤512∧z.cells=(valsWd zeroWd).toArray:=by
  have h:(Tryz.prog.info? 112).map (fun i=>(i.size,decide (i.bytes≤512),i.zero.map Value.cells))=some (37,true,some (valsWd zeroWd).toArray):=by kernel_rfl
  cases hq:Tryz.prog.info? 112 with
  | none=>rw [hq] at h;cases h
  | some i =>
   rw [hq] at h;simp only [Option.map_some,Option.some.injEq,Prod.mk.injEq] at h;obtain ⟨e1,e2,e3⟩:=h
   cases hz:i.zero with
   | none=>rw [hz] at e3;cases e3
   | some z=>rw [hz] at e3;exact ⟨i,z,rfl,hz,e1,by simpa using e2,by simpa using e3⟩
 refine ⟨fun n=>madeCells z.cells (n*37),fun n=>size_madeCells _ _,fun n k hk j u hj=>?_,fun n w hn=>?_⟩
 ·have hj37:j<37:=by have:=(List.getElem?_eq_some_iff.1 hj).1;rwa [valsWd_len] at this
  have hlt:k*37+j<n*37:=by
   have:(k+1)*37≤n*37:=Nat.mul_le_mul_right 37 hk
   omega
  have hm:(k*37+j) % 37=j:=by omega
  have hs:z.cells.size=37:=by rw [h4];rfl
  have hq:z.cells[j]?=some u:=by rw [h4];simpa only [List.getElem?_toArray] using hj
  obtain ⟨hlt2,he⟩:=gE hq;clear hj h4;unfold madeCells;rw [Array.getElem?_map,Array.getElem?_range,if_pos hlt,Option.map_some,hs,hm,getElem!_pos z.cells j hlt2,he]
 ·have e:((i.bytes*n:Nat):Int)≤((512*1048576:Nat):Int):=Int.ofNat_le.2 (Nat.mul_le_mul h3 hn);rw [Int.natCast_mul] at e;have hr:=run_make (P:=Tryz.prog) w 109 112 i _ Tryz.underlying109 hi h1 .i64 .i64 n n (by omega) (Int.le_refl _) (Int.le_trans e (by decide)) (by omega);rw [h2] at hr
  simpa using hr
def KidA (lo:Nat) (w:World) (A:Option Addr) (M:List Int):Prop:=(A=none∧M=[])∨∃ g cap,A=some ⟨g,0,none⟩∧lo≤g∧OB w g cap M
theorem KidA.nv {lo:Nat} {w:World} {A:Option Addr} {M:List Int} (h:KidA lo w A M):NV w A M:=by
 rcases h with ⟨rfl,rfl⟩ | ⟨g,cap,rfl,_,h⟩
 ·exact NV.nil _ _
 ·exact h.nv
theorem KidA.same {lo:Nat} {w w':World} {A:Option Addr} {M:List Int} (h:KidA lo w A M) (hs:∀ (g:Nat),lo≤g→∀ cs:Array Value,w.heap[g]?=some (.cells cs 3 (0,0))→w'.heap[g]?=w.heap[g]?):KidA lo w' A M:=by
 rcases h with ⟨rfl,rfl⟩ | ⟨g,cap,rfl,hl,h⟩
 ·exact .inl ⟨rfl,rfl⟩
 ·obtain ⟨_,cs,hh,_⟩:=id h;exact .inr ⟨g,cap,rfl,hl,h.sameL (hs g hl cs hh)⟩
theorem KidA.keep {lo:Nat} {w w':World} {A:Option Addr} {M:List Int} (h:KidA lo w A M) (hb:Below w.heap.size w w'):KidA lo w' A M:=h.same fun g _ cs hg=>hb.block g (ltS hg)
def KdA (lo:Nat) (w:World) (v:Value) (M:List Int):Prop:=∃ A c,v=.slice A M.length c∧KidA lo w A M
theorem KdA.keep {lo:Nat} {w w':World} {v:Value} {M:List Int} (h:KdA lo w v M) (hb:Below w.heap.size w w'):KdA lo w' v M:=let ⟨A,c,e,k⟩:=h;⟨A,c,e,k.keep hb⟩
theorem KdA.of {lo lo':Nat} {w:World} {v:Value} {M:List Int} (h:GO lo' w v M) (hl:lo≤lo'):KdA lo w v M:=by
 rcases h with ⟨rfl,rfl⟩ | ⟨g,cap,n,rfl,rfl,h1,h2⟩
 ·exact ⟨none,0,rfl,.inl ⟨rfl,rfl⟩⟩
 ·exact ⟨_,cap,rfl,.inr ⟨g,cap,rfl,by omega,h2⟩⟩
def IsWd (lo:Nat) (w:World) (x:Wd) (p:Nr) (q:Int × Int) (M:List Int):Prop:=x.p=p∧(x.sw,x.sh)=q∧x.kn=M.length∧KidA lo w x.ka M
theorem IsWd.keep {lo:Nat} {w w':World} {x:Wd} {p:Nr} {q:Int × Int} {M:List Int} (h:IsWd lo w x p q M) (hb:Below w.heap.size w w'):IsWd lo w' x p q M:=⟨h.1,h.2.1,h.2.2.1,h.2.2.2.keep hb⟩
def WdV (lo:Nat) (w:World) (v:Value) (p:Nr) (q:Int × Int) (M:List Int):Prop:=∃ x:Wd,v=.agg (valsWd x).toArray∧IsWd lo w x p q M
theorem WdV.keep {lo:Nat} {w w':World} {v:Value} {p:Nr} {q:Int × Int} {M:List Int} (h:WdV lo w v p q M) (hb:Below w.heap.size w w'):WdV lo w' v p q M:=let ⟨x,e,k⟩:=h;⟨x,e,k.keep hb⟩
theorem run_bW (p:Nr) (a b:Int) (A:Option Addr) (n c:Nat) (w:World):(Instr.build 112 #[(0,.agg (valsNr p).toArray),(1,.agg #[.int .i64 a,.int .i64 b]),(2,.slice A n c)]).run Tryz.prog w=.ok (.agg (valsWd ⟨p,a,b,A,n,c⟩).toArray) w:=by kernel_rfl
def WdK (lo:Nat) (w:World) (R:List Nr) (i:Nat) (x:Wd):Prop:=∃ p,R[i]?=some p∧IsWd lo w x p (szM (R.map Nr.n) i) ((kidD (R.map Nr.n) i).map fun (k:Nat)=>(k:Int))
structure StW (w:World) (A:Option Addr) (c:Nat) (R:List Nr) (k:Nat) (W:World):Prop where
 t:W.heap[w.heap.size]?=some (.cells #[.slice A R.length c] 25 (0,0))
 s:W.heap[w.heap.size+1+1]?=some (.cells #[.slice (some ⟨w.heap.size+1,0,none⟩) R.length R.length] 109 (0,0))
 b:W.heap[w.heap.size+1+1+1]?=some (.cells #[.slice A R.length c] 23 (0,0))
 x:∃ X:List Wd,X.length=R.length∧RbK 37 W (w.heap.size+1) 112 (X.map valsWd)∧∀ i x,X[i]?=some x→R.length≤i+k→WdK (w.heap.size+4) W R i x
 l:Below w.heap.size w W
 z:w.heap.size+4≤W.heap.size
theorem StW.same {w W W':World} {A:Option Addr} {c:Nat} {R:List Nr} {k:Nat} (h:StW w A c R k W) (hb:Below w.heap.size W W') (hc:∀ (g:Nat) (cs:Array Value) (T:TypeId),W.heap[g]?=some (.cells cs T (0,0))→W'.heap[g]?=W.heap[g]?):StW w A c R k W':=by
 obtain ⟨t,s,b,⟨X,x1,x2,x3⟩,l,z⟩:=h;have x2':=x2;obtain ⟨cs,hh,_⟩:=x2';refine ⟨(hc _ _ _ t).trans t,(hc _ _ _ s).trans s,(hc _ _ _ b).trans b,⟨X,x1,x2.keep' (hc _ _ _ hh),fun i x hx hi=>?_⟩,l.trans hb,Nat.le_trans z hb.size⟩;obtain ⟨p,hp,k1,k2,k3,k4⟩:=x3 i x hx hi;exact ⟨p,hp,k1,k2,k3,k4.same fun g _ cs hg=>hc g cs _ hg⟩
theorem StW.below {w W W':World} {A:Option Addr} {c:Nat} {R:List Nr} {k:Nat} (h:StW w A c R k W) (hb:Below W.heap.size W W'):StW w A c R k W':=h.same (hb.mono (by have:=h.z;omega)) fun g cs T hg=>hb.block g (ltS hg)
theorem InS_append {cs:Array Value} {o:Nat} {A B:List Value}:InS cs o (A ++ B)↔InS cs o A∧InS cs (o+A.length) B:=by
 constructor
 ·intro h;refine ⟨fun j u hj=>h j u ?_,fun j u hj=>?_⟩
  ·rw [List.getElem?_append_left (List.getElem?_eq_some_iff.1 hj).1];exact hj
  ·rw [Nat.add_assoc];refine h (A.length+j) u ?_;rw [List.getElem?_append_right (by omega)]
   simpa using hj
 ·rintro ⟨h1,h2⟩ j u hj
  by_cases hl:j<A.length
  ·rw [List.getElem?_append_left hl] at hj;exact h1 j u hj
  ·rw [List.getElem?_append_right (by omega)] at hj
   have:=h2 _ u hj
   rwa [show o+A.length+(j-A.length)=o+j by omega] at this
theorem RbK.set {k:Nat} {w:World} {g:Nat} {T:TypeId} {R:List (List Value)} (h:RbK k w g T R) (hR:∀ vs∈R,vs.length=k) {j:Nat} {vs:List Value} (hv:vs.length=k) (hj:j<R.length):RbK k (w.setCells g (j*k) vs) g T (R.set j vs):=by
 obtain ⟨cs,hh,hs,hc⟩:=h;have e:(j+1)*k≤R.length*k:=Nat.mul_le_mul_right k hj;rw [Nat.add_mul,Nat.one_mul] at e;refine ⟨_,heap_setCells vs (j*k) _ _ hh,by rw [wrAt_size,hs,List.length_set],fun i us hi hu=>?_⟩
 by_cases ei:i=j
 ·subst ei;rw [List.getElem?_set_self (by simpa using hj)] at hu;obtain rfl:=Option.some.inj hu;exact InS.write (by rw [hv,hs];omega)
 ·rw [List.getElem?_set_ne (fun e=>ei e.symm)] at hu;have hil:=(List.getElem?_eq_some_iff.1 hu).1;refine (hc i us hil hu).keepS ?_;rw [hR us (List.mem_of_getElem? hu),hv]
  rcases Nat.lt_or_gt_of_ne ei with hlt | hlt
  ·left
   have e2:(i+1)*k≤j*k:=Nat.mul_le_mul_right k hlt;rw [Nat.add_mul,Nat.one_mul] at e2;omega
  ·right
   have e2:(j+1)*k≤i*k:=Nat.mul_le_mul_right k hlt;rw [Nat.add_mul,Nat.one_mul] at e2;omega
theorem RbK.wish {w:World} {g:Nat} {T:TypeId} {X:List Wd} (h:RbK 37 w g T (X.map valsWd)) {j:Nat} {x:Wd} (hx:X[j]?=some x) (a b:Int):RbK 37 (w.setCells g (j*37+34) (valsWi (a,b))) g T ((X.set j { x with sw:=a,sh:=b }).map valsWd):=by
 obtain ⟨cs,hh,hs,hc⟩:=h;have hj:=(List.getElem?_eq_some_iff.1 hx).1;rw [List.length_map] at hs;have e:(j+1)*37≤X.length*37:=Nat.mul_le_mul_right 37 hj;refine ⟨_,heap_setCells _ (j*37+34) _ _ hh,by rw [wrAt_size,hs,List.length_map,List.length_set],fun i us hi hu=>?_⟩;rw [List.getElem?_map] at hu
 by_cases ei:i=j
 ·subst ei;rw [List.getElem?_set_self hj] at hu;obtain rfl:=Option.some.inj hu;have h0:=hc i (valsWd x) (by rw [List.length_map];exact hj) (by rw [List.getElem?_map,hx];rfl);unfold valsWd at h0 ⊢;rw [show ([.int .i64 x.sw,.int .i64 x.sh,.slice x.ka x.kn x.kc]:List Value)=valsWi (x.sw,x.sh) ++ [.slice x.ka x.kn x.kc] from rfl,InS_append,InS_append] at h0
  rw [show ([.int .i64 a,.int .i64 b,.slice x.ka x.kn x.kc]:List Value)=valsWi (a,b) ++ [.slice x.ka x.kn x.kc] from rfl,InS_append,InS_append];refine ⟨h0.1.keepS (.inl (by rw [valsNr_len];omega)),InS.write (by rw [hs];show _+34+2≤_;omega),h0.2.2.keepS (.inr ?_)⟩
  show i*37+34+2≤i*37+34+2
  omega
 ·rw [List.getElem?_set_ne (fun e=>ei e.symm)] at hu
  cases hxi:X[i]? with
  | none=>rw [hxi] at hu;cases hu
  | some y =>
   rw [hxi] at hu;obtain rfl:=Option.some.inj hu;have hil:=(List.getElem?_eq_some_iff.1 hxi).1;refine (hc i (valsWd y) (by rw [List.length_map];exact hil) (by rw [List.getElem?_map,hxi];rfl)).keepS ?_;rw [valsWd_len]
   show _∨j*37+34+2≤_
   omega
theorem KidA.sets {lo g o:Nat} {w:World} {A:Option Addr} {M:List Int} (h:KidA lo w A M) (hg:g<lo) (vs:List Value):KidA lo (w.setCells g o vs) A M:=h.same fun b hb cs _=>heap_setCells_ne (by omega) vs o w
structure StM (w:World) (A:Option Addr) (c:Nat) (R:List Nr) (j:Nat) (x:Wd) (W:World):Prop where
 t:W.heap[w.heap.size]?=some (.cells #[.slice A R.length c] 25 (0,0))
 s:W.heap[w.heap.size+1+1]?=some (.cells #[.slice (some ⟨w.heap.size+1,0,none⟩) R.length R.length] 109 (0,0))
 b:W.heap[w.heap.size+1+1+1]?=some (.cells #[.slice A R.length c] 23 (0,0))
 x:∃ X:List Wd,X.length=R.length∧RbK 37 W (w.heap.size+1) 112 (X.map valsWd)∧X[j]?=some x∧∀ i x,X[i]?=some x→j<i→WdK (w.heap.size+4) W R i x
 l:Below w.heap.size w W
 z:w.heap.size+4≤W.heap.size
theorem WdK.sets {lo g o i:Nat} {w:World} {R:List Nr} {x:Wd} (h:WdK lo w R i x) (hg:g<lo) (vs:List Value):WdK lo (w.setCells g o vs) R i x:=let ⟨p,hp,a,b,c,d⟩:=h;⟨p,hp,a,b,c,d.sets hg vs⟩
theorem WdK.keep {lo i:Nat} {w w':World} {R:List Nr} {x:Wd} (h:WdK lo w R i x) (hb:Below w.heap.size w w'):WdK lo w' R i x:=let ⟨p,hp,a⟩:=h;⟨p,hp,a.keep hb⟩
theorem StM.keep {w W W':World} {A:Option Addr} {c:Nat} {R:List Nr} {j:Nat} {x:Wd} (h:StM w A c R j x W) (hb:Below W.heap.size W W'):StM w A c R j x W':=by
 obtain ⟨t,s,b,⟨X,x1,x2,x3,x4⟩,l,z⟩:=h;exact ⟨(hb.block _ (ltS t)).trans t,(hb.block _ (ltS s)).trans s,(hb.block _ (ltS b)).trans b,⟨X,x1,x2.keep hb,x3,fun i x hx hi=>(x4 i x hx hi).keep hb⟩,bkeep2 l hb,Nat.le_trans z hb.size⟩
theorem StM.wish {w W:World} {A:Option Addr} {c:Nat} {R:List Nr} {j:Nat} {x:Wd} (h:StM w A c R j x W) (a b:Int):StM w A c R j { x with sw:=a,sh:=b } (W.setCells (w.heap.size+1) (j*37+34) (valsWi (a,b))):=by
 obtain ⟨t,s,b',⟨X,x1,x2,x3,x4⟩,l,z⟩:=h;refine ⟨(heap_setCells_ne (by omega) _ _ _).trans t,(heap_setCells_ne (by omega) _ _ _).trans s,(heap_setCells_ne (by omega) _ _ _).trans b',⟨_,by rw [List.length_set,x1],x2.wish x3 a b,List.getElem?_set_self (List.getElem?_eq_some_iff.1 x3).1,fun i y hy hi=>?_⟩,below_setCells (by omega) _ _ _ l,by rw [size_setCellsT];exact z⟩
 rw [List.getElem?_set_ne (by omega)] at hy;exact (x4 i y hy hi).sets (by omega) _
theorem StM.done {w W:World} {A:Option Addr} {c:Nat} {R:List Nr} {j k:Nat} {x:Wd} (h:StM w A c R j x W) (hx:WdK (w.heap.size+4) W R j x) (hj:j+(k+1)=R.length):StW w A c R (k+1) W:=by
 obtain ⟨t,s,b,⟨X,x1,x2,x3,x4⟩,l,z⟩:=h;refine ⟨t,s,b,⟨X,x1,x2,fun i y hy hi=>?_⟩,l,z⟩
 by_cases e:i=j
 ·subst e;rw [x3] at hy;obtain rfl:=Option.some.inj hy;exact hx
 ·exact x4 i y hy (by omega)
theorem StW.put {w W:World} {A:Option Addr} {c:Nat} {R:List Nr} {j k:Nat} (h:StW w A c R k W) (hj:R.length≤j+(k+1)) (hj2:j+k<R.length) (x:Wd):StM w A c R j x (W.setCells (w.heap.size+1) (j*37) (valsWd x)):=by
 obtain ⟨t,s,b',⟨X,x1,x2,x4⟩,l,z⟩:=h;refine ⟨(heap_setCells_ne (by omega) _ _ _).trans t,(heap_setCells_ne (by omega) _ _ _).trans s,(heap_setCells_ne (by omega) _ _ _).trans b',⟨X.set j x,by rw [List.length_set,x1],?_,List.getElem?_set_self (by omega),fun i y hy hi=>?_⟩,below_setCells (by omega) _ _ _ l,by rw [size_setCellsT];exact z⟩
 ·rw [List.map_set];exact x2.set (fun vs hv=>by obtain ⟨y,_,rfl⟩:=List.mem_map.1 hv;exact valsWd_len y) (valsWd_len x) (by rw [List.length_map];omega)
 ·rw [List.getElem?_set_ne (by omega)] at hy;exact (x4 i y hy (by omega)).sets (by omega) _
theorem keepsFrom_setCells {B g:Nat}:∀ (vs:List Value) (o:Nat) (w:World),KeepsFrom B w (w.setCells g o vs)
 | [],o,w=>KeepsFrom.refl B w
 | v :: r,o,w=>((KeepsOthers.setCell w ⟨g,o,none⟩ v).from B).trans (keepsFrom_setCells r (o+1) (w.setCell ⟨g,o,none⟩ v))
theorem KidA.any {lo:Nat} {w:World} {A:Option Addr} {M:List Int} (h:KidA lo w A M):KidA 0 w A M:=by
 rcases h with h | ⟨g,cap,e,_,h⟩
 ·exact .inl h
 ·exact .inr ⟨g,cap,e,Nat.zero_le _,h⟩
def SetV (lo:Nat) (w:World) (R:List Nr) (v:Value):Prop:=∃ (g:Nat) (X:List Wd),v=.slice (some ⟨g,0,none⟩) R.length R.length∧lo≤g∧X.length=R.length∧RbK 37 w g 112 (X.map valsWd)∧∀ i x,X[i]?=some x→WdK 0 w R i x
theorem StW.all {w W:World} {A:Option Addr} {c:Nat} {R:List Nr} (h:StW w A c R R.length W):SetV w.heap.size W R (.slice (some ⟨w.heap.size+1,0,none⟩) R.length R.length):=by
 obtain ⟨t,s,b,⟨X,x1,x2,x3⟩,l,z⟩:=h;exact ⟨_,X,rfl,by omega,x1,x2,fun i x hx=>let ⟨p,hp,a1,a2,a3,a4⟩:=x3 i x hx (by omega);⟨p,hp,a1,a2,a3,a4.any⟩⟩
theorem four (w:World) (o1 o2 o3 o4:Obj):∃ W,(((w.alloc o1).alloc o2).alloc o3).alloc o4=W∧W.heap[w.heap.size]?=some o1∧W.heap[w.heap.size+1]?=some o2∧W.heap[w.heap.size+1+1]?=some o3∧W.heap[w.heap.size+1+1+1]?=some o4∧W.heap.size=w.heap.size+4∧Below w.heap.size w W:=by
 have n1:=World.alloc_heap_new w o1;have n2:=World.alloc_heap_new (w.alloc o1) o2;have n3:=World.alloc_heap_new ((w.alloc o1).alloc o2) o3;have n4:=World.alloc_heap_new (((w.alloc o1).alloc o2).alloc o3) o4;simp only [World.size_alloc] at n1 n2 n3 n4;refine ⟨_,rfl,?_,?_,?_,n4,by simp,?_⟩
 ·exact (Below.heap_alloc _ _ _ (by simp;omega)).trans ((Below.heap_alloc _ _ _ (by simp;omega)).trans ((Below.heap_alloc _ _ _ (by simp)).trans n1))
 ·exact (Below.heap_alloc _ _ _ (by simp)).trans ((Below.heap_alloc _ _ _ (by simp)).trans n2)
 ·exact (Below.heap_alloc _ _ _ (by simp)).trans n3
 ·exact ((((Below.refl _ w).alloc (Nat.le_refl _) _).alloc (by simp) _).alloc (by simp;omega) _).alloc (by simp;omega) _
theorem stNI {l n:Nat} {P:Program} {ops:Array Oper} {rest:List Oper} {op:Oper} {a:Act} {w:World} {Q:Exit→Act→World→Prop} (T:TypeId) (x y:Operand) (vs:List Value) (b o:Nat) (hgd:op.guard=none) (ho:op.op=.store T x y) (hx:a.eval x=.pointer (some ⟨b,o,none⟩)) (hy:a.eval y=.agg vs.toArray)
  (ht:w.there b o vs.length) (hi:(P.info? T).map (·.size)=some vs.length) (h1:one vs)
  (h:wpListIn (Fence.wide.inRound l) n P ops Q rest (a.put op.dst undef) (w.setCells b o vs)):wpListIn (Fence.wide.inRound l) n P ops Q (op :: rest) a w :=
 wpListIn_plain hgd fun K hK=>opLift (Q0:=fun _ _ _=>False) (by unfold noDef;rw [ho]) (fun _ _ _ _ h=>h) (fun _ _ h=>h) (wp_store_mid T x y ho b o vs.toArray hx hy (by simpa using ht) (by simpa using hi) (all_oneCell_toArray h1) (hK _ _ (by simpa using h)))
theorem settled_v (A:Option Addr) (c:Nat) (R:List Nr) (hT:TrOK (R.map Nr.n)) (w:World) (h:NrV w A R) (hr:RdR w R) (hL:R.length≤10) :
  Calls Tryz.prog 98 #[.agg #[.slice A R.length c]] w fun e w'=>(∃ v,e=.returned v∧SetV w.heap.size w' R v)∧Below w.heap.size w w':=by
 obtain ⟨fm,hfm,hfz,hmk0⟩:=made_zero
 have hmk:=fun w=>hmk0 R.length w (by omega)
 have HFM:=Lib.hid hfm;have HFZ:=Lib.hid hfz;have HNV:=Lib.hid h;have HRD:=Lib.hid hr;clear hmk0 hfm hfz h hr;refine (callsIn_wide (n:=6)).1 ?_;refine callsIn_of_wp_marks Tryz.func98 rfl trivial ?_ rfl
 simp only [Tryz.ntmps98,List.size_toArray,List.length_cons,List.length_nil,Nat.reduceAdd,Nat.reduceSub,Array.replicate_succ,Array.replicate_zero,List.push_toArray,List.append_toArray,List.nil_append,List.cons_append]
 gi_wp2_with (refine ⟨trivial,?_⟩;gi_at_call 127;refine (backwardN_in Fence.wide _ trivial rfl _ _ _ _).mono ?_;rintro e w' ⟨rfl,rfl⟩)
 clear hmk;obtain ⟨W0,hW0,n1,n2,n3,n4,hz,hb0⟩:=four w (.cells #[.slice A R.length c] 25) (.cells (fm R.length) 112) (.cells #[.slice (some ⟨w.heap.size+1,0,none⟩) R.length R.length] 109) (.cells #[.slice A R.length c] 23);rw [hW0];clear hW0
 have hst:StW w A c R 0 W0:=⟨n1,n3,n4,⟨List.replicate R.length zeroWd,by simp,⟨_,n2,by rw [HFM.out];simp,fun i vs hi hv=>by
   simp at hi
   simp only [List.map_replicate,List.getElem?_replicate,if_pos hi,Option.some.injEq] at hv;subst hv
   exact HFZ.out _ _ hi⟩,fun i x hx hi=>by have:=(List.getElem?_eq_some_iff.1 hx).1;simp at this;omega⟩,hb0,by omega⟩
 clear n1 n2 n3 n4 hb0
 refine wpIn_rangeFunc_cnt rfl (by omega) (gf:=165) (lb:=#[.pointer (some ⟨w.heap.size+1+1+1,0,none⟩)]) rfl trivial (enters_of Tryz.func165 (by kernel_rfl) rfl)
  (bkc_in Fence.wide _ trivial rfl (by omega) (w.heap.size+1+1+1) A c R (by omega)) (fun _=>rfl)
  (StW w A c R) (fun k W W' h hk=>h.same (hk.1.mono (by omega)) fun g cs T hg=>hk.block hg) (fun k W h=>⟨cellS h.b 0,HNV.out.keep h.l⟩) hst
  (fun k a' W=>∃ nb,w.heap.size+4≤nb∧W.heap[nb]?=some (.cells (valsNr (nrAt R (R.length-1-k))).toArray 43 (0,0))∧a'={ tmps:=#[.agg #[.slice A R.length c],.pointer (some ⟨w.heap.size,0,none⟩),.slice none 0 0,.pointer (some ⟨w.heap.size+1+1,0,none⟩),.int .i64 ((R.length-1-k:Nat):Int),.pointer (some ⟨nb,0,none⟩),.pointer (some ⟨w.heap.size,0,none⟩),.slice A R.length c,.int .i64 (R.length:Int),.slice (some ⟨w.heap.size+1,0,none⟩) R.length R.length,.pointer (some ⟨w.heap.size,0,none⟩),.slice A R.length c,.func (.func 165) #[] #[.pointer (some ⟨w.heap.size+1+1+1,0,none⟩)],.int .i64 ((R.length-1-k:Nat):Int),.agg (valsNr (nrAt R (R.length-1-k))).toArray,undef,undef,undef,undef,undef,undef,undef,undef,undef,undef,undef,undef,undef,undef,undef,undef,undef,undef,undef,undef,undef,undef,undef,undef,undef,undef,undef,undef,undef,undef,undef,undef,undef,undef,undef,undef,undef,undef,undef,undef,undef,undef],defers:=[] })
  (fun k a' W W' h hk=>let ⟨nb,h1,h2,h3⟩:=h;⟨nb,h1,hk.cells h2,h3⟩)
  ?assign ?body ?done
 case assign =>
  rintro l k W K hk hI hK;simp only [encR]
  gi_wp2_with (refine stNI 43 (.tmp 5) (.tmp 14) (valsNr (nrAt R (R.length-1-k))) W.heap.size 0 rfl rfl rfl rfl (thereB (newS _ _) (by show (0+34:Nat)≤34;omega)) (by rw [valsNr_len];kernel_rfl) (valsNr_one _) ?_)
  have hbN:Below W.heap.size W ((W.alloc (.cells zeroNrA 43)).setCells W.heap.size 0 (valsNr (nrAt R (R.length-1-k)))):=below_setCells (Nat.le_refl _) _ _ _ (balloc (Below.refl _ _));exact hK _ _ (keepsFrom_below hbN) (hI.below hbN) ⟨W.heap.size,hI.z,new_fullW _ rfl rfl,rfl⟩
 case body =>
  rintro l k a' W hk hI ⟨nb,hnb,hn,rfl⟩
  obtain ⟨j,hj⟩:∃ j,R.length-1-k=j:=⟨_,rfl⟩
  rw [hj] at hn ⊢
  have hjl:j<R.length:=by omega
  have hget:R[j]?=some R[j]:=List.getElem?_eq_getElem hjl;rw [nrAt_get hget] at hn ⊢
  have hmg:(R.map Nr.n)[j]?=some R[j].n:=by rw [List.getElem?_map,hget];rfl
  generalize hp0:R[j]=p at *;have HI:=Lib.hid hI;have HN:=Lib.hid hn;have HG:=Lib.hid hget;have HMG:=Lib.hid hmg;have HJ:=Lib.hid hj;have ln:=ltS hn;have lt:=ltS hI.t;have ls:=ltS hI.s;have x1:W.cell? ⟨nb,1,none⟩=some (.int .i64 p.n.ww):=cellS hn 1;have x2:W.cell? ⟨nb,2,none⟩=some (.int .i64 p.n.hh):=cellS hn 2;have xt:=cellS hI.t 0;have xs:=cellS hI.s 0
  have hdj:(j:Int)<(R.length:Int):=by omega
  have hV:=HNV.out.keep hI.l
  obtain ⟨ks,hks⟩:∃ ks,(kidD (R.map Nr.n) j).map (fun (k:Nat)=>(k:Int))=ks:=⟨_,rfl⟩
  have HKS:=Lib.hid hks;have hge:w.heap.size+4≤W.heap.size:=hI.z;clear hI hn hget hmg hp0 hks hj;refine wpIn_block ?_
  refine wpIn_seq_k fun K1 hK1=>?_
  refine wpIn_region_liftAny (by kernel_rfl) (by kernel_rfl) ?_
  refine wpAny_rxp 13 1 #[true,true,true,true,true,true,true,true,true,true,true,true,true,false] (by kernel_rfl) (by kernel_rfl) (XV (.slice (some ⟨w.heap.size+1,0,none⟩) R.length R.length) :: XV (.int .i64 (j:Int)) :: XV (.agg (valsNr p).toArray) :: XV (.pointer (some ⟨nb,1,none⟩)) :: XV (.int .i64 p.n.ww) :: XV (.pointer (some ⟨nb,2,none⟩)) :: XV (.int .i64 p.n.hh) :: XV (.agg #[.int .i64 p.n.ww,.int .i64 p.n.hh]) :: XV (.agg #[.slice A R.length c]) :: XV (.int .i64 (j:Int)) :: (fun v z=>KdA (w.heap.size+4) z v ks) :: (fun v z=>WdV (w.heap.size+4) z v p (p.n.ww,p.n.hh) ks) :: XV (.pointer (some ⟨w.heap.size+1,j*37,none⟩)) :: []) (by kernel_rfl) (by kernel_rfl) ?hTs ?hops ?hfin
  case hTs =>
   intro T hT;simp only [List.mem_cons,List.not_mem_nil,or_false] at hT
   rcases hT with rfl | rfl | rfl | rfl | rfl | rfl | rfl | rfl | rfl | rfl | rfl | rfl | rfl <;> first | exact stay_V _ | exact stay_T | exact stay_of (fun v a b x g=>x.keep g) | exact stay_of (fun v a b x g=>x)
  case hops =>
   refine ⟨opOK_rx [(3,none)] (by kernel_rfl) rfl ?_,?_⟩
   ·intro act w' hw' h1;obtain ⟨hk,hf⟩:=evkf act;generalize act.eval=ρ at *;replace h1:ρ (.tmp 3)=.pointer (some ⟨w.heap.size+1+1,0,none⟩):=h1
    refine gxB hw' fun K hK hc hf'=>?_
    go_simp;exact hK _ _ ⟨rfl,Gr.refl _⟩
   refine ⟨opOK_rx [(4,none)] (by kernel_rfl) rfl ?_,?_⟩
   ·intro act w' hw' h1;obtain ⟨hk,hf⟩:=evkf act;generalize act.eval=ρ at *;replace h1:ρ (.tmp 4)=.int .i64 (j:Int):=h1
    refine gxB hw' fun K hK hc hf'=>?_
    go_simp;exact hK _ _ ⟨rfl,Gr.refl _⟩
   refine ⟨opOK_rx [(5,none)] (by kernel_rfl) rfl ?_,?_⟩
   ·intro act w' hw' h1;obtain ⟨hk,hf⟩:=evkf act;generalize act.eval=ρ at *;replace h1:ρ (.tmp 5)=.pointer (some ⟨nb,0,none⟩):=h1;refine gx_gen (fun K hK=>?_)
    simp only [execOp,h1,Instr.loadAt,Instr.sureAddr,Sem.run_bind,Sem.run_pure,Result.andThen_ok,run_loadVar_mid w' nb 0 43 (valsNr p) _ (rangeB (nodeAt HN.out) ((bdrewn hw'.out).block nb ln)) Tryz.underlying43 rfl (by rw [valsNr_len];kernel_rfl)];exact hK _ _ ⟨rfl,Gr.refl _⟩
   refine ⟨opOK_rx [(5,none)] (by kernel_rfl) rfl ?_,?_⟩
   ·intro act w' hw' h1;obtain ⟨hk,hf⟩:=evkf act;generalize act.eval=ρ at *;replace h1:ρ (.tmp 5)=.pointer (some ⟨nb,0,none⟩):=h1
    refine gxB hw' fun K hK hc hf'=>?_
    go_simp;exact hK _ _ ⟨rfl,Gr.refl _⟩
   refine ⟨opOK_rx [(18,some 3)] (by kernel_rfl) rfl ?_,?_⟩
   ·intro act w' hw' h1;obtain ⟨hk,hf⟩:=evkf act;generalize act.eval=ρ at *;replace h1:ρ (.tmp 18)=.pointer (some ⟨nb,1,none⟩):=h1
    refine gxB hw' fun K hK hc hf'=>?_
    go_simp;exact hK _ _ ⟨rfl,Gr.refl _⟩
   refine ⟨opOK_rx [(5,none)] (by kernel_rfl) rfl ?_,?_⟩
   ·intro act w' hw' h1;obtain ⟨hk,hf⟩:=evkf act;generalize act.eval=ρ at *;replace h1:ρ (.tmp 5)=.pointer (some ⟨nb,0,none⟩):=h1
    refine gxB hw' fun K hK hc hf'=>?_
    go_simp;exact hK _ _ ⟨rfl,Gr.refl _⟩
   refine ⟨opOK_rx [(20,some 5)] (by kernel_rfl) rfl ?_,?_⟩
   ·intro act w' hw' h1;obtain ⟨hk,hf⟩:=evkf act;generalize act.eval=ρ at *;replace h1:ρ (.tmp 20)=.pointer (some ⟨nb,2,none⟩):=h1
    refine gxB hw' fun K hK hc hf'=>?_
    go_simp;exact hK _ _ ⟨rfl,Gr.refl _⟩
   refine ⟨opOK_rx [(19,some 4),(21,some 6)] (by kernel_rfl) rfl ?_,?_⟩
   ·intro act w' hw' h1 h2;obtain ⟨hk,hf⟩:=evkf act;generalize act.eval=ρ at *;replace h1:ρ (.tmp 19)=.int .i64 p.n.ww:=h1;replace h2:ρ (.tmp 21)=.int .i64 p.n.hh:=h2
    refine gxB hw' fun K hK hc hf'=>?_
    go_simp;exact hK _ _ ⟨rfl,Gr.refl _⟩
   refine ⟨opOK_rx [(1,none)] (by kernel_rfl) rfl ?_,?_⟩
   ·intro act w' hw' h1;obtain ⟨hk,hf⟩:=evkf act;generalize act.eval=ρ at *;replace h1:ρ (.tmp 1)=.pointer (some ⟨w.heap.size,0,none⟩):=h1
    refine gxB hw' fun K hK hc hf'=>?_
    go_simp;exact hK _ _ ⟨rfl,Gr.refl _⟩
   refine ⟨opOK_rx [(4,none)] (by kernel_rfl) rfl ?_,?_⟩
   ·intro act w' hw' h1;obtain ⟨hk,hf⟩:=evkf act;generalize act.eval=ρ at *;replace h1:ρ (.tmp 4)=.int .i64 (j:Int):=h1
    refine gxB hw' fun K hK hc hf'=>?_
    go_simp;exact hK _ _ ⟨rfl,Gr.refl _⟩
   refine ⟨opOK_rx [(23,some 8),(24,some 9)] (by kernel_rfl) rfl ?_,?_⟩
   ·intro act w' hw' h1 h2;obtain ⟨hk,hf⟩:=evkf act;generalize act.eval=ρ at *;replace h1:ρ (.tmp 23)=.agg #[.slice A R.length c]:=h1;replace h2:ρ (.tmp 24)=.int .i64 (j:Int):=h2
    refine gxB hw' fun K hK hc hf'=>?_
    go_simp
    (refine (kidsOf_f A c R (j:Int) _ (hV.keep (bdrewn hw'.out)) (by omega)).mono ?_);rintro e w1 ⟨⟨v,rfl,hv⟩,hb1⟩;rw [kidsM_eq,HKS.out] at hv;exact ⟨_,rfl,hK _ _ ⟨KdA.of hv (Nat.le_trans hge (bdrewn hw'.out).size),hb1⟩⟩
   refine ⟨opOK_rx [(17,some 2),(22,some 7),(25,some 10)] (by kernel_rfl) rfl ?_,?_⟩
   ·intro act w' hw' h1 h2 h3;obtain ⟨hk,hf⟩:=evkf act;generalize act.eval=ρ at *;replace h1:ρ (.tmp 17)=.agg (valsNr p).toArray:=h1;replace h2:ρ (.tmp 22)=.agg #[.int .i64 p.n.ww,.int .i64 p.n.hh]:=h2;replace h3:(fun v z=>KdA (w.heap.size+4) z v ks) (ρ (.tmp 25)) w':=h3;refine gx_gen (fun K hK=>?_)
    obtain ⟨kA,kc,e3,hk3⟩:=h3;simp only [execOp,List.map_toArray,List.map_cons,List.map_nil,h1,h2,e3,Sem.run_bind,Sem.run_pure,run_bW,Result.andThen_ok];exact hK _ _ ⟨⟨_,rfl,rfl,rfl,rfl,hk3⟩,Gr.refl _⟩
   refine ⟨opOK_rx [(15,some 0),(16,some 1)] (by kernel_rfl) rfl ?_,?_⟩
   ·intro act w' hw' h1 h2;obtain ⟨hk,hf⟩:=evkf act;generalize act.eval=ρ at *;replace h1:ρ (.tmp 15)=.slice (some ⟨w.heap.size+1,0,none⟩) R.length R.length:=h1;replace h2:ρ (.tmp 16)=.int .i64 (j:Int):=h2
    refine gxB hw' fun K hK hc hf'=>?_
    go_simp;exact hK _ _ ⟨rfl,Gr.refl _⟩
   exact trivial
  case hfin =>
   intro w5 hg5;intro v15 t15;replace t15:v15=.slice (some ⟨w.heap.size+1,0,none⟩) R.length R.length:=t15;subst t15;intro v16 t16;replace t16:v16=.int .i64 (j:Int):=t16;subst t16;intro v17 t17;replace t17:v17=.agg (valsNr p).toArray:=t17;subst t17;intro v18 t18;replace t18:v18=.pointer (some ⟨nb,1,none⟩):=t18;subst t18;intro v19 t19;replace t19:v19=.int .i64 p.n.ww:=t19;subst t19;intro v20 t20
   replace t20:v20=.pointer (some ⟨nb,2,none⟩):=t20;subst t20;intro v21 t21;replace t21:v21=.int .i64 p.n.hh:=t21;subst t21;intro v22 t22;replace t22:v22=.agg #[.int .i64 p.n.ww,.int .i64 p.n.hh]:=t22;subst t22;intro v23 t23;replace t23:v23=.agg #[.slice A R.length c]:=t23;subst t23;intro v24 t24;replace t24:v24=.int .i64 (j:Int):=t24;subst t24;intro v25 t25
   replace t25:(fun v z=>KdA (w.heap.size+4) z v ks) v25 w5:=t25;intro v26 t26;replace t26:(fun v z=>WdV (w.heap.size+4) z v p (p.n.ww,p.n.hh) ks) v26 w5:=t26;intro v27 t27;replace t27:v27=.pointer (some ⟨w.heap.size+1,j*37,none⟩):=t27;subst t27;have hb5:=bdrewn hg5.out;clear hg5
   simp only [finP,List.take_succ_cons,List.take_zero,Act.put,List.setIfInBounds_toArray,List.set_cons_succ,List.set_cons_zero];obtain ⟨x,rfl,hx1,hx2,hx3,hx4⟩:=t26
   have hjk:j+(k+1)=R.length:=by have:=HJ.out;omega
   have hI5:=HI.out.below hb5;have hM:=hI5.put (j:=j) (by omega) (by omega) x;obtain ⟨X,X1,X2,-⟩:=hI5.x;refine wpAny_store 13 112 (.tmp 27) (.tmp 26) (w.heap.size+1) (j*37) (valsWd x) (by kernel_rfl) (by kernel_rfl) (by kernel_rfl) rfl rfl (by rw [valsWd_len];exact RpK.there X2 (by rw [List.length_map];omega)) (by rw [valsWd_len];kernel_rfl) (valsWd_one _) ?_;simp only [Exit.then]
   refine hK1 _ _ ?_;clear hK1 K1;have hKF:KeepsFrom W0.heap.size W (w5.setCells (w.heap.size+1) (j*37) (valsWd x)):=(keepsFrom_below hb5).trans (keepsFrom_setCells _ _ _);have hN6:(w5.setCells (w.heap.size+1) (j*37) (valsWd x)).heap[nb]?=some (.cells (valsNr p).toArray 43 (0,0)):=(heap_setCells_ne (by omega) _ _ _).trans ((hb5.block nb ln).trans HN.out)
   have hx6:KidA (w.heap.size+4) (w5.setCells (w.heap.size+1) (j*37) (valsWd x)) x.ka ks:=hx4.sets (by omega) _;clear hI5 X1 X2 hb5 t25 X hx4 x1 x2 xt xs ls lt ln hge hV HI
   revert hKF hN6 hx6 hM
   generalize w5.setCells (w.heap.size+1) (j*37) (valsWd x)=W6;intro hM hKF hN6 hx6;clear w5;have HM:=Lib.hid hM;have HK:=Lib.hid hKF;have HN:=Lib.hid hN6;have HX6:=Lib.hid hx6;have HX1:=Lib.hid hx1;have HX2:=Lib.hid hx2;have HX3:=Lib.hid hx3;have HJK:=Lib.hid hjk;have ln:=ltS hN6;have ls:=ltS hM.s;have y3:W6.cell? ⟨nb,3,none⟩=some (.bool p.n.ke):=cellS hN6 3;have xs:=cellS hM.s 0
   obtain ⟨X,X1,X2,X3,X4⟩:=hM.x;obtain ⟨cs,hcs,hss,hcc⟩:=X2;have hi6:InS cs (j*37) (valsWd x):=hcc j (valsWd x) (by rw [List.length_map];omega) (by rw [List.getElem?_map,X3];rfl)
   have x36:W6.cell? ⟨w.heap.size+1,j*37+36,none⟩=some (.slice x.ka ks.length x.kc):=by rw [cellS hcs,hi6 36 _ rfl];show some (Value.slice x.ka x.kn x.kc)=_;rw [hx3]
   have lw:=ltS hcs;clear X1 X3 X4 X hcs hss hcc hi6 cs hM hKF hN6 hx6 hx1 hx2 hx3 hjk
   refine wpIn_seq_k fun K2 hK2=>?_
   refine wpIn_region_lift (by kernel_rfl) ?_
   cases hke:p.n.ke
   ·by_cases hnil:ks=[]
    ·rw [hke] at y3
     have hl0:decide ((ks.length:Int)>0)=false:=by simp [hnil]
     have hl1:decide ((0:Int)<(ks.length:Int))=false:=by simp [hnil]
     go_wp2;refine wpIn_cond_false rfl ?_;refine wpIn_skip ?_;simp only [Exit.inBlock];refine ⟨by first | rfl | trivial,HK.out,HM.out.done ⟨p,HG.out,HX1.out,?_,by rw [HKS.out];exact HX3.out,by rw [HKS.out];exact HX6.out⟩ HJK.out⟩;rw [HX2.out,szM_eq hT HMG.out];exact (askN_own (.inr (.inl (List.map_eq_nil_iff.1 (HKS.out.trans hnil))))).symm
    ·rw [hke] at y3;have hlp:=List.length_pos_iff.2 hnil
     have hl0:decide ((ks.length:Int)>0)=true:=by simp;omega
     have hl1:decide ((0:Int)<(ks.length:Int))=true:=by simp;omega
     go_wp2;refine wpIn_cond_true rfl ?_
     obtain ⟨q,hq⟩:∃ q,szM (R.map Nr.n) j=q:=⟨_,rfl⟩
     have hkd:kidD (R.map Nr.n) j≠[]:=fun e=>hnil (by rw [<- HKS.out,e];rfl)
     have hkl:∀ k∈kidD (R.map Nr.n) j,k<R.length:=fun k hk=>by have:=kidD_lt hk;rwa [List.length_map] at this
     have hk10:(kidD (R.map Nr.n) j).length≤10:=Nat.le_trans (kidD_len _ _) (by rw [List.length_map];exact hL);obtain ⟨X,X1,X2,X3,X4⟩:=HM.out.x
     obtain ⟨hp1,hp2⟩:=pick_pk (R:=R) (X:=X) (f:=szM (R.map Nr.n)) (ks:=kidD (R.map Nr.n) j) fun k hk=>by
      have hgt:=kid_gt hT hk;have hlt:=hkl k hk;have hy:X[k]?=some X[k]:=List.getElem?_eq_getElem (by omega);obtain ⟨r,hr,e1,e2,_⟩:=X4 k _ hy hgt;exact ⟨_,r,hy,hr,e1,e2⟩
     have hYl:(pickW X (kidD (R.map Nr.n) j)).length≤10:=by rw [pickW_len (fun k hk=>by have:=hkl k hk;omega)];exact hk10
     have hM1:=szM_eq hT HMG.out;rw [hq] at hM1
     have C0:=Lib.hid (show p.n.ki≠1→p.n.ki≠2→(∀ r∈(pickW X (kidD (R.map Nr.n) j)).map pkW,r.big)∧reqM ((pickW X (kidD (R.map Nr.n) j)).map pkW)=q from fun a1 a2=>by
      rw [hp1]
      exact ⟨pks_big hT _,(hM1.trans (askN_pk rfl hke hkd (by have:=(hT.sz j _ HMG.out).2.2;omega))).symm⟩)
     have C1:=Lib.hid (show p.n.ki=1→(linesB p.n.cs=true∧linesB p.n.rs=true)∧((∀ r∈(pickW X (kidD (R.map Nr.n) j)).map ceW,smW r)∧spansW p.n.cs.length (((pickW X (kidD (R.map Nr.n) j)).map ceW).map acM)∧spansW p.n.rs.length (((pickW X (kidD (R.map Nr.n) j)).map ceW).map dnM))∧gridM p.n.cs p.n.rs ((pickW X (kidD (R.map Nr.n) j)).map ceW)=q from fun a1=>by
      rw [hp2];obtain ⟨z1,z2,z3,_⟩:=ces_w hT HMG.out a1
      exact ⟨hT.li j _ HMG.out a1,⟨z1,z2,z3⟩,(hM1.trans (askN_gr rfl hke hkd a1)).symm⟩)
     have C2:=Lib.hid (show p.n.ki=2→(p.n.ww,p.n.hh)=q from fun a1=>(hM1.trans (askN_own (.inr (.inr a1)))).symm)
     have HAR:=Lib.hid (show ∀ W',Below W6.heap.size W6 W'→Calls Tryz.prog 99 #[.slice (some ⟨w.heap.size+1,0,none⟩) R.length R.length,.int .i64 (j:Int)] W' (fun e w'=>(∃ v,e=.returned v∧ArV w' v x (pickW X (kidD (R.map Nr.n) j)))∧Below W'.heap.size W' w') from fun W' hW'=>by
      have:=arranged_v (some ⟨w.heap.size+1,0,none⟩) R.length j X x (kidD (R.map Nr.n) j) W' (X2.v.keep hW') X3 (by omega) (fun k hk=>by have:=hkl k hk;omega) (by rw [HKS.out];exact HX6.out.nv.keep hW') (by rw [HX3.out,<- HKS.out,List.length_map]) (by rw [HX3.out,<- HKS.out,List.length_map];omega)
      rw [X1] at this
      exact this)
     have HRW:=Lib.hid (show W6.rangeAt (w.heap.size+1) (j*37+34) (valsWi (p.n.ww,p.n.hh)) from by
      obtain ⟨cs,hcs,hss,hcc⟩:=X2;have hi6:InS cs (j*37) (valsWd x):=hcc j (valsWd x) (by rw [List.length_map];omega) (by rw [List.getElem?_map,X3];rfl);unfold valsWd at hi6;rw [show ([.int .i64 x.sw,.int .i64 x.sh,.slice x.ka x.kn x.kc]:List Value)=valsWi (x.sw,x.sh) ++ [.slice x.ka x.kn x.kc] from rfl,InS_append,InS_append,HX2.out] at hi6
      exact fun m v hm=>(cellS hcs _).trans (hi6.2.1 m v hm))
     have HR1:=Lib.hid ((HRD.out.keep HM.out.l) p (List.mem_of_getElem? HG.out));have HQ:=Lib.hid hq;have HY:=Lib.hid hYl;have HWT:=Lib.hid (show W6.there (w.heap.size+1) (j*37) 37 from RpK.there X2 (by rw [List.length_map];omega));clear hq hkd hkl hk10 X1 X2 X3 X4 hp1 hp2 hYl hM1 hlp hl0 hl1 y3 x36 hke hnil ln;refine wpIn_region_liftAny (by kernel_rfl) (by kernel_rfl) ?_
     refine wpAny_rxp 16 1 #[true,true,true,true,true,true,true,true,true,true,true,true,true,true,true,true,false] (by kernel_rfl) (by kernel_rfl) (XV (.slice (some ⟨w.heap.size+1,0,none⟩) R.length R.length) :: XV (.int .i64 (j:Int)) :: XV (.slice (some ⟨w.heap.size+1,0,none⟩) R.length R.length) :: XV (.int .i64 (j:Int)) :: (fun v z=>ArV z v x (pickW X (kidD (R.map Nr.n) j))) :: XV (.slice (some ⟨w.heap.size+1,0,none⟩) R.length R.length) :: XV (.int .i64 (j:Int)) :: XV (.pointer (some ⟨w.heap.size+1,j*37,none⟩)) :: XV (.pointer (some ⟨w.heap.size+1,j*37+34,none⟩)) :: XV (.agg (valsWi (p.n.ww,p.n.hh)).toArray) :: (fun v z=>MfV z v x (pickW X (kidD (R.map Nr.n) j))) :: (fun v z=>MfV z v x (pickW X (kidD (R.map Nr.n) j))) :: (fun v z=>ArV z v x (pickW X (kidD (R.map Nr.n) j))) :: XV (.agg (valsWi q).toArray) :: XV (.pointer (some ⟨w.heap.size+1,j*37,none⟩)) :: XV (.pointer (some ⟨w.heap.size+1,j*37+34,none⟩)) :: []) (by kernel_rfl) (by kernel_rfl) ?hTs ?hops ?hfin
     case hTs =>
      intro T hT;simp only [List.mem_cons,List.not_mem_nil,or_false] at hT
      rcases hT with rfl | rfl | rfl | rfl | rfl | rfl | rfl | rfl | rfl | rfl | rfl | rfl | rfl | rfl | rfl | rfl <;> first | exact stay_V _ | exact stay_T | exact stay_of (fun v a b x g=>x.keep g) | exact stay_of (fun v a b x g=>x)
     case hops =>
      refine ⟨opOK_rx [(3,none)] (by kernel_rfl) rfl ?_,?_⟩
      ·intro act w' hw' h1;obtain ⟨hk,hf⟩:=evkf act;generalize act.eval=ρ at *;replace h1:ρ (.tmp 3)=.pointer (some ⟨w.heap.size+1+1,0,none⟩):=h1
       refine gxB hw' fun K hK hc hf'=>?_
       go_simp;exact hK _ _ ⟨rfl,Gr.refl _⟩
      refine ⟨opOK_rx [(4,none)] (by kernel_rfl) rfl ?_,?_⟩
      ·intro act w' hw' h1;obtain ⟨hk,hf⟩:=evkf act;generalize act.eval=ρ at *;replace h1:ρ (.tmp 4)=.int .i64 (j:Int):=h1
       refine gxB hw' fun K hK hc hf'=>?_
       go_simp;exact hK _ _ ⟨rfl,Gr.refl _⟩
      refine ⟨opOK_rx [(3,none)] (by kernel_rfl) rfl ?_,?_⟩
      ·intro act w' hw' h1;obtain ⟨hk,hf⟩:=evkf act;generalize act.eval=ρ at *;replace h1:ρ (.tmp 3)=.pointer (some ⟨w.heap.size+1+1,0,none⟩):=h1
       refine gxB hw' fun K hK hc hf'=>?_
       go_simp;exact hK _ _ ⟨rfl,Gr.refl _⟩
      refine ⟨opOK_rx [(4,none)] (by kernel_rfl) rfl ?_,?_⟩
      ·intro act w' hw' h1;obtain ⟨hk,hf⟩:=evkf act;generalize act.eval=ρ at *;replace h1:ρ (.tmp 4)=.int .i64 (j:Int):=h1
       refine gxB hw' fun K hK hc hf'=>?_
       go_simp;exact hK _ _ ⟨rfl,Gr.refl _⟩
      refine ⟨opOK_rx [(42,some 2),(43,some 3)] (by kernel_rfl) rfl ?_,?_⟩
      ·intro act w' hw' h1 h2;obtain ⟨hk,hf⟩:=evkf act;generalize act.eval=ρ at *;replace h1:ρ (.tmp 42)=.slice (some ⟨w.heap.size+1,0,none⟩) R.length R.length:=h1;replace h2:ρ (.tmp 43)=.int .i64 (j:Int):=h2
       refine gxB hw' fun K hK hc hf'=>?_
       go_simp
       (refine (HAR.out _ (bdrewn hw'.out)).mono ?_);rintro e w1 ⟨⟨v,rfl,hv⟩,hb1⟩;exact ⟨_,rfl,hK _ _ ⟨hv,hb1⟩⟩
      refine ⟨opOK_rx [(3,none)] (by kernel_rfl) rfl ?_,?_⟩
      ·intro act w' hw' h1;obtain ⟨hk,hf⟩:=evkf act;generalize act.eval=ρ at *;replace h1:ρ (.tmp 3)=.pointer (some ⟨w.heap.size+1+1,0,none⟩):=h1
       refine gxB hw' fun K hK hc hf'=>?_
       go_simp;exact hK _ _ ⟨rfl,Gr.refl _⟩
      refine ⟨opOK_rx [(4,none)] (by kernel_rfl) rfl ?_,?_⟩
      ·intro act w' hw' h1;obtain ⟨hk,hf⟩:=evkf act;generalize act.eval=ρ at *;replace h1:ρ (.tmp 4)=.int .i64 (j:Int):=h1
       refine gxB hw' fun K hK hc hf'=>?_
       go_simp;exact hK _ _ ⟨rfl,Gr.refl _⟩
      refine ⟨opOK_rx [(45,some 5),(46,some 6)] (by kernel_rfl) rfl ?_,?_⟩
      ·intro act w' hw' h1 h2;obtain ⟨hk,hf⟩:=evkf act;generalize act.eval=ρ at *;replace h1:ρ (.tmp 45)=.slice (some ⟨w.heap.size+1,0,none⟩) R.length R.length:=h1;replace h2:ρ (.tmp 46)=.int .i64 (j:Int):=h2
       refine gxB hw' fun K hK hc hf'=>?_
       go_simp;exact hK _ _ ⟨rfl,Gr.refl _⟩
      refine ⟨opOK_rx [(47,some 7)] (by kernel_rfl) rfl ?_,?_⟩
      ·intro act w' hw' h1;obtain ⟨hk,hf⟩:=evkf act;generalize act.eval=ρ at *;replace h1:ρ (.tmp 47)=.pointer (some ⟨w.heap.size+1,j*37,none⟩):=h1
       refine gxB hw' fun K hK hc hf'=>?_
       go_simp;exact hK _ _ ⟨rfl,Gr.refl _⟩
      refine ⟨opOK_rx [(48,some 8)] (by kernel_rfl) rfl ?_,?_⟩
      ·intro act w' hw' h1;obtain ⟨hk,hf⟩:=evkf act;generalize act.eval=ρ at *;replace h1:ρ (.tmp 48)=.pointer (some ⟨w.heap.size+1,j*37+34,none⟩):=h1;refine gx_gen (fun K hK=>?_)
       simp only [execOp,h1,Instr.loadAt,Instr.sureAddr,Sem.run_bind,Sem.run_pure,Result.andThen_ok,run_loadVar_mid w' (w.heap.size+1) (j*37+34) 82 (valsWi (p.n.ww,p.n.hh)) _ (rangeB HRW.out ((bdrewn hw'.out).block _ lw)) Tryz.underlying82 rfl (by kernel_rfl)];exact hK _ _ ⟨rfl,Gr.refl _⟩
      refine ⟨opOK_rx [(44,some 4)] (by kernel_rfl) rfl ?_,?_⟩
      ·intro act w' hw' h1;obtain ⟨hk,hf⟩:=evkf act;generalize act.eval=ρ at *;replace h1:(fun v z=>ArV z v x (pickW X (kidD (R.map Nr.n) j))) (ρ (.tmp 44)) w':=h1;refine gx_gen (fun K hK=>?_);rw [run_mf rfl];exact hK _ _ ⟨⟨_,rfl,h1⟩,Gr.refl _⟩
      refine ⟨opOK_rx [(50,some 10)] (by kernel_rfl) rfl ?_,?_⟩
      ·intro act w' hw' h1;obtain ⟨hk,hf⟩:=evkf act;generalize act.eval=ρ at *;replace h1:(fun v z=>MfV z v x (pickW X (kidD (R.map Nr.n) j))) (ρ (.tmp 50)) w':=h1;refine gx_gen (fun K hK=>?_)
       obtain ⟨u,e,hu⟩:=h1;obtain ⟨T,u2,F,rfl,hn,hc,hcall⟩:=arReq (ww:=p.n.ww) (hh:=p.n.hh) hu HX1.out (HR1.out.keep (bdrewn hw'.out)) HY.out C0.out C1.out C2.out;rw [run_nc rfl e hn];exact hK _ _ ⟨⟨_,e,hu⟩,Gr.refl _⟩
      refine ⟨opOK_rx [(44,some 4)] (by kernel_rfl) rfl ?_,?_⟩
      ·intro act w' hw' h1;obtain ⟨hk,hf⟩:=evkf act;generalize act.eval=ρ at *;replace h1:(fun v z=>ArV z v x (pickW X (kidD (R.map Nr.n) j))) (ρ (.tmp 44)) w':=h1
       refine gxB hw' fun K hK hc hf'=>?_
       go_simp;exact hK _ _ ⟨h1,Gr.refl _⟩
      refine ⟨opOK_rx [(52,some 12),(49,some 9)] (by kernel_rfl) rfl ?_,?_⟩
      ·intro act w' hw' h1 h2;obtain ⟨hk,hf⟩:=evkf act;generalize act.eval=ρ at *;replace h1:(fun v z=>ArV z v x (pickW X (kidD (R.map Nr.n) j))) (ρ (.tmp 52)) w':=h1;replace h2:ρ (.tmp 49)=.agg (valsWi (p.n.ww,p.n.hh)).toArray:=h2;refine gx_gen (fun K hK=>?_)
       obtain ⟨T,u,F,e,hn,hc,hcall⟩:=arReq (ww:=p.n.ww) (hh:=p.n.hh) h1 HX1.out (HR1.out.keep (bdrewn hw'.out)) HY.out C0.out C1.out C2.out;rw [run_inv rfl e h2 (hc _ _)];refine hcall.mono ?_;rintro e' w1 ⟨rfl,hb1⟩;exact ⟨_,rfl,hK _ _ ⟨rfl,hb1⟩⟩
      refine ⟨opOK_rx [(40,some 0),(41,some 1)] (by kernel_rfl) rfl ?_,?_⟩
      ·intro act w' hw' h1 h2;obtain ⟨hk,hf⟩:=evkf act;generalize act.eval=ρ at *;replace h1:ρ (.tmp 40)=.slice (some ⟨w.heap.size+1,0,none⟩) R.length R.length:=h1;replace h2:ρ (.tmp 41)=.int .i64 (j:Int):=h2
       refine gxB hw' fun K hK hc hf'=>?_
       go_simp;exact hK _ _ ⟨rfl,Gr.refl _⟩
      refine ⟨opOK_rx [(54,some 14)] (by kernel_rfl) rfl ?_,?_⟩
      ·intro act w' hw' h1;obtain ⟨hk,hf⟩:=evkf act;generalize act.eval=ρ at *;replace h1:ρ (.tmp 54)=.pointer (some ⟨w.heap.size+1,j*37,none⟩):=h1
       refine gxB hw' fun K hK hc hf'=>?_
       go_simp;exact hK _ _ ⟨rfl,Gr.refl _⟩
      exact trivial
     case hfin =>
      intro w7 hg7;intro v40 t40;replace t40:v40=.slice (some ⟨w.heap.size+1,0,none⟩) R.length R.length:=t40;subst t40;intro v41 t41;replace t41:v41=.int .i64 (j:Int):=t41;subst t41;intro v42 t42;replace t42:v42=.slice (some ⟨w.heap.size+1,0,none⟩) R.length R.length:=t42;subst t42;intro v43 t43;replace t43:v43=.int .i64 (j:Int):=t43;subst t43;intro v44 t44
      replace t44:(fun v z=>ArV z v x (pickW X (kidD (R.map Nr.n) j))) v44 w7:=t44;intro v45 t45;replace t45:v45=.slice (some ⟨w.heap.size+1,0,none⟩) R.length R.length:=t45;subst t45;intro v46 t46;replace t46:v46=.int .i64 (j:Int):=t46;subst t46;intro v47 t47;replace t47:v47=.pointer (some ⟨w.heap.size+1,j*37,none⟩):=t47;subst t47;intro v48 t48
      replace t48:v48=.pointer (some ⟨w.heap.size+1,j*37+34,none⟩):=t48;subst t48;intro v49 t49;replace t49:v49=.agg (valsWi (p.n.ww,p.n.hh)).toArray:=t49;subst t49;intro v50 t50;replace t50:(fun v z=>MfV z v x (pickW X (kidD (R.map Nr.n) j))) v50 w7:=t50;intro v51 t51;replace t51:(fun v z=>MfV z v x (pickW X (kidD (R.map Nr.n) j))) v51 w7:=t51;intro v52 t52
      replace t52:(fun v z=>ArV z v x (pickW X (kidD (R.map Nr.n) j))) v52 w7:=t52;intro v53 t53;replace t53:v53=.agg (valsWi q).toArray:=t53;subst t53;intro v54 t54;replace t54:v54=.pointer (some ⟨w.heap.size+1,j*37,none⟩):=t54;subst t54;intro v55 t55;replace t55:v55=.pointer (some ⟨w.heap.size+1,j*37+34,none⟩):=t55;subst t55;have hb7:=bdrewn hg7.out;clear hg7
      simp only [finP,List.take_succ_cons,List.take_zero,Act.put,List.setIfInBounds_toArray,List.set_cons_succ,List.set_cons_zero]
      have hth:w7.there (w.heap.size+1) (j*37+34) (valsWi q).length:=by
       obtain ⟨X',Y1,Y2,Y3,Y4⟩:=(HM.out.keep hb7).x;obtain ⟨cs,hcs,hss,_⟩:=Y2;exact thereB hcs (by rw [hss,List.length_map,Y1];show j*37+34+2≤_;omega)
      refine wpAny_store 16 82 (.tmp 55) (.tmp 53) (w.heap.size+1) (j*37+34) (valsWi q) (by kernel_rfl) (by kernel_rfl) (by kernel_rfl) rfl rfl hth (by kernel_rfl) (valsWi_one _) ?_;simp only [Exit.then,Exit.inBlock]
      refine ⟨by first | rfl | trivial,HK.out.trans ((keepsFrom_below hb7).trans (keepsFrom_setCells _ _ _)),StM.done ((HM.out.keep hb7).wish q.1 q.2) ⟨p,HG.out,HX1.out,?_,by rw [HKS.out];exact HX3.out,by rw [HKS.out];exact (HX6.out.keep hb7).sets (by omega) _⟩ HJK.out⟩;rw [HQ.out]
   ·rw [hke] at y3;go_wp2;refine wpIn_cond_false rfl ?_;refine wpIn_skip ?_;simp only [Exit.inBlock];refine ⟨by first | rfl | trivial,HK.out,HM.out.done ⟨p,HG.out,HX1.out,?_,by rw [HKS.out];exact HX3.out,by rw [HKS.out];exact HX6.out⟩ HJK.out⟩;rw [HX2.out,szM_eq hT HMG.out];exact (askN_own (.inl hke)).symm
 case done =>
  rintro D W hD hI hK;have xs:=cellS hI.s 0
  gi_wp2
  have hkc:KeepsC W0.heap.size W (W.putObj D (.deferred none)):=keepsC_put hD hK rfl rfl;refine ⟨by simp,.inl ⟨_,_,rfl,run_takeDeferred hK,?_⟩⟩
  have hf:=StW.same hI (hkc.1.mono (by omega)) fun g cs T hg=>hkc.block hg
  refine ⟨_,results_tmp rfl _ _ _,⟨_,rfl,?_⟩,hf.l⟩;exact hf.all
end
end Go.Proofs.YtfnpdlnepjhljaaGreat
