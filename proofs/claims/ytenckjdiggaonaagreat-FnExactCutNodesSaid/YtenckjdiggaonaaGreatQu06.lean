import Derived.Test.YtenckjdiggaonaaGreatQu05
set_option linter.unusedVariables false
set_option linter.unusedSimpArgs false
set_option maxRecDepth 100000
set_option maxHeartbeats 16000000
namespace Go.Proofs.YtenckjdiggaonaaGreat
open Go.RowKit
attribute [local go_sem] growUpon_value growUpon_skip growUpon_enter
section
structure Wd where
 p:Nr
 sw:Int
 sh:Int
 ka:Option Addr
 kn:Nat
 kc:Nat
def valsWd (x:Wd):List Value:=valsNr x.p ++ [.int .i64 x.sw,.int .i64 x.sh,.slice x.ka x.kn x.kc]
theorem valsWd_len (x:Wd):(valsWd x).length=37:=rfl
theorem valsWd_one (x:Wd):one (valsWd x):=by
 intro v hv
 rcases List.mem_append.1 hv with h | h
 ·exact valsNr_one _ v h
 ·simp only [List.mem_cons,List.not_mem_nil,or_false] at h
  rcases h with rfl | rfl | rfl <;> rfl
def ceW (x:Wd):Ce:={ x.p.n.ce with cw:=x.sw,ch:=x.sh }
def pkW (x:Wd):Pk:={ x.p.n.pk with w:=x.sw,h:=x.sh }
def valsPk (p:Pk):List Value:=[.int .i64 p.w,.int .i64 p.h,.int .i64 p.s,.bool p.fx,.bool p.fy,.bool p.ex,.int .i64 p.an,.int .i64 p.px,.int .i64 p.py]
def valsPl (p:Plc):List Value:=[.int .i64 p.x,.int .i64 p.y,.int .i64 p.rx,.int .i64 p.ry,.int .i64 p.ww,.int .i64 p.hh,.int .i64 p.qw,.int .i64 p.qh,.int .i64 p.an]
def valsWi (q:Int × Int):List Value:=[.int .i64 q.1,.int .i64 q.2]
def gd (vs:List Value) (i:Nat):Value:=vs.getD i undef
def uCe (vs:List Value):List Value:=[gd vs 16,gd vs 17,gd vs 18,gd vs 19,gd vs 34,gd vs 35,gd vs 22,gd vs 23,gd vs 24]
def uPk (vs:List Value):List Value:=[gd vs 34,gd vs 35,gd vs 9,gd vs 10,gd vs 11,gd vs 12,gd vs 13,gd vs 14,gd vs 15]
def uPl (vs:List Value):List Value:=[gd vs 25,gd vs 26,gd vs 27,gd vs 28,gd vs 29,gd vs 30,gd vs 31,gd vs 32,gd vs 33]
def uWi (vs:List Value):List Value:=[gd vs 34,gd vs 35]
theorem uCe_eq (x:Wd):uCe (valsWd x)=valsCe (ceW x):=rfl
theorem uPk_eq (x:Wd):uPk (valsWd x)=valsPk (pkW x):=rfl
theorem uPl_eq (x:Wd):uPl (valsWd x)=valsPl x.p.n.pl:=rfl
theorem uWi_eq (x:Wd):uWi (valsWd x)=valsWi (x.sw,x.sh):=rfl
theorem valsCe_one (p:Ce):one (valsCe p):=by
 intro v hv;simp only [valsCe,List.mem_cons,List.not_mem_nil,or_false] at hv
 rcases hv with rfl | rfl | rfl | rfl | rfl | rfl | rfl | rfl | rfl <;> rfl
theorem valsPk_one (p:Pk):one (valsPk p):=by
 intro v hv;simp only [valsPk,List.mem_cons,List.not_mem_nil,or_false] at hv
 rcases hv with rfl | rfl | rfl | rfl | rfl | rfl | rfl | rfl | rfl <;> rfl
theorem valsPl_one (p:Plc):one (valsPl p):=by
 intro v hv;simp only [valsPl,List.mem_cons,List.not_mem_nil,or_false] at hv
 rcases hv with rfl | rfl | rfl | rfl | rfl | rfl | rfl | rfl | rfl <;> rfl
theorem valsWi_one (p:Int × Int):one (valsWi p):=by
 intro v hv;simp only [valsWi,List.mem_cons,List.not_mem_nil,or_false] at hv
 rcases hv with rfl | rfl <;> rfl
theorem bp_retcell {P:Program} {fn:Func} {R:Ending→World→Prop} {a:Act} {w:World} (t:Nat) (T:TypeId) (g:Nat) (vs:List Value) {d:TypeDesc} (hr:fn.results=#[.cell t T]) (ht:a.tmps.getD t undef=.pointer (some ⟨g,0,none⟩)) (hc:w.rangeAt g 0 vs) (hu:P.underlying T=some d) (hd:d.isRow=true) (hi:(P.info? T).map (·.size)=some vs.length) (h0:a.defers=[]) (hR:R (.returned (.agg vs.toArray)) w):bodyPost P fn R .ret a w:=by
 refine bodyPost_ret (v:=.agg vs.toArray) ?_ h0 hR
 have ht':a.tmps[t]?.getD undef=.pointer (some ⟨g,0,none⟩):=by rw [<- Array.getD_eq_getD_getElem?];exact ht
 simp [results,hr,ht',asAddr,run_loadVar_mid w g 0 T vs d hc hu hd hi]
theorem asCell_v (x:Wd) (w:World):Calls Tryz.prog 129 #[.agg (valsWd x).toArray] w fun e w'=>e=.returned (.agg (valsCe (ceW x)).toArray)∧Below w.heap.size w w':=by
 refine calls_abs Tryz.func129 rfl 18 (by simp only [Tryz.ntmps129]) (by simp) (fun t hsz hargs=>?_);have q0:t[0]?=some (.agg (valsWd x).toArray):=get_of (by omega) (hargs 0 _ rfl);clear hargs;obtain ⟨l0,e0⟩:=gE q0
 refine wp_seq_h fun K hK=>?_
 apply wp_region_lit
 repeat (first | ((with_reducible show wpList _ _ _ _ _ _);refine allocK 80 9 rfl rfl infz_Cell (fun z hz=>?_)) | go_step)
 refine hK.out _ _ ?_;clear hK K
 refine wp_abw (fun t' W'=>t'.size=18∧t'[1]?=some (.pointer (some ⟨w.heap.size,0,none⟩))∧t'[2]?=some (.pointer (some ⟨w.heap.size+1,0,none⟩))∧W'.heap[w.heap.size]?=some (.cells (valsWd x).toArray 108 (0,0))∧(∃ z:Array Value,W'.heap[w.heap.size+1]?=some (.cells z 80 (0,0))∧z.size=9)∧Below w.heap.size w W') ⟨by simp [hsz],by simp [hsz],by simp [hsz],⟨(Below.heap_alloc _ _ _ (by simp)).trans (newS _ _),⟨z,by have:=newS (w.alloc (.cells (valsWd x).toArray 108)) (.cells z 80);simpa using this,hz⟩,(balloc (Below.refl _ _)).trans ((balloc (Below.refl _ _)).mono (by simp))⟩⟩ ?_
 clear hsz q0 l0 e0 t z hz;rintro t W1 ⟨hsz,q1,q2,H1,⟨z,H2,hz⟩,hB⟩;have x34:=cellS H1 34;have x35:=cellS H1 35;have f1:=frozenS H1 20;have f2:=frozenS H1 21;obtain ⟨y1,z1⟩:=thereS H1 (i:=20) (by show 20<37;omega);obtain ⟨y2,z2⟩:=thereS H1 (i:=21) (by show 21<37;omega);have hlx:=ltS H1;rw [show (valsWd x).toArray[34]?=some (.int .i64 x.sw) from rfl] at x34
 rw [show (valsWd x).toArray[35]?=some (.int .i64 x.sh) from rfl] at x35;obtain ⟨l1,e1⟩:=gE q1;obtain ⟨l2,e2⟩:=gE q2
 refine wp_seq_h fun K hK=>?_
 apply wp_region_lit
 repeat (first | go_step)
 refine hK.out _ _ ?_;clear hK K
 refine wp_abw (fun t' W'=>t'.size=18∧t'[1]?=some (.pointer (some ⟨w.heap.size,0,none⟩))∧t'[2]?=some (.pointer (some ⟨w.heap.size+1,0,none⟩))∧W'.rangeAt w.heap.size 16 (valsCe (ceW x))∧(∃ z:Array Value,W'.heap[w.heap.size+1]?=some (.cells z 80 (0,0))∧z.size=9)∧Below w.heap.size w W') ⟨by simp [hsz],by simp [q1],by simp [q2],⟨fun j v hj=>(cellS (putS (putS H1 _) _) _).trans (by (iterate 9 (rcases j with _ | j;first | exact hj | skip));simp [valsCe] at hj),⟨z,(Below.heap_setCell _ ⟨w.heap.size,_,none⟩ _ _ (by simp)).trans ((Below.heap_setCell _ ⟨w.heap.size,_,none⟩ _ _ (by simp)).trans H2),hz⟩,(hB.setCell (p:=⟨w.heap.size,_,none⟩) (by simp) _).setCell (p:=⟨w.heap.size,_,none⟩) (by simp) _⟩⟩ ?_
 clear hsz q1 l1 e1 q2 l2 e2 t x34 x35 f1 f2 z1 z2 y1 y2 H1 H2 hB hlx W1 z hz;rintro t W2 ⟨hsz,q1,q2,hr,⟨z,H2,hz⟩,hB⟩;have HR:=hD hr;have hth:W2.there (w.heap.size+1) 0 (valsCe (ceW x)).length:=thereB H2 (by rw [hz];show 0+9≤9;omega);have HTH:=hD hth;clear hr hth;obtain ⟨l1,e1⟩:=gE q1;obtain ⟨l2,e2⟩:=gE q2
 refine wp_seq_h fun K hK=>?_
 apply wp_region_lit
 repeat (first | ((with_reducible show wpList _ _ _ _ _ _);refine ldK 80 _ (valsCe (ceW x)) w.heap.size 16 rfl rfl HR.out Tryz.underlying80 rfl inf_Cell (by simp [Act.eval,Act.put,hsz]) ?_) | ((with_reducible show wpList _ _ _ _ _ _);refine stK 80 _ _ (valsCe (ceW x)) (w.heap.size+1) 0 rfl rfl HTH.out inf_Cell (valsCe_one _) (by simp [Act.eval,Act.put,hsz,e2]) (by simp [Act.eval,Act.put,hsz]) ?_) | go_step)
 refine hK.out _ _ ?_;clear hK K;apply wp_ret;refine bp_retcell 2 80 (w.heap.size+1) (valsCe (ceW x)) Tryz.results129 ?_ (World.rangeAt_setCells_same _ _ _ _ HTH.out) Tryz.underlying80 rfl inf_Cell rfl ⟨rfl,below_setCells (by omega) _ _ _ hB⟩
 simp [Act.put,hsz,e2]
theorem asPack_v (x:Wd) (w:World):Calls Tryz.prog 133 #[.agg (valsWd x).toArray] w fun e w'=>e=.returned (.agg (valsPk (pkW x)).toArray)∧Below w.heap.size w w':=by
 refine calls_abs Tryz.func133 rfl 18 (by simp only [Tryz.ntmps133]) (by simp) (fun t hsz hargs=>?_);have q0:t[0]?=some (.agg (valsWd x).toArray):=get_of (by omega) (hargs 0 _ rfl);clear hargs;obtain ⟨l0,e0⟩:=gE q0
 refine wp_seq_h fun K hK=>?_
 apply wp_region_lit
 repeat (first | ((with_reducible show wpList _ _ _ _ _ _);refine allocK 78 9 rfl rfl infz_Pack (fun z hz=>?_)) | go_step)
 refine hK.out _ _ ?_;clear hK K
 refine wp_abw (fun t' W'=>t'.size=18∧t'[1]?=some (.pointer (some ⟨w.heap.size,0,none⟩))∧t'[2]?=some (.pointer (some ⟨w.heap.size+1,0,none⟩))∧W'.heap[w.heap.size]?=some (.cells (valsWd x).toArray 108 (0,0))∧(∃ z:Array Value,W'.heap[w.heap.size+1]?=some (.cells z 78 (0,0))∧z.size=9)∧Below w.heap.size w W') ⟨by simp [hsz],by simp [hsz],by simp [hsz],⟨(Below.heap_alloc _ _ _ (by simp)).trans (newS _ _),⟨z,by have:=newS (w.alloc (.cells (valsWd x).toArray 108)) (.cells z 78);simpa using this,hz⟩,(balloc (Below.refl _ _)).trans ((balloc (Below.refl _ _)).mono (by simp))⟩⟩ ?_
 clear hsz q0 l0 e0 t z hz;rintro t W1 ⟨hsz,q1,q2,H1,⟨z,H2,hz⟩,hB⟩;have x34:=cellS H1 34;have x35:=cellS H1 35;have f1:=frozenS H1 7;have f2:=frozenS H1 8;obtain ⟨y1,z1⟩:=thereS H1 (i:=7) (by show 7<37;omega);obtain ⟨y2,z2⟩:=thereS H1 (i:=8) (by show 8<37;omega);have hlx:=ltS H1;rw [show (valsWd x).toArray[34]?=some (.int .i64 x.sw) from rfl] at x34
 rw [show (valsWd x).toArray[35]?=some (.int .i64 x.sh) from rfl] at x35;obtain ⟨l1,e1⟩:=gE q1;obtain ⟨l2,e2⟩:=gE q2
 refine wp_seq_h fun K hK=>?_
 apply wp_region_lit
 repeat (first | go_step)
 refine hK.out _ _ ?_;clear hK K
 refine wp_abw (fun t' W'=>t'.size=18∧t'[1]?=some (.pointer (some ⟨w.heap.size,0,none⟩))∧t'[2]?=some (.pointer (some ⟨w.heap.size+1,0,none⟩))∧W'.rangeAt w.heap.size 7 (valsPk (pkW x))∧(∃ z:Array Value,W'.heap[w.heap.size+1]?=some (.cells z 78 (0,0))∧z.size=9)∧Below w.heap.size w W') ⟨by simp [hsz],by simp [q1],by simp [q2],⟨fun j v hj=>(cellS (putS (putS H1 _) _) _).trans (by (iterate 9 (rcases j with _ | j;first | exact hj | skip));simp [valsPk] at hj),⟨z,(Below.heap_setCell _ ⟨w.heap.size,_,none⟩ _ _ (by simp)).trans ((Below.heap_setCell _ ⟨w.heap.size,_,none⟩ _ _ (by simp)).trans H2),hz⟩,(hB.setCell (p:=⟨w.heap.size,_,none⟩) (by simp) _).setCell (p:=⟨w.heap.size,_,none⟩) (by simp) _⟩⟩ ?_
 clear hsz q1 l1 e1 q2 l2 e2 t x34 x35 f1 f2 z1 z2 y1 y2 H1 H2 hB hlx W1 z hz;rintro t W2 ⟨hsz,q1,q2,hr,⟨z,H2,hz⟩,hB⟩;have HR:=hD hr;have hth:W2.there (w.heap.size+1) 0 (valsPk (pkW x)).length:=thereB H2 (by rw [hz];show 0+9≤9;omega);have HTH:=hD hth;clear hr hth;obtain ⟨l1,e1⟩:=gE q1;obtain ⟨l2,e2⟩:=gE q2
 refine wp_seq_h fun K hK=>?_
 apply wp_region_lit
 repeat (first | ((with_reducible show wpList _ _ _ _ _ _);refine ldK 78 _ (valsPk (pkW x)) w.heap.size 7 rfl rfl HR.out Tryz.underlying78 rfl inf_Pack (by simp [Act.eval,Act.put,hsz]) ?_) | ((with_reducible show wpList _ _ _ _ _ _);refine stK 78 _ _ (valsPk (pkW x)) (w.heap.size+1) 0 rfl rfl HTH.out inf_Pack (valsPk_one _) (by simp [Act.eval,Act.put,hsz,e2]) (by simp [Act.eval,Act.put,hsz]) ?_) | go_step)
 refine hK.out _ _ ?_;clear hK K;apply wp_ret;refine bp_retcell 2 78 (w.heap.size+1) (valsPk (pkW x)) Tryz.results133 ?_ (World.rangeAt_setCells_same _ _ _ _ HTH.out) Tryz.underlying78 rfl inf_Pack rfl ⟨rfl,below_setCells (by omega) _ _ _ hB⟩
 simp [Act.put,hsz,e2]
theorem asPlace_v (x:Wd) (w:World):Calls Tryz.prog 131 #[.agg (valsWd x).toArray] w fun e w'=>e=.returned (.agg (valsPl x.p.n.pl).toArray)∧Below w.heap.size w w':=by
 refine calls_abs Tryz.func131 rfl 6 (by simp only [Tryz.ntmps131]) (by simp) (fun t hsz hargs=>?_);have q0:t[0]?=some (.agg (valsWd x).toArray):=get_of (by omega) (hargs 0 _ rfl);clear hargs;obtain ⟨l0,e0⟩:=gE q0
 refine wp_seq_h fun K hK=>?_
 apply wp_region_lit
 repeat (first | ((with_reducible show wpList _ _ _ _ _ _);refine allocK 82 9 rfl rfl infz_Place (fun z hz=>?_)) | go_step)
 refine hK.out _ _ ?_;clear hK K
 refine wp_abw (fun t' W'=>t'.size=6∧t'[1]?=some (.pointer (some ⟨w.heap.size,0,none⟩))∧t'[2]?=some (.pointer (some ⟨w.heap.size+1,0,none⟩))∧W'.heap[w.heap.size]?=some (.cells (valsWd x).toArray 108 (0,0))∧(∃ z:Array Value,W'.heap[w.heap.size+1]?=some (.cells z 82 (0,0))∧z.size=9)∧Below w.heap.size w W') ⟨by simp [hsz],by simp [hsz],by simp [hsz],⟨(Below.heap_alloc _ _ _ (by simp)).trans (newS _ _),⟨z,by have:=newS (w.alloc (.cells (valsWd x).toArray 108)) (.cells z 82);simpa using this,hz⟩,(balloc (Below.refl _ _)).trans ((balloc (Below.refl _ _)).mono (by simp))⟩⟩ ?_
 clear hsz q0 l0 e0 t z hz;rintro t W1 ⟨hsz,q1,q2,H1,⟨z,H2,hz⟩,hB⟩
 have hr:W1.rangeAt w.heap.size 25 (valsPl x.p.n.pl):=fun j v hj=>(cellS H1 _).trans (by (iterate 9 (rcases j with _ | j;first | exact hj | skip));simp [valsPl] at hj)
 clear H1;have HR:=hD hr;have hth:W1.there (w.heap.size+1) 0 (valsPl x.p.n.pl).length:=thereB H2 (by rw [hz];show 0+9≤9;omega);have HTH:=hD hth;clear hr hth;obtain ⟨l1,e1⟩:=gE q1;obtain ⟨l2,e2⟩:=gE q2
 refine wp_seq_h fun K hK=>?_
 apply wp_region_lit
 repeat (first | ((with_reducible show wpList _ _ _ _ _ _);refine ldK 82 _ (valsPl x.p.n.pl) w.heap.size 25 rfl rfl HR.out Tryz.underlying82 rfl inf_Place (by simp [Act.eval,Act.put,hsz]) ?_) | ((with_reducible show wpList _ _ _ _ _ _);refine stK 82 _ _ (valsPl x.p.n.pl) (w.heap.size+1) 0 rfl rfl HTH.out inf_Place (valsPl_one _) (by simp [Act.eval,Act.put,hsz,e2]) (by simp [Act.eval,Act.put,hsz]) ?_) | go_step)
 refine hK.out _ _ ?_;clear hK K;apply wp_ret;refine bp_retcell 2 82 (w.heap.size+1) (valsPl x.p.n.pl) Tryz.results131 ?_ (World.rangeAt_setCells_same _ _ _ _ HTH.out) Tryz.underlying82 rfl inf_Place rfl ⟨rfl,below_setCells (by omega) _ _ _ hB⟩
 simp [Act.put,hsz,e2]
theorem asked_v (x:Wd) (w:World):Calls Tryz.prog 108 #[.agg (valsWd x).toArray] w fun e w'=>e=.returned (.agg (valsWi (x.sw,x.sh)).toArray)∧Below w.heap.size w w':=by
 refine calls_abs Tryz.func108 rfl 5 (by simp only [Tryz.ntmps108]) (by simp) (fun t hsz hargs=>?_);have q0:t[0]?=some (.agg (valsWd x).toArray):=get_of (by omega) (hargs 0 _ rfl);clear hargs;obtain ⟨l0,e0⟩:=gE q0
 refine wp_seq_h fun K hK=>?_
 apply wp_region_lit
 repeat (first | ((with_reducible show wpList _ _ _ _ _ _);refine allocK 93 2 rfl rfl infz_wish (fun z hz=>?_)) | go_step)
 refine hK.out _ _ ?_;clear hK K
 refine wp_abw (fun t' W'=>t'.size=5∧t'[1]?=some (.pointer (some ⟨w.heap.size,0,none⟩))∧t'[2]?=some (.pointer (some ⟨w.heap.size+1,0,none⟩))∧W'.heap[w.heap.size]?=some (.cells (valsWd x).toArray 108 (0,0))∧(∃ z:Array Value,W'.heap[w.heap.size+1]?=some (.cells z 93 (0,0))∧z.size=2)∧Below w.heap.size w W') ⟨by simp [hsz],by simp [hsz],by simp [hsz],⟨(Below.heap_alloc _ _ _ (by simp)).trans (newS _ _),⟨z,by have:=newS (w.alloc (.cells (valsWd x).toArray 108)) (.cells z 93);simpa using this,hz⟩,(balloc (Below.refl _ _)).trans ((balloc (Below.refl _ _)).mono (by simp))⟩⟩ ?_
 clear hsz q0 l0 e0 t z hz;rintro t W1 ⟨hsz,q1,q2,H1,⟨z,H2,hz⟩,hB⟩
 have hr:W1.rangeAt w.heap.size 34 (valsWi (x.sw,x.sh)):=fun j v hj=>(cellS H1 _).trans (by (iterate 2 (rcases j with _ | j;first | exact hj | skip));simp [valsWi] at hj)
 clear H1;have HR:=hD hr;have hth:W1.there (w.heap.size+1) 0 (valsWi (x.sw,x.sh)).length:=thereB H2 (by rw [hz];show 0+2≤2;omega);have HTH:=hD hth;clear hr hth;obtain ⟨l1,e1⟩:=gE q1;obtain ⟨l2,e2⟩:=gE q2
 refine wp_seq_h fun K hK=>?_
 apply wp_region_lit
 repeat (first | ((with_reducible show wpList _ _ _ _ _ _);refine ldK 93 _ (valsWi (x.sw,x.sh)) w.heap.size 34 rfl rfl HR.out Tryz.underlying93 rfl inf_wish (by simp [Act.eval,Act.put,hsz]) ?_) | ((with_reducible show wpList _ _ _ _ _ _);refine stK 93 _ _ (valsWi (x.sw,x.sh)) (w.heap.size+1) 0 rfl rfl HTH.out inf_wish (valsWi_one _) (by simp [Act.eval,Act.put,hsz,e2]) (by simp [Act.eval,Act.put,hsz]) ?_) | go_step)
 refine hK.out _ _ ?_;clear hK K;apply wp_ret;refine bp_retcell 2 93 (w.heap.size+1) (valsWi (x.sw,x.sh)) Tryz.results108 ?_ (World.rangeAt_setCells_same _ _ _ _ HTH.out) Tryz.underlying93 rfl inf_wish rfl ⟨rfl,below_setCells (by omega) _ _ _ hB⟩
 simp [Act.put,hsz,e2]
end
section
structure Sp where
 sa:Int
 many:Int
 need:Int
def valsSp (p:Sp):List Value:=[.int .i64 p.sa,.int .i64 p.many,.int .i64 p.need]
structure SpV (w:World) (A:Option Addr) (L:List Sp):Prop where
 cells:0<L.length→∃ b off,A=some ⟨b,off,none⟩∧b<w.heap.size∧∀ i p,L[i]?=some p→w.cell? ⟨b,off+i*3,none⟩=some (.int .i64 p.sa)∧w.cell? ⟨b,off+i*3+1,none⟩=some (.int .i64 p.many)∧w.cell? ⟨b,off+i*3+2,none⟩=some (.int .i64 p.need)
theorem SpV.keep {w w':World} {A:Option Addr} {L:List Sp} (h:SpV w A L) (hb:Below w.heap.size w w'):SpV w' A L :=
 ⟨fun h0=>let ⟨b,off,e,hl,hp⟩:=h.cells h0;⟨b,off,e,Nat.lt_of_lt_of_le hl hb.size,fun i p hi=>by
  obtain ⟨c0,c1,c2⟩:=hp i p hi
  exact ⟨(hb.cell (p:=⟨b,off+i*3,none⟩) hl).trans c0,(hb.cell (p:=⟨b,off+i*3+1,none⟩) hl).trans c1,(hb.cell (p:=⟨b,off+i*3+2,none⟩) hl).trans c2⟩⟩⟩
theorem SpV.nil (w:World) (A:Option Addr):SpV w A []:=⟨fun h=>absurd h (by simp)⟩
def SpB (w:World) (g:Nat) (L:List Sp):Prop:=∃ cs:Array Value,w.heap[g]?=some (.cells cs 200 (0,0))∧cs.size=L.length*3∧∀ i p,L[i]?=some p→InS cs (i*3) (valsSp p)
theorem SpB.v {w:World} {g:Nat} {L:List Sp} (h:SpB w g L):SpV w (some ⟨g,0,none⟩) L:=by
 obtain ⟨cs,hh,hs,hc⟩:=h;refine ⟨fun _=>⟨g,0,rfl,ltS hh,fun i p hp=>?_⟩⟩;have hi:=hc i p hp;simp only [Nat.zero_add];exact ⟨(cellS hh _).trans (hi 0 _ rfl),(cellS hh _).trans (hi 1 _ rfl),(cellS hh _).trans (hi 2 _ rfl)⟩
theorem SpB.lt {w:World} {g:Nat} {L:List Sp} (h:SpB w g L):g<w.heap.size:=by obtain ⟨cs,hh,_⟩:=h;exact ltS hh
theorem SpB.keep {w w':World} {g:Nat} {L:List Sp} (h:SpB w g L) (hb:Below w.heap.size w w'):SpB w' g L:=by
 obtain ⟨cs,hh,hs,hc⟩:=h;exact ⟨cs,(hb.block g (ltS hh)).trans hh,hs,hc⟩
theorem SpB.but {w w':World} {g h:Nat} {L:List Sp} (hi:SpB w h L) (hg:w.grownBy w' (some g)) (hne:h ≠ g):SpB w' h L:=by
 obtain ⟨cs,hh,hs,hc⟩:=hi;exact ⟨cs,(hg.block h (ltS hh) (fun e=>hne (Option.some.inj e))).trans hh,hs,hc⟩
theorem madeSp:∃ f:Nat→Array Value,(∀ n,(f n).size=n*3)∧∀ (n:Nat) (w:World),n≤1048576→(Instr.makeSlice 181 (.int .i64 (n:Int)) (.int .i64 (n:Int))).run Tryz.prog w=.ok (.slice (some ⟨w.heap.size,0,none⟩) n n) (w.alloc (.cells (f n) 200)):=by
 have hinfo:(Tryz.prog.info? 200).map (fun i=>(i.zero,i.size,i.bytes))=some (some (.agg #[.int .i64 0,.int .i64 0,.int .i64 0]),3,24):=by kernel_rfl
 obtain ⟨i,hi,h1,h2,h3⟩:=info_parts hinfo;refine ⟨fun n=>madeCells (Value.agg #[.int .i64 0,.int .i64 0,.int .i64 0]).cells (n*3),fun n=>size_madeCells _ _,fun n w hn=>?_⟩;have hr:=run_make (P:=Tryz.prog) w 181 200 i _ Tryz.underlying181 hi h1 .i64 .i64 n n (by omega) (Int.le_refl _) (by rw [h3];omega) (by omega);rw [h2] at hr
 simpa using hr
theorem putSp {w:World} {b:Nat} {cs:Array Value} {T:TypeId} {fz:Nat × Nat} (h:w.heap[b]?=some (.cells cs T fz)) (o:Nat) (p:Sp) :
  ((((w.setCell ⟨b,o,none⟩ (.int .i64 p.sa)).setCell ⟨b,o+1,none⟩ (.int .i64 p.many)).setCell ⟨b,o+2,none⟩ (.int .i64 p.need))).heap[b]?=some (.cells (wrAt cs o (valsSp p)) T fz) :=
 putS (putS (putS h _) _) _
theorem putSpb {B b:Nat} {a w:World} (h:Below B a w) (hb:B≤b) (o:Nat) (p:Sp):Below B a ((((w.setCell ⟨b,o,none⟩ (.int .i64 p.sa)).setCell ⟨b,o+1,none⟩ (.int .i64 p.many)).setCell ⟨b,o+2,none⟩ (.int .i64 p.need))) :=
 (((h).setCell hb _).setCell hb _).setCell hb _
end
section
def baseM (n S:Int) (ws:List Int):List Int:=ws.map (fun x=>n*x / S)
def onesM:Int→List Int→List Int→List Int
 | m,x :: ws,b :: bs=>if 0<x∧0<m then (b+1) :: onesM (m - 1) ws bs else b :: onesM m ws bs
 | _,_,bs=>bs
def spreadM (n:Int) (ws:List Int):List Int :=
 if sumI ws=0 then (List.replicate ws.length 0).set (ws.length - 1) n
 else onesM (n - sumI (baseM n (sumI ws) ws)) ws (baseM n (sumI ws) ws)
theorem baseM_len (n S:Int) (ws:List Int):(baseM n S ws).length=ws.length:=by simp [baseM]
theorem onesM_len:∀ {m:Int} {ws bs:List Int},(onesM m ws bs).length=bs.length
 | m,[],bs=>by simp [onesM]
 | m,x :: ws,[]=>by simp [onesM]
 | m,x :: ws,b :: bs=>by
  unfold onesM
  split <;> simp [onesM_len]
theorem spreadM_len {n:Int} {ws:List Int}:(spreadM n ws).length=ws.length:=by
 unfold spreadM
 split
 ·simp
 ·rw [onesM_len,baseM_len]
theorem onesM_zero:∀ {m:Int} {ws bs:List Int},m≤0→onesM m ws bs=bs
 | m,[],bs,h=>by simp [onesM]
 | m,x :: ws,[],h=>by simp [onesM]
 | m,x :: ws,b :: bs,h=>by
  unfold onesM;rw [if_neg (by omega),onesM_zero h]
def cntP:List Int→Int
 | []=>0
 | x :: t=>(if 0<x then 1 else 0)+cntP t
theorem cntP_bd:∀ ws:List Int,0≤cntP ws∧cntP ws≤ws.length
 | []=>by simp [cntP]
 | x :: t=>by
  have:=cntP_bd t
  simp only [cntP,List.length_cons]
  split <;> omega
theorem sumI_nonneg {L:List Int} (h:∀ x ∈ L,0≤x):0≤sumI L:=by
 induction L with
 | nil=>exact Int.le_refl _
 | cons x t ih =>
  have h1:=h x List.mem_cons_self;have h2:=ih (fun q hq=>h q (List.mem_cons_of_mem _ hq));simp only [sumI];omega
theorem left_bd {n S:Int} (hn:0≤n) (hS:0<S):∀ {ws:List Int},(∀ x ∈ ws,0≤x)→0≤n*sumI ws - S*sumI (baseM n S ws)∧n*sumI ws - S*sumI (baseM n S ws)≤(S - 1)*cntP ws
 | [],_=>by simp [sumI,baseM,cntP]
 | x :: t,h=>by
  have ih:=left_bd hn hS (ws:=t) (fun q hq=>h q (List.mem_cons_of_mem _ hq));have hx:=h x List.mem_cons_self;have e:=Int.mul_ediv_add_emod (n*x) S;have r0:=Int.emod_nonneg (n*x) (show S ≠ 0 by omega);have r1:=Int.emod_lt_of_pos (n*x) hS;have eb:sumI (baseM n S (x :: t))=n*x / S+sumI (baseM n S t):=rfl;rw [eb];simp only [sumI,cntP,Int.mul_add];generalize n*x / S=q at *;generalize (n*x) % S=r at *
  generalize n*sumI t=u at *;generalize S*sumI (baseM n S t)=v at *;generalize (S - 1)*cntP t=z at *
  by_cases hp:0<x
  ·simp only [if_pos hp,Int.mul_one];omega
  ·have hx0:x=0:=by omega
   subst hx0;simp only [Int.mul_zero] at e ⊢;simp only [Int.lt_irrefl,if_false,Int.mul_zero]
   have hsq:S*q=0 ∨ S*q ≠ 0:=by omega
   have hr:r=0:=by
    have:S*q+r=0:=e
    rcases Int.lt_or_le q 0 with hq | hq
    ·have:S*q≤S*(-1):=Int.mul_le_mul_of_nonneg_left (by omega) (by omega)
     omega
    ·have:0≤S*q:=Int.mul_nonneg (by omega) hq
     omega
   omega
theorem miss_bd {n:Int} {ws:List Int} (hn:0≤n) (h:∀ x ∈ ws,0≤x) (hS:sumI ws ≠ 0):0≤n - sumI (baseM n (sumI ws) ws)∧n - sumI (baseM n (sumI ws) ws)≤cntP ws:=by
 have h0:=sumI_nonneg h
 have hS':0<sumI ws:=by omega
 obtain ⟨a1,a2⟩:=left_bd hn hS' h;have hc:=(cntP_bd ws).1;generalize sumI (baseM n (sumI ws) ws)=B at *;generalize hs:sumI ws=S at *
 have e:n*S - S*B=S*(n - B):=by rw [Int.mul_sub,Int.mul_comm n S]
 rw [e] at a1 a2
 have e2:(S - 1)*cntP ws=S*cntP ws - cntP ws:=by rw [Int.sub_mul,Int.one_mul]
 rw [e2] at a2;generalize cntP ws=C at *
 constructor
 ·rcases Int.lt_or_le (n - B) 0 with hq | hq
  ·have:S*(n - B)≤S*(-1):=Int.mul_le_mul_of_nonneg_left (by omega) (by omega)
   omega
  ·exact hq
 ·rcases Int.lt_or_le C (n - B) with hq | hq
  ·have:S*(C+1)≤S*(n - B):=Int.mul_le_mul_of_nonneg_left (by omega) (by omega)
   rw [Int.mul_add,Int.mul_one] at this;omega
  ·exact hq
theorem base_bd {n S x:Int} (hn:0≤n) (hS:0<S) (h0:0≤x) (hx:x≤S):0≤n*x / S∧n*x / S≤n:=by
 refine ⟨Int.ediv_nonneg (Int.mul_nonneg hn h0) (by omega),?_⟩;have h1:n*x≤n*S:=Int.mul_le_mul_of_nonneg_left hx hn;have h2:=Int.ediv_le_ediv hS h1
 rwa [Int.mul_ediv_cancel _ (by omega)] at h2
theorem mem_le_sum:∀ {ws:List Int},(∀ x ∈ ws,0≤x)→∀ x ∈ ws,x≤sumI ws
 | [],_,x,hx=>by cases hx
 | y :: t,h,x,hx=>by
  have h1:=h y List.mem_cons_self;have h2:=sumI_nonneg (L:=t) (fun q hq=>h q (List.mem_cons_of_mem _ hq));simp only [sumI]
  rcases List.mem_cons.1 hx with rfl | hx
  ·omega
  ·have:=mem_le_sum (ws:=t) (fun q hq=>h q (List.mem_cons_of_mem _ hq)) x hx
   omega
end
section
def wsOK (ws:List Int):Prop:=(∀ x ∈ ws,0≤x∧x≤5)∧1≤ws.length∧ws.length≤5
theorem wsOK.sum {ws:List Int} (h:wsOK ws):0≤sumI ws∧sumI ws≤25:=by
 have:=sumI_bd h.1
 have:=h.2.2
 omega
theorem wsOK.smal {ws:List Int} (h:wsOK ws):Smal 1000000000000000 ws:=smal_of (b:=5) (fun x hx=>by have:=h.1 x hx;omega) (by omega) (by have:=h.2.2;omega)
theorem wsOK.nn {ws:List Int} (h:wsOK ws):∀ x ∈ ws,0≤x:=fun x hx=>(h.1 x hx).1
theorem base_get {n S:Int} {ws:List Int} {k:Nat} {x:Int} (h:ws[k]?=some x):(baseM n S ws)[k]?=some (n*x / S):=by
 simp [baseM,h]
def mixM (B:List Int) (k:Nat):List Int:=B.take k ++ List.replicate (B.length - k) 0
theorem mixM_zero (B:List Int):mixM B 0=List.replicate B.length 0:=by simp [mixM]
theorem mixM_all (B:List Int):mixM B B.length=B:=by simp [mixM]
theorem mixM_set {B:List Int} {k:Nat} {b:Int} (h:B[k]?=some b):(mixM B k).set k b=mixM B (k+1):=by
 obtain ⟨hk,e⟩:=List.getElem?_eq_some_iff.1 h;unfold mixM;rw [List.set_append_right _ _ (by rw [List.length_take];omega)]
 have h1:B.length - k=(B.length - (k+1))+1:=by omega
 rw [h1,List.replicate_succ]
 have h2:k - (B.take k).length=0:=by rw [List.length_take];omega
 rw [h2,List.set_cons_zero,List.take_succ_eq_append_getElem hk,e]
 simp
theorem mixM_get {B:List Int} {k:Nat} (hk:k<B.length):∃ x,(mixM B k)[k]?=some x:=by
 unfold mixM;rw [List.getElem?_append_right (by rw [List.length_take];omega)]
 have:k - (B.take k).length=0:=by rw [List.length_take];omega
 rw [this];exact ⟨0,by rw [List.getElem?_replicate,if_pos (by omega)]⟩
theorem mixM_get' {B:List Int} {k:Nat} {b:Int} (h:B[k]?=some b):(mixM B (k+1))[k]?=some b:=by
 obtain ⟨hk,e⟩:=List.getElem?_eq_some_iff.1 h;unfold mixM;rw [List.getElem?_append_left (by rw [List.length_take];omega),List.getElem?_take,if_pos (by omega),h]
theorem smal_base {n:Int} {ws:List Int} (hn:0≤n) (hn2:n≤100000000000000) (h:wsOK ws) (hS:sumI ws ≠ 0):Smal 1000000000000000 (baseM n (sumI ws) ws):=by
 refine smal_of (b:=100000000000000) (fun x hx=>?_) (by omega) (by rw [baseM_len];have:=h.2.2;omega);obtain ⟨y,hy,rfl⟩:=List.mem_map.1 hx;have h0:=h.sum
 have:=base_bd (n:=n) (S:=sumI ws) (x:=y) hn (by omega) (h.nn y hy) (mem_le_sum h.nn y hy)
 omega
theorem last_set {n:Int} {ws:List Int} {j:Nat} (hj:ws.length=j+1) (h0:sumI ws=0):(List.replicate ws.length (0:Int)).set j n=spreadM n ws:=by
 unfold spreadM;rw [if_pos h0]
 congr 1
 omega
theorem wadd_mul {n x:Int} (hn:0≤n) (hn2:n≤100000000000000) (h0:0≤x) (h5:x≤5):0≤n*x∧n*x≤500000000000000 :=
 ⟨Int.mul_nonneg hn h0,Int.le_trans (Int.mul_le_mul hn2 h5 h0 (by omega)) (by omega)⟩
theorem drop_consI {L:List Int} {k:Nat} {p:Int} (h:L[k]?=some p):L.drop k=p :: L.drop (k+1):=by
 have hk:=(List.getElem?_eq_some_iff.1 h).1;have e:=(List.getElem?_eq_some_iff.1 h).2;rw [List.drop_eq_getElem_cons hk,e]
theorem set_here {P R:List Int} {k:Nat} {y z:Int} (h:P.length=k):(P ++ y :: R).set k z=P ++ z :: R:=by
 rw [List.set_append_right _ _ (by omega)]
 have:k - P.length=0:=by omega
 rw [this,List.set_cons_zero]
theorem onesM_nil (m:Int) (ws:List Int):onesM m ws []=[]:=by cases ws <;> simp [onesM]
theorem sum_n (A:Option Addr) (c n:Nat) (L:List Int) (w:World) (h:NV w A L) (hn:n=L.length) (hL:n≤1048576) (hM:Smal 1000000000000000 L) :
  Calls Tryz.prog 210 #[.slice A n c] w fun e w'=>e=.returned (.int .i64 (sumI L))∧w=w':=by subst hn;exact sum_v A c L w h hL hM
theorem total_n (A:Option Addr) (c n:Nat) (L:List Int) (w:World) (h:NV w A L) (hn:n=L.length) (hL:n≤1048576) (hM:Smal 1000000000000000 L) :
  Calls Tryz.prog 142 #[.slice A n c] w fun e w'=>e=.returned (.int .i64 (sumI L))∧w=w':=by subst hn;exact total_v A c L w h hL hM
theorem spread_v (A:Option Addr) (c:Nat) (n:Int) (ws:List Int) (w:World) (h:NV w A ws) (hw:wsOK ws) (hn:0≤n) (hn2:n≤100000000000000) :
  Calls Tryz.prog 219 #[.int .i64 n,.slice A ws.length c] w fun e w'=>e=.returned (.slice (some ⟨w.heap.size,0,none⟩) ws.length ws.length)∧IB w' w.heap.size (spreadM n ws)∧Below w.heap.size w w':=by
 obtain ⟨hw1,hw2,hw3⟩:=id hw;obtain ⟨hs0,hs1⟩:=hw.sum
 have hmk:∀ w:World,(Instr.makeSlice 37 (.int .i64 (ws.length:Int)) (.int .i64 (ws.length:Int))).run Tryz.prog w=.ok (.slice (some ⟨w.heap.size,0,none⟩) ws.length ws.length) (w.alloc (.cells (ivals (List.replicate ws.length 0)) 3)):=fun w=>madeI ws.length w (by omega)
 have HW:=hD hw;have HW1:=hD hw1
 obtain ⟨j,hj⟩:∃ j,ws.length=j+1:=⟨ws.length - 1,by omega⟩
 have HJ:=hD hj;clear hw1 hw hj
 go_enter Tryz.func219,Tryz.ntmps219
 go_wp2_with fail
 have hI0:=makeI_b ws.length w;have hB0:Below w.heap.size w (w.alloc (.cells (ivals (List.replicate ws.length 0)) 3)):=balloc (Below.refl _ _)
 obtain ⟨W,hWe⟩:∃ W,w.alloc (.cells (ivals (List.replicate ws.length 0)) 3)=W:=⟨_,rfl⟩
 rw [hWe] at hI0 hB0 ⊢;have HI:=hD hI0;have HB:=hD hB0;have HNW:=hD (h.keep hB0);clear hWe hI0 hB0 hmk
 with_reducible refine (sum_v A c ws _ HNW.out (by omega) HW.out.smal).mono ?_
 rintro e w1 ⟨rfl,rfl⟩
 by_cases hS:sumI ws=0
 ·have hz:(sumI ws == 0)=true:=by simpa using hS
  have hsp:=last_set (n:=n) (by rw [HJ.out]:ws.length=j+1) hS
  have e1:(ws.length:Int) - 1=(j:Int):=by have:=HJ.out;omega
  have e2:IntKind.i64.wrap ((ws.length:Int) - 1)=(j:Int):=by rw [e1];exact IntWalk.i64_in _ (by omega)
  have hjl:j<ws.length:=by have:=HJ.out;omega
  have c0:=HI.out.cell (i:=j) (x:=0) (by simp [hjl]);have f0:=HI.out.frozen j;have HF:=hD (show IB (W.setCell ⟨w.heap.size,j,none⟩ (.int .i64 n)) w.heap.size (spreadM n ws) by have:=HI.out.set j n;rwa [hsp] at this);have HB2:=hD (HB.out.setCell (p:=⟨w.heap.size,j,none⟩) (Nat.le_refl _) (.int .i64 n));clear hS hsp HI HB;go_wp2;go_ret;exact ⟨rfl,HF.out,HB2.out⟩
 ·have hz:(sumI ws == 0)=false:=by simpa using hS
  obtain ⟨S,hSe⟩:∃ S,sumI ws=S:=⟨_,rfl⟩
  have hS1:0<S:=by omega
  have hS2:S≤25:=by omega
  have hbl:=baseM_len n S ws;have hmb:=miss_bd hn HW.out.nn hS;have hsm:=smal_base hn hn2 HW.out hS
  have hsp:spreadM n ws=onesM (n - sumI (baseM n S ws)) ws (baseM n S ws):=by unfold spreadM;rw [if_neg hS,hSe]
  rw [hSe] at hz hmb hsm;have hcb:=cntP_bd ws;have HSP:=hD hsp;have HMB:=hD hmb;have HSM:=hD hsm;have HSE:=hD hSe;have HBL:=hD hbl;rw [hSe]
  have hI0:IB W w.heap.size (mixM (baseM n S ws) 0):=by rw [mixM_zero,hbl];exact HI.out
  have HI0:=hD hI0
  have hcb2:cntP ws≤5:=by omega
  have hcb1:0≤cntP ws:=by omega
  clear hS hsp hmb hsm hbl hSe HI hI0 hs0 hs1 hcb
  go_wp2_with fail
  go_loopw [26] (fun i wr=>∃ k:Nat,k≤ws.length∧i=.int .i64 k∧IB wr w.heap.size (mixM (baseM n S ws) k)∧Below w.heap.size w wr) (fun i _=>ws.length - (intOf i).toNat)
  case atStart=>exact ⟨0,by omega,rfl,HI0.out,HB.out⟩
  case round =>
   obtain ⟨k,hk,rfl,hI,hBr⟩:=hrel;clear HI0
   by_cases hlt:k<ws.length
   ·have hd:decide ((k:Int)<(ws.length:Int))=true:=by simpa using hlt
    obtain ⟨b,off,rfl,hb,hp⟩:=(h.keep hBr).cells (by omega);have hget:ws[k]?=some ws[k]:=List.getElem?_eq_getElem hlt;have c0:=hp k _ hget;have hx01:=HW1.out _ (List.getElem_mem hlt);generalize hx:ws[k]=x at *;obtain ⟨hx0,hx1⟩:=hx01;obtain ⟨hm0,hm1⟩:=wadd_mul hn hn2 hx0 hx1;have hbk:=base_get (n:=n) (S:=S) hget;obtain ⟨y,hy⟩:=mixM_get (B:=baseM n S ws) (k:=k) (by rw [HBL.out];exact hlt)
    have d0:=hI.cell hy;have f0:=hI.frozen k;have hI2:=hI.set k (n*x / S);rw [mixM_set hbk] at hI2;have HI2:=hD hI2;have HB2:=hD (hBr.setCell (p:=⟨w.heap.size,k,none⟩) (Nat.le_refl _) (.int .i64 (n*x / S)));clear hI hI2 hBr hp hget hx hy hbk;go_wp2
    go_roundw
    case rel=>exact ⟨k+1,by omega,by go_num,HI2.out,HB2.out⟩
    case measure=>simp [intOf];omega
   ·have hd:decide ((k:Int)<(ws.length:Int))=false:=by simp;omega
    obtain rfl:k=ws.length:=by omega
    rw [<- HBL.out,mixM_all] at hI;have HIB:=hD hI;have HBR:=hD hBr;clear hI hBr
    go_wp2_with fail
    with_reducible refine (sum_n _ ws.length ws.length (baseM n S ws) _ HIB.out.nv HBL.out.symm (by omega) HSM.out).mono ?_
    rintro e w2 ⟨rfl,rfl⟩
    obtain ⟨m,hm⟩:∃ m,n - sumI (baseM n S ws)=m:=⟨_,rfl⟩
    have hmb:=HMB.out;rw [hm] at hmb;obtain ⟨hm0,hm1⟩:=hmb
    have hmw:IntKind.i64.wrap (n - sumI (baseM n S ws))=m:=by rw [hm];exact IntWalk.i64_in _ (by omega)
    have hsp:=HSP.out;rw [hm] at hsp;have HSP2:=hD hsp
    have hcc:m≤5:=by omega
    clear HSP hsp HMB hm
    go_wp2_with fail
    go_loopw [8,47] (fun mv i wr=>∃ (k:Nat) (m':Int) (P:List Int),k≤ws.length∧i=.int .i64 k∧mv=.int .i64 m'∧P.length=k∧m'≤5∧IB wr w.heap.size (P ++ (baseM n S ws).drop k)∧P ++ onesM m' (ws.drop k) ((baseM n S ws).drop k)=spreadM n ws∧Below w.heap.size w wr) (fun _ i _=>ws.length - (intOf i).toNat)
    case atStart=>exact ⟨0,m,[],by omega,rfl,rfl,rfl,hcc,by simpa using HIB.out,by simpa using HSP2.out.symm,HBR.out⟩
    case round =>
     obtain ⟨k,m',P,hk,rfl,rfl,hP,hm5,hI,hf,hBr⟩:=hrel;clear HIB HBR HSP2 hmw hm0 hm1 hcc
     by_cases hlt:k<ws.length
     ·have hd:decide ((k:Int)<(ws.length:Int))=true:=by simpa using hlt
      obtain ⟨b,off,rfl,hb,hp⟩:=(h.keep hBr).cells (by omega);have hget:ws[k]?=some ws[k]:=List.getElem?_eq_getElem hlt;have c0:=hp k _ hget;have hx01:=HW1.out _ (List.getElem_mem hlt);have hbk:=base_get (n:=n) (S:=S) hget;have hdw:=drop_consI hget;generalize hx:ws[k]=x at *;have hdb:=drop_consI hbk;obtain ⟨hx0,hx1⟩:=hx01
      have hbb:0≤n*x / S∧n*x / S≤500000000000000:=by
       obtain ⟨q0,q1⟩:=wadd_mul hn hn2 hx0 hx1;exact ⟨Int.ediv_nonneg q0 (by omega),Int.le_trans (Int.ediv_le_self S q0) q1⟩
      generalize n*x / S=y at *;obtain ⟨hb0,hb1⟩:=hbb;rw [hdb] at hI hf;rw [hdw] at hf;have d0:=hI.cell (i:=k) (x:=y) (by rw [List.getElem?_append_right (by omega),hP,Nat.sub_self];rfl);have f0:=hI.frozen k;have HDW:=hD hdw
      by_cases hxp:0<x
      ·have e1:decide (x > 0)=true:=by simpa using hxp
       have e1':decide (0<x)=true:=by simpa using hxp
       by_cases hmp:0<m'
       ·have e2:decide (m' > 0)=true:=by simpa using hmp
        have e2':decide (0<m')=true:=by simpa using hmp
        rw [onesM,if_pos ⟨hxp,hmp⟩] at hf;have hI2:=hI.set k (y+1);rw [set_here hP] at hI2;have HI2:=hD hI2;have HF2:=hD hf;have HP:=hD hP;have HB2:=hD (hBr.setCell (p:=⟨w.heap.size,k,none⟩) (Nat.le_refl _) (.int .i64 (y+1)));have HXP:=hD hxp;have HMP:=hD hmp;clear hI hI2 hBr hp hget hx hbk hdb hdw hf hP hxp;go_wp2
        go_roundw
        case rel=>exact ⟨k+1,m' - 1,P ++ [y+1],by omega,by go_num,rfl,by simp [HP.out],by omega,by simpa using HI2.out,by simpa using HF2.out,HB2.out⟩
        case measure=>simp [intOf];omega
       ·have e2:decide (m' > 0)=false:=by simpa using hmp
        have e2':decide (0<m')=false:=by simpa using hmp
        rw [onesM,if_neg (by omega)] at hf;have HI2:=hD hI;have HF2:=hD hf;have HP:=hD hP;have HB2:=hD hBr;have HXP:=hD hxp;have HMP:=hD hmp;clear hI hBr hp hget hx hbk hdb hdw hf hP hxp hmp;go_wp2
        go_roundw
        case rel=>exact ⟨k+1,m',P ++ [y],by omega,by go_num,rfl,by simp [HP.out],by omega,by simpa using HI2.out,by simpa using HF2.out,HB2.out⟩
        case measure=>simp [intOf];omega
      ·have e1:decide (x > 0)=false:=by simpa using hxp
       have e1':decide (0<x)=false:=by simpa using hxp
       rw [onesM,if_neg (by omega)] at hf;have HI2:=hD hI;have HF2:=hD hf;have HP:=hD hP;have HB2:=hD hBr;have HXP:=hD hxp;clear hI hBr hp hget hx hbk hdb hdw hf hP hxp;go_wp2
       go_roundw
       case rel=>exact ⟨k+1,m',P ++ [y],by omega,by go_num,rfl,by simp [HP.out],by omega,by simpa using HI2.out,by simpa using HF2.out,HB2.out⟩
       case measure=>simp [intOf];omega
     ·have hd:decide ((k:Int)<(ws.length:Int))=false:=by simp;omega
      have hk':k=ws.length:=by omega
      have hdb:(baseM n S ws).drop k=[]:=List.drop_eq_nil_of_le (by rw [HBL.out];omega);rw [hdb,onesM_nil,List.append_nil] at hf;rw [hdb,List.append_nil,hf] at hI;have HI2:=hD hI;have HB2:=hD hBr;clear hI hBr hf hdb hP;go_wp2;go_ret;exact ⟨rfl,HI2.out,HB2.out⟩
end
section
theorem sspread_v (A:Option Addr) (c:Nat) (n:Int) (ws:List Int) (w:World) (h:NV w A ws) (hw:wsOK ws) (hn:0≤n) (hn2:n≤100000000000000) :
  Calls Tryz.prog 170 #[.int .i64 n,.slice A ws.length c] w fun e w'=>e=.returned (.slice (some ⟨w.heap.size,0,none⟩) ws.length ws.length)∧IB w' w.heap.size (spreadM n ws)∧Below w.heap.size w w':=by
 obtain ⟨hw1,hw2,hw3⟩:=id hw;obtain ⟨hs0,hs1⟩:=hw.sum
 have hmk:∀ w:World,(Instr.makeSlice 37 (.int .i64 (ws.length:Int)) (.int .i64 (ws.length:Int))).run Tryz.prog w=.ok (.slice (some ⟨w.heap.size,0,none⟩) ws.length ws.length) (w.alloc (.cells (ivals (List.replicate ws.length 0)) 3)):=fun w=>madeI ws.length w (by omega)
 have HW:=hD hw;have HW1:=hD hw1
 obtain ⟨j,hj⟩:∃ j,ws.length=j+1:=⟨ws.length - 1,by omega⟩
 have HJ:=hD hj;clear hw1 hw hj
 go_enter Tryz.func170,Tryz.ntmps170
 go_wp2_with fail
 have hI0:=makeI_b ws.length w;have hB0:Below w.heap.size w (w.alloc (.cells (ivals (List.replicate ws.length 0)) 3)):=balloc (Below.refl _ _)
 obtain ⟨W,hWe⟩:∃ W,w.alloc (.cells (ivals (List.replicate ws.length 0)) 3)=W:=⟨_,rfl⟩
 rw [hWe] at hI0 hB0 ⊢;have HI:=hD hI0;have HB:=hD hB0;have HNW:=hD (h.keep hB0);clear hWe hI0 hB0 hmk
 with_reducible refine (total_v A c ws _ HNW.out (by omega) HW.out.smal).mono ?_
 rintro e w1 ⟨rfl,rfl⟩
 by_cases hS:sumI ws=0
 ·have hz:(sumI ws == 0)=true:=by simpa using hS
  have hsp:=last_set (n:=n) (by rw [HJ.out]:ws.length=j+1) hS
  have e1:(ws.length:Int) - 1=(j:Int):=by have:=HJ.out;omega
  have e2:IntKind.i64.wrap ((ws.length:Int) - 1)=(j:Int):=by rw [e1];exact IntWalk.i64_in _ (by omega)
  have hjl:j<ws.length:=by have:=HJ.out;omega
  have hg0:decide ((ws.length:Int) > 0)=true:=by simp;omega
  have c0:=HI.out.cell (i:=j) (x:=0) (by simp [hjl]);have f0:=HI.out.frozen j;have HF:=hD (show IB (W.setCell ⟨w.heap.size,j,none⟩ (.int .i64 n)) w.heap.size (spreadM n ws) by have:=HI.out.set j n;rwa [hsp] at this);have HB2:=hD (HB.out.setCell (p:=⟨w.heap.size,j,none⟩) (Nat.le_refl _) (.int .i64 n));clear hS hsp HI HB;go_wp2;go_ret;exact ⟨rfl,HF.out,HB2.out⟩
 ·have hz:(sumI ws == 0)=false:=by simpa using hS
  obtain ⟨S,hSe⟩:∃ S,sumI ws=S:=⟨_,rfl⟩
  have hS1:0<S:=by omega
  have hS2:S≤25:=by omega
  have hbl:=baseM_len n S ws;have hmb:=miss_bd hn HW.out.nn hS;have hsm:=smal_base hn hn2 HW.out hS
  have hsp:spreadM n ws=onesM (n - sumI (baseM n S ws)) ws (baseM n S ws):=by unfold spreadM;rw [if_neg hS,hSe]
  rw [hSe] at hz hmb hsm;have hcb:=cntP_bd ws;have HSP:=hD hsp;have HMB:=hD hmb;have HSM:=hD hsm;have HSE:=hD hSe;have HBL:=hD hbl;rw [hSe]
  have hI0:IB W w.heap.size (mixM (baseM n S ws) 0):=by rw [mixM_zero,hbl];exact HI.out
  have HI0:=hD hI0
  have hcb2:cntP ws≤5:=by omega
  have hcb1:0≤cntP ws:=by omega
  clear hS hsp hmb hsm hbl hSe HI hI0 hs0 hs1 hcb
  go_wp2_with fail
  have hsb:∀ k,k≤ws.length→-500000000000000≤sumI ((baseM n S ws).take k)∧sumI ((baseM n S ws).take k)≤500000000000000:=fun k hk=>by
   have:=sumI_bd (lo:=0) (hi:=100000000000000) (L:=(baseM n S ws).take k) (fun y hy=>by
    obtain ⟨x,hx,rfl⟩:=List.mem_map.1 (List.mem_of_mem_take hy);have h1:=mem_le_sum HW.out.nn x hx;rw [HSE.out] at h1
    have:=base_bd (n:=n) (S:=S) (x:=x) hn hS1 (HW.out.nn x hx) h1
    omega)
   have h2:((baseM n S ws).take k).length≤5:=by rw [List.length_take,HBL.out];omega
   omega
  have HSB:=hD hsb;clear hsb
  go_loopw [7,8] (fun lv i wr=>∃ k:Nat,k≤ws.length∧i=.int .i64 k∧lv=.int .i64 (n - sumI ((baseM n S ws).take k))∧IB wr w.heap.size (mixM (baseM n S ws) k)∧Below w.heap.size w wr) (fun _ i _=>ws.length - (intOf i).toNat)
  case atStart=>exact ⟨0,by omega,rfl,by simp [sumI],HI0.out,HB.out⟩
  case round =>
   obtain ⟨k,hk,rfl,rfl,hI,hBr⟩:=hrel;clear HI0
   by_cases hlt:k<ws.length
   ·have hd:decide ((k:Int)<(ws.length:Int))=true:=by simpa using hlt
    obtain ⟨b,off,rfl,hb,hp⟩:=(h.keep hBr).cells (by omega);have hget:ws[k]?=some ws[k]:=List.getElem?_eq_getElem hlt;have c0:=hp k _ hget;have hx01:=HW1.out _ (List.getElem_mem hlt);generalize hx:ws[k]=x at *;obtain ⟨hx0,hx1⟩:=hx01;obtain ⟨hm0,hm1⟩:=wadd_mul hn hn2 hx0 hx1;have hbk:=base_get (n:=n) (S:=S) hget;obtain ⟨y,hy⟩:=mixM_get (B:=baseM n S ws) (k:=k) (by rw [HBL.out];exact hlt)
    have d0:=hI.cell hy;have f0:=hI.frozen k;have hI2:=hI.set k (n*x / S);rw [mixM_set hbk] at hI2;have e0:=hI2.cell (mixM_get' hbk);have hsn:=sumI_snoc hbk;have b1:=HSB.out k hk;have b2:=HSB.out (k+1) (by omega);rw [hsn] at b2;have HI2:=hD hI2;have HB2:=hD (hBr.setCell (p:=⟨w.heap.size,k,none⟩) (Nat.le_refl _) (.int .i64 (n*x / S)))
    obtain ⟨q,hq⟩:∃ q,sumI ((baseM n S ws).take k)=q:=⟨_,rfl⟩
    rw [hq] at b1 b2 hsn;rw [hq];have HSN:=hD hsn
    have hbb:0≤n*x / S∧n*x / S≤500000000000000:=⟨Int.ediv_nonneg hm0 (by omega),Int.le_trans (Int.ediv_le_self S hm0) hm1⟩
    obtain ⟨hbb0,hbb1⟩:=hbb;clear hI hI2 hBr hp hget hx hy hbk hsn hq;go_wp2
    go_roundw
    case rel=>exact ⟨k+1,by omega,by go_num,by rw [HSN.out];go_num,HI2.out,HB2.out⟩
    case measure=>simp [intOf];omega
   ·have hd:decide ((k:Int)<(ws.length:Int))=false:=by simp;omega
    obtain rfl:k=ws.length:=by omega
    have htl:(baseM n S ws).take ws.length=baseM n S ws:=List.take_of_length_le (by rw [HBL.out];omega);rw [htl];rw [<- HBL.out,mixM_all] at hI;have HIB:=hD hI;have HBR:=hD hBr;clear hI hBr htl
    obtain ⟨m,hm⟩:∃ m,n - sumI (baseM n S ws)=m:=⟨_,rfl⟩
    have hmb:=HMB.out;rw [hm] at hmb;obtain ⟨hm0,hm1⟩:=hmb;have hsp:=HSP.out;rw [hm] at hsp;have HSP2:=hD hsp
    have hcc:m≤5:=by omega
    rw [hm];clear HSP hsp HMB hm
    go_wp2_with fail
    go_loopw [7,9] (fun mv i wr=>∃ (k:Nat) (m':Int) (P:List Int),k≤ws.length∧i=.int .i64 k∧mv=.int .i64 m'∧P.length=k∧m'≤5∧m'≤cntP (ws.drop k)∧IB wr w.heap.size (P ++ (baseM n S ws).drop k)∧P ++ onesM m' (ws.drop k) ((baseM n S ws).drop k)=spreadM n ws∧Below w.heap.size w wr) (fun _ i _=>ws.length - (intOf i).toNat)
    case atStart=>exact ⟨0,m,[],by omega,rfl,rfl,rfl,hcc,by simpa using hm1,by simpa using HIB.out,by simpa using HSP2.out.symm,HBR.out⟩
    case round =>
     obtain ⟨k,m',P,hk,rfl,rfl,hP,hm5,hmc,hI,hf,hBr⟩:=hrel;clear HIB HBR HSP2 hm0 hm1 hcc
     by_cases hmp:0<m'
     ·have hlt:k<ws.length:=by
       rcases Nat.lt_or_ge k ws.length with h1 | h1
       ·exact h1
       ·rw [List.drop_eq_nil_of_le h1] at hmc;simp [cntP] at hmc;omega
      have e2:decide (m' > 0)=true:=by simpa using hmp
      have e2':decide (0<m')=true:=by simpa using hmp
      obtain ⟨b,off,rfl,hb,hp⟩:=(h.keep hBr).cells (by omega);have hget:ws[k]?=some ws[k]:=List.getElem?_eq_getElem hlt;have c0:=hp k _ hget;have hx01:=HW1.out _ (List.getElem_mem hlt);have hbk:=base_get (n:=n) (S:=S) hget;have hdw:=drop_consI hget;generalize hx:ws[k]=x at *;have hdb:=drop_consI hbk;obtain ⟨hx0,hx1⟩:=hx01
      have hbb:0≤n*x / S∧n*x / S≤500000000000000:=by
       obtain ⟨q0,q1⟩:=wadd_mul hn hn2 hx0 hx1;exact ⟨Int.ediv_nonneg q0 (by omega),Int.le_trans (Int.ediv_le_self S q0) q1⟩
      generalize n*x / S=y at *;obtain ⟨hb0,hb1⟩:=hbb;rw [hdb] at hI hf;rw [hdw] at hf hmc;have d0:=hI.cell (i:=k) (x:=y) (by rw [List.getElem?_append_right (by omega),hP,Nat.sub_self];rfl);have f0:=hI.frozen k;simp only [cntP] at hmc
      by_cases hxp:0<x
      ·have e1:decide (x > 0)=true:=by simpa using hxp
       have e1':decide (0<x)=true:=by simpa using hxp
       rw [if_pos hxp] at hmc;rw [onesM,if_pos ⟨hxp,hmp⟩] at hf;have hI2:=hI.set k (y+1);rw [set_here hP] at hI2;have HI2:=hD hI2;have HF2:=hD hf;have HP:=hD hP;have HB2:=hD (hBr.setCell (p:=⟨w.heap.size,k,none⟩) (Nat.le_refl _) (.int .i64 (y+1)));have HXP:=hD hxp;have HMC:=hD hmc;clear hI hI2 hBr hp hget hx hbk hdb hdw hf hP hxp hmc;go_wp2
       go_roundw
       case rel=>exact ⟨k+1,m' - 1,P ++ [y+1],by omega,by go_num,rfl,by simp [HP.out],by omega,by have:=HMC.out;omega,by simpa using HI2.out,by simpa using HF2.out,HB2.out⟩
       case measure=>simp [intOf];omega
      ·have e1:decide (x > 0)=false:=by simpa using hxp
       have e1':decide (0<x)=false:=by simpa using hxp
       rw [if_neg hxp] at hmc;rw [onesM,if_neg (by omega)] at hf;have HI2:=hD hI;have HF2:=hD hf;have HP:=hD hP;have HB2:=hD hBr;have HXP:=hD hxp;have HMC:=hD hmc;have HMP:=hD hmp;clear hI hBr hp hget hx hbk hdb hdw hf hP hxp hmc hmp;go_wp2
       go_roundw
       case rel=>exact ⟨k+1,m',P ++ [y],by omega,by go_num,rfl,by simp [HP.out],by omega,by have:=HMC.out;omega,by simpa using HI2.out,by simpa using HF2.out,HB2.out⟩
       case measure=>simp [intOf];omega
     ·have e2:decide (m' > 0)=false:=by simpa using hmp
      have e2':decide (0<m')=false:=by simpa using hmp
      rw [onesM_zero (by omega)] at hf;rw [hf] at hI;have HI2:=hD hI;have HB2:=hD hBr;clear hI hBr hf hP hmc;go_wp2;go_ret;exact ⟨rfl,HI2.out,HB2.out⟩
end
section
def wB (x:Int):Bool:=rng x 0 5
def sbB (n:Int) (ws:List Int):Bool:=rng n 0 400 && (rng ws.length 1 5 && ws.all wB)
theorem within_w (n a b:Int) (t:Bool) (w:World) (h:rng n a b=t):Calls Tryz.prog 83 #[.int .i64 n,.int .i64 a,.int .i64 b] w fun e w'=>e=.returned (.bool t)∧w=w':=by rw [<- h];exact within_any n a b w
theorem inRange_w (n a b:Int) (t:Bool) (w:World) (h:rng n a b=t):Calls Tryz.prog 61 #[.int .i64 n,.int .i64 a,.int .i64 b] w fun e w'=>e=.returned (.bool t)∧w=w':=by rw [<- h];exact inRange_any n a b w
theorem inRange_b (n:Int) (t:Bool) (w:World) (h:wB n=t):Calls Tryz.prog 61 #[.int .i64 n,.int .i64 0,.int .i64 5] w fun e w'=>e=.returned (.bool t)∧w=w':=inRange_w n 0 5 t w h
theorem validWeight_w (n:Int) (t:Bool) (w:World) (h:wB n=t):Calls Tryz.prog 179 #[.int .i64 n] w fun e w'=>e=.returned (.bool t)∧w=w':=by
 go_enter Tryz.func179,Tryz.ntmps179
 go_wp2_with (go_at_call 83;refine (within_w _ _ _ t _ h).mono ?_;rintro e w' ⟨rfl,rfl⟩)
 go_ret;exact ⟨rfl,rfl⟩
end
end Go.Proofs.YtenckjdiggaonaaGreat
