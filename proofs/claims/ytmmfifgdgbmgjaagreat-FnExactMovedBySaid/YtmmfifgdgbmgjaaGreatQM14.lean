import Derived.Test.YtmmfifgdgbmgjaaGreatQM13
import Derived.WalkSpells
import Derived.Laws.Cover3
import Derived.Laws.AppendOwnNone
set_option linter.unusedVariables false
set_option linter.unusedSimpArgs false
set_option maxRecDepth 100000
set_option maxHeartbeats 16000000
namespace Go.Proofs.YtmmfifgdgbmgjaaGreat
open Go.RowKit
attribute [local go_sem] growUpon_value growUpon_skip growUpon_enter
def rgG (u v:Int):Bool:=rng u 0 400&&rng v 0 400
theorem rgG_yes {u v:Int} (h:rgG u v=true):(0≤u∧u≤400)∧(0≤v∧v≤400):=by simpa only [rgG,Bool.and_eq_true,rng_iff] using h
theorem validRoom_g (u v:Int) (w:World):Calls Tryz.prog 33 #[.int .i64 u,.int .i64 v] w fun e w'=>e=.returned (.bool (rgG u v))∧w=w':=by
 unfold rgG
 cases h1:rng u 0 400
 ·go_enter Tryz.func33,Tryz.ntmps33
  go_wp2_with fail
  with_reducible refine (within_any _ _ _ _).mono ?_
  rintro e w2 ⟨rfl,rfl⟩;go_wp2;go_ret;exact ⟨by simp,rfl⟩
 ·go_enter Tryz.func33,Tryz.ntmps33
  go_wp2_with fail
  with_reducible refine (within_any _ _ _ _).mono ?_
  rintro e w2 ⟨rfl,rfl⟩
  go_wp2_with fail
  with_reducible refine (within_any _ _ _ _).mono ?_
  rintro e w2 ⟨rfl,rfl⟩;go_wp2;go_ret;exact ⟨by simp,rfl⟩
theorem goodRoom_g (u v:Int) (w:World):Calls Tryz.prog 28 #[.int .i64 u,.int .i64 v] w fun e w'=>e=.returned (.bool (rgG u v))∧w=w':=by
 unfold rgG
 cases h1:rng u 0 400
 ·go_enter Tryz.func28,Tryz.ntmps28
  go_wp2_with fail
  with_reducible refine (inRange_any _ _ _ _).mono ?_
  rintro e w2 ⟨rfl,rfl⟩;go_wp2;go_ret;exact ⟨by simp,rfl⟩
 ·go_enter Tryz.func28,Tryz.ntmps28
  go_wp2_with fail
  with_reducible refine (inRange_any _ _ _ _).mono ?_
  rintro e w2 ⟨rfl,rfl⟩
  go_wp2_with fail
  with_reducible refine (inRange_any _ _ _ _).mono ?_
  rintro e w2 ⟨rfl,rfl⟩;go_wp2;go_ret;exact ⟨by simp,rfl⟩
section
attribute [local go_sem 5000] run_mx run_mn run_neqR
set_option maxRecDepth 100000
end
def rcN (M:List Re) (i:Nat):Re:=(M[i]?).getD ⟨0,0,0,0⟩
theorem rcN_at {M:List Re} {i:Nat} {S:Re} (h:M[i]?=some S):rcN M i=S:=by unfold rcN;rw [h];rfl
theorem reB_cells {w:World} {g i:Nat} {M:List Re} {S:Re} (h:ReB w g M) (hi:M[i]?=some S):w.cell? ⟨g,i*4,none⟩=some (.int .i64 S.x)∧w.cell? ⟨g,i*4+1,none⟩=some (.int .i64 S.y)∧w.cell? ⟨g,i*4+2,none⟩=some (.int .i64 S.u)∧w.cell? ⟨g,i*4+3,none⟩=some (.int .i64 S.v):=by
 obtain ⟨cs,hh,hs,hc⟩:=h;have h:=hc i S hi;exact ⟨(cellS hh _).trans (by simpa using h 0 _ rfl),(cellS hh _).trans (h 1 _ rfl),(cellS hh _).trans (h 2 _ rfl),(cellS hh _).trans (h 3 _ rfl)⟩
section
attribute [local go_sem] givesUpon_value givesUpon_skip givesUpon_enter
attribute [local go_sem 5000] run_neqR
def neR (S T:Re):Bool:=!eqR S.x S.y S.u S.v T.x T.y T.u T.v
theorem chgR1_v (n k g1 g2 b1 b2:Nat) (M N:List Re) (w:World) (h1:ReB w g1 M) (h2:ReB w g2 N) (hM:M.length=n) (hN:N.length=n) (hk:k<n) (x1:w.cell? ⟨b1,0,none⟩=some (.slice (some ⟨g1,0,none⟩) n n)) (x2:w.cell? ⟨b2,0,none⟩=some (.slice (some ⟨g2,0,none⟩) n n)) (l1:b1<w.heap.size) (l2:b2<w.heap.size) (hn:n≤1048576) :
  Calls Tryz.prog 62 #[.int .i64 (k:Int),.pointer (some ⟨b1,0,none⟩),.pointer (some ⟨b2,0,none⟩)] w fun e w'=>e=.returned (.bool (neR (rcN M k) (rcN N k)))∧Below w.heap.size w w':=by
 obtain ⟨S,hS⟩:∃ S,M[k]?=some S:=⟨_,List.getElem?_eq_getElem (by omega)⟩
 obtain ⟨T,hT⟩:∃ T,N[k]?=some T:=⟨_,List.getElem?_eq_getElem (by omega)⟩
 rw [rcN_at hS,rcN_at hT];unfold neR;obtain ⟨c0,c1,c2,c3⟩:=reB_cells h1 hS;obtain ⟨d0,d1,d2,d3⟩:=reB_cells h2 hT;have hl1:=h1.lt;have hl2:=h2.lt
 have hd1:(k:Int)<(n:Int):=by omega
 clear h1 h2 hS hT
 go_enter Tryz.func62,Tryz.ntmps62
 go_wp2_with fail
 refine wp_region_grow 9 1 (·<9) (by kernel_rfl) (by kernel_rfl) rfl ?_
 iterate 9 (refine wpG_step (fun K hK=>?_);first|(refine grow_skip rfl ?_;go_simp;refine hK _ ?_;clear hK K)|(apply Exists.intro;refine ⟨.inl ⟨rfl,fun w' hw'=>?_⟩,?_⟩;(focus ((obtain ⟨hc,hf⟩:=bcell hw'.out);(have hcS:=bcellS hw'.out);go_simp <;> first | rfl));(go_simp;refine hK _ ?_;clear hK K)))
 refine wpG_nil ?_;refine wpK_tail (by kernel_rfl) (fun wa hga=>?_);have hba:=bdrewn hga.out;obtain ⟨hca,hfa⟩:=bcell hba;refine wpAny_one (i:=9) (by kernel_rfl) rfl rfl ?_;go_simp;refine wpAny_end (by kernel_rfl) ?_;refine NoPan.thn ?_;clear hca hfa;clear hga;go_wp2;go_ret;exact ⟨rfl,hba⟩
theorem indicesCR_v (n:Nat) (f:Nat→Bool) (caps:Array Value) (w:World) (hn:n≤1048576)
  (hf:∀ k,k<n→∀ W,Below w.heap.size w W→Calls Tryz.prog 62 (#[.int .i64 (k:Int)] ++ caps) W fun e W'=>e=.returned (.bool (f k))∧Below W.heap.size W W') :
  Calls Tryz.prog 48 #[.int .i64 (n:Int),.func (.func 62) #[] caps] w fun e w'=>(∃ v,e=.returned v∧GO w.heap.size w' v (idsM f n))∧Below w.heap.size w w' :=
 (indicesG_v 62 (enters_of Tryz.func62 (by kernel_rfl) rfl) n f caps w hn hf).mono fun e w' ⟨⟨v,h1,h2⟩,h3⟩=>⟨⟨v,h1,GO.of h2 rfl⟩,h3⟩
theorem changedR_v (n g1 g2:Nat) (M N:List Re) (w:World) (h1:ReB w g1 M) (h2:ReB w g2 N) (hM:M.length=n) (hN:N.length=n) (hn:n≤1048576) :
  Calls Tryz.prog 34 #[.slice (some ⟨g1,0,none⟩) n n,.slice (some ⟨g2,0,none⟩) n n] w fun e w'=>(∃ v,e=.returned v∧GO w.heap.size w' v (idsM (fun k=>neR (rcN M k) (rcN N k)) n))∧Below w.heap.size w w':=by
 have hB0:Below w.heap.size w ((w.alloc (.cells #[.slice (some ⟨g1,0,none⟩) n n] 51 (0,0))).alloc (.cells #[.slice (some ⟨g2,0,none⟩) n n] 51 (0,0))):=(balloc (Below.refl _ _)).trans ((balloc (Below.refl _ _)).mono (by simp))
 have H1:=hD (show ((w.alloc (.cells #[.slice (some ⟨g1,0,none⟩) n n] 51 (0,0))).alloc (.cells #[.slice (some ⟨g2,0,none⟩) n n] 51 (0,0))).heap[w.heap.size]?=some (.cells #[.slice (some ⟨g1,0,none⟩) n n] 51 (0,0)) from (Below.heap_alloc _ _ _ (by simp)).trans (newS _ _))
 have H2:=hD (show ((w.alloc (.cells #[.slice (some ⟨g1,0,none⟩) n n] 51 (0,0))).alloc (.cells #[.slice (some ⟨g2,0,none⟩) n n] 51 (0,0))).heap[w.heap.size+1]?=some (.cells #[.slice (some ⟨g2,0,none⟩) n n] 51 (0,0)) from by have:=newS (w.alloc (.cells #[.slice (some ⟨g1,0,none⟩) n n] 51 (0,0))) (.cells #[.slice (some ⟨g2,0,none⟩) n n] 51 (0,0));simpa using this);have HV1:=hD (h1.keep hB0)
 have HV2:=hD (h2.keep hB0);have HB:=hD hB0;clear hB0 h1 h2
 go_enter Tryz.func34,Tryz.ntmps34
 go_wp2_with fail
 refine (indicesCR_v n (fun k=>neR (rcN M k) (rcN N k)) #[.pointer (some ⟨w.heap.size,0,none⟩),.pointer (some ⟨w.heap.size+1,0,none⟩)] _ hn (fun k hk W hW=>chgR1_v n k g1 g2 _ _ M N W (HV1.out.keep hW) (HV2.out.keep hW) hM hN hk (cellS ((hW.block _ (ltS H1.out)).trans H1.out) 0) (cellS ((hW.block _ (ltS H2.out)).trans H2.out) 0) (Nat.lt_of_lt_of_le (ltS H1.out) hW.size) (Nat.lt_of_lt_of_le (ltS H2.out) hW.size) hn)).mono ?_
 rintro e w1 ⟨⟨v,rfl,hv⟩,hb1⟩;have HK:Hid (GO w.heap.size w1 v (idsM (fun k=>neR (rcN M k) (rcN N k)) n)):=hD (hv.mono (by simp <;> omega));replace HB:=hD (bkeep2 HB.out hb1);clear hv hb1 H1 H2 HV1 HV2;go_wp2;go_ret;exact ⟨⟨v,rfl,HK.out⟩,HB.out⟩
end
section
attribute [local go_sem] givesUpon_value givesUpon_skip givesUpon_enter
theorem afAdd (b off n:Nat):(⟨b,off,none⟩:Addr).add n=⟨b,off+n,none⟩:=by
 unfold Addr.add
 split
 ·rename_i h;subst h;rfl
 ·rfl
theorem eqlLn (a:Option Addr) (l c:Nat) (w:World):(binOp .eql 85 (.slice a l c) (.slice none 0 0)).run Tryz.prog w=.ok (.bool a.isNone) w:=by
 simp only [binOp]
 simp [run_equal_slice_nil (P:=Tryz.prog) w 85 157 a l c Tryz.underlying85]
theorem afFlat {k:Nat}:∀ {R:List (List Value)} {i j:Nat} {vs:List Value} {u:Value},(∀ vs∈R,vs.length=k)→R[i]?=some vs→vs[j]?=some u→R.flatten[i*k+j]?=some u
 | x :: t,0,j,vs,u,hl,h,hj=>by
  simp at h
  subst h
  have:=(List.getElem?_eq_some_iff.1 hj).1
  rw [Nat.zero_mul,Nat.zero_add,List.flatten_cons,List.getElem?_append_left this];exact hj
 | x :: t,i+1,j,vs,u,hl,h,hj=>by
  have hx:=hl x List.mem_cons_self;rw [List.getElem?_cons_succ] at h
  have:=afFlat (fun vs hv=>hl vs (List.mem_cons_of_mem _ hv)) h hj
  rw [List.flatten_cons,List.getElem?_append_right (by rw [hx,Nat.add_mul];omega),hx,show (i+1)*k+j-k=i*k+j from by rw [Nat.add_mul];omega];exact this
theorem afOwn {w:World} {base k n:Nat} {T:TypeId} {v:Value} {R:List (List Value)} (h:w.ownsRow base T k v n R.flatten) (hn:n=R.length) (hl:∀ vs∈R,vs.length=k):∃ A c,v=.slice A n c∧(0<R.length→∃ b,A=some ⟨b,0,none⟩∧base≤b∧b<w.heap.size∧∀ i vs,R[i]?=some vs→w.rangeAt b (0+i*k) vs)∧n≤c:=by
 rcases h.2 with ⟨rfl,h0⟩ | ⟨g,cap,cur,rfl,hb,hg,hc,_,hs,ht⟩
 ·have:R=[]:=List.length_eq_zero_iff.1 (by omega)
  subst this;exact ⟨none,0,by rw [h0],fun h=>absurd h (by simp),by omega⟩
 ·refine ⟨_,cap,rfl,fun _=>⟨g,rfl,hb,ltS hg,fun i vs hi j u hj=>?_⟩,hc⟩;have e:=afFlat hl hi hj;rw [<- ht,List.getElem?_take] at e
  split at e
  ·rw [Nat.zero_add];exact (cellS hg _).trans (by simpa using e)
  ·cases e
def lvals (L:List Ln):List Value:=(L.map valsLn).flatten
theorem lvals_len:∀ L:List Ln,(lvals L).length=L.length*2
 | []=>rfl
 | p :: t=>by
  have:=lvals_len t
  show (valsLn p ++ lvals t).length=_
  rw [List.length_append,this,List.length_cons]
  show 2+_=_
  omega
theorem lvals_one (L:List Ln):∀ u∈lvals L,u.oneCell'=true:=by
 intro u hu;unfold lvals at hu;obtain ⟨vs,h1,h2⟩:=List.mem_flatten.1 hu;obtain ⟨p,_,rfl⟩:=List.mem_map.1 h1;simp only [valsLn,List.mem_cons,List.not_mem_nil,or_false] at h2
 rcases h2 with rfl | rfl <;> rfl
theorem lvals_at:∀ (L:List Ln) (j:Nat) (u:Value),(lvals L)[j]?=some u→∃ (i:Nat) (p:Ln),L[i]?=some p∧((j=i*2∧u=.int .i64 p.wt)∨(j=i*2+1∧u=.int .i64 p.mi))
 | [],j,u,h=>by simp [lvals] at h
 | p :: t,0,u,h=>⟨0,p,rfl,.inl ⟨rfl,(Option.some.inj (h:some _=some u)).symm⟩⟩
 | p :: t,1,u,h=>⟨0,p,rfl,.inr ⟨rfl,(Option.some.inj (h:some _=some u)).symm⟩⟩
 | p :: t,j+2,u,h=>by
  obtain ⟨i,q,h1,h2⟩:=lvals_at t j u h;refine ⟨i+1,q,by simpa using h1,?_⟩
  rcases h2 with ⟨rfl,e⟩ | ⟨rfl,e⟩
  ·exact .inl ⟨by omega,e⟩
  ·exact .inr ⟨by omega,e⟩
def LnW (lo:Nat) (w:World) (A:Option Addr) (L:List Ln):Prop:=0<L.length→∃ b off,A=some ⟨b,off,none⟩∧lo≤b∧b<w.heap.size∧∀ i p,L[i]?=some p→w.cell? ⟨b,off+i*2,none⟩=some (.int .i64 p.wt)∧w.cell? ⟨b,off+i*2+1,none⟩=some (.int .i64 p.mi)
theorem LnW.v {lo:Nat} {w:World} {A:Option Addr} {L:List Ln} (h:LnW lo w A L):LnV w A L:=⟨fun h0=>let ⟨b,off,e,_,hb,hp⟩:=h h0;⟨b,off,e,hb,hp⟩⟩
theorem LnW.same {lo:Nat} {w w':World} {A:Option Addr} {L:List Ln} (h:LnW lo w A L) (hs:∀ b,lo≤b→b<w.heap.size→w'.heap[b]?=w.heap[b]?) (hl:w.heap.size≤w'.heap.size):LnW lo w' A L:=fun h0=>by
 obtain ⟨b,off,e,h1,h2,hp⟩:=h h0;refine ⟨b,off,e,h1,by omega,fun i p hi=>?_⟩;obtain ⟨c0,c1⟩:=hp i p hi;exact ⟨(World.cell?_of_block (a:=⟨b,_,none⟩) (hs b h1 h2)).trans c0,(World.cell?_of_block (a:=⟨b,_,none⟩) (hs b h1 h2)).trans c1⟩
theorem LnW.keep {lo:Nat} {w w':World} {A:Option Addr} {L:List Ln} (h:LnW lo w A L) (hb:Below w.heap.size w w'):LnW lo w' A L:=h.same (fun b _ hl=>hb.block b hl) hb.size
theorem LnW.set {lo g o:Nat} {w:World} {A:Option Addr} {L:List Ln} (h:LnW lo w A L) (hg:g<lo) (v:Value):LnW lo (w.setCell ⟨g,o,none⟩ v) A L:=h.same (fun b h1 _=>Below.heap_setCell _ ⟨g,o,none⟩ _ _ (by simp;omega)) (by simp [World.setCell])
theorem LnW.mono {lo lo':Nat} {w:World} {A:Option Addr} {L:List Ln} (h:LnW lo w A L) (hl:lo'≤lo):LnW lo' w A L:=fun h0=>let ⟨b,off,e,h1,h2⟩:=h h0;⟨b,off,e,by omega,h2⟩
def LnR (lo:Nat) (w:World) (v:Value) (L:List Ln):Prop:=∃ A c,v=.slice A L.length c∧LnW lo w A L∧L.length≤c
theorem LnR.keep {lo:Nat} {w w':World} {v:Value} {L:List Ln} (h:LnR lo w v L) (hb:Below w.heap.size w w'):LnR lo w' v L:=let ⟨A,c,e,k,l⟩:=h;⟨A,c,e,k.keep hb,l⟩
theorem LnR.mono {lo lo':Nat} {w:World} {v:Value} {L:List Ln} (h:LnR lo w v L) (hl:lo'≤lo):LnR lo' w v L:=let ⟨A,c,e,k,l⟩:=h;⟨A,c,e,k.mono hl,l⟩
theorem LnR.own {w:World} {base:Nat} {v:Value} {L:List Ln} (h:w.ownsRow base 157 2 v L.length (lvals L)):LnR base w v L:=by
 obtain ⟨A,c,e,hr,hc⟩:=afOwn h (by rw [List.length_map]) (fun vs hv=>by obtain ⟨p,_,rfl⟩:=List.mem_map.1 hv;rfl);refine ⟨A,c,e,fun h0=>?_,hc⟩;obtain ⟨b,e,h1,h2,hp⟩:=hr (by rwa [List.length_map]);refine ⟨b,0,e,h1,h2,fun i p hi=>?_⟩;have hr:=hp i (valsLn p) (by rw [List.getElem?_map,hi];rfl);exact ⟨hr 0 _ rfl,hr 1 _ rfl⟩
theorem line_info:∃ (i:TypeInfo) (z:Value),Tryz.prog.info? 157=some i∧i.zero=some z∧i.size=2∧i.bytes=16∧z.cells.size=2:=by
 have h:(Tryz.prog.info? 157).map (fun i=>(i.size,i.bytes,i.zero.map (fun z=>z.cells.size)))=some (2,16,some 2):=by kernel_rfl
 cases hq:Tryz.prog.info? 157 with
 | none=>rw [hq] at h;cases h
 | some i =>
  rw [hq] at h;simp only [Option.map_some,Option.some.injEq,Prod.mk.injEq] at h;obtain ⟨e1,e2,e3⟩:=h
  cases hz:i.zero with
  | none=>rw [hz] at e3;cases e3
  | some z=>rw [hz] at e3;exact ⟨i,z,rfl,hz,e1,e2,by simpa using e3⟩
theorem ln_src {w w':World} {b off:Nat} {L:List Ln} (hb:b<w.heap.size) (hp:∀ i p,L[i]?=some p→w.cell? ⟨b,off+i*2,none⟩=some (.int .i64 p.wt)∧w.cell? ⟨b,off+i*2+1,none⟩=some (.int .i64 p.mi)) (h:Below w.heap.size w w'):∀ j u,(lvals L)[j]?=some u→w'.cell? ((⟨b,off,none⟩:Addr).add j)=some u:=fun j u hj=>by
 obtain ⟨i,p,h1,h2⟩:=lvals_at L j u hj;obtain ⟨c0,c1⟩:=hp i p h1;rw [afAdd]
 rcases h2 with ⟨rfl,rfl⟩ | ⟨rfl,rfl⟩
 ·exact (h.cell (p:=⟨b,off+i*2,none⟩) hb).trans c0
 ·rw [<- Nat.add_assoc];exact (h.cell (p:=⟨b,off+i*2+1,none⟩) hb).trans c1
theorem LnV.none_nil {w:World} {L:List Ln} (h:LnV w none L):L=[]:=by
 cases L with
 | nil=>rfl
 | cons p t =>
  obtain ⟨b,off,e,_⟩:=h.cells (by simp)
  cases e
theorem cloneLn_v (A:Option Addr) (c n:Nat) (L:List Ln) (w:World) (h:LnV w A L) (hn:n=L.length) (hL:L.length≤1048576) :
  Calls Tryz.prog 127 #[.slice A n c] w fun e w'=>(∃ v,e=.returned v∧LnR w.heap.size w' v L)∧Below w.heap.size w w':=by
 subst hn
 cases A with
 | none =>
  obtain rfl:=h.none_nil
  have hen:∀ w,(binOp .eql 85 (.slice none 0 c) (.slice none 0 0)).run Tryz.prog w=.ok (.bool true) w:=fun w=>eqlLn none 0 c w
  clear h
  go_enter Tryz.func127,Tryz.ntmps127
  go_wp2;go_ret;exact ⟨⟨_,rfl,none,0,rfl,fun h=>absurd h (by simp),Nat.le_refl _⟩,Below.refl _ _⟩
 | some a =>
  have hen:∀ w,(binOp .eql 85 (.slice (some a) L.length c) (.slice none 0 0)).run Tryz.prog w=.ok (.bool false) w:=fun w=>eqlLn (some a) L.length c w
  obtain ⟨ti,tz,ti1,ti2,ti3,ti4,ti5⟩:=line_info;have hB0:Below w.heap.size w (w.alloc (.cells #[] 157 (0,0))):=balloc (Below.refl _ _);have ho0:(w.alloc (.cells #[] 157 (0,0))).ownsRow w.heap.size 157 2 (.slice (some ⟨w.heap.size,0,none⟩) 0 0) 0 (lvals []):=World.ownsRow_lit (base:=w.heap.size) (e:=157) (size:=2) w #[] 0 (Nat.le_refl _) (by decide) rfl
  have hsrc:∀ j u,(lvals L)[j]?=some u→(w.alloc (.cells #[] 157 (0,0))).cell? (a.add j)=some u:=fun j u hj=>by
   by_cases hl:0<L.length
   ·obtain ⟨b,off,e,hb,hp⟩:=h.cells hl;obtain rfl:=Option.some.inj e;exact ln_src hb hp hB0 j u hj
   ·obtain rfl:L=[]:=List.length_eq_zero_iff.1 (by omega)
    simp [lvals] at hj
  have hob:=ho0.lt;have HO:=hD ho0;have HSRC:=hD hsrc;have HNV:=hD (lvals_len L);have h1c:=hD (lvals_one L);clear hsrc hB0 ho0 h
  go_enter Tryz.func127,Tryz.ntmps127
  go_wp2_with (at_builtin;refine wpList_append_own _ rfl _ _ 85 rfl w.heap.size 157 ti tz 2 16 Tryz.underlying85 ti1 ti2 ti3 ti4 ti5 (by decide) _ _ _ rfl HO.out a L.length c (lvals L) rfl HNV.out HSRC.out h1c.out (by simp only [maxLen];omega) (by omega) (by simp) ?_)
  intro v5 w5 how5 hgr5 _
  have hnv0:lvals [] ++ lvals L=lvals L:=by simp [lvals]
  simp only [hnv0,Nat.zero_add] at how5;have HB5:=hD (below_own (o:=.cells #[] 157 (0,0)) (W:=w) (a:=w) (n:=w.heap.size) (Below.refl _ _) hgr5 hob (Nat.le_refl _) (Nat.le_refl _));have HR:=hD (LnR.own how5);clear how5 hgr5 hnv0 HO HSRC hob h1c hen;go_wp2;go_ret;exact ⟨⟨_,rfl,HR.out⟩,HB5.out⟩
theorem afRet {P:Program} {fn:Func} {R:Ending→World→Prop} {a:Act} {w:World} (t:Nat) (T:TypeId) (g:Nat) (vs:List Value) {d:TypeDesc} (hr:fn.results=#[.cell t T]) (ht:a.tmps.getD t undef=.pointer (some ⟨g,0,none⟩)) (hc:w.rangeAt g 0 vs) (hu:P.underlying T=some d) (hd:d.isRow=true) (hi:(P.info? T).map (·.size)=some vs.length) (h0:a.defers=[]) (hR:R (.returned (.agg vs.toArray)) w):bodyPost P fn R .ret a w:=by
 refine bodyPost_ret (v:=.agg vs.toArray) ?_ h0 hR
 have ht':a.tmps[t]?.getD undef=.pointer (some ⟨g,0,none⟩):=by rw [<- Array.getD_eq_getD_getElem?];exact ht
 simp [results,hr,ht',asAddr,run_loadVar_mid w g 0 T vs d hc hu hd hi]
structure RdW (lo:Nat) (w:World) (p:Nr):Prop where
 c:LnW lo w p.ca p.n.cs
 cl:p.n.cs.length≤p.cc
 r:LnW lo w p.ra p.n.rs
 rl:p.n.rs.length≤p.rc
theorem RdW.v {lo:Nat} {w:World} {p:Nr} (h:RdW lo w p):RdN w p:=⟨h.c.v,h.cl,h.r.v,h.rl⟩
theorem RdW.keep {lo:Nat} {w w':World} {p:Nr} (h:RdW lo w p) (hb:Below w.heap.size w w'):RdW lo w' p:=⟨h.c.keep hb,h.cl,h.r.keep hb,h.rl⟩
theorem RdW.mono {lo lo':Nat} {w:World} {p:Nr} (h:RdW lo w p) (hl:lo'≤lo):RdW lo' w p:=⟨h.c.mono hl,h.cl,h.r.mono hl,h.rl⟩
theorem RdW.sets {lo g:Nat} {w:World} {p:Nr} (h:RdW lo w p) (hg:g<lo) (o:Nat) (vs:List Value):RdW lo (w.setCells g o vs) p:=⟨h.c.same (fun k hk _=>heap_setCells_ne (by omega) _ _ _) (by rw [size_setCellsT];exact Nat.le_refl _),h.cl,h.r.same (fun k hk _=>heap_setCells_ne (by omega) _ _ _) (by rw [size_setCellsT];exact Nat.le_refl _),h.rl⟩
theorem RdW.set {lo g:Nat} {w:World} {p:Nr} (h:RdW lo w p) (hg:g<lo) (o:Nat) (v:Value):RdW lo (w.setCell ⟨g,o,none⟩ v) p:=⟨h.c.set hg v,h.cl,h.r.set hg v,h.rl⟩
def zeroNrF:Nr:=⟨⟨0,0,0,false,0,[],[],⟨0,0,0,false,false,false,0,0,0⟩,⟨0,0,0,0,0,0,0,0,0⟩,⟨0,0,0,0,0,0,0,0,0⟩⟩,none,0,none,0⟩
def reN (p:Nr) (a:Option Addr) (ac:Nat) (b:Option Addr) (bc:Nat):Nr:=⟨p.n,a,ac,b,bc⟩
theorem af_full {w:World} {g:Nat} {p:Nr} {T:TypeId} (h:w.heap[g]?=some (.cells (valsNr p).toArray T (0,0))) (a:Option Addr) (ac:Nat) (b:Option Addr) (bc:Nat):((w.setCell ⟨g,5,none⟩ (.slice a p.n.cs.length ac)).setCell ⟨g,6,none⟩ (.slice b p.n.rs.length bc)).heap[g]?=some (.cells (valsNr (reN p a ac b bc)).toArray T (0,0)):=putS (putS h _) _
theorem copied_v (p:Nr) (w:World) (h:RdN w p) (m1:p.n.cs.length≤1048576) (m2:p.n.rs.length≤1048576) :
  Calls Tryz.prog 90 #[.agg (valsNr p).toArray] w fun e w'=>(∃ q:Nr,e=.returned (.agg (valsNr q).toArray)∧q.n=p.n∧RdW w.heap.size w' q)∧Below w.heap.size w w':=by
 have HD:=hD h;clear h
 go_enter Tryz.func90,Tryz.ntmps90
 go_upto_region 1 with fail
 refine wp_genGG (fun W=>W.heap[w.heap.size]?=some (.cells (valsNr p).toArray 90 (0,0))∧(∃ z:Array Value,W.heap[w.heap.size+1]?=some (.cells z 90 (0,0))∧z.size=34)∧Below w.heap.size w W) ⟨(Below.heap_alloc _ _ _ (by simp)).trans (newS _ _),⟨_,by have:=newS (w.alloc (.cells (valsNr p).toArray 90)) (.cells (valsNr zeroNrF).toArray 90);rw [World.size_alloc] at this;exact this,rfl⟩,(balloc (Below.refl _ _)).trans ((balloc (Below.refl _ _)).mono (by simp))⟩ (fun W1 h1=>?_)
 obtain ⟨hn,⟨z,hz,hzs⟩,hb⟩:=h1;have hw1:w.heap.size+2≤W1.heap.size:=ltS hz;have HN:=hD hn;have HZ:=hD hz;have HB:=hD hb;replace HD:=hD (HD.out.keep hb);have x5:W1.cell? ⟨w.heap.size,5,none⟩=some (.slice p.ca p.n.cs.length p.cc):=cellS hn 5;have x6:W1.cell? ⟨w.heap.size,6,none⟩=some (.slice p.ra p.n.rs.length p.rc):=cellS hn 6;have lx:=ltS hn;clear hn hz hb;refine wp_region_any (by kernel_rfl) ?_
 refine wpAny_rxp 7 3 #[true,true,true,true,true,true,true,false,false,false] (by kernel_rfl) (by kernel_rfl) (XV (.pointer (some ⟨w.heap.size,5,none⟩)) :: XV (.slice p.ca p.n.cs.length p.cc) :: (fun v z=>LnR (w.heap.size+2) z v p.n.cs) :: XV (.pointer (some ⟨w.heap.size,6,none⟩)) :: XV (.slice p.ra p.n.rs.length p.rc) :: (fun v z=>LnR (w.heap.size+2) z v p.n.rs) :: XV (.pointer (some ⟨w.heap.size,5,none⟩)) :: []) (by kernel_rfl) (by kernel_rfl) ?hTs ?hops ?hfin
 case hTs =>
  intro T hT;simp only [List.mem_cons,List.not_mem_nil,or_false] at hT
  rcases hT with rfl | rfl | rfl | rfl | rfl | rfl | rfl <;> first | exact stay_V _ | exact stay_T | exact stay_of (fun v a b x g=>x.keep g) | exact stay_of (fun v a b x g=>x)
 case hops =>
  refine ⟨opOK_rx [(1,none)] (by kernel_rfl) rfl ?_,?_⟩
  ·intro act w' hw' h1;obtain ⟨hk,hf⟩:=evkf act;generalize act.eval=ρ at *;replace h1:ρ (.tmp 1)=.pointer (some ⟨w.heap.size,0,none⟩):=h1
   refine gxB hw' fun K hK hc hf'=>?_
   go_simp;exact hK _ _ ⟨rfl,Gr.refl _⟩
  refine ⟨opOK_rx [(3,some 0)] (by kernel_rfl) rfl ?_,?_⟩
  ·intro act w' hw' h1;obtain ⟨hk,hf⟩:=evkf act;generalize act.eval=ρ at *;replace h1:ρ (.tmp 3)=.pointer (some ⟨w.heap.size,5,none⟩):=h1
   refine gxB hw' fun K hK hc hf'=>?_
   go_simp;exact hK _ _ ⟨rfl,Gr.refl _⟩
  refine ⟨opOK_rx [(4,some 1)] (by kernel_rfl) rfl ?_,?_⟩
  ·intro act w' hw' h1;obtain ⟨hk,hf⟩:=evkf act;generalize act.eval=ρ at *;replace h1:ρ (.tmp 4)=.slice p.ca p.n.cs.length p.cc:=h1
   refine gxB hw' fun K hK hc hf'=>?_
   go_simp
   (refine (cloneLn_v p.ca p.cc _ p.n.cs _ (HD.out.c.keep (bdrewn hw'.out)) rfl m1).mono ?_);rintro e w1 ⟨⟨v,rfl,hv⟩,hb1⟩;exact ⟨_,rfl,hK _ _ ⟨hv.mono (Nat.le_trans hw1 (bdrewn hw'.out).size),hb1⟩⟩
  refine ⟨opOK_rx [(1,none)] (by kernel_rfl) rfl ?_,?_⟩
  ·intro act w' hw' h1;obtain ⟨hk,hf⟩:=evkf act;generalize act.eval=ρ at *;replace h1:ρ (.tmp 1)=.pointer (some ⟨w.heap.size,0,none⟩):=h1
   refine gxB hw' fun K hK hc hf'=>?_
   go_simp;exact hK _ _ ⟨rfl,Gr.refl _⟩
  refine ⟨opOK_rx [(6,some 3)] (by kernel_rfl) rfl ?_,?_⟩
  ·intro act w' hw' h1;obtain ⟨hk,hf⟩:=evkf act;generalize act.eval=ρ at *;replace h1:ρ (.tmp 6)=.pointer (some ⟨w.heap.size,6,none⟩):=h1
   refine gxB hw' fun K hK hc hf'=>?_
   go_simp;exact hK _ _ ⟨rfl,Gr.refl _⟩
  refine ⟨opOK_rx [(7,some 4)] (by kernel_rfl) rfl ?_,?_⟩
  ·intro act w' hw' h1;obtain ⟨hk,hf⟩:=evkf act;generalize act.eval=ρ at *;replace h1:ρ (.tmp 7)=.slice p.ra p.n.rs.length p.rc:=h1
   refine gxB hw' fun K hK hc hf'=>?_
   go_simp
   (refine (cloneLn_v p.ra p.rc _ p.n.rs _ (HD.out.r.keep (bdrewn hw'.out)) rfl m2).mono ?_);rintro e w1 ⟨⟨v,rfl,hv⟩,hb1⟩;exact ⟨_,rfl,hK _ _ ⟨hv.mono (Nat.le_trans hw1 (bdrewn hw'.out).size),hb1⟩⟩
  refine ⟨opOK_rx [(1,none)] (by kernel_rfl) rfl ?_,?_⟩
  ·intro act w' hw' h1;obtain ⟨hk,hf⟩:=evkf act;generalize act.eval=ρ at *;replace h1:ρ (.tmp 1)=.pointer (some ⟨w.heap.size,0,none⟩):=h1
   refine gxB hw' fun K hK hc hf'=>?_
   go_simp;exact hK _ _ ⟨rfl,Gr.refl _⟩
  exact trivial
 case hfin =>
  intro w1 hg1;intro v3 t3;replace t3:v3=.pointer (some ⟨w.heap.size,5,none⟩):=t3;subst t3;intro v4 t4;replace t4:v4=.slice p.ca p.n.cs.length p.cc:=t4;subst t4;intro v5 t5;replace t5:(fun v z=>LnR (w.heap.size+2) z v p.n.cs) v5 w1:=t5;intro v6 t6;replace t6:v6=.pointer (some ⟨w.heap.size,6,none⟩):=t6;subst t6;intro v7 t7;replace t7:v7=.slice p.ra p.n.rs.length p.rc:=t7;subst t7;intro v8 t8
  replace t8:(fun v z=>LnR (w.heap.size+2) z v p.n.rs) v8 w1:=t8;intro v9 t9;replace t9:v9=.pointer (some ⟨w.heap.size,5,none⟩):=t9;subst t9;have hb1:=bdrewn hg1.out;clear hg1;simp only [finP,List.take_succ_cons,List.take_zero,Act.put,List.setIfInBounds_toArray,List.set_cons_succ,List.set_cons_zero];obtain ⟨a,ac,rfl,la,lac⟩:=t5;obtain ⟨b,bc,rfl,lb,lbc⟩:=t8
  replace HN:=hD ((hb1.block _ lx).trans HN.out);replace HZ:=hD ((hb1.block _ (ltS HZ.out)).trans HZ.out);replace HB:=hD (bkeep2 HB.out hb1);have LA:=hD la;have LB:=hD lb;have f5:=frozenS HN.out 5;have f6:=frozenS HN.out 6;obtain ⟨y5,z5⟩:=thereS HN.out (i:=5) (by show 5<34;omega);obtain ⟨y6,z6⟩:=thereS HN.out (i:=6) (by show 6<34;omega);clear x5 x6 la lb hb1
  refine wpAny_one (i:=7) (by kernel_rfl) rfl rfl ?_;go_simp;refine wpAny_one (i:=8) (by kernel_rfl) rfl rfl ?_;go_simp;refine wpAny_one (i:=9) (by kernel_rfl) rfl rfl ?_;go_simp;refine wpAny_end (by kernel_rfl) ?_;simp only [Exit.then]
  go_step
  refine wp_genGG (fun W=>W.heap[w.heap.size]?=some (.cells (valsNr (reN p a ac b bc)).toArray 90 (0,0))∧(∃ z:Array Value,W.heap[w.heap.size+1]?=some (.cells z 90 (0,0))∧z.size=34)∧LnW (w.heap.size+2) W a p.n.cs∧LnW (w.heap.size+2) W b p.n.rs∧Below w.heap.size w W) ⟨af_full HN.out a ac b bc,⟨z,(Below.heap_setCell _ ⟨w.heap.size,_,none⟩ _ _ (by simp)).trans ((Below.heap_setCell _ ⟨w.heap.size,_,none⟩ _ _ (by simp)).trans HZ.out),hzs⟩,?_,?_,(HB.out.setCell (p:=⟨w.heap.size,_,none⟩) (by simp) _).setCell (p:=⟨w.heap.size,_,none⟩) (by simp) _⟩ (fun W2 h2=>?_)
  ·exact (LA.out.set (by omega) _).set (by omega) _
  ·exact (LB.out.set (by omega) _).set (by omega) _
  obtain ⟨hn,⟨z,hz,hzs⟩,hl1,hl2,hb⟩:=h2;have HN:=hD hn;have HZ:=hD hz;have HL1:=hD hl1;have HL2:=hD hl2;have HB:=hD hb;clear hn hz hl1 hl2 hb f5 f6 y5 z5 y6 z6 LA LB
  go_wp2_with (first|(refine ldN _ (reN p a ac b bc) w.heap.size 0 rfl rfl rfl (nodeAt HN.out) ?_)|(refine stN (.tmp 2) (.tmp 11) (reN p a ac b bc) (w.heap.size+1) 0 rfl rfl rfl rfl HZ.out (by rw [hzs];omega) ?_))
  have hbf:=below_setCells (B:=w.heap.size) (g:=w.heap.size+1) (by omega) (valsNr (reN p a ac b bc)) 0 _ HB.out;have hth:W2.there (w.heap.size+1) 0 (valsNr (reN p a ac b bc)).length:=thereB HZ.out (by rw [hzs];show 0+34≤34;omega)
  have hkl:∀ {X:Option Addr} {L:List Ln},LnW (w.heap.size+2) W2 X L→LnW w.heap.size (W2.setCells (w.heap.size+1) 0 (valsNr (reN p a ac b bc))) X L:=fun h=>(h.same (fun k hk _=>heap_setCells_ne (by omega) _ _ _) (by rw [size_setCellsT];exact Nat.le_refl _)).mono (by omega)
  refine afRet 2 90 (w.heap.size+1) (valsNr (reN p a ac b bc)) Tryz.results90 rfl (World.rangeAt_setCells_same _ _ _ _ hth) Tryz.underlying90 rfl (by rw [valsNr_len];kernel_rfl) rfl ⟨⟨_,rfl,rfl,⟨hkl HL1.out,lac,hkl HL2.out,lbc⟩⟩,hbf⟩
end
def PtN (w:World) (g n:Nat) (S:List Nr):Prop:=∃ cs:Array Value,w.heap[g]?=some (.cells cs 90 (0,0))∧cs.size=n*34∧∀ i q,S[i]?=some q→InS cs (i*34) (valsNr q)
theorem stCells {w:World} {b o:Nat} {q:Nr} {cs:Array Value} {T:TypeId} (h:w.heap[b]?=some (.cells cs T (0,0))) (hn:o+34≤cs.size):(storeCells ⟨b,o,none⟩ (valsNr q)).run Tryz.prog w=.ok () (w.setCells b o (valsNr q)):=by
 have ht:w.there b o 34:=thereB h hn
 have:=run_storeCells_cells (P:=Tryz.prog) b o (valsNr q) 0 w (fun j hj=>by rw [valsNr_len] at hj;simpa using (ht j hj).1) (fun j hj=>by rw [valsNr_len] at hj;simpa using (ht j hj).2) (valsNr_one q)
 simpa using this
theorem PtN.lt {w:World} {g n:Nat} {S:List Nr} (h:PtN w g n S):g<w.heap.size:=by obtain ⟨cs,hh,_⟩:=h;exact ltS hh
theorem PtN.keep {w w':World} {g n:Nat} {S:List Nr} (h:PtN w g n S) (hb:Below w.heap.size w w'):PtN w' g n S:=by
 obtain ⟨cs,hh,r⟩:=h;exact ⟨cs,(hb.block g (ltS hh)).trans hh,r⟩
theorem PtN.snoc {w:World} {g n k:Nat} {S:List Nr} (h:PtN w g n S) (hk:S.length=k) (hn:k<n) (q:Nr):PtN (w.setCells g (k*34) (valsNr q)) g n (S ++ [q]):=by
 obtain ⟨cs,hh,hs,hc⟩:=h;have e:(k+1)*34≤n*34:=Nat.mul_le_mul_right 34 hn;refine ⟨_,heap_setCells _ (k*34) _ _ hh,by rw [wrAt_size,hs],fun i u hu=>?_⟩
 by_cases hi:i<S.length
 ·rw [List.getElem?_append_left hi] at hu;exact (hc i u hu).keepS (.inl (by rw [valsNr_len];omega))
 ·rw [List.getElem?_append_right (by omega)] at hu;have h0:=(List.getElem?_eq_some_iff.1 hu).1
  simp at h0
  have hik:i=k:=by omega
  subst hik
  have:i-S.length=0:=by omega
  rw [this] at hu;obtain rfl:=Option.some.inj hu;exact InS.write (by rw [valsNr_len,hs];omega)
theorem map_snocN {R S:List Nr} {k:Nat} {p q:Nr} (h:S.map Nr.n=(R.take k).map Nr.n) (hp:R[k]?=some p) (hq:q.n=p.n):(S ++ [q]).map Nr.n=(R.take (k+1)).map Nr.n:=by
 have hk:=(List.getElem?_eq_some_iff.1 hp).1;rw [List.map_append,h,List.take_add_one,hp,List.map_append]
 simp [hq]
theorem each_copied (A:Option Addr) (c n:Nat) (R:List Nr) (w:World) (h:NrV w A R) (hr:RdR w R) (hn:n=R.length) (hL:n≤1048576) (hm:∀ p∈R,p.n.cs.length≤1048576∧p.n.rs.length≤1048576) :
  Calls Tryz.prog 89 #[.slice A n c,.func (.func 90) #[] #[]] w fun e w'=>(∃ g S,e=.returned (.slice (some ⟨g,0,none⟩) n n)∧w.heap.size≤g∧PtN w' g n S∧S.map Nr.n=R.map Nr.n∧∀ q∈S,RdW (g+1) w' q)∧Below w.heap.size w w':=by
 obtain ⟨fm,hfm,hmk0⟩:=madeK 28 90 34 (by omega) Tryz.underlying28 (by kernel_rfl)
 have hmk:=fun w=>hmk0 n w hL
 have HFM:=hD hfm;have HV:=hD h;have HR:=hD hr;have HN:=hD hn;have HM:=hD hm;clear hmk0 hfm h hr hm hn
 go_enter Tryz.func89,Tryz.ntmps89
 go_wp2_with fail
 clear hmk
 go_loopw [13] (fun i wr=>∃ (k:Nat) (S:List Nr),k≤n∧i=.int .i64 (k:Int)∧S.map Nr.n=(R.take k).map Nr.n∧S.length=k∧PtN wr w.heap.size n S∧(∀ q∈S,RdW (w.heap.size+1) wr q)∧Below w.heap.size w wr) (fun i _=>n-(intOf i).toNat)
 case atStart=>exact ⟨0,[],by omega,rfl,rfl,rfl,⟨_,newS _ _,HFM.out n,fun i q hq=>by simp at hq⟩,fun q hq=>by simp at hq,balloc (Below.refl _ _)⟩
 case round =>
  obtain ⟨k,S,hk,rfl,hS,hl,hP,hW,hB⟩:=hrel;have HS:=hD hS;have HP:=hD hP;have HW:=hD hW;have HB:=hD hB;have HSL:=hD hl;clear hS hP hW hB hl
  by_cases hlt:k<n
  ·have hd:decide ((k:Int)<(n:Int))=true:=by simpa using hlt
   have hkn:(k:Int)<(n:Int):=by omega
   have hkr:k<R.length:=by have:=HN.out;omega
   have hget:R[k]?=some R[k]:=List.getElem?_eq_getElem hkr;obtain ⟨b,off,rfl,hb,hp⟩:=HV.out.cells (by have:=HN.out;omega);have hLR:=rangeB (hp k _ hget) (HB.out.block b hb);have hrd:=(HR.out _ (List.mem_of_getElem? hget)).keep HB.out;have hmm:=HM.out _ (List.mem_of_getElem? hget);generalize R[k]=p at *;obtain ⟨m1,m2⟩:=hmm;have HLR:=hD hLR;have HD:=hD hrd;have HG:=hD hget;have lw:=HP.out.lt
   clear hLR hrd hget hp
   go_upto_region 5 with (first|(refine ldN _ p b (off+k*34) rfl rfl rfl HLR.out ?_)|(refine stN (.tmp 7) (.tmp 17) p wr.heap.size 0 rfl rfl rfl rfl (newS _ _) (by show (0+34:Nat)≤34;omega) ?_))
   refine wp_genGG (fun W=>W.heap[wr.heap.size]?=some (.cells (valsNr p).toArray 90 (0,0))∧Below wr.heap.size wr W) ⟨new_full p rfl rfl,below_setCells (Nat.le_refl _) _ _ _ (balloc (Below.refl _ _))⟩ (fun W h0=>?_);obtain ⟨hnn,hbb⟩:=h0;have HNN:=hD hnn;have lw1:w.heap.size<W.heap.size:=Nat.lt_of_lt_of_le lw hbb.size;replace HP:=hD (HP.out.keep hbb)
   replace HW:=hD (show ∀ q∈S,RdW (w.heap.size+1) W q from fun q hq=>(HW.out q hq).keep hbb);replace HD:=hD (HD.out.keep hbb);replace HB:=hD (bkeep2 HB.out hbb);clear hnn hbb HLR hd
   go_wp2_with (refine ldN _ p wr.heap.size 0 rfl rfl rfl (nodeAt HNN.out) ?_)
   with_reducible refine (copied_v p _ HD.out m1 m2).mono ?_
   rintro e W2 ⟨⟨q,rfl,hqn,hqd⟩,hb2⟩;replace HP:=hD (HP.out.keep hb2);replace HW:=hD (show ∀ q∈S,RdW (w.heap.size+1) W2 q from fun q hq=>(HW.out q hq).keep hb2);replace HB:=hD (bkeep2 HB.out hb2);have HQ:=hD (hqd.mono (lo':=w.heap.size+1) lw1);have HQN:=hD hqn;clear hb2 hqd hqn HNN
   obtain ⟨cs,hcs,hss⟩:∃ cs:Array Value,W2.heap[w.heap.size]?=some (.cells cs 90 (0,0))∧cs.size=n*34:=let ⟨cs,a,b,_⟩:=HP.out;⟨cs,a,b⟩;have HCS:=hD hcs
   have hle:k*34+34≤cs.size:=by rw [hss];omega
   have HLE:=hD hle;clear hcs hss hle;have hst:=stCells (q:=q) HCS.out HLE.out
   go_wp2_with fail
   clear hst;have hP2:=HP.out.snoc HSL.out hlt q
   have hW2:∀ u∈S ++ [q],RdW (w.heap.size+1) (W2.setCells w.heap.size (k*34) (valsNr q)) u:=fun u hu=>by
    rcases List.mem_append.1 hu with hu | hu
    ·exact (HW.out u hu).sets (by omega) _ _
    ·obtain rfl:=List.mem_singleton.1 hu;exact HQ.out.sets (by omega) _ _
   have hB2:Below w.heap.size w (W2.setCells w.heap.size (k*34) (valsNr q)):=below_setCells (Nat.le_refl _) _ _ _ HB.out
   have hl2:(S ++ [q]).length=k+1:=by rw [List.length_append,HSL.out];rfl
   have hm2:=map_snocN HS.out HG.out HQN.out;have HP2:=hD hP2;have HW2:=hD hW2;have HB2:=hD hB2;have HL2:=hD hl2;have HM2:=hD hm2;clear hP2 hW2 hB2 hl2 hm2 HP HW HB HCS;go_wp2
   go_roundw
   case rel=>exact ⟨k+1,S ++ [q],by omega,by go_num,HM2.out,HL2.out,HP2.out,HW2.out,HB2.out⟩
   case measure=>simp [intOf];omega
  ·have hd:decide ((k:Int)<(n:Int))=false:=decide_eq_false (by omega)
   obtain rfl:k=n:=by omega
   go_wp2;go_ret;exact ⟨⟨_,S,rfl,Nat.le_refl _,HP.out,by rw [HS.out,HN.out,List.take_length],HW.out⟩,HB.out⟩
def wishD (n:Nd) (u v:Int):Nd:={ n with ww:=u,hh:=v }
def askM (L:List Nd) (j:Nat) (u v:Int):List Nd:=match L[j]? with
 | some n=>L.set j (wishD n u v)
 | none=>L
theorem askM_at {L:List Nd} {j:Nat} {n:Nd} {u v:Int} (h:L[j]?=some n):askM L j u v=L.set j (wishD n u v):=by unfold askM;rw [h]
theorem askM_len (L:List Nd) (j:Nat) (u v:Int):(askM L j u v).length=L.length:=by
 unfold askM
 split
 ·rw [List.length_set]
 ·rfl
def wishR (p:Nr) (u v:Int):Nr:={ p with n:=wishD p.n u v }
theorem wish_cells {cs:Array Value} {o:Nat} {p:Nr} (h:InS cs o (valsNr p)) (hs:o+34≤cs.size) (u v:Int):InS ((cs.setIfInBounds (o+1) (.int .i64 u)).setIfInBounds (o+2) (.int .i64 v)) o (valsNr (wishR p u v)):=fun m x hm=>by
 match m with
 | 0=>rw [Array.getElem?_setIfInBounds_ne (by omega),Array.getElem?_setIfInBounds_ne (by omega)];exact h 0 x hm
 | 1 =>
  rw [Array.getElem?_setIfInBounds_ne (by omega),Array.getElem?_setIfInBounds_self_of_lt (by omega)];exact hm
 | 2 =>
  rw [Array.getElem?_setIfInBounds_self_of_lt (by rw [Array.size_setIfInBounds];omega)];exact hm
 | m+3 =>
  rw [Array.getElem?_setIfInBounds_ne (by omega),Array.getElem?_setIfInBounds_ne (by omega)];exact h (m+3) x hm
theorem PtN.wish {w:World} {g n j:Nat} {S:List Nr} {q:Nr} (h:PtN w g n S) (hq:S[j]?=some q) (hj:j<n) (u v:Int):PtN ((w.setCell ⟨g,j*34+1,none⟩ (.int .i64 u)).setCell ⟨g,j*34+2,none⟩ (.int .i64 v)) g n (S.set j (wishR q u v)):=by
 obtain ⟨cs,hh,hs,hc⟩:=h;have e:(j+1)*34≤n*34:=Nat.mul_le_mul_right 34 hj;refine ⟨_,putS (putS hh _) _,by rw [Array.size_setIfInBounds,Array.size_setIfInBounds,hs],fun i r hr=>?_⟩
 by_cases hi:i=j
 ·subst hi;rw [List.getElem?_set_self (List.getElem?_eq_some_iff.1 hq).1] at hr;obtain rfl:=Option.some.inj hr;exact wish_cells (hc i q hq) (by omega) u v
 ·rw [List.getElem?_set_ne (fun e=>hi e.symm)] at hr;intro m x hm;have hml:=(List.getElem?_eq_some_iff.1 hm).1;rw [valsNr_len] at hml;rw [Array.getElem?_setIfInBounds_ne (by omega),Array.getElem?_setIfInBounds_ne (by omega)];exact hc i r hr m x hm
theorem PtN.there {w:World} {g n j o:Nat} {S:List Nr} (h:PtN w g n S) (hj:j<n) (ho:o<34):(∃ v,w.cell? ⟨g,j*34+o,none⟩=some v)∧w.frozen? ⟨g,j*34+o,none⟩=false:=by
 obtain ⟨cs,hh,hs,_⟩:=h;have e:(j+1)*34≤n*34:=Nat.mul_le_mul_right 34 hj;exact ⟨thereS hh (by omega),frozenS hh _⟩
theorem PtN.v {w:World} {g n:Nat} {S:List Nr} (h:PtN w g n S):NrV w (some ⟨g,0,none⟩) S:=by
 obtain ⟨cs,hh,hs,hc⟩:=h;refine ⟨fun _=>⟨g,0,rfl,ltS hh,fun i p hp j v hj=>?_⟩⟩;simp only [Nat.zero_add];exact (cellS hh _).trans (hc i p hp j v hj)
def TrR (lo:Nat) (w:World) (v:Value) (L:List Nd):Prop:=∃ (A:Option Addr) (c:Nat) (S:List Nr),v=.agg #[.slice A S.length c]∧(0<S.length→∃ b off,A=some ⟨b,off,none⟩∧lo≤b∧b<w.heap.size∧∀ i p,S[i]?=some p→w.rangeAt b (off+i*34) (valsNr p))∧(∀ q∈S,RdW lo w q)∧S.map Nr.n=L
theorem TrR.same {lo:Nat} {w w':World} {v:Value} {L:List Nd} (h:TrR lo w v L) (hs:∀ b,lo≤b→b<w.heap.size→w'.heap[b]?=w.heap[b]?) (hl:w.heap.size≤w'.heap.size):TrR lo w' v L:=by
 obtain ⟨A,c,S,e,h1,h2,h3⟩:=h;refine ⟨A,c,S,e,fun h0=>?_,fun q hq=>⟨(h2 q hq).c.same hs hl,(h2 q hq).cl,(h2 q hq).r.same hs hl,(h2 q hq).rl⟩,h3⟩;obtain ⟨b,off,e,l1,l2,hp⟩:=h1 h0;exact ⟨b,off,e,l1,by omega,fun i p hi=>rangeB (hp i p hi) (hs b l1 l2)⟩
theorem TrR.set {lo g o:Nat} {w:World} {v x:Value} {L:List Nd} (h:TrR lo w v L) (hg:g<lo):TrR lo (w.setCell ⟨g,o,none⟩ x) v L:=h.same (fun b h1 _=>Below.heap_setCell _ ⟨g,o,none⟩ _ _ (by simp;omega)) (by simp [World.setCell])
theorem TrR.mono {lo lo':Nat} {w:World} {v:Value} {L:List Nd} (h:TrR lo w v L) (hl:lo'≤lo):TrR lo' w v L:=by
 obtain ⟨A,c,S,e,h1,h2,h3⟩:=h;exact ⟨A,c,S,e,fun h0=>let ⟨b,off,e,l1,l2⟩:=h1 h0;⟨b,off,e,by omega,l2⟩,fun q hq=>(h2 q hq).mono hl,h3⟩
theorem TrR.open {lo:Nat} {w:World} {v:Value} {L:List Nd} (h:TrR lo w v L):∃ (A:Option Addr) (c:Nat) (S:List Nr),v=.agg #[.slice A S.length c]∧NrV w A S∧RdR w S∧S.map Nr.n=L:=by
 obtain ⟨A,c,S,e,h1,h2,h3⟩:=h;exact ⟨A,c,S,e,⟨fun h0=>let ⟨b,off,e,l1,l2,hp⟩:=h1 h0;⟨b,off,e,l2,hp⟩⟩,fun q hq=>(h2 q hq).v,h3⟩
theorem PtN.tree {w:World} {lo g n:Nat} {S:List Nr} {L:List Nd} (h:PtN w g n S) (hg:lo≤g) (hn:S.length=n) (hr:∀ q∈S,RdW lo w q) (hL:S.map Nr.n=L):TrR lo w (.agg #[.slice (some ⟨g,0,none⟩) n n]) L:=by
 subst hn;obtain ⟨cs,hh,hs,hc⟩:=h;refine ⟨some ⟨g,0,none⟩,S.length,S,rfl,fun _=>⟨g,0,rfl,hg,ltS hh,fun i p hp j v hj=>?_⟩,hr,hL⟩;simp only [Nat.zero_add];exact (cellS hh _).trans (hc i p hp j v hj)
theorem map_wish {R S:List Nr} (h:S.map Nr.n=R.map Nr.n) {j:Nat} {q:Nr} (hq:S[j]?=some q) (u v:Int):(S.set j (wishR q u v)).map Nr.n=askM (R.map Nr.n) j u v:=by
 rw [askM_at (n:=q.n) (by rw [<- h,List.getElem?_map,hq];rfl),<- h,List.map_set]
 rfl
theorem asking_v (A:Option Addr) (c k:Nat) (R:List Nr) (j:Nat) (u v:Int) (w:World) (hk:k=R.length) (h:NrV w A R) (hr:RdR w R) (hL:R.length≤1048576) (hm:∀ p∈R,p.n.cs.length≤1048576∧p.n.rs.length≤1048576) (hj:j<R.length) :
  Calls Tryz.prog 60 #[.agg #[.slice A k c],.int .i64 j,.int .i64 u,.int .i64 v] w fun e w'=>(∃ x,e=.returned x∧TrR w.heap.size w' x (askM (R.map Nr.n) j u v))∧Below w.heap.size w w':=by
 have hB0:Below w.heap.size w ((w.alloc (.cells #[.slice A k c] 30 (0,0))).alloc (.cells #[.slice none 0 0] 30 (0,0))):=(balloc (Below.refl _ _)).trans ((balloc (Below.refl _ _)).mono (by simp))
 have HX:=hD (show ((w.alloc (.cells #[.slice A k c] 30 (0,0))).alloc (.cells #[.slice none 0 0] 30 (0,0))).heap[w.heap.size]?=some (.cells #[.slice A k c] 30 (0,0)) from (Below.heap_alloc _ _ _ (by simp)).trans (newS _ _))
 have HY:=hD (show ((w.alloc (.cells #[.slice A k c] 30 (0,0))).alloc (.cells #[.slice none 0 0] 30 (0,0))).heap[w.heap.size+1]?=some (.cells #[.slice none 0 0] 30 (0,0)) from by have:=newS (w.alloc (.cells #[.slice A k c] 30 (0,0))) (.cells #[.slice none 0 0] 30 (0,0));rw [World.size_alloc] at this;exact this);have HB:=hD hB0;have HV:=hD (h.keep hB0);have HR:=hD (hr.keep hB0);have HM:=hD hm
 have HK:=hD hk;have x0:=cellS HX.out 0
 have hkl:k≤1048576:=by omega
 clear hB0 h hr hm hk
 go_enter Tryz.func60,Tryz.ntmps60
 go_wp2_with fail
 with_reducible refine (each_copied A c k R _ HV.out HR.out HK.out hkl HM.out).mono ?_
 rintro e W1 ⟨⟨g,S,rfl,hg,hP,hS,hW⟩,hb⟩;clear x0;replace HX:=hbk hb HX;replace HY:=hbk hb HY;replace HB:=hD (bkeep2 HB.out hb);clear hb
 have hsl:S.length=k:=by have:=congrArg List.length hS;rw [List.length_map,List.length_map] at this;have:=HK.out;omega
 have hjk:j<k:=by have:=HK.out;omega
 have hjl:(j:Int)<(k:Int):=by omega
 have hq:S[j]?=some S[j]:=List.getElem?_eq_getElem (by omega);generalize S[j]=q at *;obtain ⟨⟨c1,y1⟩,f1⟩:=hP.there (o:=1) hjk (by omega);obtain ⟨⟨c2,y2⟩,f2⟩:=hP.there (o:=2) hjk (by omega);have lg:=hP.lt;have ly:=ltS HY.out
 have hgy:w.heap.size+2≤g:=by simpa using hg
 have HP:=hD hP;have HW:=hD hW;have HS:=hD hS;have HQ:=hD hq;have HSL:=hD hsl;clear hP hS hW hg hq hsl
 go_upto_region 3 with fail
 refine wp_genGG (fun W=>PtN W g k (S.set j (wishR q u v))∧(∀ r∈S,RdW (g+1) W r)∧W.heap[w.heap.size+1]?=some (.cells #[.slice none 0 0] 30 (0,0))∧Below w.heap.size w W) ⟨HP.out.wish HQ.out hjk u v,fun r hr=>((HW.out r hr).set (by omega) _ _).set (by omega) _ _,(Below.heap_setCell _ ⟨g,_,none⟩ _ _ (by simp;omega)).trans ((Below.heap_setCell _ ⟨g,_,none⟩ _ _ (by simp;omega)).trans HY.out),(HB.out.setCell (p:=⟨g,_,none⟩) (by simp;omega) _).setCell (p:=⟨g,_,none⟩) (by simp;omega) _⟩ (fun W2 h2=>?_)
 obtain ⟨hP,hW,hY,hB⟩:=h2;have z0:=cellS hY 0;have fz:=frozenS hY 0;have HP2:=hD hP;have HW2:=hD hW;have HB2:=hD hB;clear hP hW hY hB y1 y2 f1 f2 HP HW HB;go_wp2;have lg2:=HP2.out.lt
 have hTR:TrR (w.heap.size+2) W2 (.agg #[.slice (some ⟨g,0,none⟩) k k]) (askM (R.map Nr.n) j u v):=HP2.out.tree hgy (by rw [List.length_set,HSL.out]) (fun r hr=>by
  rcases List.mem_or_eq_of_mem_set hr with hr | rfl
  ·exact (HW2.out r hr).mono (by omega)
  ·have:=(HW2.out q (List.mem_of_getElem? HQ.out)).mono (lo':=w.heap.size+2) (by omega)
   exact ⟨this.c,this.cl,this.r,this.rl⟩) (map_wish HS.out HQ.out u v)
 exact bodyPost_ret (v:=.agg #[.slice (some ⟨g,0,none⟩) k k]) (by simp only [results,Tryz.results60];go_simp) rfl ⟨⟨_,rfl,(hTR.set (by omega)).mono (by omega)⟩,HB2.out.setCell (p:=⟨w.heap.size+1,_,none⟩) (by simp) _⟩
def askB (L:List Nd) (k:Nat) (i u v:Int):Bool:=(treeB L&&rng i 0 ((k:Int)-1))&&(rng u 0 30&&rng v 0 30)
theorem AskFor_yes (A:Option Addr) (c k:Nat) (R:List Nr) (j:Nat) (u v:Int) (w:World) (hk:k=R.length) (h:NrV w A R) (hr:RdR w R) (hL:R.length≤1048576) (hm:∀ p∈R,p.n.cs.length≤1048576∧p.n.rs.length≤1048576) (ht:treeB (R.map Nr.n)=true) (hj:j<R.length) (hw:(rng u 0 30&&rng v 0 30)=true) :
  Calls Tryz.prog 32 #[.agg #[.slice A k c],.int .i64 j,.int .i64 u,.int .i64 v] w fun e w'=>(∃ x,e=.returned (.tuple #[x,.bool true])∧TrR w.heap.size w' x (askM (R.map Nr.n) j u v))∧Below w.heap.size w w':=by
 have hkl:k≤1048576:=by omega
 have hB0:Below w.heap.size w ((w.alloc (.cells #[.slice A k c] 30 (0,0))).alloc (.cells #[.slice none 0 0] 30 (0,0))):=(balloc (Below.refl _ _)).trans ((balloc (Below.refl _ _)).mono (by simp))
 have HX:=hD (show ((w.alloc (.cells #[.slice A k c] 30 (0,0))).alloc (.cells #[.slice none 0 0] 30 (0,0))).heap[w.heap.size]?=some (.cells #[.slice A k c] 30 (0,0)) from (Below.heap_alloc _ _ _ (by simp)).trans (newS _ _))
 have HY:=hD (show ((w.alloc (.cells #[.slice A k c] 30 (0,0))).alloc (.cells #[.slice none 0 0] 30 (0,0))).heap[w.heap.size+1]?=some (.cells #[.slice none 0 0] 30 (0,0)) from by have:=newS (w.alloc (.cells #[.slice A k c] 30 (0,0))) (.cells #[.slice none 0 0] 30 (0,0));rw [World.size_alloc] at this;exact this);have HB:=hD hB0;have HV:=hD (h.keep hB0);have HR:=hD (hr.keep hB0);have HM:=hD hm
 have HK:=hD hk;have HT:=hD ht;have HWI:=hD hw;have HBB:=hD (show rng (j:Int) 0 ((k:Int)-1)=true by rw [rng_iff];omega);have x0:=cellS HX.out 0;clear hB0 h hr hm hk ht hw
 go_enter Tryz.func32,Tryz.ntmps32
 go_wp2_with fail
 with_reducible refine (ValidTree_n A c k R true _ HK.out HV.out HR.out hL HM.out HT.out).mono ?_
 rintro e w1 ⟨rfl,hb⟩;clear x0;replace HX:=hbk hb HX;replace HY:=hbk hb HY;replace HV:=hD (HV.out.keep hb);replace HR:=hD (HR.out.keep hb);replace HB:=hD (bkeep2 HB.out hb);clear hb;have x0:=cellS HX.out 0
 go_wp2_with fail
 with_reducible refine (has_v A c k j true _ hkl HBB.out).mono ?_
 rintro e w2 ⟨rfl,hb⟩;clear x0;replace HX:=hbk hb HX;replace HY:=hbk hb HY;replace HV:=hD (HV.out.keep hb);replace HR:=hD (HR.out.keep hb);replace HB:=hD (bkeep2 HB.out hb);clear hb;have x0:=cellS HX.out 0
 go_wp2_with fail
 with_reducible refine (validWish_w u v true _ HWI.out).mono ?_
 rintro e w3 ⟨rfl,rfl⟩;have hlo3:w.heap.size+2≤w2.heap.size:=ltS HY.out
 go_wp2_with fail
 with_reducible refine (asking_v A c k R j u v _ HK.out HV.out HR.out hL HM.out hj).mono ?_
 rintro e w4 ⟨⟨x,rfl,hx⟩,hb⟩;clear x0;replace HY:=hbk hb HY;replace HB:=hD (bkeep2 HB.out hb);clear hb;have y0:=cellS HY.out 0;have fy:=frozenS HY.out 0;have ly:=ltS HY.out;have hw4:w.heap.size+1<w4.heap.size:=ly;have hx2:=hx.mono (lo':=w.heap.size+2) hlo3;obtain ⟨A2,c2,S,rfl,-⟩:=hx.open;have HT4:=hD hx2;clear hx hx2;go_wp2
 exact bodyPost_ret (v:=.tuple #[.agg #[.slice A2 S.length c2],.bool true]) (by simp only [results,Tryz.results32];go_simp) rfl ⟨⟨_,rfl,(HT4.out.set (by omega)).mono (by omega)⟩,HB.out.setCell (p:=⟨w.heap.size+1,_,none⟩) (by simp) _⟩
def afVals:List Nr→List Value
 | []=>[]
 | p :: t=>valsNr p ++ afVals t
theorem afVals_append (A B:List Nr):afVals (A ++ B)=afVals A ++ afVals B:=by
 induction A with
 | nil=>rfl
 | cons p A ih=>simp only [List.cons_append,afVals,ih,List.append_assoc]
theorem afVals_snoc (L:List Nr) (p:Nr):afVals L ++ valsNr p=afVals (L ++ [p]):=by rw [afVals_append];simp [afVals]
theorem afVals_get:∀ {M:List Nr} {i:Nat} {r:Nr},M[i]?=some r→∀ j,j<34→(afVals M)[i*34+j]?=(valsNr r)[j]?
 | [],i,r,h,_,_=>by simp at h
 | q :: t,0,r,h,j,hj=>by
  simp at h;subst h
  show (valsNr q ++ afVals t)[0*34+j]?=_
  rw [List.getElem?_append_left (by rw [valsNr_len];omega)];simp
 | q :: t,i+1,r,h,j,hj=>by
  show (valsNr q ++ afVals t)[(i+1)*34+j]?=_
  rw [List.getElem?_append_right (by rw [valsNr_len];omega)]
  have:=afVals_get (M:=t) (i:=i) (r:=r) (by simpa using h) j hj
  rw [<- this];congr 1;rw [valsNr_len];omega
theorem afNrInfo:∃ (i:TypeInfo) (z:Value),Tryz.prog.info? 90=some i∧i.zero=some z∧i.size=34∧i.bytes=288∧z.cells.size=34:=by
 have h:(Tryz.prog.info? 90).map (fun i=>(i.size,i.bytes,i.zero.map (fun z=>z.cells.size)))=some (34,288,some 34):=by kernel_rfl
 cases hq:Tryz.prog.info? 90 with
 | none=>rw [hq] at h;cases h
 | some i =>
  rw [hq] at h;simp only [Option.map_some,Option.some.injEq,Prod.mk.injEq] at h;obtain ⟨e1,e2,e3⟩:=h
  cases hz:i.zero with
  | none=>rw [hz] at e3;cases e3
  | some z=>rw [hz] at e3;simp only [Option.map_some,Option.some.injEq] at e3;exact ⟨i,z,rfl,hz,e1,e2,e3⟩
theorem afNew34 (W:World) (p:Nr) (T:TypeId):∀ (j:Nat) (u:Value),(valsNr p)[j]?=some u→(W.alloc (.cells (valsNr p).toArray T)).cell? ((⟨W.heap.size,0,none⟩:Addr).add j)=some u:=fun j u h=>by
 have hadd:(⟨W.heap.size,0,none⟩:Addr).add j=⟨W.heap.size,j,none⟩:=by unfold Addr.add;split <;> simp_all
 rw [hadd];exact (cellS (newS W _) j).trans (by simpa using h)
theorem afRunBs (p:Nr) (w:World):(Instr.buildSlice 28 1 #[(0,.agg (valsNr p).toArray)]).run Tryz.prog w=.ok (.slice (some ⟨w.heap.size,0,none⟩) 1 1) (w.alloc (.cells (valsNr p).toArray 90)):=by kernel_rfl
def AfLn (W:World) (A:Option Addr) (L:List Ln):Prop:=L=[]∨∃ (g:Nat) (cs:Array Value),A=some ⟨g,0,none⟩∧W.heap[g]?=some (.cells cs 157 (0,0))∧∀ (i:Nat) (x:Ln),L[i]?=some x→InS cs (i*2) (valsLn x)
theorem AfLn.v {W:World} {A:Option Addr} {L:List Ln} (h:AfLn W A L):LnV W A L:=by
 rcases h with rfl | ⟨g,cs,rfl,hh,hc⟩
 ·exact LnV.nil _ _
 ·refine ⟨fun _=>⟨g,0,rfl,ltS hh,fun i p hi=>?_⟩⟩;have h:=hc i p hi;simp only [Nat.zero_add];exact ⟨(cellS hh _).trans (h 0 _ rfl),(cellS hh _).trans (h 1 _ rfl)⟩
def AfKp (W W':World):Prop:=∀ (g:Nat) (cs:Array Value),W.heap[g]?=some (.cells cs 157 (0,0))→W'.heap[g]?=W.heap[g]?
theorem AfKp.trans {A B C:World} (h:AfKp A B) (k:AfKp B C):AfKp A C:=fun g cs e=>(k g cs ((h g cs e).trans e)).trans (h g cs e)
theorem AfLn.kp {W W':World} {A:Option Addr} {L:List Ln} (h:AfLn W A L) (hk:AfKp W W'):AfLn W' A L:=h.imp id fun ⟨g,cs,e,hh,hc⟩=>⟨g,cs,e,(hk g cs hh).trans hh,hc⟩
theorem AfKp.below {W W':World} (hb:Below W.heap.size W W'):AfKp W W':=fun g cs e=>hb.block g (ltS e)
theorem AfKp.grown {W W':World} {ob:Option Nat} (hg:W.grownBy W' ob) (ho:∀ g cs,W.heap[g]?=some (.cells cs 157 (0,0))→some g≠ob):AfKp W W':=fun g cs e=>hg.block g (ltS e) (ho g cs e)
theorem afOwnTree {W:World} {lo n b:Nat} {v:Value} {xs:List Value} {cs:Array Value} (h:W.ownsRow lo 90 34 v n xs) (hb:W.heap[b]?=some (.cells cs 30 (0,0))) (u:Value):(W.setCell ⟨b,0,none⟩ u).ownsRow lo 90 34 v n xs :=
 h.kept (row:=some b) (gsetS (greflS W b) 0 u) (by
  rcases h.2 with ⟨rfl,_⟩ | ⟨g',cap,cur,rfl,_,hg',_⟩
  ·exact .inl rfl
  ·refine .inr (fun e=>?_)
   have:g'=b:=by simpa [Value.ownBlock] using e
   subst this;rw [hb] at hg'
   have:=Option.some.inj hg'
   simp at this)
theorem afKpTree {W:World} {b:Nat} {cs:Array Value} (hb:W.heap[b]?=some (.cells cs 30 (0,0))) (u:Value):AfKp W (W.setCell ⟨b,0,none⟩ u) :=
 AfKp.grown (gsetS (greflS W b) 0 u) (fun g cs' e e'=>by cases e';rw [hb] at e;have:=Option.some.inj e;simp at this)
theorem afOwnNr {w:World} {base n:Nat} {v:Value} {R:List Nr} (h:w.ownsRow base 90 34 v n (afVals R)) (hn:n=R.length):(v=.slice none 0 0∧R=[])∨∃ (g cap:Nat) (cs:Array Value),v=.slice (some ⟨g,0,none⟩) n cap∧base≤g∧n≤cap∧w.heap[g]?=some (.cells cs 90 (0,0))∧cs.size=cap*34∧∀ (i:Nat) (r:Nr),R[i]?=some r→InS cs (i*34) (valsNr r):=by
 rcases h.2 with ⟨rfl,h0⟩ | ⟨g,cap,cur,rfl,hb,hg,hc,_,hs,ht⟩
 ·exact .inl ⟨rfl,List.length_eq_zero_iff.1 (by omega)⟩
 ·refine .inr ⟨g,cap,cur,rfl,hb,hc,hg,hs,fun i r hr j u hj=>?_⟩;have hi:i<R.length:=(List.getElem?_eq_some_iff.1 hr).1
  have hj34:j<34:=by have:=(List.getElem?_eq_some_iff.1 hj).1;rwa [valsNr_len] at this
  have e:=(afVals_get hr j hj34).trans hj;rw [<- ht,List.getElem?_take,if_pos (by omega)] at e
  simpa using e
theorem run_apNil (g c:Nat) (ty:TypeId) (w:World):(Builtin.append_ #[85,85] ty #[.slice (some ⟨g,0,none⟩) 0 0,.slice none 0 c]).run Tryz.prog w=.ok (.slice (some ⟨g,0,none⟩) 0 0) w:=by
 obtain ⟨ti,tz,ti1,ti2,ti3,ti4,ti5⟩:=line_info
 simp [Builtin.append_,run_underlying Tryz.underlying85,sizeOf,typeInfo,ti1,Builtin.lenOf,Builtin.firstCells,storeCells]
theorem afKpNode {W:World} {b:Nat} {cs:Array Value} (hb:W.heap[b]?=some (.cells cs 90 (0,0))) (o:Nat) (u:Value):AfKp W (W.setCell ⟨b,o,none⟩ u):=fun g cs' e=>Below.heap_setCell _ ⟨b,o,none⟩ _ _ (fun hgb=>by
 subst hgb;rw [hb] at e
 have:=Option.some.inj e
 simp only [Obj.cells.injEq] at this
 exact absurd this.2.1 (by decide))
theorem afStep {wr W w1:World} {g o:Nat} {p q:Nr} {u:Value} (hB:Below wr.heap.size wr W) (hg:wr.heap.size=g) (hN:w1.heap[g]?=some (.cells (valsNr p).toArray 90 (0,0))) (hg1:(W.alloc (.cells #[] 157 (0,0))).grownBy w1 (some W.heap.size)) (he:((valsNr p).toArray.setIfInBounds o u)=(valsNr q).toArray) :
  (w1.setCell ⟨g,o,none⟩ u).heap[g]?=some (.cells (valsNr q).toArray 90 (0,0))∧AfKp w1 (w1.setCell ⟨g,o,none⟩ u)∧Below wr.heap.size wr (w1.setCell ⟨g,o,none⟩ u):=by
 have hk:∀ k,(Value.slice (some ⟨W.heap.size,0,none⟩) 0 0).ownBlock=some k→wr.heap.size≤k∧k<W.heap.size+1:=fun k hk=>by
  have e:W.heap.size=k:=by simpa [Value.ownBlock] using hk
  have:=hB.size
  omega
 refine ⟨?_,afKpNode hN _ _,?_⟩
 ·rw [<- he];exact putS hN _
 ·exact (below_own (v:=.slice (some ⟨W.heap.size,0,none⟩) 0 0) hB hg1 (lo:=wr.heap.size) (hi:=W.heap.size+1) hk (Nat.le_refl _) (Nat.le_refl _)).setCell (p:=⟨g,o,none⟩) (by simp;omega) _
theorem afKp2 {W w2:World} {ob:Obj} (hg:(W.alloc ob).grownBy w2 (some W.heap.size)):AfKp W w2:=fun g cs hgc=>by
 have h1:=ltS hgc;exact (hg.block g (by simp;omega) (by simp;omega)).trans (Below.heap_alloc _ _ g h1)
def LnQ (w:World) (v:Value) (L:List Ln):Prop:=∃ A c,v=.slice A L.length c∧L.length≤c∧AfLn w A L
theorem apLn {ops:Array Oper} {rest:List Oper} {o:Oper} {a:Act} {w:World} {Q:Exit→Act→World→Prop} (s x:Operand) (L:List Ln) (A:Option Addr) (c g:Nat) (hgd:o.guard=none)
  (ho:o.op=.call { callee:=.builtin .append,args:=#[s,x],argTypes:=#[85,85] }) (hs:a.eval s=.slice (some ⟨g,0,none⟩) 0 0) (hx:a.eval x=.slice A L.length c)
  (he:w.heap[g]?=some (.cells #[] 157 (0,0))) (hv:LnV w A L) (hL:L.length≤1048576)
  (h:∀ v' w',LnQ w' v' L→w.grownBy w' (some g)→wpList Tryz.prog ops Q rest (a.put o.dst v') w'):wpList Tryz.prog ops Q (o :: rest) a w:=by
 obtain ⟨ti,tz,ti1,ti2,ti3,ti4,ti5⟩:=line_info
 cases A with
 | none =>
  obtain rfl:=hv.none_nil
  refine wpList_plain hgd fun K hK=>?_
  have hrun:=run_apNil g c o.type w;unfold Oper.wp
  simp [execOp,ho,resolve,invoke,builtin,hs,hx,hrun,Result.andThen]
  exact hK _ _ (h _ _ ⟨some ⟨g,0,none⟩,0,rfl,Nat.le_refl _,.inl rfl⟩ (World.grownBy.refl w _))
 | some ad =>
  have hown:w.ownsRow 0 157 2 (.slice (some ⟨g,0,none⟩) 0 0) 0 []:=⟨rfl,.inr ⟨g,0,#[],rfl,Nat.zero_le _,he,Nat.le_refl _,Nat.zero_le _,rfl,rfl⟩⟩
  refine wpList_append_own w hgd s x 85 ho 0 157 ti tz 2 16 Tryz.underlying85 ti1 ti2 ti3 ti4 ti5 (by decide) _ _ _ hs hown ad L.length c (lvals L) hx (lvals_len L) (fun j u hj=>?_) (lvals_one L) (by simp only [maxLen];omega) (by omega) (Nat.zero_le _) (fun v' w' hown hgr _=>h v' w' ?_ hgr)
  ·by_cases hl:0<L.length
   ·obtain ⟨b,off,e,hb,hp⟩:=hv.cells hl;obtain rfl:=Option.some.inj e;exact ln_src hb hp (Below.refl _ _) j u hj
   ·obtain rfl:L=[]:=List.length_eq_zero_iff.1 (by omega)
    simp [lvals] at hj
  ·rw [List.nil_append,Nat.zero_add] at hown;obtain ⟨A',c',e,hr,hc⟩:=afOwn hown (by rw [List.length_map]) (fun vs hv=>by obtain ⟨p,_,rfl⟩:=List.mem_map.1 hv;rfl)
   rcases hown.2 with ⟨e2,h0⟩ | ⟨g2,cap,cur,e2,hb,hg,hcc,_,hs2,ht⟩
   ·obtain rfl:L=[]:=List.length_eq_zero_iff.1 h0;exact ⟨none,0,e2,Nat.le_refl _,.inl rfl⟩
   ·refine ⟨_,cap,e2,hcc,.inr ⟨g2,cur,rfl,hg,fun i p hi j u hj=>?_⟩⟩;have e3:=afFlat (k:=2) (R:=L.map valsLn) (fun vs hv=>by obtain ⟨p,_,rfl⟩:=List.mem_map.1 hv;rfl) (i:=i) (j:=j) (vs:=valsLn p) (u:=u) (by rw [List.getElem?_map,hi];rfl) hj;have e4:(lvals L)[i*2+j]?=some u:=e3;rw [<- ht,List.getElem?_take] at e4
    split at e4
    ·simpa using e4
    ·cases e4
structure NK (W:World) (p:Nr):Prop where
 c:AfLn W p.ca p.n.cs
 r:AfLn W p.ra p.n.rs
 cl:p.n.cs.length≤p.cc
 rl:p.n.rs.length≤p.rc
theorem NK.kp {W W':World} {p:Nr} (h:NK W p) (hk:AfKp W W'):NK W' p:=⟨h.c.kp hk,h.r.kp hk,h.cl,h.rl⟩
theorem NK.rd {W:World} {p:Nr} (h:NK W p):RdN W p:=⟨h.c.v,h.cl,h.r.v,h.rl⟩
theorem afBs {ops:Array Oper} {rest:List Oper} {op:Oper} {a:Act} {w:World} {Q:Exit→Act→World→Prop} (x:Operand) (p:Nr) (hgd:op.guard=none) (ho:op.op=.buildSlice 28 1 #[(0,x)]) (hx:a.eval x=.agg (valsNr p).toArray)
  (h:wpList Tryz.prog ops Q rest (a.put op.dst (.slice (some ⟨w.heap.size,0,none⟩) 1 1)) (w.alloc (.cells (valsNr p).toArray 90))):wpList Tryz.prog ops Q (op :: rest) a w :=
 wpList_plain hgd fun _ hK=>by
  unfold Oper.wp execOp;simp only [ho];rw [show ((#[(0,x)]:Array (Nat × Operand)).map fun (i,x)=>(i,a.eval x))=#[(0,.agg (valsNr p).toArray)] from by simp [hx]];simp only [Sem.run_bind,afRunBs,Result.andThen_ok];exact hK _ _ h
theorem own_nd {W:World} {lo n b:Nat} {v:Value} {xs:List Value} {cs:Array Value} {T:TypeId} (h:W.ownsRow lo 90 34 v n xs) (hb:W.heap[b]?=some (.cells cs T (0,0))) (hT:T≠90):some b≠v.ownBlock:=by
 rcases h.2 with ⟨rfl,_⟩ | ⟨g,cap,cur,rfl,_,hg,_⟩
 ·simp [Value.ownBlock]
 ·intro e
  obtain rfl:b=g:=by simpa [Value.ownBlock] using e
  rw [hg] at hb
  have:=Option.some.inj hb
  simp only [Obj.cells.injEq] at this;exact hT this.2.1.symm
def TrK (lo:Nat) (w:World) (v:Value) (L:List Nd):Prop:=∃ (A:Option Addr) (c:Nat) (S:List Nr),v=.agg #[.slice A S.length c]∧(∃ g cap,A=some ⟨g,0,none⟩∧lo≤g∧PtN w g cap S)∧(∀ q∈S,NK w q)∧S.map Nr.n=L
theorem TrK.open {lo:Nat} {w:World} {v:Value} {L:List Nd} (h:TrK lo w v L):∃ (A:Option Addr) (c:Nat) (S:List Nr),v=.agg #[.slice A S.length c]∧NrV w A S∧RdR w S∧S.map Nr.n=L:=by
 obtain ⟨A,c,S,e,⟨g,cap,e2,h1,h2⟩,h3,h4⟩:=h;subst e2;exact ⟨_,c,S,e,h2.v,fun q hq=>(h3 q hq).rd,h4⟩
structure RzS (w:World) (A:Option Addr) (c k:Nat) (R:List Nr) (m:Nat) (S:List Nr) (vo:Value) (W:World):Prop where
 t:W.heap[w.heap.size]?=some (.cells #[.slice A k c] 30 (0,0))
 r:W.heap[w.heap.size+1]?=some (.cells #[.slice none 0 0] 30 (0,0))
 o:W.heap[w.heap.size+1+1+1]?=some (.cells #[vo] 30 (0,0))
 own:W.ownsRow (w.heap.size+2) 90 34 vo m (afVals S)
 nk:∀ q∈S,NK W q
 l:Below w.heap.size w W
theorem RzS.keep {w W W':World} {A:Option Addr} {c k m:Nat} {R S:List Nr} {vo:Value} (h:RzS w A c k R m S vo W) (hb:Below W.heap.size W W'):RzS w A c k R m S vo W' :=
 ⟨(hb.block _ (ltS h.t)).trans h.t,(hb.block _ (ltS h.r)).trans h.r,(hb.block _ (ltS h.o)).trans h.o,h.own.kept (row:=none) ⟨hb.os,hb.tape,hb.output,hb.size,fun k hk _=>hb.block k hk⟩ (by cases vo.ownBlock <;> simp),fun q hq=>(h.nk q hq).kp (AfKp.below hb),bkeep2 h.l hb⟩
theorem RzS.add {w W w5:World} {A:Option Addr} {c k m:Nat} {R S:List Nr} {vo v':Value} {q:Nr} {ob:Obj} (h:RzS w A c k R m S vo W) (hq:NK W q) (hg:(W.alloc ob).grownBy w5 vo.ownBlock) (ho:w5.ownsRow (w.heap.size+2) 90 34 v' (m+1) (afVals S ++ valsNr q)) :
  RzS w A c k R (m+1) (S ++ [q]) v' (w5.setCell ⟨w.heap.size+1+1+1,0,none⟩ v')∧w5.heap[w.heap.size+1+1+1]?=some (.cells #[vo] 30 (0,0)):=by
 have blk:∀ (b:Nat) (cs:Array Value) (T:TypeId),W.heap[b]?=some (.cells cs T (0,0))→T≠90→w5.heap[b]?=W.heap[b]?:=fun b cs T hb hT =>
  (hg.block b (by simp;have:=ltS hb;omega) (own_nd h.own hb hT)).trans (Below.heap_alloc _ _ _ (ltS hb))
 have hkp:AfKp W w5:=fun g cs hgc=>blk g cs _ hgc (by decide)
 have e5:=(blk _ _ _ h.o (by decide)).trans h.o;have hkp2:=afKpTree e5 v';refine ⟨⟨?_,?_,putS e5 _,?_,fun r hr=>?_,?_⟩,e5⟩
 ·exact (Below.heap_setCell _ ⟨w.heap.size+1+1+1,0,none⟩ _ _ (by simp;omega)).trans ((blk _ _ _ h.t (by decide)).trans h.t)
 ·exact (Below.heap_setCell _ ⟨w.heap.size+1+1+1,0,none⟩ _ _ (by simp)).trans ((blk _ _ _ h.r (by decide)).trans h.r)
 ·rw [afVals_snoc] at ho;exact afOwnTree ho e5 v'
 ·refine NK.kp (NK.kp ?_ hkp) hkp2
  rcases List.mem_append.1 hr with hr | hr
  ·exact h.nk r hr
  ·rw [List.mem_singleton.1 hr];exact hq
 ·have hlt:=h.own.lt;refine Below.setCell (p:=⟨w.heap.size+1+1+1,0,none⟩) ?_ (by simp;omega) _;exact below_own (W:=W) h.l hg (lo:=w.heap.size+2) (hi:=W.heap.size) (fun b hb=>hlt b hb) (by omega) (Nat.le_refl _)
theorem afFour (w:World) (o1 o2 o3 o4:Obj):∃ W,(((w.alloc o1).alloc o2).alloc o3).alloc o4=W∧W.heap[w.heap.size]?=some o1∧W.heap[w.heap.size+1]?=some o2∧W.heap[w.heap.size+1+1]?=some o3∧W.heap[w.heap.size+1+1+1]?=some o4∧W.heap.size=w.heap.size+4∧Below w.heap.size w W:=by
 have n1:=World.alloc_heap_new w o1;have n2:=World.alloc_heap_new (w.alloc o1) o2;have n3:=World.alloc_heap_new ((w.alloc o1).alloc o2) o3;have n4:=World.alloc_heap_new (((w.alloc o1).alloc o2).alloc o3) o4;simp only [World.size_alloc] at n1 n2 n3 n4;refine ⟨_,rfl,?_,?_,?_,n4,by simp,?_⟩
 ·exact (Below.heap_alloc _ _ _ (by simp;omega)).trans ((Below.heap_alloc _ _ _ (by simp;omega)).trans ((Below.heap_alloc _ _ _ (by simp)).trans n1))
 ·exact (Below.heap_alloc _ _ _ (by simp)).trans ((Below.heap_alloc _ _ _ (by simp)).trans n2)
 ·exact (Below.heap_alloc _ _ _ (by simp)).trans n3
 ·exact ((((Below.refl _ w).alloc (Nat.le_refl _) _).alloc (by simp) _).alloc (by simp;omega) _).alloc (by simp;omega) _
theorem rzStart (w:World) (A:Option Addr) (c k:Nat) (R:List Nr):RzS w A c k R 0 [] (.slice (some ⟨w.heap.size+1+1,0,none⟩) 0 0) ((((w.alloc (.cells #[.slice A k c] 30)).alloc (.cells #[.slice none 0 0] 30)).alloc (.cells #[] 90)).alloc (.cells #[.slice (some ⟨w.heap.size+1+1,0,none⟩) 0 0] 30)):=by
 obtain ⟨W,e,n1,n2,n3,n4,hz,hb⟩:=afFour w (.cells #[.slice A k c] 30) (.cells #[.slice none 0 0] 30) (.cells #[] 90) (.cells #[.slice (some ⟨w.heap.size+1+1,0,none⟩) 0 0] 30);rw [e];exact ⟨n1,n2,n4,⟨rfl,.inr ⟨w.heap.size+1+1,0,#[],rfl,by omega,n3,Nat.le_refl _,Nat.zero_le _,rfl,rfl⟩⟩,fun q hq=>by simp at hq,hb⟩
theorem mapSnoc {R S:List Nr} {k:Nat} {p q:Nr} (h:S.map Nr.n=(R.take k).map Nr.n) (hp:R[k]?=some p) (hq:q.n=p.n):(S ++ [q]).map Nr.n=(R.take (k+1)).map Nr.n:=map_snocN h hp hq
theorem resized_v (A:Option Addr) (c k:Nat) (R:List Nr) (j:Nat) (u v:Int) (w:World) (hk:k=R.length) (h:NrV w A R) (hr:RdR w R) (hL:R.length≤1048576) (hm:∀ p∈R,p.n.cs.length≤1048576∧p.n.rs.length≤1048576) (hj:j<R.length) :
  Calls Tryz.prog 30 #[.agg #[.slice A k c],.int .i64 j,.int .i64 u,.int .i64 v] w fun e w'=>(∃ x,e=.returned x∧TrK w.heap.size w' x (askM (R.map Nr.n) j u v))∧Below w.heap.size w w':=by
 obtain ⟨ti,tz,ti1,ti2,ti3,ti4,ti5⟩:=afNrInfo;have HV:=hD h;have HR:=hD hr;have HM:=hD hm;have HK:=hD hk
 have hkl:k≤1048576:=by omega
 clear h hr hm hk
 go_enter Tryz.func30,Tryz.ntmps30
 go_upto_region 2 with fail
 refine wp_genGG (fun W=>RzS w A c k R 0 [] (.slice (some ⟨w.heap.size+1+1,0,none⟩) 0 0) W) (rzStart w A c k R) (fun W0 h0=>?_);have HS0:=hD h0;have x0:=cellS h0.t 0;have lx:=ltS h0.t;clear h0
 go_wp2_with fail
 clear x0 lx
 go_loopw [10] (fun i wr=>∃ (m:Nat) (S:List Nr) (vo:Value),m≤k∧i=.int .i64 (m:Int)∧S.length=m∧S.map Nr.n=(R.take m).map Nr.n∧RzS w A c k R m S vo wr) (fun i _=>k-(intOf i).toNat)
 case atStart=>exact ⟨0,[],_,by omega,rfl,rfl,rfl,HS0.out⟩
 case round =>
  obtain ⟨m,S,vo,hmk,rfl,hSl,hS,hst⟩:=hrel;have HST:=hD hst;have HS:=hD hS;have HSL:=hD hSl;have x0:=cellS hst.t 0;have lx:=ltS hst.t;clear hst hS hSl HS0
  by_cases hlt:m<k
  ·have hd:decide ((m:Int)<(k:Int))=true:=by simpa using hlt
   have hkn:(m:Int)<(k:Int):=by omega
   have hkr:m<R.length:=by have:=HK.out;omega
   have hget:R[m]?=some R[m]:=List.getElem?_eq_getElem hkr;obtain ⟨b,off,rfl,hb,hp⟩:=HV.out.cells (by omega);have hLR:=rangeB (hp m _ hget) (HST.out.l.block b hb);have hrd:=(HR.out _ (List.mem_of_getElem? hget)).keep HST.out.l;have hmm:=HM.out _ (List.mem_of_getElem? hget);generalize R[m]=p at *;obtain ⟨m1,m2⟩:=hmm;have HLR:=hD hLR;have HD:=hD hrd;have HG:=hD hget;clear hLR hrd hget hp
   go_upto_region 6 with (first|(refine ldN _ p b (off+m*34) rfl rfl rfl HLR.out ?_)|(refine stN (.tmp 11) (.tmp 25) p wr.heap.size 0 rfl rfl rfl rfl (newS _ _) (by show (0+34:Nat)≤34;omega) ?_))
   refine wp_genGG (fun W=>W.heap[wr.heap.size]?=some (.cells (valsNr p).toArray 90 (0,0))∧Below wr.heap.size wr W) ⟨new_full p rfl rfl,below_setCells (Nat.le_refl _) _ _ _ (balloc (Below.refl _ _))⟩ (fun W hw=>?_);obtain ⟨hn,hb1⟩:=hw;have HN:=hD hn;have HB1:=hD hb1;have HD1:=hD (HD.out.keep hb1);have x5:W.cell? ⟨wr.heap.size,5,none⟩=some (.slice p.ca p.n.cs.length p.cc):=cellS hn 5
   have ln:=ltS hn;clear hn hb1 x0 lx HLR hd
   go_upto_region 7 with (refine apLn (.tmp 26) (.tmp 28) p.n.cs p.ca p.cc W.heap.size rfl rfl rfl rfl (newS _ _) (HD1.out.c.keep (balloc (Below.refl _ _))) m1 ?_;rintro _ w1 ⟨a1,ac1,rfl,hac1,hla1⟩ hg1;have hN1:=(hg1.block wr.heap.size (by simp;omega) (by simp;omega)).trans ((Below.heap_alloc _ _ wr.heap.size ln).trans HN.out);have f5:=frozenS hN1 5;obtain ⟨y5,z5⟩:=thereS hN1 (i:=5) (by show 5<34;omega))
   refine wp_genGG (fun W'=>W'.heap[wr.heap.size]?=some (.cells (valsNr ⟨p.n,a1,ac1,p.ra,p.rc⟩).toArray 90 (0,0))∧AfLn W' a1 p.n.cs∧Below wr.heap.size wr W') (let ⟨q1,q2,q3⟩:=afStep (q:=⟨p.n,a1,ac1,p.ra,p.rc⟩) HB1.out rfl hN1 hg1 rfl;⟨q1,hla1.kp q2,q3⟩) (fun W6 hw=>?_);obtain ⟨hn,hla,hb6⟩:=hw;have HN6:=hD hn;have HB6:=hD hb6;have HLA:=hD hla;have HD6:=hD (HD.out.keep hb6)
   have x6:W6.cell? ⟨wr.heap.size,6,none⟩=some (.slice p.ra p.n.rs.length p.rc):=cellS hn 6;have ln6:=ltS hn;clear hn hb6 hla x5 ln hN1 f5 y5 z5 hg1 hla1 HN HB1 HD1
   go_upto_region 8 with (refine apLn (.tmp 31) (.tmp 33) p.n.rs p.ra p.rc W6.heap.size rfl rfl rfl rfl (newS _ _) (HD6.out.r.keep (balloc (Below.refl _ _))) m2 ?_;rintro _ w2 ⟨a2,ac2,rfl,hac2,hla2⟩ hg2;have hN2:=(hg2.block wr.heap.size (by simp;omega) (by simp;omega)).trans ((Below.heap_alloc _ _ wr.heap.size ln6).trans HN6.out);have f6:=frozenS hN2 6;obtain ⟨y6,z6⟩:=thereS hN2 (i:=6) (by show 6<34;omega))
   refine wp_genGG (fun W'=>W'.heap[wr.heap.size]?=some (.cells (valsNr (reN p a1 ac1 a2 ac2)).toArray 90 (0,0))∧NK W' (reN p a1 ac1 a2 ac2)∧Below wr.heap.size wr W') (let ⟨q1,q2,q3⟩:=afStep (q:=reN p a1 ac1 a2 ac2) HB6.out rfl hN2 hg2 rfl;⟨q1,⟨(HLA.out.kp (afKp2 hg2)).kp q2,hla2.kp q2,hac1,hac2⟩,q3⟩) (fun W7 hw=>?_);obtain ⟨hn,hnk,hb7⟩:=hw;have HN7:=hD hn;have HNK:=hD hnk
   have HST7:=hD (HST.out.keep hb7);have y0:=cellS HST7.out.o 0;have lo:=ltS HST7.out.o;have hown:=HST7.out.own;have hlt7:=hown.lt
   obtain ⟨A7,c7,rfl⟩:∃ A7 c7,vo=.slice A7 m c7:=by
    rcases hown.2 with ⟨rfl,h0⟩ | ⟨g,cap,cur,rfl,_⟩
    ·exact ⟨none,0,by rw [h0]⟩
    ·exact ⟨_,_,rfl⟩
   have hsz7:w.heap.size+2≤W7.heap.size:=by omega
   have HOW:=hD hown;clear hn hnk hb7 x6 ln6 hN2 f6 y6 z6 hg2 hla2 HN6 HB6 HD6 HLA hown
   go_wp2_with (first|(refine ldN _ (reN p a1 ac1 a2 ac2) wr.heap.size 0 rfl rfl rfl (nodeAt HN7.out) ?_)|(refine afBs (.tmp 38) (reN p a1 ac1 a2 ac2) rfl rfl rfl ?_)|(at_builtin;refine wpList_append_own _ rfl _ _ 28 rfl (w.heap.size+2) 90 ti tz 34 288 Tryz.underlying28 ti1 ti2 ti3 ti4 ti5 (by decide) (.slice A7 m c7) _ _ rfl (HOW.out.alloc _) ⟨W7.heap.size,0,none⟩ 1 1 (valsNr (reN p a1 ac1 a2 ac2)) rfl rfl (afNew34 _ _ _) (valsNr_one _) (by simp only [maxLen];omega) (by omega) (by simp;omega) ?_))
   intro v5 w5 how5 hgr5 _
   obtain ⟨A5,c5,rfl⟩:∃ A5 c5,v5=.slice A5 (m+1) c5:=by
    rcases how5.2 with ⟨rfl,h0⟩ | ⟨g,cap,cur,rfl,_⟩
    ·omega
    ·exact ⟨_,_,rfl⟩
   obtain ⟨hadd,e5⟩:=HST7.out.add HNK.out hgr5 how5;have HADD:=hD hadd;have z0:=cellS e5 0;have fz:=frozenS e5 0;have lz:=ltS e5;have HMS:=hD (mapSnoc (q:=reN p a1 ac1 a2 ac2) HS.out HG.out rfl);clear hadd e5 how5 hgr5 hlt7 y0 lo HOW HNK HST7 HN7;go_wp2
   go_roundw
   case rel=>exact ⟨m+1,S ++ [reN p a1 ac1 a2 ac2],_,by omega,by go_num,by rw [List.length_append,HSL.out];rfl,HMS.out,HADD.out⟩
   case measure=>simp [intOf];omega
  ·have hd:decide ((m:Int)<(k:Int))=false:=decide_eq_false (by omega)
   obtain rfl:m=k:=by omega
   rcases afOwnNr HST.out.own HSL.out.symm with ⟨rfl,rfl⟩ | ⟨g,cap,cs,rfl,hg,hcap,hcs,hcz,hcc⟩
   ·exfalso
    have h1:=HSL.out;have h2:=HK.out
    simp at h1
    omega
   have hP:PtN wr g cap S:=⟨cs,hcs,hcz,hcc⟩
   have hjk:j<m:=by have:=HK.out;omega
   have hjs:j<S.length:=by have:=HSL.out;omega
   have hq:S[j]?=some S[j]:=List.getElem?_eq_getElem hjs;generalize S[j]=q at *
   have hjm:(j:Int)<(m:Int):=by omega
   obtain ⟨⟨c1,y1⟩,f1⟩:=hP.there (j:=j) (o:=1) (by omega) (by omega);obtain ⟨⟨c2,y2⟩,f2⟩:=hP.there (j:=j) (o:=2) (by omega) (by omega);have z0:=cellS HST.out.o 0;have lg:=ltS hcs;have lz:=ltS HST.out.o
   have hgo:¬ g=w.heap.size+1+1+1:=fun e=>by
    subst e
    have:=HST.out.o
    rw [hcs] at this
    have:=Option.some.inj this
    simp only [Obj.cells.injEq] at this;exact absurd this.2.1 (by decide)
   have hgo2:¬ w.heap.size+1+1+1=g:=fun e=>hgo e.symm
   have HP:=hD hP;have HQ:=hD hq;have HCS:=hD hcs;have hcap1:m≤cap:=hcap;clear hP hq hcs hcz hcc
   go_upto_region 11 with fail
   have hkp:AfKp wr ((wr.setCell ⟨g,j*34+1,none⟩ (.int .i64 u)).setCell ⟨g,j*34+2,none⟩ (.int .i64 v)):=(afKpNode HCS.out _ _).trans (afKpNode (putS HCS.out _) _ _)
   refine wp_genGG (fun W=>PtN W g cap (S.set j (wishR q u v))∧(∀ r∈S,NK W r)∧W.heap[w.heap.size+1]?=some (.cells #[.slice none 0 0] 30 (0,0))∧W.heap[w.heap.size+1+1+1]?=some (.cells #[.slice (some ⟨g,0,none⟩) m cap] 30 (0,0))∧Below w.heap.size w W) ⟨HP.out.wish HQ.out (by omega) u v,fun r hr=>(HST.out.nk r hr).kp hkp,(Below.heap_setCell _ ⟨g,_,none⟩ _ _ (by simp;omega)).trans ((Below.heap_setCell _ ⟨g,_,none⟩ _ _ (by simp;omega)).trans HST.out.r),(Below.heap_setCell _ ⟨g,_,none⟩ _ _ (by simp;omega)).trans ((Below.heap_setCell _ ⟨g,_,none⟩ _ _ (by simp;omega)).trans HST.out.o),(HST.out.l.setCell (p:=⟨g,_,none⟩) (by simp;omega) _).setCell (p:=⟨g,_,none⟩) (by simp;omega) _⟩ (fun W2 h2=>?_)
   obtain ⟨hP,hN,hR2,hO2,hB2⟩:=h2;have u0:=cellS hO2 0;have r0:=cellS hR2 0;have fr:=frozenS hR2 0;have lr:=ltS hR2;have lo2:=ltS hO2;have HP2:=hD hP;have HN2:=hD hN;have HR2:=hD hR2;have HB2:=hD hB2;clear hP hN hR2 hO2 hB2 y1 y2 f1 f2 z0 hkp HP HCS HST x0 lx;go_wp2;have hkt:=afKpTree HR2.out (.slice (some ⟨g,0,none⟩) m cap)
   have hPf:PtN (W2.setCell ⟨w.heap.size+1,0,none⟩ (.slice (some ⟨g,0,none⟩) m cap)) g cap (S.set j (wishR q u v)):=by
    obtain ⟨cs,hh,r⟩:=HP2.out;exact ⟨cs,(Below.heap_setCell _ ⟨w.heap.size+1,0,none⟩ _ _ (by simp;omega)).trans hh,r⟩
   refine bodyPost_ret (v:=.agg #[.slice (some ⟨g,0,none⟩) m cap]) (by simp only [results,Tryz.results30];go_simp) rfl ⟨⟨_,rfl,some ⟨g,0,none⟩,cap,S.set j (wishR q u v),by rw [List.length_set,HSL.out],⟨g,cap,rfl,by omega,hPf⟩,fun r hr=>?_,map_wish ?_ HQ.out u v⟩,HB2.out.setCell (p:=⟨w.heap.size+1,_,none⟩) (by simp) _⟩
   ·rcases List.mem_or_eq_of_mem_set hr with hr | rfl
    ·exact (HN2.out r hr).kp hkt
    ·have:=(HN2.out q (List.mem_of_getElem? HQ.out)).kp hkt
     exact ⟨this.c,this.r,this.cl,this.rl⟩
   ·rw [HS.out,HK.out,List.take_length]
theorem AskFor_no (A:Option Addr) (c k:Nat) (R:List Nr) (i u v:Int) (w:World) (hk:k=R.length) (h:NrV w A R) (hr:RdR w R) (hL:R.length≤1048576) (hm:∀ p∈R,p.n.cs.length≤1048576∧p.n.rs.length≤1048576) (hb:askB (R.map Nr.n) k i u v=false) :
  Calls Tryz.prog 32 #[.agg #[.slice A k c],.int .i64 i,.int .i64 u,.int .i64 v] w fun e w'=>e=.returned (.tuple #[.agg #[.slice none 0 0],.bool false])∧Below w.heap.size w w':=by
 have hkl:k≤1048576:=by omega
 have hB0:Below w.heap.size w ((w.alloc (.cells #[.slice A k c] 30 (0,0))).alloc (.cells #[.slice none 0 0] 30 (0,0))):=(balloc (Below.refl _ _)).trans ((balloc (Below.refl _ _)).mono (by simp))
 have HX:=hD (show ((w.alloc (.cells #[.slice A k c] 30 (0,0))).alloc (.cells #[.slice none 0 0] 30 (0,0))).heap[w.heap.size]?=some (.cells #[.slice A k c] 30 (0,0)) from (Below.heap_alloc _ _ _ (by simp)).trans (newS _ _))
 have HY:=hD (show ((w.alloc (.cells #[.slice A k c] 30 (0,0))).alloc (.cells #[.slice none 0 0] 30 (0,0))).heap[w.heap.size+1]?=some (.cells #[.slice none 0 0] 30 (0,0)) from by have:=newS (w.alloc (.cells #[.slice A k c] 30 (0,0))) (.cells #[.slice none 0 0] 30 (0,0));rw [World.size_alloc] at this;exact this);have HB:=hD hB0;have HV:=hD (h.keep hB0);have HR:=hD (hr.keep hB0);have HM:=hD hm
 have HK:=hD hk;have x0:=cellS HX.out 0;clear hB0 h hr hm hk
 cases ht:treeB (R.map Nr.n)
 ·have HT:=hD ht;clear hb ht
  go_enter Tryz.func32,Tryz.ntmps32
  go_wp2_with fail
  with_reducible refine (ValidTree_n A c k R false _ HK.out HV.out HR.out hL HM.out HT.out).mono ?_
  rintro e w1 ⟨rfl,hb⟩;replace HY:=hbk hb HY;replace HB:=hD (bkeep2 HB.out hb);clear hb;clear x0;have y0:=cellS HY.out 0;have fy:=frozenS HY.out 0;have ly:=ltS HY.out;go_wp2;exact bodyPost_ret (v:=.tuple #[.agg #[.slice none 0 0],.bool false]) (by simp only [results,Tryz.results32];go_simp) rfl ⟨rfl,HB.out.setCell (p:=⟨w.heap.size+1,_,none⟩) (by simp) _⟩
 ·cases h2:rng i 0 ((k:Int)-1)
  ·have HT:=hD ht;have HBB:=hD h2;clear hb ht h2
   go_enter Tryz.func32,Tryz.ntmps32
   go_wp2_with fail
   with_reducible refine (ValidTree_n A c k R true _ HK.out HV.out HR.out hL HM.out HT.out).mono ?_
   rintro e w1 ⟨rfl,hb⟩;clear x0;replace HX:=hbk hb HX;replace HY:=hbk hb HY;replace HB:=hD (bkeep2 HB.out hb);clear hb;have x0:=cellS HX.out 0
   go_wp2_with fail
   with_reducible refine (has_v A c k i false _ hkl HBB.out).mono ?_
   rintro e w2 ⟨rfl,hb⟩;replace HY:=hbk hb HY;replace HB:=hD (bkeep2 HB.out hb);clear hb;clear x0;have y0:=cellS HY.out 0;have fy:=frozenS HY.out 0;have ly:=ltS HY.out;go_wp2;exact bodyPost_ret (v:=.tuple #[.agg #[.slice none 0 0],.bool false]) (by simp only [results,Tryz.results32];go_simp) rfl ⟨rfl,HB.out.setCell (p:=⟨w.heap.size+1,_,none⟩) (by simp) _⟩
  ·have h3:(rng u 0 30&&rng v 0 30)=false:=by unfold askB at hb;rw [ht,h2] at hb;simpa using hb
   have HT:=hD ht;have HBB:=hD h2;have HW:=hD h3;clear hb ht h2 h3
   go_enter Tryz.func32,Tryz.ntmps32
   go_wp2_with fail
   with_reducible refine (ValidTree_n A c k R true _ HK.out HV.out HR.out hL HM.out HT.out).mono ?_
   rintro e w1 ⟨rfl,hb⟩;clear x0;replace HX:=hbk hb HX;replace HY:=hbk hb HY;replace HB:=hD (bkeep2 HB.out hb);clear hb;have x0:=cellS HX.out 0
   go_wp2_with fail
   with_reducible refine (has_v A c k i true _ hkl HBB.out).mono ?_
   rintro e w2 ⟨rfl,hb⟩;clear x0;replace HX:=hbk hb HX;replace HY:=hbk hb HY;replace HB:=hD (bkeep2 HB.out hb);clear hb;have x0:=cellS HX.out 0
   go_wp2_with fail
   with_reducible refine (validWish_w u v false _ HW.out).mono ?_
   rintro e w3 ⟨rfl,rfl⟩;clear x0;have y0:=cellS HY.out 0;have fy:=frozenS HY.out 0;have ly:=ltS HY.out;go_wp2;exact bodyPost_ret (v:=.tuple #[.agg #[.slice none 0 0],.bool false]) (by simp only [results,Tryz.results32];go_simp) rfl ⟨rfl,HB.out.setCell (p:=⟨w.heap.size+1,_,none⟩) (by simp) _⟩
theorem goodWish_v (A:Option Addr) (c k:Nat) (R:List Nr) (i u v:Int) (b:Bool) (w:World) (hk:k=R.length) (h:NrV w A R) (hr:RdR w R) (hL:R.length≤1048576) (hm:∀ p∈R,p.n.cs.length≤1048576∧p.n.rs.length≤1048576) (hb:askB (R.map Nr.n) k i u v=b) :
  Calls Tryz.prog 27 #[.agg #[.slice A k c],.int .i64 i,.int .i64 u,.int .i64 v] w fun e w'=>e=.returned (.bool b)∧Below w.heap.size w w':=by
 have hkl:k≤1048576:=by omega
 have hB0:Below w.heap.size w (w.alloc (.cells #[.slice A k c] 30 (0,0))):=balloc (Below.refl _ _);have HX:=hD (newS w (.cells #[.slice A k c] 30 (0,0)));have HB:=hD hB0;have HV:=hD (h.keep hB0);have HR:=hD (hr.keep hB0);have HM:=hD hm;have HK:=hD hk;have x0:=cellS HX.out 0;clear hB0 h hr hm hk
 cases h1:(treeB (R.map Nr.n)&&rng i 0 ((k:Int)-1))
 ·obtain rfl:false=b:=by rw [<- hb];unfold askB;rw [h1];rfl
  have H1:=hD h1;clear hb h1
  go_enter Tryz.func27,Tryz.ntmps27
  go_wp2_with fail
  with_reducible refine (goodNode_v A c k R i false _ HK.out HV.out HR.out hL HM.out H1.out).mono ?_
  rintro e w1 ⟨rfl,hb⟩;clear x0;replace HB:=hD (bkeep2 HB.out hb);clear hb;go_wp2;go_ret;exact ⟨rfl,HB.out⟩
 ·have H1:=hD h1
  cases h2:rng u 0 30
  ·obtain rfl:false=b:=by rw [<- hb];unfold askB;rw [h1,h2];rfl
   have H2:=hD h2;clear hb h1 h2
   go_enter Tryz.func27,Tryz.ntmps27
   go_wp2_with fail
   with_reducible refine (goodNode_v A c k R i true _ HK.out HV.out HR.out hL HM.out H1.out).mono ?_
   rintro e w1 ⟨rfl,hb⟩;clear x0;replace HB:=hD (bkeep2 HB.out hb);clear hb
   go_wp2_with fail
   with_reducible refine (inRange_u u 0 30 false _ H2.out).mono ?_
   rintro e w2 ⟨rfl,rfl⟩;go_wp2;go_ret;exact ⟨rfl,HB.out⟩
  ·have h3:rng v 0 30=b:=by rw [<- hb];unfold askB;rw [h1,h2];rfl
   have H2:=hD h2;have H3:=hD h3;clear hb h1 h2 h3
   go_enter Tryz.func27,Tryz.ntmps27
   go_wp2_with fail
   with_reducible refine (goodNode_v A c k R i true _ HK.out HV.out HR.out hL HM.out H1.out).mono ?_
   rintro e w1 ⟨rfl,hb⟩;clear x0;replace HB:=hD (bkeep2 HB.out hb);clear hb
   go_wp2_with fail
   with_reducible refine (inRange_u u 0 30 true _ H2.out).mono ?_
   rintro e w2 ⟨rfl,rfl⟩
   go_wp2_with fail
   with_reducible refine (inRange_u v 0 30 b _ H3.out).mono ?_
   rintro e w3 ⟨rfl,rfl⟩;go_wp2;go_ret;exact ⟨rfl,HB.out⟩
section
attribute [local go_sem] givesUpon_value givesUpon_skip givesUpon_enter
theorem askB_iff {L:List Nd} {k:Nat} {i u v:Int}:askB L k i u v=true↔treeB L=true∧(0≤i∧i≤(k:Int)-1)∧(0≤u∧u≤30)∧(0≤v∧v≤30):=by
 unfold askB;simp only [Bool.and_eq_true,rng_iff];exact ⟨fun h=>⟨h.1.1,h.1.2,h.2.1,h.2.2⟩,fun h=>⟨⟨h.1,h.2.1⟩,h.2.2.1,h.2.2.2⟩⟩
theorem askM_get {L:List Nd} {j:Nat} {n:Nd} {u v:Int} (h:L[j]?=some n) (i:Nat):(askM L j u v)[i]?=if i=j then some (wishD n u v) else L[i]?:=by
 rw [askM_at h]
 split
 ·rename_i e;subst e;exact List.getElem?_set_self (List.getElem?_eq_some_iff.1 h).1
 ·rename_i e;exact List.getElem?_set_ne (fun q=>e q.symm)
theorem askM_tree {L:List Nd} {j:Nat} {u v:Int} (h:treeB L=true) (hu:0≤u∧u≤30) (hv:0≤v∧v≤30):treeB (askM L j u v)=true:=by
 unfold treeB at h ⊢;rw [askM_len];rw [Bool.and_eq_true] at h ⊢;refine ⟨h.1,List.all_eq_true.2 fun i hi=>?_⟩;have h0:=List.all_eq_true.1 h.2 i hi
 cases hj:L[j]? with
 | none=>unfold askM;rw [hj];exact h0
 | some n =>
  have hil:i<L.length:=List.mem_range.1 hi;have hg:L[i]?=some L[i]:=List.getElem?_eq_getElem hil
  have hcl:∀ m:Nd,∀ i,clB (askM L j u v) i m=clB L i m:=fun m i=>by
   unfold clB
   split
   ·rfl
   ·have hq:=askM_get (u:=u) (v:=v) hj m.pa.toNat
    by_cases e:m.pa.toNat=j
    ·rw [hq,if_pos e,e,hj];rfl
    ·rw [hq,if_neg e]
  rw [nokB_at hg] at h0
  by_cases e:i=j
  ·subst e;rw [hj] at hg;obtain rfl:n=L[i]:=Option.some.inj hg;rw [nokB_at (n:=wishD L[i] u v) (by rw [askM_get hj,if_pos rfl]),hcl];simp only [Bool.and_eq_true] at h0 ⊢;refine ⟨?_,h0.2.1,?_⟩
   ·have:=h0.1
    unfold ndB at this ⊢;simp only [Bool.and_eq_true,rng_iff] at this ⊢;exact ⟨⟨hu,hv⟩,this.2⟩
   ·exact h0.2.2
  ·rw [nokB_at (n:=L[i]) (by rw [askM_get hj,if_neg e];exact hg),hcl];exact h0
end
section
attribute [local go_sem] givesUpon_value givesUpon_skip givesUpon_enter
attribute [local go_sem 5000] run_neqR
def LyM (w:World) (v:Value) (k:Nat) (M:List Re):Prop:=∃ g:Nat,v=.slice (some ⟨g,0,none⟩) k k∧ReB w g M
theorem LyM.keep {w w':World} {v:Value} {k:Nat} {M:List Re} (h:LyM w v k M) (hb:Below w.heap.size w w'):LyM w' v k M:=let ⟨g,e,hr⟩:=h;⟨g,e,hr.keep hb⟩
def lrL (L:List Nd) (a b:Int) (k:Nat):List Re:=(List.range k).map (lrM L a b)
theorem lrL_len (L:List Nd) (a b:Int) (k:Nat):(lrL L a b k).length=k:=by rw [lrL,List.length_map,List.length_range]
def mvM (L:List Nd) (i u v a b:Int):List Int:=if (askB L L.length i u v&&rgG a b)=true then idsM (fun m=>neR (rcN (lrL L a b L.length) m) (rcN (lrL (askM L i.toNat u v) a b L.length) m)) L.length else []
theorem mvM_len (L:List Nd) (i u v a b:Int):(mvM L i u v a b).length≤10:=by
 unfold mvM
 split
 ·rename_i h
  rw [Bool.and_eq_true] at h;obtain ⟨ht,-⟩:=askB_iff.1 h.1
  have:=(tree_len ht).2
  exact Nat.le_trans (idsM_len _ _) this
 ·simp
theorem MovedBy_v (A:Option Addr) (c k:Nat) (R:List Nr) (i u v a b:Int) (w:World) (hk:k=R.length) (h:NrV w A R) (hr:RdR w R) (hL:R.length≤1048576) (hm:∀ p∈R,p.n.cs.length≤1048576∧p.n.rs.length≤1048576) :
  Calls Tryz.prog 11 #[.agg #[.slice A k c],.int .i64 i,.int .i64 u,.int .i64 v,.int .i64 a,.int .i64 b] w fun e w'=>(∃ x,e=.returned x∧GO w.heap.size w' x (mvM (R.map Nr.n) i u v a b))∧Below w.heap.size w w':=by
 have hB0:Below w.heap.size w (w.alloc (.cells #[.slice A k c] 30 (0,0))):=balloc (Below.refl _ _);have HX:=hD (newS w (.cells #[.slice A k c] 30 (0,0)));have HB:=hD hB0;have HV:=hD (h.keep hB0);have HR:=hD (hr.keep hB0);have HM:=hD hm;have HK:=hD hk;have x0:=cellS HX.out 0
 have hkl:k≤1048576:=by omega
 clear hB0 h hr hm hk
 cases hb:askB (R.map Nr.n) k i u v
 ·have HN:=hD (show mvM (R.map Nr.n) i u v a b=[] by unfold mvM;rw [List.length_map,<- HK.out,hb];rfl);have HBB:=hD hb;clear hb
  go_enter Tryz.func11,Tryz.ntmps11
  go_wp2_with fail
  with_reducible refine (AskFor_no A c k R i u v _ HK.out HV.out HR.out hL HM.out HBB.out).mono ?_
  rintro e w1 ⟨rfl,hb⟩;clear x0;have hb2:Below w1.heap.size w1 (w1.alloc (.cells #[.slice none 0 0] 30 (0,0))):=balloc (Below.refl _ _);replace hb:=bkeep2 hb hb2;clear hb2;replace HB:=hD (bkeep2 HB.out hb);clear hb;go_wp2;go_ret;exact ⟨⟨_,rfl,.inl ⟨rfl,HN.out⟩⟩,HB.out⟩
 ·obtain ⟨ht,⟨i1,i2⟩,hu,hv⟩:=askB_iff.1 hb;obtain ⟨j,rfl⟩:=Int.eq_ofNat_of_zero_le i1
  have hj:j<R.length:=by have:=HK.out;omega
  have hw:(rng u 0 30&&rng v 0 30)=true:=by rw [Bool.and_eq_true,rng_iff,rng_iff];exact ⟨hu,hv⟩
  have ht2:=askM_tree (j:=j) ht hu hv;have HT:=hD ht;have HT2:=hD (trOK_of ht2);have HW:=hD hw
  cases hg:rgG a b
  all_goals
   have HN:=hD (show mvM (R.map Nr.n) (j:Int) u v a b=if rgG a b=true then idsM (fun m=>neR (rcN (lrL (R.map Nr.n) a b k) m) (rcN (lrL (askM (R.map Nr.n) j u v) a b k) m)) k else [] by unfold mvM;rw [List.length_map,<- HK.out,hb,Bool.true_and,Int.toNat_natCast]);rw [hg] at HN;have HGG:=hD hg;clear hb ht hu hv hw ht2 i1 i2
   go_enter Tryz.func11,Tryz.ntmps11
   go_wp2_with fail
   with_reducible refine (AskFor_yes A c k R j u v _ HK.out HV.out HR.out hL HM.out HT.out hj HW.out).mono ?_
   rintro e w1 ⟨⟨x,rfl,hx⟩,hb⟩;obtain ⟨A2,c2,S,rfl,h1,h2,h3⟩:=hx.open
   have hs1:w.heap.size≤w1.heap.size:=by have:=hb.size;simp at this;omega
   have hsl:S.length=k:=by have:=congrArg List.length h3;rw [List.length_map,askM_len,List.length_map] at this;exact this.trans HK.out.symm
   rw [hsl];have hb2:Below w1.heap.size w1 (w1.alloc (.cells #[.slice A2 k c2] 30 (0,0))):=balloc (Below.refl _ _);have HY:=hD (newS w1 (.cells #[.slice A2 k c2] 30 (0,0)));have HV2:=hD (h1.keep hb2);have HR2:=hD (h2.keep hb2);have HS2:=hD h3;replace hb:=bkeep2 hb hb2;have HSL:=hD hsl;clear x0 hx h1 h2 h3 hsl hb2;replace HX:=hbk hb HX;replace HV:=hD (HV.out.keep hb);replace HR:=hD (HR.out.keep hb)
   replace HB:=hD (bkeep2 HB.out hb);clear hb
   go_wp2_with fail
   with_reducible refine (validRoom_g a b _).mono ?_
   rintro e w2 ⟨rfl,rfl⟩;rw [hg];clear hg
  ·clear HV HR HV2 HR2 HY;go_wp2;go_ret;exact ⟨⟨_,rfl,.inl ⟨rfl,by rw [HN.out];rfl⟩⟩,HB.out⟩
  ·generalize w1.alloc (.cells #[.slice A2 k c2] 30 (0,0))=WY at *;have x0:=cellS HX.out 0;have y0:=cellS HY.out 0;have lx:=ltS HX.out;have ly:=ltS HY.out;have HG:=hD (rgG_yes HGG.out)
   have hL2:S.length≤1048576:=by have:=HSL.out;omega
   go_wp2_with fail
   refine wp_region_rxl 9 1 [] #[true,true,true,true,true,true,true,true,true,false] (by kernel_rfl) (by kernel_rfl) (by kernel_rfl) (XV (.agg #[.slice A k c]) :: XV (.int .i64 a) :: XV (.int .i64 b) :: (fun vv z=>LyM z vv k (lrL (R.map Nr.n) a b k)) :: XV (.agg #[.slice A2 k c2]) :: XV (.int .i64 a) :: XV (.int .i64 b) :: (fun vv z=>LyM z vv k (lrL (askM (R.map Nr.n) j u v) a b k)) :: (fun vv z=>GO w.heap.size z vv (idsM (fun m=>neR (rcN (lrL (R.map Nr.n) a b k) m) (rcN (lrL (askM (R.map Nr.n) j u v) a b k) m)) k)) :: []) (by kernel_rfl) (by kernel_rfl) (by kernel_rfl) ?hTs ?hXs ?hops ?hfin
   case hTs =>
    intro T hT;simp only [List.mem_cons,List.not_mem_nil,or_false] at hT
    rcases hT with rfl | rfl | rfl | rfl | rfl | rfl | rfl | rfl | rfl <;> first | exact stay_V _ | exact stay_T | exact stay_of (fun v a b x g=>x.keep g) | exact stay_of (fun v a b x g=>x)
   case hXs =>
    intro x d s hx;exact absurd hx (List.not_mem_nil)
   case hops =>
    refine ⟨opOK_rx [(6,none)] (by kernel_rfl) rfl ?_,?_⟩
    ·intro act w' hw' h1;obtain ⟨hk,hf⟩:=evkf act;generalize act.eval=ρ at *;replace h1:ρ (.tmp 6)=.pointer (some ⟨w.heap.size,0,none⟩):=h1
     refine gxB hw' fun K hK hc hf'=>?_
     go_simp;exact hK _ _ ⟨rfl,Gr.refl _⟩
    refine ⟨opOK_rx [(4,none)] (by kernel_rfl) rfl ?_,?_⟩
    ·intro act w' hw' h1;obtain ⟨hk,hf⟩:=evkf act;generalize act.eval=ρ at *;replace h1:ρ (.tmp 4)=.int .i64 a:=h1
     refine gxB hw' fun K hK hc hf'=>?_
     go_simp;exact hK _ _ ⟨rfl,Gr.refl _⟩
    refine ⟨opOK_rx [(5,none)] (by kernel_rfl) rfl ?_,?_⟩
    ·intro act w' hw' h1;obtain ⟨hk,hf⟩:=evkf act;generalize act.eval=ρ at *;replace h1:ρ (.tmp 5)=.int .i64 b:=h1
     refine gxB hw' fun K hK hc hf'=>?_
     go_simp;exact hK _ _ ⟨rfl,Gr.refl _⟩
    refine ⟨opOK_rx [(31,some 0),(32,some 1),(33,some 2)] (by kernel_rfl) rfl ?_,?_⟩
    ·intro act w' hw' h1 h2 h3;obtain ⟨hk,hf⟩:=evkf act;generalize act.eval=ρ at *;replace h1:ρ (.tmp 31)=.agg #[.slice A k c]:=h1;replace h2:ρ (.tmp 32)=.int .i64 a:=h2;replace h3:ρ (.tmp 33)=.int .i64 b:=h3
     refine gxB hw' fun K hK hc hf'=>?_
     go_simp
     (refine (layout_v A c k R a b _ (trOK_of HT.out) HK.out (HV.out.keep (bdrewn hw'.out)) (HR.out.keep (bdrewn hw'.out)) HG.out.1 HG.out.2).mono ?_);rintro e w3 ⟨⟨g,rfl,hgl,hre⟩,hb1⟩;exact ⟨_,rfl,hK _ _ ⟨⟨g,rfl,hre⟩,Gr.of hb1⟩⟩
    refine ⟨opOK_rx [(13,none)] (by kernel_rfl) rfl ?_,?_⟩
    ·intro act w' hw' h1;obtain ⟨hk,hf⟩:=evkf act;generalize act.eval=ρ at *;replace h1:ρ (.tmp 13)=.pointer (some ⟨w1.heap.size,0,none⟩):=h1
     refine gxB hw' fun K hK hc hf'=>?_
     go_simp;exact hK _ _ ⟨rfl,Gr.refl _⟩
    refine ⟨opOK_rx [(4,none)] (by kernel_rfl) rfl ?_,?_⟩
    ·intro act w' hw' h1;obtain ⟨hk,hf⟩:=evkf act;generalize act.eval=ρ at *;replace h1:ρ (.tmp 4)=.int .i64 a:=h1
     refine gxB hw' fun K hK hc hf'=>?_
     go_simp;exact hK _ _ ⟨rfl,Gr.refl _⟩
    refine ⟨opOK_rx [(5,none)] (by kernel_rfl) rfl ?_,?_⟩
    ·intro act w' hw' h1;obtain ⟨hk,hf⟩:=evkf act;generalize act.eval=ρ at *;replace h1:ρ (.tmp 5)=.int .i64 b:=h1
     refine gxB hw' fun K hK hc hf'=>?_
     go_simp;exact hK _ _ ⟨rfl,Gr.refl _⟩
    refine ⟨opOK_rx [(35,some 4),(36,some 5),(37,some 6)] (by kernel_rfl) rfl ?_,?_⟩
    ·intro act w' hw' h1 h2 h3;obtain ⟨hk,hf⟩:=evkf act;generalize act.eval=ρ at *;replace h1:ρ (.tmp 35)=.agg #[.slice A2 k c2]:=h1;replace h2:ρ (.tmp 36)=.int .i64 a:=h2;replace h3:ρ (.tmp 37)=.int .i64 b:=h3
     refine gxB hw' fun K hK hc hf'=>?_
     go_simp
     (refine (layout_v A2 c2 k S a b _ (by rw [HS2.out];exact HT2.out) HSL.out.symm (HV2.out.keep (bdrewn hw'.out)) (HR2.out.keep (bdrewn hw'.out)) HG.out.1 HG.out.2).mono ?_);rintro e w3 ⟨⟨g,rfl,hgl,hre⟩,hb1⟩;rw [HS2.out] at hre;exact ⟨_,rfl,hK _ _ ⟨⟨g,rfl,hre⟩,Gr.of hb1⟩⟩
    refine ⟨opOK_rx [(34,some 3),(38,some 7)] (by kernel_rfl) rfl ?_,?_⟩
    ·intro act w' hw' h1 h2;obtain ⟨hk,hf⟩:=evkf act;generalize act.eval=ρ at *;replace h1:(fun vv z=>LyM z vv k (lrL (R.map Nr.n) a b k)) (ρ (.tmp 34)) w':=h1;replace h2:(fun vv z=>LyM z vv k (lrL (askM (R.map Nr.n) j u v) a b k)) (ρ (.tmp 38)) w':=h2;refine gx_gen (fun K hK=>?_)
     obtain ⟨g,e2,hre⟩:=h1;obtain ⟨g2,e3,hre2⟩:=h2;obtain ⟨hc,hf'⟩:=bcell (bdrewn hw'.out);go_simp;refine (changedR_v k g g2 _ _ _ hre hre2 (lrL_len _ _ _ _) (lrL_len _ _ _ _) hkl).mono ?_;rintro e w3 ⟨⟨vr,rfl,hvr⟩,hb1⟩;exact ⟨_,rfl,hK _ _ ⟨hvr.mono (by have:=(bdrewn hw'.out).size;omega),Gr.of hb1⟩⟩
    exact trivial
   case hfin =>
    intro w5 hg5;intro v31 t31;replace t31:v31=.agg #[.slice A k c]:=t31;subst t31;intro v32 t32;replace t32:v32=.int .i64 a:=t32;subst t32;intro v33 t33;replace t33:v33=.int .i64 b:=t33;subst t33;intro v34 t34;replace t34:(fun vv z=>LyM z vv k (lrL (R.map Nr.n) a b k)) v34 w5:=t34;intro v35 t35;replace t35:v35=.agg #[.slice A2 k c2]:=t35;subst t35;intro v36 t36;replace t36:v36=.int .i64 a:=t36
    subst t36;intro v37 t37;replace t37:v37=.int .i64 b:=t37;subst t37;intro v38 t38;replace t38:(fun vv z=>LyM z vv k (lrL (askM (R.map Nr.n) j u v) a b k)) v38 w5:=t38;intro v39 t39;replace t39:(fun vv z=>GO w.heap.size z vv (idsM (fun m=>neR (rcN (lrL (R.map Nr.n) a b k) m) (rcN (lrL (askM (R.map Nr.n) j u v) a b k) m)) k)) v39 w5:=t39;have hb5:=bdrewn hg5.out;clear hg5
    simp only [finP,List.take_succ_cons,List.take_zero,Act.put,List.setIfInBounds_toArray,List.set_cons_succ,List.set_cons_zero];replace HB:=hD (bkeep2 HB.out hb5);have HT39:=hD t39;clear hb5 x0 y0 t39 t38 t34;refine wpAny_one (i:=9) (by kernel_rfl) rfl rfl ?_;go_simp;refine wpAny_end (by kernel_rfl) ?_;refine NoPan.thn ?_;go_wp2;go_ret
    exact ⟨⟨_,rfl,by rw [HN.out,if_pos trivial];exact HT39.out⟩,HB.out⟩
end
section
attribute [local go_sem] givesUpon_value givesUpon_skip givesUpon_enter
attribute [local go_sem 5000] run_neqR
theorem sMovedBy_v (A:Option Addr) (c k:Nat) (R:List Nr) (i u v a b:Int) (w:World) (hk:k=R.length) (h:NrV w A R) (hr:RdR w R) (hL:R.length≤1048576) (hm:∀ p∈R,p.n.cs.length≤1048576∧p.n.rs.length≤1048576) :
  Calls Tryz.prog 9 #[.agg #[.slice A k c],.int .i64 i,.int .i64 u,.int .i64 v,.int .i64 a,.int .i64 b] w fun e w'=>(∃ x,e=.returned x∧NR w' x (mvM (R.map Nr.n) i u v a b))∧Below w.heap.size w w':=by
 obtain ⟨ti,tz,ti1,ti2,ti3,ti4,ti5⟩:=int_infoW;have hB0:Below w.heap.size w (w.alloc (.cells #[.slice A k c] 30 (0,0))):=balloc (Below.refl _ _);have HX:=hD (newS w (.cells #[.slice A k c] 30 (0,0)));have HB:=hD hB0;have HV:=hD (h.keep hB0);have HR:=hD (hr.keep hB0);have HM:=hD hm;have HK:=hD hk;have x0:=cellS HX.out 0
 have hkl:k≤1048576:=by omega
 clear hB0 h hr hm hk
 cases hb:askB (R.map Nr.n) k i u v
 ·have HN:=hD (show mvM (R.map Nr.n) i u v a b=[] by unfold mvM;rw [List.length_map,<- HK.out,hb];rfl);have HBB:=hD hb;clear hb
  go_enter Tryz.func9,Tryz.ntmps9
  go_wp2_with fail
  with_reducible refine (goodWish_v A c k R i u v false _ HK.out HV.out HR.out hL HM.out HBB.out).mono ?_
  rintro e w1 ⟨rfl,hb⟩;clear x0;replace HB:=hD (bkeep2 HB.out hb);clear hb;go_wp2;go_ret;exact ⟨⟨_,rfl,by rw [HN.out];exact ⟨none,0,rfl,NV.nil _ _⟩⟩,HB.out⟩
 ·obtain ⟨ht,⟨i1,i2⟩,hu,hv⟩:=askB_iff.1 hb;obtain ⟨j,rfl⟩:=Int.eq_ofNat_of_zero_le i1
  have hj:j<R.length:=by have:=HK.out;omega
  have ht2:=askM_tree (j:=j) ht hu hv;have HT:=hD ht;have HT2:=hD (trOK_of ht2);have h10:=(tree_len ht).2;rw [List.length_map] at h10
  have hk10:k≤10:=by have:=HK.out;omega
  have HBB:=hD hb
  cases hg:rgG a b
  all_goals
   have HN:=hD (show mvM (R.map Nr.n) (j:Int) u v a b=if rgG a b=true then idsM (fun m=>neR (rcN (lrL (R.map Nr.n) a b k) m) (rcN (lrL (askM (R.map Nr.n) j u v) a b k) m)) k else [] by unfold mvM;rw [List.length_map,<- HK.out,hb,Bool.true_and,Int.toNat_natCast]);rw [hg] at HN;have HGG:=hD hg;clear hb ht hu hv ht2 i1 i2
   go_enter Tryz.func9,Tryz.ntmps9
   go_wp2_with fail
   with_reducible refine (goodWish_v A c k R (j:Int) u v true _ HK.out HV.out HR.out hL HM.out HBB.out).mono ?_
   rintro e w1 ⟨rfl,hb⟩;clear x0;replace HX:=hbk hb HX;replace HV:=hD (HV.out.keep hb);replace HR:=hD (HR.out.keep hb);replace HB:=hD (bkeep2 HB.out hb);clear hb
   go_wp2_with fail
   with_reducible refine (goodRoom_g a b _).mono ?_
   rintro e w2 ⟨rfl,rfl⟩;rw [hg];clear hg
  ·clear HV HR;go_wp2;go_ret;exact ⟨⟨_,rfl,by rw [HN.out];exact ⟨none,0,rfl,NV.nil _ _⟩⟩,HB.out⟩
  ·have HG:=hD (rgG_yes HGG.out);have x0:=cellS HX.out 0
   go_wp2_with fail
   with_reducible refine (slayout_v A c k R a b _ (trOK_of HT.out) HK.out HV.out HR.out HG.out.1 HG.out.2).mono ?_
   rintro e w2 ⟨⟨g,rfl,hgl,hre⟩,hb⟩;have HRE:=hD (show ReB w2 g (lrL (R.map Nr.n) a b k) from hre);clear x0 hre hgl;replace HX:=hbk hb HX;replace HV:=hD (HV.out.keep hb);replace HR:=hD (HR.out.keep hb);replace HB:=hD (bkeep2 HB.out hb);clear hb;have x0:=cellS HX.out 0
   go_wp2_with fail
   with_reducible refine (resized_v A c k R j u v _ HK.out HV.out HR.out hL HM.out hj).mono ?_
   rintro e w3 ⟨⟨x,rfl,hx⟩,hb⟩;clear x0 HV HR;replace HX:=hbk hb HX;replace HRE:=hD (HRE.out.keep hb);replace HB:=hD (bkeep2 HB.out hb);clear hb;obtain ⟨A2,c2,S,rfl,h1,h2,h3⟩:=hx.open
   have hsl:S.length=R.length:=by have:=congrArg List.length h3;rwa [List.length_map,askM_len,List.length_map] at this
   have HS2:=hD h3;have HSL:=hD (hsl.trans HK.out.symm);clear hx h3 hsl;rw [HSL.out]
   go_wp2_with fail
   with_reducible refine (slayout_v A2 c2 k S a b _ (by rw [HS2.out];exact HT2.out) HSL.out.symm h1 h2 HG.out.1 HG.out.2).mono ?_
   rintro e w4 ⟨⟨g2,rfl,hgl,hre⟩,hb⟩;rw [HS2.out] at hre;have HRE2:=hD (show ReB w4 g2 (lrL (askM (R.map Nr.n) j u v) a b k) from hre);clear hre hgl h1 h2;replace HX:=hbk hb HX;replace HRE:=hD (HRE.out.keep hb);replace HB:=hD (bkeep2 HB.out hb);clear hb
   obtain ⟨M,hM⟩:∃ M,lrL (R.map Nr.n) a b k=M:=⟨_,rfl⟩
   obtain ⟨N,hN⟩:∃ N,lrL (askM (R.map Nr.n) j u v) a b k=N:=⟨_,rfl⟩
   have HML:=hD (show M.length=k by rw [<- hM];exact lrL_len _ _ _ _);have HNL:=hD (show N.length=k by rw [<- hN];exact lrL_len _ _ _ _);have HTM:=hD (show mvM (R.map Nr.n) (j:Int) u v a b=idsM (fun m=>neR (rcN M m) (rcN N m)) k by rw [HN.out,if_pos trivial,hM,hN]);rw [hM] at HRE;rw [hN] at HRE2;clear hM hN HN HS2 HSL;have hs4:=HB.out.size
   have HO:=hD (show (w4.alloc (.cells #[] 3 (0,0))).ownsRow w4.heap.size 3 1 (.slice (some ⟨w4.heap.size,0,none⟩) 0 0) 0 (nvalsW []) from World.ownsRow_lit (base:=w4.heap.size) (e:=3) (size:=1) w4 #[] 0 (Nat.le_refl _) (by decide) rfl);have HB4:Hid (Below w4.heap.size w4 (w4.alloc (.cells #[] 3 (0,0)))):=hD (balloc (Below.refl _ _))
   go_wp2_with fail
   go_loopw [15,16] (fun out iv wr=>∃ m:Nat,m≤k∧iv=.int .i64 (m:Int)∧wr.ownsRow w4.heap.size 3 1 out (idsM (fun m=>neR (rcN M m) (rcN N m)) m).length (nvalsW (idsM (fun m=>neR (rcN M m) (rcN N m)) m))∧Below w4.heap.size w4 wr) (fun _ iv _=>k-(intOf iv).toNat)
   case atStart=>exact ⟨0,by omega,rfl,HO.out,HB4.out⟩
   case round =>
    obtain ⟨m,hm,rfl,ho,hbr⟩:=hrel;clear HO HB4
    by_cases hlt:m<k
    ·have hd:decide ((m:Int)<(k:Int))=true:=by simpa using hlt
     have hdn:(m:Int)<(k:Int):=by omega
     obtain ⟨S1,hS⟩:∃ S,M[m]?=some S:=⟨_,List.getElem?_eq_getElem (by rw [HML.out];omega)⟩
     obtain ⟨T1,hT⟩:∃ T,N[m]?=some T:=⟨_,List.getElem?_eq_getElem (by rw [HNL.out];omega)⟩
     have hre:=HRE.out.keep hbr;have hre2:=HRE2.out.keep hbr;obtain ⟨c0,c1,c2,c3⟩:=reB_cells hre hS;obtain ⟨d0,d1,d2,d3⟩:=reB_cells hre2 hT;have hl:=hre.lt;have hl2:=hre2.lt
     obtain ⟨q,hq⟩:∃ q,(!eqR S1.x S1.y S1.u S1.v T1.x T1.y T1.u T1.v)=q:=⟨_,rfl⟩
     have HQ:=hD (show neR (rcN M m) (rcN N m)=q by rw [rcN_at hS,rcN_at hT];exact hq);have HO:=hD ho;have HBR:=hD hbr;have hwr:=hbr.size;clear hS hT hre hre2 ho hbr
     go_wp2_with fail
     refine wp_region_grow 9 0 (·<9) (by kernel_rfl) (by kernel_rfl) rfl ?_
     iterate 9 (refine wpG_step (fun K hK=>?_);first|(refine grow_skip rfl ?_;go_simp;refine hK _ ?_;clear hK K)|(apply Exists.intro;refine ⟨.inl ⟨rfl,fun w' hw'=>?_⟩,?_⟩;(focus ((obtain ⟨hc,hf⟩:=bcell hw'.out);(have hcS:=bcellS hw'.out);go_simp <;> first | rfl | fail));(go_simp;refine hK _ ?_;clear hK K)))
     refine wpG_nil ?_;refine wpK_tail (by kernel_rfl) (fun w9 hg9=>?_);have hb9:=bdrewn hg9.out;refine wpAny_end (by kernel_rfl) ?_;refine NoPan.thn ?_;clear hg9;clear hq c0 c1 c2 c3 d0 d1 d2 d3;have HO9:=hD (own_bw HO.out hb9);have HB9:=hD (bkeep HBR.out hb9 hwr);have hsz9:=hb9.size;clear hb9 HO HBR
     cases q
     ·have HIDS:=hD (idsM_no (f:=fun m=>neR (rcN M m) (rcN N m)) (k:=m) HQ.out);go_wp2
      go_roundw
      case rel=>exact ⟨m+1,by omega,by go_num,by rw [HIDS.out];exact HO9.out,HB9.out⟩
      case measure=>simp [intOf];omega
     ·have HIDS:=hD (idsM_yes (f:=fun m=>neR (rcN M m) (rcN N m)) (k:=m) HQ.out);have hob:=HO9.out.lt;have hlen:=idsM_len (fun m=>neR (rcN M m) (rcN N m)) m
      go_wp2_with (at_builtin;refine wpList_append_own _ rfl _ _ 26 rfl w4.heap.size 3 ti tz 1 8 Tryz.underlying26 ti1 ti2 ti3 ti4 ti5 (by decide) _ _ _ rfl (HO9.out.alloc _) ⟨w9.heap.size,0,none⟩ 1 1 [.int .i64 (m:Int)] rfl rfl (newW _ _ _) (by simp [Value.oneCell']) (by simp only [maxLen];omega) (by omega) (by simp;omega) ?_)
      intro v5 w5 how5 hgr5 _;rw [nvalsW_snoc,<- HIDS.out] at how5
      have hlen5:(idsM (fun m=>neR (rcN M m) (rcN N m)) m).length+1=(idsM (fun m=>neR (rcN M m) (rcN N m)) (m+1)).length:=by rw [HIDS.out];simp
      rw [hlen5] at how5;have HO5:=hD how5;have HB5:=hD (below_own (n:=w4.heap.size) HB9.out hgr5 (lo:=w4.heap.size) (hi:=w9.heap.size) (fun k hk=>hob k hk) (Nat.le_refl _) (Nat.le_refl _));clear how5 hgr5 hob hlen5 HO9 HB9;go_wp2
      go_roundw
      case rel=>exact ⟨m+1,by omega,by go_num,HO5.out,HB5.out⟩
      case measure=>simp [intOf];omega
    ·have hd:decide ((m:Int)<(k:Int))=false:=decide_eq_false (by omega)
     obtain rfl:m=k:=by omega
     have HO:=hD ho;have HBR:=hD hbr;clear ho hbr;go_wp2;go_ret;exact ⟨⟨_,rfl,by rw [HTM.out];exact (GO.of HO.out (by rfl)).nr⟩,bkeep HB.out HBR.out hs4⟩
end
end Go.Proofs.YtmmfifgdgbmgjaaGreat
