import Derived.Test.YtfnpdlnepjhljaaGreatQC13
import Derived.WalkSpells
set_option linter.unusedVariables false
set_option linter.unusedSimpArgs false
set_option maxRecDepth 100000
set_option maxHeartbeats 16000000
namespace Go.Proofs.YtfnpdlnepjhljaaGreat
open Go.RowKit
attribute [local go_sem] growUpon_value growUpon_skip growUpon_enter
def wsL (f:Nat→Int × Int):Nat→List Int
 | 0=>[]
 | n+1=>wsL f n ++ [(f n).1,(f n).2]
theorem wsL_len (f:Nat→Int × Int):∀ n,(wsL f n).length=2*n
 | 0=>rfl
 | n+1=>by
  have:=wsL_len f n
  simp only [wsL,List.length_append,this,List.length_cons,List.length_nil];omega
theorem wsL_get {f:Nat→Int × Int}:∀ {n k:Nat},k<n→(wsL f n)[2*k]?=some (f k).1∧(wsL f n)[2*k+1]?=some (f k).2
 | n+1,k,h=>by
  have hl:=wsL_len f n;simp only [wsL]
  by_cases e:k=n
  ·subst e;rw [List.getElem?_append_right (by omega),List.getElem?_append_right (by omega),hl]
   simp
  ·obtain ⟨h1,h2⟩:=wsL_get (f:=f) (n:=n) (k:=k) (by omega);rw [List.getElem?_append_left (by omega),List.getElem?_append_left (by omega)];exact ⟨h1,h2⟩
theorem afAdd (b off n:Nat):(⟨b,off,none⟩:Addr).add n=⟨b,off+n,none⟩:=by
 unfold Addr.add
 split
 ·rename_i h;subst h;rfl
 ·rfl
theorem newW2 (W:World) (x y:Int) (T:TypeId):∀ (j:Nat) (u:Value),[Value.int .i64 x,Value.int .i64 y][j]?=some u→(W.alloc (.cells #[.int .i64 x,.int .i64 y] T)).cell? ((⟨W.heap.size,0,none⟩:Addr).add j)=some u:=fun j u h=>by
 rw [afAdd,Nat.zero_add];exact (cellS (newS W _) j).trans (by simpa using h)
theorem wantsOf_v (A:Option Addr) (c k:Nat) (R:List Nr) (w:World) (hT:TrOK (R.map Nr.n)) (hk:k=R.length) (h:NrV w A R) (hr:RdR w R) :
  Calls Tryz.prog 93 #[.agg #[.slice A k c]] w fun e w'=>(∃ v,e=.returned v∧NR w' v (wsL (szM (R.map Nr.n)) R.length))∧Below w.heap.size w w':=by
 obtain ⟨ti,tz,ti1,ti2,ti3,ti4,ti5⟩:=int_infoW
 have hL:R.length≤10:=by have:=hT.l10;rwa [List.length_map] at this
 have HSZ:=hD (show ∀ m W,m<R.length→Below w.heap.size w W→Calls Tryz.prog 68 #[.agg #[.slice A k c],.int .i64 (m:Int)] W fun e w'=>e=.returned (.tuple #[.int .i64 (szM (R.map Nr.n) m).1,.int .i64 (szM (R.map Nr.n) m).2])∧Below W.heap.size W w' from fun m W hm hW=>by
  rw [hk]
  exact sizeOf_v A c R hT R.length m W (by omega) hm (h.keep hW) (hr.keep hW))
 have HK:=hD hk;have hB0:Below w.heap.size w ((w.alloc (.cells #[.slice A k c] 25 (0,0))).alloc (.cells #[] 3 (0,0))):=(balloc (Below.refl _ _)).trans ((balloc (Below.refl _ _)).mono (by simp));have hX0:((w.alloc (.cells #[.slice A k c] 25 (0,0))).alloc (.cells #[] 3 (0,0))).heap[w.heap.size]?=some (.cells #[.slice A k c] 25 (0,0)):=(Below.heap_alloc _ _ _ (by simp)).trans (newS _ _)
 have hO0:((w.alloc (.cells #[.slice A k c] 25 (0,0))).alloc (.cells #[] 3 (0,0))).ownsRow (w.heap.size+1) 3 1 (.slice (some ⟨w.heap.size+1,0,none⟩) 0 0) 0 (nvalsW []):=by
  have:=World.ownsRow_lit (base:=w.heap.size+1) (e:=3) (size:=1) (w.alloc (.cells #[.slice A k c] 25 (0,0))) #[] 0 (by simp) (by decide) rfl
  rwa [World.size_alloc] at this
 have HB0:=hD hB0;have HX0:=hD hX0;have HO0:=hD hO0;clear h hr hk hB0 hX0 hO0
 go_enter Tryz.func93,Tryz.ntmps93
 go_wp2_with fail
 go_loopw [3,4] (fun out i wr=>∃ m:Nat,m≤k∧i=.int .i64 (m:Int)∧wr.ownsRow (w.heap.size+1) 3 1 out (2*m) (nvalsW (wsL (szM (R.map Nr.n)) m))∧wr.heap[w.heap.size]?=some (.cells #[.slice A k c] 25 (0,0))∧Below w.heap.size w wr) (fun _ i _=>k-(intOf i).toNat)
 case atStart=>exact ⟨0,by omega,rfl,HO0.out,HX0.out,HB0.out⟩
 case round =>
  obtain ⟨m,hm,rfl,ho,hx,hB⟩:=hrel;have HO:=hD ho;have HX:=hD hx;have HB:=hD hB;have x0:=cellS hx 0;have lx:=ltS hx;clear ho hx hB HO0 HX0 HB0
  by_cases hlt:m<k
  ·have hd:decide ((m:Int)<(k:Int))=true:=by simpa using hlt
   go_wp2_with fail
   with_reducible refine (HSZ.out m _ (by have:=HK.out;omega) HB.out).mono ?_
   rintro e w2 ⟨rfl,hb⟩;replace HO:=hD (own_bw HO.out hb);replace HX:=hD ((hb.block _ lx).trans HX.out);replace HB:=hD (bkeep2 HB.out hb);have hob:=HO.out.lt;have hsz:w.heap.size+1≤w2.heap.size:=ltS HX.out
   have hk10:k≤10:=by have:=HK.out;omega
   clear hb x0 lx hd
   obtain ⟨q1,hq1⟩:∃ q1,(szM (R.map Nr.n) m).1=q1:=⟨_,rfl⟩
   obtain ⟨q2,hq2⟩:∃ q2,(szM (R.map Nr.n) m).2=q2:=⟨_,rfl⟩
   rw [hq1,hq2];have HQ1:=hD hq1;have HQ2:=hD hq2;clear hq1 hq2
   go_wp2_with (at_builtin;refine wpList_append_own _ rfl _ _ 47 rfl (w.heap.size+1) 3 ti tz 1 8 Tryz.underlying47 ti1 ti2 ti3 ti4 ti5 (by decide) _ _ _ rfl (HO.out.alloc _) ⟨w2.heap.size,0,none⟩ 2 2 [.int .i64 q1,.int .i64 q2] rfl rfl (newW2 _ _ _ _) (by simp [Value.oneCell']) (by simp only [maxLen];omega) (by omega) (by simp;omega) ?_)
   intro v5 w5 how5 hgr5 _
   have hO5:w5.ownsRow (w.heap.size+1) 3 1 v5 (2*(m+1)) (nvalsW (wsL (szM (R.map Nr.n)) (m+1))):=by
    have e:nvalsW (wsL (szM (R.map Nr.n)) m) ++ [.int .i64 q1,.int .i64 q2]=nvalsW (wsL (szM (R.map Nr.n)) (m+1)):=by
     simp only [wsL,nvalsW,List.map_append,List.map_cons,List.map_nil,HQ1.out,HQ2.out]
    rw [e] at how5;exact how5
   have hX5:=(hgr5.block w.heap.size (by simp;omega) (fun e=>by have:=hob _ e.symm;omega)).trans ((Below.heap_alloc _ _ w.heap.size (by omega)).trans HX.out);have HB5:=hD (below_own (n:=w.heap.size) HB.out hgr5 (lo:=w.heap.size+1) (hi:=w2.heap.size) (fun k hk=>hob k hk) (by omega) (Nat.le_refl _));have HO5:=hD hO5;have HX5:=hD hX5;clear how5 hgr5 hob hO5 hX5 HB HO HX;go_wp2
   go_roundw
   case rel=>exact ⟨m+1,by omega,by go_num,HO5.out,HX5.out,HB5.out⟩
   case measure=>simp [intOf];omega
  ·have hd:decide ((m:Int)<(k:Int))=false:=decide_eq_false (by omega)
   obtain rfl:m=k:=by omega
   have hfin:∃ A' c',u3=.slice A' (2*m) c'∧NV wr A' (wsL (szM (R.map Nr.n)) m):=by
    rcases own_inW HO.out (wsL_len _ _).symm with ⟨rfl,hM⟩ | ⟨g,cap,rfl,hbg,hO⟩
    ·have h0:m=0:=by have:=wsL_len (szM (R.map Nr.n)) m;rw [hM] at this;simp at this;omega
     subst h0;exact ⟨none,0,rfl,NV.nil _ _⟩
    ·exact ⟨_,cap,rfl,hO.nv⟩
   obtain ⟨A',c',rfl,hnv⟩:=hfin;have HNV:=hD hnv;clear hnv HO;go_wp2;go_ret;exact ⟨⟨.slice A' (2*m) c',rfl,A',c',by rw [<- HK.out,wsL_len],by rw [<- HK.out];exact HNV.out⟩,HB.out⟩
section
theorem indicesCu_v (n:Nat) (f:Nat→Bool) (caps:Array Value) (w:World) (hn:n≤1048576)
  (hf:∀ k,k<n→∀ W,Below w.heap.size w W→Calls Tryz.prog 91 (#[.int .i64 (k:Int)] ++ caps) W fun e W'=>e=.returned (.bool (f k))∧Below W.heap.size W W') :
  Calls Tryz.prog 81 #[.int .i64 (n:Int),.func (.func 91) #[] caps] w fun e w'=>(∃ v,e=.returned v∧GO w.heap.size w' v (idsM f n))∧Below w.heap.size w w' :=
 (indicesG_v 91 (enters_of Tryz.func91 (by kernel_rfl) rfl) n f caps w hn hf).mono fun e w' ⟨⟨v,h1,h2⟩,h3⟩=>⟨⟨v,h1,GO.of h2 rfl⟩,h3⟩
theorem eqNilR (A:Option Addr) (n c:Nat) (w:World):(binOp .eql 28 (.slice A n c) (.slice none 0 0)).run Tryz.prog w=.ok (.bool A.isNone) w:=Lib.run_eql_slice_nil w _ _ A n c 0 0 Tryz.underlying28
attribute [local go_sem] eqNilR
def cutF (L:List Nd) (M:List Re) (i:Nat):Bool:=decide (0<i)&&!(decide ((szM L i).1≤(rcN M i).u)&&decide ((szM L i).2≤(rcN M i).v))
def cutM (L:List Nd) (a b:Int):List Int:=idsM (cutF L (lyL L a b)) (lyL L a b).length
theorem cutM_len (L:List Nd) (a b:Int):(cutM L a b).length≤10:=Nat.le_trans (idsM_len _ _) (lyL_len _ _ _)
theorem fits_v (s t x y u v:Int) (bb:Bool) (w:World) (h:(decide (s≤u)&&decide (t≤v))=bb):Calls Tryz.prog 92 #[.agg #[.int .i64 s,.int .i64 t],.agg #[.int .i64 (x),.int .i64 (y),.int .i64 (u),.int .i64 (v)]] w fun e w'=>e=.returned (.bool bb)∧Below w.heap.size w w':=by
 subst h
 by_cases g1:s≤u <;> by_cases g2:t≤v
 all_goals
  go_enter Tryz.func92,Tryz.ntmps92
  go_wp2;go_ret;exact ⟨ret_bool (by simp [g1,g2]),(by repeat (first | with_reducible exact Below.refl _ _ | with_reducible assumption | with_reducible refine balloc ?_|(with_reducible refine bset ?_ ?_;rotate_left;((try dsimp only);omega)) | refine bkeep2 ?_ (by assumption) | with_reducible refine Below.drew ?_))⟩
theorem cut1_v (R:List Nr) (M:List Re) (ga g i ba br:Nat) (w:World) (hA:RbK 2 w ga 82 ((List.range R.length).map fun k=>valsWi (szM (R.map Nr.n) k))) (hM:ReB w g M) (hMR:M.length=R.length) (hi:i<R.length) (ht:w.cell? ⟨ba,0,none⟩=some (.slice (some ⟨ga,0,none⟩) R.length R.length)) (hr:w.cell? ⟨br,0,none⟩=some (.slice (some ⟨g,0,none⟩) R.length R.length)) (lta:ba<w.heap.size) (ltr:br<w.heap.size) :
  Calls Tryz.prog 91 #[.int .i64 (i:Int),.pointer (some ⟨ba,0,none⟩),.pointer (some ⟨br,0,none⟩)] w fun e w'=>e=.returned (.bool (cutF (R.map Nr.n) M i))∧Below w.heap.size w w':=by
 rcases Nat.eq_zero_or_pos i with rfl | h0
 ·rw [show cutF (R.map Nr.n) M 0=false from rfl];clear hA hM
  go_enter Tryz.func91,Tryz.ntmps91
  go_wp2_with fail
  refine wp_region_grow 14 1 (·<14) (by kernel_rfl) (by kernel_rfl) rfl ?_
  iterate 14 (refine wpG_step (fun K hK=>?_);first|(refine grow_skip rfl ?_;go_simp;refine hK _ ?_;clear hK K)|(apply Exists.intro;refine ⟨.inl ⟨rfl,fun w' hw'=>?_⟩,?_⟩;(focus ((obtain ⟨hc,hf⟩:=bcell hw'.out);(have hcS:=bcellS hw'.out);go_simp <;> first | rfl));(go_simp;refine hK _ ?_;clear hK K)))
  refine wpG_nil ?_;refine wpK_tail (by kernel_rfl) (fun wa hga=>?_);have hba:=bdrewn hga.out;obtain ⟨hca,hfa⟩:=bcell hba;refine wpAny_one (i:=14) (by kernel_rfl) rfl rfl ?_;go_simp;refine wpAny_end (by kernel_rfl) ?_;refine NoPan.thn ?_;clear hca hfa;clear hga;go_wp2;go_ret;exact ⟨rfl,hba⟩
 ·obtain ⟨S,hS⟩:∃ S,M[i]?=some S:=⟨_,List.getElem?_eq_getElem (by omega)⟩
  rw [show cutF (R.map Nr.n) M i=!(decide ((szM (R.map Nr.n) i).1≤S.u)&&decide ((szM (R.map Nr.n) i).2≤S.v)) by unfold cutF;rw [rcN_at hS,decide_eq_true h0,Bool.true_and]];obtain ⟨c0,c1,c2,c3⟩:=reB_cells hM hS;obtain ⟨y0,y1⟩:=WsV.at (lo:=0) hA hi;have hl:=hM.lt
  have hla:ga<w.heap.size:=by obtain ⟨cs,hh,_⟩:=hA;exact ltS hh
  have hd:decide ((i:Int)>0)=true:=by simpa using h0
  have hd1:(i:Int)<(R.length:Int):=by omega
  clear hA hM hS;generalize hbb:(decide ((szM (R.map Nr.n) i).1≤S.u)&&decide ((szM (R.map Nr.n) i).2≤S.v))=bb;have HBB:=hD hbb;clear hbb
  go_enter Tryz.func91,Tryz.ntmps91
  go_wp2_with fail
  refine wp_region_grow 14 1 (·<14) (by kernel_rfl) (by kernel_rfl) rfl ?_
  iterate 14 (refine wpG_step (fun K hK=>?_);first|(refine grow_skip rfl ?_;go_simp;refine hK _ ?_;clear hK K)|(apply Exists.intro;refine ⟨.inl ⟨rfl,fun w' hw'=>?_⟩,?_⟩;(focus ((obtain ⟨hc,hf⟩:=bcell hw'.out);(have hcS:=bcellS hw'.out);go_simp <;> first | rfl|(go_at_call 92;exact fits_v _ _ _ _ _ _ _ _ HBB.out)));(go_simp;refine hK _ ?_;clear hK K)))
  refine wpG_nil ?_;refine wpK_tail (by kernel_rfl) (fun wa hga=>?_);have hba:=bdrewn hga.out;obtain ⟨hca,hfa⟩:=bcell hba;refine wpAny_one (i:=14) (by kernel_rfl) rfl rfl ?_;go_simp;refine wpAny_end (by kernel_rfl) ?_;refine NoPan.thn ?_;clear hca hfa;clear hga;go_wp2;go_ret;exact ⟨rfl,hba⟩
theorem CutNodes_v (A:Option Addr) (c k:Nat) (R:List Nr) (a b:Int) (w:World) (hk:k=R.length) (h:NrV w A R) (hr:RdR w R) (hL:R.length≤1048576) (hm:∀ p∈R,p.n.cs.length≤1048576∧p.n.rs.length≤1048576) :
  Calls Tryz.prog 49 #[.agg #[.slice A k c],.int .i64 a,.int .i64 b] w fun e w'=>(∃ x,e=.returned x∧GO w.heap.size w' x (cutM (R.map Nr.n) a b))∧Below w.heap.size w w':=by
 have hB0:Below w.heap.size w (w.alloc (.cells #[.slice A k c] 25 (0,0))):=balloc (Below.refl _ _);have HX:=hD (newS w (.cells #[.slice A k c] 25 (0,0)));have HB:=hD hB0;have HV:=hD (h.keep hB0);have HR:=hD (hr.keep hB0);have HM:=hD hm;have HK:=hD hk;have x0:=cellS HX.out 0;clear hB0 h hr hm hk
 go_enter Tryz.func49,Tryz.ntmps49
 go_wp2_with fail
 with_reducible refine (LayoutTree_x A c k R a b _ HK.out HV.out HR.out hL HM.out).mono ?_
 rintro e w1 ⟨⟨x,rfl,hx,hnil⟩,hb⟩;clear x0;replace HX:=hbk hb HX;replace HV:=hD (HV.out.keep hb);replace HR:=hD (HR.out.keep hb);replace HB:=hD (bkeep2 HB.out hb);clear hb;have hok:=lyL_ok (L:=R.map Nr.n) (a:=a) (b:=b);have hlen:=lyL_len (R.map Nr.n) a b
 obtain ⟨M,hM⟩:∃ M,lyL (R.map Nr.n) a b=M:=⟨_,rfl⟩
 have HCP:=hD (show cutM (R.map Nr.n) a b=idsM (cutF (R.map Nr.n) M) M.length by unfold cutM;rw [hM]);rw [hM] at hx hok hlen hnil;clear hM;have hsz:w.heap.size≤w1.heap.size:=HB.out.size;have ltx:=ltS HX.out
 rcases Nat.eq_zero_or_pos M.length with hz | hz
 ·obtain rfl:=hnil hz;have HZ:=hD hz;clear hx hok hnil hz HV HR
  go_upto_region 2 with (fail)
  refine wp_genGG (fun W=>W.heap[w1.heap.size]?=some (.cells #[.slice none 0 0] 28 (0,0))∧Below w1.heap.size w1 W) ?g1 (fun W h=>?_)
  case g1=>exact ⟨newS _ _,balloc (Below.refl _ _)⟩
  obtain ⟨h1,hb⟩:=h;have x1:=cellS h1 0;replace HB:=hD (bkeep2 HB.out hb);clear h1 hb;go_wp2;go_ret;exact ⟨⟨_,rfl,.inl ⟨rfl,by rw [HCP.out,HZ.out];rfl⟩⟩,HB.out⟩
 ·obtain ⟨hT,hMR,hLw⟩:=hok hz;obtain ⟨A1,rfl,hx1⟩:=hx.sl;obtain ⟨g,rfl,hg,hre⟩:=hx1 hz;rw [List.length_map] at hMR;have HRE:=hD hre;have HT:=hD hT;have HMR:=hD hMR;clear hx hx1 hok hnil hre hT hMR hLw hg;rw [HMR.out]
  go_upto_region 2 with (fail)
  refine wp_genGG (fun W=>W.heap[w1.heap.size]?=some (.cells #[.slice (some ⟨g,0,none⟩) R.length R.length] 28 (0,0))∧Below w1.heap.size w1 W) ?g1 (fun W h=>?_)
  case g1=>exact ⟨newS _ _,balloc (Below.refl _ _)⟩
  obtain ⟨h1,hb⟩:=h;have HY:=hD h1;have x1:=cellS h1 0;have HX0:=hD ((hb.block _ ltx).trans HX.out);have x0:=cellS HX0.out 0;have hsW:w1.heap.size≤W.heap.size:=hb.size;replace HV:=hD (HV.out.keep hb);replace HR:=hD (HR.out.keep hb);replace HRE:=hD (HRE.out.keep hb);replace HB:=hD (bkeep2 HB.out hb);clear h1 hb HX
  go_wp2_with fail
  with_reducible refine (requests_v A c k R _ HT.out HK.out HV.out HR.out).mono ?_
  rintro e w2 ⟨⟨v,rfl,ga,rfl,hga,hws⟩,hb⟩;have HW:=hD hws;replace HY:=hD ((hb.block _ (ltS HY.out)).trans HY.out);replace HRE:=hD (HRE.out.keep hb);have hs2:W.heap.size≤w2.heap.size:=hb.size;replace HB:=hD (bkeep2 HB.out hb);clear hws hb x0 x1 HX0 HV HR;have x1:=cellS HY.out 0;have lty:=ltS HY.out
  go_upto_region 5 with (fail)
  refine wp_genGG (fun W=>W.heap[w2.heap.size]?=some (.cells #[.slice (some ⟨ga,0,none⟩) R.length R.length] 83 (0,0))∧Below w2.heap.size w2 W) ?g2 (fun W3 h=>?_)
  case g2=>exact ⟨newS _ _,balloc (Below.refl _ _)⟩
  obtain ⟨h1,hb⟩:=h;have HZ:=hD h1;have z1:=cellS h1 0;replace HY:=hD ((hb.block _ lty).trans HY.out);replace HRE:=hD (HRE.out.keep hb);replace HW:=hD (HW.out.keep hb);have hs3:w2.heap.size≤W3.heap.size:=hb.size;replace HB:=hD (bkeep2 HB.out hb);clear h1 hb x1;have x1:=cellS HY.out 0
  go_wp2_with fail
  refine (indicesCu_v R.length (cutF (R.map Nr.n) M) #[.pointer (some ⟨w2.heap.size,0,none⟩),.pointer (some ⟨w1.heap.size,0,none⟩)] _ (by omega) (fun i hi W2 hW=>?_)).mono ?_
  ·exact cut1_v R M ga g i _ _ W2 (HW.out.keep hW) (HRE.out.keep hW) HMR.out hi (cellS ((hW.block _ (ltS HZ.out)).trans HZ.out) 0) (cellS ((hW.block _ (ltS HY.out)).trans HY.out) 0) (Nat.lt_of_lt_of_le (ltS HZ.out) hW.size) (Nat.lt_of_lt_of_le (ltS HY.out) hW.size)
  rintro e w4 ⟨⟨v,rfl,hv⟩,hb2⟩;have HG:=hD (hv.mono (show w.heap.size≤W3.heap.size by omega));replace HB:=hD (bkeep2 HB.out hb2);clear hv hb2 x1 z1 HY HZ HW HRE;go_wp2;go_ret;exact ⟨⟨v,rfl,by rw [HCP.out,HMR.out];exact HG.out⟩,HB.out⟩
theorem sCutNodes_v (A:Option Addr) (c k:Nat) (R:List Nr) (a b:Int) (w:World) (hk:k=R.length) (h:NrV w A R) (hr:RdR w R) (hL:R.length≤1048576) (hm:∀ p∈R,p.n.cs.length≤1048576∧p.n.rs.length≤1048576) :
  Calls Tryz.prog 50 #[.agg #[.slice A k c],.int .i64 a,.int .i64 b] w fun e w'=>(∃ x,e=.returned x∧NR w' x (cutM (R.map Nr.n) a b))∧Below w.heap.size w w':=by
 obtain ⟨ti,tz,ti1,ti2,ti3,ti4,ti5⟩:=int_infoW;have hB0:Below w.heap.size w (w.alloc (.cells #[.slice A k c] 25 (0,0))):=balloc (Below.refl _ _);have HX:=hD (newS w (.cells #[.slice A k c] 25 (0,0)));have HB:=hD hB0;have HV:=hD (h.keep hB0);have HR:=hD (hr.keep hB0);have HM:=hD hm;have HK:=hD hk;have x0:=cellS HX.out 0;clear hB0 h hr hm hk
 cases ht:treeB (R.map Nr.n)
 ·rw [show cutM (R.map Nr.n) a b=[] by simp [cutM,lyL,ht];rfl];have HT:=hD ht;clear ht
  go_enter Tryz.func50,Tryz.ntmps50
  go_wp2_with fail
  with_reducible refine (svalidTree_n A c k R false _ HK.out HV.out HR.out hL HM.out HT.out).mono ?_
  rintro e w1 ⟨rfl,hb⟩;clear x0;replace HX:=hbk hb HX;replace HB:=hD (bkeep2 HB.out hb);clear hb;have x0:=cellS HX.out 0;go_wp2;go_ret;exact ⟨⟨_,rfl,⟨none,0,rfl,NV.nil _ _⟩⟩,HB.out⟩
 ·cases hg:rgG a b
  ·rw [show cutM (R.map Nr.n) a b=[] by simp [cutM,lyL,hg];rfl];have HT:=hD ht;clear ht
   go_enter Tryz.func50,Tryz.ntmps50
   go_wp2_with fail
   with_reducible refine (svalidTree_n A c k R true _ HK.out HV.out HR.out hL HM.out HT.out).mono ?_
   rintro e w1 ⟨rfl,hb⟩;clear x0;replace HX:=hbk hb HX;replace HB:=hD (bkeep2 HB.out hb);clear hb;have x0:=cellS HX.out 0
   go_wp2_with fail
   with_reducible refine (goodRoom_g a b _).mono ?_
   rintro e w2 ⟨rfl,rfl⟩;rw [hg];clear hg;go_wp2;go_ret;exact ⟨⟨_,rfl,⟨none,0,rfl,NV.nil _ _⟩⟩,HB.out⟩
  ·have hok:=lyL_ok (L:=R.map Nr.n) (a:=a) (b:=b)
   have hly:lyL (R.map Nr.n) a b=(List.range k).map (lrM (R.map Nr.n) a b):=by simp [lyL,ht,hg,HK.out]
   unfold cutM
   have hk1:1≤k:=by have:=(trOK_of ht).l1;rw [List.length_map] at this;have:=HK.out;omega
   obtain ⟨M,hM⟩:∃ M,(List.range k).map (lrM (R.map Nr.n) a b)=M:=⟨_,rfl⟩
   have hml:M.length=k:=by rw [<- hM,List.length_map,List.length_range]
   rw [hly,hM] at hok;rw [hly,hM];have HMM:=hD hM;clear hM;obtain ⟨hT,hMR,hLw⟩:=hok (by omega);rw [List.length_map] at hMR;rw [hMR,<- HK.out];have HT:=hD ht;have HG:=hD (rgG_yes hg);have HLW:=hD (And.intro hMR hLw);clear ht hly hT hMR hLw
   go_enter Tryz.func50,Tryz.ntmps50
   go_wp2_with fail
   with_reducible refine (svalidTree_n A c k R true _ HK.out HV.out HR.out hL HM.out HT.out).mono ?_
   rintro e w1 ⟨rfl,hb⟩;clear x0;replace HX:=hbk hb HX;replace HV:=hD (HV.out.keep hb);replace HR:=hD (HR.out.keep hb);replace HB:=hD (bkeep2 HB.out hb);clear hb;have x0:=cellS HX.out 0
   go_wp2_with fail
   with_reducible refine (goodRoom_g a b _).mono ?_
   rintro e w2 ⟨rfl,rfl⟩;rw [hg];clear hg
   go_wp2_with fail
   with_reducible refine (slayout_v A c k R a b _ (trOK_of HT.out) HK.out HV.out HR.out HG.out.1 HG.out.2).mono ?_
   rintro e w3 ⟨⟨g,rfl,hgl,hre⟩,hb⟩;have HRE:=hD hre;clear x0 hre hgl;replace HX:=hbk hb HX;replace HV:=hD (HV.out.keep hb);replace HR:=hD (HR.out.keep hb);replace HB:=hD (bkeep2 HB.out hb);clear hb;have x0:=cellS HX.out 0;rw [HMM.out] at HRE
   go_wp2_with fail
   with_reducible refine (wantsOf_v A c k R _ (trOK_of HT.out) HK.out HV.out HR.out).mono ?_
   rintro e w4 ⟨⟨x,rfl,A4,c4,rfl,hnv⟩,hb⟩;have HNV:=hD hnv;clear x0 hnv HR;replace HX:=hbk hb HX;replace HV:=hD (HV.out.keep hb);replace HRE:=hD (HRE.out.keep hb);replace HB:=hD (bkeep2 HB.out hb);clear hb
   obtain ⟨n4,hn4⟩:∃ n4,(wsL (szM (R.map Nr.n)) R.length).length=n4:=⟨_,rfl⟩
   rw [hn4];have HN4:=hD hn4;clear hn4;have HO:=hD (show (w4.alloc (.cells #[] 3 (0,0))).ownsRow w4.heap.size 3 1 (.slice (some ⟨w4.heap.size,0,none⟩) 0 0) 0 (nvalsW []) from World.ownsRow_lit (base:=w4.heap.size) (e:=3) (size:=1) w4 #[] 0 (by simp) (by decide) rfl);have hsz:w.heap.size≤w4.heap.size:=HB.out.size;have ltx:=ltS HX.out;have lt3:w.heap.size<w4.heap.size:=ltx
   go_wp2_with fail
   go_loopw [9,10] (fun out iv wr=>∃ i:Nat,1≤i∧i≤k∧iv=.int .i64 (i:Int)∧wr.ownsRow w4.heap.size 3 1 out (idsM (cutF (R.map Nr.n) M) i).length (nvalsW (idsM (cutF (R.map Nr.n) M) i))∧Below w4.heap.size w4 wr) (fun _ iv _=>k-(intOf iv).toNat)
   case atStart=>exact ⟨1,Nat.le_refl _,hk1,rfl,HO.out,balloc (Below.refl _ _)⟩
   case round =>
    obtain ⟨i,hi1,hik,rfl,ho,hbr⟩:=hrel;clear HO;have HO:=hD ho;have HBR:=hD hbr;have hob:=ho.lt;have hw4:w4.heap.size≤wr.heap.size:=hbr.size;have HX1:=hD ((hbr.block _ lt3).trans HX.out);have x0:=cellS HX1.out 0;have hil:=idsM_len (cutF (R.map Nr.n) M) i
    by_cases hlt:i<k
    ·have hd:decide ((i:Int)<(k:Int))=true:=decide_eq_true (by omega)
     have hdi:(i:Int)<(k:Int):=by omega
     have hi:i<R.length:=by have:=HK.out;omega
     have hMR:=HLW.out.1
     obtain ⟨S,hS⟩:∃ S,M[i]?=some S:=⟨_,List.getElem?_eq_getElem (by omega)⟩
     have hcl:cutF (R.map Nr.n) M i=!(decide ((szM (R.map Nr.n) i).1≤S.u)&&decide ((szM (R.map Nr.n) i).2≤S.v)):=by unfold cutF;rw [rcN_at hS,decide_eq_true (show 0<i from hi1),Bool.true_and]
     have hre:=HRE.out.keep hbr;obtain ⟨c0,c1,c2,c3⟩:=reB_cells hre hS;have hwl:=wsL_len (szM (R.map Nr.n)) R.length;rw [HN4.out] at hwl;obtain ⟨g1,g2⟩:=wsL_get (f:=szM (R.map Nr.n)) hi;obtain ⟨b4,o4,rfl,hb4,hc4⟩:=(HNV.out.keep hbr).cells (by rw [HN4.out];omega);have y0:=hc4 (2*i) _ g1;have y1:=hc4 (2*i+1) _ g2;generalize szM (R.map Nr.n) i=q at *;obtain ⟨q1,q2⟩:=q
     dsimp only at y0 y1 hcl
     obtain ⟨j1,hj1⟩:∃ j1:Nat,2*i=j1:=⟨_,rfl⟩
     obtain ⟨j2,hj2⟩:∃ j2:Nat,2*i+1=j2:=⟨_,rfl⟩
     rw [hj1] at y0;rw [hj2] at y1
     have hm1:(2:Int)*(i:Int)=(j1:Int):=by omega
     have hm2:(j1:Int)+1=(j2:Int):=by omega
     have hm3:(j1:Int)<(n4:Int):=by have:=HK.out;omega
     have hm4:(j2:Int)<(n4:Int):=by have:=HK.out;omega
     have hm5:(j2:Int)≤21:=by have:=HK.out;have:=(trOK_of HT.out).l10;rw [List.length_map] at this;omega
     have hw1:IntKind.i64.wrap (j1:Int)=(j1:Int):=IntWalk.i64_in _ (by omega);have hw2:IntKind.i64.wrap (j2:Int)=(j2:Int):=IntWalk.i64_in _ (by omega);clear hj1 hj2 hwl;have hl:=hre.lt;obtain ⟨bl,off,rfl,hbl,hps⟩:=(HV.out.keep hbr).cells (by omega)
     have hk10:k≤10:=by have:=(trOK_of HT.out).l10;rw [List.length_map] at this;have:=HK.out;omega
     clear hre hps hS hbr ho hMR hc4 g1 g2
     by_cases g1:S.u<q1
     ·have hd3:decide (S.u<q1)=true:=decide_eq_true g1;have hids:=idsM_yes (hcl.trans (by rw [decide_eq_false (by omega)];rfl));have HIDS:=hD hids;clear hcl hids
      go_wp2_with fail
      refine wp_region_grow 25 0 (·<25) (by kernel_rfl) (by kernel_rfl) rfl ?_
      iterate 25 (refine wpG_step (fun K hK=>?_);first|(refine grow_skip rfl ?_;go_simp;refine hK _ ?_;clear hK K)|(apply Exists.intro;refine ⟨.inl ⟨rfl,fun w' hw'=>?_⟩,?_⟩;(focus ((obtain ⟨hc,hf⟩:=bcell hw'.out);(have hcS:=bcellS hw'.out);go_simp <;> first | rfl));(go_simp;refine hK _ ?_;clear hK K)))
      refine wpG_nil ?_;refine wpK_tail (by kernel_rfl) (fun w5 hg5=>?_);have hb5:=bdrewn hg5.out;refine wpAny_end (by kernel_rfl) ?_;refine NoPan.thn ?_;clear hg5;clear c0 c1 c2 c3 y0 y1 x0;replace HO:=hD (own_bw HO.out hb5);replace HBR:=hD (bkeep HBR.out hb5 hw4);have hob5:=HO.out.lt;have hw5:w4.heap.size≤w5.heap.size:=HBR.out.size;clear hb5 hob
      go_wp2_with (at_builtin;refine wpList_append_own _ rfl _ _ 47 rfl w4.heap.size 3 ti tz 1 8 Tryz.underlying47 ti1 ti2 ti3 ti4 ti5 (by decide) _ _ _ rfl (HO.out.alloc _) ⟨w5.heap.size,0,none⟩ 1 1 [.int .i64 (i:Int)] rfl rfl (newW _ _ _) (by simp [Value.oneCell']) (by simp only [maxLen];omega) (by omega) (by simp;omega) ?_)
      intro v6 w6 how6 hgr6 _;rw [nvalsW_snoc,<- HIDS.out] at how6;have HB6:=hD (below_own (n:=w4.heap.size) HBR.out hgr6 (lo:=w4.heap.size) (hi:=w5.heap.size) hob5 (Nat.le_refl _) (Nat.le_refl _));have HO6:=hD how6;have hx6:=hD ((HB6.out.block _ lt3).trans HX.out);have x6:=cellS hx6.out 0
      have hl6:(idsM (cutF (R.map Nr.n) M) i).length+1=(idsM (cutF (R.map Nr.n) M) (i+1)).length:=by rw [HIDS.out];simp
      have HL6:=hD hl6;clear how6 hgr6 hob5 HO HBR hl6;go_wp2
      go_roundw
      case rel=>exact ⟨i+1,by omega,by omega,by go_num,by have:=HO6.out;rwa [<- HL6.out],HB6.out⟩
      case measure=>simp [intOf];omega
     ·have hd3:decide (S.u<q1)=false:=decide_eq_false g1
      by_cases g2:S.v<q2
      ·have hd4:decide (S.v<q2)=true:=decide_eq_true g2;have hids:=idsM_yes (hcl.trans (by rw [decide_eq_true (show q1≤S.u by omega),decide_eq_false (show ¬ q2≤S.v by omega)];rfl));have HIDS:=hD hids;clear hcl hids
       go_wp2_with fail
       refine wp_region_grow 25 0 (·<25) (by kernel_rfl) (by kernel_rfl) rfl ?_
       iterate 25 (refine wpG_step (fun K hK=>?_);first|(refine grow_skip rfl ?_;go_simp;refine hK _ ?_;clear hK K)|(apply Exists.intro;refine ⟨.inl ⟨rfl,fun w' hw'=>?_⟩,?_⟩;(focus ((obtain ⟨hc,hf⟩:=bcell hw'.out);(have hcS:=bcellS hw'.out);go_simp <;> first | rfl));(go_simp;refine hK _ ?_;clear hK K)))
       refine wpG_nil ?_;refine wpK_tail (by kernel_rfl) (fun w5 hg5=>?_);have hb5:=bdrewn hg5.out;refine wpAny_end (by kernel_rfl) ?_;refine NoPan.thn ?_;clear hg5;clear c0 c1 c2 c3 y0 y1 x0;replace HO:=hD (own_bw HO.out hb5);replace HBR:=hD (bkeep HBR.out hb5 hw4);have hob5:=HO.out.lt;have hw5:w4.heap.size≤w5.heap.size:=HBR.out.size;clear hb5 hob
       go_wp2_with (at_builtin;refine wpList_append_own _ rfl _ _ 47 rfl w4.heap.size 3 ti tz 1 8 Tryz.underlying47 ti1 ti2 ti3 ti4 ti5 (by decide) _ _ _ rfl (HO.out.alloc _) ⟨w5.heap.size,0,none⟩ 1 1 [.int .i64 (i:Int)] rfl rfl (newW _ _ _) (by simp [Value.oneCell']) (by simp only [maxLen];omega) (by omega) (by simp;omega) ?_)
       intro v6 w6 how6 hgr6 _;rw [nvalsW_snoc,<- HIDS.out] at how6;have HB6:=hD (below_own (n:=w4.heap.size) HBR.out hgr6 (lo:=w4.heap.size) (hi:=w5.heap.size) hob5 (Nat.le_refl _) (Nat.le_refl _));have HO6:=hD how6;have hx6:=hD ((HB6.out.block _ lt3).trans HX.out);have x6:=cellS hx6.out 0
       have hl6:(idsM (cutF (R.map Nr.n) M) i).length+1=(idsM (cutF (R.map Nr.n) M) (i+1)).length:=by rw [HIDS.out];simp
       have HL6:=hD hl6;clear how6 hgr6 hob5 HO HBR hl6;go_wp2
       go_roundw
       case rel=>exact ⟨i+1,by omega,by omega,by go_num,by have:=HO6.out;rwa [<- HL6.out],HB6.out⟩
       case measure=>simp [intOf];omega
      ·have hd4:decide (S.v<q2)=false:=decide_eq_false g2;have hids:=idsM_no (hcl.trans (by rw [decide_eq_true (show q1≤S.u by omega),decide_eq_true (show q2≤S.v by omega)];rfl));have HIDS:=hD hids;clear hcl hids
       go_wp2_with fail
       refine wp_region_grow 25 0 (·<25) (by kernel_rfl) (by kernel_rfl) rfl ?_
       iterate 25 (refine wpG_step (fun K hK=>?_);first|(refine grow_skip rfl ?_;go_simp;refine hK _ ?_;clear hK K)|(apply Exists.intro;refine ⟨.inl ⟨rfl,fun w' hw'=>?_⟩,?_⟩;(focus ((obtain ⟨hc,hf⟩:=bcell hw'.out);(have hcS:=bcellS hw'.out);go_simp <;> first | rfl));(go_simp;refine hK _ ?_;clear hK K)))
       refine wpG_nil ?_;refine wpK_tail (by kernel_rfl) (fun w5 hg5=>?_);have hb5:=bdrewn hg5.out;refine wpAny_end (by kernel_rfl) ?_;refine NoPan.thn ?_;clear hg5;clear c0 c1 c2 c3 y0 y1 x0;replace HO:=hD (own_bw HO.out hb5);replace HBR:=hD (bkeep HBR.out hb5 hw4);clear hb5 hob;go_wp2
       go_roundw
       case rel=>exact ⟨i+1,by omega,by omega,by go_num,by rw [HIDS.out];exact HO.out,HBR.out⟩
       case measure=>simp [intOf];omega
    ·obtain rfl:i=k:=by omega
     have hd:decide ((i:Int)<(i:Int))=false:=by simp
     obtain ⟨b0,off,rfl,-⟩:=HV.out.cells (by have:=HK.out;omega);go_wp2;go_ret;exact ⟨⟨_,rfl,(GO.of HO.out (by rfl)).nr⟩,bkeep HB.out hbr hsz⟩
end
theorem equalInts_z (v v':Value) (L:List Int) (w:World) (h:NR w v L) (h':NR w v' L) (hL:L.length≤1048576) :
  Calls Tryz.prog 21 #[v,v'] w fun e w'=>e=.returned (.bool true)∧Below w.heap.size w w':=by
 obtain ⟨A,c,rfl,h⟩:=h;obtain ⟨B,c',rfl,h'⟩:=h'
 go_enter Tryz.func21,Tryz.ntmps21
 go_wp2_with fail
 go_loopw [5] (fun i wr=>∃ k:Nat,k≤L.length∧i=.int .i64 k∧Below w.heap.size w wr) (fun i _=>L.length-(intOf i).toNat)
 case atStart=>exact ⟨0,by omega,rfl,Below.refl _ _⟩
 case round =>
  obtain ⟨k,hk,rfl,hB⟩:=hrel
  by_cases hlt:k<L.length
  ·have hd:decide ((k:Int)<(L.length:Int))=true:=by simpa using hlt
   obtain ⟨b,off,rfl,hb,hp⟩:=(h.keep hB).cells (by omega);obtain ⟨b',off',rfl,hb',hp'⟩:=(h'.keep hB).cells (by omega);have hget:L[k]?=some L[k]:=List.getElem?_eq_getElem hlt;have c0:=hp k _ hget;have d0:=hp' k _ hget;generalize hx:L[k]=x at *;have HB:=hD hB;clear hget hx hp hp' hB
   go_wp2_with fail
   refine wp_region_grow 9 0 (·<9) (by kernel_rfl) (by kernel_rfl) rfl ?_
   iterate 9 (refine wpG_step (fun K hK=>?_);first|(refine grow_skip rfl ?_;go_simp;refine hK _ ?_;clear hK K)|(apply Exists.intro;refine ⟨.inl ⟨rfl,fun w' hw'=>?_⟩,?_⟩;(focus ((obtain ⟨hc,hf⟩:=bcell hw'.out);(have hcS:=bcellS hw'.out);go_simp <;> first | rfl|(fail)));(go_simp;refine hK _ ?_;clear hK K)))
   refine wpG_nil ?_;refine wpK_tail (by kernel_rfl) (fun w1 hg1=>?_);have hb1:=bdrewn hg1.out;refine wpAny_end (by kernel_rfl) ?_;refine NoPan.thn ?_;clear hg1;replace HB:=hD (HB.out.trans (hb1.mono HB.out.size));clear hb1 c0 d0;go_wp2
   go_roundw
   case rel=>exact ⟨k+1,by omega,by go_num,HB.out⟩
   case measure=>simp [intOf];omega
  ·have hd:decide ((k:Int)<(L.length:Int))=false:=by simp;omega
   have HB:=hD hB;clear hB;go_wp2;go_ret;exact ⟨rfl,HB.out⟩
theorem idsM_mem {f:Nat→Bool} {n:Nat} {x:Int}:x∈idsM f n↔∃ k:Nat,k<n∧f k=true∧x=(k:Int):=by
 unfold idsM idsN;rw [List.mem_map]
 constructor
 ·rintro ⟨k,hk,rfl⟩;obtain ⟨h1,h2⟩:=List.mem_filter.1 hk;exact ⟨k,List.mem_range.1 h1,h2,rfl⟩
 ·rintro ⟨k,h1,h2,rfl⟩;exact ⟨k,List.mem_filter.2 ⟨List.mem_range.2 h1,h2⟩,rfl⟩
theorem idsM_pw (f:Nat→Bool) (n:Nat):(idsM f n).Pairwise (· < ·):=by
 unfold idsM idsN;rw [List.pairwise_map];exact (List.pairwise_lt_range.filter f).imp (fun h=>by omega)
theorem idsM_asc {f:Nat→Bool} {n m:Nat} {a b:Int} (h1:(idsM f n)[m]?=some a) (h2:(idsM f n)[m+1]?=some b):a<b:=by
 obtain ⟨l1,e1⟩:=List.getElem?_eq_some_iff.1 h1;obtain ⟨l2,e2⟩:=List.getElem?_eq_some_iff.1 h2
 have:=List.pairwise_iff_getElem.1 (idsM_pw f n) m (m+1) l1 l2 (by omega)
 rw [e1,e2] at this;exact this
theorem isIn_v (v:Value) (x:Int) (L:List Int) (b:Bool) (w:World) (h:NR w v L) (hL:L.length≤1048576) (hb:decide (x∈L)=b) :
  Calls Tryz.prog 24 #[v,.int .i64 x] w fun e w'=>e=.returned (.bool b)∧Below w.heap.size w w':=by
 obtain ⟨A,c,rfl,h⟩:=h;have HBB:=hD hb;clear hb
 go_enter Tryz.func24,Tryz.ntmps24
 go_wp2_with fail
 go_loopw [5] (fun i wr=>∃ k:Nat,k≤L.length∧i=.int .i64 k∧x ∉ L.take k∧Below w.heap.size w wr) (fun i _=>L.length-(intOf i).toNat)
 case atStart=>exact ⟨0,by omega,rfl,by simp,Below.refl _ _⟩
 case round =>
  obtain ⟨k,hk,rfl,hno,hB⟩:=hrel
  by_cases hlt:k<L.length
  ·have hd:decide ((k:Int)<(L.length:Int))=true:=by simpa using hlt
   obtain ⟨ad,off,rfl,hbl,hp⟩:=(h.keep hB).cells (by omega);have hget:L[k]?=some L[k]:=List.getElem?_eq_getElem hlt;have c0:=hp k _ hget
   have htk:L.take (k+1)=L.take k ++ [L[k]]:=by rw [List.take_add_one,hget];rfl
   have hmem:L[k]∈L:=List.getElem_mem hlt;generalize L[k]=y at *;have HB:=hD hB;have HNO:=hD hno;have HTK:=hD htk;have HME:=hD hmem;clear hget hp hB hno htk hmem
   by_cases e:y=x
   ·have d1:(y == x)=true:=by simp [e]
    obtain rfl:b=true:=by rw [<- HBB.out,decide_eq_true (by rw [<- e];exact HME.out)]
    clear e;go_wp2;go_ret;exact ⟨rfl,HB.out⟩
   ·have d1:(y == x)=false:=by simp [e]
    have HE:=hD e;clear e;go_wp2
    go_roundw
    case rel=>exact ⟨k+1,by omega,by go_num,by
     rw [HTK.out,List.mem_append];rintro (q | q)
     ·exact HNO.out q
     ·exact HE.out (List.mem_singleton.1 q).symm,HB.out⟩
    case measure=>simp [intOf];omega
  ·have hd:decide ((k:Int)<(L.length:Int))=false:=decide_eq_false (by omega);rw [List.take_of_length_le (by omega)] at hno
   obtain rfl:b=false:=by rw [<- HBB.out,decide_eq_false hno]
   have HB:=hD hB;clear hB hno;go_wp2;go_ret;exact ⟨rfl,HB.out⟩
theorem ascends_v (v:Value) (L:List Int) (w:World) (h:NR w v L) (hL:L.length≤1048576) (ha:∀ (m:Nat) (a b:Int),L[m]?=some a→L[m+1]?=some b→a<b) :
  Calls Tryz.prog 25 #[v] w fun e w'=>e=.returned (.bool true)∧Below w.heap.size w w':=by
 obtain ⟨A,c,rfl,h⟩:=h;have HAS:=hD ha;clear ha
 go_enter Tryz.func25,Tryz.ntmps25
 go_wp2_with fail
 go_loopw [3] (fun i wr=>∃ k:Nat,i=.int .i64 ((k+1:Nat):Int)∧Below w.heap.size w wr) (fun i _=>L.length-(intOf i).toNat)
 case atStart=>exact ⟨0,rfl,Below.refl _ _⟩
 case round =>
  obtain ⟨k,rfl,hB⟩:=hrel;have HB:=hD hB
  by_cases hlt:k+1<L.length
  ·have hd:decide ((k:Int)+1<(L.length:Int))=true:=by simp;omega
   have hd2:decide (((k+1:Nat):Int)<(L.length:Int))=true:=by simp;omega
   obtain ⟨b,off,rfl,hbl,hcl⟩:=(h.keep hB).cells (by omega)
   obtain ⟨x,hx⟩:∃ x,L[k]?=some x:=⟨_,List.getElem?_eq_getElem (by omega)⟩
   obtain ⟨y,hy⟩:∃ y,L[k+1]?=some y:=⟨_,List.getElem?_eq_getElem hlt⟩
   have y0:=hcl k _ hx;have y1:=hcl (k+1) _ hy;have hxy:=HAS.out k x y hx hy
   have hkl:(k:Int)<(L.length:Int):=by omega
   have hkl1:(k:Int)+1<(L.length:Int):=by omega
   have hk0:(0:Int)≤(k:Int)+1:=by omega
   have wk:IntKind.i64.wrap (k:Int)=(k:Int):=IntWalk.i64_in _ (by omega);have hle:decide (y≤x)=false:=decide_eq_false (by omega);clear hcl hx hy hB hxy
   go_wp2_with fail
   refine wp_region_grow 10 0 (·<10) (by kernel_rfl) (by kernel_rfl) rfl ?_
   iterate 10 (refine wpG_step (fun K hK=>?_);first|(refine grow_skip rfl ?_;go_simp;refine hK _ ?_;clear hK K)|(apply Exists.intro;refine ⟨.inl ⟨rfl,fun w' hw'=>?_⟩,?_⟩;(focus ((obtain ⟨hc,hf⟩:=bcell hw'.out);(have hcS:=bcellS hw'.out);go_simp <;> first | rfl | fail));(go_simp;refine hK _ ?_;clear hK K)))
   refine wpG_nil ?_;refine wpK_tail (by kernel_rfl) (fun w5 hg5=>?_);have hb5:=bdrewn hg5.out;refine wpAny_end (by kernel_rfl) ?_;refine NoPan.thn ?_;clear hg5;replace HB:=hD (HB.out.trans (hb5.mono HB.out.size));clear hb5 y0 y1;go_wp2
   go_roundw
   case rel=>exact ⟨k+1,by go_num,HB.out⟩
   case measure=>simp [intOf];omega
  ·have hd:decide ((k:Int)+1<(L.length:Int))=false:=decide_eq_false (by omega);have hd2:decide (((k+1:Nat):Int)<(L.length:Int))=false:=decide_eq_false (by omega);clear hB;go_wp2;go_ret;exact ⟨rfl,HB.out⟩
end Go.Proofs.YtfnpdlnepjhljaaGreat
