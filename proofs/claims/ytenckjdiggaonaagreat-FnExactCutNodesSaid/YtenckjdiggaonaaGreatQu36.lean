import Derived.Test.YtenckjdiggaonaaGreatQu35
import Derived.WalkSpells
set_option linter.unusedVariables false
set_option linter.unusedSimpArgs false
set_option maxRecDepth 100000
set_option maxHeartbeats 16000000
namespace Go.Proofs.YtenckjdiggaonaaGreat
open Go.RowKit
attribute [local go_sem] growUpon_value growUpon_skip growUpon_enter
section
def GRB (lo:Nat) (w:World) (x:Value) (M:List Re):Prop:=(x=.slice none 0 0∧M=[]) ∨ ∃ g n,x=.slice (some ⟨g,0,none⟩) n n∧n=M.length∧lo≤g∧ReB w g M
theorem GRB.rv {lo:Nat} {w:World} {x:Value} {M:List Re} (h:GRB lo w x M):ReR w x M:=by
 rcases h with ⟨rfl,rfl⟩ | ⟨g,n,rfl,rfl,_,hk⟩
 ·exact ⟨none,0,rfl,ReV.nil _ _⟩
 ·exact ⟨_,_,rfl,hk.v⟩
theorem GRB.keep {lo:Nat} {w w':World} {x:Value} {M:List Re} (h:GRB lo w x M) (hb:Below w.heap.size w w'):GRB lo w' x M :=
 h.imp id fun ⟨g,n,h1,h2,h3,hk⟩=>⟨g,n,h1,h2,h3,hk.keep hb⟩
def mkR (k:Nat):Re:=⟨(k:Int)*4+1,(k:Int)*4+1+1,(k:Int)*4+1+1+1,(k:Int)*4+1+1+1+1⟩
def MKR (n:Nat):List Re:=(List.range n).map mkR
theorem GRB.but {lo g0:Nat} {w w':World} {v:Value} {M:List Re} (h:GRB lo w v M) (hb:w.grownBy w' (some g0)) (hg:g0<lo):GRB lo w' v M :=
 h.imp id fun ⟨g,n,h1,h2,h3,hk⟩=>⟨g,n,h1,h2,h3,hk.but hb (by omega)⟩
def GRM (w:World) (v:Value) (n:Nat):Prop:=(v=.slice none 0 0∧n=0) ∨ ∃ g,v=.slice (some ⟨g,0,none⟩) n n∧ReB w g (MKR n)
theorem GRM.keep {w w':World} {v:Value} {n:Nat} (h:GRM w v n) (hb:Below w.heap.size w w'):GRM w' v n :=
 h.imp id fun ⟨g,h1,hk⟩=>⟨g,h1,hk.keep hb⟩
end
section
def rgG (u v:Int):Bool:=rng u 0 400 && rng v 0 400
theorem rgG_yes {u v:Int} (h:rgG u v=true):(0≤u∧u≤400)∧(0≤v∧v≤400):=by simpa only [rgG,Bool.and_eq_true,rng_iff] using h
theorem validRoom_g (u v:Int) (w:World):Calls Tryz.prog 47 #[.int .i64 u,.int .i64 v] w fun e w'=>e=.returned (.bool (rgG u v))∧w=w':=by
 unfold rgG
 cases h1:rng u 0 400
 ·go_enter Tryz.func47,Tryz.ntmps47
  go_wp2_with fail
  with_reducible refine (within_any _ _ _ _).mono ?_
  rintro e w2 ⟨rfl,rfl⟩;go_wp2;go_ret;exact ⟨by simp,rfl⟩
 ·go_enter Tryz.func47,Tryz.ntmps47
  go_wp2_with fail
  with_reducible refine (within_any _ _ _ _).mono ?_
  rintro e w2 ⟨rfl,rfl⟩
  go_wp2_with fail
  with_reducible refine (within_any _ _ _ _).mono ?_
  rintro e w2 ⟨rfl,rfl⟩;go_wp2;go_ret;exact ⟨by simp,rfl⟩
theorem goodRoom_g (u v:Int) (w:World):Calls Tryz.prog 43 #[.int .i64 u,.int .i64 v] w fun e w'=>e=.returned (.bool (rgG u v))∧w=w':=by
 unfold rgG
 cases h1:rng u 0 400
 ·go_enter Tryz.func43,Tryz.ntmps43
  go_wp2_with fail
  with_reducible refine (inRange_any _ _ _ _).mono ?_
  rintro e w2 ⟨rfl,rfl⟩;go_wp2;go_ret;exact ⟨by simp,rfl⟩
 ·go_enter Tryz.func43,Tryz.ntmps43
  go_wp2_with fail
  with_reducible refine (inRange_any _ _ _ _).mono ?_
  rintro e w2 ⟨rfl,rfl⟩
  go_wp2_with fail
  with_reducible refine (inRange_any _ _ _ _).mono ?_
  rintro e w2 ⟨rfl,rfl⟩;go_wp2;go_ret;exact ⟨by simp,rfl⟩
def lyL (L:List Nd) (a b:Int):List Re:=if (treeB L && rgG a b)=true then (List.range L.length).map (lrM L a b) else []
theorem lyL_len (L:List Nd) (a b:Int):(lyL L a b).length≤10:=by
 unfold lyL
 split
 ·rename_i h
  rw [Bool.and_eq_true] at h;rw [List.length_map,List.length_range];exact (tree_len h.1).2
 ·exact Nat.zero_le _
theorem GRB.mono {lo lo':Nat} {w:World} {x:Value} {M:List Re} (h:GRB lo w x M) (hl:lo'≤lo):GRB lo' w x M:=h.imp id fun ⟨g,n,h1,h2,h3,hk⟩=>⟨g,n,h1,h2,Nat.le_trans hl h3,hk⟩
theorem LayoutTree_x (A:Option Addr) (c k:Nat) (R:List Nr) (a b:Int) (w:World) (hk:k=R.length) (h:NrV w A R) (hr:RdR w R) (hL:R.length≤1048576) (hm:∀ p ∈ R,p.n.cs.length≤1048576∧p.n.rs.length≤1048576) :
  Calls Tryz.prog 15 #[.agg #[.slice A k c],.int .i64 a,.int .i64 b] w fun e w'=>(∃ x,e=.returned x∧GRB w.heap.size w' x (lyL (R.map Nr.n) a b)∧((lyL (R.map Nr.n) a b).length=0→x=.slice none 0 0))∧Below w.heap.size w w':=by
 have hB0:Below w.heap.size w (w.alloc (.cells #[.slice A k c] 30 (0,0))):=balloc (Below.refl _ _);have HX:=hD (newS w (.cells #[.slice A k c] 30 (0,0)));have HB:=hD hB0;have HV:=hD (h.keep hB0);have HR:=hD (hr.keep hB0);have HM:=hD hm;have HK:=hD hk;have x0:=cellS HX.out 0;clear hB0 h hr hm hk
 cases ht:treeB (R.map Nr.n)
 ·rw [show lyL (R.map Nr.n) a b=[] by simp [lyL,ht]];have HT:=hD ht;clear ht
  go_enter Tryz.func15,Tryz.ntmps15
  go_wp2_with fail
  with_reducible refine (ValidTree_n A c k R false _ HK.out HV.out HR.out hL HM.out HT.out).mono ?_
  rintro e w1 ⟨rfl,hb⟩;clear x0;replace HX:=hbk hb HX;replace HB:=hD (bkeep2 HB.out hb);clear hb;have x0:=cellS HX.out 0;go_wp2;go_ret;exact ⟨⟨_,rfl,.inl ⟨rfl,rfl⟩,fun _=>rfl⟩,HB.out⟩
 ·cases hg:rgG a b
  ·rw [show lyL (R.map Nr.n) a b=[] by simp [lyL,hg]];have HT:=hD ht;clear ht
   go_enter Tryz.func15,Tryz.ntmps15
   go_wp2_with fail
   with_reducible refine (ValidTree_n A c k R true _ HK.out HV.out HR.out hL HM.out HT.out).mono ?_
   rintro e w1 ⟨rfl,hb⟩;clear x0;replace HX:=hbk hb HX;replace HB:=hD (bkeep2 HB.out hb);clear hb;have x0:=cellS HX.out 0
   go_wp2_with fail
   with_reducible refine (validRoom_g a b _).mono ?_
   rintro e w2 ⟨rfl,rfl⟩;rw [hg];clear hg;go_wp2;go_ret;exact ⟨⟨_,rfl,.inl ⟨rfl,rfl⟩,fun _=>rfl⟩,HB.out⟩
  ·rw [show lyL (R.map Nr.n) a b=(List.range k).map (lrM (R.map Nr.n) a b) by simp [lyL,ht,hg,HK.out]];have HT:=hD ht;have HG:=hD (rgG_yes hg);clear ht
   go_enter Tryz.func15,Tryz.ntmps15
   go_wp2_with fail
   with_reducible refine (ValidTree_n A c k R true _ HK.out HV.out HR.out hL HM.out HT.out).mono ?_
   rintro e w1 ⟨rfl,hb⟩;clear x0;replace HX:=hbk hb HX;replace HV:=hD (HV.out.keep hb);replace HR:=hD (HR.out.keep hb);replace HB:=hD (bkeep2 HB.out hb);clear hb;have x0:=cellS HX.out 0
   go_wp2_with fail
   with_reducible refine (validRoom_g a b _).mono ?_
   rintro e w2 ⟨rfl,rfl⟩;rw [hg];clear hg;have hsz:=HB.out.size
   go_wp2_with fail
   with_reducible refine (layout_v A c k R a b _ (trOK_of HT.out) HK.out HV.out HR.out HG.out.1 HG.out.2).mono ?_
   rintro e w3 ⟨⟨g,rfl,hgl,hre⟩,hb⟩;have HRE:=hD hre;clear x0 hre;replace HB:=hD (bkeep2 HB.out hb);clear hb;go_wp2;go_ret;exact ⟨⟨_,rfl,.inr ⟨g,_,rfl,by rw [List.length_map,List.length_range],Nat.le_trans hsz hgl,HRE.out⟩,fun h0=>by rw [List.length_map,List.length_range] at h0;have:=(tree_len HT.out).1;rw [List.length_map] at this;have:=HK.out;omega⟩,HB.out⟩
end
section
attribute [local go_sem 5000] run_mx run_mn run_eqlR run_neqR
set_option maxRecDepth 100000
def Smw (a b c d:Int):Prop:=(-8000000000000000≤a∧a≤8000000000000000)∧(-8000000000000000≤b∧b≤8000000000000000)∧(-8000000000000000≤c∧c≤8000000000000000)∧(-8000000000000000≤d∧d≤8000000000000000)
theorem Smw.out {a b c d:Int} (h:Smw a b c d):(-8000000000000000≤a∧a≤8000000000000000)∧(-8000000000000000≤b∧b≤8000000000000000)∧(-8000000000000000≤c∧c≤8000000000000000)∧(-8000000000000000≤d∧d≤8000000000000000):=h
def Lw (x y u v:Int):Prop:=0≤u∧u≤1000000000000000∧0≤v∧v≤1000000000000000∧-1000000000000000≤x∧x≤1000000000000000∧-1000000000000000≤y∧y≤1000000000000000
theorem Lw.out {x y u v:Int} (h:Lw x y u v):0≤u∧u≤1000000000000000∧0≤v∧v≤1000000000000000∧-1000000000000000≤x∧x≤1000000000000000∧-1000000000000000≤y∧y≤1000000000000000:=h
end
section
def rcN (M:List Re) (i:Nat):Re:=(M[i]?).getD ⟨0,0,0,0⟩
def paX (L:List Nd) (i:Nat):Nat:=(((L[i]?).map Nd.pa).getD 0).toNat
theorem rcN_at {M:List Re} {i:Nat} {S:Re} (h:M[i]?=some S):rcN M i=S:=by unfold rcN;rw [h];rfl
theorem GRB.sl {lo:Nat} {w:World} {x:Value} {M:List Re} (h:GRB lo w x M):∃ A1,x=.slice A1 M.length M.length∧(0<M.length→∃ g,A1=some ⟨g,0,none⟩∧lo≤g∧ReB w g M):=by
 rcases h with ⟨rfl,rfl⟩ | ⟨g,n,rfl,rfl,hg,hk⟩
 ·exact ⟨none,rfl,fun h=>absurd h (by simp)⟩
 ·exact ⟨_,rfl,fun _=>⟨g,rfl,hg,hk⟩⟩
theorem reB_cells {w:World} {g i:Nat} {M:List Re} {S:Re} (h:ReB w g M) (hi:M[i]?=some S):w.cell? ⟨g,i*4,none⟩=some (.int .i64 S.x)∧w.cell? ⟨g,i*4+1,none⟩=some (.int .i64 S.y)∧w.cell? ⟨g,i*4+2,none⟩=some (.int .i64 S.u)∧w.cell? ⟨g,i*4+3,none⟩=some (.int .i64 S.v):=by
 obtain ⟨cs,hh,hs,hc⟩:=h;have h:=hc i S hi;exact ⟨(cellS hh _).trans (by simpa using h 0 _ rfl),(cellS hh _).trans (h 1 _ rfl),(cellS hh _).trans (h 2 _ rfl),(cellS hh _).trans (h 3 _ rfl)⟩
theorem lyL_ok {L:List Nd} {a b:Int} (h:0<(lyL L a b).length):TrOK L∧(lyL L a b).length=L.length∧∀ S ∈ lyL L a b,Lw S.x S.y S.u S.v:=by
 unfold lyL at *
 split at h
 ·rename_i e
  rw [if_pos e];rw [Bool.and_eq_true] at e;have hT:=trOK_of e.1;refine ⟨hT,by simp,fun S hS=>?_⟩;obtain ⟨k,hk,rfl⟩:=List.mem_map.1 hS;obtain ⟨q,hx,hy⟩:=lrM_room hT (rgG_yes e.2).1 (rgG_yes e.2).2 (List.mem_range.1 hk);obtain ⟨q1,q2⟩:=rqW_iff.1 q;unfold Lw;omega
 ·simp at h
def inR (S T:Re):Bool:=insB S.x S.y S.u S.v T.x T.y T.u T.v
def clF (L:List Nd) (M:List Re) (i:Nat):Bool:=decide (0<i) && !inR (rcN M (paX L i)) (rcN M i)
end
section
def wsL (f:Nat→Int × Int):Nat→List Int
 | 0=>[]
 | n+1=>wsL f n ++ [(f n).1,(f n).2]
theorem wsL_len (f:Nat→Int × Int):∀ n,(wsL f n).length=2*n
 | 0=>rfl
 | n+1=>by
  have:=wsL_len f n
  simp only [wsL,List.length_append,this,List.length_cons,List.length_nil];omega
theorem wsL_get {f:Nat→Int × Int}:∀ {n k:Nat},k<n→(wsL f n)[2*k]?=some (f k).1∧(wsL f n)[2*k+1]?=some (f k).2
 | n+1,k,h=>by
  have hl:=wsL_len f n;simp only [wsL]
  by_cases e:k=n
  ·subst e;rw [List.getElem?_append_right (by omega),List.getElem?_append_right (by omega),hl]
   simp
  ·obtain ⟨h1,h2⟩:=wsL_get (f:=f) (n:=n) (k:=k) (by omega);rw [List.getElem?_append_left (by omega),List.getElem?_append_left (by omega)];exact ⟨h1,h2⟩
theorem afAdd (b off n:Nat):(⟨b,off,none⟩:Addr).add n=⟨b,off+n,none⟩:=by
 unfold Addr.add
 split
 ·rename_i h;subst h;rfl
 ·rfl
theorem newW2 (W:World) (x y:Int) (T:TypeId):∀ (j:Nat) (u:Value),[Value.int .i64 x,Value.int .i64 y][j]?=some u→(W.alloc (.cells #[.int .i64 x,.int .i64 y] T)).cell? ((⟨W.heap.size,0,none⟩:Addr).add j)=some u:=fun j u h=>by
 rw [afAdd,Nat.zero_add];exact (cellS (newS W _) j).trans (by simpa using h)
theorem wantsOf_v (A:Option Addr) (c k:Nat) (R:List Nr) (w:World) (hT:TrOK (R.map Nr.n)) (hk:k=R.length) (h:NrV w A R) (hr:RdR w R) :
  Calls Tryz.prog 75 #[.agg #[.slice A k c]] w fun e w'=>(∃ v,e=.returned v∧NR w' v (wsL (szM (R.map Nr.n)) R.length))∧Below w.heap.size w w':=by
 obtain ⟨ti,tz,ti1,ti2,ti3,ti4,ti5⟩:=int_infoW
 have hL:R.length≤10:=by have:=hT.l10;rwa [List.length_map] at this
 have HSZ:=hD (show ∀ m W,m<R.length→Below w.heap.size w W→Calls Tryz.prog 55 #[.agg #[.slice A k c],.int .i64 (m:Int)] W fun e w'=>e=.returned (.tuple #[.int .i64 (szM (R.map Nr.n) m).1,.int .i64 (szM (R.map Nr.n) m).2])∧Below W.heap.size W w' from fun m W hm hW=>by
  rw [hk]
  exact sizeOf_v A c R hT R.length m W (by omega) hm (h.keep hW) (hr.keep hW))
 have HK:=hD hk;have hB0:Below w.heap.size w ((w.alloc (.cells #[.slice A k c] 30 (0,0))).alloc (.cells #[] 3 (0,0))):=(balloc (Below.refl _ _)).trans ((balloc (Below.refl _ _)).mono (by simp));have hX0:((w.alloc (.cells #[.slice A k c] 30 (0,0))).alloc (.cells #[] 3 (0,0))).heap[w.heap.size]?=some (.cells #[.slice A k c] 30 (0,0)):=(Below.heap_alloc _ _ _ (by simp)).trans (newS _ _)
 have hO0:((w.alloc (.cells #[.slice A k c] 30 (0,0))).alloc (.cells #[] 3 (0,0))).ownsRow (w.heap.size+1) 3 1 (.slice (some ⟨w.heap.size+1,0,none⟩) 0 0) 0 (nvalsW []):=by
  have:=World.ownsRow_lit (base:=w.heap.size+1) (e:=3) (size:=1) (w.alloc (.cells #[.slice A k c] 30 (0,0))) #[] 0 (by simp) (by decide) rfl
  rwa [World.size_alloc] at this
 have HB0:=hD hB0;have HX0:=hD hX0;have HO0:=hD hO0;clear h hr hk hB0 hX0 hO0
 go_enter Tryz.func75,Tryz.ntmps75
 go_wp2_with fail
 go_loopw [3,4] (fun out i wr=>∃ m:Nat,m≤k∧i=.int .i64 (m:Int)∧wr.ownsRow (w.heap.size+1) 3 1 out (2*m) (nvalsW (wsL (szM (R.map Nr.n)) m))∧wr.heap[w.heap.size]?=some (.cells #[.slice A k c] 30 (0,0))∧Below w.heap.size w wr) (fun _ i _=>k - (intOf i).toNat)
 case atStart=>exact ⟨0,by omega,rfl,HO0.out,HX0.out,HB0.out⟩
 case round =>
  obtain ⟨m,hm,rfl,ho,hx,hB⟩:=hrel;have HO:=hD ho;have HX:=hD hx;have HB:=hD hB;have x0:=cellS hx 0;have lx:=ltS hx;clear ho hx hB HO0 HX0 HB0
  by_cases hlt:m<k
  ·have hd:decide ((m:Int)<(k:Int))=true:=by simpa using hlt
   go_wp2_with fail
   with_reducible refine (HSZ.out m _ (by have:=HK.out;omega) HB.out).mono ?_
   rintro e w2 ⟨rfl,hb⟩;replace HO:=hD (own_bw HO.out hb);replace HX:=hD ((hb.block _ lx).trans HX.out);replace HB:=hD (bkeep2 HB.out hb);have hob:=HO.out.lt;have hsz:w.heap.size+1≤w2.heap.size:=ltS HX.out
   have hk10:k≤10:=by have:=HK.out;omega
   clear hb x0 lx hd
   obtain ⟨q1,hq1⟩:∃ q1,(szM (R.map Nr.n) m).1=q1:=⟨_,rfl⟩
   obtain ⟨q2,hq2⟩:∃ q2,(szM (R.map Nr.n) m).2=q2:=⟨_,rfl⟩
   rw [hq1,hq2];have HQ1:=hD hq1;have HQ2:=hD hq2;clear hq1 hq2
   go_wp2_with (at_builtin;refine wpList_append_own _ rfl _ _ 37 rfl (w.heap.size+1) 3 ti tz 1 8 Tryz.underlying37 ti1 ti2 ti3 ti4 ti5 (by decide) _ _ _ rfl (HO.out.alloc _) ⟨w2.heap.size,0,none⟩ 2 2 [.int .i64 q1,.int .i64 q2] rfl rfl (newW2 _ _ _ _) (by simp [Value.oneCell']) (by simp only [maxLen];omega) (by omega) (by simp;omega) ?_)
   intro v5 w5 how5 hgr5 _
   have hO5:w5.ownsRow (w.heap.size+1) 3 1 v5 (2*(m+1)) (nvalsW (wsL (szM (R.map Nr.n)) (m+1))):=by
    have e:nvalsW (wsL (szM (R.map Nr.n)) m) ++ [.int .i64 q1,.int .i64 q2]=nvalsW (wsL (szM (R.map Nr.n)) (m+1)):=by
     simp only [wsL,nvalsW,List.map_append,List.map_cons,List.map_nil,HQ1.out,HQ2.out]
    rw [e] at how5;exact how5
   have hX5:=(hgr5.block w.heap.size (by simp;omega) (fun e=>by have:=hob _ e.symm;omega)).trans ((Below.heap_alloc _ _ w.heap.size (by omega)).trans HX.out);have HB5:=hD (below_own (n:=w.heap.size) HB.out hgr5 (lo:=w.heap.size+1) (hi:=w2.heap.size) (fun k hk=>hob k hk) (by omega) (Nat.le_refl _));have HO5:=hD hO5;have HX5:=hD hX5;clear how5 hgr5 hob hO5 hX5 HB HO HX;go_wp2
   go_roundw
   case rel=>exact ⟨m+1,by omega,by go_num,HO5.out,HX5.out,HB5.out⟩
   case measure=>simp [intOf];omega
  ·have hd:decide ((m:Int)<(k:Int))=false:=decide_eq_false (by omega)
   obtain rfl:m=k:=by omega
   have hfin:∃ A' c',u3=.slice A' (2*m) c'∧NV wr A' (wsL (szM (R.map Nr.n)) m):=by
    rcases own_inW HO.out (wsL_len _ _).symm with ⟨rfl,hM⟩ | ⟨g,cap,rfl,hbg,hO⟩
    ·have h0:m=0:=by have:=wsL_len (szM (R.map Nr.n)) m;rw [hM] at this;simp at this;omega
     subst h0;exact ⟨none,0,rfl,NV.nil _ _⟩
    ·exact ⟨_,cap,rfl,hO.nv⟩
   obtain ⟨A',c',rfl,hnv⟩:=hfin;have HNV:=hD hnv;clear hnv HO;go_wp2;go_ret;exact ⟨⟨.slice A' (2*m) c',rfl,A',c',by rw [<- HK.out,wsL_len],by rw [<- HK.out];exact HNV.out⟩,HB.out⟩
end
section
theorem indicesCu_v (n:Nat) (f:Nat→Bool) (caps:Array Value) (w:World) (hn:n≤1048576)
  (hf:∀ k,k<n→∀ W,Below w.heap.size w W→Calls Tryz.prog 77 (#[.int .i64 (k:Int)] ++ caps) W fun e W'=>e=.returned (.bool (f k))∧Below W.heap.size W W') :
  Calls Tryz.prog 65 #[.int .i64 (n:Int),.func (.func 77) #[] caps] w fun e w'=>(∃ v,e=.returned v∧GO w.heap.size w' v (idsM f n))∧Below w.heap.size w w':=by
 obtain ⟨ti,tz,ti1,ti2,ti3,ti4,ti5⟩:=int_infoW;have HF:=hD hf;clear hf;refine calls_abs Tryz.func65 rfl 20 (by simp only [Tryz.ntmps65]) (by simp) (fun t hsz hargs=>?_);have q0:t[0]?=some (.int .i64 (n:Int)):=get_of (by omega) (hargs 0 _ rfl);have q1:t[1]?=some (.func (.func 77) #[] caps):=get_of (by omega) (hargs 1 _ rfl);clear hargs;obtain ⟨l0,e0⟩:=gE q0;obtain ⟨l1,e1⟩:=gE q1
 refine wp_seq_h fun K hK=>?_
 apply wp_region_lit
 repeat (first | go_step)
 refine hK.out _ _ ?_;clear hK K;refine wp_abw (fun t' W'=>t'.size=20∧t'[0]?=some (.int .i64 (n:Int))∧t'[1]?=some (.func (.func 77) #[] caps)∧w=W') ⟨by simp [Act.put,hsz],by simp [Act.put,q0],by simp [Act.put,q1],rfl⟩ ?_;clear hsz q0 l0 e0 q1 l1 e1 t;rintro t _ ⟨hsz,q0,q1,rfl⟩;obtain ⟨l0,e0⟩:=gE q0;obtain ⟨l1,e1⟩:=gE q1
 refine wp_seq_h fun K hK=>?_
 apply wp_region_lit
 repeat (first | go_step)
 refine hK.out _ _ ?_;clear hK K;refine wp_abw (fun t' W'=>t'.size=20∧t'[0]?=some (.int .i64 (n:Int))∧t'[1]?=some (.func (.func 77) #[] caps)∧t'[5]?=some (.slice none 0 0)∧w=W') ⟨by simp [Act.put,hsz],by simp [Act.put,q0],by simp [Act.put,q1],by simp [Act.put,hsz],rfl⟩ ?_;clear hsz q0 l0 e0 q1 l1 e1 t;rintro t _ ⟨hsz,q0,q1,q5,rfl⟩
 refine wp_seq_h fun KE hKE=>?_
 obtain ⟨l0,e0⟩:=gE q0;obtain ⟨l1,e1⟩:=gE q1;obtain ⟨l5,e5⟩:=gE q5
 refine wp_seq_h fun K hK=>?_
 apply wp_region_lit
 repeat (first | go_step)
 refine hK.out _ _ ?_;clear hK K;refine wp_abw (fun t' W'=>t'.size=20∧t'[1]?=some (.func (.func 77) #[] caps)∧t'[5]?=some (.slice none 0 0)∧t'[7]?=some (.int .i64 (n:Int))∧t'[8]?=some (.int .i64 ((0:Nat):Int))∧w=W') ⟨by simp [Act.put,hsz],by simp [Act.put,q1],by simp [Act.put,q5],by simp [Act.put,hsz],by simp [Act.put,hsz],rfl⟩ ?_;clear hsz q0 l0 e0 q1 l1 e1 q5 l5 e5 t
 rintro t _ ⟨hsz,q1,q5,q7,q8,rfl⟩;apply wp_block
 refine wp_loop (fun a W=>∃ (t:Array Value) (k:Nat) (v:Value),a=⟨t,[]⟩∧k≤n∧t.size=20∧t[1]?=some (.func (.func 77) #[] caps)∧t[5]?=some (v)∧t[7]?=some (.int .i64 (n:Int))∧t[8]?=some (.int .i64 (k:Int))∧W.ownsRow w.heap.size 3 1 v (idsM f k).length (nvalsW (idsM f k))∧Below w.heap.size w W) (fun a _=>n - (intOf (a.tmps.getD 8 undef)).toNat) ⟨t,0,.slice none 0 0,rfl,by omega,hsz,q1,q5,q7,q8,⟨rfl,.inl ⟨rfl,rfl⟩⟩,Below.refl _ _⟩ ?_
 clear t hsz q1 q5 q7 q8;rintro a W ⟨t,k,v,rfl,hk,hsz,q1,q5,q7,q8,hO,hB⟩
 have hmu:intOf (t.getD 8 undef)=(k:Int):=by rw [Array.getD_eq_getD_getElem?,q8];rfl
 dsimp only
 rw [hmu];clear hmu;have HO:=hD hO;have HB:=hD hB;clear hO hB
 by_cases hlt:k<n
 ·have hd:decide ((k:Int)<(n:Int))=true:=by simpa using hlt
  obtain ⟨l1,e1⟩:=gE q1;obtain ⟨l5,e5⟩:=gE q5;obtain ⟨l7,e7⟩:=gE q7;obtain ⟨l8,e8⟩:=gE q8
  refine wp_seq_h fun K hK=>?_
  apply wp_region_lit
  repeat (first | go_step)
  refine hK.out _ _ ?_;clear hK K;refine wp_abw (fun t' W'=>t'.size=20∧t'[1]?=some (.func (.func 77) #[] caps)∧t'[5]?=some (v)∧t'[7]?=some (.int .i64 (n:Int))∧t'[8]?=some (.int .i64 (k:Int))∧t'[9]?=some (.bool true)∧W=W') ⟨by simp [Act.put,hsz],by simp [Act.put,q1],by simp [Act.put,q5],by simp [Act.put,q7],by simp [Act.put,q8],by simp [Act.put,hsz,hd],rfl⟩ ?_
  clear hsz q1 l1 e1 q5 l5 e5 q7 l7 e7 q8 l8 e8 t;rintro t _ ⟨hsz,q1,q5,q7,q8,q9,rfl⟩;clear hd
  refine wp_seq_h fun K1 hK1=>?_
  refine wp_cond_true (by simp [Act.eval,q9]) ?_;apply wp_skip;simp only [Exit.then];refine hK1.out _ _ ?_;clear hK1 K1 q9
  refine wp_seq_h fun KB hKB=>?_
  apply wp_block;obtain ⟨l1,e1⟩:=gE q1;obtain ⟨l5,e5⟩:=gE q5;obtain ⟨l7,e7⟩:=gE q7;obtain ⟨l8,e8⟩:=gE q8
  refine wp_seq_h fun K hK=>?_
  apply wp_region_lit
  repeat (first | go_step)
  refine hK.out _ _ ?_;clear hK K;refine wp_abw (fun t' W'=>t'.size=20∧t'[1]?=some (.func (.func 77) #[] caps)∧t'[5]?=some (v)∧t'[6]?=some (.int .i64 (k:Int))∧t'[7]?=some (.int .i64 (n:Int))∧t'[8]?=some (.int .i64 (k:Int))∧W=W') ⟨by simp [Act.put,hsz],by simp [Act.put,q1],by simp [Act.put,q5],by simp [Act.put,hsz],by simp [Act.put,q7],by simp [Act.put,q8],rfl⟩ ?_
  clear hsz q1 l1 e1 q5 l5 e5 q7 l7 e7 q8 l8 e8 t;rintro t _ ⟨hsz,q1,q5,q6,q7,q8,rfl⟩;obtain ⟨l1,e1⟩:=gE q1;obtain ⟨l5,e5⟩:=gE q5;obtain ⟨l6,e6⟩:=gE q6;obtain ⟨l7,e7⟩:=gE q7;obtain ⟨l8,e8⟩:=gE q8;have hlen:=idsM_len f k
  refine wp_seq_h fun K hK=>?_
  apply wp_region_lit
  repeat go_step
  refine (HF.out k hlt _ HB.out).mono ?_;rintro e W1 ⟨rfl,hb1⟩
  dsimp only
  repeat go_step
  refine hK.out _ _ ?_;clear hK K;have hob:=HO.out.lt;replace HO:=hD (own_bw HO.out hb1);replace HB:=hD (bkeep2 HB.out hb1);have hs1:=hb1.size;clear hb1
  refine wp_abw (fun t' W'=>t'.size=20∧t'[1]?=some (.func (.func 77) #[] caps)∧t'[5]?=some (v)∧t'[6]?=some (.int .i64 (k:Int))∧t'[7]?=some (.int .i64 (n:Int))∧t'[8]?=some (.int .i64 (k:Int))∧t'[13]?=some (.bool (f k))∧W1=W') ⟨by simp [Act.put,hsz],by simp [Act.put,q1],by simp [Act.put,q5],by simp [Act.put,q6],by simp [Act.put,q7],by simp [Act.put,q8],by simp [Act.put,hsz],rfl⟩ ?_
  clear hsz q1 l1 e1 q5 l5 e5 q6 l6 e6 q7 l7 e7 q8 l8 e8 t;rintro t _ ⟨hsz,q1,q5,q6,q7,q8,q13,rfl⟩;obtain ⟨l1,e1⟩:=gE q1
  by_cases hfk:f k=true
  ·have hids:=idsM_yes hfk;rw [hfk] at q13;refine wp_cond_true (by simp [Act.eval,q13]) ?_;clear l1 e1 q13;obtain ⟨l1,e1⟩:=gE q1;obtain ⟨l5,e5⟩:=gE q5;obtain ⟨l6,e6⟩:=gE q6;obtain ⟨l7,e7⟩:=gE q7;obtain ⟨l8,e8⟩:=gE q8;have hob:∀ b,v.ownBlock=some b→w.heap.size≤b∧b<W1.heap.size:=HO.out.lt;have hw1:w.heap.size≤W1.heap.size:=HB.out.size;apply wp_region_lit
   repeat (first | ((with_reducible show wpList _ _ _ _ _ _);refine wpList_append_own _ rfl _ _ 37 rfl w.heap.size 3 ti tz 1 8 Tryz.underlying37 ti1 ti2 ti3 ti4 ti5 (by decide) v _ _ (by simp [Act.eval,Act.put,hsz,e5]) (HO.out.alloc _) ⟨W1.heap.size,0,none⟩ 1 1 [.int .i64 (k:Int)] (by simp [Act.eval,Act.put,hsz]) rfl (newW _ _ _) (by simp [Value.oneCell']) (by simp only [maxLen];omega) (by omega) (by simp;omega) ?_) | go_step)
   intro v5 w5 how5 hgr5 _;have hb5:=below_own HB.out hgr5 hob (Nat.le_refl _) (Nat.le_refl _);rw [nvalsW_snoc,<- hids] at how5
   have hlen5:(idsM f k).length+1=(idsM f (k+1)).length:=by rw [hids];simp
   rw [hlen5] at how5;clear hlen5 hids
   repeat go_step
   try simp only [Exit.inBlock]
   refine hKB.out _ _ ?_;clear hKB KB;refine wp_abw (fun t' W'=>t'.size=20∧t'[1]?=some (.func (.func 77) #[] caps)∧t'[5]?=some (v5)∧t'[7]?=some (.int .i64 (n:Int))∧t'[8]?=some (.int .i64 (k:Int))∧w5=W') ⟨by simp [Act.put,hsz],by simp [Act.put,q1],by simp [Act.put,hsz],by simp [Act.put,q7],by simp [Act.put,q8],rfl⟩ ?_;clear hsz q1 l1 e1 q5 l5 e5 q6 l6 e6 q7 l7 e7 q8 l8 e8 t hob hw1
   rintro t _ ⟨hsz,q1,q5,q7,q8,rfl⟩;obtain ⟨l1,e1⟩:=gE q1;obtain ⟨l5,e5⟩:=gE q5;obtain ⟨l7,e7⟩:=gE q7;obtain ⟨l8,e8⟩:=gE q8;apply wp_region_lit
   repeat go_step
   try simp only [Exit.then]
   refine ⟨⟨_,k+1,v5,rfl,by omega,by simp [hsz],by simp [q1],by simp [q5],by simp [q7],by simp [hsz],how5,hb5⟩,?_⟩
   ·simp [hsz,intOf]
    omega
  ·have hfk':f k=false:=by simpa using hfk
   have hids:=idsM_no hfk';rw [hfk'] at q13;refine wp_cond_false (by simp [Act.eval,q13]) ?_;clear l1 e1 q13;apply wp_skip
   try simp only [Exit.inBlock]
   refine hKB.out _ _ ?_;clear hKB KB;obtain ⟨l1,e1⟩:=gE q1;obtain ⟨l5,e5⟩:=gE q5;obtain ⟨l6,e6⟩:=gE q6;obtain ⟨l7,e7⟩:=gE q7;obtain ⟨l8,e8⟩:=gE q8;apply wp_region_lit
   repeat go_step
   try simp only [Exit.then]
   refine ⟨⟨_,k+1,v,rfl,by omega,by simp [hsz],by simp [q1],by simp [q5],by simp [q7],by simp [hsz],by rw [hids];exact HO.out,HB.out⟩,?_⟩
   ·simp [hsz,intOf]
    omega
 ·have hd:decide ((k:Int)<(n:Int))=false:=decide_eq_false (by omega);obtain ⟨l1,e1⟩:=gE q1;obtain ⟨l5,e5⟩:=gE q5;obtain ⟨l7,e7⟩:=gE q7;obtain ⟨l8,e8⟩:=gE q8
  refine wp_seq_h fun K hK=>?_
  apply wp_region_lit
  repeat (first | go_step)
  refine hK.out _ _ ?_;clear hK K;refine wp_abw (fun t' W'=>t'.size=20∧t'[1]?=some (.func (.func 77) #[] caps)∧t'[5]?=some (v)∧t'[7]?=some (.int .i64 (n:Int))∧t'[8]?=some (.int .i64 (k:Int))∧t'[9]?=some (.bool false)∧W=W') ⟨by simp [Act.put,hsz],by simp [Act.put,q1],by simp [Act.put,q5],by simp [Act.put,q7],by simp [Act.put,q8],by simp [Act.put,hsz,hd],rfl⟩ ?_
  clear hsz q1 l1 e1 q5 l5 e5 q7 l7 e7 q8 l8 e8 t;rintro t _ ⟨hsz,q1,q5,q7,q8,q9,rfl⟩
  refine wp_seq_h fun K1 hK1=>?_
  refine wp_cond_false (by simp [Act.eval,q9]) ?_;apply wp_exit;simp only [Exit.then,Exit.inBlock,if_true];refine hKE.out _ _ ?_;clear hd
  obtain rfl:k=n:=by omega
  obtain ⟨l1,e1⟩:=gE q1;obtain ⟨l5,e5⟩:=gE q5;obtain ⟨l7,e7⟩:=gE q7;obtain ⟨l8,e8⟩:=gE q8;obtain ⟨l9,e9⟩:=gE q9
  repeat go_step
  refine bodyPost_ret (results_tmp rfl _ _ _) rfl ?_;exact ⟨⟨v,by simp [hsz],GO.of HO.out rfl⟩,HB.out⟩
theorem eqNilR (A:Option Addr) (n c:Nat) (w:World):(binOp .eql 26 (.slice A n c) (.slice none 0 0)).run Tryz.prog w=.ok (.bool A.isNone) w:=Lib.run_eql_slice_nil w _ _ A n c 0 0 Tryz.underlying26
attribute [local go_sem] eqNilR
def cutF (L:List Nd) (M:List Re) (i:Nat):Bool:=decide (0<i) && !(decide ((szM L i).1≤(rcN M i).u) && decide ((szM L i).2≤(rcN M i).v))
def cutM (L:List Nd) (a b:Int):List Int:=idsM (cutF L (lyL L a b)) (lyL L a b).length
theorem cutM_len (L:List Nd) (a b:Int):(cutM L a b).length≤10:=Nat.le_trans (idsM_len _ _) (lyL_len _ _ _)
theorem fits_v (s t x y u v:Int) (bb:Bool) (w:World) (h:(decide (s≤u) && decide (t≤v))=bb):Calls Tryz.prog 78 #[.agg #[.int .i64 s,.int .i64 t],.agg #[.int .i64 (x),.int .i64 (y),.int .i64 (u),.int .i64 (v)]] w fun e w'=>e=.returned (.bool bb)∧Below w.heap.size w w':=by
 subst h
 by_cases g1:s≤u <;> by_cases g2:t≤v
 all_goals
  go_enter Tryz.func78,Tryz.ntmps78
  go_wp2;go_ret;exact ⟨ret_bool (by simp [g1,g2]),(by repeat (first | with_reducible exact Below.refl _ _ | with_reducible assumption | with_reducible refine balloc ?_ | (with_reducible refine bset ?_ ?_;rotate_left;((try dsimp only);omega)) | refine bkeep2 ?_ (by assumption) | with_reducible refine Below.drew ?_))⟩
theorem cut1_v (R:List Nr) (M:List Re) (ga g i ba br:Nat) (w:World) (hA:RbK 2 w ga 93 ((List.range R.length).map fun k=>valsWi (szM (R.map Nr.n) k))) (hM:ReB w g M) (hMR:M.length=R.length) (hi:i<R.length) (ht:w.cell? ⟨ba,0,none⟩=some (.slice (some ⟨ga,0,none⟩) R.length R.length)) (hr:w.cell? ⟨br,0,none⟩=some (.slice (some ⟨g,0,none⟩) R.length R.length)) (lta:ba<w.heap.size) (ltr:br<w.heap.size) :
  Calls Tryz.prog 77 #[.int .i64 (i:Int),.pointer (some ⟨ba,0,none⟩),.pointer (some ⟨br,0,none⟩)] w fun e w'=>e=.returned (.bool (cutF (R.map Nr.n) M i))∧Below w.heap.size w w':=by
 rcases Nat.eq_zero_or_pos i with rfl | h0
 ·rw [show cutF (R.map Nr.n) M 0=false from rfl];clear hA hM
  go_enter Tryz.func77,Tryz.ntmps77
  go_wp2_with fail
  refine wp_region_grow 14 1 (·<14) (by kernel_rfl) (by kernel_rfl) rfl ?_
  iterate 14 (refine wpG_step (fun K hK=>?_);first | (refine grow_skip rfl ?_;go_simp;refine hK _ ?_;clear hK K) | (apply Exists.intro;refine ⟨.inl ⟨rfl,fun w' hw'=>?_⟩,?_⟩;(focus ((obtain ⟨hc,hf⟩:=bcell hw'.out);(have hcS:=bcellS hw'.out);go_simp <;> first | rfl));(go_simp;refine hK _ ?_;clear hK K)))
  refine wpG_nil ?_;refine wpK_tail (by kernel_rfl) (fun wa hga=>?_);have hba:=bdrewn hga.out;obtain ⟨hca,hfa⟩:=bcell hba;refine wpAny_one (i:=14) (by kernel_rfl) rfl rfl ?_;go_simp;refine wpAny_end (by kernel_rfl) ?_;refine NoPan.thn ?_;clear hca hfa;clear hga;go_wp2;go_ret;exact ⟨rfl,hba⟩
 ·obtain ⟨S,hS⟩:∃ S,M[i]?=some S:=⟨_,List.getElem?_eq_getElem (by omega)⟩
  rw [show cutF (R.map Nr.n) M i=!(decide ((szM (R.map Nr.n) i).1≤S.u) && decide ((szM (R.map Nr.n) i).2≤S.v)) by unfold cutF;rw [rcN_at hS,decide_eq_true h0,Bool.true_and]];obtain ⟨c0,c1,c2,c3⟩:=reB_cells hM hS;obtain ⟨y0,y1⟩:=WsV.at (lo:=0) hA hi;have hl:=hM.lt
  have hla:ga<w.heap.size:=by obtain ⟨cs,hh,_⟩:=hA;exact ltS hh
  have hd:decide ((i:Int) > 0)=true:=by simpa using h0
  have hd1:(i:Int)<(R.length:Int):=by omega
  clear hA hM hS;generalize hbb:(decide ((szM (R.map Nr.n) i).1≤S.u) && decide ((szM (R.map Nr.n) i).2≤S.v))=bb;have HBB:=hD hbb;clear hbb
  go_enter Tryz.func77,Tryz.ntmps77
  go_wp2_with fail
  refine wp_region_grow 14 1 (·<14) (by kernel_rfl) (by kernel_rfl) rfl ?_
  iterate 14 (refine wpG_step (fun K hK=>?_);first | (refine grow_skip rfl ?_;go_simp;refine hK _ ?_;clear hK K) | (apply Exists.intro;refine ⟨.inl ⟨rfl,fun w' hw'=>?_⟩,?_⟩;(focus ((obtain ⟨hc,hf⟩:=bcell hw'.out);(have hcS:=bcellS hw'.out);go_simp <;> first | rfl | (go_at_call 78;exact fits_v _ _ _ _ _ _ _ _ HBB.out)));(go_simp;refine hK _ ?_;clear hK K)))
  refine wpG_nil ?_;refine wpK_tail (by kernel_rfl) (fun wa hga=>?_);have hba:=bdrewn hga.out;obtain ⟨hca,hfa⟩:=bcell hba;refine wpAny_one (i:=14) (by kernel_rfl) rfl rfl ?_;go_simp;refine wpAny_end (by kernel_rfl) ?_;refine NoPan.thn ?_;clear hca hfa;clear hga;go_wp2;go_ret;exact ⟨rfl,hba⟩
theorem CutNodes_v (A:Option Addr) (c k:Nat) (R:List Nr) (a b:Int) (w:World) (hk:k=R.length) (h:NrV w A R) (hr:RdR w R) (hL:R.length≤1048576) (hm:∀ p ∈ R,p.n.cs.length≤1048576∧p.n.rs.length≤1048576) :
  Calls Tryz.prog 40 #[.agg #[.slice A k c],.int .i64 a,.int .i64 b] w fun e w'=>(∃ x,e=.returned x∧GO w.heap.size w' x (cutM (R.map Nr.n) a b))∧Below w.heap.size w w':=by
 have hB0:Below w.heap.size w (w.alloc (.cells #[.slice A k c] 30 (0,0))):=balloc (Below.refl _ _);have HX:=hD (newS w (.cells #[.slice A k c] 30 (0,0)));have HB:=hD hB0;have HV:=hD (h.keep hB0);have HR:=hD (hr.keep hB0);have HM:=hD hm;have HK:=hD hk;have x0:=cellS HX.out 0;clear hB0 h hr hm hk
 go_enter Tryz.func40,Tryz.ntmps40
 go_wp2_with fail
 with_reducible refine (LayoutTree_x A c k R a b _ HK.out HV.out HR.out hL HM.out).mono ?_
 rintro e w1 ⟨⟨x,rfl,hx,hnil⟩,hb⟩;clear x0;replace HX:=hbk hb HX;replace HV:=hD (HV.out.keep hb);replace HR:=hD (HR.out.keep hb);replace HB:=hD (bkeep2 HB.out hb);clear hb;have hok:=lyL_ok (L:=R.map Nr.n) (a:=a) (b:=b);have hlen:=lyL_len (R.map Nr.n) a b
 obtain ⟨M,hM⟩:∃ M,lyL (R.map Nr.n) a b=M:=⟨_,rfl⟩
 have HCP:=hD (show cutM (R.map Nr.n) a b=idsM (cutF (R.map Nr.n) M) M.length by unfold cutM;rw [hM]);rw [hM] at hx hok hlen hnil;clear hM;have hsz:w.heap.size≤w1.heap.size:=HB.out.size;have ltx:=ltS HX.out
 rcases Nat.eq_zero_or_pos M.length with hz | hz
 ·obtain rfl:=hnil hz;have HZ:=hD hz;clear hx hok hnil hz HV HR
  go_upto_region 2 with (fail)
  refine wp_genGG (fun W=>W.heap[w1.heap.size]?=some (.cells #[.slice none 0 0] 26 (0,0))∧Below w1.heap.size w1 W) ?g1 (fun W h=>?_)
  case g1=>exact ⟨newS _ _,balloc (Below.refl _ _)⟩
  obtain ⟨h1,hb⟩:=h;have x1:=cellS h1 0;replace HB:=hD (bkeep2 HB.out hb);clear h1 hb;go_wp2;go_ret;exact ⟨⟨_,rfl,.inl ⟨rfl,by rw [HCP.out,HZ.out];rfl⟩⟩,HB.out⟩
 ·obtain ⟨hT,hMR,hLw⟩:=hok hz;obtain ⟨A1,rfl,hx1⟩:=hx.sl;obtain ⟨g,rfl,hg,hre⟩:=hx1 hz;rw [List.length_map] at hMR;have HRE:=hD hre;have HT:=hD hT;have HMR:=hD hMR;clear hx hx1 hok hnil hre hT hMR hLw hg;rw [HMR.out]
  go_upto_region 2 with (fail)
  refine wp_genGG (fun W=>W.heap[w1.heap.size]?=some (.cells #[.slice (some ⟨g,0,none⟩) R.length R.length] 26 (0,0))∧Below w1.heap.size w1 W) ?g1 (fun W h=>?_)
  case g1=>exact ⟨newS _ _,balloc (Below.refl _ _)⟩
  obtain ⟨h1,hb⟩:=h;have HY:=hD h1;have x1:=cellS h1 0;have HX0:=hD ((hb.block _ ltx).trans HX.out);have x0:=cellS HX0.out 0;have hsW:w1.heap.size≤W.heap.size:=hb.size;replace HV:=hD (HV.out.keep hb);replace HR:=hD (HR.out.keep hb);replace HRE:=hD (HRE.out.keep hb);replace HB:=hD (bkeep2 HB.out hb);clear h1 hb HX
  go_wp2_with fail
  with_reducible refine (requests_v A c k R _ HT.out HK.out HV.out HR.out).mono ?_
  rintro e w2 ⟨⟨v,rfl,ga,rfl,hga,hws⟩,hb⟩;have HW:=hD hws;replace HY:=hD ((hb.block _ (ltS HY.out)).trans HY.out);replace HRE:=hD (HRE.out.keep hb);have hs2:W.heap.size≤w2.heap.size:=hb.size;replace HB:=hD (bkeep2 HB.out hb);clear hws hb x0 x1 HX0 HV HR;have x1:=cellS HY.out 0;have lty:=ltS HY.out
  go_upto_region 5 with (fail)
  refine wp_genGG (fun W=>W.heap[w2.heap.size]?=some (.cells #[.slice (some ⟨ga,0,none⟩) R.length R.length] 90 (0,0))∧Below w2.heap.size w2 W) ?g2 (fun W3 h=>?_)
  case g2=>exact ⟨newS _ _,balloc (Below.refl _ _)⟩
  obtain ⟨h1,hb⟩:=h;have HZ:=hD h1;have z1:=cellS h1 0;replace HY:=hD ((hb.block _ lty).trans HY.out);replace HRE:=hD (HRE.out.keep hb);replace HW:=hD (HW.out.keep hb);have hs3:w2.heap.size≤W3.heap.size:=hb.size;replace HB:=hD (bkeep2 HB.out hb);clear h1 hb x1;have x1:=cellS HY.out 0
  go_wp2_with fail
  refine (indicesCu_v R.length (cutF (R.map Nr.n) M) #[.pointer (some ⟨w2.heap.size,0,none⟩),.pointer (some ⟨w1.heap.size,0,none⟩)] _ (by omega) (fun i hi W2 hW=>?_)).mono ?_
  ·exact cut1_v R M ga g i _ _ W2 (HW.out.keep hW) (HRE.out.keep hW) HMR.out hi (cellS ((hW.block _ (ltS HZ.out)).trans HZ.out) 0) (cellS ((hW.block _ (ltS HY.out)).trans HY.out) 0) (Nat.lt_of_lt_of_le (ltS HZ.out) hW.size) (Nat.lt_of_lt_of_le (ltS HY.out) hW.size)
  rintro e w4 ⟨⟨v,rfl,hv⟩,hb2⟩;have HG:=hD (hv.mono (show w.heap.size≤W3.heap.size by omega));replace HB:=hD (bkeep2 HB.out hb2);clear hv hb2 x1 z1 HY HZ HW HRE;go_wp2;go_ret;exact ⟨⟨v,rfl,by rw [HCP.out,HMR.out];exact HG.out⟩,HB.out⟩
theorem sCutNodes_v (A:Option Addr) (c k:Nat) (R:List Nr) (a b:Int) (w:World) (hk:k=R.length) (h:NrV w A R) (hr:RdR w R) (hL:R.length≤1048576) (hm:∀ p ∈ R,p.n.cs.length≤1048576∧p.n.rs.length≤1048576) :
  Calls Tryz.prog 39 #[.agg #[.slice A k c],.int .i64 a,.int .i64 b] w fun e w'=>(∃ x,e=.returned x∧NR w' x (cutM (R.map Nr.n) a b))∧Below w.heap.size w w':=by
 obtain ⟨ti,tz,ti1,ti2,ti3,ti4,ti5⟩:=int_infoW;have hB0:Below w.heap.size w (w.alloc (.cells #[.slice A k c] 30 (0,0))):=balloc (Below.refl _ _);have HX:=hD (newS w (.cells #[.slice A k c] 30 (0,0)));have HB:=hD hB0;have HV:=hD (h.keep hB0);have HR:=hD (hr.keep hB0);have HM:=hD hm;have HK:=hD hk;have x0:=cellS HX.out 0;clear hB0 h hr hm hk
 cases ht:treeB (R.map Nr.n)
 ·rw [show cutM (R.map Nr.n) a b=[] by simp [cutM,lyL,ht];rfl];have HT:=hD ht;clear ht
  go_enter Tryz.func39,Tryz.ntmps39
  go_wp2_with fail
  with_reducible refine (svalidTree_n A c k R false _ HK.out HV.out HR.out hL HM.out HT.out).mono ?_
  rintro e w1 ⟨rfl,hb⟩;clear x0;replace HX:=hbk hb HX;replace HB:=hD (bkeep2 HB.out hb);clear hb;have x0:=cellS HX.out 0;go_wp2;go_ret;exact ⟨⟨_,rfl,⟨none,0,rfl,NV.nil _ _⟩⟩,HB.out⟩
 ·cases hg:rgG a b
  ·rw [show cutM (R.map Nr.n) a b=[] by simp [cutM,lyL,hg];rfl];have HT:=hD ht;clear ht
   go_enter Tryz.func39,Tryz.ntmps39
   go_wp2_with fail
   with_reducible refine (svalidTree_n A c k R true _ HK.out HV.out HR.out hL HM.out HT.out).mono ?_
   rintro e w1 ⟨rfl,hb⟩;clear x0;replace HX:=hbk hb HX;replace HB:=hD (bkeep2 HB.out hb);clear hb;have x0:=cellS HX.out 0
   go_wp2_with fail
   with_reducible refine (goodRoom_g a b _).mono ?_
   rintro e w2 ⟨rfl,rfl⟩;rw [hg];clear hg;go_wp2;go_ret;exact ⟨⟨_,rfl,⟨none,0,rfl,NV.nil _ _⟩⟩,HB.out⟩
  ·have hok:=lyL_ok (L:=R.map Nr.n) (a:=a) (b:=b)
   have hly:lyL (R.map Nr.n) a b=(List.range k).map (lrM (R.map Nr.n) a b):=by simp [lyL,ht,hg,HK.out]
   unfold cutM
   have hk1:1≤k:=by have:=(trOK_of ht).l1;rw [List.length_map] at this;have:=HK.out;omega
   obtain ⟨M,hM⟩:∃ M,(List.range k).map (lrM (R.map Nr.n) a b)=M:=⟨_,rfl⟩
   have hml:M.length=k:=by rw [<- hM,List.length_map,List.length_range]
   rw [hly,hM] at hok;rw [hly,hM];have HMM:=hD hM;clear hM;obtain ⟨hT,hMR,hLw⟩:=hok (by omega);rw [List.length_map] at hMR;rw [hMR,<- HK.out];have HT:=hD ht;have HG:=hD (rgG_yes hg);have HLW:=hD (And.intro hMR hLw);clear ht hly hT hMR hLw
   go_enter Tryz.func39,Tryz.ntmps39
   go_wp2_with fail
   with_reducible refine (svalidTree_n A c k R true _ HK.out HV.out HR.out hL HM.out HT.out).mono ?_
   rintro e w1 ⟨rfl,hb⟩;clear x0;replace HX:=hbk hb HX;replace HV:=hD (HV.out.keep hb);replace HR:=hD (HR.out.keep hb);replace HB:=hD (bkeep2 HB.out hb);clear hb;have x0:=cellS HX.out 0
   go_wp2_with fail
   with_reducible refine (goodRoom_g a b _).mono ?_
   rintro e w2 ⟨rfl,rfl⟩;rw [hg];clear hg
   go_wp2_with fail
   with_reducible refine (slayout_v A c k R a b _ (trOK_of HT.out) HK.out HV.out HR.out HG.out.1 HG.out.2).mono ?_
   rintro e w3 ⟨⟨g,rfl,hgl,hre⟩,hb⟩;have HRE:=hD hre;clear x0 hre hgl;replace HX:=hbk hb HX;replace HV:=hD (HV.out.keep hb);replace HR:=hD (HR.out.keep hb);replace HB:=hD (bkeep2 HB.out hb);clear hb;have x0:=cellS HX.out 0;rw [HMM.out] at HRE
   go_wp2_with fail
   with_reducible refine (wantsOf_v A c k R _ (trOK_of HT.out) HK.out HV.out HR.out).mono ?_
   rintro e w4 ⟨⟨x,rfl,A4,c4,rfl,hnv⟩,hb⟩;have HNV:=hD hnv;clear x0 hnv HR;replace HX:=hbk hb HX;replace HV:=hD (HV.out.keep hb);replace HRE:=hD (HRE.out.keep hb);replace HB:=hD (bkeep2 HB.out hb);clear hb
   obtain ⟨n4,hn4⟩:∃ n4,(wsL (szM (R.map Nr.n)) R.length).length=n4:=⟨_,rfl⟩
   rw [hn4];have HN4:=hD hn4;clear hn4;have HO:=hD (show (w4.alloc (.cells #[] 3 (0,0))).ownsRow w4.heap.size 3 1 (.slice (some ⟨w4.heap.size,0,none⟩) 0 0) 0 (nvalsW []) from World.ownsRow_lit (base:=w4.heap.size) (e:=3) (size:=1) w4 #[] 0 (by simp) (by decide) rfl);have hsz:w.heap.size≤w4.heap.size:=HB.out.size;have ltx:=ltS HX.out;have lt3:w.heap.size<w4.heap.size:=ltx
   go_wp2_with fail
   go_loopw [9,10] (fun out iv wr=>∃ i:Nat,1≤i∧i≤k∧iv=.int .i64 (i:Int)∧wr.ownsRow w4.heap.size 3 1 out (idsM (cutF (R.map Nr.n) M) i).length (nvalsW (idsM (cutF (R.map Nr.n) M) i))∧Below w4.heap.size w4 wr) (fun _ iv _=>k - (intOf iv).toNat)
   case atStart=>exact ⟨1,Nat.le_refl _,hk1,rfl,HO.out,balloc (Below.refl _ _)⟩
   case round =>
    obtain ⟨i,hi1,hik,rfl,ho,hbr⟩:=hrel;clear HO;have HO:=hD ho;have HBR:=hD hbr;have hob:=ho.lt;have hw4:w4.heap.size≤wr.heap.size:=hbr.size;have HX1:=hD ((hbr.block _ lt3).trans HX.out);have x0:=cellS HX1.out 0;have hil:=idsM_len (cutF (R.map Nr.n) M) i
    by_cases hlt:i<k
    ·have hd:decide ((i:Int)<(k:Int))=true:=decide_eq_true (by omega)
     have hdi:(i:Int)<(k:Int):=by omega
     have hi:i<R.length:=by have:=HK.out;omega
     have hMR:=HLW.out.1
     obtain ⟨S,hS⟩:∃ S,M[i]?=some S:=⟨_,List.getElem?_eq_getElem (by omega)⟩
     have hcl:cutF (R.map Nr.n) M i=!(decide ((szM (R.map Nr.n) i).1≤S.u) && decide ((szM (R.map Nr.n) i).2≤S.v)):=by unfold cutF;rw [rcN_at hS,decide_eq_true (show 0<i from hi1),Bool.true_and]
     have hre:=HRE.out.keep hbr;obtain ⟨c0,c1,c2,c3⟩:=reB_cells hre hS;have hwl:=wsL_len (szM (R.map Nr.n)) R.length;rw [HN4.out] at hwl;obtain ⟨g1,g2⟩:=wsL_get (f:=szM (R.map Nr.n)) hi;obtain ⟨b4,o4,rfl,hb4,hc4⟩:=(HNV.out.keep hbr).cells (by rw [HN4.out];omega);have y0:=hc4 (2*i) _ g1;have y1:=hc4 (2*i+1) _ g2;generalize szM (R.map Nr.n) i=q at *;obtain ⟨q1,q2⟩:=q
     dsimp only at y0 y1 hcl
     obtain ⟨j1,hj1⟩:∃ j1:Nat,2*i=j1:=⟨_,rfl⟩
     obtain ⟨j2,hj2⟩:∃ j2:Nat,2*i+1=j2:=⟨_,rfl⟩
     rw [hj1] at y0;rw [hj2] at y1
     have hm1:(2:Int)*(i:Int)=(j1:Int):=by omega
     have hm2:(j1:Int)+1=(j2:Int):=by omega
     have hm3:(j1:Int)<(n4:Int):=by have:=HK.out;omega
     have hm4:(j2:Int)<(n4:Int):=by have:=HK.out;omega
     have hm5:(j2:Int)≤21:=by have:=HK.out;have:=(trOK_of HT.out).l10;rw [List.length_map] at this;omega
     have hw1:IntKind.i64.wrap (j1:Int)=(j1:Int):=IntWalk.i64_in _ (by omega);have hw2:IntKind.i64.wrap (j2:Int)=(j2:Int):=IntWalk.i64_in _ (by omega);clear hj1 hj2 hwl;have hl:=hre.lt;obtain ⟨bl,off,rfl,hbl,hps⟩:=(HV.out.keep hbr).cells (by omega)
     have hk10:k≤10:=by have:=(trOK_of HT.out).l10;rw [List.length_map] at this;have:=HK.out;omega
     clear hre hps hS hbr ho hMR hc4 g1 g2
     by_cases g1:S.u<q1
     ·have hd3:decide (S.u<q1)=true:=decide_eq_true g1;have hids:=idsM_yes (hcl.trans (by rw [decide_eq_false (by omega)];rfl));have HIDS:=hD hids;clear hcl hids
      go_wp2_with fail
      refine wp_region_grow 25 0 (·<25) (by kernel_rfl) (by kernel_rfl) rfl ?_
      iterate 25 (refine wpG_step (fun K hK=>?_);first | (refine grow_skip rfl ?_;go_simp;refine hK _ ?_;clear hK K) | (apply Exists.intro;refine ⟨.inl ⟨rfl,fun w' hw'=>?_⟩,?_⟩;(focus ((obtain ⟨hc,hf⟩:=bcell hw'.out);(have hcS:=bcellS hw'.out);go_simp <;> first | rfl));(go_simp;refine hK _ ?_;clear hK K)))
      refine wpG_nil ?_;refine wpK_tail (by kernel_rfl) (fun w5 hg5=>?_);have hb5:=bdrewn hg5.out;refine wpAny_end (by kernel_rfl) ?_;refine NoPan.thn ?_;clear hg5;clear c0 c1 c2 c3 y0 y1 x0;replace HO:=hD (own_bw HO.out hb5);replace HBR:=hD (bkeep HBR.out hb5 hw4);have hob5:=HO.out.lt;have hw5:w4.heap.size≤w5.heap.size:=HBR.out.size;clear hb5 hob
      go_wp2_with (at_builtin;refine wpList_append_own _ rfl _ _ 37 rfl w4.heap.size 3 ti tz 1 8 Tryz.underlying37 ti1 ti2 ti3 ti4 ti5 (by decide) _ _ _ rfl (HO.out.alloc _) ⟨w5.heap.size,0,none⟩ 1 1 [.int .i64 (i:Int)] rfl rfl (newW _ _ _) (by simp [Value.oneCell']) (by simp only [maxLen];omega) (by omega) (by simp;omega) ?_)
      intro v6 w6 how6 hgr6 _;rw [nvalsW_snoc,<- HIDS.out] at how6;have HB6:=hD (below_own (n:=w4.heap.size) HBR.out hgr6 (lo:=w4.heap.size) (hi:=w5.heap.size) hob5 (Nat.le_refl _) (Nat.le_refl _));have HO6:=hD how6;have hx6:=hD ((HB6.out.block _ lt3).trans HX.out);have x6:=cellS hx6.out 0
      have hl6:(idsM (cutF (R.map Nr.n) M) i).length+1=(idsM (cutF (R.map Nr.n) M) (i+1)).length:=by rw [HIDS.out];simp
      have HL6:=hD hl6;clear how6 hgr6 hob5 HO HBR hl6;go_wp2
      go_roundw
      case rel=>exact ⟨i+1,by omega,by omega,by go_num,by have:=HO6.out;rwa [<- HL6.out],HB6.out⟩
      case measure=>simp [intOf];omega
     ·have hd3:decide (S.u<q1)=false:=decide_eq_false g1
      by_cases g2:S.v<q2
      ·have hd4:decide (S.v<q2)=true:=decide_eq_true g2;have hids:=idsM_yes (hcl.trans (by rw [decide_eq_true (show q1≤S.u by omega),decide_eq_false (show ¬ q2≤S.v by omega)];rfl));have HIDS:=hD hids;clear hcl hids
       go_wp2_with fail
       refine wp_region_grow 25 0 (·<25) (by kernel_rfl) (by kernel_rfl) rfl ?_
       iterate 25 (refine wpG_step (fun K hK=>?_);first | (refine grow_skip rfl ?_;go_simp;refine hK _ ?_;clear hK K) | (apply Exists.intro;refine ⟨.inl ⟨rfl,fun w' hw'=>?_⟩,?_⟩;(focus ((obtain ⟨hc,hf⟩:=bcell hw'.out);(have hcS:=bcellS hw'.out);go_simp <;> first | rfl));(go_simp;refine hK _ ?_;clear hK K)))
       refine wpG_nil ?_;refine wpK_tail (by kernel_rfl) (fun w5 hg5=>?_);have hb5:=bdrewn hg5.out;refine wpAny_end (by kernel_rfl) ?_;refine NoPan.thn ?_;clear hg5;clear c0 c1 c2 c3 y0 y1 x0;replace HO:=hD (own_bw HO.out hb5);replace HBR:=hD (bkeep HBR.out hb5 hw4);have hob5:=HO.out.lt;have hw5:w4.heap.size≤w5.heap.size:=HBR.out.size;clear hb5 hob
       go_wp2_with (at_builtin;refine wpList_append_own _ rfl _ _ 37 rfl w4.heap.size 3 ti tz 1 8 Tryz.underlying37 ti1 ti2 ti3 ti4 ti5 (by decide) _ _ _ rfl (HO.out.alloc _) ⟨w5.heap.size,0,none⟩ 1 1 [.int .i64 (i:Int)] rfl rfl (newW _ _ _) (by simp [Value.oneCell']) (by simp only [maxLen];omega) (by omega) (by simp;omega) ?_)
       intro v6 w6 how6 hgr6 _;rw [nvalsW_snoc,<- HIDS.out] at how6;have HB6:=hD (below_own (n:=w4.heap.size) HBR.out hgr6 (lo:=w4.heap.size) (hi:=w5.heap.size) hob5 (Nat.le_refl _) (Nat.le_refl _));have HO6:=hD how6;have hx6:=hD ((HB6.out.block _ lt3).trans HX.out);have x6:=cellS hx6.out 0
       have hl6:(idsM (cutF (R.map Nr.n) M) i).length+1=(idsM (cutF (R.map Nr.n) M) (i+1)).length:=by rw [HIDS.out];simp
       have HL6:=hD hl6;clear how6 hgr6 hob5 HO HBR hl6;go_wp2
       go_roundw
       case rel=>exact ⟨i+1,by omega,by omega,by go_num,by have:=HO6.out;rwa [<- HL6.out],HB6.out⟩
       case measure=>simp [intOf];omega
      ·have hd4:decide (S.v<q2)=false:=decide_eq_false g2;have hids:=idsM_no (hcl.trans (by rw [decide_eq_true (show q1≤S.u by omega),decide_eq_true (show q2≤S.v by omega)];rfl));have HIDS:=hD hids;clear hcl hids
       go_wp2_with fail
       refine wp_region_grow 25 0 (·<25) (by kernel_rfl) (by kernel_rfl) rfl ?_
       iterate 25 (refine wpG_step (fun K hK=>?_);first | (refine grow_skip rfl ?_;go_simp;refine hK _ ?_;clear hK K) | (apply Exists.intro;refine ⟨.inl ⟨rfl,fun w' hw'=>?_⟩,?_⟩;(focus ((obtain ⟨hc,hf⟩:=bcell hw'.out);(have hcS:=bcellS hw'.out);go_simp <;> first | rfl));(go_simp;refine hK _ ?_;clear hK K)))
       refine wpG_nil ?_;refine wpK_tail (by kernel_rfl) (fun w5 hg5=>?_);have hb5:=bdrewn hg5.out;refine wpAny_end (by kernel_rfl) ?_;refine NoPan.thn ?_;clear hg5;clear c0 c1 c2 c3 y0 y1 x0;replace HO:=hD (own_bw HO.out hb5);replace HBR:=hD (bkeep HBR.out hb5 hw4);clear hb5 hob;go_wp2
       go_roundw
       case rel=>exact ⟨i+1,by omega,by omega,by go_num,by rw [HIDS.out];exact HO.out,HBR.out⟩
       case measure=>simp [intOf];omega
    ·obtain rfl:i=k:=by omega
     have hd:decide ((i:Int)<(i:Int))=false:=by simp
     obtain ⟨b0,off,rfl,-⟩:=HV.out.cells (by have:=HK.out;omega);go_wp2;go_ret;exact ⟨⟨_,rfl,(GO.of HO.out (by rfl)).nr⟩,bkeep HB.out hbr hsz⟩
end
end Go.Proofs.YtenckjdiggaonaaGreat
