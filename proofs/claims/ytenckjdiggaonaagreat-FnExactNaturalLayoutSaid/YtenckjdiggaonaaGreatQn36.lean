import Derived.Test.YtenckjdiggaonaaGreatQn35
set_option linter.unusedVariables false
set_option linter.unusedSimpArgs false
set_option maxRecDepth 100000
set_option maxHeartbeats 16000000
namespace Go.Proofs.YtenckjdiggaonaaGreat
open Go.RowKit
attribute [local go_sem] growUpon_value growUpon_skip growUpon_enter
section
theorem trOK_of {L:List Nd} (h:treeB L=true):TrOK L where
 l1:=(tree_len h).1
 l10:=(tree_len h).2
 up:=fun k n hn=>by
  obtain ⟨_,hu,_⟩:=tree_nok h hn;unfold upB at hu
  split at hu
  ·rename_i e;exact .inl ⟨e,by simpa using hu⟩
  ·rename_i e;rw [rng_iff] at hu;right;omega
 sz:=fun k n hn=>by
  obtain ⟨hd,_,_⟩:=tree_nok h hn;simp only [ndB,Bool.and_eq_true,rng_iff] at hd;obtain ⟨⟨h1,h2⟩,h3,_⟩:=hd;exact ⟨h1,h2,by omega⟩
 pk:=fun k n hn=>by
  obtain ⟨hd,_,_⟩:=tree_nok h hn;simp only [ndB,Bool.and_eq_true] at hd;exact hd.2.2.2.1
 pl:=fun k n hn=>by
  obtain ⟨hd,_,_⟩:=tree_nok h hn;simp only [ndB,Bool.and_eq_true] at hd;exact hd.2.2.2.2.2.2.2.2
 li:=fun k n hn h1=>own_lines (tree_nok h hn).1 h1
 ce:=fun k n u hn h0 hu h1=>by
  obtain ⟨_,_,hc⟩:=tree_nok h hn;unfold clB at hc;rw [if_neg (by omega),hu] at hc
  simpa [h1] using hc
def WsV (lo:Nat) (w:World) (R:List Nr) (v:Value):Prop:=∃ g:Nat,v=.slice (some ⟨g,0,none⟩) R.length R.length∧lo≤g∧RbK 2 w g 93 ((List.range R.length).map fun k=>valsWi (szM (R.map Nr.n) k))
theorem WsV.keep {lo:Nat} {w w':World} {R:List Nr} {v:Value} (h:WsV lo w R v) (hb:Below w.heap.size w w'):WsV lo w' R v:=let ⟨g,e,hl,k⟩:=h;⟨g,e,hl,k.keep hb⟩
theorem WsV.mono {lo lo':Nat} {w:World} {R:List Nr} {v:Value} (h:WsV lo w R v) (hl:lo'≤lo):WsV lo' w R v:=let ⟨g,e,h1,k⟩:=h;⟨g,e,by omega,k⟩
theorem wishes_eq {w:World} {R:List Nr} {X:List Wd} (hl:X.length=R.length) (hx:∀ i x,X[i]?=some x→WdK 0 w R i x):(X.map fun y=>valsWi (y.sw,y.sh))=(List.range R.length).map fun k=>valsWi (szM (R.map Nr.n) k):=by
 refine List.ext_getElem? fun i=>?_
 rw [List.getElem?_map,List.getElem?_map]
 by_cases hi:i<R.length
 ·have e:X[i]?=some X[i]:=List.getElem?_eq_getElem (by omega);obtain ⟨p,_,_,e2,_⟩:=hx i _ e;rw [e,List.getElem?_range hi];simp only [Option.map_some];rw [e2]
 ·rw [List.getElem?_eq_none (by omega),List.getElem?_eq_none (by simp;omega)];rfl
theorem requests_v (A:Option Addr) (c k:Nat) (R:List Nr) (w:World) (hT:TrOK (R.map Nr.n)) (hk:k=R.length) (h:NrV w A R) (hr:RdR w R) :
  Calls Tryz.prog 76 #[.agg #[.slice A k c]] w fun e w'=>(∃ v,e=.returned v∧WsV w.heap.size w' R v)∧Below w.heap.size w w':=by
 subst hk
 have hL:R.length≤10:=by have:=hT.l10;rwa [List.length_map] at this
 have hB0:Below w.heap.size w (w.alloc (.cells #[.slice A R.length c] 30 (0,0))):=balloc (Below.refl _ _);have HX:=hD (newS w (.cells #[.slice A R.length c] 30 (0,0)));have HB:=hD hB0;have HV:=hD (h.keep hB0);have HR:=hD (hr.keep hB0);have x0:=cellS HX.out 0;clear hB0 h hr
 go_enter Tryz.func76,Tryz.ntmps76
 go_wp2_with fail
 with_reducible refine (settled_v A c R hT _ HV.out HR.out hL).mono ?_
 rintro e w1 ⟨⟨v,rfl,g,X,rfl,hg,X1,X2,X3⟩,hb⟩;clear x0;replace HX:=hbk hb HX;replace HB:=hD (bkeep2 HB.out hb);clear hb;have HX2:=hD X2.v;have HE:=hD (wishes_eq X1 X3);have HX1:=hD X1;clear X1 X2 X3 hg
 go_wp2_with fail
 with_reducible refine (each_wishes _ _ R.length X _ HX2.out HX1.out.symm (by omega)).mono ?_
 rintro e w2 ⟨rfl,hq,hb⟩;rw [HE.out] at hq;have HQ:=hD hq;have hs1:=HB.out.size;clear hq;replace HB:=hD (bkeep2 HB.out hb);clear hb;go_wp2;go_ret;exact ⟨⟨_,rfl,_,rfl,hs1,HQ.out⟩,HB.out⟩
def rqM (L:List Nd) (i:Int):Int × Int:=if (treeB L && rng i 0 ((L.length:Int) - 1))=true then szM L i.toNat else (-1,-1)
theorem WsV.at {lo:Nat} {w:World} {R:List Nr} {g:Nat} (h:RbK 2 w g 93 ((List.range R.length).map fun k=>valsWi (szM (R.map Nr.n) k))) {j:Nat} (hj:j<R.length):w.cell? ⟨g,j*2,none⟩=some (.int .i64 (szM (R.map Nr.n) j).1)∧w.cell? ⟨g,j*2+1,none⟩=some (.int .i64 (szM (R.map Nr.n) j).2):=by
 obtain ⟨cs,hh,hs,hc⟩:=h
 have:=hc j (valsWi (szM (R.map Nr.n) j)) (by simpa using hj) (by rw [List.getElem?_map,List.getElem?_range hj];rfl)
 exact ⟨(cellS hh _).trans (this 0 _ rfl),(cellS hh _).trans (this 1 _ rfl)⟩
theorem RequestOf_no (A:Option Addr) (c k:Nat) (R:List Nr) (i:Int) (w:World) (hk:k=R.length) (h:NrV w A R) (hr:RdR w R) (hL:R.length≤1048576) (hm:∀ p ∈ R,p.n.cs.length≤1048576∧p.n.rs.length≤1048576) (hb:(treeB (R.map Nr.n) && rng i 0 ((k:Int) - 1))=false) :
  Calls Tryz.prog 56 #[.agg #[.slice A k c],.int .i64 i] w fun e w'=>e=.returned (.tuple #[.int .i64 (-1),.int .i64 (-1)])∧Below w.heap.size w w':=by
 have hkl:k≤1048576:=by omega
 have hB0:Below w.heap.size w (w.alloc (.cells #[.slice A k c] 30 (0,0))):=balloc (Below.refl _ _);have HX:=hD (newS w (.cells #[.slice A k c] 30 (0,0)));have HB:=hD hB0;have HV:=hD (h.keep hB0);have HR:=hD (hr.keep hB0);have HM:=hD hm;have HK:=hD hk;have x0:=cellS HX.out 0;clear hB0 h hr hm hk
 cases ht:treeB (R.map Nr.n)
 ·have HT:=hD ht;clear hb ht
  go_enter Tryz.func56,Tryz.ntmps56
  go_wp2_with fail
  with_reducible refine (ValidTree_n A c k R false _ HK.out HV.out HR.out hL HM.out HT.out).mono ?_
  rintro e w1 ⟨rfl,hb⟩;clear x0;replace HX:=hbk hb HX;replace HB:=hD (bkeep2 HB.out hb);clear hb;have x0:=cellS HX.out 0;go_wp2;go_ret2;exact ⟨rfl,HB.out⟩
 ·have hb2:rng i 0 ((k:Int) - 1)=false:=by rw [ht] at hb;simpa using hb
  have HT:=hD ht;have HBB:=hD hb2;clear hb ht hb2
  go_enter Tryz.func56,Tryz.ntmps56
  go_wp2_with fail
  with_reducible refine (ValidTree_n A c k R true _ HK.out HV.out HR.out hL HM.out HT.out).mono ?_
  rintro e w1 ⟨rfl,hb⟩;clear x0;replace HX:=hbk hb HX;replace HB:=hD (bkeep2 HB.out hb);clear hb;have x0:=cellS HX.out 0
  go_wp2_with fail
  with_reducible refine (has_v A c k i false _ hkl HBB.out).mono ?_
  rintro e w2 ⟨rfl,hb⟩;clear x0;replace HX:=hbk hb HX;replace HB:=hD (bkeep2 HB.out hb);clear hb;have x0:=cellS HX.out 0;go_wp2;go_ret2;exact ⟨rfl,HB.out⟩
theorem RequestOf_yes (A:Option Addr) (c k:Nat) (R:List Nr) (j:Nat) (w:World) (hk:k=R.length) (h:NrV w A R) (hr:RdR w R) (hL:R.length≤1048576) (hm:∀ p ∈ R,p.n.cs.length≤1048576∧p.n.rs.length≤1048576) (ht:treeB (R.map Nr.n)=true) (hj:j<R.length) :
  Calls Tryz.prog 56 #[.agg #[.slice A k c],.int .i64 j] w fun e w'=>e=.returned (.tuple #[.int .i64 (szM (R.map Nr.n) j).1,.int .i64 (szM (R.map Nr.n) j).2])∧Below w.heap.size w w':=by
 have hkn:(j:Int)<(k:Int):=by omega
 have hkl:k≤1048576:=by omega
 have hB0:Below w.heap.size w (w.alloc (.cells #[.slice A k c] 30 (0,0))):=balloc (Below.refl _ _);have HX:=hD (newS w (.cells #[.slice A k c] 30 (0,0)));have HB:=hD hB0;have HV:=hD (h.keep hB0);have HR:=hD (hr.keep hB0);have HM:=hD hm;have HK:=hD hk;have x0:=cellS HX.out 0;clear hB0 h hr hm hk;have HT:=hD ht;have HBB:=hD (show rng (j:Int) 0 ((k:Int) - 1)=true by rw [rng_iff];omega);clear ht
 go_enter Tryz.func56,Tryz.ntmps56
 go_wp2_with fail
 with_reducible refine (ValidTree_n A c k R true _ HK.out HV.out HR.out hL HM.out HT.out).mono ?_
 rintro e w1 ⟨rfl,hb⟩;clear x0;replace HX:=hbk hb HX;replace HV:=hD (HV.out.keep hb);replace HR:=hD (HR.out.keep hb);replace HB:=hD (bkeep2 HB.out hb);clear hb;have x0:=cellS HX.out 0
 go_wp2_with fail
 with_reducible refine (has_v A c k j true _ hkl HBB.out).mono ?_
 rintro e w2 ⟨rfl,hb⟩;clear x0;replace HX:=hbk hb HX;replace HV:=hD (HV.out.keep hb);replace HR:=hD (HR.out.keep hb);replace HB:=hD (bkeep2 HB.out hb);clear hb;have x0:=cellS HX.out 0
 go_wp2_with fail
 with_reducible refine (requests_v A c k R _ (trOK_of HT.out) HK.out HV.out HR.out).mono ?_
 rintro e w3 ⟨⟨v,rfl,g,rfl,hg,hq⟩,hb⟩;clear x0;replace HX:=hbk hb HX;replace HB:=hD (bkeep2 HB.out hb);clear hb;obtain ⟨y0,y1⟩:=WsV.at (lo:=0) hq hj;have hgl:g<w3.heap.size:=RpK.lt hq
 have hd:(j:Int)<(R.length:Int):=by omega
 clear hq
 obtain ⟨q1,hq1⟩:∃ q1,(szM (R.map Nr.n) j).1=q1:=⟨_,rfl⟩
 obtain ⟨q2,hq2⟩:∃ q2,(szM (R.map Nr.n) j).2=q2:=⟨_,rfl⟩
 rw [hq1] at y0;rw [hq2] at y1;have HQ1:=hD hq1;have HQ2:=hD hq2;clear hq1 hq2
 go_upto_region 4 with fail
 refine wp_genGG (fun W=>W.cell? ⟨w3.heap.size,0,none⟩=some (.int .i64 q1)∧W.cell? ⟨w3.heap.size,1,none⟩=some (.int .i64 q2)∧Below w3.heap.size w3 W) ⟨by go_simp,by go_simp,(by repeat (first | with_reducible exact Below.refl _ _ | with_reducible assumption | with_reducible refine balloc ?_ | (with_reducible refine bset ?_ ?_;rotate_left;((try dsimp only);omega)) | refine bkeep2 ?_ (by assumption) | with_reducible refine Below.drew ?_))⟩ (fun W4 h4=>?_)
 obtain ⟨z0,z1,hb4⟩:=h4;clear y0 y1;replace HB:=hD (bkeep2 HB.out hb4);clear hb4
 go_quiet (fail)
 go_wp2;go_ret2;exact ⟨ret_tup2 HQ1.out.symm HQ2.out.symm,belowN' HB.out _⟩
end
section
def GRB (lo:Nat) (w:World) (x:Value) (M:List Re):Prop:=(x=.slice none 0 0∧M=[]) ∨ ∃ g n,x=.slice (some ⟨g,0,none⟩) n n∧n=M.length∧lo≤g∧ReB w g M
theorem GRB.rv {lo:Nat} {w:World} {x:Value} {M:List Re} (h:GRB lo w x M):ReR w x M:=by
 rcases h with ⟨rfl,rfl⟩ | ⟨g,n,rfl,rfl,_,hk⟩
 ·exact ⟨none,0,rfl,ReV.nil _ _⟩
 ·exact ⟨_,_,rfl,hk.v⟩
theorem GRB.keep {lo:Nat} {w w':World} {x:Value} {M:List Re} (h:GRB lo w x M) (hb:Below w.heap.size w w'):GRB lo w' x M :=
 h.imp id fun ⟨g,n,h1,h2,h3,hk⟩=>⟨g,n,h1,h2,h3,hk.keep hb⟩
def mkR (k:Nat):Re:=⟨(k:Int)*4+1,(k:Int)*4+1+1,(k:Int)*4+1+1+1,(k:Int)*4+1+1+1+1⟩
def MKR (n:Nat):List Re:=(List.range n).map mkR
theorem MKR_len (n:Nat):(MKR n).length=n:=by simp [MKR]
theorem MKR_get {n k:Nat} (h:k<n):(MKR n)[k]?=some (mkR k):=by simp [MKR,h]
theorem MKR_eq {n k:Nat} {r:Re} (h:(MKR n)[k]?=some r):r=mkR k:=by
 have:k<n:=by have:=(List.getElem?_eq_some_iff.1 h).1;rwa [MKR_len] at this
 rw [MKR_get this] at h;exact (Option.some.inj h).symm
theorem markReH_v (g:Nat) (M:List Re) (n:Nat) (w:World) (h:ReB w g M) (hn:n=M.length) (hL:n≤1000) :
  Calls Tryz.prog 19 #[.slice (some ⟨g,0,none⟩) n n,.int .i64 1] w fun e w'=>e=.returned (.int .i64 ((n:Int)*4+1))∧ReB w' g (MKR n)∧w.grownBy w' (some g):=by
 obtain ⟨cs0,hh0,hs0,_⟩:=h;rw [<- hn] at hs0;clear hn;have H0:=hD (And.intro hh0 hs0);clear hh0 hs0
 go_enter Tryz.func19,Tryz.ntmps19
 go_wp2_with fail
 go_loopw [1,5] (fun kk i wr=>∃ k:Nat,k≤n∧i=.int .i64 k∧kk=.int .i64 ((k:Int)*4+1)∧(∃ cs:Array Value,wr.heap[g]?=some (.cells cs 45 (0,0))∧cs.size=n*4∧∀ i,i<k→InS cs (i*4) (valsRe (mkR i)))∧w.grownBy wr (some g)) (fun _ i _=>n - (intOf i).toNat)
 case atStart=>exact ⟨0,by omega,rfl,rfl,⟨_,H0.out.1,H0.out.2,fun i hi=>absurd hi (by omega)⟩,greflS _ _⟩
 case round =>
  obtain ⟨k,hk,rfl,rfl,⟨cs,hh,hs,hc⟩,hB⟩:=hrel;clear H0
  by_cases hlt:k<n
  ·have hd:decide ((k:Int)<(n:Int))=true:=by simpa using hlt
   have hsz:k*4+4≤cs.size:=by rw [hs];omega
   obtain ⟨y0,d0⟩:=thereS hh (i:=k*4) (by omega);obtain ⟨y1,d1⟩:=thereS hh (i:=k*4+1) (by omega);obtain ⟨y2,d2⟩:=thereS hh (i:=k*4+2) (by omega);obtain ⟨y3,d3⟩:=thereS hh (i:=k*4+3) (by omega);have f0:=frozenS hh (k*4);have f1:=frozenS hh (k*4+1);have f2:=frozenS hh (k*4+2);have f3:=frozenS hh (k*4+3);have HS:=hD hs;have HC:=hD hc;have HB:=hD hB;have E1:=hD (putRe hh (k*4) (mkR k))
   clear hh hs hc hB
   go_wp2_with fail
   go_roundw
   case rel =>
    refine ⟨k+1,by omega,by go_num,by go_num,⟨_,E1.out,(wrAt_size _ _ _).trans HS.out,fun i hi=>?_⟩,?_⟩
    ·by_cases e:i=k
     ·subst e;exact InS.write (by simp only [valsRe,List.length_cons,List.length_nil];omega)
     ·exact (HC.out i (by omega)).keepS (.inl (by simp only [valsRe,List.length_cons,List.length_nil];omega))
    ·exact gsetS (gsetS (gsetS (gsetS HB.out _ _) _ _) _ _) _ _
   case measure=>simp [intOf];omega
  ·have hd:decide ((k:Int)<(n:Int))=false:=by simp;omega
   obtain rfl:k=n:=by omega
   have HK:=hD (show ReB wr g (MKR k) from ⟨cs,hh,by rw [hs,MKR_len],fun i r hr=>by
    have h1:i<k:=by have:=(List.getElem?_eq_some_iff.1 hr).1;rwa [MKR_len] at this
    rw [MKR_eq hr];exact hc i h1⟩)
   have HB:=hD hB;clear hh hs hB hc;go_wp2;go_ret;exact ⟨rfl,HK.out,HB.out⟩
theorem heldReH_v (g:Nat) (n:Nat) (w:World) (h:ReB w g (MKR n)) (hL:n≤1000) :
  Calls Tryz.prog 20 #[.slice (some ⟨g,0,none⟩) n n,.int .i64 1] w fun e w'=>e=.returned (.int .i64 ((n:Int)*4+1))∧Below w.heap.size w w':=by
 have H:=hD h;have hg:=h.lt;clear h
 go_enter Tryz.func20,Tryz.ntmps20
 go_wp2_with fail
 go_loopw [1,5] (fun kk i wr=>∃ k:Nat,k≤n∧i=.int .i64 k∧kk=.int .i64 ((k:Int)*4+1)∧Below w.heap.size w wr) (fun _ i _=>n - (intOf i).toNat)
 case atStart=>exact ⟨0,by omega,rfl,rfl,Below.refl _ _⟩
 case round =>
  obtain ⟨k,hk,rfl,rfl,hB⟩:=hrel
  by_cases hlt:k<n
  ·have hd:decide ((k:Int)<(n:Int))=true:=by simpa using hlt
   obtain ⟨b,off,e,hb,hp⟩:=(H.out.keep hB).v.cells (by rw [MKR_len];omega)
   cases e
   obtain ⟨c0,c1,c2,c3⟩:=hp k _ (MKR_get hlt)
   dsimp only [mkR] at c0 c1 c2 c3
   rw [Nat.zero_add] at c0 c1 c2 c3;have HB:=hD hB;clear hB hp
   go_wp2_with fail
   go_roundw
   case rel=>exact ⟨k+1,by omega,by go_num,by go_num,HB.out⟩
   case measure=>simp [intOf];omega
  ·have hd:decide ((k:Int)<(n:Int))=false:=by simp;omega
   obtain rfl:k=n:=by omega
   have HB:=hD hB;clear hB;go_wp2;go_ret;exact ⟨rfl,HB.out⟩
theorem markReH_nil (w:World):Calls Tryz.prog 19 #[.slice none 0 0,.int .i64 1] w fun e w'=>e=.returned (.int .i64 1)∧w'=w:=by
 go_enter Tryz.func19,Tryz.ntmps19
 go_wp2_with fail
 go_loopw [1,5] (fun kk i wr=>i=.int .i64 0∧kk=.int .i64 1∧wr=w) (fun _ i _=>0)
 case atStart=>exact ⟨rfl,rfl,rfl⟩
 case round =>
  obtain ⟨rfl,rfl,rfl⟩:=hrel;go_wp2;go_ret;exact ⟨rfl,rfl⟩
theorem heldReH_nil (w:World):Calls Tryz.prog 20 #[.slice none 0 0,.int .i64 1] w fun e w'=>e=.returned (.int .i64 1)∧w'=w:=by
 go_enter Tryz.func20,Tryz.ntmps20
 go_wp2_with fail
 go_loopw [1,5] (fun kk i wr=>i=.int .i64 0∧kk=.int .i64 1∧wr=w) (fun _ i _=>0)
 case atStart=>exact ⟨rfl,rfl,rfl⟩
 case round =>
  obtain ⟨rfl,rfl,rfl⟩:=hrel;go_wp2;go_ret;exact ⟨rfl,rfl⟩
theorem below_grownS {w w':World} {lo g:Nat} (h:w.grownBy w' (some g)) (hg:lo≤g) (hw:lo≤w.heap.size):Below lo w w' :=
 ⟨h.os,h.tape,h.output,h.size,fun k hk=>h.block k (by omega) (fun e=>by have:=Option.some.inj e;omega)⟩
theorem GRB.but {lo g0:Nat} {w w':World} {v:Value} {M:List Re} (h:GRB lo w v M) (hb:w.grownBy w' (some g0)) (hg:g0<lo):GRB lo w' v M :=
 h.imp id fun ⟨g,n,h1,h2,h3,hk⟩=>⟨g,n,h1,h2,h3,hk.but hb (by omega)⟩
def GRM (w:World) (v:Value) (n:Nat):Prop:=(v=.slice none 0 0∧n=0) ∨ ∃ g,v=.slice (some ⟨g,0,none⟩) n n∧ReB w g (MKR n)
theorem GRM.keep {w w':World} {v:Value} {n:Nat} (h:GRM w v n) (hb:Below w.heap.size w w'):GRM w' v n :=
 h.imp id fun ⟨g,h1,hk⟩=>⟨g,h1,hk.keep hb⟩
theorem markGR (lo:Nat) (w:World) (v:Value) (M:List Re) (h:GRB lo w v M) (hM:M.length≤1000) :
  Calls Tryz.prog 19 #[v,.int .i64 1] w fun e w'=>e=.returned (.int .i64 ((M.length:Int)*4+1))∧GRM w' v M.length∧Below lo w w':=by
 rcases h with ⟨rfl,rfl⟩ | ⟨g,n,rfl,hn,hlo,hk⟩
 ·refine (markReH_nil w).mono ?_;rintro e w' ⟨rfl,rfl⟩;exact ⟨rfl,.inl ⟨rfl,rfl⟩,Below.refl _ _⟩
 ·have hlt:=hk.lt;refine (markReH_v g M n w hk hn (by omega)).mono ?_;rintro e w' ⟨rfl,hk',hg⟩;subst hn;exact ⟨rfl,.inr ⟨g,rfl,hk'⟩,below_grownS hg hlo (by omega)⟩
theorem heldGR (w:World) (v:Value) (n:Nat) (h:GRM w v n) (hn:n≤1000) :
  Calls Tryz.prog 20 #[v,.int .i64 1] w fun e w'=>e=.returned (.int .i64 ((n:Int)*4+1))∧Below w.heap.size w w':=by
 rcases h with ⟨rfl,rfl⟩ | ⟨g,rfl,hk⟩
 ·refine (heldReH_nil w).mono ?_;rintro e w' ⟨rfl,rfl⟩;exact ⟨rfl,Below.refl _ _⟩
 ·exact heldReH_v g n w hk hn
theorem eqReR (v v':Value) (M:List Re) (w:World) (h:ReR w v M) (h':ReR w v' M) (hM:M.length≤1000):Calls Tryz.prog 16 #[v,v'] w fun e w'=>e=.returned (.bool true)∧Below w.heap.size w w':=by
 obtain ⟨A,c,rfl,h⟩:=h;obtain ⟨B,c',rfl,h'⟩:=h';exact eqReS_same A B c c' M w h h' (by omega)
end
section
def rgG (u v:Int):Bool:=rng u 0 400 && rng v 0 400
theorem rgG_yes {u v:Int} (h:rgG u v=true):(0≤u∧u≤400)∧(0≤v∧v≤400):=by simpa only [rgG,Bool.and_eq_true,rng_iff] using h
theorem validRoom_g (u v:Int) (w:World):Calls Tryz.prog 47 #[.int .i64 u,.int .i64 v] w fun e w'=>e=.returned (.bool (rgG u v))∧w=w':=by
 unfold rgG
 cases h1:rng u 0 400
 ·go_enter Tryz.func47,Tryz.ntmps47
  go_wp2_with fail
  with_reducible refine (within_any _ _ _ _).mono ?_
  rintro e w2 ⟨rfl,rfl⟩;go_wp2;go_ret;exact ⟨by simp,rfl⟩
 ·go_enter Tryz.func47,Tryz.ntmps47
  go_wp2_with fail
  with_reducible refine (within_any _ _ _ _).mono ?_
  rintro e w2 ⟨rfl,rfl⟩
  go_wp2_with fail
  with_reducible refine (within_any _ _ _ _).mono ?_
  rintro e w2 ⟨rfl,rfl⟩;go_wp2;go_ret;exact ⟨by simp,rfl⟩
theorem goodRoom_g (u v:Int) (w:World):Calls Tryz.prog 43 #[.int .i64 u,.int .i64 v] w fun e w'=>e=.returned (.bool (rgG u v))∧w=w':=by
 unfold rgG
 cases h1:rng u 0 400
 ·go_enter Tryz.func43,Tryz.ntmps43
  go_wp2_with fail
  with_reducible refine (inRange_any _ _ _ _).mono ?_
  rintro e w2 ⟨rfl,rfl⟩;go_wp2;go_ret;exact ⟨by simp,rfl⟩
 ·go_enter Tryz.func43,Tryz.ntmps43
  go_wp2_with fail
  with_reducible refine (inRange_any _ _ _ _).mono ?_
  rintro e w2 ⟨rfl,rfl⟩
  go_wp2_with fail
  with_reducible refine (inRange_any _ _ _ _).mono ?_
  rintro e w2 ⟨rfl,rfl⟩;go_wp2;go_ret;exact ⟨by simp,rfl⟩
def lyL (L:List Nd) (a b:Int):List Re:=if (treeB L && rgG a b)=true then (List.range L.length).map (lrM L a b) else []
theorem lyL_len (L:List Nd) (a b:Int):(lyL L a b).length≤10:=by
 unfold lyL
 split
 ·rename_i h
  rw [Bool.and_eq_true] at h;rw [List.length_map,List.length_range];exact (tree_len h.1).2
 ·exact Nat.zero_le _
theorem GRB.mono {lo lo':Nat} {w:World} {x:Value} {M:List Re} (h:GRB lo w x M) (hl:lo'≤lo):GRB lo' w x M:=h.imp id fun ⟨g,n,h1,h2,h3,hk⟩=>⟨g,n,h1,h2,Nat.le_trans hl h3,hk⟩
theorem LayoutTree_x (A:Option Addr) (c k:Nat) (R:List Nr) (a b:Int) (w:World) (hk:k=R.length) (h:NrV w A R) (hr:RdR w R) (hL:R.length≤1048576) (hm:∀ p ∈ R,p.n.cs.length≤1048576∧p.n.rs.length≤1048576) :
  Calls Tryz.prog 15 #[.agg #[.slice A k c],.int .i64 a,.int .i64 b] w fun e w'=>(∃ x,e=.returned x∧GRB w.heap.size w' x (lyL (R.map Nr.n) a b)∧((lyL (R.map Nr.n) a b).length=0→x=.slice none 0 0))∧Below w.heap.size w w':=by
 have hB0:Below w.heap.size w (w.alloc (.cells #[.slice A k c] 30 (0,0))):=balloc (Below.refl _ _);have HX:=hD (newS w (.cells #[.slice A k c] 30 (0,0)));have HB:=hD hB0;have HV:=hD (h.keep hB0);have HR:=hD (hr.keep hB0);have HM:=hD hm;have HK:=hD hk;have x0:=cellS HX.out 0;clear hB0 h hr hm hk
 cases ht:treeB (R.map Nr.n)
 ·rw [show lyL (R.map Nr.n) a b=[] by simp [lyL,ht]];have HT:=hD ht;clear ht
  go_enter Tryz.func15,Tryz.ntmps15
  go_wp2_with fail
  with_reducible refine (ValidTree_n A c k R false _ HK.out HV.out HR.out hL HM.out HT.out).mono ?_
  rintro e w1 ⟨rfl,hb⟩;clear x0;replace HX:=hbk hb HX;replace HB:=hD (bkeep2 HB.out hb);clear hb;have x0:=cellS HX.out 0;go_wp2;go_ret;exact ⟨⟨_,rfl,.inl ⟨rfl,rfl⟩,fun _=>rfl⟩,HB.out⟩
 ·cases hg:rgG a b
  ·rw [show lyL (R.map Nr.n) a b=[] by simp [lyL,hg]];have HT:=hD ht;clear ht
   go_enter Tryz.func15,Tryz.ntmps15
   go_wp2_with fail
   with_reducible refine (ValidTree_n A c k R true _ HK.out HV.out HR.out hL HM.out HT.out).mono ?_
   rintro e w1 ⟨rfl,hb⟩;clear x0;replace HX:=hbk hb HX;replace HB:=hD (bkeep2 HB.out hb);clear hb;have x0:=cellS HX.out 0
   go_wp2_with fail
   with_reducible refine (validRoom_g a b _).mono ?_
   rintro e w2 ⟨rfl,rfl⟩;rw [hg];clear hg;go_wp2;go_ret;exact ⟨⟨_,rfl,.inl ⟨rfl,rfl⟩,fun _=>rfl⟩,HB.out⟩
  ·rw [show lyL (R.map Nr.n) a b=(List.range k).map (lrM (R.map Nr.n) a b) by simp [lyL,ht,hg,HK.out]];have HT:=hD ht;have HG:=hD (rgG_yes hg);clear ht
   go_enter Tryz.func15,Tryz.ntmps15
   go_wp2_with fail
   with_reducible refine (ValidTree_n A c k R true _ HK.out HV.out HR.out hL HM.out HT.out).mono ?_
   rintro e w1 ⟨rfl,hb⟩;clear x0;replace HX:=hbk hb HX;replace HV:=hD (HV.out.keep hb);replace HR:=hD (HR.out.keep hb);replace HB:=hD (bkeep2 HB.out hb);clear hb;have x0:=cellS HX.out 0
   go_wp2_with fail
   with_reducible refine (validRoom_g a b _).mono ?_
   rintro e w2 ⟨rfl,rfl⟩;rw [hg];clear hg;have hsz:=HB.out.size
   go_wp2_with fail
   with_reducible refine (layout_v A c k R a b _ (trOK_of HT.out) HK.out HV.out HR.out HG.out.1 HG.out.2).mono ?_
   rintro e w3 ⟨⟨g,rfl,hgl,hre⟩,hb⟩;have HRE:=hD hre;clear x0 hre;replace HB:=hD (bkeep2 HB.out hb);clear hb;go_wp2;go_ret;exact ⟨⟨_,rfl,.inr ⟨g,_,rfl,by rw [List.length_map,List.length_range],Nat.le_trans hsz hgl,HRE.out⟩,fun h0=>by rw [List.length_map,List.length_range] at h0;have:=(tree_len HT.out).1;rw [List.length_map] at this;have:=HK.out;omega⟩,HB.out⟩
theorem LayoutTree_v (A:Option Addr) (c k:Nat) (R:List Nr) (a b:Int) (w:World) (hk:k=R.length) (h:NrV w A R) (hr:RdR w R) (hL:R.length≤1048576) (hm:∀ p ∈ R,p.n.cs.length≤1048576∧p.n.rs.length≤1048576) :
  Calls Tryz.prog 15 #[.agg #[.slice A k c],.int .i64 a,.int .i64 b] w fun e w'=>(∃ x,e=.returned x∧GRB w.heap.size w' x (lyL (R.map Nr.n) a b))∧Below w.heap.size w w' :=
 (LayoutTree_x A c k R a b w hk h hr hL hm).mono fun e w' ⟨⟨x,h1,h2,_⟩,h3⟩=>⟨⟨x,h1,h2⟩,h3⟩
end
section
def natM (L:List Nd):List Re:=lyL L (szM L 0).1 (szM L 0).2
theorem natM_len (L:List Nd):(natM L).length≤10:=lyL_len _ _ _
theorem natM_no {L:List Nd} (h:treeB L=false):natM L=[]:=by simp [natM,lyL,h]
theorem NaturalLayout_v (A:Option Addr) (c k:Nat) (R:List Nr) (w:World) (hk:k=R.length) (h:NrV w A R) (hr:RdR w R) (hL:R.length≤1048576) (hm:∀ p ∈ R,p.n.cs.length≤1048576∧p.n.rs.length≤1048576) :
  Calls Tryz.prog 27 #[.agg #[.slice A k c]] w fun e w'=>(∃ x,e=.returned x∧GRB w.heap.size w' x (natM (R.map Nr.n)))∧Below w.heap.size w w':=by
 have hB0:Below w.heap.size w (w.alloc (.cells #[.slice A k c] 30 (0,0))):=balloc (Below.refl _ _);have HX:=hD (newS w (.cells #[.slice A k c] 30 (0,0)));have HB:=hD hB0;have HV:=hD (h.keep hB0);have HR:=hD (hr.keep hB0);have HM:=hD hm;have HK:=hD hk;have x0:=cellS HX.out 0;clear hB0 h hr hm hk
 cases ht:treeB (R.map Nr.n)
 ·have hn:=natM_no ht;rw [hn];have HT:=hD ht
  have hl:lyL (R.map Nr.n) (-1) (-1)=[]:=by simp [lyL,ht]
  have HL0:=hD hl;clear ht hn hl
  go_enter Tryz.func27,Tryz.ntmps27
  go_wp2_with fail
  with_reducible refine (RequestOf_no A c k R 0 _ HK.out HV.out HR.out hL HM.out (by rw [HT.out,Bool.false_and])).mono ?_
  rintro e w1 ⟨rfl,hb⟩;clear x0;replace HX:=hbk hb HX;replace HV:=hD (HV.out.keep hb);replace HR:=hD (HR.out.keep hb);replace HB:=hD (bkeep2 HB.out hb);clear hb;have x0:=cellS HX.out 0;have hsz:=HB.out.size
  go_wp2_with fail
  with_reducible refine (LayoutTree_v A c k R (-1) (-1) _ HK.out HV.out HR.out hL HM.out).mono ?_
  rintro e w3 ⟨⟨g,rfl,hre⟩,hb⟩;rw [HL0.out] at hre;have HRE:=hD (hre.mono hsz);clear x0 hre;replace HB:=hD (bkeep2 HB.out hb);clear hb;go_wp2;go_ret;exact ⟨⟨_,rfl,HRE.out⟩,HB.out⟩
 ·have HT:=hD ht
  have hj:0<R.length:=by have:=(tree_len ht).1;rwa [List.length_map] at this
  clear ht
  go_enter Tryz.func27,Tryz.ntmps27
  go_wp2_with fail
  refine (RequestOf_yes A c k R 0 _ HK.out HV.out HR.out hL HM.out HT.out hj).mono ?_;rintro e w1 ⟨rfl,hb⟩;clear x0;replace HX:=hbk hb HX;replace HV:=hD (HV.out.keep hb);replace HR:=hD (HR.out.keep hb);replace HB:=hD (bkeep2 HB.out hb);clear hb;have x0:=cellS HX.out 0;have hsz:=HB.out.size
  go_wp2_with fail
  with_reducible refine (LayoutTree_v A c k R _ _ _ HK.out HV.out HR.out hL HM.out).mono ?_
  rintro e w3 ⟨⟨g,rfl,hre⟩,hb⟩;have HRE:=hD (hre.mono hsz);clear x0 hre;replace HB:=hD (bkeep2 HB.out hb);clear hb;go_wp2;go_ret;exact ⟨⟨_,rfl,HRE.out⟩,HB.out⟩
theorem sNaturalLayout_v (A:Option Addr) (c k:Nat) (R:List Nr) (w:World) (hk:k=R.length) (h:NrV w A R) (hr:RdR w R) (hL:R.length≤1048576) (hm:∀ p ∈ R,p.n.cs.length≤1048576∧p.n.rs.length≤1048576) :
  Calls Tryz.prog 26 #[.agg #[.slice A k c]] w fun e w'=>(∃ x,e=.returned x∧ReR w' x (natM (R.map Nr.n)))∧Below w.heap.size w w':=by
 have hB0:Below w.heap.size w (w.alloc (.cells #[.slice A k c] 30 (0,0))):=balloc (Below.refl _ _);have HX:=hD (newS w (.cells #[.slice A k c] 30 (0,0)));have HB:=hD hB0;have HV:=hD (h.keep hB0);have HR:=hD (hr.keep hB0);have HM:=hD hm;have HK:=hD hk;have x0:=cellS HX.out 0;clear hB0 h hr hm hk
 cases ht:treeB (R.map Nr.n)
 ·rw [natM_no ht];have HT:=hD ht;clear ht
  go_enter Tryz.func26,Tryz.ntmps26
  go_wp2_with fail
  with_reducible refine (svalidTree_n A c k R false _ HK.out HV.out HR.out hL HM.out HT.out).mono ?_
  rintro e w1 ⟨rfl,hb⟩;clear x0;replace HX:=hbk hb HX;replace HB:=hD (bkeep2 HB.out hb);clear hb;have x0:=cellS HX.out 0;go_wp2;go_ret;exact ⟨⟨_,rfl,⟨none,0,rfl,ReV.nil _ _⟩⟩,HB.out⟩
 ·have hj:0<R.length:=by have:=(tree_len ht).1;rwa [List.length_map] at this
  have HSZ:=hD (HK.out ▸ sizeOf_v A c R (trOK_of ht) R.length 0);unfold natM;generalize hu:(szM (R.map Nr.n) 0).1=u;generalize hv:(szM (R.map Nr.n) 0).2=v;rw [hu,hv] at HSZ;clear hu hv
  cases hg:rgG u v
  ·rw [show lyL (R.map Nr.n) u v=[] by simp [lyL,hg]];have HT:=hD ht;clear ht
   go_enter Tryz.func26,Tryz.ntmps26
   go_wp2_with fail
   with_reducible refine (svalidTree_n A c k R true _ HK.out HV.out HR.out hL HM.out HT.out).mono ?_
   rintro e w1 ⟨rfl,hb⟩;clear x0;replace HX:=hbk hb HX;replace HV:=hD (HV.out.keep hb);replace HR:=hD (HR.out.keep hb);replace HB:=hD (bkeep2 HB.out hb);clear hb;have x0:=cellS HX.out 0
   go_wp2_with fail
   refine (HSZ.out _ (by have:=HK.out;omega) (by have:=HK.out;omega) HV.out HR.out).mono ?_;rintro e w1 ⟨rfl,hb⟩;clear x0;replace HX:=hbk hb HX;replace HB:=hD (bkeep2 HB.out hb);clear hb;have x0:=cellS HX.out 0
   go_wp2_with fail
   with_reducible refine (goodRoom_g u v _).mono ?_
   rintro e w2 ⟨rfl,rfl⟩;rw [hg];clear hg;go_wp2;go_ret;exact ⟨⟨_,rfl,⟨none,0,rfl,ReV.nil _ _⟩⟩,HB.out⟩
  ·rw [show lyL (R.map Nr.n) u v=(List.range k).map (lrM (R.map Nr.n) u v) by simp [lyL,ht,hg,HK.out]];have HT:=hD ht;have HG:=hD (rgG_yes hg);clear ht
   go_enter Tryz.func26,Tryz.ntmps26
   go_wp2_with fail
   with_reducible refine (svalidTree_n A c k R true _ HK.out HV.out HR.out hL HM.out HT.out).mono ?_
   rintro e w1 ⟨rfl,hb⟩;clear x0;replace HX:=hbk hb HX;replace HV:=hD (HV.out.keep hb);replace HR:=hD (HR.out.keep hb);replace HB:=hD (bkeep2 HB.out hb);clear hb;have x0:=cellS HX.out 0
   go_wp2_with fail
   refine (HSZ.out _ (by have:=HK.out;omega) (by have:=HK.out;omega) HV.out HR.out).mono ?_;rintro e w1 ⟨rfl,hb⟩;clear x0;replace HX:=hbk hb HX;replace HV:=hD (HV.out.keep hb);replace HR:=hD (HR.out.keep hb);replace HB:=hD (bkeep2 HB.out hb);clear hb;have x0:=cellS HX.out 0
   go_wp2_with fail
   with_reducible refine (goodRoom_g u v _).mono ?_
   rintro e w2 ⟨rfl,rfl⟩;rw [hg];clear hg
   go_wp2_with fail
   with_reducible refine (slayout_v A c k R u v _ (trOK_of HT.out) HK.out HV.out HR.out HG.out.1 HG.out.2).mono ?_
   rintro e w3 ⟨⟨g,rfl,hgl,hre⟩,hb⟩;have HRE:=hD hre;clear x0 hre;replace HB:=hD (bkeep2 HB.out hb);clear hb;go_wp2;go_ret;exact ⟨⟨_,rfl,⟨_,k,by rw [List.length_map,List.length_range];rfl,HRE.out.v⟩⟩,HB.out⟩
end
end Go.Proofs.YtenckjdiggaonaaGreat
