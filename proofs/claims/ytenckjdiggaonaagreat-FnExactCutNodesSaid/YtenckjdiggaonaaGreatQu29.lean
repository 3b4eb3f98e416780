import Derived.Test.YtenckjdiggaonaaGreatQu28
set_option linter.unusedVariables false
set_option linter.unusedSimpArgs false
set_option maxRecDepth 100000
set_option maxHeartbeats 16000000
namespace Go.Proofs.YtenckjdiggaonaaGreat
open Go.RowKit
attribute [local go_sem] growUpon_value growUpon_skip growUpon_enter
section
attribute [local go_sem] givesUpon_value givesUpon_skip givesUpon_enter
def LyP (w:World) (g N:Nat) (F:Nat→Re) (K:Nat→Prop):Prop:=∃ cs:Array Value,w.heap[g]?=some (.cells cs 45 (0,0))∧cs.size=N*4∧∀ j,j<N→K j→InS cs (j*4) (valsRe (F j))
theorem LyP.lt {w:World} {g N:Nat} {F:Nat→Re} {K:Nat→Prop} (h:LyP w g N F K):g<w.heap.size:=by obtain ⟨cs,hh,_⟩:=h;exact ltS hh
theorem LyP.same {w w':World} {g N:Nat} {F:Nat→Re} {K:Nat→Prop} (h:LyP w g N F K) (hb:w'.heap[g]?=w.heap[g]?):LyP w' g N F K:=let ⟨cs,hh,r⟩:=h;⟨cs,hb.trans hh,r⟩
theorem LyP.keep {w w':World} {g N:Nat} {F:Nat→Re} {K:Nat→Prop} (h:LyP w g N F K) (hb:Below w.heap.size w w'):LyP w' g N F K:=h.same (hb.block g h.lt)
theorem LyP.mono {w:World} {g N:Nat} {F:Nat→Re} {K K':Nat→Prop} (h:LyP w g N F K) (hK:∀ j,j<N→K' j→K j):LyP w g N F K':=let ⟨cs,hh,hs,hc⟩:=h;⟨cs,hh,hs,fun j hj k=>hc j hj (hK j hj k)⟩
theorem LyP.there {w:World} {g N:Nat} {F:Nat→Re} {K:Nat→Prop} (h:LyP w g N F K) {j:Nat} (hj:j<N):w.there g (j*4) 4:=by
 obtain ⟨cs,hh,hs,_⟩:=h;exact thereB hh (by rw [hs];omega)
theorem LyP.put {w:World} {g N:Nat} {F:Nat→Re} {K K':Nat→Prop} (h:LyP w g N F K) {j:Nat} (hj:j<N) {r:Re} (hr:F j=r) (hK:∀ i,K' i→i=j ∨ K i):LyP (w.setCells g (j*4) (valsRe r)) g N F K':=by
 obtain ⟨cs,hh,hs,hc⟩:=h;refine ⟨_,heap_setCells _ (j*4) _ _ hh,(wrAt_size _ _ _).trans hs,fun i hi ki=>?_⟩
 by_cases e:i=j
 ·subst e;rw [hr];exact InS.write (by rw [hs];show i*4+4≤_;omega)
 ·rcases hK i ki with h1 | h1
  ·exact absurd h1 e
  ·refine (hc i hi h1).keepS ?_
   show i*4+4≤_ ∨ j*4+4≤_
   omega
theorem LyP.cell {w:World} {g N:Nat} {F:Nat→Re} {K:Nat→Prop} (h:LyP w g N F K) {j:Nat} (hj:j<N) (k:K j):w.cell? ⟨g,j*4,none⟩=some (.int .i64 (F j).x)∧w.cell? ⟨g,j*4+1,none⟩=some (.int .i64 (F j).y)∧w.cell? ⟨g,j*4+2,none⟩=some (.int .i64 (F j).u)∧w.cell? ⟨g,j*4+3,none⟩=some (.int .i64 (F j).v):=by
 obtain ⟨cs,hh,hs,hc⟩:=h;have hi:=hc j hj k;exact ⟨(cellS hh _).trans (hi 0 _ rfl),(cellS hh _).trans (hi 1 _ rfl),(cellS hh _).trans (hi 2 _ rfl),(cellS hh _).trans (hi 3 _ rfl)⟩
theorem LyP.whole {w:World} {g N:Nat} {F:Nat→Re} {K:Nat→Prop} (h:LyP w g N F K) (hK:∀ j,j<N→K j):ReB w g ((List.range N).map F):=by
 obtain ⟨cs,hh,hs,hc⟩:=h;refine ⟨cs,hh,by rw [hs,List.length_map,List.length_range],fun i p hp=>?_⟩;rw [List.getElem?_map] at hp;obtain ⟨j,hj,rfl⟩:=Option.map_eq_some_iff.1 hp;obtain ⟨h1,h2⟩:=List.getElem?_eq_some_iff.1 hj;rw [List.length_range] at h1;rw [List.getElem_range] at h2;subst h2;exact hc i h1 (hK i h1)
theorem LyP.new {w:World} {g N:Nat} {F:Nat→Re} {cs:Array Value} {r:Re} (hh:w.heap[g]?=some (.cells (wrAt cs 0 (valsRe r)) 45 (0,0))) (hs:cs.size=N*4) (hr:F 0=r):LyP w g N F (fun j=>j=0):=by
 refine ⟨_,hh,(wrAt_size _ _ _).trans hs,fun j hj e=>?_⟩;subst e;rw [hr];exact InS.write (by rw [hs];show 0+4≤_;omega)
def knL (L:List Nd) (i j:Nat):Prop:=j=0 ∨ ∃ m,L[j]?=some m∧m.pa<(i:Int)
def knI (L:List Nd) (i m j:Nat):Prop:=knL L i j ∨ ∃ m',m'<m∧(kidD L i)[m']?=some j
theorem knL_zero {L:List Nd} (hT:TrOK L) {j:Nat} (h:knL L 0 j):j=0:=by
 rcases h with h | ⟨m,hm,hp⟩
 ·exact h
 ·rcases hT.up j m hm with ⟨e,_⟩ | ⟨_,h1,_⟩
  ·exact e
  ·omega
theorem knL_own {L:List Nd} (hT:TrOK L) {i:Nat} (hi:i<L.length):knL L i i:=by
 have hm:L[i]?=some L[i]:=List.getElem?_eq_getElem hi
 rcases hT.up i _ hm with ⟨e,_⟩ | ⟨_,_,h⟩
 ·exact .inl e
 ·exact .inr ⟨_,hm,h⟩
theorem knL_all {L:List Nd} (hT:TrOK L) {j:Nat} (hj:j<L.length):knL L L.length j:=by
 have hm:L[j]?=some L[j]:=List.getElem?_eq_getElem hj
 rcases hT.up j _ hm with ⟨e,_⟩ | ⟨_,_,h⟩
 ·exact .inl e
 ·exact .inr ⟨_,hm,by omega⟩
theorem knI_zero {L:List Nd} {i j:Nat} (h:knI L i 0 j):knL L i j:=h.elim id fun ⟨m',h,_⟩=>absurd h (by omega)
theorem knI_step {L:List Nd} {i m j k:Nat} (hk:(kidD L i)[m]?=some k) (h:knI L i (m+1) j):j=k ∨ knI L i m j:=by
 rcases h with h | ⟨m',h1,h2⟩
 ·exact .inr (.inl h)
 ·by_cases e:m'=m
  ·subst e;rw [hk] at h2;exact .inl (Option.some.inj h2).symm
  ·exact .inr (.inr ⟨m',by omega,h2⟩)
theorem knI_all {L:List Nd} {i j:Nat} (hj:j<L.length) (h:knL L (i+1) j):knI L i (kidD L i).length j:=by
 rcases h with h | ⟨m,hm,hp⟩
 ·exact .inl (.inl h)
 ·by_cases e:m.pa=(i:Int)
  ·obtain ⟨q,hq⟩:=List.getElem?_of_mem (kidD_mem hm e);exact .inr ⟨q,(List.getElem?_eq_some_iff.1 hq).1,hq⟩
  ·exact .inl (.inr ⟨m,hm,by omega⟩)
theorem new_fullWd {w:World} {o:Obj} {cs:Array Value} {T:TypeId} (x:Wd) (ho:o=.cells cs T (0,0)) (hs:cs.size=37):((w.alloc o).setCells w.heap.size 0 (valsWd x)).heap[w.heap.size]?=some (.cells (valsWd x).toArray T (0,0)):=by
 subst ho;rw [heap_setCells (valsWd x) 0 _ _ (newS w _),wrAt_all (by rw [hs];rfl)]
theorem layout_v (A:Option Addr) (c k:Nat) (R:List Nr) (a b:Int) (w:World) (hT:TrOK (R.map Nr.n)) (hk:k=R.length) (h:NrV w A R) (hr:RdR w R) (ha:0≤a∧a≤400) (hb:0≤b∧b≤400) :
  Calls Tryz.prog 48 #[.agg #[.slice A k c],.int .i64 a,.int .i64 b] w fun e w'=>(∃ g,e=.returned (.slice (some ⟨g,0,none⟩) k k)∧w.heap.size≤g∧ReB w' g ((List.range k).map (lrM (R.map Nr.n) a b)))∧Below w.heap.size w w':=by
 subst hk
 have hL:R.length≤10:=by have:=hT.l10;rwa [List.length_map] at this
 have hL1:0<R.length:=by have:=hT.l1;rw [List.length_map] at this;omega
 obtain ⟨fm,hfm,hmk0⟩:=made_Rect
 have hmk:=fun w=>hmk0 R.length w (by omega)
 have HFM:=hD (hfm R.length);have HAB:=hD (And.intro ha hb);have hB0:Below w.heap.size w (w.alloc (.cells #[.slice A R.length c] 30 (0,0))):=balloc (Below.refl _ _);have HX:=hD (newS w (.cells #[.slice A R.length c] 30 (0,0)));have HB:=hD hB0;have HV:=hD (h.keep hB0);have HR:=hD (hr.keep hB0);have x0:=cellS HX.out 0;clear hB0 h hr hmk0 hfm ha hb
 go_enter Tryz.func48,Tryz.ntmps48
 go_wp2_with fail
 refine (settled_v A c R hT _ HV.out HR.out hL).mono ?_;rintro e W0 ⟨⟨v,rfl,gX,X,rfl,hgX,X1,X2,X3⟩,hb0⟩;clear x0 HX;replace HV:=hD (HV.out.keep hb0);replace HR:=hD (HR.out.keep hb0);replace HB:=hD (bkeep2 HB.out hb0);clear hb0;have HX1:=hD X1;have HX2:=hD X2;have HX3:=hD X3;have hgl:gX<W0.heap.size:=RpK.lt X2;have hsz0:w.heap.size≤W0.heap.size:=HB.out.size;clear X1 X2 X3 hgX
 go_upto_region 3 with (fail)
 refine wp_genGG (fun W=>(∃ cs:Array Value,W.heap[W0.heap.size]?=some (.cells cs 45 (0,0))∧cs.size=R.length*4)∧Below W0.heap.size W0 W) ⟨⟨_,newS _ _,HFM.out⟩,balloc (Below.refl _ _)⟩ (fun W1 h1=>?_);obtain ⟨⟨cs0,hc0,hs0⟩,hb1⟩:=h1;have HC0:=hD hc0;have HS0:=hD hs0;have HB1:=hD hb1;obtain ⟨y0,d0⟩:=thereS hc0 (i:=0) (by omega);obtain ⟨y1,d1⟩:=thereS hc0 (i:=1) (by omega)
 obtain ⟨y2,d2⟩:=thereS hc0 (i:=2) (by omega);obtain ⟨y3,d3⟩:=thereS hc0 (i:=3) (by omega);have f0:=frozenS hc0 0;have f1:=frozenS hc0 1;have f2:=frozenS hc0 2;have f3:=frozenS hc0 3;have lg:=ltS hc0;clear hc0 hs0 hb1 HFM hmk
 go_upto_region 4 with (fail)
 refine wp_genGG (fun W=>LyP W W0.heap.size R.length (lrM (R.map Nr.n) a b) (knL (R.map Nr.n) 0)∧Below W0.heap.size W0 W) ⟨(LyP.new (putRe HC0.out 0 ⟨0,0,a,b⟩) HS0.out (lrM_zero _ _ _)).mono fun j _ hj=>knL_zero hT hj,putReb HB1.out (Nat.le_refl _) 0 ⟨0,0,a,b⟩⟩ (fun W2 h2=>?_);obtain ⟨hly2,hb2⟩:=h2;have HLY:=hD hly2;have HB2:=hD hb2
 clear y0 d0 y1 d1 y2 d2 y3 d3 f0 f1 f2 f3 lg HC0 HS0 HB1 hly2 hb2 W1
 go_wp2_with fail
 go_loopw [25] (fun iv wr=>∃ i:Nat,i≤R.length∧iv=.int .i64 (i:Int)∧LyP wr W0.heap.size R.length (lrM (R.map Nr.n) a b) (knL (R.map Nr.n) i)∧Below W0.heap.size W0 wr) (fun iv _=>R.length - (intOf iv).toNat)
 case atStart=>exact ⟨0,by omega,rfl,HLY.out,HB2.out⟩
 case round =>
  obtain ⟨i,hi,rfl,hly,hB⟩:=hrel;clear HLY HB2
  by_cases hlt:i<R.length
  ·have hd:decide ((i:Int)<(R.length:Int))=true:=by simpa using hlt
   have hdi:(i:Int)<(R.length:Int):=by omega
   have hlm:i<(R.map Nr.n).length:=by rw [List.length_map];exact hlt
   obtain ⟨x,hx⟩:∃ x,X[i]?=some x:=⟨_,List.getElem?_eq_getElem (by rw [HX1.out];exact hlt)⟩
   obtain ⟨p,hp,hxp,-,hxn,hxk⟩:=HX3.out i x hx
   have hmg:(R.map Nr.n)[i]?=some p.n:=by rw [List.getElem?_map,hp];rfl
   obtain ⟨b0,off,e0,hb0,hps⟩:=(HX2.out.v.keep hB) (by rw [List.length_map,HX1.out];exact hL1)
   cases e0
   have hc:=hps i (valsWd x) (by rw [List.getElem?_map,hx];rfl);rw [Nat.zero_add] at hc;have HC:=hD hc;have HLY:=hD hly;have HB2:=hD hB;have HP:=hD hp;have HXX:=hD hx;have HXP:=hD hxp;have HXN:=hD hxn;have HXK:=hD hxk;have HMG:=hD hmg;have hsw:W0.heap.size<wr.heap.size:=hly.lt;clear hly hB hps hc hp hx hxp hxn hxk hmg
   go_upto_region 7 with (first | ((with_reducible show wpList _ _ _ _ _ _);refine ldK 108 _ (valsWd x) gX (i*37) rfl rfl HC.out Tryz.underlying108 rfl inf_widget rfl ?_) | ((with_reducible show wpList _ _ _ _ _ _);refine stK 108 (.tmp 10) (.tmp 29) (valsWd x) wr.heap.size 0 rfl rfl (thereB (newS _ _) (by show (0+37:Nat)≤37;omega)) inf_widget (valsWd_one _) rfl rfl ?_))
   refine wp_genGG (fun W=>W.heap[wr.heap.size]?=some (.cells (valsWd x).toArray 108 (0,0))∧Below wr.heap.size wr W) ⟨new_fullWd x rfl rfl,below_setCells (Nat.le_refl _) _ _ _ (balloc (Below.refl _ _))⟩ (fun W3 h3=>?_);obtain ⟨hxw,hb3⟩:=h3;have HXW:=hD hxw;have lbx:=ltS hxw;have hB3:=bkeep2 HB2.out hb3;replace HLY:=hD (HLY.out.keep hb3);clear hb3 hxw HC;generalize wr.heap.size=bx at *
   have hkl:∀ k ∈ kidD (R.map Nr.n) i,k<R.length:=fun k hk=>by have:=kidD_lt hk;rwa [List.length_map] at this
   have hk10:(kidD (R.map Nr.n) i).length≤10:=Nat.le_trans (kidD_len _ _) (by rw [List.length_map];exact hL)
   have hpick:∀ k ∈ kidD (R.map Nr.n) i,∃ y q,X[k]?=some y∧R[k]?=some q∧y.p=q∧(y.sw,y.sh)=szM (R.map Nr.n) k:=fun k hk=>by
    have hlt:=hkl k hk;have hy:X[k]?=some (X[k]'(by rw [HX1.out];exact hlt)):=List.getElem?_eq_getElem _;obtain ⟨q,hq,e1,e2,_⟩:=HX3.out k _ hy;exact ⟨_,q,hy,hq,e1,e2⟩
   obtain ⟨hp1,hp2⟩:=pick_pk hpick
   have hp3:=pick_pl (R:=R) (X:=X) (ks:=kidD (R.map Nr.n) i) fun k hk=>by obtain ⟨y,q,h1,h2,h3,_⟩:=hpick k hk;exact ⟨y,q,h1,h2,h3⟩
   have hpl:=pickW_len (X:=X) (ks:=kidD (R.map Nr.n) i) (fun k hk=>by rw [HX1.out];exact hkl k hk)
   obtain ⟨Y,hY⟩:∃ Y,pickW X (kidD (R.map Nr.n) i)=Y:=⟨_,rfl⟩
   rw [hY] at hp1 hp2 hp3 hpl;have HYL:=hD (show Y.length≤10 by omega);have C0:=hD (show p.n.ki ≠ 1→p.n.ki ≠ 2→bgL (Y.map pkW) from fun _ _=>by rw [hp1];exact bg_of hT i);have C1:=hD (show p.n.ki=1→GW p.n.cs p.n.rs (Y.map ceW) from fun h1=>by rw [hp2];exact gw_of hT HMG.out h1);have C2:=hD (show ∀ y ∈ Y,plB y.p.n.pl=true from fun y hy=>pls_mem hT _ (hp3 ▸ List.mem_map_of_mem hy))
   obtain ⟨r,hr⟩:∃ r,lrM (R.map Nr.n) a b i=r:=⟨_,rfl⟩
   obtain ⟨hq,hrx,hry⟩:=lrM_room hT HAB.out.1 HAB.out.2 hlm;obtain ⟨-,-,r2,r3⟩:=HLY.out.cell hlt (knL_own hT hlm);rw [hr] at hq hrx hry r2 r3;have HQR:=hD hq;have HRR:=hD hr;have HXY:=hD (And.intro hrx hry);have HM0:=hD (arM_eq (n:=p.n) r.u r.v hp1 hp2 hp3)
   obtain ⟨M,hM⟩:∃ M,arM p.n Y r.u r.v=M:=⟨_,rfl⟩
   rw [hM] at HM0;have HM:=hD hM
   obtain ⟨n2,hn2⟩:∃ n2,Y.length=n2:=⟨_,rfl⟩
   have HN2:=hD hn2;have HNK:=hD (show n2=(kidD (R.map Nr.n) i).length by omega)
   have hn10:n2≤10:=by omega
   have HR1:=hD ((HR.out p (List.mem_of_getElem? HP.out)).keep hB3)
   have HAR:=hD (show ∀ W',Below W3.heap.size W3 W'→Calls Tryz.prog 88 #[.slice (some ⟨gX,0,none⟩) R.length R.length,.int .i64 (i:Int)] W' (fun e w'=>(∃ v,e=.returned v∧ArV w' v x Y)∧Below W'.heap.size W' w') from fun W' hW'=>by
    have:=arranged_v (some ⟨gX,0,none⟩) R.length i X x (kidD (R.map Nr.n) i) W' ((HX2.out.v.keep hB3).keep hW') HXX.out (by rw [HX1.out];omega) (fun k hk=>by rw [HX1.out];exact hkl k hk) ((HXK.out.nv.keep hB3).keep hW') (by rw [HXN.out,List.length_map]) (by rw [HXN.out,List.length_map];omega)
    rw [HX1.out,hY] at this
    exact this)
   have HB3:=hD hB3;have hlg3:W0.heap.size<W3.heap.size:=HLY.out.lt;clear hkl hk10 hpick hp1 hp2 hp3 hpl hY hq hrx hry hr hM hn2 hB3 HX2 HX3
   go_wp2_with fail
   refine wp_region_rx (XV (.slice (some ⟨gX,0,none⟩) R.length R.length) :: XV (.int .i64 (i:Int)) :: (fun v z=>ArV z v x Y) :: XV (.slice (some ⟨W0.heap.size,0,none⟩) R.length R.length) :: XV (.int .i64 (i:Int)) :: XV (.pointer (some ⟨W0.heap.size,i*4,none⟩)) :: XV (.pointer (some ⟨W0.heap.size,i*4+2,none⟩)) :: XV (.int .i64 r.u) :: XV (.slice (some ⟨W0.heap.size,0,none⟩) R.length R.length) :: XV (.int .i64 (i:Int)) :: XV (.pointer (some ⟨W0.heap.size,i*4,none⟩)) :: XV (.pointer (some ⟨W0.heap.size,i*4+3,none⟩)) :: XV (.int .i64 r.v) :: (fun v z=>MrV z v x Y) :: (fun v z=>MrV z v x Y) :: (fun v z=>ArV z v x Y) :: (fun v z=>QrV W3.heap.size z v n2 M) :: XV (.int .i64 (n2:Int)) :: XV (.int .i64 0) :: []) (by kernel_rfl) (by kernel_rfl) ?hTs ?hops ?hfin
   case hTs =>
    intro T hT;simp only [List.mem_cons,List.not_mem_nil,or_false] at hT
    rcases hT with rfl | rfl | rfl | rfl | rfl | rfl | rfl | rfl | rfl | rfl | rfl | rfl | rfl | rfl | rfl | rfl | rfl | rfl | rfl <;> first | exact stay_V _ | exact stay_T | exact stay_of (fun v a b x g=>x.keep g) | exact stay_of (fun v a b x g=>x)
   case hops =>
    refine ⟨opOK_rx [(7,none)] (by kernel_rfl) rfl ?_,?_⟩
    ·intro act w' hw' h1;obtain ⟨hk,hf⟩:=evkf act;generalize act.eval=ρ at *;replace h1:ρ (.tmp 7)=.slice (some ⟨gX,0,none⟩) R.length R.length:=h1;refine gx_gen (fun K hK=>?_);obtain ⟨hc,hf'⟩:=bcell (bdrewn hw'.out);go_simp;exact hK _ _ ⟨rfl,Gr.refl _⟩
    refine ⟨opOK_rx [(9,none)] (by kernel_rfl) rfl ?_,?_⟩
    ·intro act w' hw' h1;obtain ⟨hk,hf⟩:=evkf act;generalize act.eval=ρ at *;replace h1:ρ (.tmp 9)=.int .i64 (i:Int):=h1;refine gx_gen (fun K hK=>?_);obtain ⟨hc,hf'⟩:=bcell (bdrewn hw'.out);go_simp;exact hK _ _ ⟨rfl,Gr.refl _⟩
    refine ⟨opOK_rx [(30,some 0),(31,some 1)] (by kernel_rfl) rfl ?_,?_⟩
    ·intro act w' hw' h1 h2;obtain ⟨hk,hf⟩:=evkf act;generalize act.eval=ρ at *;replace h1:ρ (.tmp 30)=.slice (some ⟨gX,0,none⟩) R.length R.length:=h1;replace h2:ρ (.tmp 31)=.int .i64 (i:Int):=h2;refine gx_gen (fun K hK=>?_);obtain ⟨hc,hf'⟩:=bcell (bdrewn hw'.out);go_simp
     (refine (HAR.out _ (bdrewn hw'.out)).mono ?_);rintro e w1 ⟨⟨v,rfl,hv⟩,hb1⟩;exact ⟨_,rfl,hK _ _ ⟨hv,hb1⟩⟩
    refine ⟨opOK_rx [(8,none)] (by kernel_rfl) rfl ?_,?_⟩
    ·intro act w' hw' h1;obtain ⟨hk,hf⟩:=evkf act;generalize act.eval=ρ at *;replace h1:ρ (.tmp 8)=.slice (some ⟨W0.heap.size,0,none⟩) R.length R.length:=h1;refine gx_gen (fun K hK=>?_);obtain ⟨hc,hf'⟩:=bcell (bdrewn hw'.out);go_simp;exact hK _ _ ⟨rfl,Gr.refl _⟩
    refine ⟨opOK_rx [(9,none)] (by kernel_rfl) rfl ?_,?_⟩
    ·intro act w' hw' h1;obtain ⟨hk,hf⟩:=evkf act;generalize act.eval=ρ at *;replace h1:ρ (.tmp 9)=.int .i64 (i:Int):=h1;refine gx_gen (fun K hK=>?_);obtain ⟨hc,hf'⟩:=bcell (bdrewn hw'.out);go_simp;exact hK _ _ ⟨rfl,Gr.refl _⟩
    refine ⟨opOK_rx [(33,some 3),(34,some 4)] (by kernel_rfl) rfl ?_,?_⟩
    ·intro act w' hw' h1 h2;obtain ⟨hk,hf⟩:=evkf act;generalize act.eval=ρ at *;replace h1:ρ (.tmp 33)=.slice (some ⟨W0.heap.size,0,none⟩) R.length R.length:=h1;replace h2:ρ (.tmp 34)=.int .i64 (i:Int):=h2;refine gx_gen (fun K hK=>?_);obtain ⟨hc,hf'⟩:=bcell (bdrewn hw'.out);go_simp;exact hK _ _ ⟨rfl,Gr.refl _⟩
    refine ⟨opOK_rx [(35,some 5)] (by kernel_rfl) rfl ?_,?_⟩
    ·intro act w' hw' h1;obtain ⟨hk,hf⟩:=evkf act;generalize act.eval=ρ at *;replace h1:ρ (.tmp 35)=.pointer (some ⟨W0.heap.size,i*4,none⟩):=h1;refine gx_gen (fun K hK=>?_);obtain ⟨hc,hf'⟩:=bcell (bdrewn hw'.out);go_simp;exact hK _ _ ⟨rfl,Gr.refl _⟩
    refine ⟨opOK_rx [(36,some 6)] (by kernel_rfl) rfl ?_,?_⟩
    ·intro act w' hw' h1;obtain ⟨hk,hf⟩:=evkf act;generalize act.eval=ρ at *;replace h1:ρ (.tmp 36)=.pointer (some ⟨W0.heap.size,i*4+2,none⟩):=h1;refine gx_gen (fun K hK=>?_);obtain ⟨hc,hf'⟩:=bcell (bdrewn hw'.out);go_simp;exact hK _ _ ⟨rfl,Gr.refl _⟩
    refine ⟨opOK_rx [(8,none)] (by kernel_rfl) rfl ?_,?_⟩
    ·intro act w' hw' h1;obtain ⟨hk,hf⟩:=evkf act;generalize act.eval=ρ at *;replace h1:ρ (.tmp 8)=.slice (some ⟨W0.heap.size,0,none⟩) R.length R.length:=h1;refine gx_gen (fun K hK=>?_);obtain ⟨hc,hf'⟩:=bcell (bdrewn hw'.out);go_simp;exact hK _ _ ⟨rfl,Gr.refl _⟩
    refine ⟨opOK_rx [(9,none)] (by kernel_rfl) rfl ?_,?_⟩
    ·intro act w' hw' h1;obtain ⟨hk,hf⟩:=evkf act;generalize act.eval=ρ at *;replace h1:ρ (.tmp 9)=.int .i64 (i:Int):=h1;refine gx_gen (fun K hK=>?_);obtain ⟨hc,hf'⟩:=bcell (bdrewn hw'.out);go_simp;exact hK _ _ ⟨rfl,Gr.refl _⟩
    refine ⟨opOK_rx [(38,some 8),(39,some 9)] (by kernel_rfl) rfl ?_,?_⟩
    ·intro act w' hw' h1 h2;obtain ⟨hk,hf⟩:=evkf act;generalize act.eval=ρ at *;replace h1:ρ (.tmp 38)=.slice (some ⟨W0.heap.size,0,none⟩) R.length R.length:=h1;replace h2:ρ (.tmp 39)=.int .i64 (i:Int):=h2;refine gx_gen (fun K hK=>?_);obtain ⟨hc,hf'⟩:=bcell (bdrewn hw'.out);go_simp;exact hK _ _ ⟨rfl,Gr.refl _⟩
    refine ⟨opOK_rx [(40,some 10)] (by kernel_rfl) rfl ?_,?_⟩
    ·intro act w' hw' h1;obtain ⟨hk,hf⟩:=evkf act;generalize act.eval=ρ at *;replace h1:ρ (.tmp 40)=.pointer (some ⟨W0.heap.size,i*4,none⟩):=h1;refine gx_gen (fun K hK=>?_);obtain ⟨hc,hf'⟩:=bcell (bdrewn hw'.out);go_simp;exact hK _ _ ⟨rfl,Gr.refl _⟩
    refine ⟨opOK_rx [(41,some 11)] (by kernel_rfl) rfl ?_,?_⟩
    ·intro act w' hw' h1;obtain ⟨hk,hf⟩:=evkf act;generalize act.eval=ρ at *;replace h1:ρ (.tmp 41)=.pointer (some ⟨W0.heap.size,i*4+3,none⟩):=h1;refine gx_gen (fun K hK=>?_);obtain ⟨hc,hf'⟩:=bcell (bdrewn hw'.out);go_simp;exact hK _ _ ⟨rfl,Gr.refl _⟩
    refine ⟨opOK_rx [(32,some 2)] (by kernel_rfl) rfl ?_,?_⟩
    ·intro act w' hw' h1;obtain ⟨hk,hf⟩:=evkf act;generalize act.eval=ρ at *;replace h1:(fun v z=>ArV z v x Y) (ρ (.tmp 32)) w':=h1;refine gx_gen (fun K hK=>?_);rw [run_mf rfl];exact hK _ _ ⟨⟨_,rfl,h1⟩,Gr.refl _⟩
    refine ⟨opOK_rx [(43,some 13)] (by kernel_rfl) rfl ?_,?_⟩
    ·intro act w' hw' h1;obtain ⟨hk,hf⟩:=evkf act;generalize act.eval=ρ at *;replace h1:(fun v z=>MrV z v x Y) (ρ (.tmp 43)) w':=h1;refine gx_gen (fun K hK=>?_);obtain ⟨u,e,hu⟩:=h1;obtain ⟨T,u2,F,rfl,hn,hc,hcall⟩:=arRects (a:=r.u) (b:=r.v) hu HXP.out (HR1.out.keep (bdrewn hw'.out)) HYL.out HQR.out C0.out C1.out C2.out;rw [run_nc rfl e hn];exact hK _ _ ⟨⟨_,e,hu⟩,Gr.refl _⟩
    refine ⟨opOK_rx [(32,some 2)] (by kernel_rfl) rfl ?_,?_⟩
    ·intro act w' hw' h1;obtain ⟨hk,hf⟩:=evkf act;generalize act.eval=ρ at *;replace h1:(fun v z=>ArV z v x Y) (ρ (.tmp 32)) w':=h1;refine gx_gen (fun K hK=>?_);obtain ⟨hc,hf'⟩:=bcell (bdrewn hw'.out);go_simp;exact hK _ _ ⟨h1,Gr.refl _⟩
    refine ⟨opOK_rx [(45,some 15),(37,some 7),(42,some 12)] (by kernel_rfl) rfl ?_,?_⟩
    ·intro act w' hw' h1 h2 h3;obtain ⟨hk,hf⟩:=evkf act;generalize act.eval=ρ at *;replace h1:(fun v z=>ArV z v x Y) (ρ (.tmp 45)) w':=h1;replace h2:ρ (.tmp 37)=.int .i64 r.u:=h2;replace h3:ρ (.tmp 42)=.int .i64 r.v:=h3;refine gx_gen (fun K hK=>?_)
     obtain ⟨T,u,F,e,hn,hc,hcall⟩:=arRects (a:=r.u) (b:=r.v) h1 HXP.out (HR1.out.keep (bdrewn hw'.out)) HYL.out HQR.out C0.out C1.out C2.out;rw [HN2.out,HM.out] at hcall;rw [run_inv2 rfl e h2 h3 (hc _ _ _)];refine hcall.mono ?_;rintro e' w1 ⟨⟨g,rfl,hg,hr1⟩,hb1⟩;exact ⟨_,rfl,hK _ _ ⟨⟨g,rfl,Nat.le_trans (bdrewn hw'.out).size hg,hr1⟩,hb1⟩⟩
    refine ⟨opOK_rx [(46,some 16)] (by kernel_rfl) rfl ?_,?_⟩
    ·intro act w' hw' h1;obtain ⟨hk,hf⟩:=evkf act;generalize act.eval=ρ at *;replace h1:(fun v z=>QrV W3.heap.size z v n2 M) (ρ (.tmp 46)) w':=h1;refine gx_gen (fun K hK=>?_);obtain ⟨g,e,hg,hr1⟩:=h1;go_simp;exact hK _ _ ⟨rfl,Gr.refl _⟩
    refine ⟨opOK_rx [] (by kernel_rfl) rfl ?_,?_⟩
    ·intro act w' hw';obtain ⟨hk,hf⟩:=evkf act;generalize act.eval=ρ at *;refine gx_gen (fun K hK=>?_);obtain ⟨hc,hf'⟩:=bcell (bdrewn hw'.out);go_simp;exact hK _ _ ⟨rfl,Gr.refl _⟩
    exact trivial
   case hfin =>
    intro w7 hg7;intro v30 t30;replace t30:v30=.slice (some ⟨gX,0,none⟩) R.length R.length:=t30;subst t30;intro v31 t31;replace t31:v31=.int .i64 (i:Int):=t31;subst t31;intro v32 t32;replace t32:(fun v z=>ArV z v x Y) v32 w7:=t32;intro v33 t33;replace t33:v33=.slice (some ⟨W0.heap.size,0,none⟩) R.length R.length:=t33;subst t33;intro v34 t34;replace t34:v34=.int .i64 (i:Int):=t34;subst t34
    intro v35 t35;replace t35:v35=.pointer (some ⟨W0.heap.size,i*4,none⟩):=t35;subst t35;intro v36 t36;replace t36:v36=.pointer (some ⟨W0.heap.size,i*4+2,none⟩):=t36;subst t36;intro v37 t37;replace t37:v37=.int .i64 r.u:=t37;subst t37;intro v38 t38;replace t38:v38=.slice (some ⟨W0.heap.size,0,none⟩) R.length R.length:=t38;subst t38;intro v39 t39;replace t39:v39=.int .i64 (i:Int):=t39;subst t39
    intro v40 t40;replace t40:v40=.pointer (some ⟨W0.heap.size,i*4,none⟩):=t40;subst t40;intro v41 t41;replace t41:v41=.pointer (some ⟨W0.heap.size,i*4+3,none⟩):=t41;subst t41;intro v42 t42;replace t42:v42=.int .i64 r.v:=t42;subst t42;intro v43 t43;replace t43:(fun v z=>MrV z v x Y) v43 w7:=t43;intro v44 t44;replace t44:(fun v z=>MrV z v x Y) v44 w7:=t44;intro v45 t45
    replace t45:(fun v z=>ArV z v x Y) v45 w7:=t45;intro v46 t46;replace t46:(fun v z=>QrV W3.heap.size z v n2 M) v46 w7:=t46;intro v47 t47;replace t47:v47=.int .i64 (n2:Int):=t47;subst t47;intro v48 t48;replace t48:v48=.int .i64 0:=t48;subst t48;have hb7:=bdrewn hg7.out;clear hg7;simp only [finP,Act.put,List.setIfInBounds_toArray,List.set_cons_succ,List.set_cons_zero];obtain ⟨gq,rfl,hgq,hRQ⟩:=t46
    clear t32 t43 t44 t45 r2 r3;replace HLY:=hD (HLY.out.keep hb7);replace HXW:=hD ((hb7.block _ lbx).trans HXW.out);replace HB3:=hD (bkeep2 HB3.out hb7);have HRQ:=hD hRQ
    have hne1:gq ≠ W0.heap.size:=by omega
    have hne2:bx ≠ W0.heap.size:=by omega
    clear hRQ hb7 HAR HR1 C0 C1 C2 HYL HN2 HM
    go_wp2_with fail
    go_loopw [48] (fun mv wr=>∃ m:Nat,m≤n2∧mv=.int .i64 (m:Int)∧LyP wr W0.heap.size R.length (lrM (R.map Nr.n) a b) (knI (R.map Nr.n) i m)∧ReB wr gq M∧wr.heap[bx]?=some (.cells (valsWd x).toArray 108 (0,0))∧Below W0.heap.size W0 wr) (fun mv _=>n2 - (intOf mv).toNat)
    case atStart=>exact ⟨0,by omega,rfl,HLY.out.mono fun j _ hj=>knI_zero hj,HRQ.out,HXW.out,HB3.out⟩
    case round =>
     obtain ⟨m,hm,rfl,hly,hq,hxw,hB⟩:=hrel;clear HLY HRQ HXW HB3
     by_cases hlt2:m<n2
     ·have hd2:decide ((m:Int)<(n2:Int))=true:=by simpa using hlt2
      have hdm:(m:Int)<(n2:Int):=by omega
      obtain ⟨kd,hkd⟩:∃ kd,(kidD (R.map Nr.n) i)[m]?=some kd:=⟨_,List.getElem?_eq_getElem (by rw [<- HNK.out];exact hlt2)⟩
      have hkdl:kd<R.length:=by have:=kidD_lt (List.mem_of_getElem? hkd);rwa [List.length_map] at this
      obtain ⟨q,hq0⟩:∃ q,M[m]?=some q:=⟨_,List.getElem?_eq_getElem (by rw [HM0.out,kidR0_len,<- HNK.out];exact hlt2)⟩
      obtain ⟨b1,off,e1,hb1,hps⟩:=hq.v.cells (by have:=(List.getElem?_eq_some_iff.1 hq0).1;omega)
      cases e1
      obtain ⟨c0,c1,c2,c3⟩:=hps m q hq0;rw [Nat.zero_add] at c0 c1 c2 c3
      have hkid:lrM (R.map Nr.n) a b kd=q.at r.x r.y:=by
       refine lrM_kid hT HMG.out hkd ?_;rw [HRR.out];unfold kidR;rw [List.getElem?_map,<- HM0.out,hq0]
       rfl
      have hbd:(-1000000000000000≤q.x∧q.x≤1000000000000000)∧(-1000000000000000≤q.y∧q.y≤1000000000000000):=by
       obtain ⟨z1,z2⟩:=rqW_iff.1 HQR.out
       have:=kidR0_bd hT HMG.out z1 z2 (by rw [<- HM0.out];exact hq0)
       omega
      obtain ⟨kb,koff,ek,hkb,hkp⟩:=(HXK.out.nv.keep hB).cells (by rw [List.length_map];have:=(List.getElem?_eq_some_iff.1 hkd).1;omega);have ck:=hkp m (kd:Int) (by rw [List.getElem?_map,hkd];rfl);have HLY:=hD hly;have HRQ:=hD hq;have HXW:=hD hxw;have HB3:=hD hB;have HKD:=hD hkd;have HKI:=hD hkid;have HBD:=hD hbd;have HEK:=hD ek;have CK:=hD ck;have lgs:=hly.lt;have lxs:=ltS hxw
      clear hly hq hxw hB hkd hkid hbd hps hkp hq0 ek ck
      go_upto_region 10 with (fail)
      refine wp_genGG (fun W=>W.heap[wr.heap.size]?=some (.cells #[.int .i64 q.x,.int .i64 q.y,.int .i64 q.u,.int .i64 q.v] 45 (0,0))∧Below wr.heap.size wr W) ⟨newS _ _,balloc (Below.refl _ _)⟩ (fun W8 h8=>?_);obtain ⟨hq8,hb8⟩:=h8;replace HLY:=hD (HLY.out.keep hb8);replace HRQ:=hD (HRQ.out.keep hb8);replace HXW:=hD ((hb8.block _ lxs).trans HXW.out);replace HB3:=hD (bkeep2 HB3.out hb8)
      obtain ⟨r0,r1,-,-⟩:=HLY.out.cell hlt (.inl (knL_own hT hlm));rw [HRR.out] at r0 r1;have z0:=cellS hq8 0;have z1:=cellS hq8 1;have z2:=cellS hq8 2;have z3:=cellS hq8 3
      have x36:W8.cell? ⟨bx,36,none⟩=some (.slice (some ⟨kb,koff,none⟩) n2 x.kc):=by
       rw [cellS HXW.out 36]
       show some (Value.slice x.ka x.kn x.kc)=_
       rw [HEK.out,HXN.out,List.length_map,<- HNK.out]
      have ck8:=(hb8.cell (p:=⟨kb,koff+m,none⟩) hkb).trans CK.out;have l1:=ltS HXW.out;have l2:=ltS hq8;have l3:=HLY.out.lt;have l4:kb<W8.heap.size:=Nat.lt_of_lt_of_le hkb hb8.size
      have hkdi:(kd:Int)<(R.length:Int):=by omega
      clear hq8 hb8 c0 c1 c2 c3 lxs lgs hkb CK
      go_wp2_with fail
      refine wp_region_rxl 19 1 [] #[true,true,true,true,true,true,true,true,true,true,true,true,true,true,true,true,true,true,true,false] (by kernel_rfl) (by kernel_rfl) (by kernel_rfl) (XV (.slice (some ⟨W0.heap.size,0,none⟩) R.length R.length) :: XV (.pointer (some ⟨bx,36,none⟩)) :: XV (.slice (some ⟨kb,koff,none⟩) n2 x.kc) :: XV (.int .i64 (m:Int)) :: XV (.pointer (some ⟨kb,koff+m,none⟩)) :: XV (.int .i64 (kd:Int)) :: XV (.agg #[.int .i64 q.x,.int .i64 q.y,.int .i64 q.u,.int .i64 q.v]) :: XV (.slice (some ⟨W0.heap.size,0,none⟩) R.length R.length) :: XV (.int .i64 (i:Int)) :: XV (.pointer (some ⟨W0.heap.size,i*4,none⟩)) :: XV (.pointer (some ⟨W0.heap.size,i*4,none⟩)) :: XV (.int .i64 r.x) :: XV (.slice (some ⟨W0.heap.size,0,none⟩) R.length R.length) :: XV (.int .i64 (i:Int)) :: XV (.pointer (some ⟨W0.heap.size,i*4,none⟩)) :: XV (.pointer (some ⟨W0.heap.size,i*4+1,none⟩)) :: XV (.int .i64 r.y) :: XV (.agg #[.int .i64 (q.x+r.x),.int .i64 (q.y+r.y),.int .i64 q.u,.int .i64 q.v]) :: XV (.pointer (some ⟨W0.heap.size,kd*4,none⟩)) :: []) (by kernel_rfl) (by kernel_rfl) (by kernel_rfl) ?hTs ?hXs ?hops ?hfin
      case hTs =>
       intro T hT;simp only [List.mem_cons,List.not_mem_nil,or_false] at hT
       rcases hT with rfl | rfl | rfl | rfl | rfl | rfl | rfl | rfl | rfl | rfl | rfl | rfl | rfl | rfl | rfl | rfl | rfl | rfl | rfl <;> first | exact stay_V _ | exact stay_T | exact stay_of (fun v a b x g=>x.keep g) | exact stay_of (fun v a b x g=>x)
      case hXs =>
       intro x d s hx;exact absurd hx (List.not_mem_nil)
      case hops =>
       refine ⟨opOK_rx [(8,none)] (by kernel_rfl) rfl ?_,?_⟩
       ·intro act w' hw' h1;obtain ⟨hk,hf⟩:=evkf act;generalize act.eval=ρ at *;replace h1:ρ (.tmp 8)=.slice (some ⟨W0.heap.size,0,none⟩) R.length R.length:=h1;refine gx_gen (fun K hK=>?_);obtain ⟨hc,hf'⟩:=bcell (bdrewn hw'.out);go_simp;exact hK _ _ ⟨rfl,Gr.refl _⟩
       refine ⟨opOK_rx [(10,none)] (by kernel_rfl) rfl ?_,?_⟩
       ·intro act w' hw' h1;obtain ⟨hk,hf⟩:=evkf act;generalize act.eval=ρ at *;replace h1:ρ (.tmp 10)=.pointer (some ⟨bx,0,none⟩):=h1;refine gx_gen (fun K hK=>?_);obtain ⟨hc,hf'⟩:=bcell (bdrewn hw'.out);go_simp;exact hK _ _ ⟨rfl,Gr.refl _⟩
       refine ⟨opOK_rx [(54,some 1)] (by kernel_rfl) rfl ?_,?_⟩
       ·intro act w' hw' h1;obtain ⟨hk,hf⟩:=evkf act;generalize act.eval=ρ at *;replace h1:ρ (.tmp 54)=.pointer (some ⟨bx,36,none⟩):=h1;refine gx_gen (fun K hK=>?_);obtain ⟨hc,hf'⟩:=bcell (bdrewn hw'.out);go_simp;exact hK _ _ ⟨rfl,Gr.refl _⟩
       refine ⟨opOK_rx [(11,none)] (by kernel_rfl) rfl ?_,?_⟩
       ·intro act w' hw' h1;obtain ⟨hk,hf⟩:=evkf act;generalize act.eval=ρ at *;replace h1:ρ (.tmp 11)=.int .i64 (m:Int):=h1;refine gx_gen (fun K hK=>?_);obtain ⟨hc,hf'⟩:=bcell (bdrewn hw'.out);go_simp;exact hK _ _ ⟨rfl,Gr.refl _⟩
       refine ⟨opOK_rx [(55,some 2),(56,some 3)] (by kernel_rfl) rfl ?_,?_⟩
       ·intro act w' hw' h1 h2;obtain ⟨hk,hf⟩:=evkf act;generalize act.eval=ρ at *;replace h1:ρ (.tmp 55)=.slice (some ⟨kb,koff,none⟩) n2 x.kc:=h1;replace h2:ρ (.tmp 56)=.int .i64 (m:Int):=h2;refine gx_gen (fun K hK=>?_);obtain ⟨hc,hf'⟩:=bcell (bdrewn hw'.out);go_simp;exact hK _ _ ⟨rfl,Gr.refl _⟩
       refine ⟨opOK_rx [(57,some 4)] (by kernel_rfl) rfl ?_,?_⟩
       ·intro act w' hw' h1;obtain ⟨hk,hf⟩:=evkf act;generalize act.eval=ρ at *;replace h1:ρ (.tmp 57)=.pointer (some ⟨kb,koff+m,none⟩):=h1;refine gx_gen (fun K hK=>?_);obtain ⟨hc,hf'⟩:=bcell (bdrewn hw'.out);go_simp;exact hK _ _ ⟨rfl,Gr.refl _⟩
       refine ⟨opOK_rx [(12,none)] (by kernel_rfl) rfl ?_,?_⟩
       ·intro act w' hw' h1;obtain ⟨hk,hf⟩:=evkf act;generalize act.eval=ρ at *;replace h1:ρ (.tmp 12)=.pointer (some ⟨wr.heap.size,0,none⟩):=h1;refine gx_gen (fun K hK=>?_);obtain ⟨hc,hf'⟩:=bcell (bdrewn hw'.out);go_simp;exact hK _ _ ⟨rfl,Gr.refl _⟩
       refine ⟨opOK_rx [(8,none)] (by kernel_rfl) rfl ?_,?_⟩
       ·intro act w' hw' h1;obtain ⟨hk,hf⟩:=evkf act;generalize act.eval=ρ at *;replace h1:ρ (.tmp 8)=.slice (some ⟨W0.heap.size,0,none⟩) R.length R.length:=h1;refine gx_gen (fun K hK=>?_);obtain ⟨hc,hf'⟩:=bcell (bdrewn hw'.out);go_simp;exact hK _ _ ⟨rfl,Gr.refl _⟩
       refine ⟨opOK_rx [(9,none)] (by kernel_rfl) rfl ?_,?_⟩
       ·intro act w' hw' h1;obtain ⟨hk,hf⟩:=evkf act;generalize act.eval=ρ at *;replace h1:ρ (.tmp 9)=.int .i64 (i:Int):=h1;refine gx_gen (fun K hK=>?_);obtain ⟨hc,hf'⟩:=bcell (bdrewn hw'.out);go_simp;exact hK _ _ ⟨rfl,Gr.refl _⟩
       refine ⟨opOK_rx [(60,some 7),(61,some 8)] (by kernel_rfl) rfl ?_,?_⟩
       ·intro act w' hw' h1 h2;obtain ⟨hk,hf⟩:=evkf act;generalize act.eval=ρ at *;replace h1:ρ (.tmp 60)=.slice (some ⟨W0.heap.size,0,none⟩) R.length R.length:=h1;replace h2:ρ (.tmp 61)=.int .i64 (i:Int):=h2;refine gx_gen (fun K hK=>?_);obtain ⟨hc,hf'⟩:=bcell (bdrewn hw'.out);go_simp;exact hK _ _ ⟨rfl,Gr.refl _⟩
       refine ⟨opOK_rx [(62,some 9)] (by kernel_rfl) rfl ?_,?_⟩
       ·intro act w' hw' h1;obtain ⟨hk,hf⟩:=evkf act;generalize act.eval=ρ at *;replace h1:ρ (.tmp 62)=.pointer (some ⟨W0.heap.size,i*4,none⟩):=h1;refine gx_gen (fun K hK=>?_);obtain ⟨hc,hf'⟩:=bcell (bdrewn hw'.out);go_simp;exact hK _ _ ⟨rfl,Gr.refl _⟩
       refine ⟨opOK_rx [(63,some 10)] (by kernel_rfl) rfl ?_,?_⟩
       ·intro act w' hw' h1;obtain ⟨hk,hf⟩:=evkf act;generalize act.eval=ρ at *;replace h1:ρ (.tmp 63)=.pointer (some ⟨W0.heap.size,i*4,none⟩):=h1;refine gx_gen (fun K hK=>?_);obtain ⟨hc,hf'⟩:=bcell (bdrewn hw'.out);go_simp;exact hK _ _ ⟨rfl,Gr.refl _⟩
       refine ⟨opOK_rx [(8,none)] (by kernel_rfl) rfl ?_,?_⟩
       ·intro act w' hw' h1;obtain ⟨hk,hf⟩:=evkf act;generalize act.eval=ρ at *;replace h1:ρ (.tmp 8)=.slice (some ⟨W0.heap.size,0,none⟩) R.length R.length:=h1;refine gx_gen (fun K hK=>?_);obtain ⟨hc,hf'⟩:=bcell (bdrewn hw'.out);go_simp;exact hK _ _ ⟨rfl,Gr.refl _⟩
       refine ⟨opOK_rx [(9,none)] (by kernel_rfl) rfl ?_,?_⟩
       ·intro act w' hw' h1;obtain ⟨hk,hf⟩:=evkf act;generalize act.eval=ρ at *;replace h1:ρ (.tmp 9)=.int .i64 (i:Int):=h1;refine gx_gen (fun K hK=>?_);obtain ⟨hc,hf'⟩:=bcell (bdrewn hw'.out);go_simp;exact hK _ _ ⟨rfl,Gr.refl _⟩
       refine ⟨opOK_rx [(65,some 12),(66,some 13)] (by kernel_rfl) rfl ?_,?_⟩
       ·intro act w' hw' h1 h2;obtain ⟨hk,hf⟩:=evkf act;generalize act.eval=ρ at *;replace h1:ρ (.tmp 65)=.slice (some ⟨W0.heap.size,0,none⟩) R.length R.length:=h1;replace h2:ρ (.tmp 66)=.int .i64 (i:Int):=h2;refine gx_gen (fun K hK=>?_);obtain ⟨hc,hf'⟩:=bcell (bdrewn hw'.out);go_simp;exact hK _ _ ⟨rfl,Gr.refl _⟩
       refine ⟨opOK_rx [(67,some 14)] (by kernel_rfl) rfl ?_,?_⟩
       ·intro act w' hw' h1;obtain ⟨hk,hf⟩:=evkf act;generalize act.eval=ρ at *;replace h1:ρ (.tmp 67)=.pointer (some ⟨W0.heap.size,i*4,none⟩):=h1;refine gx_gen (fun K hK=>?_);obtain ⟨hc,hf'⟩:=bcell (bdrewn hw'.out);go_simp;exact hK _ _ ⟨rfl,Gr.refl _⟩
       refine ⟨opOK_rx [(68,some 15)] (by kernel_rfl) rfl ?_,?_⟩
       ·intro act w' hw' h1;obtain ⟨hk,hf⟩:=evkf act;generalize act.eval=ρ at *;replace h1:ρ (.tmp 68)=.pointer (some ⟨W0.heap.size,i*4+1,none⟩):=h1;refine gx_gen (fun K hK=>?_);obtain ⟨hc,hf'⟩:=bcell (bdrewn hw'.out);go_simp;exact hK _ _ ⟨rfl,Gr.refl _⟩
       refine ⟨opOK_rx [(59,some 6),(64,some 11),(69,some 16)] (by kernel_rfl) rfl ?_,?_⟩
       ·intro act w' hw' h1 h2 h3;obtain ⟨hk,hf⟩:=evkf act;generalize act.eval=ρ at *;replace h1:ρ (.tmp 59)=.agg #[.int .i64 q.x,.int .i64 q.y,.int .i64 q.u,.int .i64 q.v]:=h1;replace h2:ρ (.tmp 64)=.int .i64 r.x:=h2;replace h3:ρ (.tmp 69)=.int .i64 r.y:=h3;refine gx_gen (fun K hK=>?_);obtain ⟨hc,hf'⟩:=bcell (bdrewn hw'.out);go_simp
        (refine (moved_w q.x q.y q.u q.v r.x r.y _ HBD.out.1 HBD.out.2 ?_ ?_).mono ?_) <;> first | (have:=HXY.out;have:=rqW_iff.1 HQR.out;omega) | (rintro e w1 ⟨rfl,hb1⟩;exact ⟨_,rfl,hK _ _ ⟨rfl,hb1⟩⟩)
       refine ⟨opOK_rx [(53,some 0),(58,some 5)] (by kernel_rfl) rfl ?_,?_⟩
       ·intro act w' hw' h1 h2;obtain ⟨hk,hf⟩:=evkf act;generalize act.eval=ρ at *;replace h1:ρ (.tmp 53)=.slice (some ⟨W0.heap.size,0,none⟩) R.length R.length:=h1;replace h2:ρ (.tmp 58)=.int .i64 (kd:Int):=h2;refine gx_gen (fun K hK=>?_);obtain ⟨hc,hf'⟩:=bcell (bdrewn hw'.out);go_simp;exact hK _ _ ⟨rfl,Gr.refl _⟩
       exact trivial
      case hfin =>
       intro w10 hg10;intro v53 t53;replace t53:v53=.slice (some ⟨W0.heap.size,0,none⟩) R.length R.length:=t53;subst t53;intro v54 t54;replace t54:v54=.pointer (some ⟨bx,36,none⟩):=t54;subst t54;intro v55 t55;replace t55:v55=.slice (some ⟨kb,koff,none⟩) n2 x.kc:=t55;subst t55;intro v56 t56;replace t56:v56=.int .i64 (m:Int):=t56;subst t56;intro v57 t57
       replace t57:v57=.pointer (some ⟨kb,koff+m,none⟩):=t57;subst t57;intro v58 t58;replace t58:v58=.int .i64 (kd:Int):=t58;subst t58;intro v59 t59;replace t59:v59=.agg #[.int .i64 q.x,.int .i64 q.y,.int .i64 q.u,.int .i64 q.v]:=t59;subst t59;intro v60 t60;replace t60:v60=.slice (some ⟨W0.heap.size,0,none⟩) R.length R.length:=t60;subst t60;intro v61 t61;replace t61:v61=.int .i64 (i:Int):=t61
       subst t61;intro v62 t62;replace t62:v62=.pointer (some ⟨W0.heap.size,i*4,none⟩):=t62;subst t62;intro v63 t63;replace t63:v63=.pointer (some ⟨W0.heap.size,i*4,none⟩):=t63;subst t63;intro v64 t64;replace t64:v64=.int .i64 r.x:=t64;subst t64;intro v65 t65;replace t65:v65=.slice (some ⟨W0.heap.size,0,none⟩) R.length R.length:=t65;subst t65;intro v66 t66;replace t66:v66=.int .i64 (i:Int):=t66
       subst t66;intro v67 t67;replace t67:v67=.pointer (some ⟨W0.heap.size,i*4,none⟩):=t67;subst t67;intro v68 t68;replace t68:v68=.pointer (some ⟨W0.heap.size,i*4+1,none⟩):=t68;subst t68;intro v69 t69;replace t69:v69=.int .i64 r.y:=t69;subst t69;intro v70 t70;replace t70:v70=.agg #[.int .i64 (q.x+r.x),.int .i64 (q.y+r.y),.int .i64 q.u,.int .i64 q.v]:=t70;subst t70;intro v71 t71
       replace t71:v71=.pointer (some ⟨W0.heap.size,kd*4,none⟩):=t71;subst t71;have hb10:=bdrewn hg10.out;clear hg10;simp only [finP,List.take_succ_cons,List.take_zero,Act.put,List.setIfInBounds_toArray,List.set_cons_succ,List.set_cons_zero];have hth:w10.there W0.heap.size (kd*4) (valsRe (q.at r.x r.y)).length:=(HLY.out.keep hb10).there hkdl
       refine wpAny_store 19 45 (.tmp 71) (.tmp 70) W0.heap.size (kd*4) (valsRe (q.at r.x r.y)) (by kernel_rfl) (by kernel_rfl) (by kernel_rfl) rfl rfl hth (by kernel_rfl) (valsRe_one2 _) ?_;refine nopan_normal ?_;have E1:=hD ((HLY.out.keep hb10).put hkdl HKI.out (fun j hj=>knI_step HKD.out hj));have hRQ:=HRQ.out.keep hb10
       have E2:=hD (show ReB (w10.setCells W0.heap.size (kd*4) (valsRe (q.at r.x r.y))) gq M from let ⟨cs,hh,hs⟩:=hRQ;⟨cs,(heap_setCells_ne hne1 _ _ _).trans hh,hs⟩);have E3:=hD ((heap_setCells_ne hne2 (valsRe (q.at r.x r.y)) (kd*4) w10).trans ((hb10.block _ l1).trans HXW.out));have E4:=hD (below_setCells (Nat.le_refl _) (valsRe (q.at r.x r.y)) (kd*4) _ (bkeep2 HB3.out hb10))
       clear hth hb10 hRQ HLY HRQ HXW HB3 z0 z1 z2 z3 x36 ck8 r0 r1 l1 l2 l3 l4;go_wp2
       go_roundw
       case rel=>exact ⟨m+1,by omega,by go_num,E1.out,E2.out,E3.out,E4.out⟩
       case measure=>simp [intOf];omega
     ·have hd2:decide ((m:Int)<(n2:Int))=false:=by simp;omega
      obtain rfl:m=n2:=by omega
      have HLY:=hD hly;have HB3:=hD hB;clear hly hq hxw hB;go_wp2
      go_roundw
      case rel=>exact ⟨i+1,by omega,by go_num,HLY.out.mono fun j hj hk=>by rw [HNK.out];exact knI_all (by rw [List.length_map];exact hj) hk,HB3.out⟩
      case measure=>simp [intOf];omega
  ·have hd:decide ((i:Int)<(R.length:Int))=false:=by simp;omega
   obtain rfl:i=R.length:=by omega
   have HK:=hD (hly.whole fun j hj=>by have:=knL_all hT (j:=j) (by rw [List.length_map];exact hj);rwa [List.length_map] at this);have HB2:=hD (HB.out.trans (hB.mono hsz0));clear hly hB;go_wp2;go_ret;exact ⟨⟨_,rfl,hsz0,HK.out⟩,HB2.out⟩
end
end Go.Proofs.YtenckjdiggaonaaGreat
