import Derived.Test.YtmmfifgdgbmgjaaGreatQM12
import Derived.Deep.CutBlock
import Derived.Deep.DeepCutAuto
import Derived.RangeFuncBox
import Derived.Maps.AppendAt
set_option linter.unusedVariables false
set_option linter.unusedSimpArgs false
set_option maxRecDepth 100000
set_option maxHeartbeats 16000000
namespace Go.Proofs.YtmmfifgdgbmgjaaGreat
open Go.RowKit
attribute [local go_sem] growUpon_value growUpon_skip growUpon_enter
section
attribute [local go_sem] givesUpon_value givesUpon_skip givesUpon_enter
inductive Dn (L:List Nd):Nat→Nat→Prop where
 | own (i:Nat):Dn L i i
 | kid {i k j:Nat}:k∈kidD L i→Dn L k j→Dn L i j
theorem Dn.snoc {L:List Nd} {i p k:Nat} (h:Dn L i p) (hk:k∈kidD L p):Dn L i k:=by
 induction h with
 | own i=>exact .kid hk (.own k)
 | kid h1 _ ih=>exact .kid h1 (ih hk)
theorem dn_root {L:List Nd} (hT:TrOK L):∀ (f j:Nat),j<f→j<L.length→Dn L 0 j:=by
 intro f
 induction f with
 | zero=>intro j h;omega
 | succ f ih =>
  intro j h hj
  by_cases h0:j=0
  ·subst h0;exact .own 0
  ·obtain ⟨p,q,n,hp,_,hq⟩:=kid_of hT (by omega) hj;exact (ih p (by omega) (by omega)).snoc (List.mem_of_getElem? hq)
theorem upon_appendL {P:Program} {o:Oper} {a:Act} {w:World} {K:Act→World→Prop} {Q:Exit→Act→World→Prop} (s x:Operand) (t:TypeId) {v xv v':Value} {w':World}
  (ho:o.op=.call { callee:=.builtin .append,args:=#[s,x],argTypes:=#[t,t] }) (hs:a.eval s=v) (hx:a.eval x=xv)
  (hr:(Builtin.append_ #[t,t] o.type #[v,xv]).run P w=.ok v' w') (h:K (a.put o.dst v') w'):o.wp P a w K Q:=by
 unfold Oper.wp execOp;simp only [ho,resolve,invoke,builtin,Sem.run_bind,Sem.run_pure,Result.andThen_ok,List.map_toArray,List.map_cons,List.map_nil,hs,hx,hr];exact h
theorem LyP.put2 {w:World} {g N:Nat} {F:Nat→Re} {K:Nat→Prop} {cs:Array Value} {j:Nat} {r:Re} (hh:w.heap[g]?=some (.cells (wrAt cs (j*4) (valsRe r)) 38 (0,0))) (hs:cs.size=N*4) (hc:∀ j,j<N→K j→InS cs (j*4) (valsRe (F j))) (hj:j<N) (hr:F j=r):LyP w g N F (fun i=>K i∨i=j):=by
 refine ⟨_,hh,(wrAt_size _ _ _).trans hs,fun i hi ki=>?_⟩
 by_cases e:i=j
 ·subst e;rw [hr];exact InS.write (by rw [hs];show i*4+4≤_;omega)
 ·rcases ki with h1 | h1
  ·refine (hc i hi h1).keepS ?_
   show i*4+4≤_∨j*4+4≤_
   omega
  ·exact absurd h1 e
theorem reR_rv {w:World} {v:Value} {M:List Rc} (h:RV w v M):ReR w v (M.map rcRe):=by
 obtain ⟨A,c,rfl,hc⟩:=h;refine ⟨A,c,by rw [List.length_map],⟨fun h0=>?_⟩⟩;obtain ⟨b,rfl,hb,hp⟩:=hc (by rwa [List.length_map] at h0);refine ⟨b,0,rfl,hb,fun i q hq=>?_⟩;rw [List.getElem?_map] at hq;obtain ⟨r,hr,rfl⟩:=Option.map_eq_some_iff.1 hq;obtain ⟨c0,c1,c2,c3⟩:=hp i r hr;rw [Nat.zero_add];exact ⟨c0,c1,c2,c3⟩
def RrV (lo:Nat) (w:World) (v:Value) (M:List Re):Prop:=ReR w v M∧∀ k,v.ownBlock=some k→lo≤k
theorem RrV.keep {lo:Nat} {w w':World} {v:Value} {M:List Re} (h:RrV lo w v M) (hb:Below w.heap.size w w'):RrV lo w' v M:=⟨h.1.keep hb,h.2⟩
def PkV (w:World) (v:Value) (n:Nat) (L:List Pk):Prop:=∃ A c,v=.slice A n c∧PV w A L∧n≤c
theorem PkV.keep {w w':World} {v:Value} {n:Nat} {L:List Pk} (h:PkV w v n L) (hb:Below w.heap.size w w'):PkV w' v n L:=let ⟨A,c,e,q,hc⟩:=h;⟨A,c,e,q.keep hb,hc⟩
def GdV (w:World) (v:Value) (p:Nr) (n:Nat) (L:List Ce):Prop:=∃ A c,v=.agg (gridAg p (.slice A n c)).toArray∧CeV w A L
theorem GdV.keep {w w':World} {v:Value} {p:Nr} {n:Nat} {L:List Ce} (h:GdV w v p n L) (hb:Below w.heap.size w w'):GdV w' v p n L:=let ⟨A,c,e,q⟩:=h;⟨A,c,e,q.keep hb⟩
theorem laid_v (A:Option Addr) (c:Nat) (R:List Nr) (a b:Int) (hT:TrOK (R.map Nr.n)) (ha:0≤a∧a≤400) (hb:0≤b∧b≤400) (w0:World) (hV:NrV w0 A R) (hR:RdR w0 R) (g:Nat) (hg:w0.heap.size≤g):∀ (f i:Nat) (w:World) (K:Nat→Prop) (r:Re),R.length≤f+i→i<R.length→lrM (R.map Nr.n) a b i=r→Below w0.heap.size w0 w→LyP w g R.length (lrM (R.map Nr.n) a b) K →
  Calls Tryz.prog 56 #[.agg #[.slice A R.length c],.int .i64 (i:Int),.agg #[.int .i64 r.x,.int .i64 r.y,.int .i64 r.u,.int .i64 r.v],.slice (some ⟨g,0,none⟩) R.length R.length] w fun e w'=>(∃ v,e=.returned v)∧LyP w' g R.length (lrM (R.map Nr.n) a b) (fun j=>K j∨Dn (R.map Nr.n) i j)∧w.grownBy w' (some g):=by
 have hL10:R.length≤10:=by have:=hT.l10;rwa [List.length_map] at this
 have hL1:1≤R.length:=by have:=hT.l1;rwa [List.length_map] at this
 obtain ⟨bn,off,rfl,hbn,hcn⟩:=id hV.cells (by omega);have HCN:=hD hcn;have HV:=hD hV;have HR:=hD hR;have HAB:=hD (And.intro ha hb);clear hcn hV hR ha hb;obtain ⟨ti,tz,ti1,ti2,ti3,ti4,ti5⟩:=rect_infoN;intro f
 induction f with
 | zero=>intro i w K r h1 h2;omega
 | succ f ih =>
 intro i w K r hf hi hrr hB hly
 have hlm:i<(R.map Nr.n).length:=by rw [List.length_map];exact hi
 have hget:R[i]?=some R[i]:=List.getElem?_eq_getElem hi
 have hmg:(R.map Nr.n)[i]?=some R[i].n:=by rw [List.getElem?_map,hget];rfl
 have hkis:=(hT.sz i _ hmg).2.2;have hcp:=HCN.out i _ hget;generalize hp0:R[i]=p at *;obtain ⟨hq,hrx,hry⟩:=lrM_room hT HAB.out.1 HAB.out.2 hlm;rw [hrr] at hq hrx hry
 have HIH:=hD (show ∀ (m k:Nat) (q:Re),(kidD (R.map Nr.n) i)[m]?=some k→lrM (R.map Nr.n) a b k=q→∀ (W:World) (K':Nat→Prop),Below w0.heap.size w0 W→LyP W g R.length (lrM (R.map Nr.n) a b) K'→Calls Tryz.prog 56 #[.agg #[.slice (some ⟨bn,off,none⟩) R.length c],.int .i64 (k:Int),.agg #[.int .i64 q.x,.int .i64 q.y,.int .i64 q.u,.int .i64 q.v],.slice (some ⟨g,0,none⟩) R.length R.length] W fun e w'=>(∃ v,e=.returned v)∧LyP w' g R.length (lrM (R.map Nr.n) a b) (fun j=>K' j∨Dn (R.map Nr.n) k j)∧W.grownBy w' (some g) from fun m k q hk hq W K' hW hl=>ih k W K' q (by have:=kid_gt hT (List.mem_of_getElem? hk);omega) (by have:=kidD_lt (List.mem_of_getElem? hk);rwa [List.length_map] at this) hq hW hl)
 have HMG:=hD hmg;have HKI:=hD hkis;have HGI:=hD hget;have HQR:=hD hq;have HXY:=hD (And.intro hrx hry);have HCP:=hD hcp;have lgw:g<w.heap.size:=hly.lt
 have hdi:(i:Int)<(R.length:Int):=by omega
 have HLY:=hD hly;have HB:=hD hB;have HRR:=hD hrr;clear ih hget hmg hp0 hB hly hkis hcp hq hrx hry hrr HCN
 go_enter Tryz.func56,Tryz.ntmps56
 go_upto_region 1 with (fail)
 refine wp_genGG (fun W=>W.heap[w.heap.size]?=some (.cells #[.slice (some ⟨bn,off,none⟩) R.length c] 30 (0,0))∧W.heap[w.heap.size+1]?=some (.cells #[.int .i64 r.x,.int .i64 r.y,.int .i64 r.u,.int .i64 r.v] 38 (0,0))∧Below w.heap.size w W) ⟨(Below.heap_alloc _ _ w.heap.size (by simp)).trans (newS w _),newS1T w _ _,balloc (balloc (Below.refl _ _))⟩ (fun W1 h1=>?_);obtain ⟨hx,hz,hb1⟩:=h1
 obtain ⟨cs,hc,hs,hcc⟩:=HLY.out.keep hb1;have z0:=cellS hz 0;have z1:=cellS hz 1;have z2:=cellS hz 2;have z3:=cellS hz 3;obtain ⟨y0,d0⟩:=thereS hc (i:=i*4) (by rw [hs];omega);obtain ⟨y1,d1⟩:=thereS hc (i:=i*4+1) (by rw [hs];omega);obtain ⟨y2,d2⟩:=thereS hc (i:=i*4+2) (by rw [hs];omega);obtain ⟨y3,d3⟩:=thereS hc (i:=i*4+3) (by rw [hs];omega);have f0:=frozenS hc (i*4);have f1:=frozenS hc (i*4+1)
 have f2:=frozenS hc (i*4+2);have f3:=frozenS hc (i*4+3);have lz:=ltS hz;have lc:=ltS hc;have HX:=hD hx;have HZ:=hD hz;have HC:=hD hc;have HS:=hD hs;have HCC:=hD hcc;have HB1:=hD hb1;clear hx hz hc hs hcc hb1
 go_upto_region 2 with (fail)
 refine wp_genGG (fun W=>W.heap[w.heap.size]?=some (.cells #[.slice (some ⟨bn,off,none⟩) R.length c] 30 (0,0))∧W.heap[w.heap.size+1]?=some (.cells #[.int .i64 r.x,.int .i64 r.y,.int .i64 r.u,.int .i64 r.v] 38 (0,0))∧LyP W g R.length (lrM (R.map Nr.n) a b) (fun j=>K j∨j=i)∧w.grownBy W (some g)) ?hw2 (fun W2 h2=>?_)
 case hw2 =>
  have hg1:=gsetI (gsetI (gsetI (gsetI (greflI W1 g) (i*4) (.int .i64 r.x)) (i*4+1) (.int .i64 r.y)) (i*4+2) (.int .i64 r.u)) (i*4+3) (.int .i64 r.v)
  exact ⟨(hg1.block _ (ltS HX.out) (fun e=>by have:=Option.some.inj e;omega)).trans HX.out,(hg1.block _ (ltS HZ.out) (fun e=>by have:=Option.some.inj e;omega)).trans HZ.out,LyP.put2 (putRe HC.out (i*4) r) HS.out HCC.out hi HRR.out,gsetI (gsetI (gsetI (gsetI (grown_below (greflI w g) HB1.out) (i*4) (.int .i64 r.x)) (i*4+1) (.int .i64 r.y)) (i*4+2) (.int .i64 r.u)) (i*4+3) (.int .i64 r.v)⟩
 obtain ⟨hx,hz,hly2,hg2⟩:=h2;clear z0 z1 z2 z3 y0 d0 y1 d1 y2 d2 y3 d3 f0 f1 f2 f3 lz lc HX HZ HC HS HCC HB1 cs W1;have hB2:=below_grown HB.out hg2 hg HB.out.size;have HX:=hD hx;have HZ:=hD hz;replace HLY:=hD hly2;have HG:=hD hg2;have x0:=cellS hx 0;have lx:=ltS hx;have HB2:=hD hB2;clear hx hz hly2 hg2 hB2
 go_wp2_with fail
 with_reducible refine (skidsOf_b (some ⟨bn,off,none⟩) c R (i:Int) _ (HV.out.keep HB2.out) hL1 (by omega) (kid_no0 hT i)).mono ?_
 rintro e W3 ⟨⟨kv,rfl,hkv,hkf⟩,hb3⟩;rw [kidsM_eq] at hkv;obtain ⟨kA,kc,hkv,hkn,-⟩:=hkv;rw [List.length_map] at hkv;subst hkv;have hsz2:=HG.out.size;have HKF:=hD (show ∀ b0 o,kA=some ⟨b0,o,none⟩→w.heap.size≤b0 from fun b0 o e=>Nat.le_trans hsz2 (hkf b0 (by rw [e];rfl)));replace HX:=hD ((hb3.block _ lx).trans HX.out);replace HZ:=hD ((hb3.block _ (ltS HZ.out)).trans HZ.out)
 replace HLY:=hD (HLY.out.keep hb3);replace HG:=hD (grown_below HG.out hb3);replace HB2:=hD (bkeep2 HB2.out hb3);have HKN:=hD hkn;have hkl10:(kidD (R.map Nr.n) i).length≤10:=Nat.le_trans (kidD_len _ _) (by rw [List.length_map];exact hL10);have HKL:=hD (show ∀ k∈kidD (R.map Nr.n) i,k<R.length from fun k hk=>by have:=kidD_lt hk;rwa [List.length_map] at this)
 have HPL:=hD (pksF_all (L:=(R.map Nr.n)) (g:=szM (R.map Nr.n)) (ks:=kidD (R.map Nr.n) i) (fun k hk=>kidD_lt hk));have HCL:=hD (cesF_all (L:=(R.map Nr.n)) (g:=szM (R.map Nr.n)) (ks:=kidD (R.map Nr.n) i) (fun k hk=>kidD_lt hk));have HML:=hD (kidR_len (R.map Nr.n) i p.n r)
 obtain ⟨M,hM⟩:∃ M,kidR (R.map Nr.n) i p.n r=M:=⟨_,rfl⟩
 have HM:=hD hM;rw [hM] at HML;have HBG:=hD (bg_of hT i);have HGW:=hD (show p.n.ki=1→_ from fun h1=>gw_of hT HMG.out h1)
 obtain ⟨ks,hks⟩:∃ ks,kidD (R.map Nr.n) i=ks:=⟨_,rfl⟩
 rw [hks] at HKN hkl10 HKL HIH HPL HCL HML HBG HGW ⊢;have HKS:=hD hks;have x4:W3.cell? ⟨bn,off+i*34+4,none⟩=some (.int .i64 p.n.ki):=(rangeB HCP.out (HB2.out.block bn hbn)) 4 _ rfl;have lbn:bn<W3.heap.size:=Nat.lt_of_lt_of_le hbn HB2.out.size;have x1:=cellS HX.out 0;have lx3:=ltS HX.out;clear hkn hkf hb3 hM hks x0 lx hsz2
 go_upto_block 0 with (fail)
 have ho0:=World.ownsRow_lit (base:=W3.heap.size) (e:=38) (size:=4) W3 #[] 0 (Nat.le_refl _) (by decide) rfl;refine wp_genGG (fun W=>W.ownsRow W3.heap.size 38 4 (.slice (some ⟨W3.heap.size,0,none⟩) 0 0) 0 (revals [])∧Below W3.heap.size W3 W) ⟨ho0,balloc (Below.refl _ _)⟩ (fun W4 h4=>?_);obtain ⟨ho4,hb4⟩:=h4;have hs3:w.heap.size≤W3.heap.size:=HG.out.size;have HO:=hD ho4;have HB4:=hD hb4
 have hs4:w.heap.size≤W4.heap.size:=Nat.le_trans hs3 hb4.size;clear x4 lbn x1 lx3 ho0 ho4 hb4
 go_cut [9] (fun rv wx=>RrV w.heap.size wx rv M∧Below W3.heap.size W3 wx)
 case first =>
  have hx4:=(HB4.out.block _ (ltS HX.out)).trans HX.out;have hz4:=(HB4.out.block _ (ltS HZ.out)).trans HZ.out;have x1:=cellS hx4 0;have z0:=cellS hz4 0;have z1:=cellS hz4 1;have z2:=cellS hz4 2;have z3:=cellS hz4 3;have lx:=ltS hx4;have lz:=ltS hz4;have HNR3:=hD (HV.out.keep HB2.out);have HNR:=hD (HV.out.keep (bkeep2 HB2.out HB4.out));have HRD:=hD (HR.out.keep (bkeep2 HB2.out HB4.out))
  have HKN4:=hD (HKN.out.keep HB4.out);clear hx4 hz4
  have HSO:=hD (show ∀ k0∈ks,∀ W,Below W4.heap.size W4 W→Calls Tryz.prog 113 #[.agg #[.slice (some ⟨bn,off,none⟩) R.length c],.int .i64 (k0:Int)] W fun e W'=>e=.returned (.tuple #[.int .i64 (szM (R.map Nr.n) k0).1,.int .i64 (szM (R.map Nr.n) k0).2])∧Below W.heap.size W W' from fun k0 hk0 W hW=>sizeOf_v (some ⟨bn,off,none⟩) c R hT R.length k0 W (by omega) (HKL.out k0 hk0) (HNR.out.keep hW) (HRD.out.keep hW))
  rcases HKI.out with hk0 | hk1 | hk2
  ·have e0:(p.n.ki == 0)=true:=by simp [hk0]
   have HPC:=hD (show ∀ A' c' W,PV W A' (pksF (R.map Nr.n) (szM (R.map Nr.n)) ks)→ks.length≤c'→Calls Tryz.prog 77 #[.slice A' ks.length c',.agg #[.int .i64 r.x,.int .i64 r.y,.int .i64 r.u,.int .i64 r.v]] W fun e w'=>(∃ v,e=.returned v∧RrV W.heap.size w' v M)∧Below W.heap.size W w' from fun A' c' W hpv hcap=>by
    obtain ⟨Mp,Zp,hMp⟩:∃ Mp Zp,parcM (pksF (R.map Nr.n) (szM (R.map Nr.n)) ks) ⟨r.x,r.y,r.u,r.v⟩=(Mp,Zp):=⟨_,_,rfl⟩
    have hz:(⟨r.x,r.y,r.u,r.v⟩:Rc).okW:=by have:=rqW_iff.1 HQR.out;have:=HXY.out;unfold Rc.okW;dsimp only;omega
    have hpk:=packed_w A' c' (pksF (R.map Nr.n) (szM (R.map Nr.n)) ks) ⟨r.x,r.y,r.u,r.v⟩ W hpv (by rw [HPL.out];exact hcap) HBG.out hz Mp Zp hMp;rw [HPL.out] at hpk;refine hpk.mono ?_;rintro e w' ⟨⟨v,rfl,hrv,hf⟩,hb⟩;refine ⟨⟨v,rfl,?_,hf⟩,hb⟩;rw [<- HM.out,kidR_pk r (by omega) (by omega),HKS.out,hMp]
    exact reR_rv hrv)
   clear hk0
   go_upto_region 10 with (fail)
   refine wp_region_rx (XV (.agg #[.slice (some ⟨bn,off,none⟩) R.length c]) :: XV (.slice kA ks.length kc) :: (fun v z=>PkV z v ks.length (pksF (R.map Nr.n) (szM (R.map Nr.n)) ks)) :: XV (.agg #[.int .i64 r.x,.int .i64 r.y,.int .i64 r.u,.int .i64 r.v]) :: (fun v z=>RrV w.heap.size z v M) :: (fun v z=>RrV w.heap.size z v M) :: []) (by kernel_rfl) (by kernel_rfl) ?hTs ?hops ?hfin
   case hTs =>
    intro T hT;simp only [List.mem_cons,List.not_mem_nil,or_false] at hT
    rcases hT with rfl | rfl | rfl | rfl | rfl | rfl <;> first | exact stay_V _ | exact stay_T | exact stay_of (fun v a b x g=>x.keep g) | exact stay_of (fun v a b x g=>x)
   case hops =>
    refine ⟨opOK_rx [(4,none)] (by kernel_rfl) rfl ?_,?_⟩
    ·intro act w' hw' h1;obtain ⟨hk,hf⟩:=evkf act;generalize act.eval=ρ at *;replace h1:ρ (.tmp 4)=.pointer (some ⟨w.heap.size,0,none⟩):=h1
     refine gxB hw' fun K hK hc hf'=>?_
     go_simp;exact hK _ _ ⟨rfl,Gr.refl _⟩
    refine ⟨opOK_rx [(8,none)] (by kernel_rfl) rfl ?_,?_⟩
    ·intro act w' hw' h1;obtain ⟨hk,hf⟩:=evkf act;generalize act.eval=ρ at *;replace h1:ρ (.tmp 8)=.slice kA ks.length kc:=h1
     refine gxB hw' fun K hK hc hf'=>?_
     go_simp;exact hK _ _ ⟨rfl,Gr.refl _⟩
    refine ⟨opOK_rx [(48,some 0),(49,some 1)] (by kernel_rfl) rfl ?_,?_⟩
    ·intro act w' hw' h1 h2;obtain ⟨hk,hf⟩:=evkf act;generalize act.eval=ρ at *;replace h1:ρ (.tmp 48)=.agg #[.slice (some ⟨bn,off,none⟩) R.length c]:=h1;replace h2:ρ (.tmp 49)=.slice kA ks.length kc:=h2
     refine gxB hw' fun K hK hc hf'=>?_
     go_simp
     (refine (packsOf_v _ c R ks kA kc ks.length (szM (R.map Nr.n)) _ (HNR.out.keep (bdrewn hw'.out)) hL1 (by omega) (HKN4.out.keep (bdrewn hw'.out)) rfl (by omega) HKL.out (fun k0 hk0 W hW=>HSO.out k0 hk0 W (bkeep2 (bdrewn hw'.out) hW))).mono ?_);rintro e w1 ⟨⟨A',c',rfl,hpv,hcap⟩,hb1⟩;exact ⟨_,rfl,hK _ _ ⟨⟨A',c',rfl,hpv,hcap⟩,hb1⟩⟩
    refine ⟨opOK_rx [(6,none)] (by kernel_rfl) rfl ?_,?_⟩
    ·intro act w' hw' h1;obtain ⟨hk,hf⟩:=evkf act;generalize act.eval=ρ at *;replace h1:ρ (.tmp 6)=.pointer (some ⟨w.heap.size+1,0,none⟩):=h1
     refine gxB hw' fun K hK hc hf'=>?_
     go_simp;exact hK _ _ ⟨rfl,Gr.refl _⟩
    refine ⟨opOK_rx [(50,some 2),(51,some 3)] (by kernel_rfl) rfl ?_,?_⟩
    ·intro act w' hw' h1 h2;obtain ⟨hk,hf⟩:=evkf act;generalize act.eval=ρ at *;replace h1:(fun v z=>PkV z v ks.length (pksF (R.map Nr.n) (szM (R.map Nr.n)) ks)) (ρ (.tmp 50)) w':=h1;replace h2:ρ (.tmp 51)=.agg #[.int .i64 r.x,.int .i64 r.y,.int .i64 r.u,.int .i64 r.v]:=h2
     refine gxB hw' fun K hK hc hf'=>?_
     go_simp;obtain ⟨A',c',e,hpv,hcap⟩:=h1;rw [e];(refine (HPC.out A' c' _ hpv hcap).mono ?_);rintro e w1 ⟨⟨v,rfl,hr,hf⟩,hb1⟩;exact ⟨_,rfl,hK _ _ ⟨⟨hr,fun k0 hk0=>Nat.le_trans (Nat.le_trans hs4 (bdrewn hw'.out).size) (hf k0 hk0)⟩,hb1⟩⟩
    refine ⟨opOK_rx [(52,some 4)] (by kernel_rfl) rfl ?_,?_⟩
    ·intro act w' hw' h1;obtain ⟨hk,hf⟩:=evkf act;generalize act.eval=ρ at *;replace h1:(fun v z=>RrV w.heap.size z v M) (ρ (.tmp 52)) w':=h1
     refine gxB hw' fun K hK hc hf'=>?_
     go_simp;exact hK _ _ ⟨h1,Gr.refl _⟩
    exact trivial
   case hfin =>
    intro w1 hg1;intro v48 t48;replace t48:v48=.agg #[.slice (some ⟨bn,off,none⟩) R.length c]:=t48;subst t48;intro v49 t49;replace t49:v49=.slice kA ks.length kc:=t49;subst t49;intro v50 t50;replace t50:(fun v z=>PkV z v ks.length (pksF (R.map Nr.n) (szM (R.map Nr.n)) ks)) v50 w1:=t50;intro v51 t51;replace t51:v51=.agg #[.int .i64 r.x,.int .i64 r.y,.int .i64 r.u,.int .i64 r.v]:=t51;subst t51
    intro v52 t52;replace t52:(fun v z=>RrV w.heap.size z v M) v52 w1:=t52;intro v9 t9;replace t9:(fun v z=>RrV w.heap.size z v M) v9 w1:=t9;have hb1:=bdrewn hg1.out;clear hg1;simp only [finP,Act.put,List.setIfInBounds_toArray,List.set_cons_succ,List.set_cons_zero];go_wp2
    go_meet
    exact ⟨t9,bkeep2 HB4.out hb1⟩
  ·have e0:(p.n.ki == 0)=false:=by simp [hk1]
   have e1:(p.n.ki == 1)=true:=by simp [hk1]
   have HRP:=hD (HRD.out p (List.mem_of_getElem? HGI.out))
   have HGC:=hD (show ∀ A' c' W,RdN W p→CeV W A' (cesF (R.map Nr.n) (szM (R.map Nr.n)) ks)→Calls Tryz.prog 79 #[.agg (gridAg p (.slice A' ks.length c')).toArray,.agg #[.int .i64 r.x,.int .i64 r.y,.int .i64 r.u,.int .i64 r.v]] W fun e w'=>(∃ v,e=.returned v∧RrV W.heap.size w' v M)∧Below W.heap.size W w' from fun A' c' W hrd hcv=>by
    have hgd:=gridded_w p.ca p.cc p.n.cs p.ra p.rc p.n.rs A' c' (cesF (R.map Nr.n) (szM (R.map Nr.n)) ks) r.x r.y r.u r.v W hrd.c hrd.r hcv (HGW.out hk1) HQR.out (by have:=rqW_iff.1 HQR.out;have:=HXY.out;omega) (by have:=rqW_iff.1 HQR.out;have:=HXY.out;omega) hrd.cl hrd.rl;rw [HCL.out] at hgd;refine hgd.mono ?_;rintro e w' ⟨⟨v,rfl,hrv,hf⟩,hb⟩;refine ⟨⟨v,rfl,?_,hf⟩,hb⟩
    rw [<- HM.out,kidR_gr r hk1,HKS.out]
    exact hrv)
   clear hk1
   go_upto_region 12 with (fail)
   refine wp_region_rx (XV (.agg #[.slice (some ⟨bn,off,none⟩) R.length c]) :: XV (.int .i64 (i:Int)) :: XV (.slice kA ks.length kc) :: (fun v z=>GdV z v p ks.length (cesF (R.map Nr.n) (szM (R.map Nr.n)) ks)) :: XV (.agg #[.int .i64 r.x,.int .i64 r.y,.int .i64 r.u,.int .i64 r.v]) :: (fun v z=>RrV w.heap.size z v M) :: (fun v z=>RrV w.heap.size z v M) :: []) (by kernel_rfl) (by kernel_rfl) ?hTs ?hops ?hfin
   case hTs =>
    intro T hT;simp only [List.mem_cons,List.not_mem_nil,or_false] at hT
    rcases hT with rfl | rfl | rfl | rfl | rfl | rfl | rfl <;> first | exact stay_V _ | exact stay_T | exact stay_of (fun v a b x g=>x.keep g) | exact stay_of (fun v a b x g=>x)
   case hops =>
    refine ⟨opOK_rx [(4,none)] (by kernel_rfl) rfl ?_,?_⟩
    ·intro act w' hw' h1;obtain ⟨hk,hf⟩:=evkf act;generalize act.eval=ρ at *;replace h1:ρ (.tmp 4)=.pointer (some ⟨w.heap.size,0,none⟩):=h1
     refine gxB hw' fun K hK hc hf'=>?_
     go_simp;exact hK _ _ ⟨rfl,Gr.refl _⟩
    refine ⟨opOK_rx [(1,none)] (by kernel_rfl) rfl ?_,?_⟩
    ·intro act w' hw' h1;obtain ⟨hk,hf⟩:=evkf act;generalize act.eval=ρ at *;replace h1:ρ (.tmp 1)=.int .i64 (i:Int):=h1
     refine gxB hw' fun K hK hc hf'=>?_
     go_simp;exact hK _ _ ⟨rfl,Gr.refl _⟩
    refine ⟨opOK_rx [(8,none)] (by kernel_rfl) rfl ?_,?_⟩
    ·intro act w' hw' h1;obtain ⟨hk,hf⟩:=evkf act;generalize act.eval=ρ at *;replace h1:ρ (.tmp 8)=.slice kA ks.length kc:=h1
     refine gxB hw' fun K hK hc hf'=>?_
     go_simp;exact hK _ _ ⟨rfl,Gr.refl _⟩
    refine ⟨opOK_rx [(55,some 0),(56,some 1),(57,some 2)] (by kernel_rfl) rfl ?_,?_⟩
    ·intro act w' hw' h1 h2 h3;obtain ⟨hk,hf⟩:=evkf act;generalize act.eval=ρ at *;replace h1:ρ (.tmp 55)=.agg #[.slice (some ⟨bn,off,none⟩) R.length c]:=h1;replace h2:ρ (.tmp 56)=.int .i64 (i:Int):=h2;replace h3:ρ (.tmp 57)=.slice kA ks.length kc:=h3
     refine gxB hw' fun K hK hc hf'=>?_
     go_simp
     (refine (gridOf_v _ c R i p ks kA kc ks.length (szM (R.map Nr.n)) _ (HNR.out.keep (bdrewn hw'.out)) HGI.out (by omega) (HKN4.out.keep (bdrewn hw'.out)) rfl (by omega) HKL.out (fun k0 hk0 W hW=>HSO.out k0 hk0 W (bkeep2 (bdrewn hw'.out) hW))).mono ?_);rintro e w1 ⟨⟨A',c',rfl,hcv⟩,hb1⟩;exact ⟨_,rfl,hK _ _ ⟨⟨A',c',rfl,hcv⟩,hb1⟩⟩
    refine ⟨opOK_rx [(6,none)] (by kernel_rfl) rfl ?_,?_⟩
    ·intro act w' hw' h1;obtain ⟨hk,hf⟩:=evkf act;generalize act.eval=ρ at *;replace h1:ρ (.tmp 6)=.pointer (some ⟨w.heap.size+1,0,none⟩):=h1
     refine gxB hw' fun K hK hc hf'=>?_
     go_simp;exact hK _ _ ⟨rfl,Gr.refl _⟩
    refine ⟨opOK_rx [(58,some 3),(59,some 4)] (by kernel_rfl) rfl ?_,?_⟩
    ·intro act w' hw' h1 h2;obtain ⟨hk,hf⟩:=evkf act;generalize act.eval=ρ at *;replace h1:(fun v z=>GdV z v p ks.length (cesF (R.map Nr.n) (szM (R.map Nr.n)) ks)) (ρ (.tmp 58)) w':=h1;replace h2:ρ (.tmp 59)=.agg #[.int .i64 r.x,.int .i64 r.y,.int .i64 r.u,.int .i64 r.v]:=h2
     refine gxB hw' fun K hK hc hf'=>?_
     go_simp;obtain ⟨A',c',e,hcv⟩:=h1;rw [e];(refine (HGC.out A' c' _ (HRP.out.keep (bdrewn hw'.out)) hcv).mono ?_);rintro e w1 ⟨⟨v,rfl,hr,hf⟩,hb1⟩;exact ⟨_,rfl,hK _ _ ⟨⟨hr,fun k0 hk0=>Nat.le_trans (Nat.le_trans hs4 (bdrewn hw'.out).size) (hf k0 hk0)⟩,hb1⟩⟩
    refine ⟨opOK_rx [(60,some 5)] (by kernel_rfl) rfl ?_,?_⟩
    ·intro act w' hw' h1;obtain ⟨hk,hf⟩:=evkf act;generalize act.eval=ρ at *;replace h1:(fun v z=>RrV w.heap.size z v M) (ρ (.tmp 60)) w':=h1
     refine gxB hw' fun K hK hc hf'=>?_
     go_simp;exact hK _ _ ⟨h1,Gr.refl _⟩
    exact trivial
   case hfin =>
    intro w2 hg2;intro v55 t55;replace t55:v55=.agg #[.slice (some ⟨bn,off,none⟩) R.length c]:=t55;subst t55;intro v56 t56;replace t56:v56=.int .i64 (i:Int):=t56;subst t56;intro v57 t57;replace t57:v57=.slice kA ks.length kc:=t57;subst t57;intro v58 t58;replace t58:(fun v z=>GdV z v p ks.length (cesF (R.map Nr.n) (szM (R.map Nr.n)) ks)) v58 w2:=t58;intro v59 t59
    replace t59:v59=.agg #[.int .i64 r.x,.int .i64 r.y,.int .i64 r.u,.int .i64 r.v]:=t59;subst t59;intro v60 t60;replace t60:(fun v z=>RrV w.heap.size z v M) v60 w2:=t60;intro v9 t9;replace t9:(fun v z=>RrV w.heap.size z v M) v9 w2:=t9;have hb2:=bdrewn hg2.out;clear hg2;simp only [finP,Act.put,List.setIfInBounds_toArray,List.set_cons_succ,List.set_cons_zero];go_wp2
    go_meet
    exact ⟨t9,bkeep2 HB4.out hb2⟩
  ·have e0:(p.n.ki == 0)=false:=by simp [hk2]
   have e1:(p.n.ki == 1)=false:=by simp [hk2]
   have HM2:=hD (show M=(plsF (R.map Nr.n) ks).map (fun q=>(⟨r.x+xM q r.u,r.y+yM q r.v,wM q r.u,hM q r.v⟩:Re)) from by rw [<- HM.out,kidR_pl r hk2,HKS.out]);clear hk2
   go_wp2_with fail
   go_loopw [9,10] (fun rv iv wr=>∃ m:Nat,m≤ks.length∧iv=.int .i64 (m:Int)∧wr.ownsRow W3.heap.size 38 4 rv m (revals (M.take m))∧Below W3.heap.size W3 wr) (fun _ iv _=>ks.length-(intOf iv).toNat)
   case atStart=>exact ⟨0,by omega,rfl,HO.out,HB4.out⟩
   case round =>
    obtain ⟨m,hm,rfl,ho,hBr⟩:=hrel;clear HO x1 z0 z1 z2 z3 lx lz
    by_cases hlt:m<ks.length
    ·have hd:decide ((m:Int)<(ks.length:Int))=true:=by simpa using hlt
     have hdm:(m:Int)<(ks.length:Int):=by omega
     obtain ⟨kd,hkd⟩:∃ kd,ks[m]?=some kd:=⟨_,List.getElem?_eq_getElem hlt⟩
     have hkdl:=HKL.out kd (List.mem_of_getElem? hkd)
     have hkdi:(kd:Int)<(R.length:Int):=by omega
     obtain ⟨s,hs⟩:∃ s,R[kd]?=some s:=⟨_,List.getElem?_eq_getElem hkdl⟩
     obtain ⟨kb,koff,ek,hkb,hkp⟩:=(HKN.out.keep hBr).cells (by rw [List.length_map];omega);have ck:=hkp m (kd:Int) (by rw [List.getElem?_map,hkd];rfl);obtain ⟨b1,o1,e1',hb1,hcs⟩:=(HNR3.out.keep hBr).cells (by omega)
     cases e1'
     have hpl:=node_pl (hcs kd s hs);have p0:=hpl 0 _ rfl;have p1:=hpl 1 _ rfl;have p2:=hpl 2 _ rfl;have p3:=hpl 3 _ rfl;have p4:=hpl 4 _ rfl;have p5:=hpl 5 _ rfl;have p6:=hpl 6 _ rfl;have p7:=hpl 7 _ rfl;have p8:=hpl 8 _ rfl;simp only [Nat.add_zero] at p0;have hpB:=hT.pl kd s.n (by rw [List.getElem?_map,hs];rfl)
     have hmm:M[m]?=some ⟨r.x+xM s.n.pl r.u,r.y+yM s.n.pl r.v,wM s.n.pl r.u,hM s.n.pl r.v⟩:=by
      rw [HM2.out,List.getElem?_map,show (plsF (R.map Nr.n) ks)[m]?=some s.n.pl from by
       unfold plsF;rw [fm_get (kid_some (fun k hk=>by rw [List.length_map];exact HKL.out k hk) fun _ n=>n.pl),hkd]
       show (((R.map Nr.n))[kd]?).map _=_
       rw [List.getElem?_map,hs]
       rfl]
      rfl
     have hrs:=revals_succ hmm;have hxr:=(hBr.block _ (ltS HX.out)).trans HX.out;have hzr:=(hBr.block _ (ltS HZ.out)).trans HZ.out;have x1:=cellS hxr 0;have z0:=cellS hzr 0;have z1:=cellS hzr 1;have z2:=cellS hzr 2;have z3:=cellS hzr 3;have lx:=ltS hxr;have lz:=ltS hzr;have hws:W3.heap.size≤wr.heap.size:=hBr.size
     have HXO:=hD (show (-1000000000000000≤r.x∧r.x≤1000000000000000)∧(-1000000000000000≤r.y∧r.y≤1000000000000000) by have:=HXY.out;have:=rqW_iff.1 HQR.out;omega);have HOR:=hD ho;have HRS:=hD hrs;have HBR:=hD hBr;have HEK:=hD ek;have HPB:=hD hpB;have hob:=ho.lt;clear ho hrs hBr hkp hcs hmm hxr hzr hpl hpB hkd hs
     go_wp2_with fail
     rw [ek];refine wp_region_grow 12 3 (·<13) (by kernel_rfl) (by kernel_rfl) rfl ?_
     iterate 12 (refine wpG_step (fun K hK=>?_);apply Exists.intro;refine ⟨.inl ⟨rfl,fun w' hw'=>?_⟩,?_⟩;(focus ((obtain ⟨hc,hf⟩:=bcell hw'.out);(have hcS:=bcellS hw'.out);go_simp <;> first | rfl|(go_at_call 81;exact placed_w s.n.pl r.x r.y r.u r.v _ HXO.out.1 HXO.out.2 HPB.out HQR.out)));(go_simp;refine hK _ ?_;clear hK K))
     refine wpG_nil ?_;refine wpK_one (i:=12) (by kernel_rfl) rfl rfl (by kernel_rfl) (fun wa ha=>?_);go_simp;refine ⟨Gr.alloc _ _,?_⟩;refine wpK_tail (by kernel_rfl) (fun w8 h8=>?_);have hb8:Below wr.heap.size wr w8:=bgrow (balloc (bgrow (Below.refl _ _).drew ha)) h8
     have hgb:=(h8.out.block wa.heap.size (by simp)).trans (newS wa (.cells #[.int .i64 (r.x+xM s.n.pl r.u),.int .i64 (r.y+yM s.n.pl r.v),.int .i64 (wM s.n.pl r.u),.int .i64 (hM s.n.pl r.v)] 38 (0,0)));clear ha h8;generalize wa.heap.size=gb at *;have ho8:=own_belowN HOR.out hb8
     have hnews:∀ (j:Nat) (u:Value),(valsRe ⟨r.x+xM s.n.pl r.u,r.y+yM s.n.pl r.v,wM s.n.pl r.u,hM s.n.pl r.v⟩)[j]?=some u→w8.cell? ((⟨gb,0,none⟩:Addr).add j)=some u:=fun j u hu=>by
      rw [add_none,Nat.zero_add];exact (cellS hgb j).trans (by simpa [valsRe] using hu)
     obtain ⟨v8,w9,hap,how8,hgr8,-⟩:=run_append_own (P:=Tryz.prog) w8 W3.heap.size 51 51 38 ti tz 4 32 Tryz.underlying51 ti1 ti2 ti3 ti4 ti5 (by decide) _ m (revals (M.take m)) ho8 ⟨gb,0,none⟩ 1 1 (valsRe ⟨r.x+xM s.n.pl r.u,r.y+yM s.n.pl r.v,wM s.n.pl r.u,hM s.n.pl r.v⟩) rfl hnews (valsRe_one2 _) (by simp only [maxLen];omega) (by omega) (Nat.le_trans hws hb8.size);rw [HRS.out] at how8
     have HO9:=hD how8;have HB9:=hD (below_own0 (bkeep2 HBR.out hb8) hgr8 ho8.lt (Nat.le_refl _) (Nat.le_refl _));refine wpAny_one (f:=1) (i:=13) (by kernel_rfl) rfl rfl ?_;refine upon_appendL (.tmp 32) (.tmp 44) 51 rfl rfl rfl hap ?_;simp only [Act.put,List.setIfInBounds_toArray,List.set_cons_succ,List.set_cons_zero];refine wpAny_one (f:=0) (i:=14) (by kernel_rfl) rfl rfl ?_;go_simp
     refine wpAny_end (by kernel_rfl) ?_;refine nopan_normal ?_;rw [<- ek];clear p0 p1 p2 p3 p4 p5 p6 p7 p8 ek hap how8 hgr8 ho8 hnews hgb hb8 x1 z0 z1 z2 z3 lx lz hob ck hkb hb1;go_wp2
     go_roundw
     case rel=>exact ⟨m+1,by omega,by go_num,by simpa using HO9.out,HB9.out⟩
     case measure=>simp [intOf];omega
    ·have hd:decide ((m:Int)<(ks.length:Int))=false:=by simp;omega
     obtain rfl:m=ks.length:=by omega
     have he:M.take ks.length=M:=List.take_of_length_le (by rw [HML.out];exact Nat.le_refl _);rw [he] at ho;have HRR2:=hD (show RrV w.heap.size wr u9 M from ⟨ReR.own ho HML.out.symm,fun k hk=>Nat.le_trans hs3 (ho.lt k hk).1⟩);have HBR:=hD hBr;clear ho hBr he;go_wp2
     go_meet
     exact ⟨HRR2.out,HBR.out⟩
 case rest =>
  obtain ⟨⟨hre,hfar⟩,hbc⟩:=hcut;obtain ⟨rA,rc,e9,hrv⟩:=hre;subst e9;have HRV:=hD hrv;have HFR:=hD (show ∀ b0 o,rA=some ⟨b0,o,none⟩→w.heap.size≤b0 from fun b0 o e=>hfar b0 (by rw [e];rfl));replace HX:=hD ((hbc.block _ (ltS HX.out)).trans HX.out);replace HLY:=hD (HLY.out.keep hbc);replace HG:=hD (grown_below HG.out hbc);replace HB2:=hD (bkeep2 HB2.out hbc);replace HKN:=hD (HKN.out.keep hbc)
  clear hrv hfar hbc HO HZ HPL HCL HBG HGW
  go_wp2_with fail
  go_loopw [11] (fun kv wr=>∃ m:Nat,m≤ks.length∧kv=.int .i64 (m:Int)∧LyP wr g R.length (lrM (R.map Nr.n) a b) (fun j=>(K j∨j=i)∨∃ m' k',m'<m∧ks[m']?=some k'∧Dn (R.map Nr.n) k' j)∧wc.grownBy wr (some g)) (fun kv _=>ks.length-(intOf kv).toNat)
  case atStart=>exact ⟨0,by omega,rfl,HLY.out.mono fun j _ hj=>hj.elim id fun ⟨m',k',h,_⟩=>absurd h (by omega),greflI _ _⟩
  case round =>
   obtain ⟨m,hm,rfl,hly,hgr⟩:=hrel;clear HLY
   by_cases hlt:m<ks.length
   ·have hd:decide ((m:Int)<(ks.length:Int))=true:=by simpa using hlt
    have hdm:(m:Int)<(ks.length:Int):=by omega
    have hdM:(m:Int)<(M.length:Int):=by rw [HML.out];omega
    obtain ⟨kd,hkd⟩:∃ kd,ks[m]?=some kd:=⟨_,List.getElem?_eq_getElem hlt⟩
    obtain ⟨q,hqm⟩:∃ q,M[m]?=some q:=⟨_,List.getElem?_eq_getElem (by rw [HML.out];exact hlt)⟩
    have hkq:lrM (R.map Nr.n) a b kd=q:=lrM_kid hT HMG.out (by rw [HKS.out];exact hkd) (by rw [HRR.out,HM.out];exact hqm);obtain ⟨kb,koff,ek,hkb,hkp⟩:=HKN.out.cells (by rw [List.length_map];omega);obtain ⟨rb,roff,er,hrb,hrp⟩:=HRV.out.cells (by rw [HML.out];omega)
    have hkg:kb≠g:=by have:=HKF.out kb koff ek;omega
    have hrg:rb≠g:=by have:=HFR.out rb roff er;omega
    have ck:=(World.cell?_of_block (a:=⟨kb,koff+m,none⟩) (hgr.block kb hkb (fun e=>hkg (Option.some.inj e)))).trans (hkp m (kd:Int) (by rw [List.getElem?_map,hkd];rfl));obtain ⟨c0,c1,c2,c3⟩:=hrp m q hqm;have hrbl:=hgr.block rb hrb (fun e=>hrg (Option.some.inj e));replace c0:=(World.cell?_of_block (a:=⟨rb,roff+m*4,none⟩) hrbl).trans c0
    replace c1:=(World.cell?_of_block (a:=⟨rb,roff+m*4+1,none⟩) hrbl).trans c1;replace c2:=(World.cell?_of_block (a:=⟨rb,roff+m*4+2,none⟩) hrbl).trans c2;replace c3:=(World.cell?_of_block (a:=⟨rb,roff+m*4+3,none⟩) hrbl).trans c3;have hxr:=(hgr.block _ (ltS HX.out) (fun e=>by have:=Option.some.inj e;omega)).trans HX.out;have x1:=cellS hxr 0;have lx:=ltS hxr
    have lkb:kb<wr.heap.size:=Nat.lt_of_lt_of_le hkb hgr.size;have lrb:rb<wr.heap.size:=Nat.lt_of_lt_of_le hrb hgr.size;have HLY:=hD hly;have HGR:=hD hgr;have HEK:=hD ek;have HER:=hD er;have HKD:=hD hkd;have HKQ:=hD hkq;clear hly hgr ek er hkd hkq hkp hrp hrbl hxr hqm hkb hrb
    go_wp2_with fail
    refine wp_region_rxl 10 1 [] #[true,true,true,true,true,true,true,true,true,true,false] (by kernel_rfl) (by kernel_rfl) (by kernel_rfl) (XV (.agg #[.slice (some ⟨bn,off,none⟩) R.length c]) :: XV (.slice kA ks.length kc) :: XV (.int .i64 (m:Int)) :: XV (.pointer (some ⟨kb,koff+m,none⟩)) :: XV (.int .i64 (kd:Int)) :: XV (.slice rA M.length rc) :: XV (.int .i64 (m:Int)) :: XV (.pointer (some ⟨rb,roff+m*4,none⟩)) :: XV (.agg #[.int .i64 q.x,.int .i64 q.y,.int .i64 q.u,.int .i64 q.v]) :: XV (.slice (some ⟨g,0,none⟩) R.length R.length) :: []) (by kernel_rfl) (by kernel_rfl) (by kernel_rfl) ?hTs ?hXs ?hops ?hfin
    case hTs =>
     intro T hT;simp only [List.mem_cons,List.not_mem_nil,or_false] at hT
     rcases hT with rfl | rfl | rfl | rfl | rfl | rfl | rfl | rfl | rfl | rfl <;> first | exact stay_V _ | exact stay_T | exact stay_of (fun v a b x g=>x.keep g) | exact stay_of (fun v a b x g=>x)
    case hXs =>
     intro x d s hx;exact absurd hx (List.not_mem_nil)
    case hops =>
     refine ⟨opOK_rx [(4,none)] (by kernel_rfl) rfl ?_,?_⟩
     ·intro act w' hw' h1;obtain ⟨hk,hf⟩:=evkf act;generalize act.eval=ρ at *;replace h1:ρ (.tmp 4)=.pointer (some ⟨w.heap.size,0,none⟩):=h1
      refine gxB hw' fun K hK hc hf'=>?_
      go_simp;exact hK _ _ ⟨rfl,Gr.refl _⟩
     refine ⟨opOK_rx [(8,none)] (by kernel_rfl) rfl ?_,?_⟩
     ·intro act w' hw' h1;obtain ⟨hk,hf⟩:=evkf act;generalize act.eval=ρ at *;replace h1:ρ (.tmp 8)=.slice kA ks.length kc:=h1
      refine gxB hw' fun K hK hc hf'=>?_
      go_simp;exact hK _ _ ⟨rfl,Gr.refl _⟩
     refine ⟨opOK_rx [(11,none)] (by kernel_rfl) rfl ?_,?_⟩
     ·intro act w' hw' h1;obtain ⟨hk,hf⟩:=evkf act;generalize act.eval=ρ at *;replace h1:ρ (.tmp 11)=.int .i64 (m:Int):=h1
      refine gxB hw' fun K hK hc hf'=>?_
      go_simp;exact hK _ _ ⟨rfl,Gr.refl _⟩
     refine ⟨opOK_rx [(68,some 1),(69,some 2)] (by kernel_rfl) rfl ?_,?_⟩
     ·intro act w' hw' h1 h2;obtain ⟨hk,hf⟩:=evkf act;generalize act.eval=ρ at *;replace h1:ρ (.tmp 68)=.slice kA ks.length kc:=h1;replace h2:ρ (.tmp 69)=.int .i64 (m:Int):=h2;refine gx_gen (fun K hK=>?_);rw [HEK.out] at h1;obtain ⟨hc,hf'⟩:=bcell (bdrewn hw'.out);go_simp;exact hK _ _ ⟨rfl,Gr.refl _⟩
     refine ⟨opOK_rx [(70,some 3)] (by kernel_rfl) rfl ?_,?_⟩
     ·intro act w' hw' h1;obtain ⟨hk,hf⟩:=evkf act;generalize act.eval=ρ at *;replace h1:ρ (.tmp 70)=.pointer (some ⟨kb,koff+m,none⟩):=h1
      refine gxB hw' fun K hK hc hf'=>?_
      go_simp;exact hK _ _ ⟨rfl,Gr.refl _⟩
     refine ⟨opOK_rx [(9,none)] (by kernel_rfl) rfl ?_,?_⟩
     ·intro act w' hw' h1;obtain ⟨hk,hf⟩:=evkf act;generalize act.eval=ρ at *;replace h1:ρ (.tmp 9)=.slice rA M.length rc:=h1
      refine gxB hw' fun K hK hc hf'=>?_
      go_simp;exact hK _ _ ⟨rfl,Gr.refl _⟩
     refine ⟨opOK_rx [(11,none)] (by kernel_rfl) rfl ?_,?_⟩
     ·intro act w' hw' h1;obtain ⟨hk,hf⟩:=evkf act;generalize act.eval=ρ at *;replace h1:ρ (.tmp 11)=.int .i64 (m:Int):=h1
      refine gxB hw' fun K hK hc hf'=>?_
      go_simp;exact hK _ _ ⟨rfl,Gr.refl _⟩
     refine ⟨opOK_rx [(72,some 5),(73,some 6)] (by kernel_rfl) rfl ?_,?_⟩
     ·intro act w' hw' h1 h2;obtain ⟨hk,hf⟩:=evkf act;generalize act.eval=ρ at *;replace h1:ρ (.tmp 72)=.slice rA M.length rc:=h1;replace h2:ρ (.tmp 73)=.int .i64 (m:Int):=h2;refine gx_gen (fun K hK=>?_);rw [HER.out] at h1;obtain ⟨hc,hf'⟩:=bcell (bdrewn hw'.out);go_simp;exact hK _ _ ⟨rfl,Gr.refl _⟩
     refine ⟨opOK_rx [(74,some 7)] (by kernel_rfl) rfl ?_,?_⟩
     ·intro act w' hw' h1;obtain ⟨hk,hf⟩:=evkf act;generalize act.eval=ρ at *;replace h1:ρ (.tmp 74)=.pointer (some ⟨rb,roff+m*4,none⟩):=h1
      refine gxB hw' fun K hK hc hf'=>?_
      go_simp;exact hK _ _ ⟨rfl,Gr.refl _⟩
     refine ⟨opOK_rx [(3,none)] (by kernel_rfl) rfl ?_,?_⟩
     ·intro act w' hw' h1;obtain ⟨hk,hf⟩:=evkf act;generalize act.eval=ρ at *;replace h1:ρ (.tmp 3)=.slice (some ⟨g,0,none⟩) R.length R.length:=h1
      refine gxB hw' fun K hK hc hf'=>?_
      go_simp;exact hK _ _ ⟨rfl,Gr.refl _⟩
     exact trivial
    case hfin =>
     intro w16 hg16;intro v67 t67;replace t67:v67=.agg #[.slice (some ⟨bn,off,none⟩) R.length c]:=t67;subst t67;intro v68 t68;replace t68:v68=.slice kA ks.length kc:=t68;subst t68;intro v69 t69;replace t69:v69=.int .i64 (m:Int):=t69;subst t69;intro v70 t70;replace t70:v70=.pointer (some ⟨kb,koff+m,none⟩):=t70;subst t70;intro v71 t71;replace t71:v71=.int .i64 (kd:Int):=t71;subst t71;intro v72 t72
     replace t72:v72=.slice rA M.length rc:=t72;subst t72;intro v73 t73;replace t73:v73=.int .i64 (m:Int):=t73;subst t73;intro v74 t74;replace t74:v74=.pointer (some ⟨rb,roff+m*4,none⟩):=t74;subst t74;intro v75 t75;replace t75:v75=.agg #[.int .i64 q.x,.int .i64 q.y,.int .i64 q.u,.int .i64 q.v]:=t75;subst t75;intro v76 t76;replace t76:v76=.slice (some ⟨g,0,none⟩) R.length R.length:=t76;subst t76
     have hb16:=bdrewn hg16.out;clear hg16;simp only [finP,List.take_succ_cons,List.take_zero,Act.put,List.setIfInBounds_toArray,List.set_cons_succ,List.set_cons_zero];refine wpAny_one (i:=10) (by kernel_rfl) rfl rfl ?_;go_simp
     go_at_call 56
     refine (HIH.out m kd q HKD.out HKQ.out _ _ (bkeep2 (below_grown HB2.out HGR.out hg HB2.out.size) hb16) (HLY.out.keep hb16)).mono ?_;rintro e w17 ⟨⟨v,rfl⟩,hl17,hg17⟩;go_simp;refine wpAny_end (by kernel_rfl) ?_;refine nopan_normal ?_
     have HL17:=hD (hl17.mono (K':=fun j=>(K j∨j=i)∨∃ m' k',m'<m+1∧ks[m']?=some k'∧Dn (R.map Nr.n) k' j) fun j _ hj=>by
      rcases hj with h | ⟨m',k',h1,h2,h3⟩
      ·exact .inl (.inl h)
      ·by_cases e:m'=m
       ·subst e;rw [HKD.out] at h2;obtain rfl:=Option.some.inj h2;exact .inr h3
       ·exact .inl (.inr ⟨m',k',by omega,h2,h3⟩))
     have HG17:=hD (gt_q (grown_below HGR.out hb16) hg17);clear hl17 hg17 hb16 HLY HGR x1 c0 c1 c2 c3 ck lx lkb lrb;go_wp2
     go_roundw
     case rel=>exact ⟨m+1,by omega,by go_num,HL17.out,HG17.out⟩
     case measure=>simp [intOf];omega
   ·have hd:decide ((m:Int)<(ks.length:Int))=false:=by simp;omega
    obtain rfl:m=ks.length:=by omega
    have HL:=hD (hly.mono (K':=fun j=>K j∨Dn (R.map Nr.n) i j) fun j _ hj=>by
     rcases hj with h | h
     ·exact .inl (.inl h)
     ·cases h with
      | own=>exact .inl (.inr rfl)
      | kid h1 h2 =>
       rw [HKS.out] at h1;obtain ⟨m',h3⟩:=List.getElem?_of_mem h1
       exact .inr ⟨m',_,(List.getElem?_eq_some_iff.1 h3).1,h3,h2⟩)
    have HGE:=hD (gt_q HG.out hgr);clear hly hgr;go_wp2
    go_end0
    exact ⟨⟨_,rfl⟩,HL.out,HGE.out⟩
theorem slayout_v (A:Option Addr) (c k:Nat) (R:List Nr) (a b:Int) (w:World) (hT:TrOK (R.map Nr.n)) (hk:k=R.length) (h:NrV w A R) (hr:RdR w R) (ha:0≤a∧a≤400) (hb:0≤b∧b≤400) :
  Calls Tryz.prog 29 #[.agg #[.slice A k c],.int .i64 a,.int .i64 b] w fun e w'=>(∃ g,e=.returned (.slice (some ⟨g,0,none⟩) k k)∧w.heap.size≤g∧ReB w' g ((List.range k).map (lrM (R.map Nr.n) a b)))∧Below w.heap.size w w':=by
 subst hk
 have hL:R.length≤10:=by have:=hT.l10;rwa [List.length_map] at this
 have hL1:0<R.length:=by have:=hT.l1;rw [List.length_map] at this;omega
 obtain ⟨fm,hfm,hmk0⟩:=made_Rect
 have hmk:=fun w=>hmk0 R.length w (by omega)
 have HFM:=hD (hfm R.length);have HLD:=hD (fun W (hW:Below w.heap.size w W) (hl:LyP W (w.heap.size+1) R.length (lrM (R.map Nr.n) a b) (fun _=>False))=>laid_v A c R a b hT ha hb w h hr (w.heap.size+1) (by omega) R.length 0 W (fun _=>False) ⟨0,0,a,b⟩ (by omega) hL1 (lrM_zero _ _ _) hW hl);clear hmk0 hfm ha hb h hr
 go_enter Tryz.func29,Tryz.ntmps29
 go_upto_region 2 with (fail)
 refine wp_genGG (fun W=>W.heap[w.heap.size]?=some (.cells #[.slice A R.length c] 30 (0,0))∧(∃ cs:Array Value,W.heap[w.heap.size+1]?=some (.cells cs 38 (0,0))∧cs.size=R.length*4)∧Below w.heap.size w W) ⟨(Below.heap_alloc _ _ w.heap.size (by simp)).trans (newS w _),⟨_,newS1T w _ _,HFM.out⟩,balloc (balloc (Below.refl _ _))⟩ (fun W1 h1=>?_);obtain ⟨hx,⟨cs,hc,hs⟩,hb1⟩:=h1
 have HC:=hD (HLD.out W1 hb1 ⟨cs,hc,hs,fun j _ h=>h.elim⟩);have x0:=cellS hx 0;have lx:=ltS hx;have HB:=hD hb1;clear hx hc hs hb1 hmk HFM HLD
 go_wp2_with fail
 refine HC.out.mono ?_;rintro e w2 ⟨⟨v,rfl⟩,hl,hg⟩;have HL:=hD (hl.whole fun j hj=>.inr (dn_root hT (j+1) j (by omega) (by rw [List.length_map];exact hj)));have HB2:=hD (below_grown HB.out hg (by omega) HB.out.size);clear hl hg x0 lx HC;go_wp2;go_ret;exact ⟨⟨_,rfl,by omega,HL.out⟩,HB2.out⟩
end
def ownB (n:Nd):Bool:=if n.ki=1 then linesB n.cs&&linesB n.rs else decide (n.cs.length=0)&&decide (n.rs.length=0)
def ndB (n:Nd):Bool:=(rng n.ww 0 30&&rng n.hh 0 30)&&(rng n.ki 0 2&&(ownB n&&(n.pk.ok&&(decide (n.pk.w=0)&&(decide (n.pk.h=0)&&(decide (n.ce.cw=0)&&(decide (n.ce.ch=0)&&plB n.pl)))))))
theorem validOwnLines_v (p:Nr) (b:Bool) (w:World) (h:RdN w p) (k1:p.n.cs.length≤1048576) (k2:p.n.rs.length≤1048576) (hb:ownB p.n=b) :
  Calls Tryz.prog 123 #[.agg (valsNr p).toArray] w fun e w'=>e=.returned (.bool b)∧Below w.heap.size w w':=by
 have hB0:Below w.heap.size w (w.alloc (.cells (valsNr p).toArray 90 (0,0))):=balloc (Below.refl _ _);have HX:=hD (newS w (.cells (valsNr p).toArray 90 (0,0)));have HC:=hD (h.c.keep hB0);have HR:=hD (h.r.keep hB0);have HB:=hD hB0;clear hB0 h;have x4:(w.alloc (.cells (valsNr p).toArray 90 (0,0))).cell? ⟨w.heap.size,4,none⟩=some (.int .i64 p.n.ki):=cellS HX.out 4
 have x5:(w.alloc (.cells (valsNr p).toArray 90 (0,0))).cell? ⟨w.heap.size,5,none⟩=some (.slice p.ca p.n.cs.length p.cc):=cellS HX.out 5;have x6:(w.alloc (.cells (valsNr p).toArray 90 (0,0))).cell? ⟨w.heap.size,6,none⟩=some (.slice p.ra p.n.rs.length p.rc):=cellS HX.out 6;unfold ownB at hb
 by_cases hk:p.n.ki=1
 ·rw [if_pos hk] at hb;rw [hk] at x4;have HK:=hD hk;clear hk
  cases h1:linesB p.n.cs
  ·obtain rfl:false=b:=by rw [<- hb,h1];rfl
   go_enter Tryz.func123,Tryz.ntmps123
   go_wp2_with fail
   with_reducible refine (validLines_v p.ca p.cc p.n.cs false _ HC.out k1 h1).mono ?_
   rintro e w1 ⟨rfl,hb1⟩;clear x4 x5 x6;replace HB:=hD (bkeep2 HB.out hb1);clear hb1;go_wp2;go_ret;exact ⟨rfl,HB.out⟩
  ·have h2:linesB p.n.rs=b:=by rw [<- hb,h1];rfl
   clear hb
   cases b
   all_goals
    go_enter Tryz.func123,Tryz.ntmps123
    go_wp2_with fail
    with_reducible refine (validLines_v p.ca p.cc p.n.cs true _ HC.out k1 h1).mono ?_
    rintro e w1 ⟨rfl,hb1⟩;clear x4 x5 x6;replace HX:=hbk hb1 HX;replace HR:=hD (HR.out.keep hb1);replace HB:=hD (bkeep2 HB.out hb1);clear hb1;have x6:w1.cell? ⟨w.heap.size,6,none⟩=some (.slice p.ra p.n.rs.length p.rc):=cellS HX.out 6
    go_wp2_with fail
    with_reducible refine (validLines_v p.ra p.rc p.n.rs _ _ HR.out k2 h2).mono ?_
    rintro e w2 ⟨rfl,hb2⟩;clear x6;replace HB:=hD (bkeep2 HB.out hb2);clear hb2;go_wp2;go_ret;exact ⟨rfl,HB.out⟩
 ·rw [if_neg hk] at hb
  have e1:(p.n.ki == 1)=false:=by rw [beq_eq_false_iff_ne];exact hk
  have e1':decide (p.n.ki=1)=false:=decide_eq_false hk;have HK:=hD hk;clear hk
  by_cases h1:p.n.cs.length=0
  ·have e2:(((p.n.cs.length:Nat):Int) == 0)=true:=by rw [h1];rfl
   have e2':decide (((p.n.cs.length:Nat):Int)=0)=true:=decide_eq_true (by omega)
   by_cases h2:p.n.rs.length=0
   ·have e3:(((p.n.rs.length:Nat):Int) == 0)=true:=by rw [h2];rfl
    have e3':decide (((p.n.rs.length:Nat):Int)=0)=true:=decide_eq_true (by omega)
    obtain rfl:true=b:=by rw [<- hb,h1,h2];rfl
    clear h1 h2 hb
    go_enter Tryz.func123,Tryz.ntmps123
    go_wp2;go_ret;exact ⟨rfl,HB.out⟩
   ·have e3:(((p.n.rs.length:Nat):Int) == 0)=false:=by rw [beq_eq_false_iff_ne];omega
    have e3':decide (((p.n.rs.length:Nat):Int)=0)=false:=decide_eq_false (by omega)
    obtain rfl:false=b:=by rw [<- hb,decide_eq_false h2,Bool.and_false]
    clear h1 h2 hb
    go_enter Tryz.func123,Tryz.ntmps123
    go_wp2;go_ret;exact ⟨rfl,HB.out⟩
  ·have e2:(((p.n.cs.length:Nat):Int) == 0)=false:=by rw [beq_eq_false_iff_ne];omega
   have e2':decide (((p.n.cs.length:Nat):Int)=0)=false:=decide_eq_false (by omega)
   obtain rfl:false=b:=by rw [<- hb,decide_eq_false h1,Bool.false_and]
   clear h1 hb
   go_enter Tryz.func123,Tryz.ntmps123
   go_wp2;go_ret;exact ⟨rfl,HB.out⟩
theorem eqb_t {x:Int} (h:decide (x=0)=true):(x == 0)=true:=by have:=of_decide_eq_true h;rw [this];rfl
theorem eqb_f {x:Int} (h:decide (x=0)=false):(x == 0)=false:=by have:=of_decide_eq_false h;rw [beq_eq_false_iff_ne];exact this
theorem validNode_v (p:Nr) (b:Bool) (w:World) (h:RdN w p) (k1:p.n.cs.length≤1048576) (k2:p.n.rs.length≤1048576) (hb:ndB p.n=b) :
  Calls Tryz.prog 86 #[.agg (valsNr p).toArray] w fun e w'=>e=.returned (.bool b)∧Below w.heap.size w w':=by
 have HX:=hD (newS w (.cells (valsNr p).toArray 90 (0,0)));have HB:=hD (show Below w.heap.size w (w.alloc (.cells (valsNr p).toArray 90 (0,0))) from balloc (Below.refl _ _));have HD:=hD h;clear h
 cases h1:(rng p.n.ww 0 30&&rng p.n.hh 0 30)
 ·obtain rfl:false=b:=by rw [<- hb];simp only [ndB,h1,Bool.false_and,Bool.true_and]
  clear hb;obtain ⟨x1,x2,x4,x7,x8,x20,x21⟩:=xs1_2_4_7_8_20_21 HX.out;obtain ⟨HR,HRP,HRL,-⟩:=hrs HX.out
  go_enter Tryz.func86,Tryz.ntmps86
  go_wp2_with (first|(refine ldNr p w.heap.size 0 rfl rfl rfl HR.out ?_)|(refine ldPackH HRP rfl rfl rfl ?_)|(refine ldPlaceH HRL rfl rfl rfl ?_))
  with_reducible refine (validWish_w p.n.ww p.n.hh false _ h1).mono ?_
  rintro e wq ⟨rfl,rfl⟩
  go_wp2_with (first|(refine ldNr p w.heap.size 0 rfl rfl rfl HR.out ?_)|(refine ldPackH HRP rfl rfl rfl ?_)|(refine ldPlaceH HRL rfl rfl rfl ?_))
  go_ret;exact ⟨rfl,HB.out⟩
 cases h2:rng p.n.ki 0 2
 ·obtain rfl:false=b:=by rw [<- hb];simp only [ndB,h1,h2,Bool.false_and,Bool.true_and]
  clear hb;obtain ⟨x1,x2,x4,x7,x8,x20,x21⟩:=xs1_2_4_7_8_20_21 HX.out;obtain ⟨HR,HRP,HRL,-⟩:=hrs HX.out
  go_enter Tryz.func86,Tryz.ntmps86
  go_wp2_with (first|(refine ldNr p w.heap.size 0 rfl rfl rfl HR.out ?_)|(refine ldPackH HRP rfl rfl rfl ?_)|(refine ldPlaceH HRL rfl rfl rfl ?_))
  with_reducible refine (validWish_w p.n.ww p.n.hh true _ h1).mono ?_
  rintro e wq ⟨rfl,rfl⟩
  go_wp2_with (first|(refine ldNr p w.heap.size 0 rfl rfl rfl HR.out ?_)|(refine ldPackH HRP rfl rfl rfl ?_)|(refine ldPlaceH HRL rfl rfl rfl ?_))
  with_reducible refine (within_w _ 0 2 false _ h2).mono ?_
  rintro e wq ⟨rfl,rfl⟩
  go_wp2_with (first|(refine ldNr p w.heap.size 0 rfl rfl rfl HR.out ?_)|(refine ldPackH HRP rfl rfl rfl ?_)|(refine ldPlaceH HRL rfl rfl rfl ?_))
  go_ret;exact ⟨rfl,HB.out⟩
 cases h3:ownB p.n
 ·obtain rfl:false=b:=by rw [<- hb];simp only [ndB,h1,h2,h3,Bool.false_and,Bool.true_and]
  clear hb;obtain ⟨x1,x2,x4,x7,x8,x20,x21⟩:=xs1_2_4_7_8_20_21 HX.out;obtain ⟨HR,HRP,HRL,-⟩:=hrs HX.out
  go_enter Tryz.func86,Tryz.ntmps86
  go_wp2_with (first|(refine ldNr p w.heap.size 0 rfl rfl rfl HR.out ?_)|(refine ldPackH HRP rfl rfl rfl ?_)|(refine ldPlaceH HRL rfl rfl rfl ?_))
  with_reducible refine (validWish_w p.n.ww p.n.hh true _ h1).mono ?_
  rintro e wq ⟨rfl,rfl⟩
  go_wp2_with (first|(refine ldNr p w.heap.size 0 rfl rfl rfl HR.out ?_)|(refine ldPackH HRP rfl rfl rfl ?_)|(refine ldPlaceH HRL rfl rfl rfl ?_))
  with_reducible refine (within_w _ 0 2 true _ h2).mono ?_
  rintro e wq ⟨rfl,rfl⟩
  go_wp2_with (first|(refine ldNr p w.heap.size 0 rfl rfl rfl HR.out ?_)|(refine ldPackH HRP rfl rfl rfl ?_)|(refine ldPlaceH HRL rfl rfl rfl ?_))
  with_reducible refine (validOwnLines_v p false _ (HD.out.keep HB.out) k1 k2 h3).mono ?_
  rintro e w1 ⟨rfl,hb1⟩;clear x1 x2 x4 x7 x8 x20 x21 HR HRP HRL;replace HX:=hbk hb1 HX;replace HB:=hD (bkeep2 HB.out hb1);clear hb1;obtain ⟨x1,x2,x4,x7,x8,x20,x21⟩:=xs1_2_4_7_8_20_21 HX.out;obtain ⟨HR,HRP,HRL,-⟩:=hrs HX.out
  go_wp2_with (first|(refine ldNr p w.heap.size 0 rfl rfl rfl HR.out ?_)|(refine ldPackH HRP rfl rfl rfl ?_)|(refine ldPlaceH HRL rfl rfl rfl ?_))
  go_ret;exact ⟨rfl,HB.out⟩
 cases h4:p.n.pk.ok
 ·obtain rfl:false=b:=by rw [<- hb];simp only [ndB,h1,h2,h3,h4,Bool.false_and,Bool.true_and]
  clear hb;obtain ⟨x1,x2,x4,x7,x8,x20,x21⟩:=xs1_2_4_7_8_20_21 HX.out;obtain ⟨HR,HRP,HRL,-⟩:=hrs HX.out
  go_enter Tryz.func86,Tryz.ntmps86
  go_wp2_with (first|(refine ldNr p w.heap.size 0 rfl rfl rfl HR.out ?_)|(refine ldPackH HRP rfl rfl rfl ?_)|(refine ldPlaceH HRL rfl rfl rfl ?_))
  with_reducible refine (validWish_w p.n.ww p.n.hh true _ h1).mono ?_
  rintro e wq ⟨rfl,rfl⟩
  go_wp2_with (first|(refine ldNr p w.heap.size 0 rfl rfl rfl HR.out ?_)|(refine ldPackH HRP rfl rfl rfl ?_)|(refine ldPlaceH HRL rfl rfl rfl ?_))
  with_reducible refine (within_w _ 0 2 true _ h2).mono ?_
  rintro e wq ⟨rfl,rfl⟩
  go_wp2_with (first|(refine ldNr p w.heap.size 0 rfl rfl rfl HR.out ?_)|(refine ldPackH HRP rfl rfl rfl ?_)|(refine ldPlaceH HRL rfl rfl rfl ?_))
  with_reducible refine (validOwnLines_v p true _ (HD.out.keep HB.out) k1 k2 h3).mono ?_
  rintro e w1 ⟨rfl,hb1⟩;clear x1 x2 x4 x7 x8 x20 x21 HR HRP HRL;replace HX:=hbk hb1 HX;replace HB:=hD (bkeep2 HB.out hb1);clear hb1;obtain ⟨x1,x2,x4,x7,x8,x20,x21⟩:=xs1_2_4_7_8_20_21 HX.out;obtain ⟨HR,HRP,HRL,-⟩:=hrs HX.out
  go_wp2_with (first|(refine ldNr p w.heap.size 0 rfl rfl rfl HR.out ?_)|(refine ldPackH HRP rfl rfl rfl ?_)|(refine ldPlaceH HRL rfl rfl rfl ?_))
  with_reducible refine (vp_v p.n.pk false h4 _).mono ?_
  rintro e w2 ⟨rfl,hb1⟩;clear x1 x2 x4 x7 x8 x20 x21 HR HRP HRL;replace HX:=hbk hb1 HX;replace HB:=hD (bkeep2 HB.out hb1);clear hb1;obtain ⟨x1,x2,x4,x7,x8,x20,x21⟩:=xs1_2_4_7_8_20_21 HX.out;obtain ⟨HR,HRP,HRL,-⟩:=hrs HX.out
  go_wp2_with (first|(refine ldNr p w.heap.size 0 rfl rfl rfl HR.out ?_)|(refine ldPackH HRP rfl rfl rfl ?_)|(refine ldPlaceH HRL rfl rfl rfl ?_))
  go_ret;exact ⟨rfl,HB.out⟩
 cases h5:decide (p.n.pk.w=0)
 ·obtain rfl:false=b:=by rw [<- hb];simp only [ndB,h1,h2,h3,h4,h5,Bool.false_and,Bool.true_and]
  clear hb;have e5:=eqb_f h5;obtain ⟨x1,x2,x4,x7,x8,x20,x21⟩:=xs1_2_4_7_8_20_21 HX.out;obtain ⟨HR,HRP,HRL,-⟩:=hrs HX.out
  go_enter Tryz.func86,Tryz.ntmps86
  go_wp2_with (first|(refine ldNr p w.heap.size 0 rfl rfl rfl HR.out ?_)|(refine ldPackH HRP rfl rfl rfl ?_)|(refine ldPlaceH HRL rfl rfl rfl ?_))
  with_reducible refine (validWish_w p.n.ww p.n.hh true _ h1).mono ?_
  rintro e wq ⟨rfl,rfl⟩
  go_wp2_with (first|(refine ldNr p w.heap.size 0 rfl rfl rfl HR.out ?_)|(refine ldPackH HRP rfl rfl rfl ?_)|(refine ldPlaceH HRL rfl rfl rfl ?_))
  with_reducible refine (within_w _ 0 2 true _ h2).mono ?_
  rintro e wq ⟨rfl,rfl⟩
  go_wp2_with (first|(refine ldNr p w.heap.size 0 rfl rfl rfl HR.out ?_)|(refine ldPackH HRP rfl rfl rfl ?_)|(refine ldPlaceH HRL rfl rfl rfl ?_))
  with_reducible refine (validOwnLines_v p true _ (HD.out.keep HB.out) k1 k2 h3).mono ?_
  rintro e w1 ⟨rfl,hb1⟩;clear x1 x2 x4 x7 x8 x20 x21 HR HRP HRL;replace HX:=hbk hb1 HX;replace HB:=hD (bkeep2 HB.out hb1);clear hb1;obtain ⟨x1,x2,x4,x7,x8,x20,x21⟩:=xs1_2_4_7_8_20_21 HX.out;obtain ⟨HR,HRP,HRL,-⟩:=hrs HX.out
  go_wp2_with (first|(refine ldNr p w.heap.size 0 rfl rfl rfl HR.out ?_)|(refine ldPackH HRP rfl rfl rfl ?_)|(refine ldPlaceH HRL rfl rfl rfl ?_))
  with_reducible refine (vp_v p.n.pk true h4 _).mono ?_
  rintro e w2 ⟨rfl,hb1⟩;clear x1 x2 x4 x7 x8 x20 x21 HR HRP HRL;replace HX:=hbk hb1 HX;replace HB:=hD (bkeep2 HB.out hb1);clear hb1;obtain ⟨x1,x2,x4,x7,x8,x20,x21⟩:=xs1_2_4_7_8_20_21 HX.out;obtain ⟨HR,HRP,HRL,-⟩:=hrs HX.out
  go_wp2_with (first|(refine ldNr p w.heap.size 0 rfl rfl rfl HR.out ?_)|(refine ldPackH HRP rfl rfl rfl ?_)|(refine ldPlaceH HRL rfl rfl rfl ?_))
  go_ret;exact ⟨rfl,HB.out⟩
 have e5:=eqb_t h5
 cases h6:decide (p.n.pk.h=0)
 ·obtain rfl:false=b:=by rw [<- hb];simp only [ndB,h1,h2,h3,h4,h5,h6,Bool.false_and,Bool.true_and]
  clear hb;have e6:=eqb_f h6;obtain ⟨x1,x2,x4,x7,x8,x20,x21⟩:=xs1_2_4_7_8_20_21 HX.out;obtain ⟨HR,HRP,HRL,-⟩:=hrs HX.out
  go_enter Tryz.func86,Tryz.ntmps86
  go_wp2_with (first|(refine ldNr p w.heap.size 0 rfl rfl rfl HR.out ?_)|(refine ldPackH HRP rfl rfl rfl ?_)|(refine ldPlaceH HRL rfl rfl rfl ?_))
  with_reducible refine (validWish_w p.n.ww p.n.hh true _ h1).mono ?_
  rintro e wq ⟨rfl,rfl⟩
  go_wp2_with (first|(refine ldNr p w.heap.size 0 rfl rfl rfl HR.out ?_)|(refine ldPackH HRP rfl rfl rfl ?_)|(refine ldPlaceH HRL rfl rfl rfl ?_))
  with_reducible refine (within_w _ 0 2 true _ h2).mono ?_
  rintro e wq ⟨rfl,rfl⟩
  go_wp2_with (first|(refine ldNr p w.heap.size 0 rfl rfl rfl HR.out ?_)|(refine ldPackH HRP rfl rfl rfl ?_)|(refine ldPlaceH HRL rfl rfl rfl ?_))
  with_reducible refine (validOwnLines_v p true _ (HD.out.keep HB.out) k1 k2 h3).mono ?_
  rintro e w1 ⟨rfl,hb1⟩;clear x1 x2 x4 x7 x8 x20 x21 HR HRP HRL;replace HX:=hbk hb1 HX;replace HB:=hD (bkeep2 HB.out hb1);clear hb1;obtain ⟨x1,x2,x4,x7,x8,x20,x21⟩:=xs1_2_4_7_8_20_21 HX.out;obtain ⟨HR,HRP,HRL,-⟩:=hrs HX.out
  go_wp2_with (first|(refine ldNr p w.heap.size 0 rfl rfl rfl HR.out ?_)|(refine ldPackH HRP rfl rfl rfl ?_)|(refine ldPlaceH HRL rfl rfl rfl ?_))
  with_reducible refine (vp_v p.n.pk true h4 _).mono ?_
  rintro e w2 ⟨rfl,hb1⟩;clear x1 x2 x4 x7 x8 x20 x21 HR HRP HRL;replace HX:=hbk hb1 HX;replace HB:=hD (bkeep2 HB.out hb1);clear hb1;obtain ⟨x1,x2,x4,x7,x8,x20,x21⟩:=xs1_2_4_7_8_20_21 HX.out;obtain ⟨HR,HRP,HRL,-⟩:=hrs HX.out
  go_wp2_with (first|(refine ldNr p w.heap.size 0 rfl rfl rfl HR.out ?_)|(refine ldPackH HRP rfl rfl rfl ?_)|(refine ldPlaceH HRL rfl rfl rfl ?_))
  go_ret;exact ⟨rfl,HB.out⟩
 have e6:=eqb_t h6
 cases h7:decide (p.n.ce.cw=0)
 ·obtain rfl:false=b:=by rw [<- hb];simp only [ndB,h1,h2,h3,h4,h5,h6,h7,Bool.false_and,Bool.true_and]
  clear hb;have e7:=eqb_f h7;obtain ⟨x1,x2,x4,x7,x8,x20,x21⟩:=xs1_2_4_7_8_20_21 HX.out;obtain ⟨HR,HRP,HRL,-⟩:=hrs HX.out
  go_enter Tryz.func86,Tryz.ntmps86
  go_wp2_with (first|(refine ldNr p w.heap.size 0 rfl rfl rfl HR.out ?_)|(refine ldPackH HRP rfl rfl rfl ?_)|(refine ldPlaceH HRL rfl rfl rfl ?_))
  with_reducible refine (validWish_w p.n.ww p.n.hh true _ h1).mono ?_
  rintro e wq ⟨rfl,rfl⟩
  go_wp2_with (first|(refine ldNr p w.heap.size 0 rfl rfl rfl HR.out ?_)|(refine ldPackH HRP rfl rfl rfl ?_)|(refine ldPlaceH HRL rfl rfl rfl ?_))
  with_reducible refine (within_w _ 0 2 true _ h2).mono ?_
  rintro e wq ⟨rfl,rfl⟩
  go_wp2_with (first|(refine ldNr p w.heap.size 0 rfl rfl rfl HR.out ?_)|(refine ldPackH HRP rfl rfl rfl ?_)|(refine ldPlaceH HRL rfl rfl rfl ?_))
  with_reducible refine (validOwnLines_v p true _ (HD.out.keep HB.out) k1 k2 h3).mono ?_
  rintro e w1 ⟨rfl,hb1⟩;clear x1 x2 x4 x7 x8 x20 x21 HR HRP HRL;replace HX:=hbk hb1 HX;replace HB:=hD (bkeep2 HB.out hb1);clear hb1;obtain ⟨x1,x2,x4,x7,x8,x20,x21⟩:=xs1_2_4_7_8_20_21 HX.out;obtain ⟨HR,HRP,HRL,-⟩:=hrs HX.out
  go_wp2_with (first|(refine ldNr p w.heap.size 0 rfl rfl rfl HR.out ?_)|(refine ldPackH HRP rfl rfl rfl ?_)|(refine ldPlaceH HRL rfl rfl rfl ?_))
  with_reducible refine (vp_v p.n.pk true h4 _).mono ?_
  rintro e w2 ⟨rfl,hb1⟩;clear x1 x2 x4 x7 x8 x20 x21 HR HRP HRL;replace HX:=hbk hb1 HX;replace HB:=hD (bkeep2 HB.out hb1);clear hb1;obtain ⟨x1,x2,x4,x7,x8,x20,x21⟩:=xs1_2_4_7_8_20_21 HX.out;obtain ⟨HR,HRP,HRL,-⟩:=hrs HX.out
  go_wp2_with (first|(refine ldNr p w.heap.size 0 rfl rfl rfl HR.out ?_)|(refine ldPackH HRP rfl rfl rfl ?_)|(refine ldPlaceH HRL rfl rfl rfl ?_))
  go_ret;exact ⟨rfl,HB.out⟩
 have e7:=eqb_t h7
 cases h8:decide (p.n.ce.ch=0)
 ·obtain rfl:false=b:=by rw [<- hb];simp only [ndB,h1,h2,h3,h4,h5,h6,h7,h8,Bool.false_and,Bool.true_and]
  clear hb;have e8:=eqb_f h8;obtain ⟨x1,x2,x4,x7,x8,x20,x21⟩:=xs1_2_4_7_8_20_21 HX.out;obtain ⟨HR,HRP,HRL,-⟩:=hrs HX.out
  go_enter Tryz.func86,Tryz.ntmps86
  go_wp2_with (first|(refine ldNr p w.heap.size 0 rfl rfl rfl HR.out ?_)|(refine ldPackH HRP rfl rfl rfl ?_)|(refine ldPlaceH HRL rfl rfl rfl ?_))
  with_reducible refine (validWish_w p.n.ww p.n.hh true _ h1).mono ?_
  rintro e wq ⟨rfl,rfl⟩
  go_wp2_with (first|(refine ldNr p w.heap.size 0 rfl rfl rfl HR.out ?_)|(refine ldPackH HRP rfl rfl rfl ?_)|(refine ldPlaceH HRL rfl rfl rfl ?_))
  with_reducible refine (within_w _ 0 2 true _ h2).mono ?_
  rintro e wq ⟨rfl,rfl⟩
  go_wp2_with (first|(refine ldNr p w.heap.size 0 rfl rfl rfl HR.out ?_)|(refine ldPackH HRP rfl rfl rfl ?_)|(refine ldPlaceH HRL rfl rfl rfl ?_))
  with_reducible refine (validOwnLines_v p true _ (HD.out.keep HB.out) k1 k2 h3).mono ?_
  rintro e w1 ⟨rfl,hb1⟩;clear x1 x2 x4 x7 x8 x20 x21 HR HRP HRL;replace HX:=hbk hb1 HX;replace HB:=hD (bkeep2 HB.out hb1);clear hb1;obtain ⟨x1,x2,x4,x7,x8,x20,x21⟩:=xs1_2_4_7_8_20_21 HX.out;obtain ⟨HR,HRP,HRL,-⟩:=hrs HX.out
  go_wp2_with (first|(refine ldNr p w.heap.size 0 rfl rfl rfl HR.out ?_)|(refine ldPackH HRP rfl rfl rfl ?_)|(refine ldPlaceH HRL rfl rfl rfl ?_))
  with_reducible refine (vp_v p.n.pk true h4 _).mono ?_
  rintro e w2 ⟨rfl,hb1⟩;clear x1 x2 x4 x7 x8 x20 x21 HR HRP HRL;replace HX:=hbk hb1 HX;replace HB:=hD (bkeep2 HB.out hb1);clear hb1;obtain ⟨x1,x2,x4,x7,x8,x20,x21⟩:=xs1_2_4_7_8_20_21 HX.out;obtain ⟨HR,HRP,HRL,-⟩:=hrs HX.out
  go_wp2_with (first|(refine ldNr p w.heap.size 0 rfl rfl rfl HR.out ?_)|(refine ldPackH HRP rfl rfl rfl ?_)|(refine ldPlaceH HRL rfl rfl rfl ?_))
  go_ret;exact ⟨rfl,HB.out⟩
 have e8:=eqb_t h8
 have h9:plB p.n.pl=b:=by rw [<- hb];simp only [ndB,h1,h2,h3,h4,h5,h6,h7,h8,Bool.true_and]
 clear hb
 cases b
 all_goals
  obtain ⟨x1,x2,x4,x7,x8,x20,x21⟩:=xs1_2_4_7_8_20_21 HX.out;obtain ⟨HR,HRP,HRL,-⟩:=hrs HX.out
  go_enter Tryz.func86,Tryz.ntmps86
  go_wp2_with (first|(refine ldNr p w.heap.size 0 rfl rfl rfl HR.out ?_)|(refine ldPackH HRP rfl rfl rfl ?_)|(refine ldPlaceH HRL rfl rfl rfl ?_))
  with_reducible refine (validWish_w p.n.ww p.n.hh true _ h1).mono ?_
  rintro e wq ⟨rfl,rfl⟩
  go_wp2_with (first|(refine ldNr p w.heap.size 0 rfl rfl rfl HR.out ?_)|(refine ldPackH HRP rfl rfl rfl ?_)|(refine ldPlaceH HRL rfl rfl rfl ?_))
  with_reducible refine (within_w _ 0 2 true _ h2).mono ?_
  rintro e wq ⟨rfl,rfl⟩
  go_wp2_with (first|(refine ldNr p w.heap.size 0 rfl rfl rfl HR.out ?_)|(refine ldPackH HRP rfl rfl rfl ?_)|(refine ldPlaceH HRL rfl rfl rfl ?_))
  with_reducible refine (validOwnLines_v p true _ (HD.out.keep HB.out) k1 k2 h3).mono ?_
  rintro e w1 ⟨rfl,hb1⟩;clear x1 x2 x4 x7 x8 x20 x21 HR HRP HRL;replace HX:=hbk hb1 HX;replace HB:=hD (bkeep2 HB.out hb1);clear hb1;obtain ⟨x1,x2,x4,x7,x8,x20,x21⟩:=xs1_2_4_7_8_20_21 HX.out;obtain ⟨HR,HRP,HRL,-⟩:=hrs HX.out
  go_wp2_with (first|(refine ldNr p w.heap.size 0 rfl rfl rfl HR.out ?_)|(refine ldPackH HRP rfl rfl rfl ?_)|(refine ldPlaceH HRL rfl rfl rfl ?_))
  with_reducible refine (vp_v p.n.pk true h4 _).mono ?_
  rintro e w2 ⟨rfl,hb1⟩;clear x1 x2 x4 x7 x8 x20 x21 HR HRP HRL;replace HX:=hbk hb1 HX;replace HB:=hD (bkeep2 HB.out hb1);clear hb1;obtain ⟨x1,x2,x4,x7,x8,x20,x21⟩:=xs1_2_4_7_8_20_21 HX.out;obtain ⟨HR,HRP,HRL,-⟩:=hrs HX.out
  go_wp2_with (first|(refine ldNr p w.heap.size 0 rfl rfl rfl HR.out ?_)|(refine ldPackH HRP rfl rfl rfl ?_)|(refine ldPlaceH HRL rfl rfl rfl ?_))
  with_reducible refine (validPlace_t p.n.pl _ _ h9).mono ?_
  rintro e w3 ⟨rfl,hb1⟩;clear x1 x2 x4 x7 x8 x20 x21 HR HRP HRL;replace HX:=hbk hb1 HX;replace HB:=hD (bkeep2 HB.out hb1);clear hb1;obtain ⟨x1,x2,x4,x7,x8,x20,x21⟩:=xs1_2_4_7_8_20_21 HX.out;obtain ⟨HR,HRP,HRL,-⟩:=hrs HX.out
  go_wp2_with (first|(refine ldNr p w.heap.size 0 rfl rfl rfl HR.out ?_)|(refine ldPackH HRP rfl rfl rfl ?_)|(refine ldPlaceH HRL rfl rfl rfl ?_))
  go_ret;exact ⟨rfl,HB.out⟩
def upB (i:Nat) (n:Nd):Bool:=if i=0 then decide (n.pa=-1) else rng n.pa 0 ((i:Int)-1)
def clB (L:List Nd) (i:Nat) (n:Nd):Bool:=if i=0 then true else match L[n.pa.toNat]? with
 | some u=>decide (u.ki≠1) || cellB u.cs.length u.rs.length n.ce
 | none=>true
def nokB (L:List Nd) (i:Nat):Bool:=match L[i]? with
 | some n=>ndB n&&(upB i n&&clB L i n)
 | none=>true
def treeB (L:List Nd):Bool:=rng L.length 1 10&&(List.range L.length).all (nokB L)
theorem nokB_at {L:List Nd} {i:Nat} {n:Nd} (h:L[i]?=some n):nokB L i=(ndB n&&(upB i n&&clB L i n)):=by unfold nokB;rw [h]
theorem range_all_succ {f:Nat→Bool} {k:Nat}:(List.range (k+1)).all f=((List.range k).all f&&f k):=by
 rw [List.range_succ,List.all_append];simp
theorem own_lines {n:Nd} (h:ndB n=true) (hk:n.ki=1):linesB n.cs=true∧linesB n.rs=true:=by
 simp only [ndB,Bool.and_eq_true] at h
 have:=h.2.2.1
 unfold ownB at this;rw [if_pos hk] at this
 simpa [Bool.and_eq_true] using this
theorem hasParentAhead_v (A:Option Addr) (c:Nat) (R:List Nr) (i:Nat) (p:Nr) (b:Bool) (w:World) (h:NrV w A R) (hp:R[i]?=some p) (hL:R.length≤10) (hb:upB i p.n=b) :
  Calls Tryz.prog 87 #[.agg #[.slice A R.length c],.int .i64 i] w fun e w'=>e=.returned (.bool b)∧Below w.heap.size w w':=by
 have hi:i<R.length:=(List.getElem?_eq_some_iff.1 hp).1;obtain ⟨bl,off,rfl,hbl,hc⟩:=h.cells (by omega);have x0:w.cell? ⟨bl,off+i*34,none⟩=some (.int .i64 p.n.pa):=hc i p hp 0 _ rfl
 have hii:(i:Int)<(R.length:Int):=by omega
 have hne:¬ bl=w.heap.size:=by omega
 unfold upB at hb;clear hc h hp
 by_cases h0:i=0
 ·subst h0;rw [if_pos rfl] at hb;simp only [Nat.zero_mul,Nat.add_zero] at x0
  have hlr:(0:Int)<(R.length:Int):=by omega
  clear hii
  have e1:(p.n.pa == -1)=b:=by rw [<- hb];rfl
  have HE:=hD e1;clear hb e1
  go_enter Tryz.func87,Tryz.ntmps87
  go_wp2;go_ret;exact ⟨ret_bool HE.out,balloc (Below.refl _ _)⟩
 ·rw [if_neg h0] at hb
  have e0:((i:Int) == 0)=false:=by rw [beq_eq_false_iff_ne];omega
  have e0':decide ((i:Int)=0)=false:=decide_eq_false (by omega)
  go_enter Tryz.func87,Tryz.ntmps87
  go_wp2_with fail
  with_reducible refine (within_w p.n.pa 0 ((i:Int)-1) b _ hb).mono ?_
  rintro e w' ⟨rfl,rfl⟩;go_wp2;go_ret;exact ⟨rfl,balloc (Below.refl _ _)⟩
theorem hasValidCell_0 (A:Option Addr) (c n:Nat) (w:World) :
  Calls Tryz.prog 88 #[.agg #[.slice A n c],.int .i64 0] w fun e w'=>e=.returned (.bool true)∧Below w.heap.size w w':=by
 go_enter Tryz.func88,Tryz.ntmps88
 go_wp2;go_ret;exact ⟨rfl,balloc (Below.refl _ _)⟩
theorem hasValidCell_s (A:Option Addr) (c:Nat) (R:List Nr) (i m:Nat) (p u:Nr) (b:Bool) (w:World) (h:NrV w A R) (hp:R[i]?=some p) (hL:R.length≤10) (h0:i≠0) (hpa:p.n.pa=m) (hm:m<i) (hu:R[m]?=some u)
  (hl:u.n.ki=1→(1≤u.n.cs.length∧u.n.cs.length≤5)∧(1≤u.n.rs.length∧u.n.rs.length≤5)) (hb:(decide (u.n.ki≠1) || cellB u.n.cs.length u.n.rs.length p.n.ce)=b) :
  Calls Tryz.prog 88 #[.agg #[.slice A R.length c],.int .i64 i] w fun e w'=>e=.returned (.bool b)∧Below w.heap.size w w':=by
 have hi:i<R.length:=(List.getElem?_eq_some_iff.1 hp).1;obtain ⟨bl,off,rfl,hbl,hc⟩:=h.cells (by omega);have hB0:Below w.heap.size w (w.alloc (.cells #[.slice (some ⟨bl,off,none⟩) R.length c] 30 (0,0))):=balloc (Below.refl _ _);have HX:=hD (newS w (.cells #[.slice (some ⟨bl,off,none⟩) R.length c] 30 (0,0)));have HP:=hD (rangeB (hc i p hp) (hB0.block bl hbl))
 have HU:=hD (rangeB (hc m u hu) (hB0.block bl hbl));have HB:=hD hB0
 have hii:(i:Int)<(R.length:Int):=by omega
 have hmm:(m:Int)<(R.length:Int):=by omega
 have e0:((i:Int) == 0)=false:=by rw [beq_eq_false_iff_ne];omega
 have e0':decide ((i:Int)=0)=false:=decide_eq_false (by omega);have HPA:=hD hpa;have HBB:=hD hb;have HLL:=hD hl;clear hc h hp hu hpa hb hl hB0
 go_enter Tryz.func88,Tryz.ntmps88
 go_upto_region 3 with (fail)
 refine wp_genGG (fun W=>W.heap[w.heap.size]?=some (.cells #[.slice (some ⟨bl,off,none⟩) R.length c] 30 (0,0))∧W.rangeAt bl (off+i*34) (valsNr p)∧W.rangeAt bl (off+m*34) (valsNr u)∧Below w.heap.size w W∧bl<W.heap.size) ⟨HX.out,HP.out,HU.out,HB.out,by simp;omega⟩ (fun W h0=>?_);clear HX HP HU HB;obtain ⟨hx,hp,hu,hb,hbw⟩:=h0;have x0:=cellS hx 0
 have q0:W.cell? ⟨bl,off+i*34,none⟩=some (.int .i64 (m:Int)):=by rw [<- HPA.out];exact hp 0 _ rfl
 have lx:=ltS hx;have HX:=hD hx;have HP:=hD hp;have HU:=hD hu;have HB:=hD hb;clear hx hp hu hb;refine wp_region_grow 10 2 (·<11) (by kernel_rfl) (by kernel_rfl) rfl ?_
 iterate 10 (refine wpG_step (fun K hK=>?_);first|(refine grow_ldN _ u bl (off+m*34) rfl rfl rfl hbw (rangeB HU.out rfl) ?_;refine hK _ ?_;clear hK K)|(apply Exists.intro;refine ⟨.inl ⟨rfl,fun w' hw'=>?_⟩,?_⟩;(focus ((obtain ⟨hc,hf⟩:=bcell hw'.out);(have hcS:=bcellS hw'.out);go_simp <;> rfl));(go_simp;refine hK _ ?_;clear hK K)))
 refine wpG_nil ?_;refine wpK_one (i:=10) (by kernel_rfl) rfl rfl (by kernel_rfl) (fun w5 h5=>?_);go_simp;refine ⟨Gr.alloc _ _,?_⟩;refine wpK_tail (by kernel_rfl) (fun w9 h9=>?_);refine wpAny_one (i:=11) (by kernel_rfl) rfl rfl ?_;have hnew:=(h9.out.block w5.heap.size (by simp)).trans (newS w5 _)
 refine wp_store_mid 90 (.tmp 5) (.tmp 17) rfl w5.heap.size 0 (valsNr u).toArray rfl rfl (thereB hnew (by show (0+34:Nat)≤34;omega)) (by kernel_rfl) (valsNr_all u) ?_;refine wpAny_end (by kernel_rfl) ?_
 have hfull:(w9.setCells w5.heap.size 0 (valsNr u)).heap[w5.heap.size]?=some (.cells (valsNr u).toArray 90 (0,0)):=by
  rw [heap_setCells (valsNr u) 0 w9 _ hnew,wrAt_all (by rfl)]
 have hlow:W.heap.size≤w5.heap.size:=h5.out.size
 have hbel:Below W.heap.size W (w9.setCells w5.heap.size 0 (valsNr u)) :=
  below_setCells hlow _ _ _ (bgrow (balloc (bgrow (Below.refl _ _).drew h5)) h9)
 refine NoPan.gen (fun wf=>W.heap.size≤w5.heap.size∧wf.heap[w5.heap.size]?=some (.cells (valsNr u).toArray 90 (0,0))∧Below W.heap.size W wf) ⟨hlow,hfull,hbel⟩ (fun wf hwf=>?_);clear hnew hfull hlow hbel h9
 obtain ⟨b5,hb5⟩:∃ b5,w5.heap.size=b5:=⟨_,rfl⟩
 simp only [hb5] at hwf ⊢;clear hb5 h5 w5 w9;obtain ⟨hlow,hh5,hB⟩:=hwf;replace HX:=hD ((hB.block _ lx).trans HX.out);replace HP:=hD (rangeB HP.out (hB.block _ hbw));replace HB:=hD (bkeep2 HB.out hB);have hbw2:bl<wf.heap.size:=Nat.lt_of_lt_of_le hbw hB.size;have H5:=hD hh5;clear x0 q0 HU hh5 hB hbw;have x0:=cellS HX.out 0;have lx2:=ltS HX.out
 have k4:wf.cell? ⟨b5,4,none⟩=some (.int .i64 u.n.ki):=cellS H5.out 4;have k5:wf.cell? ⟨b5,5,none⟩=some (.slice u.ca u.n.cs.length u.cc):=cellS H5.out 5;have k6:wf.cell? ⟨b5,6,none⟩=some (.slice u.ra u.n.rs.length u.rc):=cellS H5.out 6;have l5:=ltS H5.out
 by_cases hk:u.n.ki=1
 ·have hb':cellB u.n.cs.length u.n.rs.length p.n.ce=b:=by rw [<- HBB.out];simp [hk]
  obtain ⟨⟨l1,l2⟩,l3,l4⟩:=HLL.out hk;rw [hk] at k4;have hce:=node_ce HP.out;have HCE:=hD hce;have HBR:=hD hb';clear hk hce hb' HBB HLL
  go_upto_region 4 with (fail)
  refine wp_region_grow 18 1 (·<18) (by kernel_rfl) (by kernel_rfl) rfl ?_
  iterate 18 (refine wpG_step (fun K hK=>?_);first|(refine grow_loadM 87 _ [.int .i64 p.n.ce.co,.int .i64 p.n.ce.ro,.int .i64 p.n.ce.mc,.int .i64 p.n.ce.mr,.int .i64 p.n.ce.cw,.int .i64 p.n.ce.ch,.int .i64 p.n.ce.sk,.int .i64 p.n.ce.px,.int .i64 p.n.ce.py] bl (off+i*34+16) rfl rfl rfl Tryz.underlying87 rfl (by kernel_rfl) (fun w' hw'=>rangeB HCE.out (hw'.out.block bl hbw2)) ?_;refine hK _ ?_;clear hK K)|(refine grow_skip rfl ?_;go_simp;refine hK _ ?_;clear hK K)|(apply Exists.intro;refine ⟨.inl ⟨rfl,fun w' hw'=>?_⟩,?_⟩;(focus ((obtain ⟨hc,hf⟩:=bcell hw'.out);(have hcS:=bcellS hw'.out);go_simp <;> first | rfl|(go_at_call 126;exact validCell_v p.n.ce u.n.cs.length u.n.rs.length b _ (by omega) (by omega) (by omega) (by omega) HBR.out)));(go_simp;refine hK _ ?_;clear hK K)))
  refine wpG_nil ?_;refine wpK_tail (by kernel_rfl) (fun w9 hg9=>?_);have hb9:=bdrewn hg9.out;obtain ⟨hc9,hf9⟩:=bcell hb9;refine wpAny_one (i:=18) (by kernel_rfl) rfl rfl ?_;go_simp;refine wpAny_end (by kernel_rfl) ?_;refine NoPan.thn ?_;clear hc9 hf9;clear hg9;replace HB:=hD (bkeep2 HB.out hb9);clear hb9;go_wp2;go_ret;exact ⟨rfl,HB.out⟩
 ·have hb':true=b:=by rw [<- HBB.out];simp [hk]
  subst hb'
  have f1:(u.n.ki == 1)=false:=by rw [beq_eq_false_iff_ne];exact hk
  have f2:(u.n.ki != 1)=true:=by simp [bne,f1]
  have f3:decide (u.n.ki=1)=false:=decide_eq_false hk;have HK:=hD hk;clear hk HBB HLL
  go_upto_region 4 with (fail)
  refine wp_region_grow 18 1 (·<18) (by kernel_rfl) (by kernel_rfl) rfl ?_
  iterate 18 (refine wpG_step (fun K hK=>?_);first|(refine grow_skip rfl ?_;go_simp;refine hK _ ?_;clear hK K)|(apply Exists.intro;refine ⟨.inl ⟨rfl,fun w' hw'=>?_⟩,?_⟩;(focus ((obtain ⟨hc,hf⟩:=bcell hw'.out);(have hcS:=bcellS hw'.out);go_simp <;> first | rfl|(fail)));(go_simp;refine hK _ ?_;clear hK K)))
  refine wpG_nil ?_;refine wpK_tail (by kernel_rfl) (fun w8 hg8=>?_);have hb8:=bdrewn hg8.out;obtain ⟨hc8,hf8⟩:=bcell hb8;refine wpAny_one (i:=18) (by kernel_rfl) rfl rfl ?_;go_simp;refine wpAny_end (by kernel_rfl) ?_;refine NoPan.thn ?_;clear hc8 hf8;clear hg8;replace HB:=hD (bkeep2 HB.out hb8);clear hb8;go_wp2;go_ret;exact ⟨rfl,HB.out⟩
section
attribute [local go_sem] Oper.semAt_some
theorem tree_nok {L:List Nd} (h:treeB L=true) {k:Nat} {n:Nd} (hn:L[k]?=some n):ndB n=true∧upB k n=true∧clB L k n=true:=by
 unfold treeB at h;rw [Bool.and_eq_true] at h;have hk:k<L.length:=(List.getElem?_eq_some_iff.1 hn).1
 have:=List.all_eq_true.1 h.2 k (List.mem_range.2 hk)
 rw [nokB_at hn,Bool.and_eq_true,Bool.and_eq_true] at this;exact this
theorem tree_len {L:List Nd} (h:treeB L=true):1≤L.length∧L.length≤10:=by
 unfold treeB at h;rw [Bool.and_eq_true,rng_iff] at h;omega
end
theorem new_full {w:World} {o:Obj} {cs:Array Value} {T:TypeId} (p:Nr) (ho:o=.cells cs T (0,0)) (hs:cs.size=34):((w.alloc o).setCells w.heap.size 0 (valsNr p)).heap[w.heap.size]?=some (.cells (valsNr p).toArray T (0,0)):=by
 subst ho;rw [heap_setCells (valsNr p) 0 _ _ (newS w _),wrAt_all (by rw [hs];rfl)]
theorem nok_kids {R:List Nr} {k:Nat} {p:Nr} (hall:(List.range k).all (nokB (R.map Nr.n))=true) (hp:R[k]?=some p) (hup:upB k p.n=true) (h0:k≠0) :
  ∃ (m:Nat) (u:Nr),p.n.pa=m∧m<k∧R[m]?=some u∧(u.n.ki=1→(1≤u.n.cs.length∧u.n.cs.length≤5)∧(1≤u.n.rs.length∧u.n.rs.length≤5))∧clB (R.map Nr.n) k p.n=(decide (u.n.ki≠1) || cellB u.n.cs.length u.n.rs.length p.n.ce):=by
 unfold upB at hup;rw [if_neg h0,rng_iff] at hup;obtain ⟨m,hm⟩:=Int.eq_ofNat_of_zero_le hup.1
 have hmk:m<k:=by omega
 have hkl:=(List.getElem?_eq_some_iff.1 hp).1
 have hml:m<R.length:=by omega
 have hu:R[m]?=some R[m]:=List.getElem?_eq_getElem hml;refine ⟨m,R[m],hm,hmk,hu,fun hk=>?_,?_⟩
 ·have h1:=List.all_eq_true.1 hall m (List.mem_range.2 hmk);rw [nokB_at (n:=(R[m]).n) (by rw [List.getElem?_map,hu];rfl)] at h1;simp only [Bool.and_eq_true] at h1;obtain ⟨l1,l2⟩:=own_lines h1.1 hk;exact ⟨linesB_len' l1,linesB_len' l2⟩
 ·unfold clB;rw [if_neg h0,hm];simp only [Int.toNat_natCast];rw [List.getElem?_map,hu]
  rfl
theorem ValidTree_v (A:Option Addr) (c:Nat) (R:List Nr) (b:Bool) (w:World) (h:NrV w A R) (hr:RdR w R) (hL:R.length≤1048576) (hm:∀ p∈R,p.n.cs.length≤1048576∧p.n.rs.length≤1048576) (hb:treeB (R.map Nr.n)=b) :
  Calls Tryz.prog 58 #[.agg #[.slice A R.length c]] w fun e w'=>e=.returned (.bool b)∧Below w.heap.size w w':=by
 have hB0:Below w.heap.size w (w.alloc (.cells #[.slice A R.length c] 30 (0,0))):=balloc (Below.refl _ _);have HX:=hD (newS w (.cells #[.slice A R.length c] 30 (0,0)));have HB:=hD hB0;have HV:=hD (h.keep hB0);have HR:=hD (hr.keep hB0);have HM:=hD hm;have x0:=cellS HX.out 0;have lx:=ltS HX.out;clear hB0 h hr hm
 cases hl:rng R.length 1 10
 ·obtain rfl:false=b:=by rw [<- hb];unfold treeB;rw [List.length_map,hl];rfl
  go_enter Tryz.func58,Tryz.ntmps58
  go_wp2_with fail
  with_reducible refine (within_w _ 1 10 false _ hl).mono ?_
  rintro e w' ⟨rfl,rfl⟩;go_wp2;go_ret;exact ⟨rfl,HB.out⟩
 ·have hl2:1≤R.length∧R.length≤10:=by rw [rng_iff] at hl;omega
  have hb2:(List.range R.length).all (nokB (R.map Nr.n))=b:=by rw [<- hb];unfold treeB;rw [List.length_map,hl];rfl
  have HBB:=hD hb2;clear hb hb2;obtain ⟨hl3,hl4⟩:=hl2
  go_enter Tryz.func58,Tryz.ntmps58
  go_wp2_with fail
  with_reducible refine (within_w _ 1 10 true _ hl).mono ?_
  rintro e w' ⟨rfl,rfl⟩
  go_wp2_with fail
  go_loopw [13] (fun i wr=>∃ k:Nat,k≤R.length∧i=.int .i64 k∧(List.range k).all (nokB (R.map Nr.n))=true∧wr.heap[w.heap.size]?=some (.cells #[.slice A R.length c] 30 (0,0))∧NrV wr A R∧RdR wr R∧Below w.heap.size w wr) (fun i _=>R.length-(intOf i).toNat)
  case atStart=>exact ⟨0,by omega,rfl,rfl,HX.out,HV.out,HR.out,HB.out⟩
  case round =>
   obtain ⟨k,hk,rfl,hall,hx,hv,hr,hB⟩:=hrel;clear HX HV HR HB x0 lx
   by_cases hlt:k<R.length
   ·have hd:decide ((k:Int)<(R.length:Int))=true:=by simpa using hlt
    have hget:R[k]?=some R[k]:=List.getElem?_eq_getElem hlt;obtain ⟨bl,off,rfl,hbl,hp⟩:=hv.cells (by omega);have hLR:=hp k _ hget;have hrd:=hr _ (List.mem_of_getElem? hget);have hmm:=HM.out _ (List.mem_of_getElem? hget);generalize R[k]=p at *;obtain ⟨m1,m2⟩:=hmm;have hnb:nokB (R.map Nr.n) k=(ndB p.n&&(upB k p.n&&clB (R.map Nr.n) k p.n)):=nokB_at (by rw [List.getElem?_map,hget];rfl)
    have HNB:=hD hnb;have HLR:=hD hLR;have HG:=hD hget;have HALL:=hD hall;have HX:=hD hx;have HV:=hD hv;have HR:=hD hr;have HD:=hD hrd;have HB:=hD hB;have lx:=ltS hx;clear hget hp hLR hrd hall hx hv hr hB hnb
    go_upto_region 6 with (first|(refine ldN _ p bl (off+k*34) rfl rfl rfl HLR.out ?_)|(refine stN (.tmp 4) (.tmp 17) p wr.heap.size 0 rfl rfl rfl rfl (newS _ _) (by show (0+34:Nat)≤34;omega) ?_))
    refine wp_genGG (fun W=>W.heap[wr.heap.size]?=some (.cells (valsNr p).toArray 90 (0,0))∧Below wr.heap.size wr W) ⟨new_full p rfl rfl,below_setCells (Nat.le_refl _) _ _ _ (balloc (Below.refl _ _))⟩ (fun W h0=>?_);obtain ⟨hn,hb⟩:=h0;replace HX:=hD ((hb.block _ lx).trans HX.out);replace HV:=hD (HV.out.keep hb);replace HR:=hD (HR.out.keep hb);replace HD:=hD (HD.out.keep hb)
    replace HB:=hD (bkeep2 HB.out hb);have HN:=hD hn;clear hn hb lx HLR
    cases h1:ndB p.n
    ·go_wp2_with (refine ldN _ p wr.heap.size 0 rfl rfl rfl (nodeAt HN.out) ?_)
     with_reducible refine (validNode_v p false _ HD.out m1 m2 h1).mono ?_
     rintro e w1 ⟨rfl,hb⟩;replace HB:=hD (bkeep2 HB.out hb);clear hb;go_wp2;go_ret;exact ⟨ret_bool (by rw [<- HBB.out];exact (all_falseG (k:=k) (p:=k) (by rw [List.getElem?_range (by omega)]) (by rw [HNB.out,h1];rfl)).symm),HB.out⟩
    ·have hx0:=cellS HX.out 0
     go_wp2_with (refine ldN _ p wr.heap.size 0 rfl rfl rfl (nodeAt HN.out) ?_)
     with_reducible refine (validNode_v p true _ HD.out m1 m2 h1).mono ?_
     rintro e w1 ⟨rfl,hb⟩;clear hx0;replace HX:=hbk hb HX;replace HV:=hD (HV.out.keep hb);replace HR:=hD (HR.out.keep hb);replace HB:=hD (bkeep2 HB.out hb);clear hb;have hx0:=cellS HX.out 0
     cases h2:upB k p.n
     ·go_wp2_with fail
      with_reducible refine (hasParentAhead_v _ c R k p false _ HV.out HG.out hl4 h2).mono ?_
      rintro e w2 ⟨rfl,hb⟩;clear hx0;replace HB:=hD (bkeep2 HB.out hb);clear hb;go_wp2;go_ret;exact ⟨ret_bool (by rw [<- HBB.out];exact (all_falseG (k:=k) (p:=k) (by rw [List.getElem?_range (by omega)]) (by rw [HNB.out,h1,h2];rfl)).symm),HB.out⟩
     ·go_wp2_with fail
      with_reducible refine (hasParentAhead_v _ c R k p true _ HV.out HG.out hl4 h2).mono ?_
      rintro e w2 ⟨rfl,hb⟩;clear hx0;replace HX:=hbk hb HX;replace HV:=hD (HV.out.keep hb);replace HR:=hD (HR.out.keep hb);replace HB:=hD (bkeep2 HB.out hb);clear hb;have hx0:=cellS HX.out 0
      have hcv:∀ cb,clB (R.map Nr.n) k p.n=cb→Calls Tryz.prog 88 #[.agg #[.slice (some ⟨bl,off,none⟩) R.length c],.int .i64 k] w2 fun e w'=>e=.returned (.bool cb)∧Below w2.heap.size w2 w':=by
       intro cb hcb
       by_cases hz:k=0
       ·subst hz
        obtain rfl:true=cb:=by rw [<- hcb];rfl
        exact hasValidCell_0 _ _ _ _
       ·obtain ⟨m,u,e1,e2,e3,e4,e5⟩:=nok_kids HALL.out HG.out h2 hz;exact hasValidCell_s _ c R k m p u cb _ HV.out HG.out hl4 hz e1 e2 e3 e4 (by rw [<- e5];exact hcb)
      cases h3:clB (R.map Nr.n) k p.n
      ·have HC:=hD (hcv false h3);clear hcv
       go_wp2_with fail
       with_reducible refine (HC.out).mono ?_
       rintro e w3 ⟨rfl,hb⟩;clear hx0 HC;replace HB:=hD (bkeep2 HB.out hb);clear hb;go_wp2;go_ret;exact ⟨ret_bool (by rw [<- HBB.out];exact (all_falseG (k:=k) (p:=k) (by rw [List.getElem?_range (by omega)]) (by rw [HNB.out,h1,h2,h3];rfl)).symm),HB.out⟩
      ·have HC:=hD (hcv true h3);clear hcv
       go_wp2_with fail
       with_reducible refine (HC.out).mono ?_
       rintro e w3 ⟨rfl,hb⟩;clear hx0 HC;replace HX:=hbk hb HX;replace HV:=hD (HV.out.keep hb);replace HR:=hD (HR.out.keep hb);replace HB:=hD (bkeep2 HB.out hb);clear hb;go_wp2
       go_roundw
       case rel=>exact ⟨k+1,by omega,by go_num,by rw [range_all_succ,HALL.out,HNB.out,h1,h2,h3];rfl,HX.out,HV.out,HR.out,HB.out⟩
       case measure=>simp [intOf];omega
   ·have hd:decide ((k:Int)<(R.length:Int))=false:=decide_eq_false (by omega)
    obtain rfl:k=R.length:=by omega
    have HB:=hD hB;have HALL:=hD hall;clear hx hv hr hB hall;go_wp2;go_ret;exact ⟨ret_bool (by rw [<- HBB.out,HALL.out]),HB.out⟩
def spB (n:Nd):Bool:=rng n.ww 0 30&&(rng n.hh 0 30&&(rng n.ki 0 2&&(n.pk.ok&&(decide (n.pk.w=0)&&(decide (n.pk.h=0)&&(plB n.pl&&(decide (n.ce.cw=0)&&decide (n.ce.ch=0))))))))
theorem nd_sp (n:Nd):ndB n=(spB n&&ownB n):=by
 unfold ndB spB;generalize rng n.ww 0 30=a1;generalize rng n.hh 0 30=a2;generalize rng n.ki 0 2=a3;generalize ownB n=a4;generalize n.pk.ok=a5;generalize decide (n.pk.w=0)=a6;generalize decide (n.pk.h=0)=a7;generalize decide (n.ce.cw=0)=a8;generalize decide (n.ce.ch=0)=a9;generalize plB n.pl=b1
 cases a1 <;> cases a2 <;> cases a3 <;> cases a4 <;> cases a5 <;> cases a6 <;> cases a7 <;> cases a8 <;> cases a9 <;> cases b1 <;> rfl
theorem neb_t {x:Int} (h:decide (x=0)=true):(x != 0)=false:=by simp [bne,eqb_t h]
theorem neb_f {x:Int} (h:decide (x=0)=false):(x != 0)=true:=by simp [bne,eqb_f h]
theorem svalidNode_no (A:Option Addr) (c:Nat) (R:List Nr) (i:Nat) (p:Nr) (w:World) (h:NrV w A R) (hr:RdR w R) (hp:R[i]?=some p) (hL:R.length≤1048576) (hm:∀ p∈R,p.n.cs.length≤1048576∧p.n.rs.length≤1048576) (hb:spB p.n=false) :
  Calls Tryz.prog 70 #[.agg #[.slice A R.length c],.int .i64 i] w fun e w'=>e=.returned (.bool false)∧Below w.heap.size w w':=by
 have hi:i<R.length:=(List.getElem?_eq_some_iff.1 hp).1
 have hii:(i:Int)<(R.length:Int):=by omega
 have hmp:=hm p (List.mem_of_getElem? hp);obtain ⟨mp1,mp2⟩:=hmp;obtain ⟨bl,off,rfl,hbl,hc⟩:=h.cells (by omega);have hB0:Below w.heap.size w (w.alloc (.cells #[.slice (some ⟨bl,off,none⟩) R.length c] 30 (0,0))):=balloc (Below.refl _ _);have HX:=hD (newS w (.cells #[.slice (some ⟨bl,off,none⟩) R.length c] 30 (0,0)));have HLR:=hD (rangeB (hc i p hp) (hB0.block bl hbl));have HV:=hD (h.keep hB0)
 have HR:=hD (hr.keep hB0);have HB:=hD hB0;have HM:=hD hm;have HG:=hD hp;clear hc h hr hm hp hB0
 go_enter Tryz.func70,Tryz.ntmps70
 go_upto_region 2 with (first|(refine ldN _ p bl (off+i*34) rfl rfl rfl HLR.out ?_)|(refine stN (.tmp 5) (.tmp 11) p (w.heap.size+1) 0 rfl rfl rfl rfl (newS1T _ _ _) (by show (0+34:Nat)≤34;omega) ?_))
 refine wp_genGG (fun W=>W.heap[w.heap.size]?=some (.cells #[.slice (some ⟨bl,off,none⟩) R.length c] 30 (0,0))∧W.heap[w.heap.size+1]?=some (.cells (valsNr p).toArray 90 (0,0))∧NrV W (some ⟨bl,off,none⟩) R∧RdR W R∧Below w.heap.size w W) ?hw (fun W h0=>?_)
 case hw =>
  have hbb:Below (w.alloc (.cells #[.slice (some ⟨bl,off,none⟩) R.length c] 30 (0,0))).heap.size (w.alloc (.cells #[.slice (some ⟨bl,off,none⟩) R.length c] 30 (0,0))) (((w.alloc (.cells #[.slice (some ⟨bl,off,none⟩) R.length c] 30 (0,0))).alloc (.cells #[.int .i64 0,.int .i64 0,.int .i64 0,.bool false,.int .i64 0,.slice none 0 0,.slice none 0 0,.int .i64 0,.int .i64 0,.int .i64 0,.bool false,.bool false,.bool false,.int .i64 0,.int .i64 0,.int .i64 0,.int .i64 0,.int .i64 0,.int .i64 0,.int .i64 0,.int .i64 0,.int .i64 0,.int .i64 0,.int .i64 0,.int .i64 0,.int .i64 0,.int .i64 0,.int .i64 0,.int .i64 0,.int .i64 0,.int .i64 0,.int .i64 0,.int .i64 0,.int .i64 0] 90)).setCells (w.heap.size+1) 0 (valsNr p)):=below_setCells (by simp) _ _ _ (balloc (Below.refl _ _))
  exact ⟨(hbb.block _ (ltS HX.out)).trans HX.out,by rw [heap_setCells (valsNr p) 0 _ _ (newS1T w _ _),wrAt_all (by rfl)],HV.out.keep hbb,HR.out.keep hbb,bkeep2 HB.out hbb⟩
 clear HX HLR HV HR HB;obtain ⟨hx,hn,hv,hr,hb0⟩:=h0;have HX:=hD hx;have HN:=hD hn;have HV:=hD hv;have HR:=hD hr;have HB:=hD hb0;clear hx hn hv hr hb0
 cases h1:rng p.n.ww 0 30
 ·clear hb;have hr:=nodeAt HN.out;obtain ⟨x0,x1,x2,x4,x5,x6,x7,x8,x20,x21⟩:=xs0_1_2_4_5_6_7_8_20_21 HN.out;have hrp:=node_pk hr;have hrl:=node_pl hr;have hrc:=node_ce hr;simp only [Nat.zero_add] at hrp hrl hrc;have HRP:=hD hrp;have HRL:=hD hrl;have HRC:=hD hrc;clear hr hrp hrl hrc
  go_wp2_with (first|(refine ldPackH HRP rfl rfl rfl ?_)|(refine ldPlaceH HRL rfl rfl rfl ?_)|(refine ldCellH HRC rfl rfl rfl ?_))
  with_reducible refine (inRange_w _ 0 30 false _ h1).mono ?_
  rintro e wq ⟨rfl,rfl⟩
  go_wp2_with (first|(refine ldPackH HRP rfl rfl rfl ?_)|(refine ldPlaceH HRL rfl rfl rfl ?_)|(refine ldCellH HRC rfl rfl rfl ?_))
  go_ret;exact ⟨rfl,HB.out⟩
 cases h2:rng p.n.hh 0 30
 ·clear hb;have hr:=nodeAt HN.out;obtain ⟨x0,x1,x2,x4,x5,x6,x7,x8,x20,x21⟩:=xs0_1_2_4_5_6_7_8_20_21 HN.out;have hrp:=node_pk hr;have hrl:=node_pl hr;have hrc:=node_ce hr;simp only [Nat.zero_add] at hrp hrl hrc;have HRP:=hD hrp;have HRL:=hD hrl;have HRC:=hD hrc;clear hr hrp hrl hrc
  go_wp2_with (first|(refine ldPackH HRP rfl rfl rfl ?_)|(refine ldPlaceH HRL rfl rfl rfl ?_)|(refine ldCellH HRC rfl rfl rfl ?_))
  with_reducible refine (inRange_w _ 0 30 true _ h1).mono ?_
  rintro e wq ⟨rfl,rfl⟩
  go_wp2_with (first|(refine ldPackH HRP rfl rfl rfl ?_)|(refine ldPlaceH HRL rfl rfl rfl ?_)|(refine ldCellH HRC rfl rfl rfl ?_))
  with_reducible refine (inRange_w _ 0 30 false _ h2).mono ?_
  rintro e wq ⟨rfl,rfl⟩
  go_wp2_with (first|(refine ldPackH HRP rfl rfl rfl ?_)|(refine ldPlaceH HRL rfl rfl rfl ?_)|(refine ldCellH HRC rfl rfl rfl ?_))
  go_ret;exact ⟨rfl,HB.out⟩
 cases h3:rng p.n.ki 0 2
 ·clear hb;have hr:=nodeAt HN.out;obtain ⟨x0,x1,x2,x4,x5,x6,x7,x8,x20,x21⟩:=xs0_1_2_4_5_6_7_8_20_21 HN.out;have hrp:=node_pk hr;have hrl:=node_pl hr;have hrc:=node_ce hr;simp only [Nat.zero_add] at hrp hrl hrc;have HRP:=hD hrp;have HRL:=hD hrl;have HRC:=hD hrc;clear hr hrp hrl hrc
  go_wp2_with (first|(refine ldPackH HRP rfl rfl rfl ?_)|(refine ldPlaceH HRL rfl rfl rfl ?_)|(refine ldCellH HRC rfl rfl rfl ?_))
  with_reducible refine (inRange_w _ 0 30 true _ h1).mono ?_
  rintro e wq ⟨rfl,rfl⟩
  go_wp2_with (first|(refine ldPackH HRP rfl rfl rfl ?_)|(refine ldPlaceH HRL rfl rfl rfl ?_)|(refine ldCellH HRC rfl rfl rfl ?_))
  with_reducible refine (inRange_w _ 0 30 true _ h2).mono ?_
  rintro e wq ⟨rfl,rfl⟩
  go_wp2_with (first|(refine ldPackH HRP rfl rfl rfl ?_)|(refine ldPlaceH HRL rfl rfl rfl ?_)|(refine ldCellH HRC rfl rfl rfl ?_))
  with_reducible refine (inRange_w _ 0 2 false _ h3).mono ?_
  rintro e wq ⟨rfl,rfl⟩
  go_wp2_with (first|(refine ldPackH HRP rfl rfl rfl ?_)|(refine ldPlaceH HRL rfl rfl rfl ?_)|(refine ldCellH HRC rfl rfl rfl ?_))
  go_ret;exact ⟨rfl,HB.out⟩
 cases h4:p.n.pk.ok
 ·clear hb;have hr:=nodeAt HN.out;obtain ⟨x0,x1,x2,x4,x5,x6,x7,x8,x20,x21⟩:=xs0_1_2_4_5_6_7_8_20_21 HN.out;have hrp:=node_pk hr;have hrl:=node_pl hr;have hrc:=node_ce hr;simp only [Nat.zero_add] at hrp hrl hrc;have HRP:=hD hrp;have HRL:=hD hrl;have HRC:=hD hrc;clear hr hrp hrl hrc
  go_wp2_with (first|(refine ldPackH HRP rfl rfl rfl ?_)|(refine ldPlaceH HRL rfl rfl rfl ?_)|(refine ldCellH HRC rfl rfl rfl ?_))
  with_reducible refine (inRange_w _ 0 30 true _ h1).mono ?_
  rintro e wq ⟨rfl,rfl⟩
  go_wp2_with (first|(refine ldPackH HRP rfl rfl rfl ?_)|(refine ldPlaceH HRL rfl rfl rfl ?_)|(refine ldCellH HRC rfl rfl rfl ?_))
  with_reducible refine (inRange_w _ 0 30 true _ h2).mono ?_
  rintro e wq ⟨rfl,rfl⟩
  go_wp2_with (first|(refine ldPackH HRP rfl rfl rfl ?_)|(refine ldPlaceH HRL rfl rfl rfl ?_)|(refine ldCellH HRC rfl rfl rfl ?_))
  with_reducible refine (inRange_w _ 0 2 true _ h3).mono ?_
  rintro e wq ⟨rfl,rfl⟩
  go_wp2_with (first|(refine ldPackH HRP rfl rfl rfl ?_)|(refine ldPlaceH HRL rfl rfl rfl ?_)|(refine ldCellH HRC rfl rfl rfl ?_))
  with_reducible refine (svp_v p.n.pk false h4 _).mono ?_
  rintro e v1 ⟨rfl,hb1⟩;clear x0 x1 x2 x4 x5 x6 x7 x8 x20 x21 HRP HRL HRC;replace HX:=hbk hb1 HX;replace HN:=hbk hb1 HN;replace HV:=hD (HV.out.keep hb1);replace HR:=hD (HR.out.keep hb1);replace HB:=hD (bkeep2 HB.out hb1);clear hb1;have hr:=nodeAt HN.out;obtain ⟨x0,x1,x2,x4,x5,x6,x7,x8,x20,x21⟩:=xs0_1_2_4_5_6_7_8_20_21 HN.out;have hrp:=node_pk hr;have hrl:=node_pl hr;have hrc:=node_ce hr
  simp only [Nat.zero_add] at hrp hrl hrc;have HRP:=hD hrp;have HRL:=hD hrl;have HRC:=hD hrc;clear hr hrp hrl hrc
  go_wp2_with (first|(refine ldPackH HRP rfl rfl rfl ?_)|(refine ldPlaceH HRL rfl rfl rfl ?_)|(refine ldCellH HRC rfl rfl rfl ?_))
  go_ret;exact ⟨rfl,HB.out⟩
 cases h5:decide (p.n.pk.w=0)
 ·clear hb;have e5:=neb_f h5;have hr:=nodeAt HN.out;obtain ⟨x0,x1,x2,x4,x5,x6,x7,x8,x20,x21⟩:=xs0_1_2_4_5_6_7_8_20_21 HN.out;have hrp:=node_pk hr;have hrl:=node_pl hr;have hrc:=node_ce hr;simp only [Nat.zero_add] at hrp hrl hrc;have HRP:=hD hrp;have HRL:=hD hrl;have HRC:=hD hrc;clear hr hrp hrl hrc
  go_wp2_with (first|(refine ldPackH HRP rfl rfl rfl ?_)|(refine ldPlaceH HRL rfl rfl rfl ?_)|(refine ldCellH HRC rfl rfl rfl ?_))
  with_reducible refine (inRange_w _ 0 30 true _ h1).mono ?_
  rintro e wq ⟨rfl,rfl⟩
  go_wp2_with (first|(refine ldPackH HRP rfl rfl rfl ?_)|(refine ldPlaceH HRL rfl rfl rfl ?_)|(refine ldCellH HRC rfl rfl rfl ?_))
  with_reducible refine (inRange_w _ 0 30 true _ h2).mono ?_
  rintro e wq ⟨rfl,rfl⟩
  go_wp2_with (first|(refine ldPackH HRP rfl rfl rfl ?_)|(refine ldPlaceH HRL rfl rfl rfl ?_)|(refine ldCellH HRC rfl rfl rfl ?_))
  with_reducible refine (inRange_w _ 0 2 true _ h3).mono ?_
  rintro e wq ⟨rfl,rfl⟩
  go_wp2_with (first|(refine ldPackH HRP rfl rfl rfl ?_)|(refine ldPlaceH HRL rfl rfl rfl ?_)|(refine ldCellH HRC rfl rfl rfl ?_))
  with_reducible refine (svp_v p.n.pk true h4 _).mono ?_
  rintro e v1 ⟨rfl,hb1⟩;clear x0 x1 x2 x4 x5 x6 x7 x8 x20 x21 HRP HRL HRC;replace HX:=hbk hb1 HX;replace HN:=hbk hb1 HN;replace HV:=hD (HV.out.keep hb1);replace HR:=hD (HR.out.keep hb1);replace HB:=hD (bkeep2 HB.out hb1);clear hb1;have hr:=nodeAt HN.out;obtain ⟨x0,x1,x2,x4,x5,x6,x7,x8,x20,x21⟩:=xs0_1_2_4_5_6_7_8_20_21 HN.out;have hrp:=node_pk hr;have hrl:=node_pl hr;have hrc:=node_ce hr
  simp only [Nat.zero_add] at hrp hrl hrc;have HRP:=hD hrp;have HRL:=hD hrl;have HRC:=hD hrc;clear hr hrp hrl hrc
  go_wp2_with (first|(refine ldPackH HRP rfl rfl rfl ?_)|(refine ldPlaceH HRL rfl rfl rfl ?_)|(refine ldCellH HRC rfl rfl rfl ?_))
  go_ret;exact ⟨rfl,HB.out⟩
 have e5:=neb_t h5
 cases h6:decide (p.n.pk.h=0)
 ·clear hb;have e6:=neb_f h6;have hr:=nodeAt HN.out;obtain ⟨x0,x1,x2,x4,x5,x6,x7,x8,x20,x21⟩:=xs0_1_2_4_5_6_7_8_20_21 HN.out;have hrp:=node_pk hr;have hrl:=node_pl hr;have hrc:=node_ce hr;simp only [Nat.zero_add] at hrp hrl hrc;have HRP:=hD hrp;have HRL:=hD hrl;have HRC:=hD hrc;clear hr hrp hrl hrc
  go_wp2_with (first|(refine ldPackH HRP rfl rfl rfl ?_)|(refine ldPlaceH HRL rfl rfl rfl ?_)|(refine ldCellH HRC rfl rfl rfl ?_))
  with_reducible refine (inRange_w _ 0 30 true _ h1).mono ?_
  rintro e wq ⟨rfl,rfl⟩
  go_wp2_with (first|(refine ldPackH HRP rfl rfl rfl ?_)|(refine ldPlaceH HRL rfl rfl rfl ?_)|(refine ldCellH HRC rfl rfl rfl ?_))
  with_reducible refine (inRange_w _ 0 30 true _ h2).mono ?_
  rintro e wq ⟨rfl,rfl⟩
  go_wp2_with (first|(refine ldPackH HRP rfl rfl rfl ?_)|(refine ldPlaceH HRL rfl rfl rfl ?_)|(refine ldCellH HRC rfl rfl rfl ?_))
  with_reducible refine (inRange_w _ 0 2 true _ h3).mono ?_
  rintro e wq ⟨rfl,rfl⟩
  go_wp2_with (first|(refine ldPackH HRP rfl rfl rfl ?_)|(refine ldPlaceH HRL rfl rfl rfl ?_)|(refine ldCellH HRC rfl rfl rfl ?_))
  with_reducible refine (svp_v p.n.pk true h4 _).mono ?_
  rintro e v1 ⟨rfl,hb1⟩;clear x0 x1 x2 x4 x5 x6 x7 x8 x20 x21 HRP HRL HRC;replace HX:=hbk hb1 HX;replace HN:=hbk hb1 HN;replace HV:=hD (HV.out.keep hb1);replace HR:=hD (HR.out.keep hb1);replace HB:=hD (bkeep2 HB.out hb1);clear hb1;have hr:=nodeAt HN.out;obtain ⟨x0,x1,x2,x4,x5,x6,x7,x8,x20,x21⟩:=xs0_1_2_4_5_6_7_8_20_21 HN.out;have hrp:=node_pk hr;have hrl:=node_pl hr;have hrc:=node_ce hr
  simp only [Nat.zero_add] at hrp hrl hrc;have HRP:=hD hrp;have HRL:=hD hrl;have HRC:=hD hrc;clear hr hrp hrl hrc
  go_wp2_with (first|(refine ldPackH HRP rfl rfl rfl ?_)|(refine ldPlaceH HRL rfl rfl rfl ?_)|(refine ldCellH HRC rfl rfl rfl ?_))
  go_ret;exact ⟨rfl,HB.out⟩
 have e6:=neb_t h6
 cases h7:plB p.n.pl
 ·clear hb;have hr:=nodeAt HN.out;obtain ⟨x0,x1,x2,x4,x5,x6,x7,x8,x20,x21⟩:=xs0_1_2_4_5_6_7_8_20_21 HN.out;have hrp:=node_pk hr;have hrl:=node_pl hr;have hrc:=node_ce hr;simp only [Nat.zero_add] at hrp hrl hrc;have HRP:=hD hrp;have HRL:=hD hrl;have HRC:=hD hrc;clear hr hrp hrl hrc
  go_wp2_with (first|(refine ldPackH HRP rfl rfl rfl ?_)|(refine ldPlaceH HRL rfl rfl rfl ?_)|(refine ldCellH HRC rfl rfl rfl ?_))
  with_reducible refine (inRange_w _ 0 30 true _ h1).mono ?_
  rintro e wq ⟨rfl,rfl⟩
  go_wp2_with (first|(refine ldPackH HRP rfl rfl rfl ?_)|(refine ldPlaceH HRL rfl rfl rfl ?_)|(refine ldCellH HRC rfl rfl rfl ?_))
  with_reducible refine (inRange_w _ 0 30 true _ h2).mono ?_
  rintro e wq ⟨rfl,rfl⟩
  go_wp2_with (first|(refine ldPackH HRP rfl rfl rfl ?_)|(refine ldPlaceH HRL rfl rfl rfl ?_)|(refine ldCellH HRC rfl rfl rfl ?_))
  with_reducible refine (inRange_w _ 0 2 true _ h3).mono ?_
  rintro e wq ⟨rfl,rfl⟩
  go_wp2_with (first|(refine ldPackH HRP rfl rfl rfl ?_)|(refine ldPlaceH HRL rfl rfl rfl ?_)|(refine ldCellH HRC rfl rfl rfl ?_))
  with_reducible refine (svp_v p.n.pk true h4 _).mono ?_
  rintro e v1 ⟨rfl,hb1⟩;clear x0 x1 x2 x4 x5 x6 x7 x8 x20 x21 HRP HRL HRC;replace HX:=hbk hb1 HX;replace HN:=hbk hb1 HN;replace HV:=hD (HV.out.keep hb1);replace HR:=hD (HR.out.keep hb1);replace HB:=hD (bkeep2 HB.out hb1);clear hb1;have hr:=nodeAt HN.out;obtain ⟨x0,x1,x2,x4,x5,x6,x7,x8,x20,x21⟩:=xs0_1_2_4_5_6_7_8_20_21 HN.out;have hrp:=node_pk hr;have hrl:=node_pl hr;have hrc:=node_ce hr
  simp only [Nat.zero_add] at hrp hrl hrc;have HRP:=hD hrp;have HRL:=hD hrl;have HRC:=hD hrc;clear hr hrp hrl hrc
  go_wp2_with (first|(refine ldPackH HRP rfl rfl rfl ?_)|(refine ldPlaceH HRL rfl rfl rfl ?_)|(refine ldCellH HRC rfl rfl rfl ?_))
  with_reducible refine (svalidPlace_t p.n.pl false _ h7).mono ?_
  rintro e v2 ⟨rfl,hb1⟩;clear x0 x1 x2 x4 x5 x6 x7 x8 x20 x21 HRP HRL HRC;replace HX:=hbk hb1 HX;replace HN:=hbk hb1 HN;replace HV:=hD (HV.out.keep hb1);replace HR:=hD (HR.out.keep hb1);replace HB:=hD (bkeep2 HB.out hb1);clear hb1;have hr:=nodeAt HN.out;obtain ⟨x0,x1,x2,x4,x5,x6,x7,x8,x20,x21⟩:=xs0_1_2_4_5_6_7_8_20_21 HN.out;have hrp:=node_pk hr;have hrl:=node_pl hr;have hrc:=node_ce hr
  simp only [Nat.zero_add] at hrp hrl hrc;have HRP:=hD hrp;have HRL:=hD hrl;have HRC:=hD hrc;clear hr hrp hrl hrc
  go_wp2_with (first|(refine ldPackH HRP rfl rfl rfl ?_)|(refine ldPlaceH HRL rfl rfl rfl ?_)|(refine ldCellH HRC rfl rfl rfl ?_))
  go_ret;exact ⟨rfl,HB.out⟩
 cases h8:decide (p.n.ce.cw=0)
 ·clear hb;have e8:=neb_f h8;have hr:=nodeAt HN.out;obtain ⟨x0,x1,x2,x4,x5,x6,x7,x8,x20,x21⟩:=xs0_1_2_4_5_6_7_8_20_21 HN.out;have hrp:=node_pk hr;have hrl:=node_pl hr;have hrc:=node_ce hr;simp only [Nat.zero_add] at hrp hrl hrc;have HRP:=hD hrp;have HRL:=hD hrl;have HRC:=hD hrc;clear hr hrp hrl hrc
  go_wp2_with (first|(refine ldPackH HRP rfl rfl rfl ?_)|(refine ldPlaceH HRL rfl rfl rfl ?_)|(refine ldCellH HRC rfl rfl rfl ?_))
  with_reducible refine (inRange_w _ 0 30 true _ h1).mono ?_
  rintro e wq ⟨rfl,rfl⟩
  go_wp2_with (first|(refine ldPackH HRP rfl rfl rfl ?_)|(refine ldPlaceH HRL rfl rfl rfl ?_)|(refine ldCellH HRC rfl rfl rfl ?_))
  with_reducible refine (inRange_w _ 0 30 true _ h2).mono ?_
  rintro e wq ⟨rfl,rfl⟩
  go_wp2_with (first|(refine ldPackH HRP rfl rfl rfl ?_)|(refine ldPlaceH HRL rfl rfl rfl ?_)|(refine ldCellH HRC rfl rfl rfl ?_))
  with_reducible refine (inRange_w _ 0 2 true _ h3).mono ?_
  rintro e wq ⟨rfl,rfl⟩
  go_wp2_with (first|(refine ldPackH HRP rfl rfl rfl ?_)|(refine ldPlaceH HRL rfl rfl rfl ?_)|(refine ldCellH HRC rfl rfl rfl ?_))
  with_reducible refine (svp_v p.n.pk true h4 _).mono ?_
  rintro e v1 ⟨rfl,hb1⟩;clear x0 x1 x2 x4 x5 x6 x7 x8 x20 x21 HRP HRL HRC;replace HX:=hbk hb1 HX;replace HN:=hbk hb1 HN;replace HV:=hD (HV.out.keep hb1);replace HR:=hD (HR.out.keep hb1);replace HB:=hD (bkeep2 HB.out hb1);clear hb1;have hr:=nodeAt HN.out;obtain ⟨x0,x1,x2,x4,x5,x6,x7,x8,x20,x21⟩:=xs0_1_2_4_5_6_7_8_20_21 HN.out;have hrp:=node_pk hr;have hrl:=node_pl hr;have hrc:=node_ce hr
  simp only [Nat.zero_add] at hrp hrl hrc;have HRP:=hD hrp;have HRL:=hD hrl;have HRC:=hD hrc;clear hr hrp hrl hrc
  go_wp2_with (first|(refine ldPackH HRP rfl rfl rfl ?_)|(refine ldPlaceH HRL rfl rfl rfl ?_)|(refine ldCellH HRC rfl rfl rfl ?_))
  with_reducible refine (svalidPlace_t p.n.pl true _ h7).mono ?_
  rintro e v2 ⟨rfl,hb1⟩;clear x0 x1 x2 x4 x5 x6 x7 x8 x20 x21 HRP HRL HRC;replace HX:=hbk hb1 HX;replace HN:=hbk hb1 HN;replace HV:=hD (HV.out.keep hb1);replace HR:=hD (HR.out.keep hb1);replace HB:=hD (bkeep2 HB.out hb1);clear hb1;have hr:=nodeAt HN.out;obtain ⟨x0,x1,x2,x4,x5,x6,x7,x8,x20,x21⟩:=xs0_1_2_4_5_6_7_8_20_21 HN.out;have hrp:=node_pk hr;have hrl:=node_pl hr;have hrc:=node_ce hr
  simp only [Nat.zero_add] at hrp hrl hrc;have HRP:=hD hrp;have HRL:=hD hrl;have HRC:=hD hrc;clear hr hrp hrl hrc
  go_wp2_with (first|(refine ldPackH HRP rfl rfl rfl ?_)|(refine ldPlaceH HRL rfl rfl rfl ?_)|(refine ldCellH HRC rfl rfl rfl ?_))
  go_ret;exact ⟨rfl,HB.out⟩
 have e8:=neb_t h8
 have h9:decide (p.n.ce.ch=0)=false:=by have:=hb;simp only [spB,h1,h2,h3,h4,h5,h6,h7,h8,Bool.true_and] at this;exact this
 clear hb;have e9:=neb_f h9;have hr:=nodeAt HN.out;obtain ⟨x0,x1,x2,x4,x5,x6,x7,x8,x20,x21⟩:=xs0_1_2_4_5_6_7_8_20_21 HN.out;have hrp:=node_pk hr;have hrl:=node_pl hr;have hrc:=node_ce hr;simp only [Nat.zero_add] at hrp hrl hrc;have HRP:=hD hrp;have HRL:=hD hrl;have HRC:=hD hrc;clear hr hrp hrl hrc
 go_wp2_with (first|(refine ldPackH HRP rfl rfl rfl ?_)|(refine ldPlaceH HRL rfl rfl rfl ?_)|(refine ldCellH HRC rfl rfl rfl ?_))
 with_reducible refine (inRange_w _ 0 30 true _ h1).mono ?_
 rintro e wq ⟨rfl,rfl⟩
 go_wp2_with (first|(refine ldPackH HRP rfl rfl rfl ?_)|(refine ldPlaceH HRL rfl rfl rfl ?_)|(refine ldCellH HRC rfl rfl rfl ?_))
 with_reducible refine (inRange_w _ 0 30 true _ h2).mono ?_
 rintro e wq ⟨rfl,rfl⟩
 go_wp2_with (first|(refine ldPackH HRP rfl rfl rfl ?_)|(refine ldPlaceH HRL rfl rfl rfl ?_)|(refine ldCellH HRC rfl rfl rfl ?_))
 with_reducible refine (inRange_w _ 0 2 true _ h3).mono ?_
 rintro e wq ⟨rfl,rfl⟩
 go_wp2_with (first|(refine ldPackH HRP rfl rfl rfl ?_)|(refine ldPlaceH HRL rfl rfl rfl ?_)|(refine ldCellH HRC rfl rfl rfl ?_))
 with_reducible refine (svp_v p.n.pk true h4 _).mono ?_
 rintro e v1 ⟨rfl,hb1⟩;clear x0 x1 x2 x4 x5 x6 x7 x8 x20 x21 HRP HRL HRC;replace HX:=hbk hb1 HX;replace HN:=hbk hb1 HN;replace HV:=hD (HV.out.keep hb1);replace HR:=hD (HR.out.keep hb1);replace HB:=hD (bkeep2 HB.out hb1);clear hb1;have hr:=nodeAt HN.out;obtain ⟨x0,x1,x2,x4,x5,x6,x7,x8,x20,x21⟩:=xs0_1_2_4_5_6_7_8_20_21 HN.out;have hrp:=node_pk hr;have hrl:=node_pl hr;have hrc:=node_ce hr
 simp only [Nat.zero_add] at hrp hrl hrc;have HRP:=hD hrp;have HRL:=hD hrl;have HRC:=hD hrc;clear hr hrp hrl hrc
 go_wp2_with (first|(refine ldPackH HRP rfl rfl rfl ?_)|(refine ldPlaceH HRL rfl rfl rfl ?_)|(refine ldCellH HRC rfl rfl rfl ?_))
 with_reducible refine (svalidPlace_t p.n.pl true _ h7).mono ?_
 rintro e v2 ⟨rfl,hb1⟩;clear x0 x1 x2 x4 x5 x6 x7 x8 x20 x21 HRP HRL HRC;replace HX:=hbk hb1 HX;replace HN:=hbk hb1 HN;replace HV:=hD (HV.out.keep hb1);replace HR:=hD (HR.out.keep hb1);replace HB:=hD (bkeep2 HB.out hb1);clear hb1;have hr:=nodeAt HN.out;obtain ⟨x0,x1,x2,x4,x5,x6,x7,x8,x20,x21⟩:=xs0_1_2_4_5_6_7_8_20_21 HN.out;have hrp:=node_pk hr;have hrl:=node_pl hr;have hrc:=node_ce hr
 simp only [Nat.zero_add] at hrp hrl hrc;have HRP:=hD hrp;have HRL:=hD hrl;have HRC:=hD hrc;clear hr hrp hrl hrc
 go_wp2_with (first|(refine ldPackH HRP rfl rfl rfl ?_)|(refine ldPlaceH HRL rfl rfl rfl ?_)|(refine ldCellH HRC rfl rfl rfl ?_))
 go_ret;exact ⟨rfl,HB.out⟩
theorem svalidNode_yes (A:Option Addr) (c:Nat) (R:List Nr) (i:Nat) (p:Nr) (b:Bool) (w:World) (h:NrV w A R) (hr:RdR w R) (hp:R[i]?=some p) (hL:R.length≤1048576) (hm:∀ p∈R,p.n.cs.length≤1048576∧p.n.rs.length≤1048576) (h0:spB p.n=true) (hb:(ownB p.n&&(upB i p.n&&clB (R.map Nr.n) i p.n))=b) :
  Calls Tryz.prog 70 #[.agg #[.slice A R.length c],.int .i64 i] w fun e w'=>e=.returned (.bool b)∧Below w.heap.size w w':=by
 have hi:i<R.length:=(List.getElem?_eq_some_iff.1 hp).1
 have hii:(i:Int)<(R.length:Int):=by omega
 have hmp:=hm p (List.mem_of_getElem? hp);obtain ⟨mp1,mp2⟩:=hmp;obtain ⟨bl,off,rfl,hbl,hc⟩:=h.cells (by omega);have hB0:Below w.heap.size w (w.alloc (.cells #[.slice (some ⟨bl,off,none⟩) R.length c] 30 (0,0))):=balloc (Below.refl _ _);have HX:=hD (newS w (.cells #[.slice (some ⟨bl,off,none⟩) R.length c] 30 (0,0)));have HLR:=hD (rangeB (hc i p hp) (hB0.block bl hbl));have HV:=hD (h.keep hB0)
 have HR:=hD (hr.keep hB0);have HB:=hD hB0;have HM:=hD hm;have HG:=hD hp;clear hc h hr hm hp hB0
 go_enter Tryz.func70,Tryz.ntmps70
 go_upto_region 2 with (first|(refine ldN _ p bl (off+i*34) rfl rfl rfl HLR.out ?_)|(refine stN (.tmp 5) (.tmp 11) p (w.heap.size+1) 0 rfl rfl rfl rfl (newS1T _ _ _) (by show (0+34:Nat)≤34;omega) ?_))
 refine wp_genGG (fun W=>W.heap[w.heap.size]?=some (.cells #[.slice (some ⟨bl,off,none⟩) R.length c] 30 (0,0))∧W.heap[w.heap.size+1]?=some (.cells (valsNr p).toArray 90 (0,0))∧NrV W (some ⟨bl,off,none⟩) R∧RdR W R∧Below w.heap.size w W) ?hw (fun W h0=>?_)
 case hw =>
  have hbb:Below (w.alloc (.cells #[.slice (some ⟨bl,off,none⟩) R.length c] 30 (0,0))).heap.size (w.alloc (.cells #[.slice (some ⟨bl,off,none⟩) R.length c] 30 (0,0))) (((w.alloc (.cells #[.slice (some ⟨bl,off,none⟩) R.length c] 30 (0,0))).alloc (.cells #[.int .i64 0,.int .i64 0,.int .i64 0,.bool false,.int .i64 0,.slice none 0 0,.slice none 0 0,.int .i64 0,.int .i64 0,.int .i64 0,.bool false,.bool false,.bool false,.int .i64 0,.int .i64 0,.int .i64 0,.int .i64 0,.int .i64 0,.int .i64 0,.int .i64 0,.int .i64 0,.int .i64 0,.int .i64 0,.int .i64 0,.int .i64 0,.int .i64 0,.int .i64 0,.int .i64 0,.int .i64 0,.int .i64 0,.int .i64 0,.int .i64 0,.int .i64 0,.int .i64 0] 90)).setCells (w.heap.size+1) 0 (valsNr p)):=below_setCells (by simp) _ _ _ (balloc (Below.refl _ _))
  exact ⟨(hbb.block _ (ltS HX.out)).trans HX.out,by rw [heap_setCells (valsNr p) 0 _ _ (newS1T w _ _),wrAt_all (by rfl)],HV.out.keep hbb,HR.out.keep hbb,bkeep2 HB.out hbb⟩
 clear HX HLR HV HR HB;obtain ⟨hx,hn,hv,hr,hb0⟩:=h0;have HX:=hD hx;have HN:=hD hn;have HV:=hD hv;have HR:=hD hr;have HB:=hD hb0;clear hx hn hv hr hb0;simp only [spB,Bool.and_eq_true] at h0;obtain ⟨h1,h2,h3,h4,h5,h6,h7,h8,h9⟩:=h0;have e5:=neb_t h5;have e6:=neb_t h6;have e8:=neb_t h8;have e9:=neb_t h9;have HBB:=hD hb;clear hb;have hr:=nodeAt HN.out
 obtain ⟨x0,x1,x2,x4,x5,x6,x7,x8,x20,x21⟩:=xs0_1_2_4_5_6_7_8_20_21 HN.out;have hrp:=node_pk hr;have hrl:=node_pl hr;have hrc:=node_ce hr;simp only [Nat.zero_add] at hrp hrl hrc;have HRP:=hD hrp;have HRL:=hD hrl;have HRC:=hD hrc;clear hr hrp hrl hrc
 go_wp2_with (first|(refine ldPackH HRP rfl rfl rfl ?_)|(refine ldPlaceH HRL rfl rfl rfl ?_)|(refine ldCellH HRC rfl rfl rfl ?_))
 with_reducible refine (inRange_w _ 0 30 true _ h1).mono ?_
 rintro e wq ⟨rfl,rfl⟩
 go_wp2_with (first|(refine ldPackH HRP rfl rfl rfl ?_)|(refine ldPlaceH HRL rfl rfl rfl ?_)|(refine ldCellH HRC rfl rfl rfl ?_))
 with_reducible refine (inRange_w _ 0 30 true _ h2).mono ?_
 rintro e wq ⟨rfl,rfl⟩
 go_wp2_with (first|(refine ldPackH HRP rfl rfl rfl ?_)|(refine ldPlaceH HRL rfl rfl rfl ?_)|(refine ldCellH HRC rfl rfl rfl ?_))
 with_reducible refine (inRange_w _ 0 2 true _ h3).mono ?_
 rintro e wq ⟨rfl,rfl⟩
 go_wp2_with (first|(refine ldPackH HRP rfl rfl rfl ?_)|(refine ldPlaceH HRL rfl rfl rfl ?_)|(refine ldCellH HRC rfl rfl rfl ?_))
 with_reducible refine (svp_v p.n.pk true h4 _).mono ?_
 rintro e v1 ⟨rfl,hb1⟩;clear x0 x1 x2 x4 x5 x6 x7 x8 x20 x21 HRP HRL HRC;replace HX:=hbk hb1 HX;replace HN:=hbk hb1 HN;replace HV:=hD (HV.out.keep hb1);replace HR:=hD (HR.out.keep hb1);replace HB:=hD (bkeep2 HB.out hb1);clear hb1;have hr:=nodeAt HN.out;obtain ⟨x0,x1,x2,x4,x5,x6,x7,x8,x20,x21⟩:=xs0_1_2_4_5_6_7_8_20_21 HN.out;have hrp:=node_pk hr;have hrl:=node_pl hr;have hrc:=node_ce hr
 simp only [Nat.zero_add] at hrp hrl hrc;have HRP:=hD hrp;have HRL:=hD hrl;have HRC:=hD hrc;clear hr hrp hrl hrc
 go_wp2_with (first|(refine ldPackH HRP rfl rfl rfl ?_)|(refine ldPlaceH HRL rfl rfl rfl ?_)|(refine ldCellH HRC rfl rfl rfl ?_))
 with_reducible refine (svalidPlace_t p.n.pl true _ h7).mono ?_
 rintro e v2 ⟨rfl,hb1⟩;clear x0 x1 x2 x4 x5 x6 x7 x8 x20 x21 HRP HRL HRC;replace HX:=hbk hb1 HX;replace HN:=hbk hb1 HN;replace HV:=hD (HV.out.keep hb1);replace HR:=hD (HR.out.keep hb1);replace HB:=hD (bkeep2 HB.out hb1);clear hb1;have hr:=nodeAt HN.out;obtain ⟨x0,x1,x2,x4,x5,x6,x7,x8,x20,x21⟩:=xs0_1_2_4_5_6_7_8_20_21 HN.out;have hrp:=node_pk hr;have hrl:=node_pl hr;have hrc:=node_ce hr
 simp only [Nat.zero_add] at hrp hrl hrc;have HRP:=hD hrp;have HRL:=hD hrl;have HRC:=hD hrc;clear hr hrp hrl hrc;clear h1 h2 h3 h4 h5 h6 h7 h8 h9;unfold ownB at HBB
 go_upto_region 4 with ((first|(refine ldPackH HRP rfl rfl rfl ?_)|(refine ldPlaceH HRL rfl rfl rfl ?_)|(refine ldCellH HRC rfl rfl rfl ?_)))
 by_cases hk:p.n.ki=1
 ·rw [if_pos hk] at HBB;rw [hk] at x4;have HK:=hD hk;clear hk
  cases g1:linesB p.n.cs
  ·obtain rfl:false=b:=by rw [<- HBB.out,g1];rfl
   have HPC:=hD (HR.out p (List.mem_of_getElem? HG.out))
   go_wp2_with fail
   with_reducible refine (svalidLines_v p.ca p.cc p.n.cs false _ HPC.out.c mp1 g1).mono ?_
   rintro e u1 ⟨rfl,hb1⟩;clear x0 x1 x2 x4 x5 x6 x7 x8 x20 x21 HRP HRL HRC;replace HB:=hD (bkeep2 HB.out hb1);clear hb1;go_wp2;go_ret;exact ⟨rfl,HB.out⟩
  ·cases g2:linesB p.n.rs
   ·obtain rfl:false=b:=by rw [<- HBB.out,g1,g2];rfl
    have HPC:=hD (HR.out p (List.mem_of_getElem? HG.out))
    go_wp2_with fail
    with_reducible refine (svalidLines_v p.ca p.cc p.n.cs true _ HPC.out.c mp1 g1).mono ?_
    rintro e u1 ⟨rfl,hb1⟩;clear x0 x1 x2 x4 x5 x6 x7 x8 x20 x21 HRP HRL HRC;replace HX:=hbk hb1 HX;replace HN:=hbk hb1 HN;replace HV:=hD (HV.out.keep hb1);replace HR:=hD (HR.out.keep hb1);replace HB:=hD (bkeep2 HB.out hb1);clear hb1;have hr:=nodeAt HN.out;obtain ⟨x0,x1,x2,x4,x5,x6,x7,x8,x20,x21⟩:=xs0_1_2_4_5_6_7_8_20_21 HN.out;have hrp:=node_pk hr;have hrl:=node_pl hr;have hrc:=node_ce hr
    simp only [Nat.zero_add] at hrp hrl hrc;have HRP:=hD hrp;have HRL:=hD hrl;have HRC:=hD hrc;clear hr hrp hrl hrc;rw [HK.out] at x4;have HPC:=hD (HR.out p (List.mem_of_getElem? HG.out))
    go_wp2_with fail
    with_reducible refine (svalidLines_v p.ra p.rc p.n.rs false _ HPC.out.r mp2 g2).mono ?_
    rintro e u2 ⟨rfl,hb1⟩;clear x0 x1 x2 x4 x5 x6 x7 x8 x20 x21 HRP HRL HRC;replace HX:=hbk hb1 HX;replace HN:=hbk hb1 HN;replace HV:=hD (HV.out.keep hb1);replace HR:=hD (HR.out.keep hb1);replace HB:=hD (bkeep2 HB.out hb1);clear hb1;have hr:=nodeAt HN.out;obtain ⟨x0,x1,x2,x4,x5,x6,x7,x8,x20,x21⟩:=xs0_1_2_4_5_6_7_8_20_21 HN.out;have hrp:=node_pk hr;have hrl:=node_pl hr;have hrc:=node_ce hr
    simp only [Nat.zero_add] at hrp hrl hrc;have HRP:=hD hrp;have HRL:=hD hrl;have HRC:=hD hrc;clear hr hrp hrl hrc;rw [HK.out] at x4;go_wp2;go_ret;exact ⟨rfl,HB.out⟩
   ·have hb2:(upB i p.n&&clB (R.map Nr.n) i p.n)=b:=by rw [<- HBB.out,g1,g2];rfl
    have HB2:=hD hb2;clear hb2 HBB;have HPC:=hD (HR.out p (List.mem_of_getElem? HG.out))
    go_wp2_with fail
    with_reducible refine (svalidLines_v p.ca p.cc p.n.cs true _ HPC.out.c mp1 g1).mono ?_
    rintro e u1 ⟨rfl,hb1⟩;clear x0 x1 x2 x4 x5 x6 x7 x8 x20 x21 HRP HRL HRC;replace HX:=hbk hb1 HX;replace HN:=hbk hb1 HN;replace HV:=hD (HV.out.keep hb1);replace HR:=hD (HR.out.keep hb1);replace HB:=hD (bkeep2 HB.out hb1);clear hb1;have hr:=nodeAt HN.out;obtain ⟨x0,x1,x2,x4,x5,x6,x7,x8,x20,x21⟩:=xs0_1_2_4_5_6_7_8_20_21 HN.out;have hrp:=node_pk hr;have hrl:=node_pl hr;have hrc:=node_ce hr
    simp only [Nat.zero_add] at hrp hrl hrc;have HRP:=hD hrp;have HRL:=hD hrl;have HRC:=hD hrc;clear hr hrp hrl hrc;rw [HK.out] at x4;have HPC:=hD (HR.out p (List.mem_of_getElem? HG.out))
    go_wp2_with fail
    with_reducible refine (svalidLines_v p.ra p.rc p.n.rs true _ HPC.out.r mp2 g2).mono ?_
    rintro e u2 ⟨rfl,hb1⟩;clear x0 x1 x2 x4 x5 x6 x7 x8 x20 x21 HRP HRL HRC;replace HX:=hbk hb1 HX;replace HN:=hbk hb1 HN;replace HV:=hD (HV.out.keep hb1);replace HR:=hD (HR.out.keep hb1);replace HB:=hD (bkeep2 HB.out hb1);clear hb1;have hr:=nodeAt HN.out;obtain ⟨x0,x1,x2,x4,x5,x6,x7,x8,x20,x21⟩:=xs0_1_2_4_5_6_7_8_20_21 HN.out;have hrp:=node_pk hr;have hrl:=node_pl hr;have hrc:=node_ce hr
    simp only [Nat.zero_add] at hrp hrl hrc;have HRP:=hD hrp;have HRL:=hD hrl;have HRC:=hD hrc;clear hr hrp hrl hrc;rw [HK.out] at x4
    go_upto_region 6 with (fail)
    by_cases hz:i=0
    ·subst hz
     have hbz:(p.n.pa == -1)=b:=by rw [<- HB2.out];simp only [upB,clB,if_true,Bool.and_true];rfl
     have HBZ:=hD hbz;clear hbz HB2;go_wp2;go_ret;exact ⟨ret_bool HBZ.out,HB.out⟩
    ·have z0:((i:Int) == 0)=false:=by rw [beq_eq_false_iff_ne];omega
     have z1:decide ((i:Int)=0)=false:=decide_eq_false (by omega)
     cases hu:upB i p.n
     ·obtain rfl:false=b:=by rw [<- HB2.out,hu];rfl
      have hu2:rng p.n.pa 0 ((i:Int)-1)=false:=by have:=hu;unfold upB at this;rwa [if_neg hz] at this
      go_wp2_with fail
      with_reducible refine (inRange_w p.n.pa 0 ((i:Int)-1) false _ hu2).mono ?_
      rintro e wq ⟨rfl,rfl⟩;go_wp2;go_ret;exact ⟨rfl,HB.out⟩
     ·have hu2:rng p.n.pa 0 ((i:Int)-1)=true:=by have:=hu;unfold upB at this;rwa [if_neg hz] at this
      have hb3:clB (R.map Nr.n) i p.n=b:=by rw [<- HB2.out,hu];rfl
      obtain ⟨m,hpm⟩:=Int.eq_ofNat_of_zero_le (rng_iff.1 hu2).1
      have hmi:m<i:=by have:=(rng_iff.1 hu2).2;omega
      have hml:m<R.length:=by omega
      have hmu:R[m]?=some R[m]:=List.getElem?_eq_getElem hml;unfold clB at hb3;rw [if_neg hz,hpm] at hb3;simp only [Int.toNat_natCast] at hb3;rw [List.getElem?_map,hmu] at hb3;simp only [Option.map_some] at hb3;have hmm:=HM.out _ (List.mem_of_getElem? hmu);generalize R[m]=u at *;obtain ⟨mu1,mu2⟩:=hmm;obtain ⟨bl2,off2,e9,hbl2,hcu⟩:=HV.out.cells (by omega)
      cases e9
      have HU:=hD (hcu m u hmu);have HB3:=hD hb3
      have hmr:(m:Int)<(R.length:Int):=by omega
      rw [hpm] at x0 hu2;have hx0:=cellS HX.out 0;clear hcu hmu hb3 HB2 hu hpm
      go_wp2_with fail
      with_reducible refine (inRange_w (m:Int) 0 ((i:Int)-1) true _ hu2).mono ?_
      rintro e wq ⟨rfl,rfl⟩;have hsz:w.heap.size+1<u2.heap.size:=ltS HN.out
      go_upto_region 11 with (first|(refine ldN _ u bl (off+m*34) rfl rfl rfl HU.out ?_)|(refine stN (.tmp 6) (.tmp 112) u u2.heap.size 0 rfl rfl rfl rfl (newS _ _) (by show (0+34:Nat)≤34;omega) ?_))
      refine wp_genGG (fun W=>W.heap[u2.heap.size]?=some (.cells (valsNr u).toArray 90 (0,0))∧Below u2.heap.size u2 W) ⟨new_full u rfl rfl,below_setCells (Nat.le_refl _) _ _ _ (balloc (Below.refl _ _))⟩ (fun W9 h9=>?_);obtain ⟨hn9,hb9⟩:=h9;have HN9:=hD hn9;clear x0 x1 x2 x4 x5 x6 x7 x8 x20 x21 HRP HRL HRC hx0;replace HX:=hbk hb9 HX;replace HN:=hbk hb9 HN;replace HB:=hD (bkeep2 HB.out hb9)
      clear hb9;have y4:W9.cell? ⟨u2.heap.size,4,none⟩=some (.int .i64 u.n.ki):=cellS HN9.out 4;have y5:W9.cell? ⟨u2.heap.size,5,none⟩=some (.slice u.ca u.n.cs.length u.cc):=cellS HN9.out 5;have y6:W9.cell? ⟨u2.heap.size,6,none⟩=some (.slice u.ra u.n.rs.length u.rc):=cellS HN9.out 6;clear hn9
      by_cases hq:u.n.ki=1
      ·rw [hq] at y4
       have hcb:cellB u.n.cs.length u.n.rs.length p.n.ce=b:=by rw [<- HB3.out];simp [hq]
       have HCB:=hD hcb;have hrc:=node_ce (nodeAt HN.out);simp only [Nat.zero_add] at hrc;have HRC:=hD hrc;clear hq hcb HB3 hrc
       go_wp2_with (refine ldCellH HRC rfl rfl rfl ?_)
       with_reducible refine (svalidCell_v p.n.ce u.n.cs.length u.n.rs.length 0 u.cc u.rc 0 u.ca u.ra none b _ mu1 mu2 HCB.out).mono ?_
       rintro e u9 ⟨rfl,hbu⟩;clear y4 y5 y6 HRC;replace HB:=hD (bkeep2 HB.out hbu);clear hbu;go_wp2;go_ret;exact ⟨rfl,HB.out⟩
      ·obtain rfl:true=b:=by rw [<- HB3.out];simp [hq]
       have f9:(u.n.ki == 1)=false:=by rw [beq_eq_false_iff_ne];exact hq
       have f8:(u.n.ki != 1)=true:=by simp [bne,f9]
       have f7:decide (u.n.ki=1)=false:=decide_eq_false hq;have HQ:=hD hq;clear hq;go_wp2;go_ret;exact ⟨rfl,HB.out⟩
 ·rw [if_neg hk] at HBB
  have f1:(p.n.ki == 1)=false:=by rw [beq_eq_false_iff_ne];exact hk
  have f2:(p.n.ki != 1)=true:=by simp [bne,f1]
  have f1':decide (p.n.ki=1)=false:=decide_eq_false hk;have HK:=hD hk;clear hk
  by_cases g1:p.n.cs.length=0
  ·rw [g1] at x5
   by_cases g2:p.n.rs.length=0
   ·rw [g2] at x6
    have hb2:(upB i p.n&&clB (R.map Nr.n) i p.n)=b:=by rw [<- HBB.out,decide_eq_true g1,decide_eq_true g2];rfl
    have HB2:=hD hb2;clear hb2 HBB g1 g2
    go_upto_region 6 with (fail)
    by_cases hz:i=0
    ·subst hz
     have hbz:(p.n.pa == -1)=b:=by rw [<- HB2.out];simp only [upB,clB,if_true,Bool.and_true];rfl
     have HBZ:=hD hbz;clear hbz HB2;go_wp2;go_ret;exact ⟨ret_bool HBZ.out,HB.out⟩
    ·have z0:((i:Int) == 0)=false:=by rw [beq_eq_false_iff_ne];omega
     have z1:decide ((i:Int)=0)=false:=decide_eq_false (by omega)
     cases hu:upB i p.n
     ·obtain rfl:false=b:=by rw [<- HB2.out,hu];rfl
      have hu2:rng p.n.pa 0 ((i:Int)-1)=false:=by have:=hu;unfold upB at this;rwa [if_neg hz] at this
      go_wp2_with fail
      with_reducible refine (inRange_w p.n.pa 0 ((i:Int)-1) false _ hu2).mono ?_
      rintro e wq ⟨rfl,rfl⟩;go_wp2;go_ret;exact ⟨rfl,HB.out⟩
     ·have hu2:rng p.n.pa 0 ((i:Int)-1)=true:=by have:=hu;unfold upB at this;rwa [if_neg hz] at this
      have hb3:clB (R.map Nr.n) i p.n=b:=by rw [<- HB2.out,hu];rfl
      obtain ⟨m,hpm⟩:=Int.eq_ofNat_of_zero_le (rng_iff.1 hu2).1
      have hmi:m<i:=by have:=(rng_iff.1 hu2).2;omega
      have hml:m<R.length:=by omega
      have hmu:R[m]?=some R[m]:=List.getElem?_eq_getElem hml;unfold clB at hb3;rw [if_neg hz,hpm] at hb3;simp only [Int.toNat_natCast] at hb3;rw [List.getElem?_map,hmu] at hb3;simp only [Option.map_some] at hb3;have hmm:=HM.out _ (List.mem_of_getElem? hmu);generalize R[m]=u at *;obtain ⟨mu1,mu2⟩:=hmm;obtain ⟨bl2,off2,e9,hbl2,hcu⟩:=HV.out.cells (by omega)
      cases e9
      have HU:=hD (hcu m u hmu);have HB3:=hD hb3
      have hmr:(m:Int)<(R.length:Int):=by omega
      rw [hpm] at x0 hu2;have hx0:=cellS HX.out 0;clear hcu hmu hb3 HB2 hu hpm
      go_wp2_with fail
      with_reducible refine (inRange_w (m:Int) 0 ((i:Int)-1) true _ hu2).mono ?_
      rintro e wq ⟨rfl,rfl⟩;have hsz:w.heap.size+1<v2.heap.size:=ltS HN.out
      go_upto_region 11 with (first|(refine ldN _ u bl (off+m*34) rfl rfl rfl HU.out ?_)|(refine stN (.tmp 6) (.tmp 112) u v2.heap.size 0 rfl rfl rfl rfl (newS _ _) (by show (0+34:Nat)≤34;omega) ?_))
      refine wp_genGG (fun W=>W.heap[v2.heap.size]?=some (.cells (valsNr u).toArray 90 (0,0))∧Below v2.heap.size v2 W) ⟨new_full u rfl rfl,below_setCells (Nat.le_refl _) _ _ _ (balloc (Below.refl _ _))⟩ (fun W9 h9=>?_);obtain ⟨hn9,hb9⟩:=h9;have HN9:=hD hn9;clear x0 x1 x2 x4 x5 x6 x7 x8 x20 x21 HRP HRL HRC hx0;replace HX:=hbk hb9 HX;replace HN:=hbk hb9 HN;replace HB:=hD (bkeep2 HB.out hb9)
      clear hb9;have y4:W9.cell? ⟨v2.heap.size,4,none⟩=some (.int .i64 u.n.ki):=cellS HN9.out 4;have y5:W9.cell? ⟨v2.heap.size,5,none⟩=some (.slice u.ca u.n.cs.length u.cc):=cellS HN9.out 5;have y6:W9.cell? ⟨v2.heap.size,6,none⟩=some (.slice u.ra u.n.rs.length u.rc):=cellS HN9.out 6;clear hn9
      by_cases hq:u.n.ki=1
      ·rw [hq] at y4
       have hcb:cellB u.n.cs.length u.n.rs.length p.n.ce=b:=by rw [<- HB3.out];simp [hq]
       have HCB:=hD hcb;have hrc:=node_ce (nodeAt HN.out);simp only [Nat.zero_add] at hrc;have HRC:=hD hrc;clear hq hcb HB3 hrc
       go_wp2_with (refine ldCellH HRC rfl rfl rfl ?_)
       with_reducible refine (svalidCell_v p.n.ce u.n.cs.length u.n.rs.length 0 u.cc u.rc 0 u.ca u.ra none b _ mu1 mu2 HCB.out).mono ?_
       rintro e u9 ⟨rfl,hbu⟩;clear y4 y5 y6 HRC;replace HB:=hD (bkeep2 HB.out hbu);clear hbu;go_wp2;go_ret;exact ⟨rfl,HB.out⟩
      ·obtain rfl:true=b:=by rw [<- HB3.out];simp [hq]
       have f9:(u.n.ki == 1)=false:=by rw [beq_eq_false_iff_ne];exact hq
       have f8:(u.n.ki != 1)=true:=by simp [bne,f9]
       have f7:decide (u.n.ki=1)=false:=decide_eq_false hq;have HQ:=hD hq;clear hq;go_wp2;go_ret;exact ⟨rfl,HB.out⟩
   ·have k2:decide ((0:Int)<((p.n.rs.length:Nat):Int))=true:=decide_eq_true (by omega)
    have k2n:0<p.n.rs.length:=by omega
    obtain rfl:false=b:=by rw [<- HBB.out,decide_eq_false g2,Bool.and_false];rfl
    clear g1 g2;go_wp2;go_ret;exact ⟨rfl,HB.out⟩
  ·have k1:decide ((0:Int)<((p.n.cs.length:Nat):Int))=true:=decide_eq_true (by omega)
   have k1n:0<p.n.cs.length:=by omega
   obtain rfl:false=b:=by rw [<- HBB.out,decide_eq_false g1,Bool.false_and];rfl
   clear g1;go_wp2;go_ret;exact ⟨rfl,HB.out⟩
theorem svalidTree_v (A:Option Addr) (c:Nat) (R:List Nr) (b:Bool) (w:World) (h:NrV w A R) (hr:RdR w R) (hL:R.length≤1048576) (hm:∀ p∈R,p.n.cs.length≤1048576∧p.n.rs.length≤1048576) (hb:treeB (R.map Nr.n)=b) :
  Calls Tryz.prog 43 #[.agg #[.slice A R.length c]] w fun e w'=>e=.returned (.bool b)∧Below w.heap.size w w':=by
 have hB0:Below w.heap.size w (w.alloc (.cells #[.slice A R.length c] 30 (0,0))):=balloc (Below.refl _ _);have HX:=hD (newS w (.cells #[.slice A R.length c] 30 (0,0)));have HB:=hD hB0;have HV:=hD (h.keep hB0);have HR:=hD (hr.keep hB0);have HM:=hD hm;have HBB:=hD hb;clear hB0 h hr hm hb
 go_enter Tryz.func43,Tryz.ntmps43
 go_wp2_with fail
 go_loopw [3] (fun i wr=>∃ k:Nat,k≤R.length∧i=.int .i64 k∧(List.range k).all (nokB (R.map Nr.n))=true∧wr.heap[w.heap.size]?=some (.cells #[.slice A R.length c] 30 (0,0))∧NrV wr A R∧RdR wr R∧Below w.heap.size w wr) (fun i _=>R.length-(intOf i).toNat)
 case atStart=>exact ⟨0,by omega,rfl,rfl,HX.out,HV.out,HR.out,HB.out⟩
 case round =>
  obtain ⟨k,hk,rfl,hall,hx,hv,hr,hB⟩:=hrel;clear HX HV HR HB;have hx0:=cellS hx 0;have lx:=ltS hx;have HX:=hD hx;have HV:=hD hv;have HR:=hD hr;have HB:=hD hB;have HALL:=hD hall;clear hx hv hr hB hall
  by_cases hlt:k<R.length
  ·have hd:decide ((k:Int)<(R.length:Int))=true:=by simpa using hlt
   have hget:R[k]?=some R[k]:=List.getElem?_eq_getElem hlt;generalize R[k]=p at *;have hnb:nokB (R.map Nr.n) k=(ndB p.n&&(upB k p.n&&clB (R.map Nr.n) k p.n)):=nokB_at (by rw [List.getElem?_map,hget];rfl);rw [nd_sp] at hnb;have HNB:=hD hnb;have HG:=hD hget;clear hnb hget
   have hcv:∀ cb,nokB (R.map Nr.n) k=cb→Calls Tryz.prog 70 #[.agg #[.slice A R.length c],.int .i64 k] wr fun e w'=>e=.returned (.bool cb)∧Below wr.heap.size wr w':=by
    intro cb hcb;rw [HNB.out] at hcb
    cases h0:spB p.n
    ·obtain rfl:false=cb:=by rw [<- hcb,h0];rfl
     exact svalidNode_no A c R k p _ HV.out HR.out HG.out hL HM.out h0
    ·exact svalidNode_yes A c R k p cb _ HV.out HR.out HG.out hL HM.out h0 (by rw [<- hcb,h0,Bool.true_and])
   cases h1:nokB (R.map Nr.n) k
   ·have HC:=hD (hcv false h1);clear hcv HNB
    go_wp2_with fail
    with_reducible refine (HC.out).mono ?_
    rintro e w1 ⟨rfl,hb⟩;clear hx0 HC;replace HB:=hD (bkeep2 HB.out hb);clear hb;have HH1:=hD h1;clear h1;go_wp2;go_ret;refine ⟨ret_bool ?_,HB.out⟩;rw [<- HBB.out];unfold treeB;rw [List.length_map,all_falseG (k:=k) (p:=k) (by rw [List.getElem?_range (by omega)]) HH1.out,Bool.and_false]
   ·have HC:=hD (hcv true h1);clear hcv HNB
    go_wp2_with fail
    with_reducible refine (HC.out).mono ?_
    rintro e w1 ⟨rfl,hb⟩;clear hx0 HC;replace HX:=hbk hb HX;replace HV:=hD (HV.out.keep hb);replace HR:=hD (HR.out.keep hb);replace HB:=hD (bkeep2 HB.out hb);clear hb;have HH1:=hD h1;clear h1;go_wp2
    go_roundw
    case rel=>exact ⟨k+1,by omega,by go_num,by rw [range_all_succ,HALL.out,HH1.out];rfl,HX.out,HV.out,HR.out,HB.out⟩
    case measure=>simp [intOf];omega
  ·have hd:decide ((k:Int)<(R.length:Int))=false:=decide_eq_false (by omega)
   obtain rfl:k=R.length:=by omega
   cases hl:rng R.length 1 10
   ·obtain rfl:false=b:=by rw [<- HBB.out];unfold treeB;rw [List.length_map,hl];rfl
    go_wp2_with fail
    with_reducible refine (inRange_w _ 1 10 false _ hl).mono ?_
    rintro e wq ⟨rfl,rfl⟩;go_wp2;go_ret;exact ⟨rfl,HB.out⟩
   ·obtain rfl:true=b:=by rw [<- HBB.out];unfold treeB;rw [List.length_map,hl,HALL.out];rfl
    go_wp2_with fail
    with_reducible refine (inRange_w _ 1 10 true _ hl).mono ?_
    rintro e wq ⟨rfl,rfl⟩;go_wp2;go_ret;exact ⟨rfl,HB.out⟩
theorem ValidTree_n (A:Option Addr) (c k:Nat) (R:List Nr) (b:Bool) (w:World) (hk:k=R.length) (h:NrV w A R) (hr:RdR w R) (hL:R.length≤1048576) (hm:∀ p∈R,p.n.cs.length≤1048576∧p.n.rs.length≤1048576) (hb:treeB (R.map Nr.n)=b) :
  Calls Tryz.prog 58 #[.agg #[.slice A k c]] w fun e w'=>e=.returned (.bool b)∧Below w.heap.size w w':=by
 subst hk;exact ValidTree_v A c R b w h hr hL hm hb
theorem svalidTree_n (A:Option Addr) (c k:Nat) (R:List Nr) (b:Bool) (w:World) (hk:k=R.length) (h:NrV w A R) (hr:RdR w R) (hL:R.length≤1048576) (hm:∀ p∈R,p.n.cs.length≤1048576∧p.n.rs.length≤1048576) (hb:treeB (R.map Nr.n)=b) :
  Calls Tryz.prog 43 #[.agg #[.slice A k c]] w fun e w'=>e=.returned (.bool b)∧Below w.heap.size w w':=by
 subst hk;exact svalidTree_v A c R b w h hr hL hm hb
theorem inRange_u (n a b:Int) (r:Bool) (w:World) (h:rng n a b=r):Calls Tryz.prog 44 #[.int .i64 n,.int .i64 a,.int .i64 b] w fun e w'=>e=.returned (.bool r)∧w=w':=by
 rw [<- h];exact inRange_any n a b w
theorem has_v (A:Option Addr) (c k:Nat) (i:Int) (r:Bool) (w:World) (hk:k≤1048576) (h:rng i 0 ((k:Int)-1)=r):Calls Tryz.prog 41 #[.agg #[.slice A k c],.int .i64 i] w fun e w'=>e=.returned (.bool r)∧Below w.heap.size w w':=by
 go_enter Tryz.func41,Tryz.ntmps41
 go_wp2_with fail
 with_reducible refine (within_w i 0 ((k:Int)-1) r _ h).mono ?_
 rintro e w' ⟨rfl,rfl⟩;go_wp2;go_ret;exact ⟨rfl,balloc (Below.refl _ _)⟩
theorem goodNode_v (A:Option Addr) (c k:Nat) (R:List Nr) (i:Int) (b:Bool) (w:World) (hk:k=R.length) (h:NrV w A R) (hr:RdR w R) (hL:R.length≤1048576) (hm:∀ p∈R,p.n.cs.length≤1048576∧p.n.rs.length≤1048576) (hb:(treeB (R.map Nr.n)&&rng i 0 ((k:Int)-1))=b) :
  Calls Tryz.prog 38 #[.agg #[.slice A k c],.int .i64 i] w fun e w'=>e=.returned (.bool b)∧Below w.heap.size w w':=by
 have hkl:k≤1048576:=by omega
 have hB0:Below w.heap.size w (w.alloc (.cells #[.slice A k c] 30 (0,0))):=balloc (Below.refl _ _);have HX:=hD (newS w (.cells #[.slice A k c] 30 (0,0)));have HB:=hD hB0;have HV:=hD (h.keep hB0);have HR:=hD (hr.keep hB0);have HM:=hD hm;have HK:=hD hk;have x0:=cellS HX.out 0;clear hB0 h hr hm hk
 cases ht:treeB (R.map Nr.n)
 ·obtain rfl:false=b:=by rw [<- hb,ht];rfl
  have HT:=hD ht;clear hb ht
  go_enter Tryz.func38,Tryz.ntmps38
  go_wp2_with fail
  with_reducible refine (svalidTree_n A c k R false _ HK.out HV.out HR.out hL HM.out HT.out).mono ?_
  rintro e w1 ⟨rfl,hb⟩;clear x0;replace HX:=hbk hb HX;replace HB:=hD (bkeep2 HB.out hb);clear hb;have x0:=cellS HX.out 0;go_wp2;go_ret;exact ⟨rfl,HB.out⟩
 ·have hb2:rng i 0 ((k:Int)-1)=b:=by rw [<- hb,ht];rfl
  have HT:=hD ht;have HBB:=hD hb2;clear hb ht hb2
  go_enter Tryz.func38,Tryz.ntmps38
  go_wp2_with fail
  with_reducible refine (svalidTree_n A c k R true _ HK.out HV.out HR.out hL HM.out HT.out).mono ?_
  rintro e w1 ⟨rfl,hb⟩;clear x0;replace HX:=hbk hb HX;replace HB:=hD (bkeep2 HB.out hb);clear hb;have x0:=cellS HX.out 0
  go_wp2_with fail
  with_reducible refine (inRange_u i 0 ((k:Int)-1) b _ HBB.out).mono ?_
  rintro e w2 ⟨rfl,rfl⟩;go_wp2;go_ret;exact ⟨rfl,HB.out⟩
theorem trOK_of {L:List Nd} (h:treeB L=true):TrOK L where
 l1:=(tree_len h).1
 l10:=(tree_len h).2
 up:=fun k n hn=>by
  obtain ⟨_,hu,_⟩:=tree_nok h hn;unfold upB at hu
  split at hu
  ·rename_i e;exact .inl ⟨e,by simpa using hu⟩
  ·rename_i e;rw [rng_iff] at hu;right;omega
 sz:=fun k n hn=>by
  obtain ⟨hd,_,_⟩:=tree_nok h hn;simp only [ndB,Bool.and_eq_true,rng_iff] at hd;obtain ⟨⟨h1,h2⟩,h3,_⟩:=hd;exact ⟨h1,h2,by omega⟩
 pk:=fun k n hn=>by
  obtain ⟨hd,_,_⟩:=tree_nok h hn;simp only [ndB,Bool.and_eq_true] at hd;exact hd.2.2.2.1
 pl:=fun k n hn=>by
  obtain ⟨hd,_,_⟩:=tree_nok h hn;simp only [ndB,Bool.and_eq_true] at hd;exact hd.2.2.2.2.2.2.2.2
 li:=fun k n hn h1=>own_lines (tree_nok h hn).1 h1
 ce:=fun k n u hn h0 hu h1=>by
  obtain ⟨_,_,hc⟩:=tree_nok h hn;unfold clB at hc;rw [if_neg (by omega),hu] at hc
  simpa [h1] using hc

end Go.Proofs.YtmmfifgdgbmgjaaGreat
