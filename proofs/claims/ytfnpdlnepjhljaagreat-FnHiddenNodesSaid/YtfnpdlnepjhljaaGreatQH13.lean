import Derived.Test.YtfnpdlnepjhljaaGreatQH12
set_option linter.unusedVariables false
set_option linter.unusedSimpArgs false
set_option maxRecDepth 100000
set_option maxHeartbeats 16000000
namespace Go.Proofs.YtfnpdlnepjhljaaGreat
open Go.RowKit
attribute [local go_sem] kZb kZp kZg
section
attribute [local go_sem] jZ0 jZ5 jZ2
inductive Dn (L:List Nd):Nat→Nat→Prop where
 | own (i:Nat):Dn L i i
 | kid {i k j:Nat}:k∈kidD L i→Dn L k j→Dn L i j
theorem Dn.snoc {L:List Nd} {i p k:Nat} (h:Dn L i p) (hk:k∈kidD L p):Dn L i k:=by
 induction h with
 | own i=>exact .kid hk (.own k)
 | kid h1 _ ih=>exact .kid h1 (ih hk)
theorem dn_root {L:List Nd} (hT:TrOK L):∀ (f j:Nat),j<f→j<L.length→Dn L 0 j:=by
 intro f
 induction f with
 | zero=>intro j h;omega
 | succ f ih =>
  intro j h hj
  by_cases h0:j=0
  ·subst h0;exact .own 0
  ·obtain ⟨p,q,n,hp,_,hq⟩:=kid_of hT (by omega) hj;exact (ih p (by omega) (by omega)).snoc (List.mem_of_getElem? hq)
theorem gZq {P:Program} {o:Oper} {a:Act} {w:World} {K:Act→World→Prop} {Q:Exit→Act→World→Prop} (s x:Operand) (t:TypeId) {v xv v':Value} {w':World}
  (ho:o.op=.call { callee:=.builtin .append,args:=#[s,x],argTypes:=#[t,t] }) (hs:a.eval s=v) (hx:a.eval x=xv)
  (hr:(Builtin.append_ #[t,t] o.type #[v,xv]).run P w=.ok v' w') (h:K (a.put o.dst v') w'):o.wp P a w K Q:=by
 unfold Oper.wp execOp;simp only [ho,resolve,invoke,builtin,Sem.run_bind,Sem.run_pure,Result.andThen_ok,List.map_toArray,List.map_cons,List.map_nil,hs,hx,hr];exact h
theorem LyP.put2 {w:World} {g N:Nat} {F:Nat→Re} {K:Nat→Prop} {cs:Array Value} {j:Nat} {r:Re} (hh:w.heap[g]?=some (.cells (wrAt cs (j*4) (jZr r)) 32 (0,0))) (hs:cs.size=N*4) (hc:∀ j,j<N→K j→InS cs (j*4) (jZr (F j))) (hj:j<N) (hr:F j=r):LyP w g N F (fun i=>K i∨i=j):=by
 refine ⟨_,hh,(pZ6 _ _ _).trans hs,fun i hi ki=>?_⟩
 by_cases e:i=j
 ·subst e;rw [hr];exact InS.write (by rw [hs];show i*4+4≤_;omega)
 ·rcases ki with h1 | h1
  ·refine (hc i hi h1).keepS ?_
   show i*4+4≤_∨j*4+4≤_
   omega
  ·exact absurd h1 e
theorem reR_rv {w:World} {v:Value} {M:List Rc} (h:RV w v M):ReR w v (M.map rcRe):=by
 obtain ⟨A,c,rfl,hc⟩:=h;refine ⟨A,c,by rw [List.length_map],⟨fun h0=>?_⟩⟩;obtain ⟨b,rfl,hb,hp⟩:=hc (by rwa [List.length_map] at h0);refine ⟨b,0,rfl,hb,fun i q hq=>?_⟩;rw [List.getElem?_map] at hq;obtain ⟨r,hr,rfl⟩:=Option.map_eq_some_iff.1 hq;obtain ⟨c0,c1,c2,c3⟩:=hp i r hr;rw [Nat.zero_add];exact ⟨c0,c1,c2,c3⟩
def RrV (lo:Nat) (w:World) (v:Value) (M:List Re):Prop:=ReR w v M∧∀ k,v.ownBlock=some k→lo≤k
theorem RrV.keep {lo:Nat} {w w':World} {v:Value} {M:List Re} (h:RrV lo w v M) (hb:Below w.heap.size w w'):RrV lo w' v M:=⟨h.1.keep hb,h.2⟩
def PkV (w:World) (v:Value) (n:Nat) (L:List Pk):Prop:=∃ A c,v=.slice A n c∧PV w A L∧n≤c
theorem PkV.keep {w w':World} {v:Value} {n:Nat} {L:List Pk} (h:PkV w v n L) (hb:Below w.heap.size w w'):PkV w' v n L:=let ⟨A,c,e,q,hc⟩:=h;⟨A,c,e,q.keep hb,hc⟩
def GdV (w:World) (v:Value) (p:Nr) (n:Nat) (L:List Ce):Prop:=∃ A c,v=.agg (qZk p (.slice A n c)).toArray∧CeV w A L
theorem GdV.keep {w w':World} {v:Value} {p:Nr} {n:Nat} {L:List Ce} (h:GdV w v p n L) (hb:Below w.heap.size w w'):GdV w' v p n L:=let ⟨A,c,e,q⟩:=h;⟨A,c,e,q.keep hb⟩
theorem laid_v (A:Option Addr) (c:Nat) (R:List Nr) (a b:Int) (hT:TrOK (R.map Nr.n)) (ha:0≤a∧a≤400) (hb:0≤b∧b≤400) (w0:World) (hV:NrV w0 A R) (hR:RdR w0 R) (g:Nat) (hg:w0.heap.size≤g):∀ (f i:Nat) (w:World) (K:Nat→Prop) (r:Re),R.length≤f+i→i<R.length→lrM (R.map Nr.n) a b i=r→Below w0.heap.size w0 w→LyP w g R.length (lrM (R.map Nr.n) a b) K →
  Calls Tryz.prog 102 #[.agg #[.slice A R.length c],.int .i64 (i:Int),.agg #[.int .i64 r.x,.int .i64 r.y,.int .i64 r.u,.int .i64 r.v],.slice (some ⟨g,0,none⟩) R.length R.length] w fun e w'=>(∃ v,e=.returned v)∧LyP w' g R.length (lrM (R.map Nr.n) a b) (fun j=>K j∨Dn (R.map Nr.n) i j)∧w.grownBy w' (some g):=by
 have hL10:R.length≤10:=by have:=hT.l10;rwa [List.length_map] at this
 have hL1:1≤R.length:=by have:=hT.l1;rwa [List.length_map] at this
 obtain ⟨bn,off,rfl,hbn,hcn⟩:=id hV.cells (by omega);have HCN:=hD hcn;have HV:=hD hV;have HR:=hD hR;have HAB:=hD (And.intro ha hb);clear hcn hV hR ha hb;obtain ⟨ti,tz,ti1,ti2,ti3,ti4,ti5⟩:=cZw;intro f
 induction f with
 | zero=>intro i w K r h1 h2;omega
 | succ f ih =>
 intro i w K r hf hi hrr hB hly
 have hlm:i<(R.map Nr.n).length:=by rw [List.length_map];exact hi
 have hget:R[i]?=some R[i]:=List.getElem?_eq_getElem hi
 have hmg:(R.map Nr.n)[i]?=some R[i].n:=by rw [List.getElem?_map,hget];rfl
 have hkis:=(hT.sz i _ hmg).2.2;have hcp:=HCN.out i _ hget;generalize hp0:R[i]=p at *;obtain ⟨hq,hrx,hry⟩:=eZx hT HAB.out.1 HAB.out.2 hlm;rw [hrr] at hq hrx hry
 have HIH:=hD (show ∀ (m k:Nat) (q:Re),(kidD (R.map Nr.n) i)[m]?=some k→lrM (R.map Nr.n) a b k=q→∀ (W:World) (K':Nat→Prop),Below w0.heap.size w0 W→LyP W g R.length (lrM (R.map Nr.n) a b) K'→Calls Tryz.prog 102 #[.agg #[.slice (some ⟨bn,off,none⟩) R.length c],.int .i64 (k:Int),.agg #[.int .i64 q.x,.int .i64 q.y,.int .i64 q.u,.int .i64 q.v],.slice (some ⟨g,0,none⟩) R.length R.length] W fun e w'=>(∃ v,e=.returned v)∧LyP w' g R.length (lrM (R.map Nr.n) a b) (fun j=>K' j∨Dn (R.map Nr.n) k j)∧W.grownBy w' (some g) from fun m k q hk hq W K' hW hl=>ih k W K' q (by have:=vZq hT (List.mem_of_getElem? hk);omega) (by have:=rZb (List.mem_of_getElem? hk);rwa [List.length_map] at this) hq hW hl)
 have HMG:=hD hmg;have HKI:=hD hkis;have HGI:=hD hget;have HQR:=hD hq;have HXY:=hD (And.intro hrx hry);have HCP:=hD hcp;have lgw:g<w.heap.size:=hly.lt
 have hdi:(i:Int)<(R.length:Int):=by omega
 have HLY:=hD hly;have HB:=hD hB;have HRR:=hD hrr;clear ih hget hmg hp0 hB hly hkis hcp hq hrx hry hrr HCN
 go_enter Tryz.func102,Tryz.ntmps102
 go_upto_region 1 with (fail)
 refine kZf (fun W=>W.heap[w.heap.size]?=some (.cells #[.slice (some ⟨bn,off,none⟩) R.length c] 25 (0,0))∧W.heap[w.heap.size+1]?=some (.cells #[.int .i64 r.x,.int .i64 r.y,.int .i64 r.u,.int .i64 r.v] 32 (0,0))∧Below w.heap.size w W) ⟨(Below.heap_alloc _ _ w.heap.size (by simp)).trans (newS w _),uZx w _ _,jZd (jZd (Below.refl _ _))⟩ (fun W1 h1=>?_);obtain ⟨hx,hz,hb1⟩:=h1
 obtain ⟨cs,hc,hs,hcc⟩:=HLY.out.keep hb1;have z0:=jZc hz 0;have z1:=jZc hz 1;have z2:=jZc hz 2;have z3:=jZc hz 3;obtain ⟨y0,d0⟩:=pZz hc (i:=i*4) (by rw [hs];omega);obtain ⟨y1,d1⟩:=pZz hc (i:=i*4+1) (by rw [hs];omega);obtain ⟨y2,d2⟩:=pZz hc (i:=i*4+2) (by rw [hs];omega);obtain ⟨y3,d3⟩:=pZz hc (i:=i*4+3) (by rw [hs];omega);have f0:=jZm hc (i*4);have f1:=jZm hc (i*4+1)
 have f2:=jZm hc (i*4+2);have f3:=jZm hc (i*4+3);have lz:=ltS hz;have lc:=ltS hc;have HX:=hD hx;have HZ:=hD hz;have HC:=hD hc;have HS:=hD hs;have HCC:=hD hcc;have HB1:=hD hb1;clear hx hz hc hs hcc hb1
 go_upto_region 2 with (fail)
 refine kZf (fun W=>W.heap[w.heap.size]?=some (.cells #[.slice (some ⟨bn,off,none⟩) R.length c] 25 (0,0))∧W.heap[w.heap.size+1]?=some (.cells #[.int .i64 r.x,.int .i64 r.y,.int .i64 r.u,.int .i64 r.v] 32 (0,0))∧LyP W g R.length (lrM (R.map Nr.n) a b) (fun j=>K j∨j=i)∧w.grownBy W (some g)) ?hw2 (fun W2 h2=>?_)
 case hw2 =>
  have hg1:=tZ6 (tZ6 (tZ6 (tZ6 (tZy W1 g) (i*4) (.int .i64 r.x)) (i*4+1) (.int .i64 r.y)) (i*4+2) (.int .i64 r.u)) (i*4+3) (.int .i64 r.v)
  exact ⟨(hg1.block _ (ltS HX.out) (fun e=>by have:=Option.some.inj e;omega)).trans HX.out,(hg1.block _ (ltS HZ.out) (fun e=>by have:=Option.some.inj e;omega)).trans HZ.out,LyP.put2 (putRe HC.out (i*4) r) HS.out HCC.out hi HRR.out,tZ6 (tZ6 (tZ6 (tZ6 (qZa (tZy w g) HB1.out) (i*4) (.int .i64 r.x)) (i*4+1) (.int .i64 r.y)) (i*4+2) (.int .i64 r.u)) (i*4+3) (.int .i64 r.v)⟩
 obtain ⟨hx,hz,hly2,hg2⟩:=h2;clear z0 z1 z2 z3 y0 d0 y1 d1 y2 d2 y3 d3 f0 f1 f2 f3 lz lc HX HZ HC HS HCC HB1 cs W1;have hB2:=pZk HB.out hg2 hg HB.out.size;have HX:=hD hx;have HZ:=hD hz;replace HLY:=hD hly2;have HG:=hD hg2;have x0:=jZc hx 0;have lx:=ltS hx;have HB2:=hD hB2;clear hx hz hly2 hg2 hB2
 go_wp2_with fail
 with_reducible refine (gZf (some ⟨bn,off,none⟩) c R (i:Int) _ (HV.out.keep HB2.out) hL1 (by omega) (kid_no0 hT i)).mono ?_
 rintro e W3 ⟨⟨kv,rfl,hkv,hkf⟩,hb3⟩;rw [eZv] at hkv;obtain ⟨kA,kc,hkv,hkn,-⟩:=hkv;rw [List.length_map] at hkv;subst hkv;have hsz2:=HG.out.size;have HKF:=hD (show ∀ b0 o,kA=some ⟨b0,o,none⟩→w.heap.size≤b0 from fun b0 o e=>Nat.le_trans hsz2 (hkf b0 (by rw [e];rfl)));replace HX:=hD ((hb3.block _ lx).trans HX.out);replace HZ:=hD ((hb3.block _ (ltS HZ.out)).trans HZ.out)
 replace HLY:=hD (HLY.out.keep hb3);replace HG:=hD (qZa HG.out hb3);replace HB2:=hD (jZa HB2.out hb3);have HKN:=hD hkn;have hkl10:(kidD (R.map Nr.n) i).length≤10:=Nat.le_trans (sZo _ _) (by rw [List.length_map];exact hL10);have HKL:=hD (show ∀ k∈kidD (R.map Nr.n) i,k<R.length from fun k hk=>by have:=rZb hk;rwa [List.length_map] at this)
 have HPL:=hD (eZ2 (L:=(R.map Nr.n)) (g:=szM (R.map Nr.n)) (ks:=kidD (R.map Nr.n) i) (fun k hk=>rZb hk));have HCL:=hD (dZ9 (L:=(R.map Nr.n)) (g:=szM (R.map Nr.n)) (ks:=kidD (R.map Nr.n) i) (fun k hk=>rZb hk));have HML:=hD (kidR_len (R.map Nr.n) i p.n r)
 obtain ⟨M,hM⟩:∃ M,kidR (R.map Nr.n) i p.n r=M:=⟨_,rfl⟩
 have HM:=hD hM;rw [hM] at HML;have HBG:=hD (bg_of hT i);have HGW:=hD (show p.n.ki=1→_ from fun h1=>gw_of hT HMG.out h1)
 obtain ⟨ks,hks⟩:∃ ks,kidD (R.map Nr.n) i=ks:=⟨_,rfl⟩
 rw [hks] at HKN hkl10 HKL HIH HPL HCL HML HBG HGW ⊢;have HKS:=hD hks;have x4:W3.cell? ⟨bn,off+i*34+4,none⟩=some (.int .i64 p.n.ki):=(pZi HCP.out (HB2.out.block bn hbn)) 4 _ rfl;have lbn:bn<W3.heap.size:=Nat.lt_of_lt_of_le hbn HB2.out.size;have x1:=jZc HX.out 0;have lx3:=ltS HX.out;clear hkn hkf hb3 hM hks x0 lx hsz2
 go_upto_block 0 with (fail)
 have ho0:=World.ownsRow_lit (base:=W3.heap.size) (e:=32) (size:=4) W3 #[] 0 (Nat.le_refl _) (by decide) rfl;refine kZf (fun W=>W.ownsRow W3.heap.size 32 4 (.slice (some ⟨W3.heap.size,0,none⟩) 0 0) 0 (qZz [])∧Below W3.heap.size W3 W) ⟨ho0,jZd (Below.refl _ _)⟩ (fun W4 h4=>?_);obtain ⟨ho4,hb4⟩:=h4;have hs3:w.heap.size≤W3.heap.size:=HG.out.size;have HO:=hD ho4;have HB4:=hD hb4
 have hs4:w.heap.size≤W4.heap.size:=Nat.le_trans hs3 hb4.size;clear x4 lbn x1 lx3 ho0 ho4 hb4
 go_cut [9] (fun rv wx=>RrV w.heap.size wx rv M∧Below W3.heap.size W3 wx)
 case first =>
  have hx4:=(HB4.out.block _ (ltS HX.out)).trans HX.out;have hz4:=(HB4.out.block _ (ltS HZ.out)).trans HZ.out;have x1:=jZc hx4 0;have z0:=jZc hz4 0;have z1:=jZc hz4 1;have z2:=jZc hz4 2;have z3:=jZc hz4 3;have lx:=ltS hx4;have lz:=ltS hz4;have HNR3:=hD (HV.out.keep HB2.out);have HNR:=hD (HV.out.keep (jZa HB2.out HB4.out));have HRD:=hD (HR.out.keep (jZa HB2.out HB4.out))
  have HKN4:=hD (HKN.out.keep HB4.out);clear hx4 hz4
  have HSO:=hD (show ∀ k0∈ks,∀ W,Below W4.heap.size W4 W→Calls Tryz.prog 68 #[.agg #[.slice (some ⟨bn,off,none⟩) R.length c],.int .i64 (k0:Int)] W fun e W'=>e=.returned (.tuple #[.int .i64 (szM (R.map Nr.n) k0).1,.int .i64 (szM (R.map Nr.n) k0).2])∧Below W.heap.size W W' from fun k0 hk0 W hW=>sizeOf_v (some ⟨bn,off,none⟩) c R hT R.length k0 W (by omega) (HKL.out k0 hk0) (HNR.out.keep hW) (HRD.out.keep hW))
  rcases HKI.out with hk0 | hk1 | hk2
  ·have e0:(p.n.ki == 0)=true:=by simp [hk0]
   have HPC:=hD (show ∀ A' c' W,PV W A' (pksF (R.map Nr.n) (szM (R.map Nr.n)) ks)→ks.length≤c'→Calls Tryz.prog 140 #[.slice A' ks.length c',.agg #[.int .i64 r.x,.int .i64 r.y,.int .i64 r.u,.int .i64 r.v]] W fun e w'=>(∃ v,e=.returned v∧RrV W.heap.size w' v M)∧Below W.heap.size W w' from fun A' c' W hpv hcap=>by
    obtain ⟨Mp,Zp,hMp⟩:∃ Mp Zp,qZh (pksF (R.map Nr.n) (szM (R.map Nr.n)) ks) ⟨r.x,r.y,r.u,r.v⟩=(Mp,Zp):=⟨_,_,rfl⟩
    have hz:(⟨r.x,r.y,r.u,r.v⟩:Rc).okW:=by have:=pZu.1 HQR.out;have:=HXY.out;unfold Rc.okW;dsimp only;omega
    have hpk:=packed_w A' c' (pksF (R.map Nr.n) (szM (R.map Nr.n)) ks) ⟨r.x,r.y,r.u,r.v⟩ W hpv (by rw [HPL.out];exact hcap) HBG.out hz Mp Zp hMp;rw [HPL.out] at hpk;refine hpk.mono ?_;rintro e w' ⟨⟨v,rfl,hrv,hf⟩,hb⟩;refine ⟨⟨v,rfl,?_,hf⟩,hb⟩;rw [<- HM.out,kidR_pk r (by omega) (by omega),HKS.out,hMp]
    exact reR_rv hrv)
   clear hk0
   go_upto_region 10 with (fail)
   refine kZ8 (XV (.agg #[.slice (some ⟨bn,off,none⟩) R.length c]) :: XV (.slice kA ks.length kc) :: (fun v z=>PkV z v ks.length (pksF (R.map Nr.n) (szM (R.map Nr.n)) ks)) :: XV (.agg #[.int .i64 r.x,.int .i64 r.y,.int .i64 r.u,.int .i64 r.v]) :: (fun v z=>RrV w.heap.size z v M) :: (fun v z=>RrV w.heap.size z v M) :: []) (by kernel_rfl) (by kernel_rfl) ?hTs ?hops ?hfin
   case hTs =>
    intro T hT;simp only [List.mem_cons,List.not_mem_nil,or_false] at hT
    rcases hT with rfl | rfl | rfl | rfl | rfl | rfl <;> first | exact qZn _ | exact qZo | exact kZh (fun v a b x g=>x.keep g) | exact kZh (fun v a b x g=>x)
   case hops =>
    refine ⟨jZb [(4,none)] (by kernel_rfl) rfl ?_,?_⟩
    ·intro act w' hw' h1;obtain ⟨hk,hf⟩:=evkf act;generalize act.eval=ρ at *;replace h1:ρ (.tmp 4)=.pointer (some ⟨w.heap.size,0,none⟩):=h1
     refine gxB hw' fun K hK hc hf'=>?_
     go_simp;exact hK _ _ ⟨rfl,Gr.refl _⟩
    refine ⟨jZb [(8,none)] (by kernel_rfl) rfl ?_,?_⟩
    ·intro act w' hw' h1;obtain ⟨hk,hf⟩:=evkf act;generalize act.eval=ρ at *;replace h1:ρ (.tmp 8)=.slice kA ks.length kc:=h1
     refine gxB hw' fun K hK hc hf'=>?_
     go_simp;exact hK _ _ ⟨rfl,Gr.refl _⟩
    refine ⟨jZb [(48,some 0),(49,some 1)] (by kernel_rfl) rfl ?_,?_⟩
    ·intro act w' hw' h1 h2;obtain ⟨hk,hf⟩:=evkf act;generalize act.eval=ρ at *;replace h1:ρ (.tmp 48)=.agg #[.slice (some ⟨bn,off,none⟩) R.length c]:=h1;replace h2:ρ (.tmp 49)=.slice kA ks.length kc:=h2
     refine gxB hw' fun K hK hc hf'=>?_
     go_simp
     (refine (fZr _ c R ks kA kc ks.length (szM (R.map Nr.n)) _ (HNR.out.keep (jZs hw'.out)) hL1 (by omega) (HKN4.out.keep (jZs hw'.out)) rfl (by omega) HKL.out (fun k0 hk0 W hW=>HSO.out k0 hk0 W (jZa (jZs hw'.out) hW))).mono ?_);rintro e w1 ⟨⟨A',c',rfl,hpv,hcap⟩,hb1⟩;exact ⟨_,rfl,hK _ _ ⟨⟨A',c',rfl,hpv,hcap⟩,hb1⟩⟩
    refine ⟨jZb [(6,none)] (by kernel_rfl) rfl ?_,?_⟩
    ·intro act w' hw' h1;obtain ⟨hk,hf⟩:=evkf act;generalize act.eval=ρ at *;replace h1:ρ (.tmp 6)=.pointer (some ⟨w.heap.size+1,0,none⟩):=h1
     refine gxB hw' fun K hK hc hf'=>?_
     go_simp;exact hK _ _ ⟨rfl,Gr.refl _⟩
    refine ⟨jZb [(50,some 2),(51,some 3)] (by kernel_rfl) rfl ?_,?_⟩
    ·intro act w' hw' h1 h2;obtain ⟨hk,hf⟩:=evkf act;generalize act.eval=ρ at *;replace h1:(fun v z=>PkV z v ks.length (pksF (R.map Nr.n) (szM (R.map Nr.n)) ks)) (ρ (.tmp 50)) w':=h1;replace h2:ρ (.tmp 51)=.agg #[.int .i64 r.x,.int .i64 r.y,.int .i64 r.u,.int .i64 r.v]:=h2
     refine gxB hw' fun K hK hc hf'=>?_
     go_simp;obtain ⟨A',c',e,hpv,hcap⟩:=h1;rw [e];(refine (HPC.out A' c' _ hpv hcap).mono ?_);rintro e w1 ⟨⟨v,rfl,hr,hf⟩,hb1⟩;exact ⟨_,rfl,hK _ _ ⟨⟨hr,fun k0 hk0=>Nat.le_trans (Nat.le_trans hs4 (jZs hw'.out).size) (hf k0 hk0)⟩,hb1⟩⟩
    refine ⟨jZb [(52,some 4)] (by kernel_rfl) rfl ?_,?_⟩
    ·intro act w' hw' h1;obtain ⟨hk,hf⟩:=evkf act;generalize act.eval=ρ at *;replace h1:(fun v z=>RrV w.heap.size z v M) (ρ (.tmp 52)) w':=h1
     refine gxB hw' fun K hK hc hf'=>?_
     go_simp;exact hK _ _ ⟨h1,Gr.refl _⟩
    exact trivial
   case hfin =>
    intro w1 hg1;intro v48 t48;replace t48:v48=.agg #[.slice (some ⟨bn,off,none⟩) R.length c]:=t48;subst t48;intro v49 t49;replace t49:v49=.slice kA ks.length kc:=t49;subst t49;intro v50 t50;replace t50:(fun v z=>PkV z v ks.length (pksF (R.map Nr.n) (szM (R.map Nr.n)) ks)) v50 w1:=t50;intro v51 t51;replace t51:v51=.agg #[.int .i64 r.x,.int .i64 r.y,.int .i64 r.u,.int .i64 r.v]:=t51;subst t51
    intro v52 t52;replace t52:(fun v z=>RrV w.heap.size z v M) v52 w1:=t52;intro v9 t9;replace t9:(fun v z=>RrV w.heap.size z v M) v9 w1:=t9;have hb1:=jZs hg1.out;clear hg1;simp only [finP,Act.put,List.setIfInBounds_toArray,List.set_cons_succ,List.set_cons_zero];go_wp2
    go_meet
    exact ⟨t9,jZa HB4.out hb1⟩
  ·have e0:(p.n.ki == 0)=false:=by simp [hk1]
   have e1:(p.n.ki == 1)=true:=by simp [hk1]
   have HRP:=hD (HRD.out p (List.mem_of_getElem? HGI.out))
   have HGC:=hD (show ∀ A' c' W,RdN W p→CeV W A' (cesF (R.map Nr.n) (szM (R.map Nr.n)) ks)→Calls Tryz.prog 141 #[.agg (qZk p (.slice A' ks.length c')).toArray,.agg #[.int .i64 r.x,.int .i64 r.y,.int .i64 r.u,.int .i64 r.v]] W fun e w'=>(∃ v,e=.returned v∧RrV W.heap.size w' v M)∧Below W.heap.size W w' from fun A' c' W hrd hcv=>by
    have hgd:=gridded_w p.ca p.cc p.n.cs p.ra p.rc p.n.rs A' c' (cesF (R.map Nr.n) (szM (R.map Nr.n)) ks) r.x r.y r.u r.v W hrd.c hrd.r hcv (HGW.out hk1) HQR.out (by have:=pZu.1 HQR.out;have:=HXY.out;omega) (by have:=pZu.1 HQR.out;have:=HXY.out;omega) hrd.cl hrd.rl;rw [HCL.out] at hgd;refine hgd.mono ?_;rintro e w' ⟨⟨v,rfl,hrv,hf⟩,hb⟩;refine ⟨⟨v,rfl,?_,hf⟩,hb⟩
    rw [<- HM.out,kidR_gr r hk1,HKS.out]
    exact hrv)
   clear hk1
   go_upto_region 12 with (fail)
   refine kZ8 (XV (.agg #[.slice (some ⟨bn,off,none⟩) R.length c]) :: XV (.int .i64 (i:Int)) :: XV (.slice kA ks.length kc) :: (fun v z=>GdV z v p ks.length (cesF (R.map Nr.n) (szM (R.map Nr.n)) ks)) :: XV (.agg #[.int .i64 r.x,.int .i64 r.y,.int .i64 r.u,.int .i64 r.v]) :: (fun v z=>RrV w.heap.size z v M) :: (fun v z=>RrV w.heap.size z v M) :: []) (by kernel_rfl) (by kernel_rfl) ?hTs ?hops ?hfin
   case hTs =>
    intro T hT;simp only [List.mem_cons,List.not_mem_nil,or_false] at hT
    rcases hT with rfl | rfl | rfl | rfl | rfl | rfl | rfl <;> first | exact qZn _ | exact qZo | exact kZh (fun v a b x g=>x.keep g) | exact kZh (fun v a b x g=>x)
   case hops =>
    refine ⟨jZb [(4,none)] (by kernel_rfl) rfl ?_,?_⟩
    ·intro act w' hw' h1;obtain ⟨hk,hf⟩:=evkf act;generalize act.eval=ρ at *;replace h1:ρ (.tmp 4)=.pointer (some ⟨w.heap.size,0,none⟩):=h1
     refine gxB hw' fun K hK hc hf'=>?_
     go_simp;exact hK _ _ ⟨rfl,Gr.refl _⟩
    refine ⟨jZb [(1,none)] (by kernel_rfl) rfl ?_,?_⟩
    ·intro act w' hw' h1;obtain ⟨hk,hf⟩:=evkf act;generalize act.eval=ρ at *;replace h1:ρ (.tmp 1)=.int .i64 (i:Int):=h1
     refine gxB hw' fun K hK hc hf'=>?_
     go_simp;exact hK _ _ ⟨rfl,Gr.refl _⟩
    refine ⟨jZb [(8,none)] (by kernel_rfl) rfl ?_,?_⟩
    ·intro act w' hw' h1;obtain ⟨hk,hf⟩:=evkf act;generalize act.eval=ρ at *;replace h1:ρ (.tmp 8)=.slice kA ks.length kc:=h1
     refine gxB hw' fun K hK hc hf'=>?_
     go_simp;exact hK _ _ ⟨rfl,Gr.refl _⟩
    refine ⟨jZb [(55,some 0),(56,some 1),(57,some 2)] (by kernel_rfl) rfl ?_,?_⟩
    ·intro act w' hw' h1 h2 h3;obtain ⟨hk,hf⟩:=evkf act;generalize act.eval=ρ at *;replace h1:ρ (.tmp 55)=.agg #[.slice (some ⟨bn,off,none⟩) R.length c]:=h1;replace h2:ρ (.tmp 56)=.int .i64 (i:Int):=h2;replace h3:ρ (.tmp 57)=.slice kA ks.length kc:=h3
     refine gxB hw' fun K hK hc hf'=>?_
     go_simp
     (refine (gridOf_v _ c R i p ks kA kc ks.length (szM (R.map Nr.n)) _ (HNR.out.keep (jZs hw'.out)) HGI.out (by omega) (HKN4.out.keep (jZs hw'.out)) rfl (by omega) HKL.out (fun k0 hk0 W hW=>HSO.out k0 hk0 W (jZa (jZs hw'.out) hW))).mono ?_);rintro e w1 ⟨⟨A',c',rfl,hcv⟩,hb1⟩;exact ⟨_,rfl,hK _ _ ⟨⟨A',c',rfl,hcv⟩,hb1⟩⟩
    refine ⟨jZb [(6,none)] (by kernel_rfl) rfl ?_,?_⟩
    ·intro act w' hw' h1;obtain ⟨hk,hf⟩:=evkf act;generalize act.eval=ρ at *;replace h1:ρ (.tmp 6)=.pointer (some ⟨w.heap.size+1,0,none⟩):=h1
     refine gxB hw' fun K hK hc hf'=>?_
     go_simp;exact hK _ _ ⟨rfl,Gr.refl _⟩
    refine ⟨jZb [(58,some 3),(59,some 4)] (by kernel_rfl) rfl ?_,?_⟩
    ·intro act w' hw' h1 h2;obtain ⟨hk,hf⟩:=evkf act;generalize act.eval=ρ at *;replace h1:(fun v z=>GdV z v p ks.length (cesF (R.map Nr.n) (szM (R.map Nr.n)) ks)) (ρ (.tmp 58)) w':=h1;replace h2:ρ (.tmp 59)=.agg #[.int .i64 r.x,.int .i64 r.y,.int .i64 r.u,.int .i64 r.v]:=h2
     refine gxB hw' fun K hK hc hf'=>?_
     go_simp;obtain ⟨A',c',e,hcv⟩:=h1;rw [e];(refine (HGC.out A' c' _ (HRP.out.keep (jZs hw'.out)) hcv).mono ?_);rintro e w1 ⟨⟨v,rfl,hr,hf⟩,hb1⟩;exact ⟨_,rfl,hK _ _ ⟨⟨hr,fun k0 hk0=>Nat.le_trans (Nat.le_trans hs4 (jZs hw'.out).size) (hf k0 hk0)⟩,hb1⟩⟩
    refine ⟨jZb [(60,some 5)] (by kernel_rfl) rfl ?_,?_⟩
    ·intro act w' hw' h1;obtain ⟨hk,hf⟩:=evkf act;generalize act.eval=ρ at *;replace h1:(fun v z=>RrV w.heap.size z v M) (ρ (.tmp 60)) w':=h1
     refine gxB hw' fun K hK hc hf'=>?_
     go_simp;exact hK _ _ ⟨h1,Gr.refl _⟩
    exact trivial
   case hfin =>
    intro w2 hg2;intro v55 t55;replace t55:v55=.agg #[.slice (some ⟨bn,off,none⟩) R.length c]:=t55;subst t55;intro v56 t56;replace t56:v56=.int .i64 (i:Int):=t56;subst t56;intro v57 t57;replace t57:v57=.slice kA ks.length kc:=t57;subst t57;intro v58 t58;replace t58:(fun v z=>GdV z v p ks.length (cesF (R.map Nr.n) (szM (R.map Nr.n)) ks)) v58 w2:=t58;intro v59 t59
    replace t59:v59=.agg #[.int .i64 r.x,.int .i64 r.y,.int .i64 r.u,.int .i64 r.v]:=t59;subst t59;intro v60 t60;replace t60:(fun v z=>RrV w.heap.size z v M) v60 w2:=t60;intro v9 t9;replace t9:(fun v z=>RrV w.heap.size z v M) v9 w2:=t9;have hb2:=jZs hg2.out;clear hg2;simp only [finP,Act.put,List.setIfInBounds_toArray,List.set_cons_succ,List.set_cons_zero];go_wp2
    go_meet
    exact ⟨t9,jZa HB4.out hb2⟩
  ·have e0:(p.n.ki == 0)=false:=by simp [hk2]
   have e1:(p.n.ki == 1)=false:=by simp [hk2]
   have HM2:=hD (show M=(plsF (R.map Nr.n) ks).map (fun q=>(⟨r.x+xM q r.u,r.y+yM q r.v,wM q r.u,hM q r.v⟩:Re)) from by rw [<- HM.out,kidR_pl r hk2,HKS.out]);clear hk2
   go_wp2_with fail
   go_loopw [9,10] (fun rv iv wr=>∃ m:Nat,m≤ks.length∧iv=.int .i64 (m:Int)∧wr.ownsRow W3.heap.size 32 4 rv m (qZz (M.take m))∧Below W3.heap.size W3 wr) (fun _ iv _=>ks.length-(intOf iv).toNat)
   case atStart=>exact ⟨0,by omega,rfl,HO.out,HB4.out⟩
   case round =>
    obtain ⟨m,hm,rfl,ho,hBr⟩:=hrel;clear HO x1 z0 z1 z2 z3 lx lz
    by_cases hlt:m<ks.length
    ·have hd:decide ((m:Int)<(ks.length:Int))=true:=by simpa using hlt
     have hdm:(m:Int)<(ks.length:Int):=by omega
     obtain ⟨kd,hkd⟩:∃ kd,ks[m]?=some kd:=⟨_,List.getElem?_eq_getElem hlt⟩
     have hkdl:=HKL.out kd (List.mem_of_getElem? hkd)
     have hkdi:(kd:Int)<(R.length:Int):=by omega
     obtain ⟨s,hs⟩:∃ s,R[kd]?=some s:=⟨_,List.getElem?_eq_getElem hkdl⟩
     obtain ⟨kb,koff,ek,hkb,hkp⟩:=(HKN.out.keep hBr).cells (by rw [List.length_map];omega);have ck:=hkp m (kd:Int) (by rw [List.getElem?_map,hkd];rfl);obtain ⟨b1,o1,e1',hb1,hcs⟩:=(HNR3.out.keep hBr).cells (by omega)
     cases e1'
     have hpl:=kZ2 (hcs kd s hs);have p0:=hpl 0 _ rfl;have p1:=hpl 1 _ rfl;have p2:=hpl 2 _ rfl;have p3:=hpl 3 _ rfl;have p4:=hpl 4 _ rfl;have p5:=hpl 5 _ rfl;have p6:=hpl 6 _ rfl;have p7:=hpl 7 _ rfl;have p8:=hpl 8 _ rfl;simp only [Nat.add_zero] at p0;have hpB:=hT.pl kd s.n (by rw [List.getElem?_map,hs];rfl)
     have hmm:M[m]?=some ⟨r.x+xM s.n.pl r.u,r.y+yM s.n.pl r.v,wM s.n.pl r.u,hM s.n.pl r.v⟩:=by
      rw [HM2.out,List.getElem?_map,show (plsF (R.map Nr.n) ks)[m]?=some s.n.pl from by
       unfold plsF;rw [fm_get (kid_some (fun k hk=>by rw [List.length_map];exact HKL.out k hk) fun _ n=>n.pl),hkd]
       show (((R.map Nr.n))[kd]?).map _=_
       rw [List.getElem?_map,hs]
       rfl]
      rfl
     have hrs:=cZb hmm;have hxr:=(hBr.block _ (ltS HX.out)).trans HX.out;have hzr:=(hBr.block _ (ltS HZ.out)).trans HZ.out;have x1:=jZc hxr 0;have z0:=jZc hzr 0;have z1:=jZc hzr 1;have z2:=jZc hzr 2;have z3:=jZc hzr 3;have lx:=ltS hxr;have lz:=ltS hzr;have hws:W3.heap.size≤wr.heap.size:=hBr.size
     have HXO:=hD (show (-1000000000000000≤r.x∧r.x≤1000000000000000)∧(-1000000000000000≤r.y∧r.y≤1000000000000000) by have:=HXY.out;have:=pZu.1 HQR.out;omega);have HOR:=hD ho;have HRS:=hD hrs;have HBR:=hD hBr;have HEK:=hD ek;have HPB:=hD hpB;have hob:=ho.lt;clear ho hrs hBr hkp hcs hmm hxr hzr hpl hpB hkd hs
     go_wp2_with fail
     rw [ek];refine jZg 12 3 (·<13) (by kernel_rfl) (by kernel_rfl) rfl ?_
     iterate 12 (refine jZ3 (fun K hK=>?_);apply Exists.intro;refine ⟨.inl ⟨rfl,fun w' hw'=>?_⟩,?_⟩;(focus ((obtain ⟨hc,hf⟩:=kZi hw'.out);(have hcS:=kZq hw'.out);go_simp <;> first | rfl|(go_at_call 142;exact placed_w s.n.pl r.x r.y r.u r.v _ HXO.out.1 HXO.out.2 HPB.out HQR.out)));(go_simp;refine hK _ ?_;clear hK K))
     refine jZ9 ?_;refine sZ1 (i:=12) (by kernel_rfl) rfl rfl (by kernel_rfl) (fun wa ha=>?_);go_simp;refine ⟨Gr.alloc _ _,?_⟩;refine jZ1 (by kernel_rfl) (fun w8 h8=>?_);have hb8:Below wr.heap.size wr w8:=sZz (jZd (sZz (Below.refl _ _).drew ha)) h8
     have hgb:=(h8.out.block wa.heap.size (by simp)).trans (newS wa (.cells #[.int .i64 (r.x+xM s.n.pl r.u),.int .i64 (r.y+yM s.n.pl r.v),.int .i64 (wM s.n.pl r.u),.int .i64 (hM s.n.pl r.v)] 32 (0,0)));clear ha h8;generalize wa.heap.size=gb at *;have ho8:=rZh HOR.out hb8
     have hnews:∀ (j:Nat) (u:Value),(jZr ⟨r.x+xM s.n.pl r.u,r.y+yM s.n.pl r.v,wM s.n.pl r.u,hM s.n.pl r.v⟩)[j]?=some u→w8.cell? ((⟨gb,0,none⟩:Addr).add j)=some u:=fun j u hu=>by
      rw [bZh,Nat.zero_add];exact (jZc hgb j).trans (by simpa [jZr] using hu)
     obtain ⟨v8,w9,hap,how8,hgr8,-⟩:=run_append_own (P:=Tryz.prog) w8 W3.heap.size 28 28 32 ti tz 4 32 Tryz.underlying28 ti1 ti2 ti3 ti4 ti5 (by decide) _ m (qZz (M.take m)) ho8 ⟨gb,0,none⟩ 1 1 (jZr ⟨r.x+xM s.n.pl r.u,r.y+yM s.n.pl r.v,wM s.n.pl r.u,hM s.n.pl r.v⟩) rfl hnews (tZ5 _) (by simp only [maxLen];omega) (by omega) (Nat.le_trans hws hb8.size);rw [HRS.out] at how8
     have HO9:=hD how8;have HB9:=hD (vZb (jZa HBR.out hb8) hgr8 ho8.lt (Nat.le_refl _) (Nat.le_refl _));refine jZn (f:=1) (i:=13) (by kernel_rfl) rfl rfl ?_;refine gZq (.tmp 32) (.tmp 44) 28 rfl rfl rfl hap ?_;simp only [Act.put,List.setIfInBounds_toArray,List.set_cons_succ,List.set_cons_zero];refine jZn (f:=0) (i:=14) (by kernel_rfl) rfl rfl ?_;go_simp
     refine jZq (by kernel_rfl) ?_;refine qZp ?_;rw [<- ek];clear p0 p1 p2 p3 p4 p5 p6 p7 p8 ek hap how8 hgr8 ho8 hnews hgb hb8 x1 z0 z1 z2 z3 lx lz hob ck hkb hb1;go_wp2
     go_roundw
     case rel=>exact ⟨m+1,by omega,by go_num,by simpa using HO9.out,HB9.out⟩
     case measure=>simp [intOf];omega
    ·have hd:decide ((m:Int)<(ks.length:Int))=false:=by simp;omega
     obtain rfl:m=ks.length:=by omega
     have he:M.take ks.length=M:=List.take_of_length_le (by rw [HML.out];exact Nat.le_refl _);rw [he] at ho;have HRR2:=hD (show RrV w.heap.size wr u9 M from ⟨ReR.own ho HML.out.symm,fun k hk=>Nat.le_trans hs3 (ho.lt k hk).1⟩);have HBR:=hD hBr;clear ho hBr he;go_wp2
     go_meet
     exact ⟨HRR2.out,HBR.out⟩
 case rest =>
  obtain ⟨⟨hre,hfar⟩,hbc⟩:=hcut;obtain ⟨rA,rc,e9,hrv⟩:=hre;subst e9;have HRV:=hD hrv;have HFR:=hD (show ∀ b0 o,rA=some ⟨b0,o,none⟩→w.heap.size≤b0 from fun b0 o e=>hfar b0 (by rw [e];rfl));replace HX:=hD ((hbc.block _ (ltS HX.out)).trans HX.out);replace HLY:=hD (HLY.out.keep hbc);replace HG:=hD (qZa HG.out hbc);replace HB2:=hD (jZa HB2.out hbc);replace HKN:=hD (HKN.out.keep hbc)
  clear hrv hfar hbc HO HZ HPL HCL HBG HGW
  go_wp2_with fail
  go_loopw [11] (fun kv wr=>∃ m:Nat,m≤ks.length∧kv=.int .i64 (m:Int)∧LyP wr g R.length (lrM (R.map Nr.n) a b) (fun j=>(K j∨j=i)∨∃ m' k',m'<m∧ks[m']?=some k'∧Dn (R.map Nr.n) k' j)∧wc.grownBy wr (some g)) (fun kv _=>ks.length-(intOf kv).toNat)
  case atStart=>exact ⟨0,by omega,rfl,HLY.out.mono fun j _ hj=>hj.elim id fun ⟨m',k',h,_⟩=>absurd h (by omega),tZy _ _⟩
  case round =>
   obtain ⟨m,hm,rfl,hly,hgr⟩:=hrel;clear HLY
   by_cases hlt:m<ks.length
   ·have hd:decide ((m:Int)<(ks.length:Int))=true:=by simpa using hlt
    have hdm:(m:Int)<(ks.length:Int):=by omega
    have hdM:(m:Int)<(M.length:Int):=by rw [HML.out];omega
    obtain ⟨kd,hkd⟩:∃ kd,ks[m]?=some kd:=⟨_,List.getElem?_eq_getElem hlt⟩
    obtain ⟨q,hqm⟩:∃ q,M[m]?=some q:=⟨_,List.getElem?_eq_getElem (by rw [HML.out];exact hlt)⟩
    have hkq:lrM (R.map Nr.n) a b kd=q:=hZp hT HMG.out (by rw [HKS.out];exact hkd) (by rw [HRR.out,HM.out];exact hqm);obtain ⟨kb,koff,ek,hkb,hkp⟩:=HKN.out.cells (by rw [List.length_map];omega);obtain ⟨rb,roff,er,hrb,hrp⟩:=HRV.out.cells (by rw [HML.out];omega)
    have hkg:kb≠g:=by have:=HKF.out kb koff ek;omega
    have hrg:rb≠g:=by have:=HFR.out rb roff er;omega
    have ck:=(World.cell?_of_block (a:=⟨kb,koff+m,none⟩) (hgr.block kb hkb (fun e=>hkg (Option.some.inj e)))).trans (hkp m (kd:Int) (by rw [List.getElem?_map,hkd];rfl));obtain ⟨c0,c1,c2,c3⟩:=hrp m q hqm;have hrbl:=hgr.block rb hrb (fun e=>hrg (Option.some.inj e));replace c0:=(World.cell?_of_block (a:=⟨rb,roff+m*4,none⟩) hrbl).trans c0
    replace c1:=(World.cell?_of_block (a:=⟨rb,roff+m*4+1,none⟩) hrbl).trans c1;replace c2:=(World.cell?_of_block (a:=⟨rb,roff+m*4+2,none⟩) hrbl).trans c2;replace c3:=(World.cell?_of_block (a:=⟨rb,roff+m*4+3,none⟩) hrbl).trans c3;have hxr:=(hgr.block _ (ltS HX.out) (fun e=>by have:=Option.some.inj e;omega)).trans HX.out;have x1:=jZc hxr 0;have lx:=ltS hxr
    have lkb:kb<wr.heap.size:=Nat.lt_of_lt_of_le hkb hgr.size;have lrb:rb<wr.heap.size:=Nat.lt_of_lt_of_le hrb hgr.size;have HLY:=hD hly;have HGR:=hD hgr;have HEK:=hD ek;have HER:=hD er;have HKD:=hD hkd;have HKQ:=hD hkq;clear hly hgr ek er hkd hkq hkp hrp hrbl hxr hqm hkb hrb
    go_wp2_with fail
    refine uZf 10 1 [] #[true,true,true,true,true,true,true,true,true,true,false] (by kernel_rfl) (by kernel_rfl) (by kernel_rfl) (XV (.agg #[.slice (some ⟨bn,off,none⟩) R.length c]) :: XV (.slice kA ks.length kc) :: XV (.int .i64 (m:Int)) :: XV (.pointer (some ⟨kb,koff+m,none⟩)) :: XV (.int .i64 (kd:Int)) :: XV (.slice rA M.length rc) :: XV (.int .i64 (m:Int)) :: XV (.pointer (some ⟨rb,roff+m*4,none⟩)) :: XV (.agg #[.int .i64 q.x,.int .i64 q.y,.int .i64 q.u,.int .i64 q.v]) :: XV (.slice (some ⟨g,0,none⟩) R.length R.length) :: []) (by kernel_rfl) (by kernel_rfl) (by kernel_rfl) ?hTs ?hXs ?hops ?hfin
    case hTs =>
     intro T hT;simp only [List.mem_cons,List.not_mem_nil,or_false] at hT
     rcases hT with rfl | rfl | rfl | rfl | rfl | rfl | rfl | rfl | rfl | rfl <;> first | exact qZn _ | exact qZo | exact kZh (fun v a b x g=>x.keep g) | exact kZh (fun v a b x g=>x)
    case hXs =>
     intro x d s hx;exact absurd hx (List.not_mem_nil)
    case hops =>
     refine ⟨jZb [(4,none)] (by kernel_rfl) rfl ?_,?_⟩
     ·intro act w' hw' h1;obtain ⟨hk,hf⟩:=evkf act;generalize act.eval=ρ at *;replace h1:ρ (.tmp 4)=.pointer (some ⟨w.heap.size,0,none⟩):=h1
      refine gxB hw' fun K hK hc hf'=>?_
      go_simp;exact hK _ _ ⟨rfl,Gr.refl _⟩
     refine ⟨jZb [(8,none)] (by kernel_rfl) rfl ?_,?_⟩
     ·intro act w' hw' h1;obtain ⟨hk,hf⟩:=evkf act;generalize act.eval=ρ at *;replace h1:ρ (.tmp 8)=.slice kA ks.length kc:=h1
      refine gxB hw' fun K hK hc hf'=>?_
      go_simp;exact hK _ _ ⟨rfl,Gr.refl _⟩
     refine ⟨jZb [(11,none)] (by kernel_rfl) rfl ?_,?_⟩
     ·intro act w' hw' h1;obtain ⟨hk,hf⟩:=evkf act;generalize act.eval=ρ at *;replace h1:ρ (.tmp 11)=.int .i64 (m:Int):=h1
      refine gxB hw' fun K hK hc hf'=>?_
      go_simp;exact hK _ _ ⟨rfl,Gr.refl _⟩
     refine ⟨jZb [(68,some 1),(69,some 2)] (by kernel_rfl) rfl ?_,?_⟩
     ·intro act w' hw' h1 h2;obtain ⟨hk,hf⟩:=evkf act;generalize act.eval=ρ at *;replace h1:ρ (.tmp 68)=.slice kA ks.length kc:=h1;replace h2:ρ (.tmp 69)=.int .i64 (m:Int):=h2;refine qZs (fun K hK=>?_);rw [HEK.out] at h1;obtain ⟨hc,hf'⟩:=kZi (jZs hw'.out);go_simp;exact hK _ _ ⟨rfl,Gr.refl _⟩
     refine ⟨jZb [(70,some 3)] (by kernel_rfl) rfl ?_,?_⟩
     ·intro act w' hw' h1;obtain ⟨hk,hf⟩:=evkf act;generalize act.eval=ρ at *;replace h1:ρ (.tmp 70)=.pointer (some ⟨kb,koff+m,none⟩):=h1
      refine gxB hw' fun K hK hc hf'=>?_
      go_simp;exact hK _ _ ⟨rfl,Gr.refl _⟩
     refine ⟨jZb [(9,none)] (by kernel_rfl) rfl ?_,?_⟩
     ·intro act w' hw' h1;obtain ⟨hk,hf⟩:=evkf act;generalize act.eval=ρ at *;replace h1:ρ (.tmp 9)=.slice rA M.length rc:=h1
      refine gxB hw' fun K hK hc hf'=>?_
      go_simp;exact hK _ _ ⟨rfl,Gr.refl _⟩
     refine ⟨jZb [(11,none)] (by kernel_rfl) rfl ?_,?_⟩
     ·intro act w' hw' h1;obtain ⟨hk,hf⟩:=evkf act;generalize act.eval=ρ at *;replace h1:ρ (.tmp 11)=.int .i64 (m:Int):=h1
      refine gxB hw' fun K hK hc hf'=>?_
      go_simp;exact hK _ _ ⟨rfl,Gr.refl _⟩
     refine ⟨jZb [(72,some 5),(73,some 6)] (by kernel_rfl) rfl ?_,?_⟩
     ·intro act w' hw' h1 h2;obtain ⟨hk,hf⟩:=evkf act;generalize act.eval=ρ at *;replace h1:ρ (.tmp 72)=.slice rA M.length rc:=h1;replace h2:ρ (.tmp 73)=.int .i64 (m:Int):=h2;refine qZs (fun K hK=>?_);rw [HER.out] at h1;obtain ⟨hc,hf'⟩:=kZi (jZs hw'.out);go_simp;exact hK _ _ ⟨rfl,Gr.refl _⟩
     refine ⟨jZb [(74,some 7)] (by kernel_rfl) rfl ?_,?_⟩
     ·intro act w' hw' h1;obtain ⟨hk,hf⟩:=evkf act;generalize act.eval=ρ at *;replace h1:ρ (.tmp 74)=.pointer (some ⟨rb,roff+m*4,none⟩):=h1
      refine gxB hw' fun K hK hc hf'=>?_
      go_simp;exact hK _ _ ⟨rfl,Gr.refl _⟩
     refine ⟨jZb [(3,none)] (by kernel_rfl) rfl ?_,?_⟩
     ·intro act w' hw' h1;obtain ⟨hk,hf⟩:=evkf act;generalize act.eval=ρ at *;replace h1:ρ (.tmp 3)=.slice (some ⟨g,0,none⟩) R.length R.length:=h1
      refine gxB hw' fun K hK hc hf'=>?_
      go_simp;exact hK _ _ ⟨rfl,Gr.refl _⟩
     exact trivial
    case hfin =>
     intro w16 hg16;intro v67 t67;replace t67:v67=.agg #[.slice (some ⟨bn,off,none⟩) R.length c]:=t67;subst t67;intro v68 t68;replace t68:v68=.slice kA ks.length kc:=t68;subst t68;intro v69 t69;replace t69:v69=.int .i64 (m:Int):=t69;subst t69;intro v70 t70;replace t70:v70=.pointer (some ⟨kb,koff+m,none⟩):=t70;subst t70;intro v71 t71;replace t71:v71=.int .i64 (kd:Int):=t71;subst t71;intro v72 t72
     replace t72:v72=.slice rA M.length rc:=t72;subst t72;intro v73 t73;replace t73:v73=.int .i64 (m:Int):=t73;subst t73;intro v74 t74;replace t74:v74=.pointer (some ⟨rb,roff+m*4,none⟩):=t74;subst t74;intro v75 t75;replace t75:v75=.agg #[.int .i64 q.x,.int .i64 q.y,.int .i64 q.u,.int .i64 q.v]:=t75;subst t75;intro v76 t76;replace t76:v76=.slice (some ⟨g,0,none⟩) R.length R.length:=t76;subst t76
     have hb16:=jZs hg16.out;clear hg16;simp only [finP,List.take_succ_cons,List.take_zero,Act.put,List.setIfInBounds_toArray,List.set_cons_succ,List.set_cons_zero];refine jZn (i:=10) (by kernel_rfl) rfl rfl ?_;go_simp
     go_at_call 102
     refine (HIH.out m kd q HKD.out HKQ.out _ _ (jZa (pZk HB2.out HGR.out hg HB2.out.size) hb16) (HLY.out.keep hb16)).mono ?_;rintro e w17 ⟨⟨v,rfl⟩,hl17,hg17⟩;go_simp;refine jZq (by kernel_rfl) ?_;refine qZp ?_
     have HL17:=hD (hl17.mono (K':=fun j=>(K j∨j=i)∨∃ m' k',m'<m+1∧ks[m']?=some k'∧Dn (R.map Nr.n) k' j) fun j _ hj=>by
      rcases hj with h | ⟨m',k',h1,h2,h3⟩
      ·exact .inl (.inl h)
      ·by_cases e:m'=m
       ·subst e;rw [HKD.out] at h2;obtain rfl:=Option.some.inj h2;exact .inr h3
       ·exact .inl (.inr ⟨m',k',by omega,h2,h3⟩))
     have HG17:=hD (gt_q (qZa HGR.out hb16) hg17);clear hl17 hg17 hb16 HLY HGR x1 c0 c1 c2 c3 ck lx lkb lrb;go_wp2
     go_roundw
     case rel=>exact ⟨m+1,by omega,by go_num,HL17.out,HG17.out⟩
     case measure=>simp [intOf];omega
   ·have hd:decide ((m:Int)<(ks.length:Int))=false:=by simp;omega
    obtain rfl:m=ks.length:=by omega
    have HL:=hD (hly.mono (K':=fun j=>K j∨Dn (R.map Nr.n) i j) fun j _ hj=>by
     rcases hj with h | h
     ·exact .inl (.inl h)
     ·cases h with
      | own=>exact .inl (.inr rfl)
      | kid h1 h2 =>
       rw [HKS.out] at h1;obtain ⟨m',h3⟩:=List.getElem?_of_mem h1
       exact .inr ⟨m',_,(List.getElem?_eq_some_iff.1 h3).1,h3,h2⟩)
    have HGE:=hD (gt_q HG.out hgr);clear hly hgr;go_wp2
    go_end0
    exact ⟨⟨_,rfl⟩,HL.out,HGE.out⟩
theorem slayout_v (A:Option Addr) (c k:Nat) (R:List Nr) (a b:Int) (w:World) (hT:TrOK (R.map Nr.n)) (hk:k=R.length) (h:NrV w A R) (hr:RdR w R) (ha:0≤a∧a≤400) (hb:0≤b∧b≤400) :
  Calls Tryz.prog 58 #[.agg #[.slice A k c],.int .i64 a,.int .i64 b] w fun e w'=>(∃ g,e=.returned (.slice (some ⟨g,0,none⟩) k k)∧w.heap.size≤g∧ReB w' g ((List.range k).map (lrM (R.map Nr.n) a b)))∧Below w.heap.size w w':=by
 subst hk
 have hL:R.length≤10:=by have:=hT.l10;rwa [List.length_map] at this
 have hL1:0<R.length:=by have:=hT.l1;rw [List.length_map] at this;omega
 obtain ⟨fm,hfm,hmk0⟩:=bZr
 have hmk:=fun w=>hmk0 R.length w (by omega)
 have HFM:=hD (hfm R.length);have HLD:=hD (fun W (hW:Below w.heap.size w W) (hl:LyP W (w.heap.size+1) R.length (lrM (R.map Nr.n) a b) (fun _=>False))=>laid_v A c R a b hT ha hb w h hr (w.heap.size+1) (by omega) R.length 0 W (fun _=>False) ⟨0,0,a,b⟩ (by omega) hL1 (bZg _ _ _) hW hl);clear hmk0 hfm ha hb h hr
 go_enter Tryz.func58,Tryz.ntmps58
 go_upto_region 2 with (fail)
 refine kZf (fun W=>W.heap[w.heap.size]?=some (.cells #[.slice A R.length c] 25 (0,0))∧(∃ cs:Array Value,W.heap[w.heap.size+1]?=some (.cells cs 32 (0,0))∧cs.size=R.length*4)∧Below w.heap.size w W) ⟨(Below.heap_alloc _ _ w.heap.size (by simp)).trans (newS w _),⟨_,uZx w _ _,HFM.out⟩,jZd (jZd (Below.refl _ _))⟩ (fun W1 h1=>?_);obtain ⟨hx,⟨cs,hc,hs⟩,hb1⟩:=h1
 have HC:=hD (HLD.out W1 hb1 ⟨cs,hc,hs,fun j _ h=>h.elim⟩);have x0:=jZc hx 0;have lx:=ltS hx;have HB:=hD hb1;clear hx hc hs hb1 hmk HFM HLD
 go_wp2_with fail
 refine HC.out.mono ?_;rintro e w2 ⟨⟨v,rfl⟩,hl,hg⟩;have HL:=hD (hl.whole fun j hj=>.inr (dn_root hT (j+1) j (by omega) (by rw [List.length_map];exact hj)));have HB2:=hD (pZk HB.out hg (by omega) HB.out.size);clear hl hg x0 lx HC;go_wp2;go_ret;exact ⟨⟨_,rfl,by omega,HL.out⟩,HB2.out⟩
end
def GRB (lo:Nat) (w:World) (x:Value) (M:List Re):Prop:=(x=.slice none 0 0∧M=[])∨∃ g n,x=.slice (some ⟨g,0,none⟩) n n∧n=M.length∧lo≤g∧ReB w g M
def rgG (u v:Int):Bool:=rng u 0 400&&rng v 0 400
theorem cZm {u v:Int} (h:rgG u v=true):(0≤u∧u≤400)∧(0≤v∧v≤400):=by simpa only [rgG,Bool.and_eq_true,pZa] using h
theorem bZ8 (u v:Int) (w:World):Calls Tryz.prog 54 #[.int .i64 u,.int .i64 v] w fun e w'=>e=.returned (.bool (rgG u v))∧w=w':=by
 unfold rgG
 cases h1:rng u 0 400
 ·go_enter Tryz.func54,Tryz.ntmps54
  go_wp2_with fail
  with_reducible refine (pZe _ _ _ _).mono ?_
  rintro e w2 ⟨rfl,rfl⟩;go_wp2;go_ret;exact ⟨by simp,rfl⟩
 ·go_enter Tryz.func54,Tryz.ntmps54
  go_wp2_with fail
  with_reducible refine (pZe _ _ _ _).mono ?_
  rintro e w2 ⟨rfl,rfl⟩
  go_wp2_with fail
  with_reducible refine (pZe _ _ _ _).mono ?_
  rintro e w2 ⟨rfl,rfl⟩;go_wp2;go_ret;exact ⟨by simp,rfl⟩
theorem dZm (u v:Int) (w:World):Calls Tryz.prog 57 #[.int .i64 u,.int .i64 v] w fun e w'=>e=.returned (.bool (rgG u v))∧w=w':=by
 unfold rgG
 cases h1:rng u 0 400
 ·go_enter Tryz.func57,Tryz.ntmps57
  go_wp2_with fail
  with_reducible refine (kZ3 _ _ _ _).mono ?_
  rintro e w2 ⟨rfl,rfl⟩;go_wp2;go_ret;exact ⟨by simp,rfl⟩
 ·go_enter Tryz.func57,Tryz.ntmps57
  go_wp2_with fail
  with_reducible refine (kZ3 _ _ _ _).mono ?_
  rintro e w2 ⟨rfl,rfl⟩
  go_wp2_with fail
  with_reducible refine (kZ3 _ _ _ _).mono ?_
  rintro e w2 ⟨rfl,rfl⟩;go_wp2;go_ret;exact ⟨by simp,rfl⟩
def lyL (L:List Nd) (a b:Int):List Re:=if (sZj L&&rgG a b)=true then (List.range L.length).map (lrM L a b) else []
theorem hZg (L:List Nd) (a b:Int):(lyL L a b).length≤10:=by
 unfold lyL
 split
 ·rename_i h
  rw [Bool.and_eq_true] at h;rw [List.length_map,List.length_range];exact (vZ9 h.1).2
 ·exact Nat.zero_le _
theorem vZv (A:Option Addr) (c k:Nat) (R:List Nr) (a b:Int) (w:World) (hk:k=R.length) (h:NrV w A R) (hr:RdR w R) (hL:R.length≤1048576) (hm:∀ p∈R,p.n.cs.length≤1048576∧p.n.rs.length≤1048576) :
  Calls Tryz.prog 14 #[.agg #[.slice A k c],.int .i64 a,.int .i64 b] w fun e w'=>(∃ x,e=.returned x∧GRB w.heap.size w' x (lyL (R.map Nr.n) a b)∧((lyL (R.map Nr.n) a b).length=0→x=.slice none 0 0))∧Below w.heap.size w w':=by
 have hB0:Below w.heap.size w (w.alloc (.cells #[.slice A k c] 25 (0,0))):=jZd (Below.refl _ _);have HX:=hD (newS w (.cells #[.slice A k c] 25 (0,0)));have HB:=hD hB0;have HV:=hD (h.keep hB0);have HR:=hD (hr.keep hB0);have HM:=hD hm;have HK:=hD hk;have x0:=jZc HX.out 0;clear hB0 h hr hm hk
 cases ht:sZj (R.map Nr.n)
 ·rw [show lyL (R.map Nr.n) a b=[] by simp [lyL,ht]];have HT:=hD ht;clear ht
  go_enter Tryz.func14,Tryz.ntmps14
  go_wp2_with fail
  with_reducible refine (tZ8 A c k R false _ HK.out HV.out HR.out hL HM.out HT.out).mono ?_
  rintro e w1 ⟨rfl,hb⟩;clear x0;replace HX:=hbk hb HX;replace HB:=hD (jZa HB.out hb);clear hb;have x0:=jZc HX.out 0;go_wp2;go_ret;exact ⟨⟨_,rfl,.inl ⟨rfl,rfl⟩,fun _=>rfl⟩,HB.out⟩
 ·cases hg:rgG a b
  ·rw [show lyL (R.map Nr.n) a b=[] by simp [lyL,hg]];have HT:=hD ht;clear ht
   go_enter Tryz.func14,Tryz.ntmps14
   go_wp2_with fail
   with_reducible refine (tZ8 A c k R true _ HK.out HV.out HR.out hL HM.out HT.out).mono ?_
   rintro e w1 ⟨rfl,hb⟩;clear x0;replace HX:=hbk hb HX;replace HB:=hD (jZa HB.out hb);clear hb;have x0:=jZc HX.out 0
   go_wp2_with fail
   with_reducible refine (bZ8 a b _).mono ?_
   rintro e w2 ⟨rfl,rfl⟩;rw [hg];clear hg;go_wp2;go_ret;exact ⟨⟨_,rfl,.inl ⟨rfl,rfl⟩,fun _=>rfl⟩,HB.out⟩
  ·rw [show lyL (R.map Nr.n) a b=(List.range k).map (lrM (R.map Nr.n) a b) by simp [lyL,ht,hg,HK.out]];have HT:=hD ht;have HG:=hD (cZm hg);clear ht
   go_enter Tryz.func14,Tryz.ntmps14
   go_wp2_with fail
   with_reducible refine (tZ8 A c k R true _ HK.out HV.out HR.out hL HM.out HT.out).mono ?_
   rintro e w1 ⟨rfl,hb⟩;clear x0;replace HX:=hbk hb HX;replace HV:=hD (HV.out.keep hb);replace HR:=hD (HR.out.keep hb);replace HB:=hD (jZa HB.out hb);clear hb;have x0:=jZc HX.out 0
   go_wp2_with fail
   with_reducible refine (bZ8 a b _).mono ?_
   rintro e w2 ⟨rfl,rfl⟩;rw [hg];clear hg;have hsz:=HB.out.size
   go_wp2_with fail
   with_reducible refine (layout_v A c k R a b _ (sZg HT.out) HK.out HV.out HR.out HG.out.1 HG.out.2).mono ?_
   rintro e w3 ⟨⟨g,rfl,hgl,hre⟩,hb⟩;have HRE:=hD hre;clear x0 hre;replace HB:=hD (jZa HB.out hb);clear hb;go_wp2;go_ret;exact ⟨⟨_,rfl,.inr ⟨g,_,rfl,by rw [List.length_map,List.length_range],Nat.le_trans hsz hgl,HRE.out⟩,fun h0=>by rw [List.length_map,List.length_range] at h0;have:=(vZ9 HT.out).1;rw [List.length_map] at this;have:=HK.out;omega⟩,HB.out⟩
theorem vZx (A:Option Addr) (c k:Nat) (R:List Nr) (a b:Int) (w:World) (hk:k=R.length) (h:NrV w A R) (hr:RdR w R) (hL:R.length≤1048576) (hm:∀ p∈R,p.n.cs.length≤1048576∧p.n.rs.length≤1048576) :
  Calls Tryz.prog 14 #[.agg #[.slice A k c],.int .i64 a,.int .i64 b] w fun e w'=>(∃ x,e=.returned x∧GRB w.heap.size w' x (lyL (R.map Nr.n) a b))∧Below w.heap.size w w' :=
 (vZv A c k R a b w hk h hr hL hm).mono fun e w' ⟨⟨x,h1,h2,_⟩,h3⟩=>⟨⟨x,h1,h2⟩,h3⟩
section
attribute [local go_sem 5000] kZk kZj
set_option maxRecDepth 100000
def Smw (a b c d:Int):Prop:=(-8000000000000000≤a∧a≤8000000000000000)∧(-8000000000000000≤b∧b≤8000000000000000)∧(-8000000000000000≤c∧c≤8000000000000000)∧(-8000000000000000≤d∧d≤8000000000000000)
theorem Smw_of {a b c d:Int} (h:(-8000000000000000≤a∧a≤8000000000000000)∧(-8000000000000000≤b∧b≤8000000000000000)∧(-8000000000000000≤c∧c≤8000000000000000)∧(-8000000000000000≤d∧d≤8000000000000000)):Smw a b c d:=h
theorem Smw.out {a b c d:Int} (h:Smw a b c d):(-8000000000000000≤a∧a≤8000000000000000)∧(-8000000000000000≤b∧b≤8000000000000000)∧(-8000000000000000≤c∧c≤8000000000000000)∧(-8000000000000000≤d∧d≤8000000000000000):=h
def Lw (x y u v:Int):Prop:=0≤u∧u≤1000000000000000∧0≤v∧v≤1000000000000000∧-1000000000000000≤x∧x≤1000000000000000∧-1000000000000000≤y∧y≤1000000000000000
theorem Lw.out {x y u v:Int} (h:Lw x y u v):0≤u∧u≤1000000000000000∧0≤v∧v≤1000000000000000∧-1000000000000000≤x∧x≤1000000000000000∧-1000000000000000≤y∧y≤1000000000000000:=h
theorem Smw_lw {x y u v:Int} (h:Lw x y u v):Smw x y u v:=by unfold Lw at h;apply Smw_of;omega
theorem bZe {x y u v x' y' u' v':Int} (h1:Lw x y u v) (h2:Lw x' y' u' v'):-1000000000000000≤mx x x'∧mx x x'≤1000000000000000∧-1000000000000000≤mx y y'∧mx y y'≤1000000000000000∧-2000000000000000≤mn (x+u) (x'+u')∧mn (x+u) (x'+u')≤2000000000000000∧-2000000000000000≤mn (y+v) (y'+v')∧mn (y+v) (y'+v')≤2000000000000000:=by
 have:=kZc x x';have:=kZc y y';have:=jZz (x+u) (x'+u');have:=jZz (y+v) (y'+v')
 unfold Lw at h1 h2;omega
theorem Lw.meet {x y u v x' y' u' v':Int} (h1:Lw x y u v) (h2:Lw x' y' u' v') (h:hitB x y u v x' y' u' v'=true):Lw (mx x x') (mx y y') (mn (x+u) (x'+u')-mx x x') (mn (y+v) (y'+v')-mx y y'):=by
 have:=kZc x x';have:=kZc y y';have:=jZz (x+u) (x'+u');have:=jZz (y+v) (y'+v')
 rw [uZ0] at h;unfold Lw at *;omega
theorem right_l (x y u v:Int) (w:World) (hS:Smw x y u v):Calls Tryz.prog 117 #[.agg #[.int .i64 (x),.int .i64 (y),.int .i64 (u),.int .i64 (v)]] w fun e w'=>e=.returned (.int .i64 (x+u))∧Below w.heap.size w w':=by
 obtain ⟨⟨s1,s2⟩,⟨s3,s4⟩,⟨s5,s6⟩,⟨s7,s8⟩⟩:=hS.out;clear hS
 go_enter Tryz.func117,Tryz.ntmps117
 go_wp2
 all_goals try go_quiet (fail)
 all_goals try go_wp2
 go_ret;exact ⟨rfl,((Below.refl _ _).alloc (Nat.le_refl _) _)⟩
theorem hZw (x y u v:Int) (w:World) (hS:Smw x y u v):Calls Tryz.prog 118 #[.agg #[.int .i64 (x),.int .i64 (y),.int .i64 (u),.int .i64 (v)]] w fun e w'=>e=.returned (.int .i64 (y+v))∧Below w.heap.size w w':=by
 obtain ⟨⟨s1,s2⟩,⟨s3,s4⟩,⟨s5,s6⟩,⟨s7,s8⟩⟩:=hS.out;clear hS
 go_enter Tryz.func118,Tryz.ntmps118
 go_wp2
 all_goals try go_quiet (fail)
 all_goals try go_wp2
 go_ret;exact ⟨rfl,((Below.refl _ _).alloc (Nat.le_refl _) _)⟩
theorem gZg (l t r b:Int) (w:World) (hS:Smw l t r b) :
  Calls Tryz.prog 155 #[.int .i64 l,.int .i64 t,.int .i64 r,.int .i64 b] w fun e w'=>e=.returned (.agg #[.int .i64 (l),.int .i64 (t),.int .i64 (r-l),.int .i64 (b-t)])∧Below w.heap.size w w':=by
 obtain ⟨⟨s1,s2⟩,⟨s3,s4⟩,⟨s5,s6⟩,⟨s7,s8⟩⟩:=hS.out;clear hS
 go_enter Tryz.func155,Tryz.ntmps155
 go_wp2;exact bodyPost_ret (v:=.agg #[.int .i64 (l),.int .i64 (t),.int .i64 (r-l),.int .i64 (b-t)]) (by simp [results,Tryz.results155,go_sem]) rfl ⟨rfl,(Below.refl _ _).alloc (Nat.le_refl _) _⟩
theorem meet_nol (x y u v x' y' u' v':Int) (w:World) (h1:Lw x y u v) (h2:Lw x' y' u' v') (h3:hitB x y u v x' y' u' v'=false) :
  Calls Tryz.prog 114 #[.agg #[.int .i64 (x),.int .i64 (y),.int .i64 (u),.int .i64 (v)],.agg #[.int .i64 (x'),.int .i64 (y'),.int .i64 (u'),.int .i64 (v')]] w fun e w'=>(e=.returned (.tuple #[.agg #[.int .i64 (0),.int .i64 (0),.int .i64 (0),.int .i64 (0)],.bool false]))∧Below w.heap.size w w':=by
 obtain ⟨m1,m2,m3,m4,m5,m6,m7,m8⟩:=bZe h1 h2;have S1:=Smw_lw h1;have S2:=Smw_lw h2;have S3:Smw (mx x x') (mx y y') (mn (x+u) (x'+u')) (mn (y+v) (y'+v')):=Smw_of (by omega);rw [hitB_not] at h3
 by_cases h4:mn (x+u) (x'+u')-mx x x'≤0
 all_goals
  go_enter Tryz.func114,Tryz.ntmps114
  go_wp2_with fail
  refine bZm (fun W1 e1=>?_);replace e1:=hD e1;refine jZg 21 2 (·<22) (by kernel_rfl) (by kernel_rfl) rfl ?_
  iterate 21 (refine jZ3 (fun K hK=>?_);apply Exists.intro;refine ⟨.inl ⟨rfl,fun w' hw'=>?_⟩,?_⟩;(focus ((obtain ⟨hc,hf⟩:=kZi hw'.out);(have hcS:=kZq hw'.out);go_simp <;> first | rfl|(go_at_call 117;exact right_l _ _ _ _ _ (by assumption))|(go_at_call 118;exact hZw _ _ _ _ _ (by assumption))|(go_at_call 155;exact gZg _ _ _ _ _ (by assumption))));(go_simp;refine hK _ ?_;clear hK K))
  refine jZ9 ?_;refine sZ1 (i:=21) (by kernel_rfl) rfl rfl (by kernel_rfl) (fun w1_0 h1_0=>?_);go_simp;refine ⟨Gr.alloc _ _,?_⟩;refine jZ1 (by kernel_rfl) (fun w1_9 h1_9=>?_);obtain ⟨hc1_9,hf1_9⟩:=kZi h1_9.out;refine jZn (i:=22) (by kernel_rfl) rfl rfl ?_;go_simp;refine jZq (by kernel_rfl) ?_
  have s1_a:W1.heap.size≤w1_9.heap.size:=by rw [e1.out];exact Nat.le_trans h1_0.out.size (Nat.le_trans (by simp) h1_9.out.size)
  have s1_b:W1.heap.size≤w1_0.heap.size:=by rw [e1.out];exact h1_0.out.size
  have s1_c:w1_0.heap.size<w1_9.heap.size:=by have:=h1_9.out.size;simp at this;omega
  have b1_a:Below W1.heap.size W1 w1_9:=by rw [e1.out];exact sZz (jZd (sZz (Below.refl _ _).drew h1_0)) h1_9
  refine kZ0.gen (fun wf=>Below W1.heap.size W1 wf∧W1.heap.size≤w1_0.heap.size∧w1_0.heap.size<wf.heap.size∧wf.cell? ⟨w1_0.heap.size,0,none⟩=some (.int .i64 (mx x x'))∧wf.frozen? ⟨w1_0.heap.size,0,none⟩=false∧wf.cell? ⟨w1_0.heap.size,1,none⟩=some (.int .i64 (mx y y'))∧wf.frozen? ⟨w1_0.heap.size,1,none⟩=false∧wf.cell? ⟨w1_0.heap.size,2,none⟩=some (.int .i64 (mn (x+u) (x'+u')-mx x x'))∧wf.frozen? ⟨w1_0.heap.size,2,none⟩=false∧wf.cell? ⟨w1_0.heap.size,3,none⟩=some (.int .i64 (mn (y+v) (y'+v')-mx y y'))∧wf.frozen? ⟨w1_0.heap.size,3,none⟩=false) ?_ (fun wf1 hwf1=>?_)
  ·refine ⟨by repeat (first | exact b1_a|(refine bset ?_ ?_;rotate_left;((try dsimp only);omega))),?_⟩;refine ⟨s1_b,?_⟩;refine ⟨by simp;omega,?_⟩;go_simp
  generalize hgb1:w1_0.heap.size=b1 at *;have E:=e1.out;subst E;obtain ⟨hB1,hl1,hu1,c1_0,f1_0,c1_1,f1_1,c1_2,f1_2,c1_3,f1_3⟩:=hwf1
  try simp only [World.size_alloc] at hl1
  clear hgb1 e1 hc1_9 hf1_9 s1_a s1_b s1_c b1_a h1_9 w1_9 h1_0 w1_0;obtain ⟨hc1,hf1⟩:=kZi hB1;go_wp2
  exact bodyPost_ret (v:=.tuple #[.agg #[.int .i64 (0),.int .i64 (0),.int .i64 (0),.int .i64 (0)],.bool false]) (by simp only [results,Tryz.results114];go_simp) rfl ⟨rfl,(by repeat (first | with_reducible exact Below.refl _ _ | with_reducible assumption | with_reducible refine jZd ?_|(with_reducible refine bset ?_ ?_;rotate_left;((try dsimp only);omega)) | refine jZa ?_ (by assumption) | with_reducible refine Below.drew ?_))⟩
theorem meet_yesl (x y u v x' y' u' v':Int) (w:World) (h1:Lw x y u v) (h2:Lw x' y' u' v') (h3:hitB x y u v x' y' u' v'=true) :
  Calls Tryz.prog 114 #[.agg #[.int .i64 (x),.int .i64 (y),.int .i64 (u),.int .i64 (v)],.agg #[.int .i64 (x'),.int .i64 (y'),.int .i64 (u'),.int .i64 (v')]] w fun e w'=>(e=.returned (.tuple #[.agg #[.int .i64 (mx x x'),.int .i64 (mx y y'),.int .i64 (mn (x+u) (x'+u')-mx x x'),.int .i64 (mn (y+v) (y'+v')-mx y y')],.bool true]))∧Below w.heap.size w w':=by
 obtain ⟨m1,m2,m3,m4,m5,m6,m7,m8⟩:=bZe h1 h2;have S1:=Smw_lw h1;have S2:=Smw_lw h2;have S3:Smw (mx x x') (mx y y') (mn (x+u) (x'+u')) (mn (y+v) (y'+v')):=Smw_of (by omega);rw [uZ0] at h3;obtain ⟨h4,h5⟩:=h3
 all_goals
  go_enter Tryz.func114,Tryz.ntmps114
  go_wp2_with fail
  refine bZm (fun W1 e1=>?_);replace e1:=hD e1;refine jZg 21 2 (·<22) (by kernel_rfl) (by kernel_rfl) rfl ?_
  iterate 21 (refine jZ3 (fun K hK=>?_);apply Exists.intro;refine ⟨.inl ⟨rfl,fun w' hw'=>?_⟩,?_⟩;(focus ((obtain ⟨hc,hf⟩:=kZi hw'.out);(have hcS:=kZq hw'.out);go_simp <;> first | rfl|(go_at_call 117;exact right_l _ _ _ _ _ (by assumption))|(go_at_call 118;exact hZw _ _ _ _ _ (by assumption))|(go_at_call 155;exact gZg _ _ _ _ _ (by assumption))));(go_simp;refine hK _ ?_;clear hK K))
  refine jZ9 ?_;refine sZ1 (i:=21) (by kernel_rfl) rfl rfl (by kernel_rfl) (fun w1_0 h1_0=>?_);go_simp;refine ⟨Gr.alloc _ _,?_⟩;refine jZ1 (by kernel_rfl) (fun w1_9 h1_9=>?_);obtain ⟨hc1_9,hf1_9⟩:=kZi h1_9.out;refine jZn (i:=22) (by kernel_rfl) rfl rfl ?_;go_simp;refine jZq (by kernel_rfl) ?_
  have s1_a:W1.heap.size≤w1_9.heap.size:=by rw [e1.out];exact Nat.le_trans h1_0.out.size (Nat.le_trans (by simp) h1_9.out.size)
  have s1_b:W1.heap.size≤w1_0.heap.size:=by rw [e1.out];exact h1_0.out.size
  have s1_c:w1_0.heap.size<w1_9.heap.size:=by have:=h1_9.out.size;simp at this;omega
  have b1_a:Below W1.heap.size W1 w1_9:=by rw [e1.out];exact sZz (jZd (sZz (Below.refl _ _).drew h1_0)) h1_9
  refine kZ0.gen (fun wf=>Below W1.heap.size W1 wf∧W1.heap.size≤w1_0.heap.size∧w1_0.heap.size<wf.heap.size∧wf.cell? ⟨w1_0.heap.size,0,none⟩=some (.int .i64 (mx x x'))∧wf.frozen? ⟨w1_0.heap.size,0,none⟩=false∧wf.cell? ⟨w1_0.heap.size,1,none⟩=some (.int .i64 (mx y y'))∧wf.frozen? ⟨w1_0.heap.size,1,none⟩=false∧wf.cell? ⟨w1_0.heap.size,2,none⟩=some (.int .i64 (mn (x+u) (x'+u')-mx x x'))∧wf.frozen? ⟨w1_0.heap.size,2,none⟩=false∧wf.cell? ⟨w1_0.heap.size,3,none⟩=some (.int .i64 (mn (y+v) (y'+v')-mx y y'))∧wf.frozen? ⟨w1_0.heap.size,3,none⟩=false) ?_ (fun wf1 hwf1=>?_)
  ·refine ⟨by repeat (first | exact b1_a|(refine bset ?_ ?_;rotate_left;((try dsimp only);omega))),?_⟩;refine ⟨s1_b,?_⟩;refine ⟨by simp;omega,?_⟩;go_simp
  generalize hgb1:w1_0.heap.size=b1 at *;have E:=e1.out;subst E;obtain ⟨hB1,hl1,hu1,c1_0,f1_0,c1_1,f1_1,c1_2,f1_2,c1_3,f1_3⟩:=hwf1
  try simp only [World.size_alloc] at hl1
  clear hgb1 e1 hc1_9 hf1_9 s1_a s1_b s1_c b1_a h1_9 w1_9 h1_0 w1_0;obtain ⟨hc1,hf1⟩:=kZi hB1;go_wp2
  exact bodyPost_ret (v:=.tuple #[.agg #[.int .i64 (mx x x'),.int .i64 (mx y y'),.int .i64 (mn (x+u) (x'+u')-mx x x'),.int .i64 (mn (y+v) (y'+v')-mx y y')],.bool true]) (by simp only [results,Tryz.results114];go_simp) rfl ⟨rfl,(by repeat (first | with_reducible exact Below.refl _ _ | with_reducible assumption | with_reducible refine jZd ?_|(with_reducible refine bset ?_ ?_;rotate_left;((try dsimp only);omega)) | refine jZa ?_ (by assumption) | with_reducible refine Below.drew ?_))⟩
theorem smeet_yesl (x y u v x' y' u' v':Int) (w:World) (h1:Lw x y u v) (h2:Lw x' y' u' v') (h3:hitB x y u v x' y' u' v'=true) :
  Calls Tryz.prog 90 #[.agg #[.int .i64 (x),.int .i64 (y),.int .i64 (u),.int .i64 (v)],.agg #[.int .i64 (x'),.int .i64 (y'),.int .i64 (u'),.int .i64 (v')]] w fun e w'=>e=.returned (.tuple #[.agg #[.int .i64 (mx x x'),.int .i64 (mx y y'),.int .i64 (mn (x+u) (x'+u')-mx x x'),.int .i64 (mn (y+v) (y'+v')-mx y y')],.bool true])∧Below w.heap.size w w':=by
 obtain ⟨m1,m2,m3,m4,m5,m6,m7,m8⟩:=bZe h1 h2;obtain ⟨a1,a2,a3,a4,a5,a6,a7,a8⟩:=h1.out;obtain ⟨b1,b2,b3,b4,b5,b6,b7,b8⟩:=h2.out;obtain ⟨g1,g2⟩:=uZ0.1 h3;clear h1 h2 h3
 go_enter Tryz.func90,Tryz.ntmps90
 go_wp2
 exact bodyPost_ret (v:=.tuple #[.agg #[.int .i64 (mx x x'),.int .i64 (mx y y'),.int .i64 (mn (x+u) (x'+u')-mx x x'),.int .i64 (mn (y+v) (y'+v')-mx y y')],.bool true]) (by simp only [results,Tryz.results90];go_simp) rfl ⟨rfl,(by repeat (first | with_reducible exact Below.refl _ _ | with_reducible assumption | with_reducible refine jZd ?_|(with_reducible refine bset ?_ ?_;rotate_left;((try dsimp only);omega)) | refine jZa ?_ (by assumption) | with_reducible refine Below.drew ?_))⟩
theorem smeet_nol (x y u v x' y' u' v':Int) (w:World) (h1:Lw x y u v) (h2:Lw x' y' u' v') (h3:hitB x y u v x' y' u' v'=false) :
  Calls Tryz.prog 90 #[.agg #[.int .i64 (x),.int .i64 (y),.int .i64 (u),.int .i64 (v)],.agg #[.int .i64 (x'),.int .i64 (y'),.int .i64 (u'),.int .i64 (v')]] w fun e w'=>e=.returned (.tuple #[.agg #[.int .i64 (0),.int .i64 (0),.int .i64 (0),.int .i64 (0)],.bool false])∧Below w.heap.size w w':=by
 obtain ⟨m1,m2,m3,m4,m5,m6,m7,m8⟩:=bZe h1 h2;obtain ⟨a1,a2,a3,a4,a5,a6,a7,a8⟩:=h1.out;obtain ⟨b1,b2,b3,b4,b5,b6,b7,b8⟩:=h2.out;have g:=hitB_not.1 h3;clear h1 h2 h3
 by_cases g1:mn (x+u) (x'+u')-mx x x'≤0
 all_goals
  go_enter Tryz.func90,Tryz.ntmps90
  go_wp2
  exact bodyPost_ret (v:=.tuple #[.agg #[.int .i64 (0),.int .i64 (0),.int .i64 (0),.int .i64 (0)],.bool false]) (by simp only [results,Tryz.results90];go_simp) rfl ⟨rfl,(by repeat (first | with_reducible exact Below.refl _ _ | with_reducible assumption | with_reducible refine jZd ?_|(with_reducible refine bset ?_ ?_;rotate_left;((try dsimp only);omega)) | refine jZa ?_ (by assumption) | with_reducible refine Below.drew ?_))⟩
end
section
attribute [local go_sem 5000] kZk kZj
end
def rcN (M:List Re) (i:Nat):Re:=(M[i]?).getD ⟨0,0,0,0⟩
theorem rcN_at {M:List Re} {i:Nat} {S:Re} (h:M[i]?=some S):rcN M i=S:=by unfold rcN;rw [h];rfl
theorem GRB.sl {lo:Nat} {w:World} {x:Value} {M:List Re} (h:GRB lo w x M):∃ A1,x=.slice A1 M.length M.length∧(0<M.length→∃ g,A1=some ⟨g,0,none⟩∧lo≤g∧ReB w g M):=by
 rcases h with ⟨rfl,rfl⟩ | ⟨g,n,rfl,rfl,hg,hk⟩
 ·exact ⟨none,rfl,fun h=>absurd h (by simp)⟩
 ·exact ⟨_,rfl,fun _=>⟨g,rfl,hg,hk⟩⟩
theorem lyL_ok {L:List Nd} {a b:Int} (h:0<(lyL L a b).length):TrOK L∧(lyL L a b).length=L.length∧∀ S∈lyL L a b,Lw S.x S.y S.u S.v:=by
 unfold lyL at *
 split at h
 ·rename_i e
  rw [if_pos e];rw [Bool.and_eq_true] at e;have hT:=sZg e.1;refine ⟨hT,by simp,fun S hS=>?_⟩;obtain ⟨k,hk,rfl⟩:=List.mem_map.1 hS;obtain ⟨q,hx,hy⟩:=eZx hT (cZm e.2).1 (cZm e.2).2 (List.mem_range.1 hk);obtain ⟨q1,q2⟩:=pZu.1 q;unfold Lw;omega
 ·simp at h
theorem go_sl {lo:Nat} {w:World} {v:Value} {M:List Int} (h:GO lo w v M):∃ B cb,v=.slice B M.length cb∧M.length≤cb∧NV w B M:=by
 rcases h with ⟨rfl,rfl⟩ | ⟨g,cap,n,rfl,rfl,_,hk⟩
 ·exact ⟨none,0,rfl,Nat.le_refl _,NV.nil _ _⟩
 ·exact ⟨_,cap,rfl,hk.1,by have:=hk.nr rfl cap;obtain ⟨A2,c2,e,hn⟩:=this;cases e;exact hn⟩
theorem nrI' {w:World} {B:Option Addr} {c:Nat} {O:List Int} (h:NV w B O):NR w (.slice B O.length c) O:=⟨B,c,rfl,h⟩
theorem lay_facts {L:List Nd} {a b:Int} (h:0<(lyL L a b).length):(sZj L=true∧(0≤a∧a≤400)∧(0≤b∧b≤400))∧(lyL L a b).length=L.length∧(lyL L a b)[0]?=some ⟨0,0,a,b⟩∧(∀ (k:Nat) (S:Re),(lyL L a b)[k]?=some S→S=lrM L a b k)∧∀ (k:Nat) (S:Re),(lyL L a b)[k]?=some S→0≤S.u∧0≤S.v:=by
 unfold lyL at *
 split at h
 ·rename_i e
  rw [if_pos e];rw [Bool.and_eq_true] at e;obtain ⟨ht,hg⟩:=e;obtain ⟨hw,hh⟩:=cZm hg;have hT:=sZg ht;rw [List.length_map,List.length_range] at h ⊢
  have he:∀ (k:Nat) (S:Re),((List.range L.length).map (lrM L a b))[k]?=some S→k<L.length∧S=lrM L a b k:=fun k S hk=>by
   rw [List.getElem?_map] at hk;obtain ⟨j,hj,rfl⟩:=Option.map_eq_some_iff.1 hk;have hl:=(List.getElem?_eq_some_iff.1 hj).1;rw [List.length_range] at hl;rw [List.getElem?_range hl] at hj;obtain rfl:=Option.some.inj hj;exact ⟨hl,rfl⟩
  refine ⟨⟨ht,hw,hh⟩,rfl,?_,fun k S hk=>(he k S hk).2,fun k S hk=>?_⟩
  ·rw [List.getElem?_map,List.getElem?_range h,Option.map_some,bZg]
  ·obtain ⟨hl,rfl⟩:=he k S hk;obtain ⟨⟨⟨r1,_⟩,r2,_⟩,_⟩:=lrM_ok hT hw hh (k+1) k (by omega) hl;exact ⟨r1,r2⟩
 ·simp at h
section
attribute [local go_sem] Oper.semAt_some
attribute [local go_sem] jZ0 jZ5 jZ2
def sZc (S T:Re):Bool:=hitB S.x S.y S.u S.v T.x T.y T.u T.v
def rZs (S T:Re):Re:=⟨mx S.x T.x,mx S.y T.y,mn (S.x+S.u) (T.x+T.u)-mx S.x T.x,mn (S.y+S.v) (T.y+T.v)-mx S.y T.y⟩
def dZ6 (S T:Re):Re:=if sZc S T=true then rZs S T else ⟨0,0,0,0⟩
theorem cZ8 (S:Re):sZc S S=(decide (0<S.u)&&decide (0<S.v)):=by
 unfold sZc;rw [Bool.eq_iff_iff,uZ0,Bool.and_eq_true,decide_eq_true_eq,decide_eq_true_eq]
 have:=kZc S.x S.x;have:=kZc S.y S.y;have:=jZz (S.x+S.u) (S.x+S.u);have:=jZz (S.y+S.v) (S.y+S.v)
 omega
theorem bZ4 (S:Re):rZs S S=S:=by
 have:=kZc S.x S.x;have:=kZc S.y S.y;have:=jZz (S.x+S.u) (S.x+S.u);have:=jZz (S.y+S.v) (S.y+S.v)
 obtain ⟨x,y,u,v⟩:=S;simp only [rZs,Re.mk.injEq] at *;omega
def LwR (S:Re):Prop:=Lw S.x S.y S.u S.v
theorem LwR.meet {S T:Re} (h:LwR S) (k:LwR T) (e:sZc S T=true):LwR (rZs S T):=Lw.meet h k e
theorem meet_v (S T:Re) (w:World) (h:LwR S) (k:LwR T):Calls Tryz.prog 114 #[.agg (jZr S).toArray,.agg (jZr T).toArray] w fun e w'=>e=.returned (.tuple #[.agg (jZr (dZ6 S T)).toArray,.bool (sZc S T)])∧Below w.heap.size w w':=by
 unfold dZ6
 cases e:sZc S T
 ·exact meet_nol _ _ _ _ _ _ _ _ w h k e
 ·exact meet_yesl _ _ _ _ _ _ _ _ w h k e
theorem smeet_v (S T:Re) (w:World) (h:LwR S) (k:LwR T):Calls Tryz.prog 90 #[.agg (jZr S).toArray,.agg (jZr T).toArray] w fun e w'=>e=.returned (.tuple #[.agg (jZr (dZ6 S T)).toArray,.bool (sZc S T)])∧Below w.heap.size w w':=by
 unfold dZ6
 cases e:sZc S T
 ·exact smeet_nol _ _ _ _ _ _ _ _ w h k e
 ·exact smeet_yesl _ _ _ _ _ _ _ _ w h k e
def seL (M:List Re):Re→List Nat→Option Re
 | S,[]=>some S
 | S,k :: ks=>if sZc S (rcN M k)=true then seL M (rZs S (rcN M k)) ks else none
theorem uZ2 (M:List Re):∀ (ks:List Nat) (S:Re) (k:Nat),seL M S (ks ++ [k])=(seL M S ks).bind fun T=>if sZc T (rcN M k)=true then some (rZs T (rcN M k)) else none
 | [],S,k=>rfl
 | j :: ks,S,k=>by
  simp only [List.cons_append,seL]
  split
  ·exact uZ2 M ks _ k
  ·rfl
theorem dZ8 {M:List Re}:∀ {pre rest:List Nat} {S:Re},seL M S pre=none→seL M S (pre ++ rest)=none
 | [],_,_,h=>by cases h
 | k :: pre,rest,S,h=>by
  simp only [List.cons_append,seL] at *
  split
  ·rename_i e;rw [if_pos e] at h;exact dZ8 h
  ·rfl
theorem rcN_lw {M:List Re} (h:∀ S∈M,LwR S) {k:Nat} (hk:k<M.length):LwR (rcN M k):=by
 have e:=List.getElem?_eq_getElem hk;rw [rcN_at e];exact h _ (List.getElem_mem hk)
theorem reB_at {w:World} {g i:Nat} {M:List Re} (h:ReB w g M) (hi:i<M.length):w.rangeAt g (i*4) (jZr (rcN M i)):=by
 have e:=List.getElem?_eq_getElem hi;rw [rcN_at e];obtain ⟨cs,hh,hs,hc⟩:=h
 exact fun j v hj=>(jZc hh _).trans (hc i _ e j v hj)
def upC {n:Nat} (x:{k:Nat // k<n}):Int:=(x.1:Int)
theorem up1_k (F:Fence) (n:Nat) (hF:F.fn 116) (hro:F.round=none) (hn:1≤n) (l Bi Bt b off len c:Nat) (R:List Nr) (i:Int) (xs:List {k:Nat // k<R.length}) (hlen:len=R.length) (hL:R.length≤1048576) (hup:IsUp (R.map Nr.n) i (xs.map upC)) (J Jx:List {k:Nat // k<R.length}→World→Prop)
  (hY:∀ pre x W,J pre W→pre.length<xs.length→YieldAt F (n-1) Tryz.prog l #[.int .i64 (x.1:Int)] W fun e W' =>
   (e=.returned (.bool true)∧J (pre ++ [x]) W'∧KU Bi Bt b W W')∨(e=.returned (.bool false)∧Jx (pre ++ [x]) W'))
  (W:World) (hu:UpAt W Bi Bt b off len c i R) (h0:J [] W) :
  CallsIn F n Tryz.prog 116 #[.func (.yield l) #[] #[],.pointer (some ⟨Bi,0,none⟩),.pointer (some ⟨Bt,0,none⟩)] W fun e W'=>(∃ v,e=.returned v) ∧
   ((∃ ys,ys=xs∧J ys W')∨(∃ pre,(∃ rest,xs=pre ++ rest)∧Jx pre W')):=by
 have hci:=hu.hi;have HU:=Lib.hid hu;have HUP:=Lib.hid hup;clear hu hup;refine callsIn_of_wp Tryz.func116 rfl hF ?_ hro;simp only [Tryz.ntmps116,List.size_toArray,List.length_cons,List.length_nil,Nat.reduceAdd,Nat.reduceSub,Array.replicate_succ,Array.replicate_zero,List.push_toArray,List.append_toArray,List.nil_append,List.cons_append]
 gi_wp2
 clear hci
 gi_loopw [4] (fun p wr=>∃ (pre rest:List {k:Nat // k<R.length}) (q:Int),p=.int .i64 q∧xs=pre ++ rest∧IsUp (R.map Nr.n) q (rest.map upC)∧KU Bi Bt b W wr∧J pre wr) (fun p _=>(intOf p+1).toNat)
 case atStart=>exact ⟨[],xs,i,rfl,rfl,HUP.out,⟨rfl,rfl,rfl⟩,h0⟩
 case round =>
  obtain ⟨pre,rest,q,rfl,hx,hl,hK,hJs⟩:=hrel
  cases rest with
  | nil =>
   obtain rfl:q=-1:=hl;have HXX:=Lib.hid hx;clear hx
   gi_wp2
   go_end0
   exact ⟨⟨_,rfl⟩,.inl ⟨pre,by have:=HXX.out;simp at this;exact this.symm,hJs⟩⟩
  | cons x rest =>
   obtain ⟨xk,hxk⟩:=x;obtain ⟨eq,h0q,nd,hnd,hlt,hge,hr⟩:=hl
   change (xk:Int)=q at eq
   subst eq;have hk0:=hxk;generalize xk=k at *;rw [Int.toNat_natCast,List.getElem?_map] at hnd;obtain ⟨p,hp,rfl⟩:=Option.map_eq_some_iff.1 hnd;have hkl:k<R.length:=(List.getElem?_eq_some_iff.1 hp).1
   have hkl':(k:Int)<(len:Int):=by omega
   have hne:(((k:Nat):Int) != -1)=true:=by rw [bne_iff_ne];omega
   have hlx:pre.length<xs.length:=by rw [hx];simp
   obtain ⟨fn,tmps,assign,body,hy,hR⟩:=hY pre ⟨k,hxk⟩ wr hJs hlx;have HXX:=Lib.hid hx;have HP:=Lib.hid hp;have HK:=Lib.hid hK;have HRR:=Lib.hid hr
   obtain ⟨z,hz⟩:∃ z,p.n.pa=z:=⟨_,rfl⟩
   have HZ:=Lib.hid hz;rw [hz] at hlt hge;clear hx hp hK hr hnd hz
   gi_wp2
   refine hR.mono ?_;rintro e W3 (⟨rfl,hJ3,hk3⟩ | ⟨rfl,hJx3⟩)
   ·have hu3:=(HU.out.keep HK.out).keep hk3;have ct:=hu3.ht;have cp:W3.cell? ⟨b,off+k*34,none⟩=some (.int .i64 p.n.pa):=hu3.hn k p HP.out 0 _ rfl;rw [HZ.out] at cp;have HK3:=Lib.hid (KU.trans HK.out hk3);clear hu3 hk3
    gi_wp2
    go_roundw
    case rel=>exact ⟨pre ++ [⟨k,hxk⟩],rest,z,rfl,by rw [HXX.out];simp,by have:=HRR.out;rwa [HZ.out] at this,HK3.out,hJ3⟩
    case measure=>simp [intOf];omega
   ·gi_wp2
    refine bodyPost_ret (results_none rfl _ _ _) rfl ?_;exact ⟨⟨_,rfl⟩,.inr ⟨_,⟨rest,by rw [HXX.out];simp⟩,hJx3⟩⟩
theorem up_stopk (F:Fence) (n:Nat) (hF:F.fn 116) (hro:F.round=none) (hn:1≤n) (Bi Bt b off len c:Nat) (R:List Nr) (i:Int) (xs:List {k:Nat // k<R.length}) (hlen:len=R.length) (hL:R.length≤1048576) (hup:IsUp (R.map Nr.n) i (xs.map upC)) (w:World) (hBi:Bi<w.heap.size) (hBt:Bt<w.heap.size) (hb:b<w.heap.size) (hu:UpAt w Bi Bt b off len c i R) :
  SeqStopsK F n Tryz.prog 116 #[.pointer (some ⟨Bi,0,none⟩),.pointer (some ⟨Bt,0,none⟩)] (fun x:{k:Nat // k<R.length}=>#[Value.int .i64 (x.1:Int)]) (KU Bi Bt b) (fun ys=>ys=xs) (fun pre=>∃ rest,xs=pre ++ rest) xs.length w:=fun l J Jx W hW _ _ hY h0 =>
 up1_k F n hF hro hn l Bi Bt b off len c R i xs hlen hL hup J Jx hY W (hu.keep (KU.of hW hBi hBt hb)) h0
def zRe:Array Value:=#[.int .i64 0,.int .i64 0,.int .i64 0,.int .i64 0]
structure SeW (w:World) (A:Option Addr) (c n g:Nat) (S:Re) (W:World):Prop where
 t:W.heap[w.heap.size]?=some (.cells #[.slice A n c] 25 (0,0))
 r:W.heap[w.heap.size+1]?=some (.cells #[.slice (some ⟨g,0,none⟩) n n] 28 (0,0))
 p:W.heap[w.heap.size+1+1]?=some (.cells zRe 32 (0,0))
 q:W.heap[w.heap.size+1+1+1]?=some (.cells #[.bool false] 4 (0,0))
 s:W.heap[w.heap.size+1+1+1+1]?=some (.cells (jZr S).toArray 32 (0,0))
 l:Below w.heap.size w W
 z:w.heap.size+7≤W.heap.size
def dZv:Option Re→Value
 | none=>.tuple #[.agg zRe,.bool false]
 | some S=>.tuple #[.agg (jZr S).toArray,.bool true]
structure SeX (w:World) (W:World):Prop where
 p:W.heap[w.heap.size+1+1]?=some (.cells zRe 32 (0,0))
 q:W.heap[w.heap.size+1+1+1]?=some (.cells #[.bool false] 4 (0,0))
 l:Below w.heap.size w W
 z:w.heap.size+7≤W.heap.size
theorem SeX.grown {w X Y:World} {row:Option Nat} (h:SeX w X) (hg:X.grownBy Y row) (hr:∀ k,row=some k→w.heap.size+7≤k):SeX w Y :=
 have hz:=h.z
 have f:∀ k,k<w.heap.size+7→Y.heap[k]?=X.heap[k]?:=fun k hk=>hg.block k (by omega) (fun e=>by have:=hr k e.symm;omega)
 ⟨(f _ (by omega)).trans h.p,(f _ (by omega)).trans h.q,h.l.grown hg h.l.size (fun k e=>by have:=hr k e;omega),Nat.le_trans hz hg.size⟩
theorem SeW.grown {w X Y:World} {A:Option Addr} {c n g:Nat} {S:Re} {row:Option Nat} (h:SeW w A c n g S X) (hg:X.grownBy Y row) (hr:∀ k,row=some k→w.heap.size+7≤k):SeW w A c n g S Y :=
 have hz:=h.z
 have f:∀ k,k<w.heap.size+7→Y.heap[k]?=X.heap[k]?:=fun k hk=>hg.block k (by omega) (fun e=>by have:=hr k e.symm;omega)
 ⟨(f _ (by omega)).trans h.t,(f _ (by omega)).trans h.r,(f _ (by omega)).trans h.p,(f _ (by omega)).trans h.q,(f _ (by omega)).trans h.s,h.l.grown hg h.l.size (fun k e=>by have:=hr k e;omega),Nat.le_trans hz hg.size⟩
theorem SeW.below {w X Y:World} {A:Option Addr} {c n g:Nat} {S:Re} (h:SeW w A c n g S X) (hb:Below X.heap.size X Y):SeW w A c n g S Y :=
 have hz:=h.z
 have f:∀ k,k<w.heap.size+7→Y.heap[k]?=X.heap[k]?:=fun k hk=>hb.block k (by omega)
 ⟨(f _ (by omega)).trans h.t,(f _ (by omega)).trans h.r,(f _ (by omega)).trans h.p,(f _ (by omega)).trans h.q,(f _ (by omega)).trans h.s,jZa h.l hb,Nat.le_trans hz hb.size⟩
theorem stR {ops:Array Oper} {rest:List Oper} {op:Oper} {a:Act} {w:World} {Q:Exit→Act→World→Prop} (x y:Operand) (S:Re) (b:Nat) {cs:Array Value} (hgd:op.guard=none) (ho:op.op=.store 32 x y) (hp:w.heap[b]?=some (.cells cs 32 (0,0))) (hs:cs.size=4) (hx:a.eval x=.pointer (some ⟨b,0,none⟩)) (hy:a.eval y=.agg (jZr S).toArray)
  (h:wpList Tryz.prog ops Q rest (a.put op.dst undef) (w.setCells b 0 (jZr S))):wpList Tryz.prog ops Q (op :: rest) a w :=
 stK 32 x y (jZr S) b 0 hgd ho (pZb hp (by rw [hs];exact Nat.le_refl _)) (by kernel_rfl) (vZa S) hx hy h
theorem stRI {F:Fence} {n:Nat} {ops:Array Oper} {rest:List Oper} {op:Oper} {a:Act} {w:World} {Q:Exit→Act→World→Prop} (x y:Operand) (S:Re) (b:Nat) {cs:Array Value} (hgd:op.guard=none) (ho:op.op=.store 32 x y) (hp:w.heap[b]?=some (.cells cs 32 (0,0))) (hs:cs.size=4) (hx:a.eval x=.pointer (some ⟨b,0,none⟩)) (hy:a.eval y=.agg (jZr S).toArray)
  (h:wpListIn F n Tryz.prog ops Q rest (a.put op.dst undef) (w.setCells b 0 (jZr S))):wpListIn F n Tryz.prog ops Q (op :: rest) a w:=by
 refine wpListIn_plain hgd fun K hK=>⟨fun f hf=>?_,?_⟩
 ·simp [Oper.about,ho] at hf
 ·rw [Oper.semAt_eq _ _ _ (fun c e=>by rw [ho] at e;cases e)];unfold execOp;have hst:=run_storeAt_mid (P:=Tryz.prog) w b 0 32 (jZr S).toArray (show w.there b 0 4 from pZb hp (by rw [hs];exact Nat.le_refl _)) (by kernel_rfl) (all_oneCell_toArray (vZa S));simp only [ho,hx,hy,Sem.run_bind,Sem.run_pure,Result.andThen_ok,hst];exact hK _ _ h
section
variable {P:Program}
theorem wpIn_named {F:Fence} {n:Nat} {c:Code} {Q:Exit→Act→World→Prop} {a:Act} {w:World} (h:∀ W0,W0=w→c.wpIn F n P Q a w):c.wpIn F n P Q a w:=h w rfl
theorem hZi {K:Act→World→Prop}:OnlyN (kZ0 (Exit.then K (fun _ _ _=>False))):=fun e a w h q=>by
 cases e <;> first | exact h rfl | exact q
theorem vZ2 {l0 n id:Nat} {Q:Exit→Act→World→Prop} {a:Act} {w:World} {l:List Oper} (m g:Nat) (pre:Nat→Bool) (hm:P.follows .mixedOrders=true) (hd:l.toArray.all cZq=true) (hB:growB l.toArray m pre=true) (hg:l.length=g+m)
  (h:wpG P l.toArray w.drew (fun a'=>wpK P .any l.toArray (kZ0 (Exit.then (fun a w=>Q .normal a w) (fun _ _ _=>False))) pre g (kZy m 0 (Array.replicate l.toArray.size false)) a' w.drew) (l.take m) a):(Code.region id l.toArray true).wpIn (Fence.wide.inRound l0) n P Q a w:=by
 simp only [growB,Bool.and_eq_true,decide_eq_true_eq] at hB;obtain ⟨⟨⟨hs,hT⟩,hgs⟩,hle⟩:=hB
 have hle':m≤l.length:=by simpa using hle
 refine wpIn_region_any hm (anyLift (Q0:=kZ0 (Exit.then (fun a w=>Q .normal a w) (fun _ _ _=>False))) (Q:=Q) hd hZi (fun _ _ h=>h) _ _ _ _ (vZd (pre:=pre) _ _ _ _ ?_))
 have:=eZb (md:=.any) (w:=w.drew) (Q:=kZ0 (Exit.then (fun a w=>Q .normal a w) (fun _ _ _=>False))) hs (fun c a w h=>h) hT g m 0 (l.take m) _ a (by simp;omega) (fun j hj=>by simp [hj]) (vZ3.none _) hgs h
 have e:g+m=l.toArray.size:=by simp;omega
 rw [e] at this;exact this
end
theorem seenPart_v (A:Option Addr) (c:Nat) (R:List Nr) (M:List Re) (g i:Nat) (xs:List {k:Nat // k<R.length}) (w:World) (hT:TrOK (R.map Nr.n)) (h:NrV w A R) (hM:ReB w g M) (hMR:M.length=R.length) (hL:∀ S∈M,LwR S) (hi:i<R.length) (hup:IsUp (R.map Nr.n) (i:Int) (xs.map upC)) :
  Calls Tryz.prog 71 #[.agg #[.slice A R.length c],.slice (some ⟨g,0,none⟩) R.length R.length,.int .i64 (i:Int)] w fun e w'=>e=.returned (dZv (seL M (rcN M i) (xs.map Subtype.val)))∧Below w.heap.size w w':=by
 obtain ⟨b,off,rfl,hb,hps⟩:=h.cells (by omega);have HPS:=Lib.hid hps;have HM:=Lib.hid hM;have HMR:=Lib.hid hMR;have HUP:=Lib.hid hup
 have HRG:=Lib.hid (show ((((w.alloc (.cells #[.slice (some ⟨b,off,none⟩) R.length c] 25)).alloc (.cells #[.slice (some ⟨g,0,none⟩) R.length R.length] 28)).alloc (.cells zRe 32)).alloc (.cells #[.bool false] 4)).rangeAt g (i*4) (jZr (rcN M i)) from
  reB_at ((((hM.keep (jZd (Below.refl _ _))).keep (jZd (Below.refl _ _))).keep (jZd (Below.refl _ _))).keep (jZd (Below.refl _ _))) (by omega))
 have hdi:(i:Int)<(R.length:Int):=by omega
 clear hps h hM hMR hup;refine (callsIn_wide (n:=6)).1 ?_;refine callsIn_of_wp_marks Tryz.func71 rfl trivial ?_ rfl;simp only [Tryz.ntmps71,List.size_toArray,List.length_cons,List.length_nil,Nat.reduceAdd,Nat.reduceSub,Array.replicate_succ,Array.replicate_zero,List.push_toArray,List.append_toArray,List.nil_append,List.cons_append]
 gi_wp2_with (first|(refine ldNI 32 _ [.int .i64 (rcN M i).x,.int .i64 (rcN M i).y,.int .i64 (rcN M i).u,.int .i64 (rcN M i).v] g (i*4) rfl rfl rfl HRG.out Tryz.underlying32 rfl (by kernel_rfl) ?_)|(refine ⟨trivial,?_⟩;gi_at_call 75;refine (callsIn_wide.2 (upFrom_v _ _ _ _ _)).mono ?_;rintro e w' ⟨rfl,rfl⟩))
 obtain ⟨W0,hW0,s0,hu0⟩:∃ W0,(((((((w.alloc (.cells #[.slice (some ⟨b,off,none⟩) R.length c] 25)).alloc (.cells #[.slice (some ⟨g,0,none⟩) R.length R.length] 28)).alloc (.cells zRe 32)).alloc (.cells #[.bool false] 4)).alloc (.cells (jZr (rcN M i)).toArray 32)).alloc (.cells #[.slice (some ⟨b,off,none⟩) R.length c] 25)).alloc (.cells #[.int .i64 (i:Int)] 3))=W0∧SeW w (some ⟨b,off,none⟩) c R.length g (rcN M i) W0∧(W0.heap.size=w.heap.size+7∧UpAt W0 (w.heap.size+1+1+1+1+1+1) (w.heap.size+1+1+1+1+1) b off R.length c (i:Int) R):=by
  refine ⟨_,rfl,?_⟩;obtain ⟨W4,e4,n1,n2,n3,n4,hz,hb4⟩:=four w (.cells #[.slice (some ⟨b,off,none⟩) R.length c] 25) (.cells #[.slice (some ⟨g,0,none⟩) R.length R.length] 28) (.cells zRe 32) (.cells #[.bool false] 4);rw [e4]
  obtain ⟨W5,e5⟩:∃ W5,W4.alloc (.cells (jZr (rcN M i)).toArray 32)=W5:=⟨_,rfl⟩
  obtain ⟨W6,e6⟩:∃ W6,W5.alloc (.cells #[.slice (some ⟨b,off,none⟩) R.length c] 25)=W6:=⟨_,rfl⟩
  obtain ⟨W7,e7⟩:∃ W7,W6.alloc (.cells #[.int .i64 (i:Int)] 3)=W7:=⟨_,rfl⟩
  have n5:=World.alloc_heap_new W4 (.cells (jZr (rcN M i)).toArray 32);have n6:=World.alloc_heap_new W5 (.cells #[.slice (some ⟨b,off,none⟩) R.length c] 25);have n7:=World.alloc_heap_new W6 (.cells #[.int .i64 (i:Int)] 3)
  have z5:W5.heap.size=w.heap.size+5:=by rw [<- e5,World.size_alloc,hz]
  have z6:W6.heap.size=w.heap.size+6:=by rw [<- e6,World.size_alloc,z5]
  have z7:W7.heap.size=w.heap.size+7:=by rw [<- e7,World.size_alloc,z6]
  have b5:Below W4.heap.size W4 W5:=by rw [<- e5];exact jZd (Below.refl _ _)
  have b6:Below W5.heap.size W5 W6:=by rw [<- e6];exact jZd (Below.refl _ _)
  have b7:Below W6.heap.size W6 W7:=by rw [<- e7];exact jZd (Below.refl _ _)
  rw [e5] at n5;rw [e6] at n6;rw [e7] at n7;rw [hz] at n5;rw [z5] at n6;rw [z6] at n7;rw [e5,e6,e7];have l7:Below w.heap.size w W7:=jZa (jZa (jZa hb4 b5) b6) b7
  have up:∀ k,k<w.heap.size+4→W7.heap[k]?=W4.heap[k]?:=fun k hk=>(b7.block k (by omega)).trans ((b6.block k (by omega)).trans (b5.block k (by omega)))
  refine ⟨⟨(up _ (by omega)).trans n1,(up _ (by omega)).trans n2,(up _ (by omega)).trans n3,(up _ (by omega)).trans n4,(b7.block _ (by omega)).trans ((b6.block _ (by omega)).trans n5),l7,by omega⟩,z7,?_⟩;exact ⟨jZc n7 0,jZc ((b7.block _ (by omega)).trans n6) 0,fun k p hp=>pZi (HPS.out k p hp) (l7.block b hb)⟩
 rw [show (#[Value.int .i64 (rcN M i).x,.int .i64 (rcN M i).y,.int .i64 (rcN M i).u,.int .i64 (rcN M i).v]:Array Value)=(jZr (rcN M i)).toArray from rfl]
 change Code.wpIn Fence.wide 6 Tryz.prog _ _ _ (((((((w.alloc (.cells #[.slice (some ⟨b,off,none⟩) R.length c] 25)).alloc (.cells #[.slice (some ⟨g,0,none⟩) R.length R.length] 28)).alloc (.cells zRe 32)).alloc (.cells #[.bool false] 4)).alloc (.cells (jZr (rcN M i)).toArray 32)).alloc (.cells #[.slice (some ⟨b,off,none⟩) R.length c] 25)).alloc (.cells #[.int .i64 (i:Int)] 3))
 rw [hW0];clear hW0 HRG;obtain ⟨hz0,hu0⟩:=hu0;have hL0:LwR (rcN M i):=rcN_lw hL (by rw [HMR.out];exact hi);have hlg:g<w.heap.size:=HM.out.lt;have HUT:=Lib.hid hu0
 refine wpIn_rangeFunc_ownG rfl (by omega) (gf:=116) (lb:=#[.pointer (some ⟨w.heap.size+1+1+1+1+1+1,0,none⟩),.pointer (some ⟨w.heap.size+1+1+1+1+1,0,none⟩)]) rfl trivial (enters_of Tryz.func116 (by kernel_rfl) rfl)
  (up_stopk Fence.wide _ trivial rfl (by omega) (w.heap.size+1+1+1+1+1+1) (w.heap.size+1+1+1+1+1) b off R.length c R (i:Int) xs rfl (by have:=hT.l10;rw [List.length_map] at this;omega) HUP.out W0 (by omega) (by omega) (by omega) hu0) KU.trans
  (fun W l o o' hl ho hc hw=>⟨World.putObj_heap_other (by omega),World.putObj_heap_other (by omega),World.putObj_heap_other (by omega)⟩) (Below.refl _ _) (fun _=>rfl)
  (fun pre W=>∃ S,seL M (rcN M i) (pre.map Subtype.val)=some S∧LwR S∧SeW w (some ⟨b,off,none⟩) c R.length g S W)
  (fun c' pre W=>c'=.ret∧seL M (rcN M i) (pre.map Subtype.val)=none∧SeX w W)
  (fun pre X Y row hs hg hr=>let ⟨S,h1,h2,h3⟩:=hs;⟨S,h1,h2,h3.grown hg fun k e=>by have:=(hr k e).1;omega⟩)
  (fun c' pre X Y row hs hg hr=>⟨hs.1,hs.2.1,hs.2.2.grown hg fun k e=>by have:=(hr k e).1;omega⟩)
  ⟨_,rfl,hL0,s0⟩
  (fun x=>{ tmps:=#[.agg #[.slice (some ⟨b,off,none⟩) R.length c],.slice (some ⟨g,0,none⟩) R.length R.length,.int .i64 (i:Int),.pointer (some ⟨w.heap.size,0,none⟩),.pointer (some ⟨w.heap.size+1,0,none⟩),undef,.pointer (some ⟨w.heap.size+1+1,0,none⟩),.pointer (some ⟨w.heap.size+1+1+1,0,none⟩),.pointer (some ⟨w.heap.size+1+1+1+1,0,none⟩),.int .i64 (x.1:Int),undef,undef,.slice (some ⟨g,0,none⟩) R.length R.length,.int .i64 (i:Int),.pointer (some ⟨g,i*4,none⟩),.agg (jZr (rcN M i)).toArray,.agg #[.slice (some ⟨b,off,none⟩) R.length c],.int .i64 (i:Int),.func (.func 116) #[] #[.pointer (some ⟨w.heap.size+1+1+1+1+1+1,0,none⟩),.pointer (some ⟨w.heap.size+1+1+1+1+1,0,none⟩)],.int .i64 (x.1:Int),undef,undef,undef,undef,undef,undef,undef,undef,undef,undef,undef,undef,undef,undef],defers:=[] }) ?assign ?body ?done ?stop
 case assign =>
  intro l x W K hK
  gi_wp2
  exact hK
 case body =>
  rintro l pre x W ⟨S,hse,hLS,hs⟩ hlt;obtain ⟨k,hk⟩:=x;have hLk:LwR (rcN M k):=rcN_lw hL (by rw [HMR.out];exact hk);have HS:=Lib.hid hs;have HSE:=Lib.hid hse;have HLS:=Lib.hid (And.intro hLS hLk)
  have hdk:(k:Int)<(R.length:Int):=by omega
  have hwz:=hs.z;have xr:=jZc hs.r 0;have HRS:=Lib.hid (show W.rangeAt (w.heap.size+1+1+1+1) 0 (jZr S) from fun j v hj=>by rw [Nat.zero_add];exact (jZc hs.s j).trans (by simpa using hj));have HRK:=Lib.hid (reB_at (HM.out.keep hs.l) (i:=k) (by rw [HMR.out];exact hk))
  have lg2:g<W.heap.size:=by omega
  have lr2:w.heap.size+1<W.heap.size:=by omega
  have ls2:w.heap.size+1+1+1+1<W.heap.size:=by omega
  clear hs hse hLS hLk;refine wpIn_block ?_
  refine wpIn_seq_k fun K1 hK1=>?_
  obtain ⟨s0,s1,s2,s3⟩:(W.cell? ⟨w.heap.size+1+1+1+1,0,none⟩=some (.int .i64 S.x)∧W.cell? ⟨w.heap.size+1+1+1+1,1,none⟩=some (.int .i64 S.y)∧W.cell? ⟨w.heap.size+1+1+1+1,2,none⟩=some (.int .i64 S.u)∧W.cell? ⟨w.heap.size+1+1+1+1,3,none⟩=some (.int .i64 S.v)):=⟨jZc HS.out.s 0,jZc HS.out.s 1,jZc HS.out.s 2,jZc HS.out.s 3⟩
  obtain ⟨T,hTk⟩:∃ T,rcN M k=T:=⟨_,rfl⟩
  have HTK:=Lib.hid hTk;rw [hTk] at HRK HLS
  obtain ⟨d0,d1,d2,d3⟩:(W.cell? ⟨g,k*4,none⟩=some (.int .i64 T.x)∧W.cell? ⟨g,k*4+1,none⟩=some (.int .i64 T.y)∧W.cell? ⟨g,k*4+2,none⟩=some (.int .i64 T.u)∧W.cell? ⟨g,k*4+3,none⟩=some (.int .i64 T.v)):=⟨HRK.out 0 _ rfl,HRK.out 1 _ rfl,HRK.out 2 _ rfl,HRK.out 3 _ rfl⟩
  obtain ⟨Z,hZ⟩:∃ Z,dZ6 S T=Z:=⟨_,rfl⟩
  obtain ⟨q,hq⟩:∃ q,sZc S T=q:=⟨_,rfl⟩
  have HCA:Hid (∀ W':World,Calls Tryz.prog 114 #[.agg #[.int .i64 (S.x),.int .i64 (S.y),.int .i64 (S.u),.int .i64 (S.v)],.agg #[.int .i64 (T.x),.int .i64 (T.y),.int .i64 (T.u),.int .i64 (T.v)]] W' fun e w'=>e=.returned (.tuple #[.agg #[.int .i64 (Z.x),.int .i64 (Z.y),.int .i64 (Z.u),.int .i64 (Z.v)],.bool q])∧Below W'.heap.size W' w'):=Lib.hid fun W'=>by
   have:=meet_v S T W' HLS.out.1 HLS.out.2
   rw [hZ,hq] at this;exact this
  have HZ:=Lib.hid hZ;have HQ:=Lib.hid hq;clear hTk hZ hq HRS HRK;refine wpIn_named (fun W1 e1=>?_);replace e1:=Lib.hid e1;refine vZ2 9 3 (fun i=>decide (i<10)&&i != 8) (by kernel_rfl) (by kernel_rfl) (by kernel_rfl) rfl ?_
  iterate 9 (refine jZ3 (fun K hK=>?_);apply Exists.intro;refine ⟨.inl ⟨rfl,fun w' hw'=>?_⟩,?_⟩;(focus ((obtain ⟨hc,hf⟩:=kZi hw'.out);(have hcS:=kZq hw'.out);go_simp <;> first | rfl|(go_at_call 114;exact HCA.out _)));(go_simp;refine hK _ ?_;clear hK K))
  refine jZ9 ?_;refine sZ1 (i:=9) (by kernel_rfl) rfl rfl (by kernel_rfl) (fun w1_0 h1_0=>?_);go_simp;refine ⟨Gr.alloc _ _,?_⟩;refine jZ1 (by kernel_rfl) (fun w1_9 h1_9=>?_);obtain ⟨hc1_9,hf1_9⟩:=kZi h1_9.out;refine jZn (i:=10) (by kernel_rfl) rfl rfl ?_;go_simp;refine jZn (i:=11) (by kernel_rfl) rfl rfl ?_;go_simp;refine jZq (by kernel_rfl) ?_
  have s1_a:W1.heap.size≤w1_9.heap.size:=by rw [e1.out];exact Nat.le_trans h1_0.out.size (Nat.le_trans (by simp) h1_9.out.size)
  have s1_b:W1.heap.size≤w1_0.heap.size:=by rw [e1.out];exact h1_0.out.size
  have s1_c:w1_0.heap.size<w1_9.heap.size:=by have:=h1_9.out.size;simp at this;omega
  have b1_a:Below W1.heap.size W1 w1_9:=by rw [e1.out];exact sZz (jZd (sZz (Below.refl _ _).drew h1_0)) h1_9
  refine kZ0.gen (fun wf=>Below W1.heap.size W1 wf∧W1.heap.size≤w1_0.heap.size∧w1_0.heap.size<wf.heap.size∧wf.cell? ⟨w1_0.heap.size,0,none⟩=some (.int .i64 Z.x)∧wf.frozen? ⟨w1_0.heap.size,0,none⟩=false∧wf.cell? ⟨w1_0.heap.size,1,none⟩=some (.int .i64 Z.y)∧wf.frozen? ⟨w1_0.heap.size,1,none⟩=false∧wf.cell? ⟨w1_0.heap.size,2,none⟩=some (.int .i64 Z.u)∧wf.frozen? ⟨w1_0.heap.size,2,none⟩=false∧wf.cell? ⟨w1_0.heap.size,3,none⟩=some (.int .i64 Z.v)∧wf.frozen? ⟨w1_0.heap.size,3,none⟩=false) ?_ (fun wf1 hwf1=>?_)
  ·refine ⟨by repeat (first | exact b1_a|(refine bset ?_ ?_;rotate_left;((try dsimp only);omega))),?_⟩;refine ⟨s1_b,?_⟩;refine ⟨by simp;omega,?_⟩;go_simp
  generalize hgb1:w1_0.heap.size=b1 at *;have E:=e1.out;subst E;obtain ⟨hB1,hl1,hu1,c1_0,f1_0,c1_1,f1_1,c1_2,f1_2,c1_3,f1_3⟩:=hwf1
  try simp only [World.size_alloc] at hl1
  clear hgb1 e1 hc1_9 hf1_9 s1_a s1_b s1_c b1_a h1_9 w1_9 h1_0 w1_0;obtain ⟨hc1,hf1⟩:=kZi hB1;clear hc1 hf1 s0 s1 s2 s3 d0 d1 d2 d3 xr HCA
  have hz1:(wf1.heap[b1]?).isSome=true→True:=fun _=>trivial
  have HB6:=Lib.hid hB1;have hs6:W1.heap.size≤wf1.heap.size:=hB1.size;have HS6:=Lib.hid (HS.out.below hB1);clear hz1 hB1;refine hK1 _ _ ?_;clear hK1 K1
  refine wpIn_seq_k fun K2 hK2=>?_
  refine wpIn_seq_k fun K3 hK3=>?_
  refine qZl (by kernel_rfl) ?_
  cases q
  ·go_wp2;refine wpIn_cond_true rfl ?_
   refine wpIn_seq_k fun K4 hK4=>?_
   refine qZl (by kernel_rfl) ?_;have hq1:(wf1.setCells (w.heap.size+1+1) 0 (jZr ⟨0,0,0,0⟩)).heap[w.heap.size+1+1+1]?=some (.cells #[.bool false] 4 (0,0)):=(jZv (by omega) _ _ _).trans HS6.out.q
   have hp1:(wf1.setCells (w.heap.size+1+1) 0 (jZr ⟨0,0,0,0⟩)).heap[w.heap.size+1+1]?=some (.cells zRe 32 (0,0)):=by rw [jZ4 _ _ _ _ HS6.out.p,pZ3 (by rfl)];rfl
   have q0:=jZc hq1 0;have fq0:=jZm hq1 0;have HQ1:=Lib.hid hq1;have HP1:=Lib.hid hp1;have hKF:KeepsFrom W0.heap.size W1 (wf1.setCells (w.heap.size+1+1) 0 (jZr ⟨0,0,0,0⟩)):=(pZv HB6.out).trans (pZp _ _ _);have HKF:=Lib.hid hKF;have hBP:Below w.heap.size w (wf1.setCells (w.heap.size+1+1) 0 (jZr ⟨0,0,0,0⟩)):=jZi (by omega) _ _ _ HS6.out.l
   have HBP:=Lib.hid hBP;have hzp:(wf1.setCells (w.heap.size+1+1) 0 (jZr ⟨0,0,0,0⟩)).heap.size=wf1.heap.size:=pZr _ _ _ _;have hzf:=HS6.out.z;clear hq1 hp1 hKF hBP
   go_wp2_with (first|((with_reducible show wpList _ _ _ _ _ _);refine stR (.tmp 6) (.tmp 31) ⟨0,0,0,0⟩ (w.heap.size+1+1) rfl rfl HS6.out.p rfl rfl rfl ?_))
   refine wpIn_ret ?_;simp only [Exit.then,Exit.inBlock];refine ⟨HKF.out.trans ((KeepsOthers.setCell _ _ _).from _),rfl,?_,?_⟩
   ·rw [List.map_append,show List.map Subtype.val [(⟨k,hk⟩:{k:Nat // k<R.length})]=[k] from rfl,uZ2,HSE.out];simp only [Option.bind_some];rw [HTK.out,if_neg (by rw [HQ.out];exact Bool.noConfusion)]
   ·exact ⟨(Below.heap_setCell _ ⟨w.heap.size+1+1+1,0,none⟩ _ _ (by show _≠_;simp)).trans HP1.out,putS HQ1.out (.bool false),HBP.out.setCell (p:=⟨w.heap.size+1+1+1,0,none⟩) (by show w.heap.size≤w.heap.size+1+1+1;omega) _,by have:=(Below.refl w.heap.size (wf1.setCells (w.heap.size+1+1) 0 (jZr ⟨0,0,0,0⟩))).setCell (p:=⟨w.heap.size+1+1+1,0,none⟩) (by show w.heap.size≤w.heap.size+1+1+1;omega) (.bool false);have:=this.size;omega⟩
  ·go_wp2;refine wpIn_cond_false rfl ?_;refine wpIn_skip ?_;refine hK2 _ _ ?_;clear hK2 K2;refine qZl (by kernel_rfl) ?_
   have hn:(wf1.setCells (w.heap.size+1+1+1+1) 0 (jZr Z)).heap[w.heap.size+1+1+1+1]?=some (.cells (jZr Z).toArray 32 (0,0)):=by rw [jZ4 _ _ _ _ HS6.out.s,pZ3 (by rfl)]
   have hne:∀ j,j≠w.heap.size+1+1+1+1→(wf1.setCells (w.heap.size+1+1+1+1) 0 (jZr Z)).heap[j]?=wf1.heap[j]?:=fun j hj=>jZv hj _ _ _
   have HSN:=Lib.hid (show SeW w (some ⟨b,off,none⟩) c R.length g Z (wf1.setCells (w.heap.size+1+1+1+1) 0 (jZr Z)) from
    ⟨(hne _ (by omega)).trans HS6.out.t,(hne _ (by omega)).trans HS6.out.r,(hne _ (by omega)).trans HS6.out.p,(hne _ (by omega)).trans HS6.out.q,hn,jZi (by omega) _ _ _ HS6.out.l,by rw [pZr];exact HS6.out.z⟩)
   have HKF:=Lib.hid (show KeepsFrom W0.heap.size W1 (wf1.setCells (w.heap.size+1+1+1+1) 0 (jZr Z)) from (pZv HB6.out).trans (pZp _ _ _))
   have HKU:=Lib.hid (show KU (w.heap.size+1+1+1+1+1+1) (w.heap.size+1+1+1+1+1) b W1 (wf1.setCells (w.heap.size+1+1+1+1) 0 (jZr Z)) from
    ⟨(hne _ (by omega)).trans (HB6.out.block _ (by omega)),(hne _ (by omega)).trans (HB6.out.block _ (by omega)),(hne _ (by omega)).trans (HB6.out.block _ (by omega))⟩)
   clear hn hne
   go_wp2_with (first|((with_reducible show wpList _ _ _ _ _ _);refine stR (.tmp 8) (.tmp 32) Z (w.heap.size+1+1+1+1) rfl rfl HS6.out.s rfl rfl rfl ?_))
   refine ⟨HKF.out,HKU.out,Z,?_,?_,HSN.out⟩
   ·rw [List.map_append,show List.map Subtype.val [(⟨k,hk⟩:{k:Nat // k<R.length})]=[k] from rfl,uZ2,HSE.out];simp only [Option.bind_some];rw [HTK.out,if_pos HQ.out];have hz:=HZ.out;unfold dZ6 at hz;rw [if_pos HQ.out] at hz;rw [hz]
   ·have hz:=HZ.out;unfold dZ6 at hz;rw [if_pos HQ.out] at hz;rw [<- hz];exact HLS.out.1.meet HLS.out.2 HQ.out
 case done =>
  rintro D ys W hD rfl ⟨S,hse,hLS,hs⟩ hK;have HS:=Lib.hid hs;have HSE:=Lib.hid hse;have HRS:=Lib.hid (show W.rangeAt (w.heap.size+1+1+1+1) 0 (jZr S) from fun j v hj=>by rw [Nat.zero_add];exact (jZc hs.s j).trans (by simpa using hj));have hzW:=hs.z
  have hq1:(W.setCells (w.heap.size+1+1) 0 (jZr S)).heap[w.heap.size+1+1+1]?=some (.cells #[.bool false] 4 (0,0)):=(jZv (by omega) _ _ _).trans hs.q
  have hp1:(W.setCells (w.heap.size+1+1) 0 (jZr S)).heap[w.heap.size+1+1]?=some (.cells (jZr S).toArray 32 (0,0)):=by rw [jZ4 _ _ _ _ hs.p,pZ3 (by rfl)]
  have q0:=jZc hq1 0;have fq0:=jZm hq1 0;have HP1:=Lib.hid hp1;have hD1:((W.setCells (w.heap.size+1+1) 0 (jZr S)).setCell ⟨w.heap.size+1+1+1,0,none⟩ (.bool true)).heap[D]?=some (.deferred (some [])):=(Below.heap_setCell _ ⟨w.heap.size+1+1+1,0,none⟩ _ _ (by show D≠w.heap.size+1+1+1;omega)).trans ((jZv (by omega) _ _ _).trans hK)
  have hp2:((W.setCells (w.heap.size+1+1) 0 (jZr S)).setCell ⟨w.heap.size+1+1+1,0,none⟩ (.bool true)).heap[w.heap.size+1+1]?=some (.cells (jZr S).toArray 32 (0,0)):=(Below.heap_setCell _ ⟨w.heap.size+1+1+1,0,none⟩ _ _ (by show w.heap.size+1+1≠w.heap.size+1+1+1;omega)).trans hp1
  have hq2:((W.setCells (w.heap.size+1+1) 0 (jZr S)).setCell ⟨w.heap.size+1+1+1,0,none⟩ (.bool true)).heap[w.heap.size+1+1+1]?=some (.cells #[.bool true] 4 (0,0)):=putS hq1 (.bool true)
  have hb2:Below w.heap.size w ((W.setCells (w.heap.size+1+1) 0 (jZr S)).setCell ⟨w.heap.size+1+1+1,0,none⟩ (.bool true)):=(jZi (by omega) _ _ _ hs.l).setCell (p:=⟨w.heap.size+1+1+1,0,none⟩) (by show w.heap.size≤w.heap.size+1+1+1;omega) _;have HF:=Lib.hid (And.intro hD1 (And.intro hp2 (And.intro hq2 hb2)));clear hs hse hp1 hq1 hD1 hp2 hq2 hb2
  gi_wp2_with (first|(refine ldNI 32 _ (jZr S) (w.heap.size+1+1+1+1) 0 rfl rfl rfl HRS.out Tryz.underlying32 rfl (by kernel_rfl) ?_)|((with_reducible show wpListIn _ _ _ _ _ _ _ _);refine stRI (.tmp 6) (.tmp 33) S (w.heap.size+1+1) rfl rfl HS.out.p rfl rfl rfl ?_))
  obtain ⟨hD1,hp2,hq2,hb2⟩:=HF.out;clear q0 fq0;generalize ((W.setCells (w.heap.size+1+1) 0 (jZr S)).setCell ⟨w.heap.size+1+1+1,0,none⟩ (.bool true))=WF at *;refine ⟨by simp,.inl ⟨_,_,rfl,run_takeDeferred hD1,?_⟩⟩;have hp3:(WF.putObj D (.deferred none)).heap[w.heap.size+1+1]?=some (.cells (jZr S).toArray 32 (0,0)):=(World.putObj_heap_other (by omega)).trans hp2
  have hq3:(WF.putObj D (.deferred none)).heap[w.heap.size+1+1+1]?=some (.cells #[.bool true] 4 (0,0)):=(World.putObj_heap_other (by omega)).trans hq2
  obtain ⟨e0,e1,e2,e3⟩:(WF.putObj D (.deferred none)).cell? ⟨w.heap.size+1+1,0,none⟩=some (.int .i64 S.x)∧(WF.putObj D (.deferred none)).cell? ⟨w.heap.size+1+1,1,none⟩=some (.int .i64 S.y)∧(WF.putObj D (.deferred none)).cell? ⟨w.heap.size+1+1,2,none⟩=some (.int .i64 S.u)∧(WF.putObj D (.deferred none)).cell? ⟨w.heap.size+1+1,3,none⟩=some (.int .i64 S.v):=⟨jZc hp3 0,jZc hp3 1,jZc hp3 2,jZc hp3 3⟩
  have e4:=jZc hq3 0;have hbF:Below w.heap.size w (WF.putObj D (.deferred none)):=hb2.trans (belowK_b (w:=w) (Nat.le_refl _) WF D _ _ (by omega) hD1 rfl rfl);refine ⟨.tuple #[.agg #[.int .i64 (S.x),.int .i64 (S.y),.int .i64 (S.u),.int .i64 (S.v)],.bool true],?_,?_,hbF⟩
  ·simp only [results,Tryz.results71];go_simp
  ·rw [HSE.out];rfl
 case stop =>
  rintro D c' pre W hD ⟨rest,hrest⟩ ⟨rfl,hno,hx⟩ hK;have hzW:=hx.z;refine wpIn_ret ?_;simp only [Exit.then,Exit.inBlock];refine ⟨by simp,.inl ⟨_,_,rfl,run_takeDeferred hK,?_⟩⟩;have hp3:(W.putObj D (.deferred none)).heap[w.heap.size+1+1]?=some (.cells zRe 32 (0,0)):=(World.putObj_heap_other (by omega)).trans hx.p
  have hq3:(W.putObj D (.deferred none)).heap[w.heap.size+1+1+1]?=some (.cells #[.bool false] 4 (0,0)):=(World.putObj_heap_other (by omega)).trans hx.q
  obtain ⟨e0,e1,e2,e3⟩:(W.putObj D (.deferred none)).cell? ⟨w.heap.size+1+1,0,none⟩=some (.int .i64 0)∧(W.putObj D (.deferred none)).cell? ⟨w.heap.size+1+1,1,none⟩=some (.int .i64 0)∧(W.putObj D (.deferred none)).cell? ⟨w.heap.size+1+1,2,none⟩=some (.int .i64 0)∧(W.putObj D (.deferred none)).cell? ⟨w.heap.size+1+1,3,none⟩=some (.int .i64 0):=⟨jZc hp3 0,jZc hp3 1,jZc hp3 2,jZc hp3 3⟩
  have e4:=jZc hq3 0;have hbF:Below w.heap.size w (W.putObj D (.deferred none)):=hx.l.trans (belowK_b (w:=w) (Nat.le_refl _) W D _ _ (by omega) hK rfl rfl);refine ⟨.tuple #[.agg #[.int .i64 (0),.int .i64 (0),.int .i64 (0),.int .i64 (0)],.bool false],?_,?_,hbF⟩
  ·simp only [results,Tryz.results71];go_simp
  ·rw [hrest,List.map_append,dZ8 hno];rfl
end
theorem genK {K:Act→World→Prop} {a:Act} {w:World} (F:World→Prop) (hF:F w) (h:∀ W,F W→K a W):K a w:=h w hF
structure SpW (w:World) (A:Option Addr) (c n:Nat) (S:Re) (W:World):Prop where
 t:W.heap[w.heap.size]?=some (.cells #[.slice A n c] 25 (0,0))
 p:W.heap[w.heap.size+1]?=some (.cells zRe 32 (0,0))
 s:W.heap[w.heap.size+1+1]?=some (.cells (jZr S).toArray 32 (0,0))
 l:Below w.heap.size w W
theorem SpW.below {w X Y:World} {A:Option Addr} {c n:Nat} {S:Re} (h:SpW w A c n S X) (hb:Below X.heap.size X Y):SpW w A c n S Y :=
 ⟨(hb.block _ (ltS h.t)).trans h.t,(hb.block _ (ltS h.p)).trans h.p,(hb.block _ (ltS h.s)).trans h.s,jZa h.l hb⟩
theorem SpW.set {w X:World} {A:Option Addr} {c n:Nat} {S:Re} (h:SpW w A c n S X) (Z:Re):SpW w A c n Z (X.setCells (w.heap.size+1+1) 0 (jZr Z)) :=
 ⟨(jZv (by omega) _ _ _).trans h.t,(jZv (by omega) _ _ _).trans h.p,by rw [jZ4 _ _ _ _ h.s,pZ3 (by rfl)],jZi (by omega) _ _ _ h.l⟩
theorem gZz {W:World} {b:Nat} {S:Re} {T:TypeId} (h:W.heap[b]?=some (.cells (jZr S).toArray T (0,0))):(W.cell? ⟨b,0,none⟩=some (.int .i64 S.x)∧W.cell? ⟨b,1,none⟩=some (.int .i64 S.y)∧W.cell? ⟨b,2,none⟩=some (.int .i64 S.u)∧W.cell? ⟨b,3,none⟩=some (.int .i64 S.v))∧W.frozen? ⟨b,0,none⟩=false∧W.frozen? ⟨b,1,none⟩=false∧W.frozen? ⟨b,2,none⟩=false∧W.frozen? ⟨b,3,none⟩=false :=
 ⟨⟨jZc h 0,jZc h 1,jZc h 2,jZc h 3⟩,jZm h 0,jZm h 1,jZm h 2,jZm h 3⟩
theorem seen_v (A:Option Addr) (c:Nat) (R:List Nr) (M:List Re) (g i:Nat) (x0:{k:Nat // k<R.length}) (xs:List {k:Nat // k<R.length}) (w:World) (hT:TrOK (R.map Nr.n)) (h:NrV w A R) (hM:ReB w g M) (hMR:M.length=R.length) (hL:∀ S∈M,LwR S) (hi:i<R.length) (hup:IsUp (R.map Nr.n) (i:Int) ((x0 :: xs).map upC)) :
  Calls Tryz.prog 73 #[.agg #[.slice A R.length c],.slice (some ⟨g,0,none⟩) R.length R.length,.int .i64 (i:Int)] w fun e w'=>e=.returned (dZv (seL M (rcN M i) ((x0 :: xs).map Subtype.val)))∧Below w.heap.size w w':=by
 obtain ⟨x0,hx0⟩:=x0;obtain ⟨eq,h0q,nd,hnd,hlt,hge,hr⟩:=hup
 change (x0:Int)=(i:Int) at eq
 obtain rfl:x0=i:=by omega
 have hL10:R.length≤10:=by have:=hT.l10;rwa [List.length_map] at this
 obtain ⟨b,off,rfl,hb,hps⟩:=h.cells (by omega)
 obtain ⟨n,hn⟩:∃ n,R[x0]?=some n:=⟨_,List.getElem?_eq_getElem hi⟩
 rw [Int.toNat_natCast,List.getElem?_map,hn] at hnd
 obtain rfl:n.n=nd:=by simpa using hnd
 obtain ⟨S0,hS0⟩:∃ S,rcN M x0=S:=⟨_,rfl⟩
 have LS0:LwR S0:=hS0 ▸ rcN_lw hL (by omega)
 obtain ⟨ks,hks⟩:∃ ks,xs.map Subtype.val=ks:=⟨_,rfl⟩
 rw [show (⟨x0,hx0⟩ :: xs:List {k:Nat // k<R.length}).map Subtype.val=x0 :: xs.map Subtype.val from rfl,hS0,hks];have HKS:=hD hks;clear hks;have hrg:=reB_at hM (i:=x0) (by omega);rw [hS0] at hrg;have HPS:=hD hps;have HM:=hD hM;have HMR:=hD hMR;have HR:=hD hr;have HN:=hD hn;have HS0:=hD hS0;have HLS:=hD LS0
 have HRG:=hD (show ((w.alloc (.cells #[.slice (some ⟨b,off,none⟩) R.length c] 25)).alloc (.cells zRe 32)).rangeAt g (x0*4) (jZr S0) from pZi (pZi hrg ((jZd (Below.refl _ _)).block g hM.lt)) ((jZd (Below.refl _ _)).block g (Nat.lt_of_lt_of_le hM.lt (by simp))))
 have hdi:(x0:Int)<(R.length:Int):=by omega
 clear hps h hM hMR hr hn hnd hrg LS0 hS0
 go_enter Tryz.func73,Tryz.ntmps73
 go_upto_region 2 with (first|((with_reducible show wpList _ _ _ _ _ _);refine ldK 32 _ [.int .i64 S0.x,.int .i64 S0.y,.int .i64 S0.u,.int .i64 S0.v] g (x0*4) rfl rfl HRG.out Tryz.underlying32 rfl (by kernel_rfl) rfl ?_))
 refine kZf (fun W=>SpW w (some ⟨b,off,none⟩) c R.length S0 W) ?g1 (fun W hW=>?_)
 case g1 =>
  have a1:=newS w (.cells #[.slice (some ⟨b,off,none⟩) R.length c] 25 (0,0));have a2:=newS (w.alloc (.cells #[.slice (some ⟨b,off,none⟩) R.length c] 25 (0,0))) (.cells zRe 32 (0,0));have a3:=newS ((w.alloc (.cells #[.slice (some ⟨b,off,none⟩) R.length c] 25 (0,0))).alloc (.cells zRe 32 (0,0))) (.cells (jZr S0).toArray 32 (0,0));simp only [World.size_alloc] at a2 a3
  exact ⟨(Below.heap_alloc _ _ _ (by simp;omega)).trans ((Below.heap_alloc _ _ _ (by simp)).trans a1),(Below.heap_alloc _ _ _ (by simp)).trans a2,a3,jZd (jZd (jZd (Below.refl _ _)))⟩
 have HSP:=hD hW;clear hW HRG
 obtain ⟨q,hq⟩:∃ q,sZc S0 S0=q:=⟨_,rfl⟩
 have hq':=hq;rw [cZ8] at hq';have HQ:=hD hq;clear hq
 have HCS:=hD (show decide (S0.u>0)=true∧decide (S0.v>0)=q∨decide (S0.u>0)=false∧q=false by
  by_cases g1:0<S0.u
  ·exact .inl ⟨decide_eq_true g1,by simpa [g1] using hq'⟩
  ·exact .inr ⟨decide_eq_false g1,by simpa [g1] using hq'.symm⟩)
 clear hq'
 rcases HCS.out with ⟨hd1,hd2⟩ | ⟨hd1,rfl⟩
 all_goals
  clear HCS;have hpa:W.rangeAt b (off+x0*34) (jZj n):=pZi (HPS.out x0 n HN.out) (HSP.out.l.block b hb);have xp:W.cell? ⟨b,off+x0*34,none⟩=some (.int .i64 n.n.pa):=hpa 0 _ rfl;have xt:=jZc HSP.out.t 0;obtain ⟨⟨s0,s1,s2,s3⟩,f0,f1,f2,f3⟩:=gZz HSP.out.s;clear hpa
  go_wp2_with fail
  clear xp xt s0 s1 s2 s3 f0 f1 f2 f3
  go_loopw [9,10] (fun okv kv wr=>∃ (pre rest:List {k:Nat // k<R.length}) (p:Int) (o:Bool) (S:Re),kv=.int .i64 p∧okv=.bool o∧xs=pre ++ rest∧IsUp (R.map Nr.n) p (rest.map upC)∧(o=true→seL M S0 (x0 :: pre.map Subtype.val)=some S∧LwR S)∧(o=false→seL M S0 (x0 :: pre.map Subtype.val)=none)∧SpW w (some ⟨b,off,none⟩) c R.length S wr) (fun _ kv _=>(intOf kv+1).toNat)
  case atStart=>exact ⟨[],xs,n.n.pa,_,S0,rfl,rfl,rfl,HR.out,fun e=>⟨by show seL M S0 [x0]=_;simp only [seL];rw [HS0.out,HQ.out,e,if_pos rfl,bZ4],HLS.out⟩,fun e=>by show seL M S0 [x0]=_;simp only [seL];rw [HS0.out,HQ.out,e];rfl,HSP.out⟩
  case round =>
   obtain ⟨pre,rest,p,o,S,rfl,rfl,hx,hup,hyes,hno,hsp⟩:=hrel;clear HSP;have HSP:=hD hsp;have HXX:=hD hx;have xt:=jZc HSP.out.t 0;obtain ⟨⟨s0,s1,s2,s3⟩,f0,f1,f2,f3⟩:=gZz HSP.out.s;clear hsp hx
   cases o
   ·
    have HNO:=hD (show seL M S0 (x0 :: ks)=none by rw [<- HKS.out,HXX.out,List.map_append,<- List.cons_append];exact dZ8 (hno rfl));clear hyes hno
    cases hd:decide (p≥0)
    all_goals
     have hp2:(wr.setCells (w.heap.size+1) 0 (jZr ⟨0,0,0,0⟩)).heap[w.heap.size+1]?=some (.cells (jZr ⟨0,0,0,0⟩).toArray 32 (0,0)):=by rw [jZ4 _ _ _ _ HSP.out.p,pZ3 (by rfl)]
     have hb2:Below w.heap.size w (wr.setCells (w.heap.size+1) 0 (jZr ⟨0,0,0,0⟩)):=jZi (by omega) _ _ _ HSP.out.l;obtain ⟨⟨e0,e1,e2,e3⟩,-⟩:=gZz hp2;have HB2:=hD hb2;clear hp2 hb2
     go_wp2_with (first|((with_reducible show wpList _ _ _ _ _ _);refine stR (.tmp 6) (.tmp 51) ⟨0,0,0,0⟩ (w.heap.size+1) rfl rfl HSP.out.p rfl rfl rfl ?_))
     exact bodyPost_ret (v:=.tuple #[.agg #[.int .i64 (0),.int .i64 (0),.int .i64 (0),.int .i64 (0)],.bool false]) (by simp only [results,Tryz.results73];go_simp) rfl ⟨by rw [HNO.out];rfl,HB2.out⟩
   ·cases rest with
    | nil =>
     obtain rfl:p=-1:=hup;obtain ⟨hse,hls⟩:=hyes rfl;have HSE:=hD (show seL M S0 (x0 :: ks)=some S by rw [<- HKS.out,HXX.out,List.append_nil];exact hse);clear hyes hno hse hls
     have hp2:(wr.setCells (w.heap.size+1) 0 (jZr S)).heap[w.heap.size+1]?=some (.cells (jZr S).toArray 32 (0,0)):=by rw [jZ4 _ _ _ _ HSP.out.p,pZ3 (by rfl)]
     have hb2:Below w.heap.size w (wr.setCells (w.heap.size+1) 0 (jZr S)):=jZi (by omega) _ _ _ HSP.out.l;obtain ⟨⟨e0,e1,e2,e3⟩,-⟩:=gZz hp2;have HB2:=hD hb2;clear hp2 hb2
     go_wp2_with (first|((with_reducible show wpList _ _ _ _ _ _);refine stR (.tmp 6) (.tmp 52) S (w.heap.size+1) rfl rfl HSP.out.p rfl rfl rfl ?_))
     exact bodyPost_ret (v:=.tuple #[.agg #[.int .i64 (S.x),.int .i64 (S.y),.int .i64 (S.u),.int .i64 (S.v)],.bool true]) (by simp only [results,Tryz.results73];go_simp) rfl ⟨by rw [HSE.out];rfl,HB2.out⟩
    | cons y ys =>
     obtain ⟨k,hk⟩:=y;obtain ⟨ek,h0k,nk,hnk,hltk,hgek,hrk⟩:=hup
     change (k:Int)=p at ek
     subst ek;rw [Int.toNat_natCast,List.getElem?_map] at hnk;obtain ⟨m,hm,rfl⟩:=Option.map_eq_some_iff.1 hnk;obtain ⟨hse,hls⟩:=hyes rfl
     obtain ⟨T,hTk⟩:∃ T,rcN M k=T:=⟨_,rfl⟩
     have hlt:LwR T:=hTk ▸ rcN_lw hL (by rw [HMR.out];exact hk);have hrg:=reB_at (HM.out.keep HSP.out.l) (i:=k) (by rw [HMR.out];exact hk);rw [hTk] at hrg;have HTK:=hD hTk;have HSE:=hD hse;have HLS:=hD (And.intro hls hlt)
     obtain ⟨d0,d1,d2,d3⟩:(wr.cell? ⟨g,k*4,none⟩=some (.int .i64 T.x)∧wr.cell? ⟨g,k*4+1,none⟩=some (.int .i64 T.y)∧wr.cell? ⟨g,k*4+2,none⟩=some (.int .i64 T.u)∧wr.cell? ⟨g,k*4+3,none⟩=some (.int .i64 T.v)):=⟨hrg 0 _ rfl,hrg 1 _ rfl,hrg 2 _ rfl,hrg 3 _ rfl⟩
     obtain ⟨Z,hZ⟩:∃ Z,dZ6 S T=Z:=⟨_,rfl⟩
     obtain ⟨o,ho⟩:∃ o,sZc S T=o:=⟨_,rfl⟩
     have HCA:Hid (∀ W':World,Calls Tryz.prog 90 #[.agg #[.int .i64 (S.x),.int .i64 (S.y),.int .i64 (S.u),.int .i64 (S.v)],.agg #[.int .i64 (T.x),.int .i64 (T.y),.int .i64 (T.u),.int .i64 (T.v)]] W' fun e w'=>e=.returned (.tuple #[.agg #[.int .i64 (Z.x),.int .i64 (Z.y),.int .i64 (Z.u),.int .i64 (Z.v)],.bool o])∧Below W'.heap.size W' w'):=hD fun W'=>by
      have:=smeet_v S T W' HLS.out.1 HLS.out.2
      rw [hZ,ho] at this;exact this
     have HZ:=hD hZ;have HO:=hD ho;have HNK:=hD hm;have HRK:=hD hrk
     obtain ⟨z,hz⟩:∃ z,m.n.pa=z:=⟨_,rfl⟩
     have HZZ:=hD hz;rw [hz] at hltk hgek;have hd:decide ((k:Int)≥0)=true:=decide_eq_true h0k;have hd2:decide ((0:Int)≤(k:Int))=true:=decide_eq_true h0k
     have hdk:(k:Int)<(R.length:Int):=by omega
     have lg:g<wr.heap.size:=(HM.out.keep HSP.out.l).lt;have ls:=ltS HSP.out.s;have lt:=ltS HSP.out.t;have ls':w.heap.size+1+1<wr.drew.heap.size:=ls;have lt':w.heap.size<wr.drew.heap.size:=lt;have lg':g<wr.drew.heap.size:=lg;clear hyes hno hse hls hlt hrg hTk hZ ho hm hnk hrk hz
     go_wp2_with fail
     refine jZg 9 2 (fun i=>decide (i<9)&&i != 8) (by kernel_rfl) (by kernel_rfl) rfl ?_
     iterate 9 (refine jZ3 (fun K hK=>?_);apply Exists.intro;refine ⟨.inl ⟨rfl,fun w' hw'=>?_⟩,?_⟩;(focus ((obtain ⟨hc,hf⟩:=kZi hw'.out);(have hcS:=kZq hw'.out);go_simp <;> first | rfl|(go_at_call 90;exact HCA.out _)));(go_simp;refine hK _ ?_;clear hK K))
     refine jZ9 ?_;refine jZ1 (by kernel_rfl) (fun wt1 ht1=>?_);obtain ⟨hct1,hft1⟩:=kZi ht1.out;have kb0_0:wt1.cell? ⟨w.heap.size+1+1,0,none⟩=some (.int .i64 (S.x)):=(hct1 _ _ (by assumption)).trans (by assumption);have kg0_0:wt1.frozen? ⟨w.heap.size+1+1,0,none⟩=false:=(hft1 _ _ (by assumption)).trans (by assumption)
     have kb0_1:wt1.cell? ⟨w.heap.size+1+1,1,none⟩=some (.int .i64 (S.y)):=(hct1 _ _ (by assumption)).trans (by assumption);have kg0_1:wt1.frozen? ⟨w.heap.size+1+1,1,none⟩=false:=(hft1 _ _ (by assumption)).trans (by assumption);have kb0_2:wt1.cell? ⟨w.heap.size+1+1,2,none⟩=some (.int .i64 (S.u)):=(hct1 _ _ (by assumption)).trans (by assumption)
     have kg0_2:wt1.frozen? ⟨w.heap.size+1+1,2,none⟩=false:=(hft1 _ _ (by assumption)).trans (by assumption);have kb0_3:wt1.cell? ⟨w.heap.size+1+1,3,none⟩=some (.int .i64 (S.v)):=(hct1 _ _ (by assumption)).trans (by assumption);have kg0_3:wt1.frozen? ⟨w.heap.size+1+1,3,none⟩=false:=(hft1 _ _ (by assumption)).trans (by assumption);clear hct1 hft1;refine jZn (i:=9) (by kernel_rfl) rfl rfl ?_
     go_simp;refine jZn (i:=10) (by kernel_rfl) rfl rfl ?_;go_simp;refine jZq (by kernel_rfl) ?_;refine qZp ?_;have hsp2:SpW w (some ⟨b,off,none⟩) c R.length Z (wt1.setCells (w.heap.size+1+1) 0 (jZr Z)):=(HSP.out.below (jZs ht1.out)).set Z;clear kb0_0 kb0_1 kb0_2 kb0_3 kg0_0 kg0_1 kg0_2 kg0_3 HCA d0 d1 d2 d3 s0 s1 s2 s3 f0 f1 f2 f3 xt ls' lt' lg' ls lt lg
     simp only [Exit.inBlock,Exit.then];refine genK (fun W2=>SpW w (some ⟨b,off,none⟩) c R.length Z W2) hsp2 (fun W2 h2=>?_);clear hsp2 ht1 wt1;have HSP2:=hD h2;have xt:=jZc h2.t 0
     have xp:W2.cell? ⟨b,off+k*34,none⟩=some (.int .i64 z):=by
      have:=pZi (HPS.out k m HNK.out) (h2.l.block b hb) 0 _ rfl
      rw [HZZ.out] at this;exact this
     clear h2;go_wp2
     go_roundw
     case rel=>exact ⟨pre ++ [⟨k,hk⟩],ys,z,o,Z,rfl,rfl,by rw [HXX.out];simp,by have:=HRK.out;rwa [HZZ.out] at this,fun e=>by
      have e2:=HO.out.trans e;have hz:=HZ.out;unfold dZ6 at hz;rw [if_pos e2] at hz;rw [List.map_append,show List.map Subtype.val [(⟨k,hk⟩:{k:Nat // k<R.length})]=[k] from rfl,<- List.cons_append,uZ2,HSE.out];simp only [Option.bind_some];rw [HTK.out,if_pos e2,hz]
      exact ⟨rfl,hz ▸ HLS.out.1.meet HLS.out.2 e2⟩,fun e=>by
      have e2:=HO.out.trans e;rw [List.map_append,show List.map Subtype.val [(⟨k,hk⟩:{k:Nat // k<R.length})]=[k] from rfl,<- List.cons_append,uZ2,HSE.out];simp only [Option.bind_some]
      rw [HTK.out,if_neg (by rw [e2];exact Bool.noConfusion)],HSP2.out⟩
     case measure=>simp [intOf];omega
end Go.Proofs.YtfnpdlnepjhljaaGreat
