/- FnHiddenNodes: for every code the law returns true. No condition. -/
import Derived.Test.YtfnpdlnepjhljaaGreatQH14
set_option linter.unusedVariables false
set_option linter.unusedSimpArgs false
set_option maxRecDepth 100000
set_option maxHeartbeats 16000000
namespace Go.Proofs.YtfnpdlnepjhljaaGreat.lHiddenNodes
open Go.RowKit
attribute [local go_sem] kZb kZp kZg
open Go.ChangeShapes Go.WideShapes Go.ChangeAt Go.RowKit Go.Joins
attribute [local go_sem 5000] kZk kZj
attribute [local go_sem] jZ0 jZ5 jZ2
theorem walk (A:Option Addr) (n c:Nat) (z:List Int) (w:World) (wz:IsRow .u8 w A n c z):Calls Tryz.prog 9 #[.slice A n c] w fun e w'=>e=.returned (.bool true)∧Below w.heap.size w w':=by
 obtain ⟨hb,hn,hc⟩:=wz.bts;clear wz
 by_cases hlen:n≤1048576
 ·have hl1:¬ (1048576:Int)<n:=by omega
  go_enter Tryz.func9,Tryz.ntmps9
  go_wp2_with fail
  with_reducible refine (tZ4 A n c _ hb hn hc).mono ?_
  rintro e w1 ⟨⟨g,c0,R,a,b,rfl,htk,hcap,r1,r2⟩,hB⟩;have hbb:Below w1.heap.size w1 (w1.alloc (.cells #[.slice (some ⟨g,0,none⟩) R.length c0] 25)):=jZd (Below.refl _ _);have HX:=hD (newS w1 (.cells #[.slice (some ⟨g,0,none⟩) R.length c0] 25));have HK:=hD (htk.keep hbb);have HB:=hD (jZd (o:=(.cells #[.slice (some ⟨g,0,none⟩) R.length c0] 25)) hB);clear hB hb hn hc htk hbb
  obtain ⟨M,hM⟩:∃ M,lyL (R.map Nr.n) a b=M:=⟨_,rfl⟩
  have HM:=hD hM
  have hml:M.length≤10:=by rw [<- hM];exact hZg _ _ _
  have HF:=hD (lay_facts (L:=R.map Nr.n) (a:=a) (b:=b));rw [hM] at HF;clear hM
  obtain ⟨O,hO⟩:∃ O,hidM (R.map Nr.n) a b=O:=⟨_,rfl⟩
  have hol:O.length≤1000:=by rw [<- hO];have:=hidM_len (R.map Nr.n) a b;omega
  have HO:=hD hO;clear hO;have x0:=jZc HX.out 0
  go_wp2_with fail
  with_reducible refine (eZq (some ⟨g,0,none⟩) c0 R.length R a b _ rfl HK.out.nrv HK.out.rdr (by omega) HK.out.mx).mono ?_
  rintro e w2 ⟨⟨x,rfl,hx⟩,hb⟩;rw [HO.out] at hx;obtain ⟨A4,c4,rfl,hc4,hnv⟩:=go_sl hx;have HNV:=hD hnv;clear x0 hx hnv;replace HX:=hbk hb HX;replace HK:=hD (HK.out.keep hb);replace HB:=hD (jZa HB.out hb);clear hb;have x0:=jZc HX.out 0
  go_wp2_with fail
  with_reducible refine (tZv (some ⟨g,0,none⟩) c0 R.length R a b _ rfl HK.out.nrv HK.out.rdr (by omega) HK.out.mx).mono ?_
  rintro e w3 ⟨⟨x3,rfl,hx3⟩,hb⟩;rw [HO.out] at hx3;obtain ⟨A5,c5,rfl,hn5⟩:=hx3;have HS:=hD hn5;clear x0 hn5;replace HX:=hbk hb HX;replace HK:=hD (HK.out.keep hb);replace HNV:=hD (HNV.out.keep hb);replace HB:=hD (jZa HB.out hb);clear hb
  go_wp2_with fail
  with_reducible refine (bZw _ _ O _ (nrI' HNV.out) (nrI' HS.out) (by omega)).mono ?_
  rintro e w4 ⟨rfl,hb⟩;replace HX:=hbk hb HX;replace HK:=hD (HK.out.keep hb);replace HNV:=hD (HNV.out.keep hb);replace HB:=hD (jZa HB.out hb);clear hb;clear HS;have x0:=jZc HX.out 0
  go_wp2_with fail
  with_reducible refine (vZx (some ⟨g,0,none⟩) c0 R.length R a b _ rfl HK.out.nrv HK.out.rdr (by omega) HK.out.mx).mono ?_
  rintro e w5 ⟨⟨x6,rfl,hx6⟩,hb⟩;rw [HM.out] at hx6;obtain ⟨A6,rfl,-⟩:=hx6.sl;clear x0;replace HX:=hbk hb HX;replace HK:=hD (HK.out.keep hb);replace HNV:=hD (HNV.out.keep hb);replace HB:=hD (jZa HB.out hb);clear hb
  by_cases hz:M.length=0
  ·have e0:decide ((M.length:Int)=0)=true:=decide_eq_true (by omega)
   have hz':((M.length:Nat):Int)=0:=by omega
   have e0b:((M.length:Int) == 0)=true:=beq_iff_eq.2 hz';clear hz HF;have x0:=jZc HX.out 0
   go_wp2_with fail
   with_reducible refine (tZv (some ⟨g,0,none⟩) c0 R.length R a b _ rfl HK.out.nrv HK.out.rdr (by omega) HK.out.mx).mono ?_
   rintro e w7 ⟨⟨x5,rfl,hx5⟩,hb⟩;rw [HO.out] at hx5;obtain ⟨A7,c7,rfl,hn7⟩:=hx5;have HS:=hD hn7;clear x0 hn7;replace HNV:=hD (HNV.out.keep hb);replace HB:=hD (jZa HB.out hb);clear hb
   go_wp2_with fail
   with_reducible refine (bZw _ _ O _ (nrI' HNV.out) (nrI' HS.out) (by omega)).mono ?_
   rintro e w8 ⟨rfl,hb⟩;replace HB:=hD (jZa HB.out hb);clear hb;go_wp2;go_ret;exact ⟨rfl,HB.out⟩
  ·have e0:decide ((M.length:Int)=0)=false:=decide_eq_false (by omega)
   have hz':¬ ((M.length:Nat):Int)=0:=by omega
   have e0b:((M.length:Int) == 0)=false:=beq_eq_false_iff_ne.2 hz'
   have hzp:0<M.length:=by omega
   obtain ⟨⟨htb,hwa,hwb⟩,hLR,h00,heq,hnn⟩:=HF.out hzp;have hT:=sZg htb;rw [List.length_map] at hLR;clear hz HF;have HLR:=hD hLR;have HT:=hD hT;clear hnn h00 heq hT htb hLR
   obtain ⟨f,hf⟩:∃ f:Nat→Bool,f=fun k=>(seM (R.map Nr.n) M k).isSome:=⟨_,rfl⟩
   have HIN:=hD (show ∀ k:Nat,k<M.length→decide ((k:Int)∈O)=!f k by
    intro k hk
    have:=hidM_in (L:=R.map Nr.n) (a:=a) (b:=b) (k:=k) (by rw [HM.out];exact hk)
    rw [HM.out,HO.out] at this
    rw [this,hf])
   have HSP:=hD (show ∀ k:Nat,k<M.length→∃ r:Re,dZv (spM (R.map Nr.n) a b (k:Int))=.tuple #[.agg #[.int .i64 (r.x),.int .i64 (r.y),.int .i64 (r.u),.int .i64 (r.v)],.bool (f k)] by
    intro k hk;obtain ⟨r,hr⟩:=sZ9 (spM (R.map Nr.n) a b (k:Int));refine ⟨r,?_⟩;rw [hr,hf]
    have e:spM (R.map Nr.n) a b (k:Int)=seM (R.map Nr.n) M k:=by
     unfold spM;have hlr:=HLR.out;rw [HM.out,if_pos ⟨by omega,by rw [pZa,List.length_map];omega⟩,Int.toNat_natCast]
    rw [e])
   have HDN:=hD (show ∀ (k p:Nat) (n0:Nd),(R.map Nr.n)[k]?=some n0→p<k→n0.pa=(p:Int)→f p=false→f k=false by
    intro k p n0 hk hpk hp h;rw [hf] at h ⊢
    dsimp only at h ⊢
    have e:seM (R.map Nr.n) M p=none:=by cases e:seM (R.map Nr.n) M p;rfl;rw [e] at h;cases h
    rw [seM_down HT.out hk hpk hp e]
    rfl)
   have HASC:=hD (show ∀ (m:Nat) (x y:Int),O[m]?=some x→O[m+1]?=some y→x<y by
    intro m x y h1 h2;rw [<- HO.out] at h1 h2
    exact idsM_asc h1 h2)
   clear hf
   go_wp2_with fail
   go_loopw [7] (fun i wr=>∃ k:Nat,k≤R.length∧i=.int .i64 (k:Int)∧Below w5.heap.size w5 wr) (fun i _=>R.length-(intOf i).toNat)
   case atStart=>exact ⟨0,by omega,rfl,Below.refl _ _⟩
   case round =>
    obtain ⟨k,hk,rfl,hBr⟩:=hrel;have HXr:=hD ((hBr.block _ (ltS HX.out)).trans HX.out);have HKr:=hD (HK.out.keep hBr);have x0:=jZc HXr.out 0;have lx:=ltS HXr.out;have lg:g<wr.heap.size:=let ⟨_,hh,_⟩:=HKr.out.blk;ltS hh
    by_cases hlt:k<R.length
    ·have hd:decide ((k:Int)<(R.length:Int))=true:=by simpa using hlt
     have hkm:k<M.length:=by have:=HLR.out;omega
     obtain ⟨r,hsv⟩:=HSP.out k hkm
     go_wp2_with fail
     have HC:=hD (SeenPart_v (some ⟨g,0,none⟩) c0 R.length R a b (k:Int) wr rfl HKr.out.nrv HKr.out.rdr (by omega) HKr.out.mx);rw [hsv] at HC;refine HC.out.mono ?_;rintro e w6 ⟨rfl,hb⟩;have hbz:Below w6.heap.size w6 (w6.alloc (.cells #[.int .i64 r.x,.int .i64 r.y,.int .i64 r.u,.int .i64 r.v] 32 (0,0))):=jZd (Below.refl _ _);have HBR:=hD (jZa (jZa hBr hb) hbz)
     have HXs:=hD (((jZa hb hbz).block _ (ltS HXr.out)).trans HXr.out);have HKs:=hD ((HKr.out.keep hb).keep hbz);have HNs:=hD (HNV.out.keep HBR.out);clear x0 lx lg hb hbz hBr HXr HKr HC hsv
     obtain ⟨fk,hfk⟩:∃ c,f k=c:=⟨_,rfl⟩
     rw [hfk]
     cases fk
     ·have hik:decide ((k:Int)∈O)=true:=by rw [HIN.out k hkm,hfk];rfl
      go_wp2_with fail
      with_reducible refine (cZ5 _ (k:Int) O true _ (nrI' HNs.out) (by omega) hik).mono ?_
      rintro e w8 ⟨rfl,hb⟩;replace HBR:=hD (jZa HBR.out hb);replace HNs:=hD (HNs.out.keep hb);have HXt:=hD ((hb.block _ (ltS HXs.out)).trans HXs.out);have HKt:=hD (HKs.out.keep hb);clear HXs HKs;clear hb
      by_cases hk0:k=0
      ·have d1:decide ((0:Int)<(k:Int))=false:=decide_eq_false (by omega)
       have d2:¬ (0:Int)<(k:Int):=by omega
       clear HXt HKt hk0;go_wp2
       go_roundw
       case rel=>exact ⟨k+1,by omega,by go_num,HBR.out⟩
       case measure=>simp [intOf];omega
      ·obtain ⟨p,j,np,hpk,hnp,hkj⟩:=kid_of HT.out (k:=k) (by omega) (by rw [List.length_map];omega);have hget:R[k]?=some R[k]:=List.getElem?_eq_getElem (by omega);have hpa:R[k].n.pa=(p:Int):=bZv (List.mem_of_getElem? hkj) (by rw [List.getElem?_map,hget];rfl);have hdn:=HDN.out k p R[k].n (by rw [List.getElem?_map,hget];rfl) hpk hpa
       have y0:w8.cell? ⟨g,k*34,none⟩=some (.int .i64 (p:Int)):=by have:=HKt.out.cellAt hget 0 (.int .i64 R[k].n.pa) rfl;rw [Nat.add_zero,hpa] at this;exact this
       have hip:=HIN.out p (by omega)
       obtain ⟨fp,hfp⟩:∃ c,f p=c:=⟨_,rfl⟩
       rw [hfp] at hip hdn;have x0:=jZc HXt.out 0
       have hdr:(k:Int)<(R.length:Int):=by omega
       have d1:decide ((0:Int)<(k:Int))=true:=decide_eq_true (by omega)
       have d2:(0:Int)<(k:Int):=by omega
       clear hget hpa hnp hkj HXt HKt hk0
       cases fp
       ·clear hdn
        go_wp2_with fail
        have hip':decide ((p:Int)∈O)=true:=hip
        with_reducible refine (cZ5 _ (p:Int) O true _ (nrI' HNs.out) (by omega) hip').mono ?_
        rintro e w8 ⟨rfl,hb⟩;replace HBR:=hD (jZa HBR.out hb);replace HNs:=hD (HNs.out.keep hb);clear hb;clear x0 y0
        go_wp2_with fail
        with_reducible refine (cZ5 _ (k:Int) O true _ (nrI' HNs.out) (by omega) hik).mono ?_
        rintro e w8 ⟨rfl,hb⟩;replace HBR:=hD (jZa HBR.out hb);replace HNs:=hD (HNs.out.keep hb);clear hb;go_wp2
        go_roundw
        case rel=>exact ⟨k+1,by omega,by go_num,HBR.out⟩
        case measure=>simp [intOf];omega
       ·clear hdn
        go_wp2_with fail
        have hip':decide ((p:Int)∈O)=false:=hip
        with_reducible refine (cZ5 _ (p:Int) O false _ (nrI' HNs.out) (by omega) hip').mono ?_
        rintro e w8 ⟨rfl,hb⟩;replace HBR:=hD (jZa HBR.out hb);replace HNs:=hD (HNs.out.keep hb);clear hb;clear x0 y0;go_wp2
        go_roundw
        case rel=>exact ⟨k+1,by omega,by go_num,HBR.out⟩
        case measure=>simp [intOf];omega
     ·have hik:decide ((k:Int)∈O)=false:=by rw [HIN.out k hkm,hfk];rfl
      go_wp2_with fail
      with_reducible refine (cZ5 _ (k:Int) O false _ (nrI' HNs.out) (by omega) hik).mono ?_
      rintro e w8 ⟨rfl,hb⟩;replace HBR:=hD (jZa HBR.out hb);replace HNs:=hD (HNs.out.keep hb);have HXt:=hD ((hb.block _ (ltS HXs.out)).trans HXs.out);have HKt:=hD (HKs.out.keep hb);clear HXs HKs;clear hb
      by_cases hk0:k=0
      ·have d1:decide ((0:Int)<(k:Int))=false:=decide_eq_false (by omega)
       have d2:¬ (0:Int)<(k:Int):=by omega
       clear HXt HKt hk0;go_wp2
       go_roundw
       case rel=>exact ⟨k+1,by omega,by go_num,HBR.out⟩
       case measure=>simp [intOf];omega
      ·obtain ⟨p,j,np,hpk,hnp,hkj⟩:=kid_of HT.out (k:=k) (by omega) (by rw [List.length_map];omega);have hget:R[k]?=some R[k]:=List.getElem?_eq_getElem (by omega);have hpa:R[k].n.pa=(p:Int):=bZv (List.mem_of_getElem? hkj) (by rw [List.getElem?_map,hget];rfl);have hdn:=HDN.out k p R[k].n (by rw [List.getElem?_map,hget];rfl) hpk hpa
       have y0:w8.cell? ⟨g,k*34,none⟩=some (.int .i64 (p:Int)):=by have:=HKt.out.cellAt hget 0 (.int .i64 R[k].n.pa) rfl;rw [Nat.add_zero,hpa] at this;exact this
       have hip:=HIN.out p (by omega)
       obtain ⟨fp,hfp⟩:∃ c,f p=c:=⟨_,rfl⟩
       rw [hfp] at hip hdn;have x0:=jZc HXt.out 0
       have hdr:(k:Int)<(R.length:Int):=by omega
       have d1:decide ((0:Int)<(k:Int))=true:=decide_eq_true (by omega)
       have d2:(0:Int)<(k:Int):=by omega
       clear hget hpa hnp hkj HXt HKt hk0
       cases fp
       ·have:=hdn rfl
        rw [hfk] at this
        cases this
       ·clear hdn
        go_wp2_with fail
        have hip':decide ((p:Int)∈O)=false:=hip
        with_reducible refine (cZ5 _ (p:Int) O false _ (nrI' HNs.out) (by omega) hip').mono ?_
        rintro e w8 ⟨rfl,hb⟩;replace HBR:=hD (jZa HBR.out hb);replace HNs:=hD (HNs.out.keep hb);clear hb;clear x0 y0;go_wp2
        go_roundw
        case rel=>exact ⟨k+1,by omega,by go_num,HBR.out⟩
        case measure=>simp [intOf];omega
    ·have hd:decide ((k:Int)<(R.length:Int))=false:=decide_eq_false (by omega);have HNr:=hD (HNV.out.keep hBr);have HBR:=hD (jZa HB.out hBr);clear hBr HKr HXr lg
     go_wp2_with fail
     with_reducible refine (ascends_v _ O _ (nrI' HNr.out) (by omega) HASC.out).mono ?_
     rintro e w7 ⟨rfl,hb⟩;replace HBR:=hD (jZa HBR.out hb);clear hb;go_wp2;go_ret;exact ⟨rfl,HBR.out⟩
 ·have hl1:(1048576:Int)<n:=by omega
  go_enter Tryz.func9,Tryz.ntmps9
  go_wp2;go_ret;exact ⟨rfl,Below.refl _ _⟩
theorem lifted (os:Os) (started:os.Started) (H:Type) (enc:TypeId × Value→H) :
  ReturnsInHanded {} Tryz.checked os 9 .any (Rows.fnHiddenNodesSpec.pre6 enc Tryz.prog Tryz.f9 Rows.fnHiddenNodesRow.domain false) (Rows.fnHiddenNodesSpec.post enc Tryz.prog Tryz.f9 false true false false):=by
 refine returnsInHanded_of_change (C:=Tryz.checked) own started (by kernel_rfl) Tryz.func9
  (ChangeSpec.witness6 (enc:=enc) (C:=Tryz.checked) false ⟨#[],#[.slice none 0 0],[]⟩ 8 (by kernel_rfl) (by kernel_rfl) (by kernel_rfl) (by kernel_rfl)) ?_
 intro W base args ds gs before hval0 hW hcnd _;have hval:∀ (j:Nat) t v,Tryz.f9.params[j]?=some t→args[j]?=some v→Value.okWide Tryz.prog W .any base t v:=hval0;have hW':=hW;obtain ⟨p,q,hA0,hV,rfl,hfz,hnd⟩:=hW;have hA:DataW.TrodAll enc Tryz.prog W 0 (fun _=>true) true Tryz.f9.params.toList args.toList ds p:=hA0;rw [Tryz.params9] at hA hval
 obtain ⟨v0,vs0,d0,ds0,p0,q0,hargs,rfl,rfl,h0,r0⟩:=trodAll_cons hA;obtain ⟨rfl,rfl,rfl⟩:=trodAll_nil r0
 obtain rfl:args=#[v0]:=by cases args;simp_all
 obtain ⟨rfl,rfl⟩:=trodVars_none hV;have k0:=h0
 have lt0:∀ x∈p0,x.block<W.heap.size:=by obtain ⟨m,hm⟩:=k0;exact DataW.trod_lt m _ _ _ hm
 obtain ⟨a0,len0,cap0,rfl⟩:=okWide_slice Tryz.underlying22 (hval 0 22 v0 rfl rfl)
 obtain ⟨z0,wz0⟩:∃ zs,IsRow .u8 W a0 len0 cap0 zs:=by
  obtain ⟨fuel,hf⟩:=h0
  rcases open_ints Tryz.underlying22 Tryz.underlying5 (by kernel_rfl) hf with ⟨hcs,_⟩ | ⟨x,l,c,zs,hcs,_,hl,hm,hz,_,hcell,hwz⟩
  ·simp [Value.cells] at hcs
   obtain ⟨rfl,rfl,rfl⟩:=hcs;exact ⟨[],.inl ⟨rfl,rfl,rfl,rfl⟩⟩
  ·simp [Value.cells] at hcs
   obtain ⟨rfl,rfl,rfl⟩:=hcs;exact ⟨zs,.inr ⟨_,rfl,hl,hm,by simpa using hz,hcell,hwz⟩⟩
 clear hA0 hval0
 refine (walk a0 len0 cap0 z0 W wz0).mono fun e W' ⟨he,bel⟩=>?_
 subst he;exact ⟨_,rfl,_,_,_,[],_,[],hW',trodAll_mk1 (shut_bool Tryz.underlying4 _),(trodAll_cons_mk (Below.trod laidOut (by kernel_rfl) (of_decide_eq_true (by kernel_rfl)) k0 bel lt0) trodAll_mk0),rfl,bel.frame _,fun h=>by cases h⟩
theorem y0:mapsRowed Tryz.prog=true:=by kernel_rfl
theorem y1:Tryz.prog.inPlace 9=Rows.fnHiddenNodesRow.inPlace:=by kernel_rfl
theorem y2:Tryz.prog.unfollowed 9=Rows.fnHiddenNodesRow.unfollowed:=by kernel_rfl
theorem y3:Tryz.prog.recurses 9=Rows.fnHiddenNodesRow.recurses:=by kernel_rfl
theorem y4:Tryz.prog.varsNamed 9=Rows.fnHiddenNodesRow.named:=by kernel_rfl
theorem y5:Tryz.prog.plainKeys=Rows.fnHiddenNodesRow.plainKeys:=by kernel_rfl
theorem y6:Tryz.prog.stopsHeard=true:=by kernel_rfl
theorem y7:Tryz.prog.mayEnter=true:=by kernel_rfl
theorem y8:Tryz.prog.liftsFinal=Rows.fnHiddenNodesRow.lifted:=by kernel_rfl
theorem y9:Tryz.prog.make=some Rows.fnHiddenNodesRow.make:=by kernel_rfl
theorem closed:joinedFacts Tryz.prog 9 Tryz.f9 Rows.fnHiddenNodesSpec Rows.fnHiddenNodesRow=true:=by
 unfold joinedFacts;rw [laidOut,y0,y1,y2,y3,y4,y5,y6,y7,y8,y9];kernel_rfl
theorem over:Rows.fnHiddenNodesRow.holds Tryz.pinned (OpenSpec.ofChange Rows.fnHiddenNodesSpec) :=
 OpenClaim.holds_of_wide 9 Tryz.f9 rfl rfl rfl rfl rfl rfl rfl ⟨rfl,rfl,rfl,rfl,rfl⟩ rfl rfl rfl rfl rfl (by kernel_rfl) Tryz.func9 closed
  (of_decide_eq_true (by kernel_rfl)) (by unfold Func.isWrapper;first|(rw [if_pos (by decide +kernel)];kernel_rfl)|(rw [if_neg (by decide +kernel)];exact ⟨rfl,rfl⟩))
  (fun os started H enc _=>lifted os started H enc)
theorem proved:Rows.FnHiddenNodesSaid:=over
end Go.Proofs.YtfnpdlnepjhljaaGreat.lHiddenNodes
