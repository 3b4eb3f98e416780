import Derived.Test.YtenckjdiggaonaaGreatQu12
set_option linter.unusedVariables false
set_option linter.unusedSimpArgs false
set_option maxRecDepth 100000
set_option maxHeartbeats 16000000
namespace Go.Proofs.YtenckjdiggaonaaGreat
open Go.RowKit
attribute [local go_sem] growUpon_value growUpon_skip growUpon_enter
section
attribute [local go_sem 5000] run_mx run_mn
theorem OB.but {w w':World} {g h cap:Nat} {L:List Int} (hi:OB w h cap L) (hg:w.grownBy w' (some g)) (hne:h ≠ g):OB w' h cap L:=by
 obtain ⟨hl,cs,hh,hs,hc⟩:=hi;exact ⟨hl,cs,(hg.block h (ltS hh) (fun e=>hne (Option.some.inj e))).trans hh,hs,hc⟩
theorem below_own0 {n:Nat} {a W w5:World} {v:Value} {lo hi:Nat} (h':Below n a W) (hg:W.grownBy w5 v.ownBlock) (hob:∀ k,v.ownBlock=some k→lo≤k∧k<hi) (hlo:n≤lo) (hn:n≤a.heap.size):Below n a w5 :=
 ⟨hg.os.trans h'.os,hg.tape.trans h'.tape,hg.output.trans h'.output,Nat.le_trans h'.size hg.size,fun k hk=>(hg.block k (Nat.lt_of_lt_of_le (Nat.lt_of_lt_of_le hk hn) h'.size) (fun e=>by have:=hob k e.symm;omega)).trans (h'.block k hk)⟩
theorem mixM_skip {B:List Int} {k:Nat} (h:B[k]?=some 0):mixM B (k+1)=mixM B k:=by
 obtain ⟨hk,e⟩:=List.getElem?_eq_some_iff.1 h;unfold mixM;rw [List.take_succ_eq_append_getElem hk,e,show B.length - k=(B.length - (k+1))+1 from by omega,List.replicate_succ,List.append_assoc]
 rfl
theorem sshrunk_v (A:Option Addr) (c no:Nat) (O:List Int) (A':Option Addr) (c':Nat) (L:List Ln) (n:Int) (w:World) (h:NV w A O) (hno:no=O.length) (h':LnV w A' L) (hL:linesB L=true) (hS:SOK L O) (hn:n≤100000000000000) (hn0:0≤n) :
  Calls Tryz.prog 175 #[.slice A' L.length c',.slice A no c,.int .i64 n] w fun e w'=>(∃ g cap,e=.returned (.slice (some ⟨g,0,none⟩) no cap)∧w.heap.size≤g∧OB w' g cap (shrZ L n O))∧Below w.heap.size w w':=by
 obtain ⟨hl1,hl5⟩:=linesB_len hL;have hol:=hS.len
 have hno5:no≤5:=by omega
 have hno1:1≤no:=by omega
 obtain ⟨ti,tz,ti1,ti2,ti3,ti4,ti5⟩:=int_infoW
 have hmk:∀ w:World,(Instr.makeSlice 37 (.int .i64 (L.length:Int)) (.int .i64 (L.length:Int))).run Tryz.prog w=.ok (.slice (some ⟨w.heap.size,0,none⟩) L.length L.length) (w.alloc (.cells (ivals (List.replicate L.length 0)) 3)):=fun w=>madeI L.length w (by omega)
 obtain ⟨b,off,rfl,hb,hp⟩:=h.cells (by omega);have hB0:Below w.heap.size w (w.alloc (.cells #[] 3 (0,0))):=balloc (Below.refl _ _)
 have hsrc:∀ j v,(nvalsW O)[j]?=some v→(w.alloc (.cells #[] 3 (0,0))).cell? ((⟨b,off,none⟩:Addr).add j)=some v:=fun j v hj=>by
  unfold nvalsW at hj;rw [List.getElem?_map] at hj
  cases ho:O[j]? with
  | none=>rw [ho] at hj;cases hj
  | some x =>
   rw [ho] at hj;obtain rfl:=Option.some.inj hj;rw [add_none];exact (hB0.cell (p:=⟨b,off+j,none⟩) hb).trans (hp j x ho)
 have ho0:(w.alloc (.cells #[] 3 (0,0))).ownsRow w.heap.size 3 1 (.slice (some ⟨w.heap.size,0,none⟩) 0 0) 0 (nvalsW []):=World.ownsRow_lit (base:=w.heap.size) (e:=3) (size:=1) w #[] 0 (Nat.le_refl _) (by decide) rfl;have hob:=ho0.lt;have HO:=hD ho0;have HSRC:=hD hsrc;have HB0:=hD hB0;have HL:=hD hL;have HS:=hD hS;have HNO:=hD hno;have HNL:=hD (show no=L.length by omega);have HMK:=hD hmk
 have h1c:∀ v ∈ nvalsW O,v.oneCell'=true:=by simp [nvalsW,Value.oneCell']
 have hnl:(nvalsW O).length=no:=by simp [nvalsW,hno]
 have HNV:=hD hnl;clear hsrc hB0 hp hL hS hol hno ho0 hmk hnl
 go_enter Tryz.func175,Tryz.ntmps175
 go_wp2_with (at_builtin;refine wpList_append_own _ rfl _ _ 37 rfl w.heap.size 3 ti tz 1 8 Tryz.underlying37 ti1 ti2 ti3 ti4 ti5 (by decide) _ _ _ rfl HO.out ⟨b,off,none⟩ no c (nvalsW O) rfl (by rw [HNV.out,Nat.mul_one]) HSRC.out h1c (by simp only [maxLen];omega) (by omega) (by simp) ?_)
 intro v5 w5 how5 hgr5 _
 have hnv0:nvalsW [] ++ nvalsW O=nvalsW O:=by simp [nvalsW]
 simp only [hnv0,Nat.zero_add] at how5;have HB5:=hD (below_own0 HB0.out hgr5 hob (Nat.le_refl _) (Nat.le_refl _))
 rcases own_inW how5 HNO.out with ⟨rfl,hM⟩ | ⟨g,cap,rfl,hbg,hO⟩
 ·have:O.length=0:=by rw [hM];rfl
  have:=HNO.out
  omega
 have HO5:=hD hO;clear how5 hgr5 hnv0 HO HSRC HB0 hob hO h1c
 go_wp2_with fail
 go_loopw [2] (fun nv wr=>∃ (n':Int) (O':List Int),nv=.int .i64 n'∧0≤n'∧n'≤100000000000000∧SOK L O'∧OB wr g cap O'∧shrZ L n' O'=shrZ L n O∧Below w.heap.size w wr) (fun nv _=>(intOf nv).toNat)
 case atStart=>exact ⟨n,O,rfl,hn0,hn,HS.out,HO5.out,rfl,HB5.out⟩
 case round =>
  obtain ⟨n',O',rfl,hn0',hn',hS,hI,hR,hBr⟩:=hrel;clear HO5 HB5 HS;have HI:=hD hI;have HB:=hD hBr;have HS:=hD hS;have HR:=hD hR;have hol:=hS.len;clear hI hBr hS hR
  by_cases hpos:0<n'
  ·have hd:decide (n' > 0)=true:=by simpa using hpos
   have hmk:=HMK.out
   go_wp2_with fail
   have hIg:=HI.out.lt;have hBa:Below wr.heap.size wr (wr.alloc (.cells (ivals (List.replicate L.length 0)) 3)):=balloc (Below.refl _ _);have HI1:=hD (HI.out.keep hBa);have HB1:=hD (bkeep2 HB.out hBa)
   have hW1:IB (wr.alloc (.cells (ivals (List.replicate L.length 0)) 3)) wr.heap.size (mixM (wtZ L O') 0):=by rw [mixM_zero,wtZ_len HS.out.len];exact makeI_b _ _
   have HW1:=hD hW1;have hwl:=wtZ_len HS.out.len;have HWL:=hD hwl.symm;have hwg:w.heap.size≤wr.heap.size:=HB.out.size;clear hBa hW1 hmk hwl HI HB;generalize wr.heap.size=gw at *
   go_loopw [9] (fun i wr=>∃ k:Nat,k≤L.length∧i=.int .i64 k∧OB wr g cap O'∧IB wr gw (mixM (wtZ L O') k)∧Below w.heap.size w wr) (fun i _=>L.length - (intOf i).toNat)
   case atStart=>exact ⟨0,by omega,rfl,HI1.out,HW1.out,HB1.out⟩
   case round =>
    obtain ⟨k,hk,rfl,hI,hWr,hBr⟩:=hrel;clear HI1 HW1 HB1
    by_cases hlt:k<L.length
    ·have hd2:decide ((k:Int)<(L.length:Int))=true:=by simpa using hlt
     obtain ⟨b',off',rfl,hb',hp⟩:=(h'.keep hBr).cells (by omega);have hget:L[k]?=some L[k]:=List.getElem?_eq_getElem hlt;obtain ⟨c0,c1⟩:=hp k _ hget
     have hko:k<O'.length:=by omega
     have hgo:O'[k]?=some O'[k]:=List.getElem?_eq_getElem hko;have hwz:=wtZ_get hget hgo;have hlo:=SOK.each HL.out HS.out hget hgo;generalize L[k]=l at *;generalize O'[k]=o at *;have p0:=hI.cell hgo
     have hkn:(k:Int)<(no:Int):=by have:=HNL.out;omega
     have hs1:=hI.lt;obtain ⟨y,hy⟩:=mixM_get (B:=wtZ L O') (k:=k) (by rw [<- HWL.out];exact hlt);have HI:=hD hI;have HW:=hD hWr;have HB:=hD hBr;have HY:=hD hy;have HGO:=hD hgo;clear hI hWr hBr hp hget hgo hy
     by_cases e:l.mi<o
     ·have hz:decide (o > l.mi)=true:=by simpa using e
      rw [if_pos e] at hwz;have HWZ:=hD hwz;clear hwz
      go_wp2_with fail
      refine wp_region_grow 10 0 (·<10) (by kernel_rfl) (by kernel_rfl) rfl ?_
      iterate 10 (refine wpG_step (fun K hK=>?_);first | (refine grow_skip rfl ?_;go_simp;refine hK _ ?_;clear hK K) | (apply Exists.intro;refine ⟨.inl ⟨rfl,fun w' hw'=>?_⟩,?_⟩;(focus ((obtain ⟨hc,hf⟩:=bcell hw'.out);(have hcS:=bcellS hw'.out);go_simp <;> first | rfl | fail));(go_simp;refine hK _ ?_;clear hK K)))
      refine wpG_nil ?_;refine wpK_tail (by kernel_rfl) (fun w5 hg5=>?_);have hb5:=bdrewn hg5.out;refine wpAny_end (by kernel_rfl) ?_;refine NoPan.thn ?_;clear hg5;have HW5:=HW.out.keep hb5;have d0:=HW5.cell HY.out;have f0:=HW5.frozen k;have HW6:=HW5.set k l.wt;rw [mixM_set HWZ.out] at HW6;have HW6:=hD HW6;have HI6:=hD ((HI.out.keep hb5).but (gsetI (greflI _ gw) k (.int .i64 l.wt)) (by omega))
      have HB6:=hD ((bkeep2 HB.out hb5).setCell (p:=⟨gw,k,none⟩) (by show w.heap.size≤gw;omega) (.int .i64 l.wt));have e0:=(hb5.cell (p:=⟨b',off'+k*2,none⟩) hb').trans c0;have hb6:=Nat.lt_of_lt_of_le hb' hb5.size;clear HW5 hb5 HW HI HB c0 c1 p0;go_wp2
      go_roundw
      case rel=>exact ⟨k+1,by omega,by go_num,HI6.out,HW6.out,HB6.out⟩
      case measure=>simp [intOf];omega
     ·have hz:decide (o > l.mi)=false:=by simpa using e
      rw [if_neg e] at hwz;have HWZ:=hD hwz;clear hwz
      go_wp2_with fail
      refine wp_region_grow 10 0 (·<10) (by kernel_rfl) (by kernel_rfl) rfl ?_
      iterate 10 (refine wpG_step (fun K hK=>?_);first | (refine grow_skip rfl ?_;go_simp;refine hK _ ?_;clear hK K) | (apply Exists.intro;refine ⟨.inl ⟨rfl,fun w' hw'=>?_⟩,?_⟩;(focus ((obtain ⟨hc,hf⟩:=bcell hw'.out);(have hcS:=bcellS hw'.out);go_simp <;> first | rfl | fail));(go_simp;refine hK _ ?_;clear hK K)))
      refine wpG_nil ?_;refine wpK_tail (by kernel_rfl) (fun w5 hg5=>?_);have hb5:=bdrewn hg5.out;refine wpAny_end (by kernel_rfl) ?_;refine NoPan.thn ?_;clear hg5;have HW6:=HW.out.keep hb5;rw [<- mixM_skip HWZ.out] at HW6;have HW6:=hD HW6;have HI6:=hD (HI.out.keep hb5);have HB6:=hD (bkeep2 HB.out hb5);clear hb5 HW HI HB;go_wp2
      go_roundw
      case rel=>exact ⟨k+1,by omega,by go_num,HI6.out,HW6.out,HB6.out⟩
      case measure=>simp [intOf];omega
    ·have hd2:decide ((k:Int)<(L.length:Int))=false:=decide_eq_false (by omega)
     obtain rfl:k=L.length:=by omega
     have hwl:=HWL.out;rw [hwl,mixM_all] at hWr;have HI:=hD hI;have HW:=hD hWr;have HB:=hD hBr;have HOK:=hD (wtZ_ok HL.out HS.out);clear hI hWr hBr hwl
     go_wp2_with fail
     with_reducible refine (total_n _ _ L.length (wtZ L O') _ HW.out.nv HWL.out (by omega) HOK.out.smal).mono ?_
     rintro e w5 ⟨rfl,rfl⟩
     by_cases hs:sumI (wtZ L O')=0
     ·have hz:(sumI (wtZ L O') == 0)=true:=by simpa using hs
      have HE:=hD (shr_end (L:=L) (n:=n') (.inr hs));clear hs;go_wp2;go_ret;exact ⟨⟨g,cap,rfl,hbg,by rw [<- HR.out,HE.out];exact HI.out⟩,HB.out⟩
     ·have hz:(sumI (wtZ L O') == 0)=false:=by simpa using hs
      have HGO:=hD (shr_go HL.out HS.out hpos hs);have HRK:=hD (round_ok HL.out HS.out hpos hs);clear hs
      go_wp2_with fail
      with_reducible refine (sspread_n _ _ L.length n' (wtZ L O') _ HW.out.nv HWL.out HOK.out hn0' (by omega)).mono ?_
      rintro e w5 ⟨rfl,hp5,hb5⟩;have HI5:=hD (HI.out.keep hb5);have HB5:=hD (bkeep2 HB.out hb5);have HP:=hD hp5;have hgp:g<wr.heap.size:=HI.out.lt;have HPB:=hD (spread_pos (n:=n') hn0' HOK.out)
      have hpl:(spreadM n' (wtZ L O')).length=L.length:=by rw [spreadM_len];exact HWL.out.symm
      have HPL:=hD hpl;clear hp5 hb5 hpl HI HW HB;generalize wr.heap.size=gp at *;generalize spreadM n' (wtZ L O')=P at *
      go_wp2_with fail
      go_loopw [2,11] (fun nv i wr=>∃ k:Nat,k≤L.length∧i=.int .i64 k∧nv=.int .i64 (n' - tknZ L O' (P.take k))∧OB wr g cap (takZ L O' (P.take k))∧w5.grownBy wr (some g)) (fun _ i _=>L.length - (intOf i).toNat)
      case atStart=>exact ⟨0,by omega,rfl,by rw [List.take_zero,tknZ_nil,Int.sub_zero],by rw [List.take_zero,takZ_nil];exact HI5.out,greflI _ _⟩
      case round =>
       obtain ⟨k,hk,rfl,rfl,hI,hgr⟩:=hrel;clear HI5
       by_cases hlt:k<L.length
       ·have hd2:decide ((k:Int)<(L.length:Int))=true:=by simpa using hlt
        have hBr:=below_grown HB5.out hgr hbg HB5.out.size;obtain ⟨b',off',rfl,hb',hq⟩:=(h'.keep hBr).cells (by omega);have hget:L[k]?=some L[k]:=List.getElem?_eq_getElem hlt;obtain ⟨c0,c1⟩:=hq k _ hget
        have hko:k<O'.length:=by omega
        have hgo:O'[k]?=some O'[k]:=List.getElem?_eq_getElem hko
        have hkp:k<P.length:=by have:=HPL.out;omega
        have hgq:P[k]?=some P[k]:=List.getElem?_eq_getElem hkp;have hlo:=SOK.each HL.out HS.out hget hgo;have hpb:=HPB.out _ (List.getElem_mem hkp)
        have hpt:∀ x ∈ P.take k,(0:Int)≤x∧x≤100000000000000:=fun x hx=>by have:=HPB.out x (List.mem_of_mem_take hx);omega
        have htb:=tkn_bd (P:=P.take k) HS.out (fun x hx=>(hpt x hx).1);have hsb:=sumI_bd hpt
        have hlt5:(P.take k).length≤5:=by rw [List.length_take];omega
        have hts:=takZ_snoc hget hgo hgq;have htk:=tknZ_snoc hget hgo hgq;have hx0:(takZ L O' (P.take k))[k]?=some O'[k]:=takZ_get hgo (by rw [List.length_take];omega);generalize L[k]=l at *;generalize O'[k]=o at *;generalize P[k]=p at *;obtain ⟨hlo1,hlo2,hlo3,hlo4⟩:=hlo;obtain ⟨hp0,hp1⟩:=hpb;have q0:=(HP.out.but hgr (by omega)).cell hgq;have d0:=hI.cell hx0;have hs1:=hI.lt
        have hs2:=(HP.out.but hgr (by omega)).lt
        have hkn:(k:Int)<(no:Int):=by have:=HNL.out;omega
        have hwr:IntKind.i64.wrap (o - l.mi)=o - l.mi:=IntWalk.i64_in _ (by omega);have hmn:=mn_spec p (o - l.mi);have HX0:=hD hx0;have HI:=hD hI;have HG:=hD hgr;have HTS:=hD hts;have HTK:=hD htk;have HMN:=hD hmn;have ht00:0≤tknZ L O' (P.take k):=htb.1
        have ht01:tknZ L O' (P.take k)≤500000000000000:=by omega
        generalize tknZ L O' (P.take k)=t0 at *;clear hI hgr hBr hts htk hmn hx0 hget hgo hgq hq htb hsb hpt hlt5
        go_wp2_with fail
        refine wp_region_grow 15 1 (·<15) (by kernel_rfl) (by kernel_rfl) rfl ?_
        iterate 15 (refine wpG_step (fun K hK=>?_);first | (refine grow_skip rfl ?_;go_simp;refine hK _ ?_;clear hK K) | (apply Exists.intro;refine ⟨.inl ⟨rfl,fun w' hw'=>?_⟩,?_⟩;(focus ((obtain ⟨hc,hf⟩:=bcell hw'.out);(have hcS:=bcellS hw'.out);go_simp <;> first | rfl | fail));(go_simp;refine hK _ ?_;clear hK K)))
        refine wpG_nil ?_;refine wpK_tail (by kernel_rfl) (fun w7 hg7=>?_);have hb7:=bdrewn hg7.out;obtain ⟨hc7,hf7⟩:=bcell hb7;refine wpAny_one (i:=15) (by kernel_rfl) rfl rfl ?_;go_simp;refine wpAny_end (by kernel_rfl) ?_;refine NoPan.thn ?_;clear hc7 hf7;clear hg7
        obtain ⟨t,ht⟩:∃ t,mn p (o - l.mi)=t:=⟨_,rfl⟩
        have hmn:=HMN.out;have HTS2:=HTS.out;have HTK2:=HTK.out;rw [ht] at hmn HTS2 HTK2;rw [ht];have HI7:=HI.out.keep hb7;have d7:=HI7.cell HX0.out;have f7:=HI7.frozen k;have HI8:=HI7.set k (o - t) (by rw [takZ_len];exact hko);rw [HTS2] at HI8;have HI8:=hD HI8;have HG8:=hD (gsetI (grown_below HG.out hb7) k (.int .i64 (o - t)));have HTK2:=hD HTK2
        have ht0:0≤t:=by omega
        have ht1:t≤p:=hmn.1;clear HI7 HTS2 hb7 hmn ht HMN HTS HTK HI HG;go_wp2
        go_roundw
        case rel=>exact ⟨k+1,by omega,by go_num,by rw [HTK2.out];go_num,HI8.out,HG8.out⟩
        case measure=>simp [intOf];omega
       ·have hd2:decide ((k:Int)<(L.length:Int))=false:=decide_eq_false (by omega);have hke:P.take k=P:=List.take_of_length_le (by have:=HPL.out;omega);rw [hke] at hI ⊢;obtain ⟨hr1,hr2,hr3,hr4⟩:=HRK.out;have HI6:=hD hI;have HB6:=hD (below_grown HB5.out hgr hbg HB5.out.size);have HS6:=hD hr4;clear hI hgr hke hr1 hr4;go_wp2
        go_roundw
        case rel=>exact ⟨_,_,rfl,by omega,by omega,HS6.out,HI6.out,by rw [<- HGO.out];exact HR.out,HB6.out⟩
        case measure=>simp [intOf];omega
  ·have hd:decide (n' > 0)=false:=by simpa using hpos
   have HE:=hD (shr_end (L:=L) (O:=O') (n:=n') (.inl (by omega)));go_wp2;go_ret;exact ⟨⟨g,cap,rfl,hbg,by rw [<- HR.out,HE.out];exact HI.out⟩,HB.out⟩
end
section
attribute [local go_sem 5000] run_mx run_mn
def sizedO (L:List Ln) (O:List Int) (room:Int):List Int :=
 if room - sumI O<0 then shrZ L (-(room - sumI O)) O
 else if sumI (L.map Ln.wt)=0 then O
 else addAt O 0 (spreadM (room - sumI O) (L.map Ln.wt))
theorem sized_w (B:Option Addr) (c no:Nat) (O:List Int) (A':Option Addr) (c':Nat) (L:List Ln) (room:Int) (w:World) (h:NV w B O) (hno:no=O.length) (h':LnV w A' L) (hL:linesB L=true) (hS:SOK L O) (hO:∀ x ∈ O,0≤x∧x≤100000000000000) (hs0:0≤sumI O) (hs1:sumI O≤10000000000350) (hr0:0≤room) (hr1:room≤20000000000000) :
  Calls Tryz.prog 155 #[.slice A' L.length c',.slice B no c,.int .i64 room] w fun e w'=>(∃ g cap,e=.returned (.slice (some ⟨g,0,none⟩) no cap)∧w.heap.size≤g∧OB w' g cap (sizedO L O room))∧Below w.heap.size w w':=by
 obtain ⟨hl1,hl5⟩:=linesB_len hL;have hol:=hS.len
 have hno5:no≤5:=by omega
 have hno1:1≤no:=by omega
 have hww:=(min_bd hL).2;have hws:=hww.sum;have HSM:=hD (smal_of (L:=O) (b:=100000000000000) (M:=1000000000000000) (fun x hx=>by have:=hO x hx;omega) (by omega) (by omega));have HWW:=hD hww;have HO:=hD hO;have HL:=hD hL;have HS:=hD hS;have HNO:=hD hno;have HNL:=hD (show no=L.length by omega);obtain ⟨ti,tz,ti1,ti2,ti3,ti4,ti5⟩:=int_infoW;obtain ⟨b,off,rfl,hb,hp⟩:=h.cells (by omega);have HPP:=hD hp
 clear hww hO hL hS hol hno hp
 go_enter Tryz.func155,Tryz.ntmps155
 go_wp2_with fail
 with_reducible refine (total_n _ _ no O _ h HNO.out (by omega) HSM.out).mono ?_
 rintro e w3 ⟨rfl,rfl⟩
 obtain ⟨q,hq⟩:∃ q,sumI O=q:=⟨_,rfl⟩
 rw [hq] at hs0 hs1;rw [hq];have HQ:=hD hq;clear hq
 by_cases hneg:room - q<0
 ·have hd:decide (room - q<0)=true:=by simpa using hneg
  have he:sizedO L O room=shrZ L (-(room - q)) O:=by unfold sizedO;rw [HQ.out,if_pos hneg]
  have HE:=hD he;clear he
  go_wp2_with fail
  refine (sshrunk_v _ _ no O _ _ L _ _ h HNO.out h' HL.out HS.out (by omega) (by omega)).mono ?_;rintro e w5 ⟨⟨g,cap,rfl,hg,hi5⟩,hb5⟩;have HB5:=hD hb5
  first | rw [<- HE.out] at hi5 | (rw [show q - room=-(room - q) from by omega,<- HE.out] at hi5) | (rw [show 0 - (room - q)=-(room - q) from by omega,<- HE.out] at hi5)
  have HI5:=hD hi5;clear hi5 hb5;go_wp2;go_ret;exact ⟨⟨g,cap,rfl,hg,HI5.out⟩,HB5.out⟩
 ·have hd:decide (room - q<0)=false:=by simpa using hneg
  have hB0:Below w.heap.size w (w.alloc (.cells #[] 3 (0,0))):=balloc (Below.refl _ _)
  have hsrc:∀ j v,(nvalsW O)[j]?=some v→(w.alloc (.cells #[] 3 (0,0))).cell? ((⟨b,off,none⟩:Addr).add j)=some v:=fun j v hj=>by
   unfold nvalsW at hj;rw [List.getElem?_map] at hj
   cases ho:O[j]? with
   | none=>rw [ho] at hj;cases hj
   | some x =>
    rw [ho] at hj;obtain rfl:=Option.some.inj hj;rw [add_none];exact (hB0.cell (p:=⟨b,off+j,none⟩) hb).trans (HPP.out j x ho)
  have ho0:(w.alloc (.cells #[] 3 (0,0))).ownsRow w.heap.size 3 1 (.slice (some ⟨w.heap.size,0,none⟩) 0 0) 0 (nvalsW []):=World.ownsRow_lit (base:=w.heap.size) (e:=3) (size:=1) w #[] 0 (Nat.le_refl _) (by decide) rfl;have hob:=ho0.lt;have HO0:=hD ho0;have HSRC:=hD hsrc;have HB0:=hD hB0
  have h1c:∀ v ∈ nvalsW O,v.oneCell'=true:=by simp [nvalsW,Value.oneCell']
  have hnl:(nvalsW O).length=no:=by simp [nvalsW,HNO.out]
  have HNV:=hD hnl;clear hsrc hB0 ho0 hnl
  go_wp2_with (at_builtin;refine wpList_append_own _ rfl _ _ 37 rfl w.heap.size 3 ti tz 1 8 Tryz.underlying37 ti1 ti2 ti3 ti4 ti5 (by decide) _ _ _ rfl HO0.out ⟨b,off,none⟩ no c (nvalsW O) rfl (by rw [HNV.out,Nat.mul_one]) HSRC.out h1c (by simp only [maxLen];omega) (by omega) (by simp) ?_)
  intro v5 w5 how5 hgr5 _
  have hnv0:nvalsW [] ++ nvalsW O=nvalsW O:=by simp [nvalsW]
  simp only [hnv0,Nat.zero_add] at how5;have HB5:=hD (below_own0 HB0.out hgr5 hob (Nat.le_refl _) (Nat.le_refl _))
  rcases own_inW how5 HNO.out with ⟨rfl,hM⟩ | ⟨g,cap,rfl,hbg,hOB⟩
  ·have:O.length=0:=by rw [hM];rfl
   have:=HNO.out
   omega
  have HI:=hD hOB;clear how5 hgr5 hnv0 HO0 HSRC HB0 hob hOB h1c;have HLV:=hD (h'.keep HB5.out)
  go_wp2_with fail
  refine (weightsOf_v _ _ L.length L _ HLV.out rfl (by omega)).mono ?_;rintro e w6 ⟨⟨A2,c2,rfl,hn6⟩,hb6⟩;have HN6:=hD hn6;replace HI:=hD (HI.out.keep hb6);replace HB5:=hD (bkeep2 HB5.out hb6);clear hn6 hb6 HLV
  go_wp2_with fail
  with_reducible refine (total_n _ _ L.length (L.map Ln.wt) _ HN6.out (by simp) (by omega) HWW.out.smal).mono ?_
  rintro e w7 ⟨rfl,rfl⟩
  by_cases hz0:sumI (L.map Ln.wt)=0
  ·have hz:(sumI (L.map Ln.wt) == 0)=true:=by simpa using hz0
   have he:sizedO L O room=O:=by unfold sizedO;rw [HQ.out,if_neg (by omega),if_pos hz0]
   have HE:=hD he;clear he hz0;go_wp2;go_ret;exact ⟨⟨g,cap,rfl,hbg,by rw [HE.out];exact HI.out⟩,HB5.out⟩
  ·have hz:(sumI (L.map Ln.wt) == 0)=false:=by simpa using hz0
   have he:sizedO L O room=addAt O 0 (spreadM (room - q) (L.map Ln.wt)):=by unfold sizedO;rw [HQ.out,if_neg (by omega),if_neg hz0]
   have HE:=hD he;have HLV:=hD (h'.keep HB5.out);clear he hz0
   go_wp2_with fail
   refine (weightsOf_v _ _ L.length L _ HLV.out rfl (by omega)).mono ?_;rintro e w8 ⟨⟨A3,c3,rfl,hn8⟩,hb8⟩;have HN8:=hD hn8;replace HI:=hD (HI.out.keep hb8);replace HB5:=hD (bkeep2 HB5.out hb8);clear hn8 hb8 HLV HN6
   go_wp2_with fail
   refine (sspread_n _ _ L.length (room - q) (L.map Ln.wt) _ HN8.out (by simp) HWW.out (by omega) (by omega)).mono ?_;rintro e w9 ⟨rfl,hp9,hb9⟩;have hgp:=HI.out.lt;have HP:=hD hp9;replace HI:=hD (HI.out.keep hb9);replace HB5:=hD (bkeep2 HB5.out hb9);have HPB:=hD (spread_pos (n:=room - q) (by omega) HWW.out)
   have HPL:=hD (show (spreadM (room - q) (L.map Ln.wt)).length=no by rw [spreadM_len,List.length_map,HNL.out]);clear hp9 hb9 HN8;generalize w8.heap.size=gp at *;generalize spreadM (room - q) (L.map Ln.wt)=P at *
   go_wp2_with fail
   go_loopw [10] (fun i wr=>∃ k:Nat,k≤no∧i=.int .i64 k∧OB wr g cap (addAt O 0 (P.take k))∧w9.grownBy wr (some g)) (fun i _=>no - (intOf i).toNat)
   case atStart=>exact ⟨0,by omega,rfl,by rw [List.take_zero,addAt_nil];exact HI.out,greflI _ _⟩
   case round =>
    obtain ⟨k,hk,rfl,hI,hgr⟩:=hrel;clear HI
    by_cases hlt:k<no
    ·have hd2:decide ((k:Int)<(no:Int))=true:=by simpa using hlt
     have hkp:k<P.length:=by have:=HPL.out;omega
     have hgq:P[k]?=some P[k]:=List.getElem?_eq_getElem hkp
     have hko:0+k<O.length:=by have:=HNO.out;omega
     have hgo:O[0+k]?=some O[0+k]:=List.getElem?_eq_getElem hko;have hpb:=HPB.out _ (List.getElem_mem hkp);have hob:=HO.out _ (List.getElem_mem hko);generalize P[k]=p at *;generalize O[0+k]=o at *;obtain ⟨hp0,hp1⟩:=hpb;obtain ⟨ho0,ho1⟩:=hob;have hx0:=addAt_get hgo (P:=P.take k) (by rw [List.length_take];omega);have has:=addAt_snoc hgo hgq;rw [Nat.zero_add] at hx0 has
     have q0:=(HP.out.but hgr (by omega)).cell hgq;have d0:=hI.cell hx0;have hs2:=hI.lt;have hs3:=(HP.out.but hgr (by omega)).lt
     have hkl:(k:Int)<(L.length:Int):=by have:=HNL.out;omega
     have hwr3:IntKind.i64.wrap (o+p)=o+p:=IntWalk.i64_in _ (by omega)
     have hal3:k<(addAt O 0 (P.take k)).length:=by rw [addAt_len];omega
     have HX0:=hD hx0;have HI6:=hD hI;have HG6:=hD hgr;have HAS:=hD has;clear hI hgr hgq hgo hx0 has
     go_wp2_with fail
     refine wp_region_grow 12 1 (·<12) (by kernel_rfl) (by kernel_rfl) rfl ?_
     iterate 12 (refine wpG_step (fun K hK=>?_);first | (refine grow_skip rfl ?_;go_simp;refine hK _ ?_;clear hK K) | (apply Exists.intro;refine ⟨.inl ⟨rfl,fun w' hw'=>?_⟩,?_⟩;(focus ((obtain ⟨hc,hf⟩:=bcell hw'.out);(have hcS:=bcellS hw'.out);go_simp <;> rfl));(go_simp;refine hK _ ?_;clear hK K)))
     refine wpG_nil ?_;refine wpK_tail (by kernel_rfl) (fun w7 hg7=>?_);have hb7:=bdrewn hg7.out;have HI7:=HI6.out.keep hb7;have d7:=HI7.cell HX0.out;have f7:=HI7.frozen k;have HI8:=HI7.set k (o+p) hal3;rw [HAS.out] at HI8;have HI8:=hD HI8;have HG8:=hD (gsetI (grown_below HG6.out hb7) k (.int .i64 (o+p)));clear HI7;refine wpAny_one (i:=12) (by kernel_rfl) rfl rfl ?_;go_simp
     refine wpAny_end (by kernel_rfl) ?_;refine nopan_normal9 ?_;clear hb7 hg7;go_wp2
     go_roundw
     case rel=>exact ⟨k+1,by omega,by go_num,HI8.out,HG8.out⟩
     case measure=>simp [intOf];omega
    ·have hd2:decide ((k:Int)<(no:Int))=false:=decide_eq_false (by omega);have hke:P.take k=P:=List.take_of_length_le (by have:=HPL.out;omega);rw [hke,<- HE.out] at hI;have HI6:=hD hI;have HB6:=hD (below_grown HB5.out hgr hbg HB5.out.size);clear hI hgr hke;go_wp2;go_ret;exact ⟨⟨g,cap,rfl,hbg,HI6.out⟩,HB6.out⟩
end
section
def spvalsN:List Sp→List Value
 | []=>[]
 | r :: t=>valsSp r ++ spvalsN t
theorem spvalsN_append (A B:List Sp):spvalsN (A ++ B)=spvalsN A ++ spvalsN B:=by
 induction A with
 | nil=>rfl
 | cons r t ih=>simp [spvalsN,ih]
theorem spvalsN_succ {M:List Sp} {k:Nat} {r:Sp} (h:M[k]?=some r):spvalsN (M.take k) ++ valsSp r=spvalsN (M.take (k+1)):=by
 rw [List.take_add_one,h,Option.toList,spvalsN_append];simp [spvalsN]
theorem spvalsN_get:∀ {M:List Sp} {i:Nat} {r:Sp},M[i]?=some r→∀ j,j<3→(spvalsN M)[i*3+j]?=(valsSp r)[j]?
 | [],i,r,h,_,_=>by simp at h
 | q :: t,0,r,h,j,hj=>by
  simp at h;subst h
  show (valsSp q ++ spvalsN t)[0*3+j]?=_
  rw [List.getElem?_append_left (by simp [valsSp];omega)];simp
 | q :: t,i+1,r,h,j,hj=>by
  show (valsSp q ++ spvalsN t)[(i+1)*3+j]?=_
  rw [List.getElem?_append_right (by simp [valsSp];omega)]
  have:=spvalsN_get (M:=t) (i:=i) (r:=r) (by simpa using h) j hj
  rw [<- this];congr 1;simp [valsSp];omega
def SpR (w:World) (v:Value) (L:List Sp):Prop:=∃ A c,v=.slice A L.length c∧SpV w A L
theorem SpR.keep {w w':World} {v:Value} {L:List Sp} (h:SpR w v L) (hb:Below w.heap.size w w'):SpR w' v L:=let ⟨A,c,e,n⟩:=h;⟨A,c,e,n.keep hb⟩
theorem SpR.own {w:World} {base n:Nat} {v:Value} {M:List Sp} {T:TypeId} (h:w.ownsRow base T 3 v n (spvalsN M)) (hn:n=M.length):SpR w v M:=by
 subst hn;have hl:=h.lt
 have hc:=fun g hg=>h.cells (g:=g) hg
 rcases h.2 with ⟨rfl,h0⟩ | ⟨g,cap,cur,rfl,_⟩
 ·exact ⟨none,0,by rw [h0],⟨fun h=>absurd h (by omega)⟩⟩
 ·refine ⟨_,cap,rfl,⟨fun _=>⟨g,0,rfl,(hl g rfl).2,fun i r hr=>?_⟩⟩⟩
  have e:∀ j,j<3→∀ u,(valsSp r)[j]?=some u→w.cell? ⟨g,0+i*3+j,none⟩=some u:=fun j hj u hu=>by
   have h1:=hc g rfl (i*3+j) u ((spvalsN_get hr j hj).trans hu)
   have hadd:(⟨g,0,none⟩:Addr).add (i*3+j)=⟨g,i*3+j,none⟩:=by unfold Addr.add;split <;> simp_all
   rw [hadd] at h1
   rwa [Nat.zero_add]
  exact ⟨e 0 (by omega) _ rfl,e 1 (by omega) _ rfl,e 2 (by omega) _ rfl⟩
theorem span_infoN:∃ (i:TypeInfo) (z:Value),Tryz.prog.info? 200=some i∧i.zero=some z∧i.size=3∧i.bytes=24∧z.cells.size=3:=by
 have hinfo:(Tryz.prog.info? 200).map (fun i=>(i.zero,i.size,i.bytes))=some (some (.agg #[.int .i64 0,.int .i64 0,.int .i64 0]),3,24):=by kernel_rfl
 obtain ⟨i,hi,h1,h2,h3⟩:=info_parts hinfo;exact ⟨i,_,hi,h1,h2,h3,rfl⟩
theorem newSp3 (W:World) (r:Sp) (T:TypeId):∀ (j:Nat) (u:Value),(valsSp r)[j]?=some u→(W.alloc (.cells #[.int .i64 r.sa,.int .i64 r.many,.int .i64 r.need] T)).cell? ((⟨W.heap.size,0,none⟩:Addr).add j)=some u:=fun j u h=>by
 have hadd:(⟨W.heap.size,0,none⟩:Addr).add j=⟨W.heap.size,j,none⟩:=by unfold Addr.add;split <;> simp_all
 rw [hadd];exact (cellS (newS W _) j).trans (by simpa [valsSp] using h)
theorem valsSp_one (r:Sp):∀ u ∈ valsSp r,u.oneCell'=true:=by intro u hu;simp [valsSp] at hu;rcases hu with rfl | rfl | rfl <;> rfl
theorem own_belowN {w w':World} {base:Nat} {e:TypeId} {size:Nat} {v:Value} {n:Nat} {xs:List Value} (h:w.ownsRow base e size v n xs) (hb:Below w.heap.size w w'):w'.ownsRow base e size v n xs :=
 h.kept (row:=none) ⟨hb.os,hb.tape,hb.output,hb.size,fun k hk _=>hb.block k hk⟩ (by cases v.ownBlock <;> simp)
theorem colSpans_w (A1 A2 A3:Option Addr) (c1 n1 c2 n2 c3:Nat) (L:List Ce) (w:World) (h:CeV w A3 L) (hL:L.length≤10) (hsm:∀ p ∈ L,smW p) :
  Calls Tryz.prog 144 #[.agg #[.slice A1 n1 c1,.slice A2 n2 c2,.slice A3 L.length c3]] w fun e w'=>(∃ v,e=.returned v∧SpR w' v (L.map acM))∧Below w.heap.size w w':=by
 obtain ⟨ti,tz,ti1,ti2,ti3,ti4,ti5⟩:=span_infoN;have HSM:=hD hsm;clear hsm;have ho0:=World.ownsRow_lit (base:=(w.alloc (.cells #[.slice A1 n1 c1,.slice A2 n2 c2,.slice A3 L.length c3] 123 (0,0))).heap.size) (e:=200) (size:=3) (w.alloc (.cells #[.slice A1 n1 c1,.slice A2 n2 c2,.slice A3 L.length c3] 123 (0,0))) #[] 0 (Nat.le_refl _) (by decide) rfl;rw [World.size_alloc] at ho0
 have HO:=hD (show ((w.alloc (.cells #[.slice A1 n1 c1,.slice A2 n2 c2,.slice A3 L.length c3] 123 (0,0))).alloc (.cells #[] 200 (0,0))).ownsRow (w.heap.size+1) 200 3 (.slice (some ⟨w.heap.size+1,0,none⟩) 0 0) 0 (spvalsN []) from ho0)
 have HG:=hD ((Below.heap_alloc (w.alloc (.cells #[.slice A1 n1 c1,.slice A2 n2 c2,.slice A3 L.length c3] 123 (0,0))) (.cells #[] 200 (0,0)) w.heap.size (by simp)).trans (newS w (.cells #[.slice A1 n1 c1,.slice A2 n2 c2,.slice A3 L.length c3] 123 (0,0))))
 have HB:=hD (balloc (o:=(.cells #[] 200 (0,0))) (balloc (o:=(.cells #[.slice A1 n1 c1,.slice A2 n2 c2,.slice A3 L.length c3] 123 (0,0))) (Below.refl w.heap.size w)));clear ho0
 go_enter Tryz.func144,Tryz.ntmps144
 go_wp2_with fail
 go_loopw [3,4] (fun out i wr=>∃ k:Nat,k≤L.length∧i=.int .i64 k∧wr.ownsRow (w.heap.size+1) 200 3 out k (spvalsN ((L.map acM).take k))∧wr.heap[w.heap.size]?=some (.cells #[.slice A1 n1 c1,.slice A2 n2 c2,.slice A3 L.length c3] 123 (0,0))∧Below w.heap.size w wr) (fun _ i _=>L.length - (intOf i).toNat)
 case atStart=>exact ⟨0,by omega,rfl,HO.out,HG.out,HB.out⟩
 case round =>
  obtain ⟨k,hk,rfl,ho,hg,hB⟩:=hrel;clear HO HB HG;have g2:=cellS hg 2
  by_cases hlt:k<L.length
  ·have hd:decide ((k:Int)<(L.length:Int))=true:=by simpa using hlt
   obtain ⟨b,off,rfl,hb,hp⟩:=(h.keep hB).cells (by omega);have hget:L[k]?=some L[k]:=List.getElem?_eq_getElem hlt;obtain ⟨d0,d1,d2,d3,d4,d5,d6,d7,d8⟩:=hp k _ hget;have hsk:smW L[k]:=HSM.out _ (List.getElem_mem hlt);generalize hx:L[k]=p at *;have HTS:=hD (spvalsN_succ (show (L.map acM)[k]?=some (acM p) by rw [List.getElem?_map,hget];rfl));have hob:=ho.lt;have HO:=hD ho;have HB:=hD hB;have HG:=hD hg
   clear ho hB hg hp hget hx
   go_upto_region 6 with (fail)
   refine wp_genGG (fun W=>W.heap[wr.heap.size]?=some (.cells #[.int .i64 p.co,.int .i64 p.ro,.int .i64 p.mc,.int .i64 p.mr,.int .i64 p.cw,.int .i64 p.ch,.int .i64 p.sk,.int .i64 p.px,.int .i64 p.py] 80 (0,0))∧Below wr.heap.size wr W) ⟨newS _ _,balloc (Below.refl _ _)⟩ (fun W h0=>?_);clear d0 d1 d2 d3 d4 d5 d6 d7 d8 g2;obtain ⟨hx,hbW⟩:=h0;have x0:=cellS hx 0;have x1:=cellS hx 2;have x2:=cellS hx 4
   have x3:=cellS hx 7;have hlg:=ltS HG.out;have hsW:=hbW.size;replace HO:=hD (own_belowN HO.out hbW);replace HG:=hD ((hbW.block _ hlg).trans HG.out);replace HB:=hD (bkeep2 HB.out hbW);obtain ⟨⟨b1,b2⟩,⟨b3,b4⟩,⟨b5,b6⟩,⟨b7,b8⟩⟩:=hsk;clear hx hbW
   go_wp2_with (at_builtin;refine wpList_append_own _ rfl _ _ 181 rfl (w.heap.size+1) 200 ti tz 3 24 Tryz.underlying181 ti1 ti2 ti3 ti4 ti5 (by decide) _ _ _ rfl (HO.out.alloc _) ⟨W.heap.size,0,none⟩ 1 1 (valsSp (acM p)) rfl rfl (newSp3 _ (acM p) _) (valsSp_one _) (by simp only [maxLen];omega) (by omega) (by simp;omega) ?_)
   intro v5 w5 how5 hgr5 _;rw [HTS.out] at how5;have hg5:=(hgr5.block w.heap.size (by simp;omega) (fun e=>by have:=hob _ e.symm;omega)).trans ((Below.heap_alloc _ _ _ (by omega)).trans HG.out);replace HB:=hD (below_own HB.out hgr5 hob (by omega) (Nat.le_refl _));replace HO:=hD how5;replace HG:=hD hg5;clear how5 hgr5 hob x0 x1 x2 x3 hg5;go_wp2
   go_roundw
   case rel=>exact ⟨k+1,by omega,by go_num,by simpa using HO.out,HG.out,HB.out⟩
   case measure=>simp [intOf];omega
  ·have hd:decide ((k:Int)<(L.length:Int))=false:=decide_eq_false (by omega)
   obtain rfl:k=L.length:=by omega
   have he:(L.map acM).take L.length=L.map acM:=List.take_of_length_le (by simp);rw [he] at ho;have HR:=hD (SpR.own ho (by simp));have HB:=hD hB;clear ho hB he hg;go_wp2;go_ret;exact ⟨⟨_,rfl,HR.out⟩,HB.out⟩
theorem rowSpans_w (A1 A2 A3:Option Addr) (c1 n1 c2 n2 c3:Nat) (L:List Ce) (w:World) (h:CeV w A3 L) (hL:L.length≤10) (hsm:∀ p ∈ L,smW p) :
  Calls Tryz.prog 145 #[.agg #[.slice A1 n1 c1,.slice A2 n2 c2,.slice A3 L.length c3]] w fun e w'=>(∃ v,e=.returned v∧SpR w' v (L.map dnM))∧Below w.heap.size w w':=by
 obtain ⟨ti,tz,ti1,ti2,ti3,ti4,ti5⟩:=span_infoN;have HSM:=hD hsm;clear hsm;have ho0:=World.ownsRow_lit (base:=(w.alloc (.cells #[.slice A1 n1 c1,.slice A2 n2 c2,.slice A3 L.length c3] 123 (0,0))).heap.size) (e:=200) (size:=3) (w.alloc (.cells #[.slice A1 n1 c1,.slice A2 n2 c2,.slice A3 L.length c3] 123 (0,0))) #[] 0 (Nat.le_refl _) (by decide) rfl;rw [World.size_alloc] at ho0
 have HO:=hD (show ((w.alloc (.cells #[.slice A1 n1 c1,.slice A2 n2 c2,.slice A3 L.length c3] 123 (0,0))).alloc (.cells #[] 200 (0,0))).ownsRow (w.heap.size+1) 200 3 (.slice (some ⟨w.heap.size+1,0,none⟩) 0 0) 0 (spvalsN []) from ho0)
 have HG:=hD ((Below.heap_alloc (w.alloc (.cells #[.slice A1 n1 c1,.slice A2 n2 c2,.slice A3 L.length c3] 123 (0,0))) (.cells #[] 200 (0,0)) w.heap.size (by simp)).trans (newS w (.cells #[.slice A1 n1 c1,.slice A2 n2 c2,.slice A3 L.length c3] 123 (0,0))))
 have HB:=hD (balloc (o:=(.cells #[] 200 (0,0))) (balloc (o:=(.cells #[.slice A1 n1 c1,.slice A2 n2 c2,.slice A3 L.length c3] 123 (0,0))) (Below.refl w.heap.size w)));clear ho0
 go_enter Tryz.func145,Tryz.ntmps145
 go_wp2_with fail
 go_loopw [3,4] (fun out i wr=>∃ k:Nat,k≤L.length∧i=.int .i64 k∧wr.ownsRow (w.heap.size+1) 200 3 out k (spvalsN ((L.map dnM).take k))∧wr.heap[w.heap.size]?=some (.cells #[.slice A1 n1 c1,.slice A2 n2 c2,.slice A3 L.length c3] 123 (0,0))∧Below w.heap.size w wr) (fun _ i _=>L.length - (intOf i).toNat)
 case atStart=>exact ⟨0,by omega,rfl,HO.out,HG.out,HB.out⟩
 case round =>
  obtain ⟨k,hk,rfl,ho,hg,hB⟩:=hrel;clear HO HB HG;have g2:=cellS hg 2
  by_cases hlt:k<L.length
  ·have hd:decide ((k:Int)<(L.length:Int))=true:=by simpa using hlt
   obtain ⟨b,off,rfl,hb,hp⟩:=(h.keep hB).cells (by omega);have hget:L[k]?=some L[k]:=List.getElem?_eq_getElem hlt;obtain ⟨d0,d1,d2,d3,d4,d5,d6,d7,d8⟩:=hp k _ hget;have hsk:smW L[k]:=HSM.out _ (List.getElem_mem hlt);generalize hx:L[k]=p at *;have HTS:=hD (spvalsN_succ (show (L.map dnM)[k]?=some (dnM p) by rw [List.getElem?_map,hget];rfl));have hob:=ho.lt;have HO:=hD ho;have HB:=hD hB;have HG:=hD hg
   clear ho hB hg hp hget hx
   go_upto_region 6 with (fail)
   refine wp_genGG (fun W=>W.heap[wr.heap.size]?=some (.cells #[.int .i64 p.co,.int .i64 p.ro,.int .i64 p.mc,.int .i64 p.mr,.int .i64 p.cw,.int .i64 p.ch,.int .i64 p.sk,.int .i64 p.px,.int .i64 p.py] 80 (0,0))∧Below wr.heap.size wr W) ⟨newS _ _,balloc (Below.refl _ _)⟩ (fun W h0=>?_);clear d0 d1 d2 d3 d4 d5 d6 d7 d8 g2;obtain ⟨hx,hbW⟩:=h0;have x0:=cellS hx 1;have x1:=cellS hx 3;have x2:=cellS hx 5
   have x3:=cellS hx 8;have hlg:=ltS HG.out;have hsW:=hbW.size;replace HO:=hD (own_belowN HO.out hbW);replace HG:=hD ((hbW.block _ hlg).trans HG.out);replace HB:=hD (bkeep2 HB.out hbW);obtain ⟨⟨b1,b2⟩,⟨b3,b4⟩,⟨b5,b6⟩,⟨b7,b8⟩⟩:=hsk;clear hx hbW
   go_wp2_with (at_builtin;refine wpList_append_own _ rfl _ _ 181 rfl (w.heap.size+1) 200 ti tz 3 24 Tryz.underlying181 ti1 ti2 ti3 ti4 ti5 (by decide) _ _ _ rfl (HO.out.alloc _) ⟨W.heap.size,0,none⟩ 1 1 (valsSp (dnM p)) rfl rfl (newSp3 _ (dnM p) _) (valsSp_one _) (by simp only [maxLen];omega) (by omega) (by simp;omega) ?_)
   intro v5 w5 how5 hgr5 _;rw [HTS.out] at how5;have hg5:=(hgr5.block w.heap.size (by simp;omega) (fun e=>by have:=hob _ e.symm;omega)).trans ((Below.heap_alloc _ _ _ (by omega)).trans HG.out);replace HB:=hD (below_own HB.out hgr5 hob (by omega) (Nat.le_refl _));replace HO:=hD how5;replace HG:=hD hg5;clear how5 hgr5 hob x0 x1 x2 x3 hg5;go_wp2
   go_roundw
   case rel=>exact ⟨k+1,by omega,by go_num,by simpa using HO.out,HG.out,HB.out⟩
   case measure=>simp [intOf];omega
  ·have hd:decide ((k:Int)<(L.length:Int))=false:=decide_eq_false (by omega)
   obtain rfl:k=L.length:=by omega
   have he:(L.map dnM).take L.length=L.map dnM:=List.take_of_length_le (by simp);rw [he] at ho;have HR:=hD (SpR.own ho (by simp));have HB:=hD hB;clear ho hB he hg;go_wp2;go_ret;exact ⟨⟨_,rfl,HR.out⟩,HB.out⟩
end
end Go.Proofs.YtenckjdiggaonaaGreat
