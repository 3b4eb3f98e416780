import Derived.Test.YtenckjdiggaonaaGreatQ11
import Derived.Laws.CopyOwn
set_option linter.unusedVariables false
set_option maxRecDepth 100000
namespace Go.Proofs.YtenckjdiggaonaaGreat
section
open Go.RowKit
set_option maxHeartbeats 1000000
attribute [local go_sem 5000] run_mx run_mn
attribute [local go_sem] growUpon_value growUpon_skip growUpon_enter
theorem add_none (b off n:Nat):(⟨b,off,none⟩:Addr).add n=⟨b,off+n,none⟩:=by unfold Addr.add;split <;> simp_all
theorem SOK.each {L:List Ln} {O:List Int} (hL:linesB L=true) (h:SOK L O) {i:Nat} {l:Ln} {o:Int} (hl:L[i]?=some l) (ho:O[i]?=some o):0≤l.mi∧l.mi≤30∧l.mi≤o∧o≤100000000000000:=by
 have h1:=h.get hl ho
 have h2:=hL
 simp only [linesB,Bool.and_eq_true,rng_iff,List.all_eq_true,lineB,wB] at h2
 have h3:=(h2.2 l (List.mem_of_getElem? hl)).2
 omega
theorem spread_n (A:Option Addr) (c m:Nat) (n:Int) (ws:List Int) (w:World) (h:NV w A ws) (hm:m=ws.length) (hw:wsOK ws) (hn:0≤n) (hn2:n≤100000000000000) :
  Calls Tryz.prog 219 #[.int .i64 n,.slice A m c] w fun e w'=>e=.returned (.slice (some ⟨w.heap.size,0,none⟩) m m)∧IB w' w.heap.size (spreadM n ws)∧Below w.heap.size w w':=by subst hm;exact spread_v A c n ws w h hw hn hn2
theorem shrunk_v (A:Option Addr) (c no:Nat) (O:List Int) (A':Option Addr) (c':Nat) (L:List Ln) (n:Int) (w:World) (h:NV w A O) (hno:no=O.length) (h':LnV w A' L) (hL:linesB L=true) (hS:SOK L O) (hn:n≤100000000000000) (hn0:0≤n) :
  Calls Tryz.prog 216 #[.slice A no c,.slice A' L.length c',.int .i64 n] w fun e w'=>e=.returned (.slice (some ⟨w.heap.size,0,none⟩) no no)∧IB w' w.heap.size (shrZ L n O)∧Below w.heap.size w w':=by
 obtain ⟨hl1,hl5⟩:=linesB_len hL
 have hol:=hS.len
 have hno5:no≤5:=by omega
 have hno1:1≤no:=by omega
 have hmk:∀ w:World,(Instr.makeSlice 37 (.int .i64 (no:Int)) (.int .i64 (no:Int))).run Tryz.prog w=.ok (.slice (some ⟨w.heap.size,0,none⟩) no no) (w.alloc (.cells (ivals (List.replicate no 0)) 3)):=fun w=>madeI no w (by omega)
 have hsz:(Tryz.prog.info? 3).map (·.size)=some 1:=by kernel_rfl
 obtain ⟨b,off,rfl,hb,hp⟩:=h.cells (by omega)
 have hB0:Below w.heap.size w (w.alloc (.cells (ivals (List.replicate no 0)) 3)):=balloc (Below.refl _ _)
 have hsrc:∀ j v,(O.map (Value.int .i64))[j]?=some v→(w.alloc (.cells (ivals (List.replicate no 0)) 3)).cell? ((⟨b,off,none⟩:Addr).add j)=some v:=fun j v hj=>by
  rw [List.getElem?_map] at hj
  cases ho:O[j]? with
  | none=>rw [ho] at hj;cases hj
  | some x =>
   rw [ho] at hj
   obtain rfl:=Option.some.inj hj
   rw [add_none]
   exact (hB0.cell (p:=⟨b,off+j,none⟩) hb).trans (hp j x ho)
 have hcp:=run_copy_row (P:=Tryz.prog) (w.alloc (.cells (ivals (List.replicate no 0)) 3)) 37 37 3 3 w.heap.size 0 no no ⟨b,off,none⟩ no c (ivals (List.replicate no 0)) 3 (O.map (Value.int .i64)) Tryz.underlying37 hsz (newS _ _) (by simp [hno]) hsrc (by simp [ivals,hno]) (by simp [Value.oneCell'])
 have hrow:(((ivals (List.replicate no 0)).toList.take 0) ++ O.map (Value.int .i64) ++ (ivals (List.replicate no 0)).toList.drop (0+(O.map (Value.int .i64)).length)).toArray=ivals O:=by simp [ivals,hno]
 have hlo:(O.map (Value.int .i64)).length=no:=by simp [hno]
 rw [hrow,hlo] at hcp
 have hi2:IB ((w.alloc (.cells (ivals (List.replicate no 0)) 3)).setRow w.heap.size (ivals O)) w.heap.size O:=setRow_heap _ _ _ _ _ _ (newS _ _)
 have hb2:Below w.heap.size w ((w.alloc (.cells (ivals (List.replicate no 0)) 3)).setRow w.heap.size (ivals O)):=below_setRow hB0 (Nat.le_refl _) _
 obtain ⟨W2,hW2⟩:∃ W2,(w.alloc (.cells (ivals (List.replicate no 0)) 3)).setRow w.heap.size (ivals O)=W2:=⟨_,rfl⟩
 rw [hW2] at hcp hi2 hb2
 have HI:=hD hi2
 have HB:=hD hb2
 clear hW2 hi2 hb2 hrow hlo
 have HL:=hD hL
 have HS:=hD hS
 have HNO:=hD hno
 have HNL:=hD (show no=L.length by omega)
 clear hsrc hB0 hp hL hS hol hno hsz
 go_enter Tryz.func216,Tryz.ntmps216
 go_wp2_with fail
 with_reducible refine (each_weight A' c' L _ (h'.keep HB.out) (by omega)).mono ?_
 rintro e w3 ⟨rfl,hi3,hb3⟩
 have hgw:w.heap.size<W2.heap.size:=HI.out.lt
 replace HI:=hD (HI.out.keep hb3)
 replace HB:=hD (bkeep2 HB.out hb3)
 have HW:=hD hi3
 clear hi3 hb3 hcp hmk
 generalize W2.heap.size=gw at *
 go_wp2_with fail
 go_loopw [2] (fun nv wr=>∃ (n':Int) (O' W':List Int),nv=.int .i64 n'∧0≤n'∧n'≤100000000000000∧SOK L O'∧WI L O' W'∧IB wr w.heap.size O'∧IB wr gw W'∧shrZ L n' O'=shrZ L n O∧Below w.heap.size w wr) (fun nv _=>(intOf nv).toNat)
 case atStart=>exact ⟨n,O,L.map Ln.wt,rfl,hn0,hn,HS.out,WI.all HS.out.len,HI.out,HW.out,rfl,HB.out⟩
 case round =>
  obtain ⟨n',O',W',rfl,hn0',hn',hS,hWI,hI,hWr,hR,hBr⟩:=hrel
  clear HI HW HB HS
  have HI:=hD hI
  have HW:=hD hWr
  have HB:=hD hBr
  have HS:=hD hS
  have HWI:=hD hWI
  have HR:=hD hR
  have hol:=hS.len
  clear hI hWr hBr hS hWI hR
  by_cases hpos:0<n'
  ·have hd:decide (n' > 0)=true:=by simpa using hpos
   go_wp2_with fail
   go_loopw [25] (fun i wr=>∃ k:Nat,k≤L.length∧i=.int .i64 k∧IB wr w.heap.size O'∧IB wr gw (mixW L O' W' k)∧Below w.heap.size w wr) (fun i _=>L.length - (intOf i).toNat)
   case atStart=>exact ⟨0,by omega,rfl,HI.out,by rw [mixW_zero];exact HW.out,HB.out⟩
   case round =>
    obtain ⟨k,hk,rfl,hI,hWr,hBr⟩:=hrel
    clear HI HW HB
    by_cases hlt:k<L.length
    ·have hd2:decide ((k:Int)<(L.length:Int))=true:=by simpa using hlt
     obtain ⟨b',off',rfl,hb',hp⟩:=(h'.keep hBr).cells (by omega)
     have hget:L[k]?=some L[k]:=List.getElem?_eq_getElem hlt
     obtain ⟨c0,c1⟩:=hp k _ hget
     have hko:k<O'.length:=by omega
     have hgo:O'[k]?=some O'[k]:=List.getElem?_eq_getElem hko
     have hkw:k<W'.length:=by have:=HWI.out.len;omega
     have hgx:W'[k]?=some W'[k]:=List.getElem?_eq_getElem hkw
     have hlo:=SOK.each HL.out HS.out hget hgo
     have hst:=mixW_step HWI.out hget hgo hgx hlo.2.2.1
     have hmg:=mixW_get HWI.out hgx
     generalize L[k]=l at *
     generalize O'[k]=o at *
     generalize W'[k]=x at *
     have p0:=hI.cell hgo
     have hkn:(k:Int)<(no:Int):=by have:=HNL.out;omega
     have hs1:=hI.lt
     have HI:=hD hI
     have HW:=hD hWr
     have HB:=hD hBr
     have HMG:=hD hmg
     have HST:=hD hst
     clear hI hWr hBr hp hget hgo hgx hmg hst
     by_cases e:o=l.mi
     ·have hz:(o == l.mi)=true:=by simpa using e
      go_wp2_with fail
      refine wp_region_grow 10 0 (·<10) (by kernel_rfl) (by kernel_rfl) rfl ?_
      iterate 10 (refine wpG_step (fun K hK=>?_);first | (refine grow_skip rfl ?_;go_simp;refine hK _ ?_;clear hK K) | (apply Exists.intro;refine ⟨.inl ⟨rfl,fun w' hw'=>?_⟩,?_⟩;(focus ((obtain ⟨hc,hf⟩:=bcell hw'.out);(have hcS:=bcellS hw'.out);go_simp <;> first | rfl | fail));(go_simp;refine hK _ ?_;clear hK K)))
      refine wpG_nil ?_
      refine wpK_tail (by kernel_rfl) (fun w5 hg5=>?_)
      have hb5:=bdrewn hg5.out
      refine wpAny_end (by kernel_rfl) ?_
      refine NoPan.thn ?_
      clear hg5
      have HW5:=HW.out.keep hb5
      have d0:=HW5.cell HMG.out
      have f0:=HW5.frozen k
      have HW6:=HW5.set k 0
      have hst:=HST.out
      rw [if_pos e] at hst
      rw [<- hst] at HW6
      have HW6:=hD HW6
      have HI6:=hD ((HI.out.keep hb5).but (gsetI (greflI _ gw) k (.int .i64 0)) (by omega))
      have HB6:=hD ((bkeep2 HB.out hb5).setCell (p:=⟨gw,k,none⟩) (by show w.heap.size≤gw;omega) (.int .i64 0))
      clear HW5 hb5 hst HW HI HB
      go_wp2
      go_roundw
      case rel=>exact ⟨k+1,by omega,by go_num,HI6.out,HW6.out,HB6.out⟩
      case measure=>simp [intOf];omega
     ·have hz:(o == l.mi)=false:=by simpa using e
      go_wp2_with fail
      refine wp_region_grow 10 0 (·<10) (by kernel_rfl) (by kernel_rfl) rfl ?_
      iterate 10 (refine wpG_step (fun K hK=>?_);first | (refine grow_skip rfl ?_;go_simp;refine hK _ ?_;clear hK K) | (apply Exists.intro;refine ⟨.inl ⟨rfl,fun w' hw'=>?_⟩,?_⟩;(focus ((obtain ⟨hc,hf⟩:=bcell hw'.out);(have hcS:=bcellS hw'.out);go_simp <;> first | rfl | fail));(go_simp;refine hK _ ?_;clear hK K)))
      refine wpG_nil ?_
      refine wpK_tail (by kernel_rfl) (fun w5 hg5=>?_)
      have hb5:=bdrewn hg5.out
      refine wpAny_end (by kernel_rfl) ?_
      refine NoPan.thn ?_
      clear hg5
      have hst:=HST.out
      rw [if_neg e] at hst
      have HW6:=hD (HW.out.keep hb5)
      have HI6:=hD (HI.out.keep hb5)
      have HB6:=hD (bkeep2 HB.out hb5)
      have HST2:=hD hst
      clear hb5 hst HW HI HB
      go_wp2
      go_roundw
      case rel=>exact ⟨k+1,by omega,by go_num,HI6.out,by rw [HST2.out];exact HW6.out,HB6.out⟩
      case measure=>simp [intOf];omega
    ·have hd2:decide ((k:Int)<(L.length:Int))=false:=decide_eq_false (by omega)
     obtain rfl:k=L.length:=by omega
     rw [mixW_all HWI.out] at hWr
     have HI:=hD hI
     have HW:=hD hWr
     have HB:=hD hBr
     have hok:=wtZ_ok HL.out HS.out
     have hwl:=wtZ_len HS.out.len
     have HOK:=hD hok
     have HWL:=hD hwl.symm
     clear hI hWr hBr hok hwl
     go_wp2_with fail
     with_reducible refine (sum_n _ _ L.length (wtZ L O') _ HW.out.nv HWL.out (by omega) HOK.out.smal).mono ?_
     rintro e w5 ⟨rfl,rfl⟩
     by_cases hs:sumI (wtZ L O')=0
     ·have hz:(sumI (wtZ L O') == 0)=true:=by simpa using hs
      have HE:=hD (shr_end (L:=L) (n:=n') (.inr hs))
      clear hs
      go_wp2
      go_ret
      exact ⟨rfl,by rw [<- HR.out,HE.out];exact HI.out,HB.out⟩
     ·have hz:(sumI (wtZ L O') == 0)=false:=by simpa using hs
      have HGO:=hD (shr_go HL.out HS.out hpos hs)
      have HRK:=hD (round_ok HL.out HS.out hpos hs)
      clear hs
      go_wp2_with fail
      with_reducible refine (spread_n _ _ L.length n' (wtZ L O') _ HW.out.nv HWL.out HOK.out hn0' hn').mono ?_
      rintro e w5 ⟨rfl,hp5,hb5⟩
      have HI5:=hD (HI.out.keep hb5)
      have HW5:=hD (HW.out.keep hb5)
      have HB5:=hD (bkeep2 HB.out hb5)
      have HP:=hD hp5
      have hgp:gw<wr.heap.size:=HW.out.lt
      have HPB:=hD (spread_pos (n:=n') hn0' HOK.out)
      have hpl:(spreadM n' (wtZ L O')).length=L.length:=by rw [spreadM_len];exact HWL.out.symm
      have HPL:=hD hpl
      clear hp5 hb5 hpl HI HW HB
      generalize wr.heap.size=gp at *
      generalize spreadM n' (wtZ L O')=P at *
      go_wp2_with fail
      go_loopw [2,49] (fun nv i wr=>∃ k:Nat,k≤L.length∧i=.int .i64 k∧nv=.int .i64 (n' - tknZ L O' (P.take k))∧IB wr w.heap.size (takZ L O' (P.take k))∧w5.grownBy wr (some w.heap.size)) (fun _ i _=>L.length - (intOf i).toNat)
      case atStart=>exact ⟨0,by omega,rfl,by rw [List.take_zero,tknZ_nil,Int.sub_zero],by rw [List.take_zero,takZ_nil];exact HI5.out,greflI _ _⟩
      case round =>
       obtain ⟨k,hk,rfl,rfl,hI,hgr⟩:=hrel
       clear HI5
       by_cases hlt:k<L.length
       ·have hd2:decide ((k:Int)<(L.length:Int))=true:=by simpa using hlt
        have hBr:=below_grown HB5.out hgr (Nat.le_refl _) HB5.out.size
        obtain ⟨b',off',rfl,hb',hq⟩:=(h'.keep hBr).cells (by omega)
        have hget:L[k]?=some L[k]:=List.getElem?_eq_getElem hlt
        obtain ⟨c0,c1⟩:=hq k _ hget
        have hko:k<O'.length:=by omega
        have hgo:O'[k]?=some O'[k]:=List.getElem?_eq_getElem hko
        have hkp:k<P.length:=by have:=HPL.out;omega
        have hgq:P[k]?=some P[k]:=List.getElem?_eq_getElem hkp
        have hlo:=SOK.each HL.out HS.out hget hgo
        have hpb:=HPB.out _ (List.getElem_mem hkp)
        have hpt:∀ x ∈ P.take k,(0:Int)≤x∧x≤100000000000000:=fun x hx=>by have:=HPB.out x (List.mem_of_mem_take hx);omega
        have htb:=tkn_bd (P:=P.take k) HS.out (fun x hx=>(hpt x hx).1)
        have hsb:=sumI_bd hpt
        have hlt5:(P.take k).length≤5:=by rw [List.length_take];omega
        have hts:=takZ_snoc hget hgo hgq
        have htk:=tknZ_snoc hget hgo hgq
        have hx0:(takZ L O' (P.take k))[k]?=some O'[k]:=takZ_get hgo (by rw [List.length_take];omega)
        generalize L[k]=l at *
        generalize O'[k]=o at *
        generalize P[k]=p at *
        obtain ⟨hlo1,hlo2,hlo3,hlo4⟩:=hlo
        obtain ⟨hp0,hp1⟩:=hpb
        have q0:=(HP.out.but hgr (by omega)).cell hgq
        have d0:=hI.cell hx0
        have hs1:=hI.lt
        have hs2:=(HP.out.but hgr (by omega)).lt
        have hkn:(k:Int)<(no:Int):=by have:=HNL.out;omega
        have hwr:IntKind.i64.wrap (o - l.mi)=o - l.mi:=IntWalk.i64_in _ (by omega)
        have hmn:=mn_spec p (o - l.mi)
        have HX0:=hD hx0
        have HI:=hD hI
        have HG:=hD hgr
        have HTS:=hD hts
        have HTK:=hD htk
        have HMN:=hD hmn
        have ht00:0≤tknZ L O' (P.take k):=htb.1
        have ht01:tknZ L O' (P.take k)≤500000000000000:=by omega
        generalize tknZ L O' (P.take k)=t0 at *
        clear hI hgr hBr hts htk hmn hx0 hget hgo hgq hq htb hsb hpt hlt5
        go_wp2_with fail
        refine wp_region_grow 12 1 (·<12) (by kernel_rfl) (by kernel_rfl) rfl ?_
        iterate 12 (refine wpG_step (fun K hK=>?_);first | (refine grow_skip rfl ?_;go_simp;refine hK _ ?_;clear hK K) | (apply Exists.intro;refine ⟨.inl ⟨rfl,fun w' hw'=>?_⟩,?_⟩;(focus ((obtain ⟨hc,hf⟩:=bcell hw'.out);(have hcS:=bcellS hw'.out);go_simp <;> first | rfl | fail));(go_simp;refine hK _ ?_;clear hK K)))
        refine wpG_nil ?_
        refine wpK_tail (by kernel_rfl) (fun w7 hg7=>?_)
        have hb7:=bdrewn hg7.out
        obtain ⟨hc7,hf7⟩:=bcell hb7
        refine wpAny_one (i:=12) (by kernel_rfl) rfl rfl ?_
        go_simp
        refine wpAny_end (by kernel_rfl) ?_
        refine NoPan.thn ?_
        clear hc7 hf7
        clear hg7
        obtain ⟨t,ht⟩:∃ t,mn p (o - l.mi)=t:=⟨_,rfl⟩
        have hmn:=HMN.out
        have HTS2:=HTS.out
        have HTK2:=HTK.out
        rw [ht] at hmn HTS2 HTK2
        rw [ht]
        have HI7:=HI.out.keep hb7
        have d7:=HI7.cell HX0.out
        have f7:=HI7.frozen k
        have HI8:=HI7.set k (o - t)
        rw [HTS2] at HI8
        have HI8:=hD HI8
        have HG8:=hD (gsetI (grown_below HG.out hb7) k (.int .i64 (o - t)))
        have HTK2:=hD HTK2
        have ht0:0≤t:=by omega
        have ht1:t≤p:=hmn.1
        clear HI7 HTS2 hb7 hmn ht HMN HTS HTK HI HG
        go_wp2
        go_roundw
        case rel=>exact ⟨k+1,by omega,by go_num,by rw [HTK2.out];go_num,HI8.out,HG8.out⟩
        case measure=>simp [intOf];omega
       ·have hd2:decide ((k:Int)<(L.length:Int))=false:=decide_eq_false (by omega)
        have hke:P.take k=P:=List.take_of_length_le (by have:=HPL.out;omega)
        rw [hke] at hI ⊢
        obtain ⟨hr1,hr2,hr3,hr4⟩:=HRK.out
        have HI6:=hD hI
        have HW6:=hD (HW5.out.but hgr (by omega))
        have HB6:=hD (below_grown HB5.out hgr (Nat.le_refl _) HB5.out.size)
        have HWI6:=hD (WI.tak HS.out hr1)
        have HS6:=hD hr4
        clear hI hgr hke hr1 hr4
        go_wp2
        go_roundw
        case rel=>exact ⟨_,_,_,rfl,by omega,by omega,HS6.out,HWI6.out,HI6.out,HW6.out,by rw [<- HGO.out];exact HR.out,HB6.out⟩
        case measure=>simp [intOf];omega
  ·have hd:decide (n' > 0)=false:=by simpa using hpos
   have HE:=hD (shr_end (L:=L) (O:=O') (n:=n') (.inl (by omega)))
   go_wp2
   go_ret
   exact ⟨rfl,by rw [<- HR.out,HE.out];exact HI.out,HB.out⟩
end
section
open Go.RowKit
set_option maxHeartbeats 1000000
attribute [local go_sem 5000] run_mx run_mn
attribute [local go_sem] growUpon_value growUpon_skip growUpon_enter
def MI (L:List Ln) (O:List Int):Prop:=∀ (i:Nat) (l:Ln) (o:Int),L[i]?=some l→O[i]?=some o→l.mi≤o
theorem addP_ge:∀ {O P:List Int} {i:Nat} {o':Int},(∀ x ∈ P,0≤x)→(addP O P)[i]?=some o'→∃ o,O[i]?=some o∧o≤o'
 | [],P,i,o',_,h=>by simp [addP] at h
 | o :: O,[],i,o',_,h=>⟨o',by simpa [addP] using h,Int.le_refl _⟩
 | o :: O,p :: P,0,o',hp,h=>by
  have:=hp p List.mem_cons_self
  simp only [addP,List.getElem?_cons_zero,Option.some.injEq] at h
  exact ⟨o,rfl,by omega⟩
 | o :: O,p :: P,i+1,o',hp,h=>by
  simp only [addP,List.getElem?_cons_succ] at h
  obtain ⟨q,h1,h2⟩:=addP_ge (fun x hx=>hp x (List.mem_cons_of_mem _ hx)) h
  exact ⟨q,by simpa using h1,h2⟩
theorem addAt_ge {O P:List Int} {k i:Nat} {o':Int} (hp:∀ x ∈ P,0≤x) (h:(addAt O k P)[i]?=some o'):∃ o,O[i]?=some o∧o≤o':=by
 unfold addAt at h
 by_cases hi:i<(O.take k).length
 ·rw [List.getElem?_append_left hi] at h
  have h2:i<k:=by rw [List.length_take] at hi;omega
  rw [List.getElem?_take,if_pos h2] at h
  exact ⟨o',h,Int.le_refl _⟩
 ·rw [List.getElem?_append_right (by omega)] at h
  obtain ⟨o,h1,h2⟩:=addP_ge hp h
  rw [List.getElem?_drop] at h1
  rw [List.length_take] at h1 hi
  by_cases hk:k≤O.length
  ·rw [show k+(i - min k O.length)=i from by omega] at h1
   exact ⟨o,h1,h2⟩
  ·have:=(List.getElem?_eq_some_iff.1 h1).1
   omega
theorem MI.add {L:List Ln} {O P:List Int} {k:Nat} (h:MI L O) (hp:∀ x ∈ P,0≤x):MI L (addAt O k P):=fun i l o hl ho=>by
 obtain ⟨o1,h1,h2⟩:=addAt_ge hp ho
 have:=h i l o1 hl h1
 omega
theorem MI.step {L:List Ln} {O ws:List Int} {n:Nat} {s:Sp} (h:MI L O) (hw:wsOK ws) (hl:ws.length=n) (hs:spanW n s):MI L (stepM ws O s):=by
 obtain ⟨a,m,e1,e2,h1,h2,h3,h4⟩:=hs
 unfold stepM
 rw [show s.sa.toNat=a from by omega,show s.many.toNat=m from by omega]
 exact h.add (spread_nn (by have:=mx_spec (s.need - sumI (segI O a m)) 0;omega) (seg_ok hw h1 (by omega)))
theorem MI.round {L:List Ln} {ws:List Int} {n:Nat} {m:Int} (hw:wsOK ws) (hl:ws.length=n):∀ {S:List Sp} {O:List Int},(∀ s ∈ S,spanW n s)→MI L O→MI L (roundM ws m S O)
 | [],O,_,h=>h
 | s :: S,O,hs,h=>by
  unfold roundM
  rw [List.foldl_cons]
  have hs':∀ s ∈ S,spanW n s:=fun x hx=>hs x (List.mem_cons_of_mem _ hx)
  split
  ·exact MI.round hw hl hs' (h.step hw hl (hs s List.mem_cons_self))
  ·exact MI.round hw hl hs' h
theorem MI.req {L:List Ln} {ws:List Int} {n:Nat} {S:List Sp} {O:List Int} (hw:wsOK ws) (hl:ws.length=n) (hs:∀ s ∈ S,spanW n s) (h:MI L O):∀ i,MI L (reqN ws S O i)
 | 0=>h
 | i+1=>MI.round hw hl hs (MI.req hw hl hs h i)
theorem SOK.of:∀ {L:List Ln} {O:List Int},O.length=L.length→MI L O→(∀ x ∈ O,x≤100000000000000)→SOK L O
 | [],[],_,_,_=>trivial
 | l :: L,o :: O,hl,h,hx=>⟨⟨h 0 l o rfl rfl,hx o List.mem_cons_self⟩,SOK.of (by simpa using hl) (fun i l' o' h1 h2=>h (i+1) l' o' (by simpa using h1) (by simpa using h2)) (fun x hm=>hx x (List.mem_cons_of_mem _ hm))⟩
 | [],o :: O,h,_,_=>by simp at h
 | l :: L,[],h,_,_=>by simp at h
theorem wish_okW {L:List Ln} {S:List Sp} (hL:linesB L=true) (hS:spansW L.length S):SOK L (wishM L S)∧(wishM L S).length=L.length∧(∀ x ∈ wishM L S,0≤x∧x≤100000000000000)∧0≤sumI (wishM L S)∧sumI (wishM L S)≤10000000000350:=by
 obtain ⟨hO,hW⟩:=min_bd hL
 have hb:=wish_bdW hL hS
 have b2:=needs_bd (n:=L.length) (S:=S) (B:=1000000000020) (by omega) (fun s h=>by obtain ⟨a,m,e1,e2,h1,h2,h3,h4⟩:=hS.2 s h;exact h4)
 have hS8:=hS.1
 have hx:=hb.eachW (by omega)
 have hm:MI L (L.map Ln.mi):=fun i l o h1 h2=>by
  rw [List.getElem?_map,h1] at h2
  have:=Option.some.inj h2
  omega
 exact ⟨SOK.of hb.1 (MI.req hW (by simp) hS.2 hm L.length) (fun x h=>(hx x h).2),hb.1,hx,sumI_nonneg hb.2.1,by have:=hb.2.2;omega⟩
def sizedM (L:List Ln) (S:List Sp) (room:Int):List Int :=
 if room - sumI (wishM L S)<0 then shrZ L (-(room - sumI (wishM L S))) (wishM L S)
 else if sumI (L.map Ln.wt)=0 then wishM L S
 else addAt (wishM L S) 0 (spreadM (room - sumI (wishM L S)) (L.map Ln.wt))
theorem lineSizes_w (A:Option Addr) (c:Nat) (L:List Ln) (A':Option Addr) (c':Nat) (S:List Sp) (room:Int) (w:World) (h:LnV w A L) (hL:linesB L=true) (h':SpV w A' S) (hS:spansW L.length S) (hr0:0≤room) (hr1:room≤20000000000000) :
  Calls Tryz.prog 205 #[.slice A L.length c,.slice A' S.length c',.int .i64 room] w fun e w'=>(∃ g,e=.returned (.slice (some ⟨g,0,none⟩) L.length L.length)∧w.heap.size≤g∧IB w' g (sizedM L S room))∧Below w.heap.size w w':=by
 obtain ⟨hl1,hl5⟩:=linesB_len hL
 obtain ⟨hk1,hk2,hk3,hk4,hk5⟩:=wish_okW hL hS
 have hww:=(min_bd hL).2
 have hws:=hww.sum
 have HL:=hD hL
 have HS:=hD hS
 have HWW:=hD hww
 have HK1:=hD hk1
 have HK2:=hD hk2
 have HK3:=hD hk3
 have HD:=hD (show sizedM L S room=_ from rfl)
 clear hL hS hww hk1 hk2 hk3 HD
 go_enter Tryz.func205,Tryz.ntmps205
 go_wp2_with fail
 with_reducible refine (lineRequests_w A c L A' c' S _ h HL.out h' HS.out).mono ?_
 rintro e w1 ⟨rfl,hi1,hb1⟩
 have HLV:=hD (h.keep hb1)
 have HI:=hD hi1
 have HB:=hD hb1
 clear hi1 hb1
 go_wp2_with fail
 with_reducible refine (each_weight A c L _ HLV.out (by omega)).mono ?_
 rintro e w2 ⟨rfl,hi2,hb2⟩
 have hgw:=HI.out.lt
 replace HI:=hD (HI.out.keep hb2)
 replace HB:=hD (bkeep2 HB.out hb2)
 have HW:=hD hi2
 clear hi2 hb2 HLV
 generalize w1.heap.size=gw at *
 have HSM:=hD (smal_of (L:=wishM L S) (b:=100000000000000) (M:=1000000000000000) (fun x hx=>by have:=HK3.out x hx;omega) (by omega) (by rw [HK2.out];omega))
 go_wp2_with fail
 with_reducible refine (sum_n _ _ L.length (wishM L S) _ HI.out.nv HK2.out.symm (by omega) HSM.out).mono ?_
 rintro e w3 ⟨rfl,rfl⟩
 obtain ⟨q,hq⟩:∃ q,sumI (wishM L S)=q:=⟨_,rfl⟩
 rw [hq] at hk4 hk5
 rw [hq]
 have HQ:=hD hq
 clear hq
 by_cases hneg:room - q<0
 ·have hd:decide (room - q<0)=true:=by simpa using hneg
  have he:sizedM L S room=shrZ L (-(room - q)) (wishM L S):=by unfold sizedM;rw [HQ.out,if_pos hneg]
  have HE:=hD he
  clear he
  have hnw:IntKind.i64.wrap (-(room - q))=-(room - q):=IntWalk.i64_in _ (by omega)
  go_wp2_with fail
  refine (shrunk_v _ _ L.length (wishM L S) _ _ L _ _ HI.out.nv HK2.out.symm (h.keep HB.out) HL.out HK1.out (by omega) (by omega)).mono ?_
  rintro e w5 ⟨rfl,hi5,hb5⟩
  have hsz:=HB.out.size
  have HB5:=hD (bkeep2 HB.out hb5)
  first | rw [<- HE.out] at hi5 | (rw [show q - room=-(room - q) from by omega,<- HE.out] at hi5)
  have HI5:=hD hi5
  clear hi5 hb5 HI HB
  go_wp2
  go_ret
  exact ⟨⟨_,rfl,hsz,HI5.out⟩,HB5.out⟩
 ·have hd:decide (room - q<0)=false:=by simpa using hneg
  go_wp2_with fail
  with_reducible refine (sum_n _ _ L.length (L.map Ln.wt) _ HW.out.nv (by simp) (by omega) HWW.out.smal).mono ?_
  rintro e w3 ⟨rfl,rfl⟩
  by_cases hz:sumI (L.map Ln.wt)=0
  ·have hd2:decide (sumI (L.map Ln.wt) > 0)=false:=by simp;omega
   have he:sizedM L S room=wishM L S:=by unfold sizedM;rw [HQ.out,if_neg (by omega),if_pos hz]
   have HE:=hD he
   clear he
   go_wp2
   go_ret
   exact ⟨⟨_,rfl,Nat.le_refl _,by rw [HE.out];exact HI.out⟩,HB.out⟩
  ·have hd2:decide (sumI (L.map Ln.wt) > 0)=true:=by simp;omega
   have he:sizedM L S room=addAt (wishM L S) 0 (spreadM (room - q) (L.map Ln.wt)):=by unfold sizedM;rw [HQ.out,if_neg (by omega),if_neg hz]
   have HE:=hD he
   clear he
   go_wp2_with fail
   refine (enlarge_v w.heap.size 0 L.length _ _ _ (wishM L S) (L.map Ln.wt) _ _ HI.out (by simp) (by rw [HK2.out];omega) (fun x hx=>⟨(HK3.out x hx).1,by have:=(HK3.out x hx).2;omega⟩) HW.out.nv HWW.out (by omega) (by omega)).mono ?_
   rintro e w5 ⟨⟨v,rfl⟩,hi5,hg5⟩
   rw [<- HE.out] at hi5
   have HI5:=hD hi5
   have HB5:=hD (below_grown HB.out hg5 (Nat.le_refl _) HB.out.size)
   clear hi5 hg5 HI HB
   go_wp2
   go_ret
   exact ⟨⟨_,rfl,Nat.le_refl _,HI5.out⟩,HB5.out⟩
end
section
open Go.RowKit
set_option maxHeartbeats 1000000
attribute [local go_sem 5000] run_mx run_mn
attribute [local go_sem] growUpon_value growUpon_skip growUpon_enter
theorem OB.but {w w':World} {g h cap:Nat} {L:List Int} (hi:OB w h cap L) (hg:w.grownBy w' (some g)) (hne:h ≠ g):OB w' h cap L:=by
 obtain ⟨hl,cs,hh,hs,hc⟩:=hi
 exact ⟨hl,cs,(hg.block h (ltS hh) (fun e=>hne (Option.some.inj e))).trans hh,hs,hc⟩
theorem below_own0 {n:Nat} {a W w5:World} {v:Value} {lo hi:Nat} (h':Below n a W) (hg:W.grownBy w5 v.ownBlock) (hob:∀ k,v.ownBlock=some k→lo≤k∧k<hi) (hlo:n≤lo) (hn:n≤a.heap.size):Below n a w5 :=
 ⟨hg.os.trans h'.os,hg.tape.trans h'.tape,hg.output.trans h'.output,Nat.le_trans h'.size hg.size,fun k hk=>(hg.block k (Nat.lt_of_lt_of_le (Nat.lt_of_lt_of_le hk hn) h'.size) (fun e=>by have:=hob k e.symm;omega)).trans (h'.block k hk)⟩
theorem mixM_skip {B:List Int} {k:Nat} (h:B[k]?=some 0):mixM B (k+1)=mixM B k:=by
 obtain ⟨hk,e⟩:=List.getElem?_eq_some_iff.1 h
 unfold mixM
 rw [List.take_succ_eq_append_getElem hk,e,show B.length - k=(B.length - (k+1))+1 from by omega,List.replicate_succ,List.append_assoc]
 rfl
theorem sshrunk_v (A:Option Addr) (c no:Nat) (O:List Int) (A':Option Addr) (c':Nat) (L:List Ln) (n:Int) (w:World) (h:NV w A O) (hno:no=O.length) (h':LnV w A' L) (hL:linesB L=true) (hS:SOK L O) (hn:n≤100000000000000) (hn0:0≤n) :
  Calls Tryz.prog 175 #[.slice A' L.length c',.slice A no c,.int .i64 n] w fun e w'=>(∃ g cap,e=.returned (.slice (some ⟨g,0,none⟩) no cap)∧w.heap.size≤g∧OB w' g cap (shrZ L n O))∧Below w.heap.size w w':=by
 obtain ⟨hl1,hl5⟩:=linesB_len hL
 have hol:=hS.len
 have hno5:no≤5:=by omega
 have hno1:1≤no:=by omega
 obtain ⟨ti,tz,ti1,ti2,ti3,ti4,ti5⟩:=int_infoW
 have hmk:∀ w:World,(Instr.makeSlice 37 (.int .i64 (L.length:Int)) (.int .i64 (L.length:Int))).run Tryz.prog w=.ok (.slice (some ⟨w.heap.size,0,none⟩) L.length L.length) (w.alloc (.cells (ivals (List.replicate L.length 0)) 3)):=fun w=>madeI L.length w (by omega)
 obtain ⟨b,off,rfl,hb,hp⟩:=h.cells (by omega)
 have hB0:Below w.heap.size w (w.alloc (.cells #[] 3 (0,0))):=balloc (Below.refl _ _)
 have hsrc:∀ j v,(nvalsW O)[j]?=some v→(w.alloc (.cells #[] 3 (0,0))).cell? ((⟨b,off,none⟩:Addr).add j)=some v:=fun j v hj=>by
  unfold nvalsW at hj
  rw [List.getElem?_map] at hj
  cases ho:O[j]? with
  | none=>rw [ho] at hj;cases hj
  | some x =>
   rw [ho] at hj
   obtain rfl:=Option.some.inj hj
   rw [add_none]
   exact (hB0.cell (p:=⟨b,off+j,none⟩) hb).trans (hp j x ho)
 have ho0:(w.alloc (.cells #[] 3 (0,0))).ownsRow w.heap.size 3 1 (.slice (some ⟨w.heap.size,0,none⟩) 0 0) 0 (nvalsW []):=World.ownsRow_lit (base:=w.heap.size) (e:=3) (size:=1) w #[] 0 (Nat.le_refl _) (by decide) rfl
 have hob:=ho0.lt
 have HO:=hD ho0
 have HSRC:=hD hsrc
 have HB0:=hD hB0
 have HL:=hD hL
 have HS:=hD hS
 have HNO:=hD hno
 have HNL:=hD (show no=L.length by omega)
 have HMK:=hD hmk
 have h1c:∀ v ∈ nvalsW O,v.oneCell'=true:=by simp [nvalsW,Value.oneCell']
 have hnl:(nvalsW O).length=no:=by simp [nvalsW,hno]
 have HNV:=hD hnl
 clear hsrc hB0 hp hL hS hol hno ho0 hmk hnl
 go_enter Tryz.func175,Tryz.ntmps175
 go_wp2_with (at_builtin;refine wpList_append_own _ rfl _ _ 37 rfl w.heap.size 3 ti tz 1 8 Tryz.underlying37 ti1 ti2 ti3 ti4 ti5 (by decide) _ _ _ rfl HO.out ⟨b,off,none⟩ no c (nvalsW O) rfl (by rw [HNV.out,Nat.mul_one]) HSRC.out h1c (by simp only [maxLen];omega) (by omega) (by simp) ?_)
 intro v5 w5 how5 hgr5 _
 have hnv0:nvalsW [] ++ nvalsW O=nvalsW O:=by simp [nvalsW]
 simp only [hnv0,Nat.zero_add] at how5
 have HB5:=hD (below_own0 HB0.out hgr5 hob (Nat.le_refl _) (Nat.le_refl _))
 rcases own_inW how5 HNO.out with ⟨rfl,hM⟩ | ⟨g,cap,rfl,hbg,hO⟩
 ·have:O.length=0:=by rw [hM];rfl
  have:=HNO.out
  omega
 have HO5:=hD hO
 clear how5 hgr5 hnv0 HO HSRC HB0 hob hO h1c
 go_wp2_with fail
 go_loopw [2] (fun nv wr=>∃ (n':Int) (O':List Int),nv=.int .i64 n'∧0≤n'∧n'≤100000000000000∧SOK L O'∧OB wr g cap O'∧shrZ L n' O'=shrZ L n O∧Below w.heap.size w wr) (fun nv _=>(intOf nv).toNat)
 case atStart=>exact ⟨n,O,rfl,hn0,hn,HS.out,HO5.out,rfl,HB5.out⟩
 case round =>
  obtain ⟨n',O',rfl,hn0',hn',hS,hI,hR,hBr⟩:=hrel
  clear HO5 HB5 HS
  have HI:=hD hI
  have HB:=hD hBr
  have HS:=hD hS
  have HR:=hD hR
  have hol:=hS.len
  clear hI hBr hS hR
  by_cases hpos:0<n'
  ·have hd:decide (n' > 0)=true:=by simpa using hpos
   have hmk:=HMK.out
   go_wp2_with fail
   have hIg:=HI.out.lt
   have hBa:Below wr.heap.size wr (wr.alloc (.cells (ivals (List.replicate L.length 0)) 3)):=balloc (Below.refl _ _)
   have HI1:=hD (HI.out.keep hBa)
   have HB1:=hD (bkeep2 HB.out hBa)
   have hW1:IB (wr.alloc (.cells (ivals (List.replicate L.length 0)) 3)) wr.heap.size (mixM (wtZ L O') 0):=by rw [mixM_zero,wtZ_len HS.out.len];exact makeI_b _ _
   have HW1:=hD hW1
   have hwl:=wtZ_len HS.out.len
   have HWL:=hD hwl.symm
   have hwg:w.heap.size≤wr.heap.size:=HB.out.size
   clear hBa hW1 hmk hwl HI HB
   generalize wr.heap.size=gw at *
   go_loopw [9] (fun i wr=>∃ k:Nat,k≤L.length∧i=.int .i64 k∧OB wr g cap O'∧IB wr gw (mixM (wtZ L O') k)∧Below w.heap.size w wr) (fun i _=>L.length - (intOf i).toNat)
   case atStart=>exact ⟨0,by omega,rfl,HI1.out,HW1.out,HB1.out⟩
   case round =>
    obtain ⟨k,hk,rfl,hI,hWr,hBr⟩:=hrel
    clear HI1 HW1 HB1
    by_cases hlt:k<L.length
    ·have hd2:decide ((k:Int)<(L.length:Int))=true:=by simpa using hlt
     obtain ⟨b',off',rfl,hb',hp⟩:=(h'.keep hBr).cells (by omega)
     have hget:L[k]?=some L[k]:=List.getElem?_eq_getElem hlt
     obtain ⟨c0,c1⟩:=hp k _ hget
     have hko:k<O'.length:=by omega
     have hgo:O'[k]?=some O'[k]:=List.getElem?_eq_getElem hko
     have hwz:=wtZ_get hget hgo
     have hlo:=SOK.each HL.out HS.out hget hgo
     generalize L[k]=l at *
     generalize O'[k]=o at *
     have p0:=hI.cell hgo
     have hkn:(k:Int)<(no:Int):=by have:=HNL.out;omega
     have hs1:=hI.lt
     obtain ⟨y,hy⟩:=mixM_get (B:=wtZ L O') (k:=k) (by rw [<- HWL.out];exact hlt)
     have HI:=hD hI
     have HW:=hD hWr
     have HB:=hD hBr
     have HY:=hD hy
     have HGO:=hD hgo
     clear hI hWr hBr hp hget hgo hy
     by_cases e:l.mi<o
     ·have hz:decide (o > l.mi)=true:=by simpa using e
      rw [if_pos e] at hwz
      have HWZ:=hD hwz
      clear hwz
      go_wp2_with fail
      refine wp_region_grow 10 0 (·<10) (by kernel_rfl) (by kernel_rfl) rfl ?_
      iterate 10 (refine wpG_step (fun K hK=>?_);first | (refine grow_skip rfl ?_;go_simp;refine hK _ ?_;clear hK K) | (apply Exists.intro;refine ⟨.inl ⟨rfl,fun w' hw'=>?_⟩,?_⟩;(focus ((obtain ⟨hc,hf⟩:=bcell hw'.out);(have hcS:=bcellS hw'.out);go_simp <;> first | rfl | fail));(go_simp;refine hK _ ?_;clear hK K)))
      refine wpG_nil ?_
      refine wpK_tail (by kernel_rfl) (fun w5 hg5=>?_)
      have hb5:=bdrewn hg5.out
      refine wpAny_end (by kernel_rfl) ?_
      refine NoPan.thn ?_
      clear hg5
      have HW5:=HW.out.keep hb5
      have d0:=HW5.cell HY.out
      have f0:=HW5.frozen k
      have HW6:=HW5.set k l.wt
      rw [mixM_set HWZ.out] at HW6
      have HW6:=hD HW6
      have HI6:=hD ((HI.out.keep hb5).but (gsetI (greflI _ gw) k (.int .i64 l.wt)) (by omega))
      have HB6:=hD ((bkeep2 HB.out hb5).setCell (p:=⟨gw,k,none⟩) (by show w.heap.size≤gw;omega) (.int .i64 l.wt))
      have e0:=(hb5.cell (p:=⟨b',off'+k*2,none⟩) hb').trans c0
      have hb6:=Nat.lt_of_lt_of_le hb' hb5.size
      clear HW5 hb5 HW HI HB c0 c1 p0
      go_wp2
      go_roundw
      case rel=>exact ⟨k+1,by omega,by go_num,HI6.out,HW6.out,HB6.out⟩
      case measure=>simp [intOf];omega
     ·have hz:decide (o > l.mi)=false:=by simpa using e
      rw [if_neg e] at hwz
      have HWZ:=hD hwz
      clear hwz
      go_wp2_with fail
      refine wp_region_grow 10 0 (·<10) (by kernel_rfl) (by kernel_rfl) rfl ?_
      iterate 10 (refine wpG_step (fun K hK=>?_);first | (refine grow_skip rfl ?_;go_simp;refine hK _ ?_;clear hK K) | (apply Exists.intro;refine ⟨.inl ⟨rfl,fun w' hw'=>?_⟩,?_⟩;(focus ((obtain ⟨hc,hf⟩:=bcell hw'.out);(have hcS:=bcellS hw'.out);go_simp <;> first | rfl | fail));(go_simp;refine hK _ ?_;clear hK K)))
      refine wpG_nil ?_
      refine wpK_tail (by kernel_rfl) (fun w5 hg5=>?_)
      have hb5:=bdrewn hg5.out
      refine wpAny_end (by kernel_rfl) ?_
      refine NoPan.thn ?_
      clear hg5
      have HW6:=HW.out.keep hb5
      rw [<- mixM_skip HWZ.out] at HW6
      have HW6:=hD HW6
      have HI6:=hD (HI.out.keep hb5)
      have HB6:=hD (bkeep2 HB.out hb5)
      clear hb5 HW HI HB
      go_wp2
      go_roundw
      case rel=>exact ⟨k+1,by omega,by go_num,HI6.out,HW6.out,HB6.out⟩
      case measure=>simp [intOf];omega
    ·have hd2:decide ((k:Int)<(L.length:Int))=false:=decide_eq_false (by omega)
     obtain rfl:k=L.length:=by omega
     have hwl:=HWL.out
     rw [hwl,mixM_all] at hWr
     have HI:=hD hI
     have HW:=hD hWr
     have HB:=hD hBr
     have HOK:=hD (wtZ_ok HL.out HS.out)
     clear hI hWr hBr hwl
     go_wp2_with fail
     with_reducible refine (total_n _ _ L.length (wtZ L O') _ HW.out.nv HWL.out (by omega) HOK.out.smal).mono ?_
     rintro e w5 ⟨rfl,rfl⟩
     by_cases hs:sumI (wtZ L O')=0
     ·have hz:(sumI (wtZ L O') == 0)=true:=by simpa using hs
      have HE:=hD (shr_end (L:=L) (n:=n') (.inr hs))
      clear hs
      go_wp2
      go_ret
      exact ⟨⟨g,cap,rfl,hbg,by rw [<- HR.out,HE.out];exact HI.out⟩,HB.out⟩
     ·have hz:(sumI (wtZ L O') == 0)=false:=by simpa using hs
      have HGO:=hD (shr_go HL.out HS.out hpos hs)
      have HRK:=hD (round_ok HL.out HS.out hpos hs)
      clear hs
      go_wp2_with fail
      with_reducible refine (sspread_n _ _ L.length n' (wtZ L O') _ HW.out.nv HWL.out HOK.out hn0' (by omega)).mono ?_
      rintro e w5 ⟨rfl,hp5,hb5⟩
      have HI5:=hD (HI.out.keep hb5)
      have HB5:=hD (bkeep2 HB.out hb5)
      have HP:=hD hp5
      have hgp:g<wr.heap.size:=HI.out.lt
      have HPB:=hD (spread_pos (n:=n') hn0' HOK.out)
      have hpl:(spreadM n' (wtZ L O')).length=L.length:=by rw [spreadM_len];exact HWL.out.symm
      have HPL:=hD hpl
      clear hp5 hb5 hpl HI HW HB
      generalize wr.heap.size=gp at *
      generalize spreadM n' (wtZ L O')=P at *
      go_wp2_with fail
      go_loopw [2,11] (fun nv i wr=>∃ k:Nat,k≤L.length∧i=.int .i64 k∧nv=.int .i64 (n' - tknZ L O' (P.take k))∧OB wr g cap (takZ L O' (P.take k))∧w5.grownBy wr (some g)) (fun _ i _=>L.length - (intOf i).toNat)
      case atStart=>exact ⟨0,by omega,rfl,by rw [List.take_zero,tknZ_nil,Int.sub_zero],by rw [List.take_zero,takZ_nil];exact HI5.out,greflI _ _⟩
      case round =>
       obtain ⟨k,hk,rfl,rfl,hI,hgr⟩:=hrel
       clear HI5
       by_cases hlt:k<L.length
       ·have hd2:decide ((k:Int)<(L.length:Int))=true:=by simpa using hlt
        have hBr:=below_grown HB5.out hgr hbg HB5.out.size
        obtain ⟨b',off',rfl,hb',hq⟩:=(h'.keep hBr).cells (by omega)
        have hget:L[k]?=some L[k]:=List.getElem?_eq_getElem hlt
        obtain ⟨c0,c1⟩:=hq k _ hget
        have hko:k<O'.length:=by omega
        have hgo:O'[k]?=some O'[k]:=List.getElem?_eq_getElem hko
        have hkp:k<P.length:=by have:=HPL.out;omega
        have hgq:P[k]?=some P[k]:=List.getElem?_eq_getElem hkp
        have hlo:=SOK.each HL.out HS.out hget hgo
        have hpb:=HPB.out _ (List.getElem_mem hkp)
        have hpt:∀ x ∈ P.take k,(0:Int)≤x∧x≤100000000000000:=fun x hx=>by have:=HPB.out x (List.mem_of_mem_take hx);omega
        have htb:=tkn_bd (P:=P.take k) HS.out (fun x hx=>(hpt x hx).1)
        have hsb:=sumI_bd hpt
        have hlt5:(P.take k).length≤5:=by rw [List.length_take];omega
        have hts:=takZ_snoc hget hgo hgq
        have htk:=tknZ_snoc hget hgo hgq
        have hx0:(takZ L O' (P.take k))[k]?=some O'[k]:=takZ_get hgo (by rw [List.length_take];omega)
        generalize L[k]=l at *
        generalize O'[k]=o at *
        generalize P[k]=p at *
        obtain ⟨hlo1,hlo2,hlo3,hlo4⟩:=hlo
        obtain ⟨hp0,hp1⟩:=hpb
        have q0:=(HP.out.but hgr (by omega)).cell hgq
        have d0:=hI.cell hx0
        have hs1:=hI.lt
        have hs2:=(HP.out.but hgr (by omega)).lt
        have hkn:(k:Int)<(no:Int):=by have:=HNL.out;omega
        have hwr:IntKind.i64.wrap (o - l.mi)=o - l.mi:=IntWalk.i64_in _ (by omega)
        have hmn:=mn_spec p (o - l.mi)
        have HX0:=hD hx0
        have HI:=hD hI
        have HG:=hD hgr
        have HTS:=hD hts
        have HTK:=hD htk
        have HMN:=hD hmn
        have ht00:0≤tknZ L O' (P.take k):=htb.1
        have ht01:tknZ L O' (P.take k)≤500000000000000:=by omega
        generalize tknZ L O' (P.take k)=t0 at *
        clear hI hgr hBr hts htk hmn hx0 hget hgo hgq hq htb hsb hpt hlt5
        go_wp2_with fail
        refine wp_region_grow 15 1 (·<15) (by kernel_rfl) (by kernel_rfl) rfl ?_
        iterate 15 (refine wpG_step (fun K hK=>?_);first | (refine grow_skip rfl ?_;go_simp;refine hK _ ?_;clear hK K) | (apply Exists.intro;refine ⟨.inl ⟨rfl,fun w' hw'=>?_⟩,?_⟩;(focus ((obtain ⟨hc,hf⟩:=bcell hw'.out);(have hcS:=bcellS hw'.out);go_simp <;> first | rfl | fail));(go_simp;refine hK _ ?_;clear hK K)))
        refine wpG_nil ?_
        refine wpK_tail (by kernel_rfl) (fun w7 hg7=>?_)
        have hb7:=bdrewn hg7.out
        obtain ⟨hc7,hf7⟩:=bcell hb7
        refine wpAny_one (i:=15) (by kernel_rfl) rfl rfl ?_
        go_simp
        refine wpAny_end (by kernel_rfl) ?_
        refine NoPan.thn ?_
        clear hc7 hf7
        clear hg7
        obtain ⟨t,ht⟩:∃ t,mn p (o - l.mi)=t:=⟨_,rfl⟩
        have hmn:=HMN.out
        have HTS2:=HTS.out
        have HTK2:=HTK.out
        rw [ht] at hmn HTS2 HTK2
        rw [ht]
        have HI7:=HI.out.keep hb7
        have d7:=HI7.cell HX0.out
        have f7:=HI7.frozen k
        have HI8:=HI7.set k (o - t) (by rw [takZ_len];exact hko)
        rw [HTS2] at HI8
        have HI8:=hD HI8
        have HG8:=hD (gsetI (grown_below HG.out hb7) k (.int .i64 (o - t)))
        have HTK2:=hD HTK2
        have ht0:0≤t:=by omega
        have ht1:t≤p:=hmn.1
        clear HI7 HTS2 hb7 hmn ht HMN HTS HTK HI HG
        go_wp2
        go_roundw
        case rel=>exact ⟨k+1,by omega,by go_num,by rw [HTK2.out];go_num,HI8.out,HG8.out⟩
        case measure=>simp [intOf];omega
       ·have hd2:decide ((k:Int)<(L.length:Int))=false:=decide_eq_false (by omega)
        have hke:P.take k=P:=List.take_of_length_le (by have:=HPL.out;omega)
        rw [hke] at hI ⊢
        obtain ⟨hr1,hr2,hr3,hr4⟩:=HRK.out
        have HI6:=hD hI
        have HB6:=hD (below_grown HB5.out hgr hbg HB5.out.size)
        have HS6:=hD hr4
        clear hI hgr hke hr1 hr4
        go_wp2
        go_roundw
        case rel=>exact ⟨_,_,rfl,by omega,by omega,HS6.out,HI6.out,by rw [<- HGO.out];exact HR.out,HB6.out⟩
        case measure=>simp [intOf];omega
  ·have hd:decide (n' > 0)=false:=by simpa using hpos
   have HE:=hD (shr_end (L:=L) (O:=O') (n:=n') (.inl (by omega)))
   go_wp2
   go_ret
   exact ⟨⟨g,cap,rfl,hbg,by rw [<- HR.out,HE.out];exact HI.out⟩,HB.out⟩
end
section
open Go.RowKit
set_option maxHeartbeats 1000000
attribute [local go_sem 5000] run_mx run_mn
attribute [local go_sem] growUpon_value growUpon_skip growUpon_enter
def sizedO (L:List Ln) (O:List Int) (room:Int):List Int :=
 if room - sumI O<0 then shrZ L (-(room - sumI O)) O
 else if sumI (L.map Ln.wt)=0 then O
 else addAt O 0 (spreadM (room - sumI O) (L.map Ln.wt))
theorem sized_w (B:Option Addr) (c no:Nat) (O:List Int) (A':Option Addr) (c':Nat) (L:List Ln) (room:Int) (w:World) (h:NV w B O) (hno:no=O.length) (h':LnV w A' L) (hL:linesB L=true) (hS:SOK L O) (hO:∀ x ∈ O,0≤x∧x≤100000000000000) (hs0:0≤sumI O) (hs1:sumI O≤10000000000350) (hr0:0≤room) (hr1:room≤20000000000000) :
  Calls Tryz.prog 155 #[.slice A' L.length c',.slice B no c,.int .i64 room] w fun e w'=>(∃ g cap,e=.returned (.slice (some ⟨g,0,none⟩) no cap)∧w.heap.size≤g∧OB w' g cap (sizedO L O room))∧Below w.heap.size w w':=by
 obtain ⟨hl1,hl5⟩:=linesB_len hL
 have hol:=hS.len
 have hno5:no≤5:=by omega
 have hno1:1≤no:=by omega
 have hww:=(min_bd hL).2
 have hws:=hww.sum
 have HSM:=hD (smal_of (L:=O) (b:=100000000000000) (M:=1000000000000000) (fun x hx=>by have:=hO x hx;omega) (by omega) (by omega))
 have HWW:=hD hww
 have HO:=hD hO
 have HL:=hD hL
 have HS:=hD hS
 have HNO:=hD hno
 have HNL:=hD (show no=L.length by omega)
 obtain ⟨ti,tz,ti1,ti2,ti3,ti4,ti5⟩:=int_infoW
 obtain ⟨b,off,rfl,hb,hp⟩:=h.cells (by omega)
 have HPP:=hD hp
 clear hww hO hL hS hol hno hp
 go_enter Tryz.func155,Tryz.ntmps155
 go_wp2_with fail
 with_reducible refine (total_n _ _ no O _ h HNO.out (by omega) HSM.out).mono ?_
 rintro e w3 ⟨rfl,rfl⟩
 obtain ⟨q,hq⟩:∃ q,sumI O=q:=⟨_,rfl⟩
 rw [hq] at hs0 hs1
 rw [hq]
 have HQ:=hD hq
 clear hq
 by_cases hneg:room - q<0
 ·have hd:decide (room - q<0)=true:=by simpa using hneg
  have he:sizedO L O room=shrZ L (-(room - q)) O:=by unfold sizedO;rw [HQ.out,if_pos hneg]
  have HE:=hD he
  clear he
  go_wp2_with fail
  refine (sshrunk_v _ _ no O _ _ L _ _ h HNO.out h' HL.out HS.out (by omega) (by omega)).mono ?_
  rintro e w5 ⟨⟨g,cap,rfl,hg,hi5⟩,hb5⟩
  have HB5:=hD hb5
  first | rw [<- HE.out] at hi5 | (rw [show q - room=-(room - q) from by omega,<- HE.out] at hi5) | (rw [show 0 - (room - q)=-(room - q) from by omega,<- HE.out] at hi5)
  have HI5:=hD hi5
  clear hi5 hb5
  go_wp2
  go_ret
  exact ⟨⟨g,cap,rfl,hg,HI5.out⟩,HB5.out⟩
 ·have hd:decide (room - q<0)=false:=by simpa using hneg
  have hB0:Below w.heap.size w (w.alloc (.cells #[] 3 (0,0))):=balloc (Below.refl _ _)
  have hsrc:∀ j v,(nvalsW O)[j]?=some v→(w.alloc (.cells #[] 3 (0,0))).cell? ((⟨b,off,none⟩:Addr).add j)=some v:=fun j v hj=>by
   unfold nvalsW at hj
   rw [List.getElem?_map] at hj
   cases ho:O[j]? with
   | none=>rw [ho] at hj;cases hj
   | some x =>
    rw [ho] at hj
    obtain rfl:=Option.some.inj hj
    rw [add_none]
    exact (hB0.cell (p:=⟨b,off+j,none⟩) hb).trans (HPP.out j x ho)
  have ho0:(w.alloc (.cells #[] 3 (0,0))).ownsRow w.heap.size 3 1 (.slice (some ⟨w.heap.size,0,none⟩) 0 0) 0 (nvalsW []):=World.ownsRow_lit (base:=w.heap.size) (e:=3) (size:=1) w #[] 0 (Nat.le_refl _) (by decide) rfl
  have hob:=ho0.lt
  have HO0:=hD ho0
  have HSRC:=hD hsrc
  have HB0:=hD hB0
  have h1c:∀ v ∈ nvalsW O,v.oneCell'=true:=by simp [nvalsW,Value.oneCell']
  have hnl:(nvalsW O).length=no:=by simp [nvalsW,HNO.out]
  have HNV:=hD hnl
  clear hsrc hB0 ho0 hnl
  go_wp2_with (at_builtin;refine wpList_append_own _ rfl _ _ 37 rfl w.heap.size 3 ti tz 1 8 Tryz.underlying37 ti1 ti2 ti3 ti4 ti5 (by decide) _ _ _ rfl HO0.out ⟨b,off,none⟩ no c (nvalsW O) rfl (by rw [HNV.out,Nat.mul_one]) HSRC.out h1c (by simp only [maxLen];omega) (by omega) (by simp) ?_)
  intro v5 w5 how5 hgr5 _
  have hnv0:nvalsW [] ++ nvalsW O=nvalsW O:=by simp [nvalsW]
  simp only [hnv0,Nat.zero_add] at how5
  have HB5:=hD (below_own0 HB0.out hgr5 hob (Nat.le_refl _) (Nat.le_refl _))
  rcases own_inW how5 HNO.out with ⟨rfl,hM⟩ | ⟨g,cap,rfl,hbg,hOB⟩
  ·have:O.length=0:=by rw [hM];rfl
   have:=HNO.out
   omega
  have HI:=hD hOB
  clear how5 hgr5 hnv0 HO0 HSRC HB0 hob hOB h1c
  have HLV:=hD (h'.keep HB5.out)
  go_wp2_with fail
  refine (weightsOf_v _ _ L.length L _ HLV.out rfl (by omega)).mono ?_
  rintro e w6 ⟨⟨A2,c2,rfl,hn6⟩,hb6⟩
  have HN6:=hD hn6
  replace HI:=hD (HI.out.keep hb6)
  replace HB5:=hD (bkeep2 HB5.out hb6)
  clear hn6 hb6 HLV
  go_wp2_with fail
  with_reducible refine (total_n _ _ L.length (L.map Ln.wt) _ HN6.out (by simp) (by omega) HWW.out.smal).mono ?_
  rintro e w7 ⟨rfl,rfl⟩
  by_cases hz0:sumI (L.map Ln.wt)=0
  ·have hz:(sumI (L.map Ln.wt) == 0)=true:=by simpa using hz0
   have he:sizedO L O room=O:=by unfold sizedO;rw [HQ.out,if_neg (by omega),if_pos hz0]
   have HE:=hD he
   clear he hz0
   go_wp2
   go_ret
   exact ⟨⟨g,cap,rfl,hbg,by rw [HE.out];exact HI.out⟩,HB5.out⟩
  ·have hz:(sumI (L.map Ln.wt) == 0)=false:=by simpa using hz0
   have he:sizedO L O room=addAt O 0 (spreadM (room - q) (L.map Ln.wt)):=by unfold sizedO;rw [HQ.out,if_neg (by omega),if_neg hz0]
   have HE:=hD he
   have HLV:=hD (h'.keep HB5.out)
   clear he hz0
   go_wp2_with fail
   refine (weightsOf_v _ _ L.length L _ HLV.out rfl (by omega)).mono ?_
   rintro e w8 ⟨⟨A3,c3,rfl,hn8⟩,hb8⟩
   have HN8:=hD hn8
   replace HI:=hD (HI.out.keep hb8)
   replace HB5:=hD (bkeep2 HB5.out hb8)
   clear hn8 hb8 HLV HN6
   go_wp2_with fail
   refine (sspread_n _ _ L.length (room - q) (L.map Ln.wt) _ HN8.out (by simp) HWW.out (by omega) (by omega)).mono ?_
   rintro e w9 ⟨rfl,hp9,hb9⟩
   have hgp:=HI.out.lt
   have HP:=hD hp9
   replace HI:=hD (HI.out.keep hb9)
   replace HB5:=hD (bkeep2 HB5.out hb9)
   have HPB:=hD (spread_pos (n:=room - q) (by omega) HWW.out)
   have HPL:=hD (show (spreadM (room - q) (L.map Ln.wt)).length=no by rw [spreadM_len,List.length_map,HNL.out])
   clear hp9 hb9 HN8
   generalize w8.heap.size=gp at *
   generalize spreadM (room - q) (L.map Ln.wt)=P at *
   go_wp2_with fail
   go_loopw [10] (fun i wr=>∃ k:Nat,k≤no∧i=.int .i64 k∧OB wr g cap (addAt O 0 (P.take k))∧w9.grownBy wr (some g)) (fun i _=>no - (intOf i).toNat)
   case atStart=>exact ⟨0,by omega,rfl,by rw [List.take_zero,addAt_nil];exact HI.out,greflI _ _⟩
   case round =>
    obtain ⟨k,hk,rfl,hI,hgr⟩:=hrel
    clear HI
    by_cases hlt:k<no
    ·have hd2:decide ((k:Int)<(no:Int))=true:=by simpa using hlt
     have hkp:k<P.length:=by have:=HPL.out;omega
     have hgq:P[k]?=some P[k]:=List.getElem?_eq_getElem hkp
     have hko:0+k<O.length:=by have:=HNO.out;omega
     have hgo:O[0+k]?=some O[0+k]:=List.getElem?_eq_getElem hko
     have hpb:=HPB.out _ (List.getElem_mem hkp)
     have hob:=HO.out _ (List.getElem_mem hko)
     generalize P[k]=p at *
     generalize O[0+k]=o at *
     obtain ⟨hp0,hp1⟩:=hpb
     obtain ⟨ho0,ho1⟩:=hob
     have hx0:=addAt_get hgo (P:=P.take k) (by rw [List.length_take];omega)
     have has:=addAt_snoc hgo hgq
     rw [Nat.zero_add] at hx0 has
     have q0:=(HP.out.but hgr (by omega)).cell hgq
     have d0:=hI.cell hx0
     have hs2:=hI.lt
     have hs3:=(HP.out.but hgr (by omega)).lt
     have hkl:(k:Int)<(L.length:Int):=by have:=HNL.out;omega
     have hwr3:IntKind.i64.wrap (o+p)=o+p:=IntWalk.i64_in _ (by omega)
     have hal3:k<(addAt O 0 (P.take k)).length:=by rw [addAt_len];omega
     have HX0:=hD hx0
     have HI6:=hD hI
     have HG6:=hD hgr
     have HAS:=hD has
     clear hI hgr hgq hgo hx0 has
     go_wp2_with fail
     refine wp_region_grow 12 1 (·<12) (by kernel_rfl) (by kernel_rfl) rfl ?_
     iterate 12 (refine wpG_step (fun K hK=>?_);first | (refine grow_skip rfl ?_;go_simp;refine hK _ ?_;clear hK K) | (apply Exists.intro;refine ⟨.inl ⟨rfl,fun w' hw'=>?_⟩,?_⟩;(focus ((obtain ⟨hc,hf⟩:=bcell hw'.out);(have hcS:=bcellS hw'.out);go_simp <;> rfl));(go_simp;refine hK _ ?_;clear hK K)))
     refine wpG_nil ?_
     refine wpK_tail (by kernel_rfl) (fun w7 hg7=>?_)
     have hb7:=bdrewn hg7.out
     have HI7:=HI6.out.keep hb7
     have d7:=HI7.cell HX0.out
     have f7:=HI7.frozen k
     have HI8:=HI7.set k (o+p) hal3
     rw [HAS.out] at HI8
     have HI8:=hD HI8
     have HG8:=hD (gsetI (grown_below HG6.out hb7) k (.int .i64 (o+p)))
     clear HI7
     refine wpAny_one (i:=12) (by kernel_rfl) rfl rfl ?_
     go_simp
     refine wpAny_end (by kernel_rfl) ?_
     refine nopan_normal9 ?_
     clear hb7 hg7
     go_wp2
     go_roundw
     case rel=>exact ⟨k+1,by omega,by go_num,HI8.out,HG8.out⟩
     case measure=>simp [intOf];omega
    ·have hd2:decide ((k:Int)<(no:Int))=false:=decide_eq_false (by omega)
     have hke:P.take k=P:=List.take_of_length_le (by have:=HPL.out;omega)
     rw [hke,<- HE.out] at hI
     have HI6:=hD hI
     have HB6:=hD (below_grown HB5.out hgr hbg HB5.out.size)
     clear hI hgr hke
     go_wp2
     go_ret
     exact ⟨⟨g,cap,rfl,hbg,HI6.out⟩,HB6.out⟩
end
end Go.Proofs.YtenckjdiggaonaaGreat
