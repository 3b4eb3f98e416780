import Derived.Test.YtenckjdiggaonaaGreatQ06
import Derived.OwnWalk
set_option linter.unusedVariables false
set_option maxRecDepth 100000
namespace Go.Proofs.YtenckjdiggaonaaGreat
section
open Go.RowKit
set_option maxHeartbeats 1000000
attribute [local go_sem 5000] run_mx run_mn
theorem least_v (l:Ln) (w:World):Calls Tryz.prog 218 #[.agg #[.int .i64 l.wt,.int .i64 l.mi]] w fun e w'=>e=.returned (.int .i64 l.mi)∧Below w.heap.size w w':=by
 go_enter Tryz.func218,Tryz.ntmps218
 go_wp2
 go_ret
 exact ⟨rfl,balloc (Below.refl _ _)⟩
theorem each_least (A:Option Addr) (c:Nat) (L:List Ln) (w:World) (h:LnV w A L) (hL:L.length≤1048576) :
  Calls Tryz.prog 214 #[.slice A L.length c,.func (.func 218) #[] #[]] w fun e w'=>e=.returned (.slice (some ⟨w.heap.size,0,none⟩) L.length L.length)∧IB w' w.heap.size (L.map Ln.mi)∧Below w.heap.size w w':=by
 have hmk:∀ w:World,(Instr.makeSlice 37 (.int .i64 (L.length:Int)) (.int .i64 (L.length:Int))).run Tryz.prog w=.ok (.slice (some ⟨w.heap.size,0,none⟩) L.length L.length) (w.alloc (.cells (ivals (List.replicate L.length 0)) 3)):=fun w=>madeI L.length w hL
 go_enter Tryz.func214,Tryz.ntmps214
 go_wp2_with fail
 have hlm:(L.map Ln.mi).length=L.length:=by simp
 have hI0:=makeI_b L.length w
 have hB0:Below w.heap.size w (w.alloc (.cells (ivals (List.replicate L.length 0)) 3)):=balloc (Below.refl _ _)
 have hI1:IB (w.alloc (.cells (ivals (List.replicate L.length 0)) 3)) w.heap.size (mixM (L.map Ln.mi) 0):=by rw [mixM_zero,hlm];exact hI0
 have HI0:=hD hI1
 have HB0:=hD hB0
 have HLM:=hD hlm
 clear hmk hI0 hB0 hI1 hlm
 go_loopw [13] (fun i wr=>∃ k:Nat,k≤L.length∧i=.int .i64 k∧IB wr w.heap.size (mixM (L.map Ln.mi) k)∧Below w.heap.size w wr) (fun i _=>L.length - (intOf i).toNat)
 case atStart=>exact ⟨0,by omega,rfl,HI0.out,HB0.out⟩
 case round =>
  obtain ⟨k,hk,rfl,hI,hBr⟩:=hrel
  clear HI0 HB0
  by_cases hlt:k<L.length
  ·have hd:decide ((k:Int)<(L.length:Int))=true:=by simpa using hlt
   obtain ⟨b,off,rfl,hb,hp⟩:=(h.keep hBr).cells (by omega)
   have hget:L[k]?=some L[k]:=List.getElem?_eq_getElem hlt
   obtain ⟨c0,c1⟩:=hp k _ hget
   have hgm:(L.map Ln.mi)[k]?=some L[k].mi:=by rw [List.getElem?_map,hget];rfl
   generalize hx:L[k]=x at *
   have HI:=hD hI
   have HBR:=hD hBr
   have HGM:=hD hgm
   clear hI hBr hp hget hx hgm
   go_wp2_with fail
   refine (least_v x _).mono ?_
   rintro e w1 ⟨rfl,hb1⟩
   have hb01:=(bkeep2 (balloc (Below.refl wr.heap.size wr)) hb1)
   replace HI:=hD (HI.out.keep hb01)
   replace HBR:=hD (HBR.out.trans (hb01.mono HBR.out.size))
   clear hb1 hb01 c0 c1
   obtain ⟨y,hy⟩:=mixM_get (B:=L.map Ln.mi) (k:=k) (by rw [HLM.out];exact hlt)
   have d0:=HI.out.cell hy
   have f0:=HI.out.frozen k
   have hI2:=HI.out.set k x.mi
   rw [mixM_set HGM.out] at hI2
   have HI2:=hD hI2
   have HB2:=hD (HBR.out.setCell (p:=⟨w.heap.size,k,none⟩) (Nat.le_refl _) (.int .i64 x.mi))
   clear hI2 hy HI HBR
   go_wp2
   go_roundw
   case rel=>exact ⟨k+1,by omega,by go_num,HI2.out,HB2.out⟩
   case measure=>simp [intOf];omega
  ·have hd:decide ((k:Int)<(L.length:Int))=false:=decide_eq_false (by omega)
   obtain rfl:k=L.length:=by omega
   rw [<- HLM.out,mixM_all] at hI
   have HI2:=hD hI
   have HB2:=hD hBr
   clear hI hBr
   go_wp2
   go_ret
   exact ⟨rfl,HI2.out,HB2.out⟩
theorem weight_v (l:Ln) (w:World):Calls Tryz.prog 215 #[.agg #[.int .i64 l.wt,.int .i64 l.mi]] w fun e w'=>e=.returned (.int .i64 l.wt)∧Below w.heap.size w w':=by
 go_enter Tryz.func215,Tryz.ntmps215
 go_wp2
 go_ret
 exact ⟨rfl,balloc (Below.refl _ _)⟩
theorem each_weight (A:Option Addr) (c:Nat) (L:List Ln) (w:World) (h:LnV w A L) (hL:L.length≤1048576) :
  Calls Tryz.prog 214 #[.slice A L.length c,.func (.func 215) #[] #[]] w fun e w'=>e=.returned (.slice (some ⟨w.heap.size,0,none⟩) L.length L.length)∧IB w' w.heap.size (L.map Ln.wt)∧Below w.heap.size w w':=by
 have hmk:∀ w:World,(Instr.makeSlice 37 (.int .i64 (L.length:Int)) (.int .i64 (L.length:Int))).run Tryz.prog w=.ok (.slice (some ⟨w.heap.size,0,none⟩) L.length L.length) (w.alloc (.cells (ivals (List.replicate L.length 0)) 3)):=fun w=>madeI L.length w hL
 go_enter Tryz.func214,Tryz.ntmps214
 go_wp2_with fail
 have hlm:(L.map Ln.wt).length=L.length:=by simp
 have hI0:=makeI_b L.length w
 have hB0:Below w.heap.size w (w.alloc (.cells (ivals (List.replicate L.length 0)) 3)):=balloc (Below.refl _ _)
 have hI1:IB (w.alloc (.cells (ivals (List.replicate L.length 0)) 3)) w.heap.size (mixM (L.map Ln.wt) 0):=by rw [mixM_zero,hlm];exact hI0
 have HI0:=hD hI1
 have HB0:=hD hB0
 have HLM:=hD hlm
 clear hmk hI0 hB0 hI1 hlm
 go_loopw [13] (fun i wr=>∃ k:Nat,k≤L.length∧i=.int .i64 k∧IB wr w.heap.size (mixM (L.map Ln.wt) k)∧Below w.heap.size w wr) (fun i _=>L.length - (intOf i).toNat)
 case atStart=>exact ⟨0,by omega,rfl,HI0.out,HB0.out⟩
 case round =>
  obtain ⟨k,hk,rfl,hI,hBr⟩:=hrel
  clear HI0 HB0
  by_cases hlt:k<L.length
  ·have hd:decide ((k:Int)<(L.length:Int))=true:=by simpa using hlt
   obtain ⟨b,off,rfl,hb,hp⟩:=(h.keep hBr).cells (by omega)
   have hget:L[k]?=some L[k]:=List.getElem?_eq_getElem hlt
   obtain ⟨c0,c1⟩:=hp k _ hget
   have hgm:(L.map Ln.wt)[k]?=some L[k].wt:=by rw [List.getElem?_map,hget];rfl
   generalize hx:L[k]=x at *
   have HI:=hD hI
   have HBR:=hD hBr
   have HGM:=hD hgm
   clear hI hBr hp hget hx hgm
   go_wp2_with fail
   refine (weight_v x _).mono ?_
   rintro e w1 ⟨rfl,hb1⟩
   have hb01:=(bkeep2 (balloc (Below.refl wr.heap.size wr)) hb1)
   replace HI:=hD (HI.out.keep hb01)
   replace HBR:=hD (HBR.out.trans (hb01.mono HBR.out.size))
   clear hb1 hb01 c0 c1
   obtain ⟨y,hy⟩:=mixM_get (B:=L.map Ln.wt) (k:=k) (by rw [HLM.out];exact hlt)
   have d0:=HI.out.cell hy
   have f0:=HI.out.frozen k
   have hI2:=HI.out.set k x.wt
   rw [mixM_set HGM.out] at hI2
   have HI2:=hD hI2
   have HB2:=hD (HBR.out.setCell (p:=⟨w.heap.size,k,none⟩) (Nat.le_refl _) (.int .i64 x.wt))
   clear hI2 hy HI HBR
   go_wp2
   go_roundw
   case rel=>exact ⟨k+1,by omega,by go_num,HI2.out,HB2.out⟩
   case measure=>simp [intOf];omega
  ·have hd:decide ((k:Int)<(L.length:Int))=false:=decide_eq_false (by omega)
   obtain rfl:k=L.length:=by omega
   rw [<- HLM.out,mixM_all] at hI
   have HI2:=hD hI
   have HB2:=hD hBr
   clear hI hBr
   go_wp2
   go_ret
   exact ⟨rfl,HI2.out,HB2.out⟩
theorem grown_below {w w' w2:World} {g:Nat} (h:w.grownBy w' (some g)) (hb:Below w'.heap.size w' w2):w.grownBy w2 (some g) :=
 ⟨hb.os.trans h.os,hb.tape.trans h.tape,hb.output.trans h.output,Nat.le_trans h.size hb.size,fun k hk hne=>(hb.block k (Nat.lt_of_lt_of_le hk h.size)).trans (h.block k hk hne)⟩
theorem spread_pos {n:Int} {ws:List Int} (hn:0≤n) (h:wsOK ws):∀ y ∈ spreadM n ws,0≤y∧y≤n:=fun y hy=>by
 obtain ⟨k,hk,e⟩:=List.mem_iff_getElem.1 hy
 have hl:=spreadM_len (n:=n) (ws:=ws)
 obtain ⟨y',h1,h2,h3,_⟩:=spread_get hn h (List.getElem?_eq_getElem (show k<ws.length by omega))
 rw [List.getElem?_eq_getElem hk,e] at h1
 obtain rfl:=Option.some.inj h1
 exact ⟨h2,h3⟩
theorem enlarge_v (g sa m c:Nat) (B:Option Addr) (c':Nat) (O ws:List Int) (n:Int) (w:World) (hI:IB w g O) (hm:m=ws.length) (hO:sa+m≤O.length) (hOb:∀ x ∈ O,0≤x∧x≤100000000000000) (h:NV w B ws) (hw:wsOK ws) (hn:0≤n) (hn2:n≤100000000000000) :
  Calls Tryz.prog 217 #[.slice (some ⟨g,sa,none⟩) m c,.int .i64 n,.slice B m c'] w fun e w'=>(∃ v,e=.returned v)∧IB w' g (addAt O sa (spreadM n ws))∧w.grownBy w' (some g):=by
 subst hm
 have hlm:(spreadM n ws).length=ws.length:=spreadM_len
 have HPB:=hD (spread_pos hn hw)
 have HOB:=hD hOb
 have HLM:=hD hlm
 have hgl:=hI.lt
 have hw5:=hw.2.2
 clear hOb hlm
 go_enter Tryz.func217,Tryz.ntmps217
 go_wp2_with fail
 with_reducible refine (spread_v B c' n ws _ h hw hn hn2).mono ?_
 rintro e w1 ⟨rfl,hp,hb1⟩
 have HI:=hD (hI.keep hb1)
 have HP:=hD hp
 have HB:=hD hb1
 have hgn:g ≠ w.heap.size:=by omega
 clear hp hb1 hI h
 go_wp2_with fail
 go_loopw [12] (fun i wr=>∃ k:Nat,k≤ws.length∧i=.int .i64 k∧IB wr g (addAt O sa ((spreadM n ws).take k))∧w1.grownBy wr (some g)) (fun i _=>ws.length - (intOf i).toNat)
 case atStart=>exact ⟨0,by omega,rfl,by rw [List.take_zero,addAt_nil];exact HI.out,greflI _ _⟩
 case round =>
  obtain ⟨k,hk,rfl,hIr,hgr⟩:=hrel
  clear HI
  by_cases hlt:k<ws.length
  ·have hd:decide ((k:Int)<(ws.length:Int))=true:=by simpa using hlt
   have hkp:k<(spreadM n ws).length:=by have:=HLM.out;omega
   have hgp:(spreadM n ws)[k]?=some (spreadM n ws)[k]:=List.getElem?_eq_getElem hkp
   have hpb:=HPB.out _ (List.getElem_mem hkp)
   have hko:sa+k<O.length:=by omega
   have hgo:O[sa+k]?=some O[sa+k]:=List.getElem?_eq_getElem hko
   have hob:=HOB.out _ (List.getElem_mem hko)
   generalize (spreadM n ws)[k]=p at *
   generalize O[sa+k]=o at *
   have c0:=(HP.out.but hgr (by omega)).cell hgp
   have d0:=hIr.cell (addAt_get hgo (P:=(spreadM n ws).take k) (by rw [List.length_take];omega))
   have f0:=hIr.frozen (sa+k)
   have hI2:=hIr.set (sa+k) (o+p)
   rw [addAt_snoc hgo hgp] at hI2
   have HI2:=hD hI2
   have HG2:=hD (gsetI hgr (sa+k) (.int .i64 (o+p)))
   obtain ⟨hp0,hp1⟩:=hpb
   obtain ⟨ho0,ho1⟩:=hob
   clear hIr hgr hI2 hgp hgo
   go_wp2
   go_roundw
   case rel=>exact ⟨k+1,by omega,by go_num,HI2.out,HG2.out⟩
   case measure=>simp [intOf];omega
  ·have hd:decide ((k:Int)<(ws.length:Int))=false:=decide_eq_false (by omega)
   have hke:(spreadM n ws).take k=spreadM n ws:=List.take_of_length_le (by have:=HLM.out;omega)
   rw [hke] at hIr
   have HI2:=hD hIr
   have HG2:=hD hgr
   clear hIr hgr hke
   go_wp2
   go_end0
   exact ⟨⟨_,rfl⟩,HI2.out,⟨HG2.out.os.trans HB.out.os,HG2.out.tape.trans HB.out.tape,HG2.out.output.trans HB.out.output,Nat.le_trans HB.out.size HG2.out.size,fun k hk hne=>(HG2.out.block k (Nat.lt_of_lt_of_le hk HB.out.size) hne).trans (HB.out.block k hk)⟩⟩
end
section
def segI (O:List Int) (a m:Nat):List Int:=(O.drop a).take m
theorem segI_len {O:List Int} {a m:Nat} (h:a+m≤O.length):(segI O a m).length=m:=by unfold segI;rw [List.length_take,List.length_drop];omega
theorem segI_mem {O:List Int} {a m:Nat} {x:Int} (h:x ∈ segI O a m):x ∈ O:=List.mem_of_mem_drop (List.mem_of_mem_take h)
def stepM (ws O:List Int) (s:Sp):List Int:=addAt O s.sa.toNat (spreadM (mx (s.need - sumI (segI O s.sa.toNat s.many.toNat)) 0) (segI ws s.sa.toNat s.many.toNat))
def roundM (ws:List Int) (m:Int) (S:List Sp) (O:List Int):List Int:=S.foldl (fun O s=>if s.many=m then stepM ws O s else O) O
def reqN (ws:List Int) (S:List Sp) (O:List Int):Nat→List Int
 | 0=>O
 | i+1=>roundM ws ((i:Int)+1) S (reqN ws S O i)
def wishM (L:List Ln) (S:List Sp):List Int:=reqN (L.map Ln.wt) S (L.map Ln.mi) L.length
theorem roundM_snoc {ws:List Int} {m:Int} {S:List Sp} {O:List Int} {j:Nat} {s:Sp} (h:S[j]?=some s):roundM ws m (S.take (j+1)) O=(if s.many=m then stepM ws (roundM ws m (S.take j) O) s else roundM ws m (S.take j) O):=by
 obtain ⟨hj,e⟩:=List.getElem?_eq_some_iff.1 h
 unfold roundM
 rw [List.take_succ_eq_append_getElem hj,e,List.foldl_append]
 rfl
theorem sum_addP:∀ {O P:List Int},P.length≤O.length→sumI (addP O P)=sumI O+sumI P
 | O,[],_=>by rw [addP_nil];simp [sumI]
 | [],p :: ps,h=>by simp at h
 | o :: os,p :: ps,h=>by
  have:=sum_addP (O:=os) (P:=ps) (by simpa using h)
  simp only [addP,sumI,this];omega
theorem sum_addAt {O P:List Int} {k:Nat} (h:k+P.length≤O.length):sumI (addAt O k P)=sumI O+sumI P:=by
 unfold addAt
 rw [sumI_append,sum_addP (by rw [List.length_drop];omega)]
 have:=sumI_append (O.take k) (O.drop k)
 rw [List.take_append_drop] at this
 omega
theorem nn_addP:∀ {O P:List Int},(∀ x ∈ O,0≤x)→(∀ x ∈ P,0≤x)→∀ x ∈ addP O P,0≤x
 | [],P,_,_,x,hx=>by simp [addP] at hx
 | o :: os,[],h,_,x,hx=>h x hx
 | o :: os,p :: ps,h,hp,x,hx=>by
  simp only [addP] at hx
  rcases List.mem_cons.1 hx with rfl | hx
  ·have:=h o List.mem_cons_self;have:=hp p List.mem_cons_self;omega
  ·exact nn_addP (fun y hy=>h y (List.mem_cons_of_mem _ hy)) (fun y hy=>hp y (List.mem_cons_of_mem _ hy)) x hx
theorem nn_addAt {O P:List Int} {k:Nat} (h:∀ x ∈ O,0≤x) (hp:∀ x ∈ P,0≤x):∀ x ∈ addAt O k P,0≤x:=fun x hx=>by
 unfold addAt at hx
 rcases List.mem_append.1 hx with hx | hx
 ·exact h x (List.mem_of_mem_take hx)
 ·exact nn_addP (fun y hy=>h y (List.mem_of_mem_drop hy)) hp x hx
theorem spread_nn {n:Int} {ws:List Int} (hn:0≤n) (h:wsOK ws):∀ y ∈ spreadM n ws,0≤y:=fun y hy=>by
 obtain ⟨k,hk,e⟩:=List.mem_iff_getElem.1 hy
 have hl:=spreadM_len (n:=n) (ws:=ws)
 obtain ⟨y',h1,h2,h3,_⟩:=spread_get hn h (List.getElem?_eq_getElem (show k<ws.length by omega))
 rw [List.getElem?_eq_getElem hk,e] at h1
 obtain rfl:=Option.some.inj h1
 exact h2
def Bd (n:Nat) (M:Int) (O:List Int):Prop:=O.length=n∧(∀ x ∈ O,0≤x)∧sumI O≤M
theorem seg_ok {ws:List Int} {a m:Nat} (hw:wsOK ws) (h1:1≤m) (h:a+m≤ws.length):wsOK (segI ws a m) :=
 ⟨fun x hx=>hw.1 x (segI_mem hx),by rw [segI_len h];exact h1,by rw [segI_len h];have:=hw.2.2;omega⟩
theorem Bd.each {n:Nat} {M:Int} {O:List Int} (h:Bd n M O) (hM:M≤1000000):∀ x ∈ O,0≤x∧x≤1000000:=fun x hx=>by
 have h1:=h.2.1 x hx
 have h2:=mem_le_sum h.2.1 x hx
 have:=h.2.2
 omega
theorem min_bd {L:List Ln} (h:linesB L=true):Bd L.length 150 (L.map Ln.mi)∧wsOK (L.map Ln.wt):=by
 simp only [linesB,Bool.and_eq_true,rng_iff,List.all_eq_true,lineB,wB] at h
 obtain ⟨⟨h1,h2⟩,h3⟩:=h
 have hm:∀ x ∈ L.map Ln.mi,0≤x∧x≤30:=fun x hx=>by
  obtain ⟨l,hl,rfl⟩:=List.mem_map.1 hx
  exact (h3 l hl).2
 have hs:=sumI_bd hm
 rw [List.length_map] at hs
 refine ⟨⟨by simp,fun x hx=>(hm x hx).1,by omega⟩,fun x hx=>?_,by simp;omega,by simp;omega⟩
 obtain ⟨l,hl,rfl⟩:=List.mem_map.1 hx
 exact (h3 l hl).1
def spanW (n:Nat) (s:Sp):Prop:=∃ a m:Nat,s.sa=a∧s.many=m∧1≤m∧a+m≤n∧0≤s.need∧s.need≤1000000000020
def spansW (n:Nat) (S:List Sp):Prop:=S.length≤10∧∀ s ∈ S,spanW n s
theorem step_bdW {n:Nat} {M:Int} {ws O:List Int} {s:Sp} (hw:wsOK ws) (hl:ws.length=n) (hs:spanW n s) (h:Bd n M O):Bd n (M+s.need) (stepM ws O s):=by
 obtain ⟨a,m,e1,e2,h1,h2,h3,h4⟩:=hs
 obtain ⟨hO,hnn,hsum⟩:=h
 have hseg:=seg_ok hw h1 (by omega:a+m≤ws.length)
 have hnn2:=sumI_nonneg (fun x hx=>hnn x (segI_mem (a:=a) (m:=m) hx))
 have mx1:=mx_spec (s.need - sumI (segI O a m)) 0
 have ea:s.sa.toNat=a:=by omega
 have em:s.many.toNat=m:=by omega
 unfold stepM
 rw [ea,em]
 have hn0:0≤mx (s.need - sumI (segI O a m)) 0:=by omega
 refine ⟨by rw [addAt_len];exact hO,nn_addAt hnn (spread_nn hn0 hseg),?_⟩
 rw [sum_addAt (by rw [spreadM_len,segI_len (by omega)];omega),spread_sum hn0 hseg]
 omega
def needOf (S:List Sp) (m:Int):Int:=sumI (S.map fun s=>if s.many=m then s.need else 0)
theorem needOf_snoc {S:List Sp} {j:Nat} {s:Sp} {m:Int} (h:S[j]?=some s):needOf (S.take (j+1)) m=needOf (S.take j) m+(if s.many=m then s.need else 0):=by
 obtain ⟨hj,e⟩:=List.getElem?_eq_some_iff.1 h
 unfold needOf
 rw [List.take_succ_eq_append_getElem hj,e,List.map_append,sumI_append]
 simp [sumI]
theorem round_bdW {n:Nat} {ws:List Int} {S:List Sp} {m:Int} (hw:wsOK ws) (hl:ws.length=n) (hs:∀ s ∈ S,spanW n s):∀ {M:Int} {O:List Int} (j:Nat),j≤S.length→Bd n M O→Bd n (M+needOf (S.take j) m) (roundM ws m (S.take j) O):=by
 intro M O j
 induction j with
 | zero=>intro _ h;simpa [roundM,needOf,sumI] using h
 | succ j ih =>
  intro hj h
  have hget:S[j]?=some S[j]:=List.getElem?_eq_getElem (by omega)
  have h1:=ih (by omega) h
  rw [roundM_snoc hget,needOf_snoc hget,<- Int.add_assoc]
  split
  ·exact step_bdW hw hl (hs _ (List.mem_of_getElem? hget)) h1
  ·rw [Int.add_zero];exact h1
def needTo (S:List Sp):Nat→Int
 | 0=>0
 | i+1=>needTo S i+needOf S ((i:Int)+1)
theorem req_bdW {n:Nat} {ws:List Int} {S:List Sp} {M:Int} {O:List Int} (hw:wsOK ws) (hl:ws.length=n) (hs:∀ s ∈ S,spanW n s) (h:Bd n M O):∀ i:Nat,Bd n (M+needTo S i) (reqN ws S O i)
 | 0=>by simpa [reqN,needTo] using h
 | i+1=>by
  have h1:=req_bdW hw hl hs h i
  have h2:=round_bdW (m:=(i:Int)+1) hw hl hs S.length (Nat.le_refl _) h1
  rw [List.take_length] at h2
  show Bd n (M+(needTo S i+needOf S ((i:Int)+1))) (roundM ws ((i:Int)+1) S (reqN ws S O i))
  rw [<- Int.add_assoc]
  exact h2
theorem needs_le {S:List Sp} {n:Nat} (hs:∀ s ∈ S,spanW n s):∀ i:Nat,needTo S i+(S.map fun s=>if s.many≤(i:Int) then 0 else s.need).foldr (·+·) 0≤(S.map fun s=>s.need).foldr (·+·) 0:=by
 intro i
 induction i with
 | zero =>
  simp only [needTo,Int.zero_add]
  induction S with
  | nil=>simp
  | cons s t ih =>
   obtain ⟨a,m,e1,e2,h1,h2,h3,h4⟩:=hs s List.mem_cons_self
   have:=ih (fun q hq=>hs q (List.mem_cons_of_mem _ hq))
   simp only [List.map_cons,List.foldr_cons]
   have p:¬ s.many≤((0:Nat):Int):=by omega
   rw [if_neg p]
   omega
 | succ i ih =>
  have ee:((i+1:Nat):Int)=(i:Int)+1:=by omega
  have e:needOf S ((i:Int)+1)+(S.map fun s=>if s.many≤(i:Int)+1 then 0 else s.need).foldr (·+·) 0=(S.map fun s=>if s.many≤(i:Int) then 0 else s.need).foldr (·+·) 0:=by
   clear ih hs
   induction S with
   | nil=>simp [needOf,sumI]
   | cons s t ih =>
    simp only [needOf,List.map_cons,sumI,List.foldr_cons] at ih ⊢
    by_cases h1:s.many≤(i:Int)
    ·have p1:s.many≤(i:Int)+1:=by omega
     have p2:¬ s.many=(i:Int)+1:=by omega
     rw [if_pos h1,if_pos p1,if_neg p2];omega
    ·by_cases h2:s.many=(i:Int)+1
     ·have p1:s.many≤(i:Int)+1:=by omega
      rw [if_neg h1,if_pos p1,if_pos h2];omega
     ·have p1:¬ s.many≤(i:Int)+1:=by omega
      rw [if_neg h1,if_neg p1,if_neg h2];omega
  rw [ee]
  simp only [needTo]
  omega
theorem needTo_bd {S:List Sp} {n:Nat} (hs:∀ s ∈ S,spanW n s) (i:Nat):needTo S i≤(S.map fun s=>s.need).foldr (·+·) 0:=by
 have h:=needs_le hs i
 have:0≤(S.map fun s=>if s.many≤(i:Int) then 0 else s.need).foldr (·+·) 0:=by
  clear h
  induction S with
  | nil=>simp
  | cons s t ih =>
   obtain ⟨a,m,e1,e2,h1,h2,h3,h4⟩:=hs s List.mem_cons_self
   have:=ih (fun q hq=>hs q (List.mem_cons_of_mem _ hq))
   simp only [List.map_cons,List.foldr_cons]
   split <;> omega
 omega
theorem needs_bd {S:List Sp} {n:Nat} {B:Int} (hB:0≤B) (hs:∀ s ∈ S,s.need≤B):(S.map fun s=>s.need).foldr (·+·) 0≤B*S.length:=by
 induction S with
 | nil=>simp
 | cons s t ih =>
  have h1:=hs s List.mem_cons_self
  have h2:=ih (fun q hq=>hs q (List.mem_cons_of_mem _ hq))
  simp only [List.map_cons,List.foldr_cons,List.length_cons]
  have e:B*((t.length+1:Nat):Int)=B*(t.length:Int)+B:=by rw [Int.natCast_add,Int.mul_add];simp
  omega
theorem Bd.eachW {n:Nat} {M:Int} {O:List Int} (h:Bd n M O) (hM:M≤100000000000000):∀ x ∈ O,0≤x∧x≤100000000000000:=fun x hx=>by
 have h1:=h.2.1 x hx
 have h2:=mem_le_sum h.2.1 x hx
 have:=h.2.2
 omega
theorem addP_zero:∀ {O P:List Int},(∀ x ∈ P,x=0)→addP O P=O
 | [],P,_=>by simp [addP]
 | o :: os,[],_=>rfl
 | o :: os,p :: ps,h=>by
  have:=h p List.mem_cons_self
  subst this
  simp [addP,addP_zero (fun x hx=>h x (List.mem_cons_of_mem _ hx))]
theorem addAt_zero {O P:List Int} {k:Nat} (h:∀ x ∈ P,x=0):addAt O k P=O:=by
 unfold addAt
 rw [addP_zero h,List.take_append_drop]
theorem spread_zero {ws:List Int} (h:wsOK ws):∀ x ∈ spreadM 0 ws,x=0:=fun y hy=>by
 obtain ⟨k,hk,e⟩:=List.mem_iff_getElem.1 hy
 have hl:=spreadM_len (n:=0) (ws:=ws)
 obtain ⟨y',h1,h2,h3,_⟩:=spread_get (Int.le_refl 0) h (List.getElem?_eq_getElem (show k<ws.length by omega))
 rw [List.getElem?_eq_getElem hk,e] at h1
 obtain rfl:=Option.some.inj h1
 omega
end
section
open Go.RowKit
set_option maxHeartbeats 1000000
attribute [local go_sem 5000] run_mx run_mn
attribute [local go_sem] growUpon_value growUpon_skip growUpon_enter
theorem cellI {w:World} {b:Nat} {cs:Array Value} {T:TypeId} {fz:Nat × Nat} (h:w.heap[b]?=some (.cells cs T fz)) (i:Nat):w.cell? ⟨b,i,none⟩=cs[i]?:=by simp [World.cell?,h]
theorem nopan_normal9 {Q:Exit→Act→World→Prop} {a:Act} {w:World} (h:Q .normal a w):NoPan Q .normal a w:=h
theorem below_grown {w w2 w':World} {g n:Nat} (hb:Below n w w2) (hg:w2.grownBy w' (some g)) (hle:n≤g) (hn:n≤w2.heap.size):Below n w w' :=
 ⟨hg.os.trans hb.os,hg.tape.trans hb.tape,hg.output.trans hb.output,Nat.le_trans hb.size hg.size,fun k hk=>(hg.block k (Nat.lt_of_lt_of_le hk hn) (fun e=>by have:=Option.some.inj e;omega)).trans (hb.block k hk)⟩
theorem sum_b (A:Option Addr) (c n:Nat) (L:List Int) (w:World) (h:NV w A L) (hn:n=L.length) (hL:n≤1048576) (hM:Smal 1000000000000000 L) :
  Calls Tryz.prog 210 #[.slice A n c] w fun e w'=>e=.returned (.int .i64 (sumI L))∧Below w.heap.size w w':=by
 refine (sum_n A c n L w h hn hL hM).mono ?_
 rintro e w1 ⟨rfl,rfl⟩
 exact ⟨rfl,Below.refl _ _⟩
theorem linesB_len {L:List Ln} (h:linesB L=true):1≤L.length∧L.length≤5:=by
 simp only [linesB,Bool.and_eq_true,rng_iff] at h
 omega
theorem seg_sum {O:List Int} {a m:Nat} (h:∀ x ∈ O,0≤x∧x≤100000000000000) (ham:a+m≤O.length) (h5:O.length≤5):0≤sumI (segI O a m)∧sumI (segI O a m)≤500000000000000∧Smal 1000000000000000 (segI O a m):=by
 have hs:∀ x ∈ segI O a m,0≤x∧x≤100000000000000:=fun x hx=>h x (segI_mem hx)
 have h1:=sumI_bd hs
 have h2:=segI_len ham
 rw [h2] at h1
 refine ⟨by omega,by omega,smal_of (b:=100000000000000) (fun x hx=>by have:=hs x hx;omega) (by omega) (by rw [h2];omega)⟩
theorem IB.seg {w:World} {g:Nat} {L:List Int} (h:IB w g L) (a m:Nat):NV w (some ⟨g,a,none⟩) (segI L a m):=by
 have:=NV.sub (off:=0) h.lt (fun i x hx=>by rw [Nat.zero_add];exact h.cell hx) a m
 rwa [Nat.zero_add] at this
theorem needOf_bd {S:List Sp} {n:Nat} (hs:∀ s ∈ S,spanW n s) (m:Int):needOf S m≤1000000000020*S.length:=by
 induction S with
 | nil=>simp [needOf,sumI]
 | cons s t ih =>
  obtain ⟨a,q,e1,e2,h1,h2,h3,h4⟩:=hs s List.mem_cons_self
  have:=ih (fun q hq=>hs q (List.mem_cons_of_mem _ hq))
  simp only [needOf,List.map_cons,sumI,List.length_cons] at this ⊢
  split <;> omega
theorem at_bd {L:List Ln} {S:List Sp} {k j:Nat} (hL:linesB L=true) (hS:spansW L.length S) (hk:k≤L.length) (hj:j≤S.length) :
  (roundM (L.map Ln.wt) ((k:Int)+1) (S.take j) (reqN (L.map Ln.wt) S (L.map Ln.mi) k)).length=L.length∧∀ x ∈ roundM (L.map Ln.wt) ((k:Int)+1) (S.take j) (reqN (L.map Ln.wt) S (L.map Ln.mi) k),0≤x∧x≤100000000000000:=by
 obtain ⟨hO,hW⟩:=min_bd hL
 obtain ⟨h8,hs⟩:=hS
 have hl:=(linesB_len hL).2
 have h1:=req_bdW (S:=S) hW (by simp) hs hO k
 have h2:=round_bdW (m:=(k:Int)+1) hW (by simp) hs j hj h1
 have b1:=needTo_bd hs k
 have b2:=needs_bd (B:=1000000000020) (n:=L.length) (by omega) (fun s h=>by obtain ⟨a,m,e1,e2,h1,h2,h3,h4⟩:=hs s h;exact h4)
 have b3:=needOf_bd (S:=S.take j) (fun s h=>hs s (List.mem_of_mem_take h)) ((k:Int)+1)
 have b4:(S.take j).length≤10:=by rw [List.length_take];omega
 exact ⟨h2.1,h2.eachW (by omega)⟩
theorem lineRequests_w (A:Option Addr) (c:Nat) (L:List Ln) (A':Option Addr) (c':Nat) (S:List Sp) (w:World) (h:LnV w A L) (hL:linesB L=true) (h':SpV w A' S) (hS:spansW L.length S) :
  Calls Tryz.prog 209 #[.slice A L.length c,.slice A' S.length c'] w fun e w'=>e=.returned (.slice (some ⟨w.heap.size,0,none⟩) L.length L.length)∧IB w' w.heap.size (wishM L S)∧Below w.heap.size w w':=by
 obtain ⟨hl1,hl5⟩:=linesB_len hL
 obtain ⟨hs8,hsa⟩:=id hS
 have hww:=(min_bd hL).2
 have HL:=hD hL
 have HS:=hD hS
 have HSA:=hD hsa
 have HWW:=hD hww
 clear hL hS hsa hww
 go_enter Tryz.func209,Tryz.ntmps209
 go_wp2_with fail
 with_reducible refine (each_least A c L _ h (by omega)).mono ?_
 rintro e w1 ⟨rfl,hI1,hb1⟩
 have HLV:=hD (h.keep hb1)
 go_wp2_with fail
 with_reducible refine (each_weight A c L _ HLV.out (by omega)).mono ?_
 rintro e w2 ⟨rfl,hI2,hb2⟩
 have HI:=hD (hI1.keep hb2)
 have HB:=hD (bkeep2 hb1 hb2)
 have hg:w.heap.size<w1.heap.size:=hI1.lt
 clear HLV hb1 hb2 hI1
 generalize w1.heap.size=g2 at hI2 hg ⊢
 have HW:=hD hI2
 clear hI2
 go_wp2_with fail
 go_loopw [18] (fun i wr=>∃ k:Nat,k≤L.length∧i=.int .i64 k∧IB wr w.heap.size (reqN (L.map Ln.wt) S (L.map Ln.mi) k)∧IB wr g2 (L.map Ln.wt)∧Below w.heap.size w wr) (fun i _=>L.length - (intOf i).toNat)
 case atStart=>exact ⟨0,by omega,rfl,HI.out,HW.out,HB.out⟩
 case round =>
  obtain ⟨k,hk,rfl,hI,hWr,hBr⟩:=hrel
  clear HI HW HB
  by_cases hlt:k<L.length
  ·have hd:decide ((k:Int)<(L.length:Int))=true:=by simpa using hlt
   have HI:=hD hI
   have HW:=hD hWr
   have HB:=hD hBr
   clear hI hWr hBr
   go_wp2_with fail
   go_loopw [23] (fun i wr=>∃ j:Nat,j≤S.length∧i=.int .i64 j∧IB wr w.heap.size (roundM (L.map Ln.wt) ((k:Int)+1) (S.take j) (reqN (L.map Ln.wt) S (L.map Ln.mi) k))∧IB wr g2 (L.map Ln.wt)∧Below w.heap.size w wr) (fun i _=>S.length - (intOf i).toNat)
   case atStart=>exact ⟨0,by omega,rfl,HI.out,HW.out,HB.out⟩
   case round =>
    obtain ⟨j,hj,rfl,hI,hWr,hBr⟩:=hrel
    clear HI HW HB
    by_cases hjl:j<S.length
    ·have hd2:decide ((j:Int)<(S.length:Int))=true:=by simpa using hjl
     obtain ⟨b',off,rfl,hb',hp⟩:=(h'.keep hBr).cells (by omega)
     have hget:S[j]?=some S[j]:=List.getElem?_eq_getElem hjl
     obtain ⟨c0,c1,c2⟩:=hp j _ hget
     have hsp:=HSA.out _ (List.mem_of_getElem? hget)
     have hro:=roundM_snoc (ws:=L.map Ln.wt) (m:=(k:Int)+1) (O:=reqN (L.map Ln.wt) S (L.map Ln.mi) k) hget
     obtain ⟨a,m,e1,e2,hm1,ham,hn0,hn50⟩:=hsp
     obtain ⟨hol,hob⟩:=at_bd HL.out HS.out hk hj
     generalize S[j]=s at *
     obtain ⟨sa,many,need⟩:=s
     dsimp only at e1 e2 hn0 hn50 c0 c1 c2
     subst e1 e2
     generalize roundM (L.map Ln.wt) ((k:Int)+1) (S.take j) (reqN (L.map Ln.wt) S (L.map Ln.mi) k)=O at *
     have HI:=hD hI
     have HW:=hD hWr
     have HB:=hD hBr
     have HOB:=hD hob
     have HOL:=hD hol
     clear hI hWr hBr hp hget hob hol
     by_cases hmk:(m:Int)=(k:Int)+1
     ·have hz:((m:Int) == (k:Int)+1)=true:=by simpa using hmk
      have hmn:m=k+1:=by omega
      subst hmn
      have HRO:=hD hro
      clear hro
      have hal:¬ L.length=a:=by omega
      have hq1:0≤(a:Int)+((k:Int)+1):=by omega
      have hq2:(a:Int)+((k:Int)+1)≤(L.length:Int):=by omega
      have hq3:((a:Int)+((k:Int)+1)).toNat=a+(k+1):=by omega
      have hq4:a≤a+(k+1):=by omega
      have hq5:a+(k+1) - a=k+1:=by omega
      obtain ⟨hm0,hm5,hsm⟩:=seg_sum HOB.out (a:=a) (m:=k+1) (by rw [HOL.out];exact ham) (by rw [HOL.out];exact hl5)
      have HSM:=hD hsm
      have HSL:=hD (segI_len (O:=O) (a:=a) (m:=k+1) (by rw [HOL.out];exact ham)).symm
      clear hz hsm
      have hz:(((k+1:Nat):Int) == (k:Int)+1)=true:=by simp
      go_wp2_with fail
      refine wp_region_grow 9 1 (·<9) (by kernel_rfl) (by kernel_rfl) rfl ?_
      iterate 9 (refine wpG_step (fun K hK=>?_);first | (refine grow_skip rfl ?_;go_simp;refine hK _ ?_;clear hK K) | (apply Exists.intro;refine ⟨.inl ⟨rfl,fun w' hw'=>?_⟩,?_⟩;(focus ((obtain ⟨hc,hf⟩:=bcell hw'.out);(have hcS:=bcellS hw'.out);go_simp <;> first | rfl | (go_at_call 210;exact sum_b _ _ (k+1) (segI O a (k+1)) _ ((HI.out.keep (bkeep2 (balloc (Below.refl _ _)) (bdrewn hw'.out))).seg a (k+1)) HSL.out (by omega) HSM.out)));(go_simp;refine hK _ ?_;clear hK K)))
      refine wpG_nil ?_
      refine wpK_tail (by kernel_rfl) (fun w3 hg3=>?_)
      have hb3:=bdrewn hg3.out
      obtain ⟨hc3,hf3⟩:=bcell hb3
      refine wpAny_one (i:=9) (by kernel_rfl) rfl rfl ?_
      go_simp
      refine wpAny_end (by kernel_rfl) ?_
      refine NoPan.thn ?_
      clear hc3 hf3
      clear hg3
      have hx:w3.heap[wr.heap.size]?=some (.cells #[.int .i64 (a:Int),.int .i64 ((k:Int)+1),.int .i64 need] 200 (0,0)):=(hb3.block _ (by simp)).trans (heap_alloc_new _ _)
      have HI3:=hD (HI.out.keep (bkeep2 (balloc (Below.refl _ _)) hb3))
      have HW3:=hD (HW.out.keep (bkeep2 (balloc (Below.refl _ _)) hb3))
      have HB3:=hD (bkeep2 (balloc HB.out) hb3)
      have hxl:=(gE hx).1
      obtain ⟨x0,x1,x2⟩:w3.cell? ⟨wr.heap.size,0,none⟩=some (.int .i64 (a:Int))∧w3.cell? ⟨wr.heap.size,1,none⟩=some (.int .i64 ((k:Int)+1))∧w3.cell? ⟨wr.heap.size,2,none⟩=some (.int .i64 need):=⟨cellI hx 0,cellI hx 1,cellI hx 2⟩
      obtain ⟨q,hqe⟩:∃ q,sumI (segI O a (k+1))=q:=⟨_,rfl⟩
      rw [hqe] at hm0 hm5
      rw [hqe]
      have HQ:=hD hqe
      have mx1:=mx_spec (need - q) 0
      have hmx0:0≤mx (need - q) 0:=by omega
      have hmx1:mx (need - q) 0≤100000000000000:=by omega
      have hqw:IntKind.i64.wrap (need - q)=need - q:=IntWalk.i64_in _ (by omega)
      clear HI HW HB hb3 hx hqe c0 c1 c2 mx1
      generalize wr.heap.size=bx at *
      go_wp2_with fail
      refine wp_region_grow 12 1 (·<12) (by kernel_rfl) (by kernel_rfl) rfl ?_
      iterate 12 (refine wpG_step (fun K hK=>?_);first | (refine grow_skip rfl ?_;go_simp;refine hK _ ?_;clear hK K) | (apply Exists.intro;refine ⟨.inl ⟨rfl,fun w' hw'=>?_⟩,?_⟩;(focus ((obtain ⟨hc,hf⟩:=bcell hw'.out);(have hcS:=bcellS hw'.out);go_simp <;> rfl));(go_simp;refine hK _ ?_;clear hK K)))
      refine wpG_nil ?_
      refine wpK_tail (by kernel_rfl) (fun w4 hg4=>?_)
      have hb4:=bdrewn hg4.out
      refine wpAny_one (i:=12) (by kernel_rfl) rfl rfl ?_
      go_simp
      have HI4:=hD (HI3.out.keep hb4)
      have HW4:=hD (HW3.out.keep hb4)
      have HB4:=hD (bkeep2 HB3.out hb4)
      clear HI3 HW3 HB3 hb4 hg4 x0 x1 x2
      have hsl:k+1=(segI (L.map Ln.wt) a (k+1)).length:=(segI_len (by rw [List.length_map];exact ham)).symm
      refine (enlarge_v w.heap.size a (k+1) _ _ _ O (segI (L.map Ln.wt) a (k+1)) _ _ HI4.out hsl (by rw [HOL.out];exact ham) HOB.out (HW4.out.seg a (k+1)) (seg_ok HWW.out (by omega) (by rw [List.length_map];exact ham)) hmx0 hmx1).mono ?_
      rintro e w5 ⟨⟨v,rfl⟩,hi5,hg5⟩
      have HW5:=hD (HW4.out.but hg5 (by omega))
      have HB5:=hD (below_grown HB4.out hg5 (Nat.le_refl _) HB4.out.size)
      have hst:stepM (L.map Ln.wt) O ⟨(a:Int),((k+1:Nat):Int),need⟩=addAt O a (spreadM (mx (need - q) 0) (segI (L.map Ln.wt) a (k+1))):=by
       unfold stepM
       rw [<- HQ.out]
       rfl
      rw [<- hst] at hi5
      have HI5:=hD hi5
      clear hi5 hst hg5 HI4 HW4 HB4
      dsimp only
      refine wpAny_end (by kernel_rfl) ?_
      refine nopan_normal9 ?_
      go_wp2
      go_roundw
      case rel=>exact ⟨j+1,by omega,by go_num,by rw [HRO.out,if_pos (by simp)];exact HI5.out,HW5.out,HB5.out⟩
      case measure=>simp [intOf];omega
     ·have hz:((m:Int) == (k:Int)+1)=false:=by simpa using hmk
      rw [if_neg hmk] at hro
      have HRO:=hD hro
      have HB:=hD (balloc (o:=(.cells #[.int .i64 (a:Int),.int .i64 (m:Int),.int .i64 need] 200 (0,0))) HB.out)
      have HI:=hD (HI.out.keep (balloc (o:=(.cells #[.int .i64 (a:Int),.int .i64 (m:Int),.int .i64 need] 200 (0,0))) (Below.refl _ _)))
      have HW:=hD (HW.out.keep (balloc (o:=(.cells #[.int .i64 (a:Int),.int .i64 (m:Int),.int .i64 need] 200 (0,0))) (Below.refl _ _)))
      clear hro
      go_wp2
      go_roundw
      case rel=>exact ⟨j+1,by omega,by go_num,by rw [HRO.out];exact HI.out,HW.out,HB.out⟩
      case measure=>simp [intOf];omega
    ·have hd2:decide ((j:Int)<(S.length:Int))=false:=decide_eq_false (by omega)
     have he:S.take j=S:=List.take_of_length_le (by omega)
     rw [he] at hI
     have HI:=hD hI
     have HW:=hD hWr
     have HB:=hD hBr
     clear hI hWr hBr he
     go_wp2
     go_roundw
     case rel=>exact ⟨k+1,by omega,by go_num,HI.out,HW.out,HB.out⟩
     case measure=>simp [intOf];omega
  ·have hd:decide ((k:Int)<(L.length:Int))=false:=decide_eq_false (by omega)
   obtain rfl:k=L.length:=by omega
   have HI:=hD hI
   have HB:=hD hBr
   clear hI hBr hWr
   go_wp2
   go_ret
   exact ⟨rfl,HI.out,HB.out⟩
theorem wish_bdW {L:List Ln} {S:List Sp} (hL:linesB L=true) (hS:spansW L.length S):Bd L.length (150+(S.map fun s=>s.need).foldr (·+·) 0) (wishM L S):=by
 obtain ⟨hO,hW⟩:=min_bd hL
 have h1:=req_bdW (S:=S) hW (by simp) hS.2 hO L.length
 have b1:=needTo_bd hS.2 L.length
 exact ⟨h1.1,h1.2.1,by have:=h1.2.2;show sumI (reqN _ _ _ _)≤_;omega⟩
theorem wish_smalW {L:List Ln} {S:List Sp} (hL:linesB L=true) (hS:spansW L.length S):Smal 1000000000000000 (wishM L S)∧(wishM L S).length=L.length:=by
 have h:=wish_bdW hL hS
 have hl:=(linesB_len hL).2
 have b2:=needs_bd (n:=L.length) (S:=S) (B:=1000000000020) (by omega) (fun s h=>by obtain ⟨a,m,e1,e2,h1,h2,h3,h4⟩:=hS.2 s h;exact h4)
 have hS8:=hS.1
 have hx:=h.eachW (by omega)
 exact ⟨smal_of (b:=100000000000000) (fun x hx'=>by have:=hx x hx';omega) (by omega) (by rw [h.1];omega),h.1⟩
end
section
open Go.RowKit
set_option maxHeartbeats 1000000
def nvalsW (L:List Int):List Value:=L.map (Value.int .i64)
theorem nvalsW_snoc (L:List Int) (x:Int):nvalsW L ++ [.int .i64 x]=nvalsW (L ++ [x]):=by simp [nvalsW]
def OB (w:World) (g cap:Nat) (L:List Int):Prop:=L.length≤cap∧∃ cs:Array Value,w.heap[g]?=some (.cells cs 3 (0,0))∧cs.size=cap∧∀ (i:Nat) (x:Int),L[i]?=some x→cs[i]?=some (Value.int .i64 x)
theorem OB.lt {w:World} {g cap:Nat} {L:List Int} (h:OB w g cap L):g<w.heap.size:=by obtain ⟨_,cs,hh,_⟩:=h;exact ltS hh
theorem OB.keep {w w':World} {g cap:Nat} {L:List Int} (h:OB w g cap L) (hb:Below w.heap.size w w'):OB w' g cap L:=by
 obtain ⟨hl,cs,hh,hs,hc⟩:=h
 exact ⟨hl,cs,(hb.block g (ltS hh)).trans hh,hs,hc⟩
theorem OB.cell {w:World} {g cap i:Nat} {L:List Int} {x:Int} (h:OB w g cap L) (hx:L[i]?=some x):w.cell? ⟨g,i,none⟩=some (.int .i64 x):=by
 obtain ⟨hl,cs,hh,hs,hc⟩:=h
 exact (cellS hh i).trans (hc i x hx)
theorem OB.frozen {w:World} {g cap:Nat} {L:List Int} (h:OB w g cap L) (i:Nat):w.frozen? ⟨g,i,none⟩=false:=by
 obtain ⟨hl,cs,hh,hs,hc⟩:=h
 exact frozenS hh i
theorem OB.set {w:World} {g cap:Nat} {L:List Int} (h:OB w g cap L) (i:Nat) (y:Int) (hi:i<L.length):OB (w.setCell ⟨g,i,none⟩ (.int .i64 y)) g cap (L.set i y):=by
 obtain ⟨hl,cs,hh,hs,hc⟩:=h
 refine ⟨by rw [List.length_set];exact hl,_,putS hh _,by simp [hs],fun k x hk=>?_⟩
 by_cases e:i=k
 ·subst e
  rw [List.getElem?_set_self hi] at hk
  obtain rfl:=Option.some.inj hk
  rw [Array.getElem?_setIfInBounds_self_of_lt (by omega)]
 ·rw [List.getElem?_set_ne e] at hk
  rw [Array.getElem?_setIfInBounds_ne e]
  exact hc k x hk
theorem OB.nv {w:World} {g cap:Nat} {L:List Int} (h:OB w g cap L):NV w (some ⟨g,0,none⟩) L :=
 ⟨fun _=>⟨g,0,rfl,h.lt,fun i x hx=>by rw [Nat.zero_add];exact h.cell hx⟩⟩
theorem own_inW {w:World} {base n:Nat} {v:Value} {M:List Int} (h:w.ownsRow base 3 1 v n (nvalsW M)) (hn:n=M.length) :
  (v=.slice none 0 0∧M=[]) ∨ ∃ g cap,v=.slice (some ⟨g,0,none⟩) n cap∧base≤g∧OB w g cap M:=by
 rcases h.2 with ⟨rfl,h0⟩ | ⟨g,cap,cur,rfl,hb,hg,hc,_,hs,ht⟩
 ·exact .inl ⟨rfl,List.length_eq_zero_iff.1 (by omega)⟩
 ·refine .inr ⟨g,cap,rfl,hb,by omega,cur,hg,by omega,fun i x hx=>?_⟩
  have e:(nvalsW M)[i]?=some (Value.int .i64 x):=by simp [nvalsW,hx]
  have hi:=(List.getElem?_eq_some_iff.1 hx).1
  rw [<- ht,List.getElem?_take] at e
  rw [if_pos (by omega)] at e
  simpa using e
theorem int_infoW:∃ (i:TypeInfo) (z:Value),Tryz.prog.info? 3=some i∧i.zero=some z∧i.size=1∧i.bytes=8∧z.cells.size=1:=by
 have hinfo:(Tryz.prog.info? 3).map (fun i=>(i.zero,i.size,i.bytes))=some (some (.int .i64 0),1,8):=by kernel_rfl
 obtain ⟨i,hi,h1,h2,h3⟩:=info_parts hinfo
 exact ⟨i,_,hi,h1,h2,h3,rfl⟩
theorem newW (W:World) (x:Int) (T:TypeId):∀ (j:Nat) (u:Value),[Value.int .i64 x][j]?=some u→(W.alloc (.cells #[.int .i64 x] T)).cell? ((⟨W.heap.size,0,none⟩:Addr).add j)=some u:=fun j u h=>by
 have hadd:(⟨W.heap.size,0,none⟩:Addr).add j=⟨W.heap.size,j,none⟩:=by unfold Addr.add;split <;> simp_all
 rw [hadd]
 exact (cellS (newS W _) j).trans (by simpa using h)
theorem below_own {n:Nat} {a W w5:World} {v:Value} {o:Obj} {lo hi:Nat} (h:Below n a W) (hg:(W.alloc o).grownBy w5 v.ownBlock) (hob:∀ k,v.ownBlock=some k→lo≤k∧k<hi) (hlo:n≤lo) (hn:n≤a.heap.size):Below n a w5 :=
 have h':Below n a (W.alloc o):=h.alloc (Nat.le_trans hn h.size) o
 ⟨hg.os.trans h'.os,hg.tape.trans h'.tape,hg.output.trans h'.output,Nat.le_trans h'.size hg.size,fun k hk=>(hg.block k (Nat.lt_of_lt_of_le (Nat.lt_of_lt_of_le hk hn) h'.size) (fun e=>by have:=hob k e.symm;omega)).trans (h'.block k hk)⟩
end
section
open Go.RowKit
set_option maxHeartbeats 1000000
attribute [local go_sem 5000] run_mx run_mn
attribute [local go_sem] growUpon_value growUpon_skip growUpon_enter
theorem OB.seg {w:World} {g cap:Nat} {L:List Int} (h:OB w g cap L) (a m:Nat):NV w (some ⟨g,a,none⟩) (segI L a m):=by
 have:=NV.sub (off:=0) h.lt (fun i x hx=>by rw [Nat.zero_add];exact h.cell hx) a m
 rwa [Nat.zero_add] at this
theorem LnV.sub {w:World} {b off:Nat} {L:List Ln} (hb:b<w.heap.size) (h:∀ i p,L[i]?=some p→w.cell? ⟨b,off+i*2,none⟩=some (.int .i64 p.wt)∧w.cell? ⟨b,off+i*2+1,none⟩=some (.int .i64 p.mi)) (i j:Nat):LnV w (some ⟨b,off+i*2,none⟩) ((L.drop i).take j) :=
 ⟨fun _=>⟨b,off+i*2,rfl,hb,fun k x hx=>by
  rw [List.getElem?_take] at hx
  split at hx
  ·rw [List.getElem?_drop] at hx
   have:=h (i+k) x hx
   rwa [show off+(i+k)*2=off+i*2+k*2 from by omega] at this
  ·cases hx⟩⟩
theorem take_snocF {α:Type} {f:α→Int} {L:List α} {k:Nat} {x:α} (h:L[k]?=some x):(L.map f).take (k+1)=(L.map f).take k ++ [f x]:=by
 obtain ⟨hk,e⟩:=List.getElem?_eq_some_iff.1 h
 rw [List.take_succ_eq_append_getElem (by simpa using hk)]
 simp [e]
theorem weightsOf_v (A:Option Addr) (c n:Nat) (L:List Ln) (w:World) (h:LnV w A L) (hn:n=L.length) (hL:L.length≤8) :
  Calls Tryz.prog 171 #[.slice A n c] w fun e w'=>(∃ A' c',e=.returned (.slice A' n c')∧NV w' A' (L.map Ln.wt))∧Below w.heap.size w w':=by
 subst hn
 obtain ⟨ti,tz,ti1,ti2,ti3,ti4,ti5⟩:=int_infoW
 go_enter Tryz.func171,Tryz.ntmps171
 go_wp2_with fail
 have ho0:(w.alloc (.cells #[] 3 (0,0))).ownsRow w.heap.size 3 1 (.slice (some ⟨w.heap.size,0,none⟩) 0 0) 0 (nvalsW []):=World.ownsRow_lit (base:=w.heap.size) (e:=3) (size:=1) w #[] 0 (Nat.le_refl _) (by decide) rfl
 have HO:=hD ho0
 have HB:=hD (balloc (o:=(.cells #[] 3 (0,0))) (Below.refl w.heap.size w))
 clear ho0
 go_loopw [3,4] (fun out i wr=>∃ k:Nat,k≤L.length∧i=.int .i64 k∧wr.ownsRow w.heap.size 3 1 out k (nvalsW ((L.map Ln.wt).take k))∧Below w.heap.size w wr) (fun _ i _=>L.length - (intOf i).toNat)
 case atStart=>exact ⟨0,by omega,rfl,HO.out,HB.out⟩
 case round =>
  obtain ⟨k,hk,rfl,ho,hB⟩:=hrel
  clear HO HB
  by_cases hlt:k<L.length
  ·have hd:decide ((k:Int)<(L.length:Int))=true:=by simpa using hlt
   obtain ⟨b,off,rfl,hb,hp⟩:=(h.keep hB).cells (by omega)
   have hget:L[k]?=some L[k]:=List.getElem?_eq_getElem hlt
   obtain ⟨c0,c1⟩:=hp k _ hget
   have hts:=take_snocF (f:=Ln.wt) hget
   generalize L[k]=x at *
   have hob:=ho.lt
   have hw3:w.heap.size≤wr.heap.size:=hB.size
   have HO:=hD ho
   have HB:=hD hB
   have HTS:=hD hts
   clear ho hB hts hp hget
   go_wp2_with (at_builtin;refine wpList_append_own _ rfl _ _ 37 rfl w.heap.size 3 ti tz 1 8 Tryz.underlying37 ti1 ti2 ti3 ti4 ti5 (by decide) _ _ _ rfl (HO.out.alloc _) ⟨wr.heap.size,0,none⟩ 1 1 [.int .i64 x.wt] rfl rfl (newW _ _ _) (by simp [Value.oneCell']) (by simp only [maxLen];omega) (by omega) (by simp;omega) ?_)
   intro v5 w5 how5 hgr5 _
   rw [nvalsW_snoc,<- HTS.out] at how5
   replace HB:=hD (below_own HB.out hgr5 hob (Nat.le_refl _) (Nat.le_refl _))
   replace HO:=hD how5
   clear how5 hgr5 hob c0 c1
   go_wp2
   go_roundw
   case rel=>exact ⟨k+1,by omega,by go_num,by simpa using HO.out,HB.out⟩
   case measure=>simp [intOf];omega
  ·have hd:decide ((k:Int)<(L.length:Int))=false:=decide_eq_false (by omega)
   obtain rfl:k=L.length:=by omega
   have he:(L.map Ln.wt).take L.length=L.map Ln.wt:=List.take_of_length_le (by simp)
   rw [he] at ho
   have HB:=hD hB
   rcases own_inW ho (by simp) with ⟨rfl,hM⟩ | ⟨g,cap,rfl,hbg,hO⟩
   ·have hL0:L.length=0:=by simpa using congrArg List.length hM
    have HM:=hD hM
    have HL0:=hD hL0
    clear ho hB hM hL0 he
    go_wp2
    go_ret
    exact ⟨⟨none,0,by rw [HL0.out];rfl,⟨fun h0=>absurd h0 (by rw [HM.out];simp)⟩⟩,HB.out⟩
   ·have HO:=hD hO.nv
    clear ho hB hO he
    go_wp2
    go_ret
    exact ⟨⟨_,cap,rfl,HO.out⟩,HB.out⟩
end
section
open Go.RowKit
set_option linter.unusedSimpArgs false
set_option maxHeartbeats 4000000
theorem own_bw {w w':World} {base:Nat} {e:TypeId} {size:Nat} {v:Value} {n:Nat} {xs:List Value} (h:w.ownsRow base e size v n xs) (hb:Below w.heap.size w w'):w'.ownsRow base e size v n xs :=
 h.kept (row:=none) ⟨hb.os,hb.tape,hb.output,hb.size,fun k hk _=>hb.block k hk⟩ (by cases v.ownBlock <;> simp)
def idsN (f:Nat→Bool) (n:Nat):List Nat:=(List.range n).filter f
def idsM (f:Nat→Bool) (n:Nat):List Int:=(idsN f n).map (fun (k:Nat)=>(k:Int))
theorem idsM_yes {f:Nat→Bool} {k:Nat} (h:f k=true):idsM f (k+1)=idsM f k ++ [(k:Int)]:=by simp [idsM,idsN,List.range_succ,List.filter_append,h]
theorem idsM_no {f:Nat→Bool} {k:Nat} (h:f k=false):idsM f (k+1)=idsM f k:=by simp [idsM,idsN,List.range_succ,List.filter_append,h]
theorem idsM_len (f:Nat→Bool) (k:Nat):(idsM f k).length≤k:=by
 unfold idsM idsN
 rw [List.length_map]
 exact Nat.le_trans (List.length_filter_le _ _) (by simp)
def KdV (w:World) (v:Value) (L:List Int):Prop:=∃ A c,v=.slice A L.length c∧NV w A L∧L.length≤c
theorem KdV.keep {w w':World} {v:Value} {L:List Int} (h:KdV w v L) (hb:Below w.heap.size w w'):KdV w' v L:=let ⟨A,c,e,q,hc⟩:=h;⟨A,c,e,q.keep hb,hc⟩
theorem KdV.of {w:World} {base:Nat} {v:Value} {L:List Int} (h:w.ownsRow base 3 1 v L.length (nvalsW L)):KdV w v L:=by
 rcases own_inW h rfl with ⟨rfl,hM⟩ | ⟨g,cap,rfl,hbg,hO⟩
 ·exact ⟨none,0,by rw [hM];rfl,⟨fun h0=>absurd h0 (by rw [hM];simp)⟩,by rw [hM];simp⟩
 ·exact ⟨_,cap,rfl,hO.nv,hO.1⟩
end
section
open Go.RowKit
set_option linter.unusedSimpArgs false
set_option maxHeartbeats 4000000
attribute [local go_sem] growUpon_value growUpon_skip growUpon_enter
def isKid (R:List Nr) (i:Int) (k:Nat):Bool:=match R[k]? with
 | some p=>p.n.pa == i
 | none=>false
def kidsN (R:List Nr) (i:Int):List Nat:=idsN (isKid R i) R.length
def kidsM (R:List Nr) (i:Int):List Int:=idsM (isKid R i) R.length
theorem isKid_at {R:List Nr} {i:Int} {k:Nat} {p:Nr} (h:R[k]?=some p):isKid R i k=(p.n.pa == i):=by unfold isKid;rw [h]
theorem kid1_v (A:Option Addr) (c:Nat) (R:List Nr) (i:Int) (k bt bi:Nat) (w:World) (h:NrV w A R) (hk:k<R.length) (ht:w.cell? ⟨bt,0,none⟩=some (.slice A R.length c)) (hi:w.cell? ⟨bi,0,none⟩=some (.int .i64 i)) (lt:bt<w.heap.size) (li:bi<w.heap.size) (hL:R.length≤1048576) :
  Calls Tryz.prog 106 #[.int .i64 (k:Int),.pointer (some ⟨bt,0,none⟩),.pointer (some ⟨bi,0,none⟩)] w fun e w'=>e=.returned (.bool (isKid R i k))∧Below w.heap.size w w':=by
 have hget:R[k]?=some R[k]:=List.getElem?_eq_getElem hk
 obtain ⟨b,off,rfl,hb,hp⟩:=h.cells (by omega)
 have x0:w.cell? ⟨b,off+k*34,none⟩=some (.int .i64 R[k].n.pa):=hp k _ hget 0 _ rfl
 rw [isKid_at hget]
 generalize R[k]=p at *
 have hd1:(k:Int)<(R.length:Int):=by omega
 clear hget hp h
 go_enter Tryz.func106,Tryz.ntmps106
 go_wp2_with fail
 refine wp_region_grow 8 1 (·<8) (by kernel_rfl) (by kernel_rfl) rfl ?_
 iterate 8 (refine wpG_step (fun K hK=>?_);first | (refine grow_skip rfl ?_;go_simp;refine hK _ ?_;clear hK K) | (apply Exists.intro;refine ⟨.inl ⟨rfl,fun w' hw'=>?_⟩,?_⟩;(focus ((obtain ⟨hc,hf⟩:=bcell hw'.out);(have hcS:=bcellS hw'.out);go_simp <;> first | rfl));(go_simp;refine hK _ ?_;clear hK K)))
 refine wpG_nil ?_
 refine wpK_tail (by kernel_rfl) (fun wa hga=>?_)
 have hba:=bdrewn hga.out
 obtain ⟨hca,hfa⟩:=bcell hba
 refine wpAny_one (i:=8) (by kernel_rfl) rfl rfl ?_
 go_simp
 refine wpAny_end (by kernel_rfl) ?_
 refine NoPan.thn ?_
 clear hca hfa
 clear hga
 go_wp2
 go_ret
 exact ⟨rfl,hba⟩
end
end Go.Proofs.YtenckjdiggaonaaGreat
