import Derived.Test.YtenckjdiggaonaaGreatQu07
set_option linter.unusedVariables false
set_option linter.unusedSimpArgs false
set_option maxRecDepth 100000
set_option maxHeartbeats 16000000
namespace Go.Proofs.YtenckjdiggaonaaGreat
open Go.RowKit
attribute [local go_sem] growUpon_value growUpon_skip growUpon_enter
section
attribute [local go_sem 5000] run_mx run_mn
theorem cellI {w:World} {b:Nat} {cs:Array Value} {T:TypeId} {fz:Nat × Nat} (h:w.heap[b]?=some (.cells cs T fz)) (i:Nat):w.cell? ⟨b,i,none⟩=cs[i]?:=by simp [World.cell?,h]
theorem nopan_normal9 {Q:Exit→Act→World→Prop} {a:Act} {w:World} (h:Q .normal a w):NoPan Q .normal a w:=h
theorem below_grown {w w2 w':World} {g n:Nat} (hb:Below n w w2) (hg:w2.grownBy w' (some g)) (hle:n≤g) (hn:n≤w2.heap.size):Below n w w' :=
 ⟨hg.os.trans hb.os,hg.tape.trans hb.tape,hg.output.trans hb.output,Nat.le_trans hb.size hg.size,fun k hk=>(hg.block k (Nat.lt_of_lt_of_le hk hn) (fun e=>by have:=Option.some.inj e;omega)).trans (hb.block k hk)⟩
theorem sum_b (A:Option Addr) (c n:Nat) (L:List Int) (w:World) (h:NV w A L) (hn:n=L.length) (hL:n≤1048576) (hM:Smal 1000000000000000 L) :
  Calls Tryz.prog 210 #[.slice A n c] w fun e w'=>e=.returned (.int .i64 (sumI L))∧Below w.heap.size w w':=by
 refine (sum_n A c n L w h hn hL hM).mono ?_;rintro e w1 ⟨rfl,rfl⟩;exact ⟨rfl,Below.refl _ _⟩
theorem linesB_len {L:List Ln} (h:linesB L=true):1≤L.length∧L.length≤5:=by
 simp only [linesB,Bool.and_eq_true,rng_iff] at h;omega
theorem seg_sum {O:List Int} {a m:Nat} (h:∀ x ∈ O,0≤x∧x≤100000000000000) (ham:a+m≤O.length) (h5:O.length≤5):0≤sumI (segI O a m)∧sumI (segI O a m)≤500000000000000∧Smal 1000000000000000 (segI O a m):=by
 have hs:∀ x ∈ segI O a m,0≤x∧x≤100000000000000:=fun x hx=>h x (segI_mem hx)
 have h1:=sumI_bd hs;have h2:=segI_len ham;rw [h2] at h1;refine ⟨by omega,by omega,smal_of (b:=100000000000000) (fun x hx=>by have:=hs x hx;omega) (by omega) (by rw [h2];omega)⟩
theorem IB.seg {w:World} {g:Nat} {L:List Int} (h:IB w g L) (a m:Nat):NV w (some ⟨g,a,none⟩) (segI L a m):=by
 have:=NV.sub (off:=0) h.lt (fun i x hx=>by rw [Nat.zero_add];exact h.cell hx) a m
 rwa [Nat.zero_add] at this
theorem needOf_bd {S:List Sp} {n:Nat} (hs:∀ s ∈ S,spanW n s) (m:Int):needOf S m≤1000000000020*S.length:=by
 induction S with
 | nil=>simp [needOf,sumI]
 | cons s t ih =>
  obtain ⟨a,q,e1,e2,h1,h2,h3,h4⟩:=hs s List.mem_cons_self
  have:=ih (fun q hq=>hs q (List.mem_cons_of_mem _ hq))
  simp only [needOf,List.map_cons,sumI,List.length_cons] at this ⊢
  split <;> omega
theorem at_bd {L:List Ln} {S:List Sp} {k j:Nat} (hL:linesB L=true) (hS:spansW L.length S) (hk:k≤L.length) (hj:j≤S.length) :
  (roundM (L.map Ln.wt) ((k:Int)+1) (S.take j) (reqN (L.map Ln.wt) S (L.map Ln.mi) k)).length=L.length∧∀ x ∈ roundM (L.map Ln.wt) ((k:Int)+1) (S.take j) (reqN (L.map Ln.wt) S (L.map Ln.mi) k),0≤x∧x≤100000000000000:=by
 obtain ⟨hO,hW⟩:=min_bd hL;obtain ⟨h8,hs⟩:=hS;have hl:=(linesB_len hL).2;have h1:=req_bdW (S:=S) hW (by simp) hs hO k;have h2:=round_bdW (m:=(k:Int)+1) hW (by simp) hs j hj h1;have b1:=needTo_bd hs k;have b2:=needs_bd (B:=1000000000020) (n:=L.length) (by omega) (fun s h=>by obtain ⟨a,m,e1,e2,h1,h2,h3,h4⟩:=hs s h;exact h4)
 have b3:=needOf_bd (S:=S.take j) (fun s h=>hs s (List.mem_of_mem_take h)) ((k:Int)+1)
 have b4:(S.take j).length≤10:=by rw [List.length_take];omega
 exact ⟨h2.1,h2.eachW (by omega)⟩
theorem lineRequests_w (A:Option Addr) (c:Nat) (L:List Ln) (A':Option Addr) (c':Nat) (S:List Sp) (w:World) (h:LnV w A L) (hL:linesB L=true) (h':SpV w A' S) (hS:spansW L.length S) :
  Calls Tryz.prog 209 #[.slice A L.length c,.slice A' S.length c'] w fun e w'=>e=.returned (.slice (some ⟨w.heap.size,0,none⟩) L.length L.length)∧IB w' w.heap.size (wishM L S)∧Below w.heap.size w w':=by
 obtain ⟨hl1,hl5⟩:=linesB_len hL;obtain ⟨hs8,hsa⟩:=id hS;have hww:=(min_bd hL).2;have HL:=hD hL;have HS:=hD hS;have HSA:=hD hsa;have HWW:=hD hww;clear hL hS hsa hww
 go_enter Tryz.func209,Tryz.ntmps209
 go_wp2_with fail
 with_reducible refine (each_least A c L _ h (by omega)).mono ?_
 rintro e w1 ⟨rfl,hI1,hb1⟩;have HLV:=hD (h.keep hb1)
 go_wp2_with fail
 with_reducible refine (each_weight A c L _ HLV.out (by omega)).mono ?_
 rintro e w2 ⟨rfl,hI2,hb2⟩;have HI:=hD (hI1.keep hb2);have HB:=hD (bkeep2 hb1 hb2);have hg:w.heap.size<w1.heap.size:=hI1.lt;clear HLV hb1 hb2 hI1;generalize w1.heap.size=g2 at hI2 hg ⊢;have HW:=hD hI2;clear hI2
 go_wp2_with fail
 go_loopw [18] (fun i wr=>∃ k:Nat,k≤L.length∧i=.int .i64 k∧IB wr w.heap.size (reqN (L.map Ln.wt) S (L.map Ln.mi) k)∧IB wr g2 (L.map Ln.wt)∧Below w.heap.size w wr) (fun i _=>L.length - (intOf i).toNat)
 case atStart=>exact ⟨0,by omega,rfl,HI.out,HW.out,HB.out⟩
 case round =>
  obtain ⟨k,hk,rfl,hI,hWr,hBr⟩:=hrel;clear HI HW HB
  by_cases hlt:k<L.length
  ·have hd:decide ((k:Int)<(L.length:Int))=true:=by simpa using hlt
   have HI:=hD hI;have HW:=hD hWr;have HB:=hD hBr;clear hI hWr hBr
   go_wp2_with fail
   go_loopw [23] (fun i wr=>∃ j:Nat,j≤S.length∧i=.int .i64 j∧IB wr w.heap.size (roundM (L.map Ln.wt) ((k:Int)+1) (S.take j) (reqN (L.map Ln.wt) S (L.map Ln.mi) k))∧IB wr g2 (L.map Ln.wt)∧Below w.heap.size w wr) (fun i _=>S.length - (intOf i).toNat)
   case atStart=>exact ⟨0,by omega,rfl,HI.out,HW.out,HB.out⟩
   case round =>
    obtain ⟨j,hj,rfl,hI,hWr,hBr⟩:=hrel;clear HI HW HB
    by_cases hjl:j<S.length
    ·have hd2:decide ((j:Int)<(S.length:Int))=true:=by simpa using hjl
     obtain ⟨b',off,rfl,hb',hp⟩:=(h'.keep hBr).cells (by omega);have hget:S[j]?=some S[j]:=List.getElem?_eq_getElem hjl;obtain ⟨c0,c1,c2⟩:=hp j _ hget;have hsp:=HSA.out _ (List.mem_of_getElem? hget);have hro:=roundM_snoc (ws:=L.map Ln.wt) (m:=(k:Int)+1) (O:=reqN (L.map Ln.wt) S (L.map Ln.mi) k) hget;obtain ⟨a,m,e1,e2,hm1,ham,hn0,hn50⟩:=hsp;obtain ⟨hol,hob⟩:=at_bd HL.out HS.out hk hj
     generalize S[j]=s at *;obtain ⟨sa,many,need⟩:=s
     dsimp only at e1 e2 hn0 hn50 c0 c1 c2
     subst e1 e2;generalize roundM (L.map Ln.wt) ((k:Int)+1) (S.take j) (reqN (L.map Ln.wt) S (L.map Ln.mi) k)=O at *;have HI:=hD hI;have HW:=hD hWr;have HB:=hD hBr;have HOB:=hD hob;have HOL:=hD hol;clear hI hWr hBr hp hget hob hol
     by_cases hmk:(m:Int)=(k:Int)+1
     ·have hz:((m:Int) == (k:Int)+1)=true:=by simpa using hmk
      have hmn:m=k+1:=by omega
      subst hmn;have HRO:=hD hro;clear hro
      have hal:¬ L.length=a:=by omega
      have hq1:0≤(a:Int)+((k:Int)+1):=by omega
      have hq2:(a:Int)+((k:Int)+1)≤(L.length:Int):=by omega
      have hq3:((a:Int)+((k:Int)+1)).toNat=a+(k+1):=by omega
      have hq4:a≤a+(k+1):=by omega
      have hq5:a+(k+1) - a=k+1:=by omega
      obtain ⟨hm0,hm5,hsm⟩:=seg_sum HOB.out (a:=a) (m:=k+1) (by rw [HOL.out];exact ham) (by rw [HOL.out];exact hl5);have HSM:=hD hsm;have HSL:=hD (segI_len (O:=O) (a:=a) (m:=k+1) (by rw [HOL.out];exact ham)).symm;clear hz hsm
      have hz:(((k+1:Nat):Int) == (k:Int)+1)=true:=by simp
      go_wp2_with fail
      refine wp_region_grow 9 1 (·<9) (by kernel_rfl) (by kernel_rfl) rfl ?_
      iterate 9 (refine wpG_step (fun K hK=>?_);first | (refine grow_skip rfl ?_;go_simp;refine hK _ ?_;clear hK K) | (apply Exists.intro;refine ⟨.inl ⟨rfl,fun w' hw'=>?_⟩,?_⟩;(focus ((obtain ⟨hc,hf⟩:=bcell hw'.out);(have hcS:=bcellS hw'.out);go_simp <;> first | rfl | (go_at_call 210;exact sum_b _ _ (k+1) (segI O a (k+1)) _ ((HI.out.keep (bkeep2 (balloc (Below.refl _ _)) (bdrewn hw'.out))).seg a (k+1)) HSL.out (by omega) HSM.out)));(go_simp;refine hK _ ?_;clear hK K)))
      refine wpG_nil ?_;refine wpK_tail (by kernel_rfl) (fun w3 hg3=>?_);have hb3:=bdrewn hg3.out;obtain ⟨hc3,hf3⟩:=bcell hb3;refine wpAny_one (i:=9) (by kernel_rfl) rfl rfl ?_;go_simp;refine wpAny_end (by kernel_rfl) ?_;refine NoPan.thn ?_;clear hc3 hf3;clear hg3
      have hx:w3.heap[wr.heap.size]?=some (.cells #[.int .i64 (a:Int),.int .i64 ((k:Int)+1),.int .i64 need] 200 (0,0)):=(hb3.block _ (by simp)).trans (heap_alloc_new _ _);have HI3:=hD (HI.out.keep (bkeep2 (balloc (Below.refl _ _)) hb3));have HW3:=hD (HW.out.keep (bkeep2 (balloc (Below.refl _ _)) hb3));have HB3:=hD (bkeep2 (balloc HB.out) hb3);have hxl:=(gE hx).1
      obtain ⟨x0,x1,x2⟩:w3.cell? ⟨wr.heap.size,0,none⟩=some (.int .i64 (a:Int))∧w3.cell? ⟨wr.heap.size,1,none⟩=some (.int .i64 ((k:Int)+1))∧w3.cell? ⟨wr.heap.size,2,none⟩=some (.int .i64 need):=⟨cellI hx 0,cellI hx 1,cellI hx 2⟩
      obtain ⟨q,hqe⟩:∃ q,sumI (segI O a (k+1))=q:=⟨_,rfl⟩
      rw [hqe] at hm0 hm5;rw [hqe];have HQ:=hD hqe;have mx1:=mx_spec (need - q) 0
      have hmx0:0≤mx (need - q) 0:=by omega
      have hmx1:mx (need - q) 0≤100000000000000:=by omega
      have hqw:IntKind.i64.wrap (need - q)=need - q:=IntWalk.i64_in _ (by omega);clear HI HW HB hb3 hx hqe c0 c1 c2 mx1;generalize wr.heap.size=bx at *
      go_wp2_with fail
      refine wp_region_grow 12 1 (·<12) (by kernel_rfl) (by kernel_rfl) rfl ?_
      iterate 12 (refine wpG_step (fun K hK=>?_);first | (refine grow_skip rfl ?_;go_simp;refine hK _ ?_;clear hK K) | (apply Exists.intro;refine ⟨.inl ⟨rfl,fun w' hw'=>?_⟩,?_⟩;(focus ((obtain ⟨hc,hf⟩:=bcell hw'.out);(have hcS:=bcellS hw'.out);go_simp <;> rfl));(go_simp;refine hK _ ?_;clear hK K)))
      refine wpG_nil ?_;refine wpK_tail (by kernel_rfl) (fun w4 hg4=>?_);have hb4:=bdrewn hg4.out;refine wpAny_one (i:=12) (by kernel_rfl) rfl rfl ?_;go_simp;have HI4:=hD (HI3.out.keep hb4);have HW4:=hD (HW3.out.keep hb4);have HB4:=hD (bkeep2 HB3.out hb4);clear HI3 HW3 HB3 hb4 hg4 x0 x1 x2;have hsl:k+1=(segI (L.map Ln.wt) a (k+1)).length:=(segI_len (by rw [List.length_map];exact ham)).symm
      refine (enlarge_v w.heap.size a (k+1) _ _ _ O (segI (L.map Ln.wt) a (k+1)) _ _ HI4.out hsl (by rw [HOL.out];exact ham) HOB.out (HW4.out.seg a (k+1)) (seg_ok HWW.out (by omega) (by rw [List.length_map];exact ham)) hmx0 hmx1).mono ?_;rintro e w5 ⟨⟨v,rfl⟩,hi5,hg5⟩;have HW5:=hD (HW4.out.but hg5 (by omega));have HB5:=hD (below_grown HB4.out hg5 (Nat.le_refl _) HB4.out.size)
      have hst:stepM (L.map Ln.wt) O ⟨(a:Int),((k+1:Nat):Int),need⟩=addAt O a (spreadM (mx (need - q) 0) (segI (L.map Ln.wt) a (k+1))):=by
       unfold stepM;rw [<- HQ.out]
       rfl
      rw [<- hst] at hi5;have HI5:=hD hi5;clear hi5 hst hg5 HI4 HW4 HB4
      dsimp only
      refine wpAny_end (by kernel_rfl) ?_;refine nopan_normal9 ?_;go_wp2
      go_roundw
      case rel=>exact ⟨j+1,by omega,by go_num,by rw [HRO.out,if_pos (by simp)];exact HI5.out,HW5.out,HB5.out⟩
      case measure=>simp [intOf];omega
     ·have hz:((m:Int) == (k:Int)+1)=false:=by simpa using hmk
      rw [if_neg hmk] at hro;have HRO:=hD hro;have HB:=hD (balloc (o:=(.cells #[.int .i64 (a:Int),.int .i64 (m:Int),.int .i64 need] 200 (0,0))) HB.out);have HI:=hD (HI.out.keep (balloc (o:=(.cells #[.int .i64 (a:Int),.int .i64 (m:Int),.int .i64 need] 200 (0,0))) (Below.refl _ _)))
      have HW:=hD (HW.out.keep (balloc (o:=(.cells #[.int .i64 (a:Int),.int .i64 (m:Int),.int .i64 need] 200 (0,0))) (Below.refl _ _)));clear hro;go_wp2
      go_roundw
      case rel=>exact ⟨j+1,by omega,by go_num,by rw [HRO.out];exact HI.out,HW.out,HB.out⟩
      case measure=>simp [intOf];omega
    ·have hd2:decide ((j:Int)<(S.length:Int))=false:=decide_eq_false (by omega);have he:S.take j=S:=List.take_of_length_le (by omega);rw [he] at hI;have HI:=hD hI;have HW:=hD hWr;have HB:=hD hBr;clear hI hWr hBr he;go_wp2
     go_roundw
     case rel=>exact ⟨k+1,by omega,by go_num,HI.out,HW.out,HB.out⟩
     case measure=>simp [intOf];omega
  ·have hd:decide ((k:Int)<(L.length:Int))=false:=decide_eq_false (by omega)
   obtain rfl:k=L.length:=by omega
   have HI:=hD hI;have HB:=hD hBr;clear hI hBr hWr;go_wp2;go_ret;exact ⟨rfl,HI.out,HB.out⟩
theorem wish_bdW {L:List Ln} {S:List Sp} (hL:linesB L=true) (hS:spansW L.length S):Bd L.length (150+(S.map fun s=>s.need).foldr (·+·) 0) (wishM L S):=by
 obtain ⟨hO,hW⟩:=min_bd hL;have h1:=req_bdW (S:=S) hW (by simp) hS.2 hO L.length;have b1:=needTo_bd hS.2 L.length;exact ⟨h1.1,h1.2.1,by have:=h1.2.2;show sumI (reqN _ _ _ _)≤_;omega⟩
theorem wish_smalW {L:List Ln} {S:List Sp} (hL:linesB L=true) (hS:spansW L.length S):Smal 1000000000000000 (wishM L S)∧(wishM L S).length=L.length:=by
 have h:=wish_bdW hL hS;have hl:=(linesB_len hL).2;have b2:=needs_bd (n:=L.length) (S:=S) (B:=1000000000020) (by omega) (fun s h=>by obtain ⟨a,m,e1,e2,h1,h2,h3,h4⟩:=hS.2 s h;exact h4);have hS8:=hS.1;have hx:=h.eachW (by omega);exact ⟨smal_of (b:=100000000000000) (fun x hx'=>by have:=hx x hx';omega) (by omega) (by rw [h.1];omega),h.1⟩
end
section
def nvalsW (L:List Int):List Value:=L.map (Value.int .i64)
theorem nvalsW_snoc (L:List Int) (x:Int):nvalsW L ++ [.int .i64 x]=nvalsW (L ++ [x]):=by simp [nvalsW]
def OB (w:World) (g cap:Nat) (L:List Int):Prop:=L.length≤cap∧∃ cs:Array Value,w.heap[g]?=some (.cells cs 3 (0,0))∧cs.size=cap∧∀ (i:Nat) (x:Int),L[i]?=some x→cs[i]?=some (Value.int .i64 x)
theorem OB.lt {w:World} {g cap:Nat} {L:List Int} (h:OB w g cap L):g<w.heap.size:=by obtain ⟨_,cs,hh,_⟩:=h;exact ltS hh
theorem OB.keep {w w':World} {g cap:Nat} {L:List Int} (h:OB w g cap L) (hb:Below w.heap.size w w'):OB w' g cap L:=by
 obtain ⟨hl,cs,hh,hs,hc⟩:=h;exact ⟨hl,cs,(hb.block g (ltS hh)).trans hh,hs,hc⟩
theorem OB.cell {w:World} {g cap i:Nat} {L:List Int} {x:Int} (h:OB w g cap L) (hx:L[i]?=some x):w.cell? ⟨g,i,none⟩=some (.int .i64 x):=by
 obtain ⟨hl,cs,hh,hs,hc⟩:=h;exact (cellS hh i).trans (hc i x hx)
theorem OB.frozen {w:World} {g cap:Nat} {L:List Int} (h:OB w g cap L) (i:Nat):w.frozen? ⟨g,i,none⟩=false:=by
 obtain ⟨hl,cs,hh,hs,hc⟩:=h;exact frozenS hh i
theorem OB.set {w:World} {g cap:Nat} {L:List Int} (h:OB w g cap L) (i:Nat) (y:Int) (hi:i<L.length):OB (w.setCell ⟨g,i,none⟩ (.int .i64 y)) g cap (L.set i y):=by
 obtain ⟨hl,cs,hh,hs,hc⟩:=h;refine ⟨by rw [List.length_set];exact hl,_,putS hh _,by simp [hs],fun k x hk=>?_⟩
 by_cases e:i=k
 ·subst e;rw [List.getElem?_set_self hi] at hk;obtain rfl:=Option.some.inj hk;rw [Array.getElem?_setIfInBounds_self_of_lt (by omega)]
 ·rw [List.getElem?_set_ne e] at hk;rw [Array.getElem?_setIfInBounds_ne e];exact hc k x hk
theorem OB.nv {w:World} {g cap:Nat} {L:List Int} (h:OB w g cap L):NV w (some ⟨g,0,none⟩) L :=
 ⟨fun _=>⟨g,0,rfl,h.lt,fun i x hx=>by rw [Nat.zero_add];exact h.cell hx⟩⟩
theorem own_inW {w:World} {base n:Nat} {v:Value} {M:List Int} (h:w.ownsRow base 3 1 v n (nvalsW M)) (hn:n=M.length) :
  (v=.slice none 0 0∧M=[]) ∨ ∃ g cap,v=.slice (some ⟨g,0,none⟩) n cap∧base≤g∧OB w g cap M:=by
 rcases h.2 with ⟨rfl,h0⟩ | ⟨g,cap,cur,rfl,hb,hg,hc,_,hs,ht⟩
 ·exact .inl ⟨rfl,List.length_eq_zero_iff.1 (by omega)⟩
 ·refine .inr ⟨g,cap,rfl,hb,by omega,cur,hg,by omega,fun i x hx=>?_⟩
  have e:(nvalsW M)[i]?=some (Value.int .i64 x):=by simp [nvalsW,hx]
  have hi:=(List.getElem?_eq_some_iff.1 hx).1;rw [<- ht,List.getElem?_take] at e;rw [if_pos (by omega)] at e
  simpa using e
theorem int_infoW:∃ (i:TypeInfo) (z:Value),Tryz.prog.info? 3=some i∧i.zero=some z∧i.size=1∧i.bytes=8∧z.cells.size=1:=by
 have hinfo:(Tryz.prog.info? 3).map (fun i=>(i.zero,i.size,i.bytes))=some (some (.int .i64 0),1,8):=by kernel_rfl
 obtain ⟨i,hi,h1,h2,h3⟩:=info_parts hinfo;exact ⟨i,_,hi,h1,h2,h3,rfl⟩
theorem newW (W:World) (x:Int) (T:TypeId):∀ (j:Nat) (u:Value),[Value.int .i64 x][j]?=some u→(W.alloc (.cells #[.int .i64 x] T)).cell? ((⟨W.heap.size,0,none⟩:Addr).add j)=some u:=fun j u h=>by
 have hadd:(⟨W.heap.size,0,none⟩:Addr).add j=⟨W.heap.size,j,none⟩:=by unfold Addr.add;split <;> simp_all
 rw [hadd];exact (cellS (newS W _) j).trans (by simpa using h)
theorem below_own {n:Nat} {a W w5:World} {v:Value} {o:Obj} {lo hi:Nat} (h:Below n a W) (hg:(W.alloc o).grownBy w5 v.ownBlock) (hob:∀ k,v.ownBlock=some k→lo≤k∧k<hi) (hlo:n≤lo) (hn:n≤a.heap.size):Below n a w5 :=
 have h':Below n a (W.alloc o):=h.alloc (Nat.le_trans hn h.size) o
 ⟨hg.os.trans h'.os,hg.tape.trans h'.tape,hg.output.trans h'.output,Nat.le_trans h'.size hg.size,fun k hk=>(hg.block k (Nat.lt_of_lt_of_le (Nat.lt_of_lt_of_le hk hn) h'.size) (fun e=>by have:=hob k e.symm;omega)).trans (h'.block k hk)⟩
end
section
attribute [local go_sem 5000] run_mx run_mn
theorem OB.seg {w:World} {g cap:Nat} {L:List Int} (h:OB w g cap L) (a m:Nat):NV w (some ⟨g,a,none⟩) (segI L a m):=by
 have:=NV.sub (off:=0) h.lt (fun i x hx=>by rw [Nat.zero_add];exact h.cell hx) a m
 rwa [Nat.zero_add] at this
theorem LnV.sub {w:World} {b off:Nat} {L:List Ln} (hb:b<w.heap.size) (h:∀ i p,L[i]?=some p→w.cell? ⟨b,off+i*2,none⟩=some (.int .i64 p.wt)∧w.cell? ⟨b,off+i*2+1,none⟩=some (.int .i64 p.mi)) (i j:Nat):LnV w (some ⟨b,off+i*2,none⟩) ((L.drop i).take j) :=
 ⟨fun _=>⟨b,off+i*2,rfl,hb,fun k x hx=>by
  rw [List.getElem?_take] at hx
  split at hx
  ·rw [List.getElem?_drop] at hx
   have:=h (i+k) x hx
   rwa [show off+(i+k)*2=off+i*2+k*2 from by omega] at this
  ·cases hx⟩⟩
theorem take_snocF {α:Type} {f:α→Int} {L:List α} {k:Nat} {x:α} (h:L[k]?=some x):(L.map f).take (k+1)=(L.map f).take k ++ [f x]:=by
 obtain ⟨hk,e⟩:=List.getElem?_eq_some_iff.1 h;rw [List.take_succ_eq_append_getElem (by simpa using hk)]
 simp [e]
theorem weightsOf_v (A:Option Addr) (c n:Nat) (L:List Ln) (w:World) (h:LnV w A L) (hn:n=L.length) (hL:L.length≤8) :
  Calls Tryz.prog 171 #[.slice A n c] w fun e w'=>(∃ A' c',e=.returned (.slice A' n c')∧NV w' A' (L.map Ln.wt))∧Below w.heap.size w w':=by
 subst hn;obtain ⟨ti,tz,ti1,ti2,ti3,ti4,ti5⟩:=int_infoW
 go_enter Tryz.func171,Tryz.ntmps171
 go_wp2_with fail
 have ho0:(w.alloc (.cells #[] 3 (0,0))).ownsRow w.heap.size 3 1 (.slice (some ⟨w.heap.size,0,none⟩) 0 0) 0 (nvalsW []):=World.ownsRow_lit (base:=w.heap.size) (e:=3) (size:=1) w #[] 0 (Nat.le_refl _) (by decide) rfl;have HO:=hD ho0;have HB:=hD (balloc (o:=(.cells #[] 3 (0,0))) (Below.refl w.heap.size w));clear ho0
 go_loopw [3,4] (fun out i wr=>∃ k:Nat,k≤L.length∧i=.int .i64 k∧wr.ownsRow w.heap.size 3 1 out k (nvalsW ((L.map Ln.wt).take k))∧Below w.heap.size w wr) (fun _ i _=>L.length - (intOf i).toNat)
 case atStart=>exact ⟨0,by omega,rfl,HO.out,HB.out⟩
 case round =>
  obtain ⟨k,hk,rfl,ho,hB⟩:=hrel;clear HO HB
  by_cases hlt:k<L.length
  ·have hd:decide ((k:Int)<(L.length:Int))=true:=by simpa using hlt
   obtain ⟨b,off,rfl,hb,hp⟩:=(h.keep hB).cells (by omega);have hget:L[k]?=some L[k]:=List.getElem?_eq_getElem hlt;obtain ⟨c0,c1⟩:=hp k _ hget;have hts:=take_snocF (f:=Ln.wt) hget;generalize L[k]=x at *;have hob:=ho.lt;have hw3:w.heap.size≤wr.heap.size:=hB.size;have HO:=hD ho;have HB:=hD hB;have HTS:=hD hts;clear ho hB hts hp hget
   go_wp2_with (at_builtin;refine wpList_append_own _ rfl _ _ 37 rfl w.heap.size 3 ti tz 1 8 Tryz.underlying37 ti1 ti2 ti3 ti4 ti5 (by decide) _ _ _ rfl (HO.out.alloc _) ⟨wr.heap.size,0,none⟩ 1 1 [.int .i64 x.wt] rfl rfl (newW _ _ _) (by simp [Value.oneCell']) (by simp only [maxLen];omega) (by omega) (by simp;omega) ?_)
   intro v5 w5 how5 hgr5 _;rw [nvalsW_snoc,<- HTS.out] at how5;replace HB:=hD (below_own HB.out hgr5 hob (Nat.le_refl _) (Nat.le_refl _));replace HO:=hD how5;clear how5 hgr5 hob c0 c1;go_wp2
   go_roundw
   case rel=>exact ⟨k+1,by omega,by go_num,by simpa using HO.out,HB.out⟩
   case measure=>simp [intOf];omega
  ·have hd:decide ((k:Int)<(L.length:Int))=false:=decide_eq_false (by omega)
   obtain rfl:k=L.length:=by omega
   have he:(L.map Ln.wt).take L.length=L.map Ln.wt:=List.take_of_length_le (by simp);rw [he] at ho;have HB:=hD hB
   rcases own_inW ho (by simp) with ⟨rfl,hM⟩ | ⟨g,cap,rfl,hbg,hO⟩
   ·have hL0:L.length=0:=by simpa using congrArg List.length hM
    have HM:=hD hM;have HL0:=hD hL0;clear ho hB hM hL0 he;go_wp2;go_ret;exact ⟨⟨none,0,by rw [HL0.out];rfl,⟨fun h0=>absurd h0 (by rw [HM.out];simp)⟩⟩,HB.out⟩
   ·have HO:=hD hO.nv;clear ho hB hO he;go_wp2;go_ret;exact ⟨⟨_,cap,rfl,HO.out⟩,HB.out⟩
end
section
theorem own_bw {w w':World} {base:Nat} {e:TypeId} {size:Nat} {v:Value} {n:Nat} {xs:List Value} (h:w.ownsRow base e size v n xs) (hb:Below w.heap.size w w'):w'.ownsRow base e size v n xs :=
 h.kept (row:=none) ⟨hb.os,hb.tape,hb.output,hb.size,fun k hk _=>hb.block k hk⟩ (by cases v.ownBlock <;> simp)
def idsN (f:Nat→Bool) (n:Nat):List Nat:=(List.range n).filter f
def idsM (f:Nat→Bool) (n:Nat):List Int:=(idsN f n).map (fun (k:Nat)=>(k:Int))
theorem idsM_yes {f:Nat→Bool} {k:Nat} (h:f k=true):idsM f (k+1)=idsM f k ++ [(k:Int)]:=by simp [idsM,idsN,List.range_succ,List.filter_append,h]
theorem idsM_no {f:Nat→Bool} {k:Nat} (h:f k=false):idsM f (k+1)=idsM f k:=by simp [idsM,idsN,List.range_succ,List.filter_append,h]
theorem idsM_len (f:Nat→Bool) (k:Nat):(idsM f k).length≤k:=by
 unfold idsM idsN;rw [List.length_map];exact Nat.le_trans (List.length_filter_le _ _) (by simp)
def KdV (w:World) (v:Value) (L:List Int):Prop:=∃ A c,v=.slice A L.length c∧NV w A L∧L.length≤c
theorem KdV.keep {w w':World} {v:Value} {L:List Int} (h:KdV w v L) (hb:Below w.heap.size w w'):KdV w' v L:=let ⟨A,c,e,q,hc⟩:=h;⟨A,c,e,q.keep hb,hc⟩
theorem KdV.of {w:World} {base:Nat} {v:Value} {L:List Int} (h:w.ownsRow base 3 1 v L.length (nvalsW L)):KdV w v L:=by
 rcases own_inW h rfl with ⟨rfl,hM⟩ | ⟨g,cap,rfl,hbg,hO⟩
 ·exact ⟨none,0,by rw [hM];rfl,⟨fun h0=>absurd h0 (by rw [hM];simp)⟩,by rw [hM];simp⟩
 ·exact ⟨_,cap,rfl,hO.nv,hO.1⟩
end
section
def isKid (R:List Nr) (i:Int) (k:Nat):Bool:=match R[k]? with
 | some p=>p.n.pa == i
 | none=>false
def kidsN (R:List Nr) (i:Int):List Nat:=idsN (isKid R i) R.length
def kidsM (R:List Nr) (i:Int):List Int:=idsM (isKid R i) R.length
theorem isKid_at {R:List Nr} {i:Int} {k:Nat} {p:Nr} (h:R[k]?=some p):isKid R i k=(p.n.pa == i):=by unfold isKid;rw [h]
theorem kid1_v (A:Option Addr) (c:Nat) (R:List Nr) (i:Int) (k bt bi:Nat) (w:World) (h:NrV w A R) (hk:k<R.length) (ht:w.cell? ⟨bt,0,none⟩=some (.slice A R.length c)) (hi:w.cell? ⟨bi,0,none⟩=some (.int .i64 i)) (lt:bt<w.heap.size) (li:bi<w.heap.size) (hL:R.length≤1048576) :
  Calls Tryz.prog 106 #[.int .i64 (k:Int),.pointer (some ⟨bt,0,none⟩),.pointer (some ⟨bi,0,none⟩)] w fun e w'=>e=.returned (.bool (isKid R i k))∧Below w.heap.size w w':=by
 have hget:R[k]?=some R[k]:=List.getElem?_eq_getElem hk;obtain ⟨b,off,rfl,hb,hp⟩:=h.cells (by omega);have x0:w.cell? ⟨b,off+k*34,none⟩=some (.int .i64 R[k].n.pa):=hp k _ hget 0 _ rfl;rw [isKid_at hget];generalize R[k]=p at *
 have hd1:(k:Int)<(R.length:Int):=by omega
 clear hget hp h
 go_enter Tryz.func106,Tryz.ntmps106
 go_wp2_with fail
 refine wp_region_grow 8 1 (·<8) (by kernel_rfl) (by kernel_rfl) rfl ?_
 iterate 8 (refine wpG_step (fun K hK=>?_);first | (refine grow_skip rfl ?_;go_simp;refine hK _ ?_;clear hK K) | (apply Exists.intro;refine ⟨.inl ⟨rfl,fun w' hw'=>?_⟩,?_⟩;(focus ((obtain ⟨hc,hf⟩:=bcell hw'.out);(have hcS:=bcellS hw'.out);go_simp <;> first | rfl));(go_simp;refine hK _ ?_;clear hK K)))
 refine wpG_nil ?_;refine wpK_tail (by kernel_rfl) (fun wa hga=>?_);have hba:=bdrewn hga.out;obtain ⟨hca,hfa⟩:=bcell hba;refine wpAny_one (i:=8) (by kernel_rfl) rfl rfl ?_;go_simp;refine wpAny_end (by kernel_rfl) ?_;refine NoPan.thn ?_;clear hca hfa;clear hga;go_wp2;go_ret;exact ⟨rfl,hba⟩
end
section
section
variable {P:Program}
def givesUpon (P:Program) (K:Value→World→Prop):Result Next→Prop
  | .ok (.value v) w'=>K v w'
  | .ok .skip w'=>K undef w'
  | .ok (.enter f args) w'=>Calls P f args w' fun e w''=>∃ v,e=.returned v∧K v w''
  | _=>False
theorem givesUpon_value (K:Value→World→Prop) (v:Value) (w:World):givesUpon P K (.ok (.value v) w)=K v w:=rfl
theorem givesUpon_skip (K:Value→World→Prop) (w:World):givesUpon P K (.ok .skip w)=K undef w:=rfl
theorem givesUpon_enter (K:Value→World→Prop) (f:FuncId) (args:Array Value) (w:World):givesUpon P K (.ok (.enter f args) w)=Calls P f args w fun e w''=>∃ v,e=.returned v∧K v w'':=rfl
def dstIdx (t:Tmp):List Oper→Nat→Option Nat
  | [],_=>none
  | o :: r,k=>if o.dst=some t then some k else dstIdx t r (k+1)
theorem dstIdx_none {t:Tmp}:∀ {l:List Oper} {k:Nat},dstIdx t l k=none→∀ o ∈ l,o.dst ≠ some t
  | [],_,_,_,h=>by cases h
  | x :: r,k,h,o,ho=>by
    unfold dstIdx at h
    split at h
    · cases h
    · rename_i hne
      rcases List.mem_cons.1 ho with rfl | ho
      · exact hne
      · exact dstIdx_none h o ho
theorem dstIdx_some {t:Tmp}:∀ {l:List Oper} {k j:Nat},dstIdx t l k=some j→k≤j∧∃ o,l[j - k]?=some o∧o.dst=some t
  | [],_,_,h=>by cases h
  | x :: r,k,j,h=>by
    unfold dstIdx at h
    split at h
    · rename_i he
      injection h with h
      subst h
      exact ⟨Nat.le_refl _,x,by simp,he⟩
    · obtain ⟨h1,o,h2,h3⟩:=dstIdx_some h
      refine ⟨by omega,o,?_,h3⟩
      rw [show j - k=(j - (k+1))+1 from by omega]
      simpa using h2
def tv (a:Act) (t:Tmp):Value:=a.tmps.getD t undef
def look (ops:List Oper) (T:Nat→Value→World→Prop) (a0 a:Act) (w:World):List Tmp→Prop→Prop
  | [],G=>G
  | t :: r,G=>(match dstIdx t ops 0 with | some j=>T j (tv a t) w | none=>tv a t=tv a0 t)→look ops T a0 a w r G
def opOK (P:Program) (ops:List Oper) (T:Nat→Value→World→Prop) (R:World→World→Prop) (I:Nat→World→Prop) (a0:Act) (w0:World) (k:Nat) (o:Oper):Prop :=
  ∀ (m:Nat) (a:Act) (w:World),m<ops.length→R w0 w→I m w →
    look ops T a0 a w (o.looksAt ops.toArray)
      (match o.guard with
       | none=>givesUpon P (fun v w'=>T k v w'∧R w w'∧I (m+1) w') ((execOp a.eval o).run P w)
       | some _=>(Region.wanted o (yielded ops.toArray a.tmps)=true→givesUpon P (fun v w'=>T k v w'∧R w w'∧I (m+1) w') ((execOp a.eval o).run P w)) ∧
          (Region.wanted o (yielded ops.toArray a.tmps)=false→T k undef w∧I (m+1) w))
def opsOK (P:Program) (ops:List Oper) (T:Nat→Value→World→Prop) (R:World→World→Prop) (I:Nat→World→Prop) (a0:Act) (w0:World):List Oper→Nat→Prop
  | [],_=>True
  | o :: r,k=>opOK P ops T R I a0 w0 k o∧opsOK P ops T R I a0 w0 r (k+1)
def finP (T:Nat→Value→World→Prop) (w:World) (F:Act→Prop):List Oper→Nat→Act→Prop
  | [],_,a=>F a
  | o :: r,k,a=>match o.dst with
    | none=>finP T w F r (k+1) a
    | some d=>∀ v,T k v w→finP T w F r (k+1) (a.put (some d) v)
def rgB (l:List Oper) (size:Nat):Bool :=
  Region.noSelect l.toArray &&
  ((List.range l.length).all fun i=>match l[i]? with
    | none=>true
    | some o=>(o.after.toList.all fun e=>decide (e.on<i)) &&
      (o.dst.all fun d=>decide (d<size) && dstIdx d l 0 == some i) &&
      ((o.looksAt l.toArray).all fun t=>match dstIdx t l 0 with
        | none=>true
        | some j=>o.after.toList.any fun e=>e.on == j && Region.binds .any e))
def cntF (f:Nat→Bool):Nat→Nat
  | 0=>0
  | n+1=>cntF f n+(if f n then 0 else 1)
theorem cntF_zero {f:Nat→Bool}:∀ {n:Nat},cntF f n=0→∀ i,i<n→f i=true
  | 0,_,i,hi=>by omega
  | n+1,h,i,hi=>by
    simp only [cntF] at h
    by_cases e:i=n
    · subst e;by_cases hf:f i=true
      · exact hf
      · simp [hf] at h
    · exact cntF_zero (n:=n) (by omega) i (by omega)
theorem cntF_same {f g:Nat→Bool}:∀ {n:Nat},(∀ i,i<n→f i=g i)→cntF f n=cntF g n
  | 0,_=>rfl
  | n+1,h=>by simp only [cntF];rw [cntF_same fun i hi=>h i (by omega),h n (by omega)]
theorem cntF_set {f g:Nat→Bool} {i:Nat} (hf:f i=false) (hg:g i=true) (h:∀ j,j ≠ i→g j=f j):∀ {n:Nat},i<n→cntF f n=cntF g n+1
  | 0,hi=>by omega
  | n+1,hi=>by
    simp only [cntF]
    by_cases e:i=n
    · subst e
      rw [cntF_same (f:=f) (g:=g) fun j hj=>(h j (by omega)).symm]
      simp [hf,hg]
    · rw [cntF_set hf hg h (n:=n) (by omega),h n (by omega)];omega
def vof (a:Act):Option Tmp→Value
  | none=>undef
  | some d=>tv a d
def RJ (l:List Oper) (T:Nat→Value→World→Prop) (R:World→World→Prop) (I:Nat→World→Prop) (a0:Act) (w0:World) (m:Nat) (listed:Array Bool) (a:Act) (w:World):Prop :=
  R w0 w∧I m w∧a.defers=a0.defers∧a.tmps.size=a0.tmps.size ∧
  (∀ t,(∀ j o,l[j]?=some o→listed.getD j false=true→o.dst ≠ some t)→a.tmps[t]?=a0.tmps[t]?) ∧
  (∀ j o,l[j]?=some o→listed.getD j false=true→o.dst ≠ none→T j (vof a o.dst) w)
theorem look_of {ops:List Oper} {T:Nat→Value→World→Prop} {a0 a:Act} {w:World} {G:Prop}:∀ {ts:List Tmp},(∀ t ∈ ts,match dstIdx t ops 0 with | some j=>T j (tv a t) w | none=>tv a t=tv a0 t)→look ops T a0 a w ts G→G
  | [],_,h=>h
  | t :: r,hts,h=>look_of (fun x hx=>hts x (List.mem_cons_of_mem _ hx)) (h (hts t List.mem_cons_self))
theorem opsOK_at {ops:List Oper} {T:Nat→Value→World→Prop} {R:World→World→Prop} {I:Nat→World→Prop} {a0:Act} {w0:World}:∀ {l:List Oper} {k:Nat},opsOK P ops T R I a0 w0 l k→∀ {i:Nat} {o:Oper},l[i]?=some o→opOK P ops T R I a0 w0 (k+i) o
  | [],_,_,i,o,h=>by simp at h
  | x :: r,k,h,0,o,ho=>by
    obtain rfl:x=o:=by simpa using ho
    exact h.1
  | x :: r,k,h,i+1,o,ho=>by
    have:=opsOK_at (k:=k+1) h.2 (i:=i) (o:=o) (by simpa using ho)
    rwa [show k+(i+1)=k+1+i from by omega]
theorem put_size (a:Act) (d:Option Tmp) (v:Value):(a.put d v).tmps.size=a.tmps.size:=by cases d <;> simp [Act.put]
theorem put_defers' (a:Act) (d:Option Tmp) (v:Value):(a.put d v).defers=a.defers:=by cases d <;> rfl
theorem put_ne (a:Act) (d:Option Tmp) (v:Value) {t:Nat} (h:d ≠ some t):(a.put d v).tmps[t]?=a.tmps[t]?:=by
  cases d with
  | none=>rfl
  | some d=>exact Array.getElem?_setIfInBounds_ne (fun e=>h (by rw [e]))
theorem put_same (a:Act) (d:Tmp) (v:Value) (h:d<a.tmps.size):(a.put (some d) v).tmps[d]?=some v:=by
  simp [Act.put,h]
theorem tv_of {a b:Act} {t:Tmp} (h:a.tmps[t]?=b.tmps[t]?):tv a t=tv b t:=by
  unfold tv;rw [Array.getD_eq_getD_getElem?,Array.getD_eq_getD_getElem?,h]
theorem finP_to {T:Nat→Value→World→Prop} {w:World} {F:Act→Prop} {a':Act}:∀ {l:List Oper} {k:Nat} {b:Act},b.defers=a'.defers→b.tmps.size=a'.tmps.size →
    (∀ t,(∀ o ∈ l,o.dst ≠ some t)→b.tmps[t]?=a'.tmps[t]?)→(∀ j o,l[j]?=some o→o.dst ≠ none→T (k+j) (vof a' o.dst) w)→finP T w F l k b→F a'
  | [],k,b,hd,hs,hb,hT,h=>by
    have e:b=a':=by
      obtain ⟨bt,bd⟩:=b
      obtain ⟨at',ad⟩:=a'
      simp only at hd hs hb
      subst hd
      congr 1
      exact Array.ext_getElem? fun t=>hb t (by simp)
    rw [<- e];exact h
  | o :: r,k,b,hd,hs,hb,hT,h=>by
    unfold finP at h
    cases ho:o.dst with
    | none =>
      rw [ho] at h
      refine finP_to hd hs (fun t ht=>hb t (fun x hx=>?_)) (fun j x hx hn=>?_) h
      · rcases List.mem_cons.1 hx with rfl | hx
        · rw [ho];simp
        · exact ht x hx
      · have:=hT (j+1) x (by simpa using hx) hn
        rwa [show k+(j+1)=k+1+j from by omega] at this
    | some d =>
      rw [ho] at h
      have h0:=hT 0 o (by simp) (by rw [ho];simp)
      rw [ho] at h0
      have h1:=h (vof a' (some d)) h0
      refine finP_to (by rw [put_defers'];exact hd) (by rw [put_size];exact hs) (fun t ht=>?_) (fun j x hx hn=>?_) h1
      · by_cases e:d=t
        · subst e
          rcases Nat.lt_or_ge d b.tmps.size with hlt | hge
          · rw [put_same _ _ _ hlt]
            simp only [vof,tv]
            rw [Array.getD_eq_getD_getElem?,Array.getElem?_eq_getElem (by omega)]
            rfl
          · rw [Array.getElem?_eq_none (by rw [put_size];omega),Array.getElem?_eq_none (by omega)]
        · rw [put_ne _ _ _ (by simpa using e)]
          refine hb t fun x hx=>?_
          rcases List.mem_cons.1 hx with rfl | hx
          · rw [ho];simpa using e
          · exact ht x hx
      · have:=hT (j+1) x (by simpa using hx) hn
        rwa [show k+(j+1)=k+1+j from by omega] at this
theorem wp_of_gives {o:Oper} {a:Act} {w:World} {K:Value→World→Prop} {N:Act→World→Prop} {Q:Exit→Act→World→Prop} (h:givesUpon P K ((execOp a.eval o).run P w)) (hN:∀ v w',K v w'→N (a.put o.dst v) w'):o.wp P a w N Q:=by
  unfold Oper.wp
  generalize (execOp a.eval o).run P w=r at *
  cases r with
  | ok n w' =>
    cases n <;> simp only [givesUpon] at h <;> simp only [Oper.upon]
    case value u=>exact hN _ _ h
    case skip=>exact hN _ _ h
    case enter f args=>exact h.mono fun e w'' ⟨v,he,hk⟩=>by subst he;exact hN _ _ hk
  | halt x w'=>simp only [givesUpon] at h
theorem wp_region_rg {id:Nat} {l:List Oper} {Q:Exit→Act→World→Prop} {a0:Act} {w:World} (T:Nat→Value→World→Prop) (R:World→World→Prop) (I:Nat→World→Prop)
    (hm:P.follows .mixedOrders=true) (hB:rgB l a0.tmps.size=true) (hRr:∀ a,R a a) (hRt:∀ a b c,R a b→R b c→R a c) (hTs:∀ k v a b,T k v a→R a b→T k v b) (hI0:I 0 w.drew)
    (hops:opsOK P l T R I a0 w.drew l 0) (hfin:∀ w',R w.drew w'→I l.length w'→finP T w' (fun a'=>Q .normal a' w') l 0 a0):(Code.region id l.toArray true).wp P Q a0 w:=by
  simp only [rgB,Bool.and_eq_true] at hB
  obtain ⟨hns,hB⟩:=hB
  have hB':∀ (i:Nat) (o:Oper),l[i]?=some o→(∀ e ∈ o.after,e.on<i)∧(∀ d,o.dst=some d→d<a0.tmps.size∧dstIdx d l 0=some i)∧(∀ t ∈ o.looksAt l.toArray,∀ j,dstIdx t l 0=some j→∃ e ∈ o.after,e.on=j∧Region.binds .any e=true):=by
    intro i o ho
    have hlt:=(List.getElem?_eq_some_iff.1 ho).1
    have h1:=List.all_eq_true.1 hB i (List.mem_range.2 hlt)
    simp only [ho,Bool.and_eq_true] at h1
    obtain ⟨⟨h1,h2⟩,h3⟩:=h1
    refine ⟨fun e he=>by have:=List.all_eq_true.1 h1 e (by simpa using he);simpa using this,fun d hd=>?_,fun t ht j hj=>?_⟩
    · rw [hd] at h2
      simp only [Option.all_some,Bool.and_eq_true,decide_eq_true_eq,beq_iff_eq] at h2
      exact h2
    · have h4:=List.all_eq_true.1 h3 t ht
      rw [hj] at h4
      obtain ⟨e,he,h5⟩:=List.any_eq_true.1 h4
      simp only [Bool.and_eq_true,beq_iff_eq] at h5
      exact ⟨e,by simpa using he,h5⟩
  have hdist:∀ (i:Nat) (o:Oper) (j:Nat) (p:Oper),l[i]?=some o→l[j]?=some p→i ≠ j→∀ d,o.dst=some d→p.dst ≠ some d:=by
    intro i o j p ho hp hij d hd hpd
    have h1:=((hB' i o ho).2.1 d hd).2
    rw [((hB' j p hp).2.1 d hpd).2] at h1
    injection h1 with h1
    exact hij h1.symm
  have main:∀ (fuel m:Nat) (listed:Array Bool) (a:Act) (w':World),cntF (fun i=>listed.getD i true) l.length=fuel→listed.size=l.length→fuel+m=l.length→RJ l T R I a0 w.drew m listed a w' →
      wpAny P .any l.toArray Q fuel listed a w':=by
    intro fuel
    have hdone:∀ (m:Nat) (listed:Array Bool) (a:Act) (w':World),m=l.length→(∀ i,i<l.length→listed.getD i false=true)→RJ l T R I a0 w.drew m listed a w'→Q .normal a w':=by
      rintro m listed a w' rfl hall ⟨hR,hI,hd,hs,ht,hT⟩
      refine finP_to (T:=T) (w:=w') (F:=fun a'=>Q .normal a' w') (l:=l) (k:=0) (b:=a0) hd.symm hs.symm (fun t h=>?_) (fun j o ho hn=>?_) (hfin w' hR hI)
      · exact (ht t fun j o ho _=>h o (List.mem_of_getElem? ho)).symm
      · rw [Nat.zero_add];exact hT j o ho (hall j (List.getElem?_eq_some_iff.1 ho).1) hn
    have hnil:∀ (listed:Array Bool),listed.size=l.length→Region.ready .any l.toArray listed=[]→∀ i,i<l.length→listed.getD i false=true:=by
      intro listed hls hr i
      induction i using Nat.strongRecOn with
      | ind i ih =>
        intro hi
        by_cases hl:listed.getD i false=true
        · exact hl
        · exfalso
          have ho:l[i]?=some l[i]:=List.getElem?_eq_getElem hi
          have hmem:i ∈ Region.ready .any l.toArray listed:=mem_ready.2 ⟨by
            rw [Array.getD_eq_getD_getElem?,Array.getElem?_eq_getElem (by omega)] at *
            simp only [Option.getD_some,Bool.not_eq_true] at *
            exact hl,l[i],by simp,fun e he _=>ih e.on ((hB' i _ ho).1 e he) (by have:=(hB' i _ ho).1 e he;omega)⟩
          rw [hr] at hmem
          cases hmem
    induction fuel with
    | zero =>
      intro m listed a w' hc hls hm' hJ
      have hall:∀ i,i<l.length→listed.getD i false=true:=fun i hi=>by
        have:=cntF_zero hc i hi
        rw [Array.getD_eq_getD_getElem?,Array.getElem?_eq_getElem (by omega)] at *
        simpa using this
      refine ⟨?_,hdone m listed a w' (by omega) hall hJ⟩
      cases hr:Region.ready .any l.toArray listed with
      | nil=>rfl
      | cons x xs =>
        exfalso
        obtain ⟨h0,o,ho,_⟩:=mem_ready.1 (show x ∈ Region.ready .any l.toArray listed by rw [hr];exact List.mem_cons_self)
        have hlt:x<l.length:=by have:=(gE ho).1;simpa using this
        have:=hall x hlt
        rw [Array.getD_eq_getD_getElem?,Array.getElem?_eq_getElem (by omega)] at *
        simp at h0 this
        rw [h0] at this
        cases this
    | succ fuel ih =>
      intro m listed a w' hc hls hm' hJ
      refine ⟨fun hr=>?_,fun i hi=>?_⟩
      · exfalso
        have hall:=hnil listed hls hr
        have:cntF (fun i=>listed.getD i true) l.length=0:=by
          rw [cntF_same (g:=fun _=>true) (fun i hi=>by
            have:=hall i hi
            rw [Array.getD_eq_getD_getElem?,Array.getElem?_eq_getElem (by omega)] at *
            simpa using this)]
          clear hc hm' hls
          induction l.length with
          | zero=>rfl
          | succ n ihn=>simp [cntF,ihn]
        omega
      · obtain ⟨h0,o,ho',hall⟩:=mem_ready.1 hi
        have ho:l[i]?=some o:=by simpa using ho'
        have hlt:i<l.length:=(List.getElem?_eq_some_iff.1 ho).1
        obtain ⟨hR,hI,hd,hs,ht,hT⟩:=hJ
        obtain ⟨b1,b2,b3⟩:=hB' i o ho
        have hlook:∀ t ∈ o.looksAt l.toArray,match dstIdx t l 0 with | some j=>T j (tv a t) w' | none=>tv a t=tv a0 t:=by
          intro t htm
          cases hj:dstIdx t l 0 with
          | none =>
            refine tv_of (ht t fun j p hp _=>dstIdx_none hj p (List.mem_of_getElem? hp))
          | some j =>
            obtain ⟨e,he,rfl,hb⟩:=b3 t htm j hj
            obtain ⟨_,p,hp,hpd⟩:=dstIdx_some hj
            have:=hT e.on p (by simpa using hp) (hall e he hb) (by rw [hpd];simp)
            rw [hpd] at this
            exact this
        have hop:=look_of hlook (opsOK_at hops ho m a w' (by omega) hR hI)
        rw [Nat.zero_add] at hop
        have hget:∀ d,(listed.setIfInBounds i true).getD i d=true:=fun d=>by
          rw [Array.getD_eq_getD_getElem?,Array.getElem?_setIfInBounds_self_of_lt (by omega)];rfl
        have next:∀ v w1,T i v w1→R w' w1→I (m+1) w1→wpAny P .any l.toArray Q fuel (listed.setIfInBounds i true) (a.put o.dst v) w1:=by
          intro v w1 hTv hR1 hI1
          refine ih (m+1) _ _ _ ?_ (by simpa using hls) (by omega) ⟨hRt _ _ _ hR hR1,hI1,(put_defers' _ _ _).trans hd,(put_size _ _ _).trans hs,fun t h=>?_,fun j p hp hl hn=>?_⟩
          · have:=cntF_set (f:=fun i=>listed.getD i true) (g:=fun j=>(listed.setIfInBounds i true).getD j true) (i:=i) h0 (hget true) (fun j hj=>getD_set_ne true (Ne.symm hj)) hlt
            omega
          · have hne:o.dst ≠ some t:=h i o ho (hget false)
            rw [put_ne _ _ _ hne]
            exact ht t fun j p hp hl=>h j p hp (getD_set_true hl)
          · by_cases e:i=j
            · subst e
              rw [ho] at hp
              obtain rfl:=Option.some.inj hp
              cases hod:o.dst with
              | none=>exact absurd hod hn
              | some d =>
                have:tv (a.put (some d) v) d=v:=by
                  unfold tv
                  rw [Array.getD_eq_getD_getElem?,put_same _ _ _ (by rw [hs];exact (b2 d hod).1)]
                  rfl
                simp only [vof]
                rw [this]
                exact hTv
            · rw [getD_set_ne false e] at hl
              have h2:=hTs j _ w' w1 (hT j p hp hl hn) hR1
              cases hpd:p.dst with
              | none=>exact absurd hpd hn
              | some d =>
                rw [hpd] at h2
                simp only [vof] at h2 ⊢
                rw [show tv (a.put o.dst v) d=tv a d from tv_of (put_ne _ _ _ (fun hod=>hdist i o j p ho hp e d hod hpd))]
                exact h2
        unfold wpOp
        simp only [ho']
        cases hg:o.guard with
        | none =>
          rw [hg] at hop
          rw [if_pos (by simp [Region.wanted,hg])]
          exact .inl (wp_of_gives hop fun v w1 ⟨h1,h2,h3⟩=>next v w1 h1 h2 h3)
        | some g =>
          rw [hg] at hop
          obtain ⟨g1,g2⟩:=hop
          split
          · rename_i hw
            exact .inl (wp_of_gives (g1 hw) fun v w1 ⟨h1,h2,h3⟩=>next v w1 h1 h2 h3)
          · rename_i hw
            obtain ⟨h1,h2⟩:=g2 (by simpa using hw)
            exact next undef w' h1 (hRr _) h2
  refine wp_region_any hm ?_
  refine main l.toArray.size 0 _ a0 w.drew ?_ (by simp) (by simp) ⟨hRr _,hI0,rfl,rfl,fun t _=>rfl,fun j o ho hl=>?_⟩
  · have:∀ n,n≤l.length→cntF (fun i=>(Array.replicate l.toArray.size false).getD i true) n=n:=by
      intro n
      induction n with
      | zero=>intro _;rfl
      | succ n ihn =>
        intro hn
        simp only [cntF]
        rw [ihn (by omega)]
        have:(Array.replicate l.toArray.size false).getD n true=false:=by
          rw [Array.getD_eq_getD_getElem?,Array.getElem?_replicate,if_pos (by simp;omega)];rfl
        rw [if_neg (by rw [this];decide)]
    simpa using this l.length (Nat.le_refl _)
  · exfalso
    rw [Array.getD_eq_getD_getElem?,Array.getElem?_replicate] at hl
    split at hl <;> simp at hl
def lookD (T:Nat→Value→World→Prop) (a0 a:Act) (w:World):List (Tmp × Option Nat)→Prop→Prop
  | [],G=>G
  | (t,some j) :: r,G=>T j (a.eval (.tmp t)) w→lookD T a0 a w r G
  | (t,none) :: r,G=>a.eval (.tmp t)=a0.eval (.tmp t)→lookD T a0 a w r G
def dsB (ops:List Oper) (o:Oper) (ds:List (Tmp × Option Nat)):Bool:=(o.looksAt ops.toArray == ds.map (·.1)) && ds.all fun p=>dstIdx p.1 ops 0 == p.2
theorem look_ds {ops:List Oper} {T:Nat→Value→World→Prop} {a0 a:Act} {w:World} {G:Prop}:∀ {ds:List (Tmp × Option Nat)},(∀ p ∈ ds,dstIdx p.1 ops 0=p.2)→lookD T a0 a w ds G→look ops T a0 a w (ds.map (·.1)) G
  | [],_,h=>h
  | (t,some j) :: r,hd,h=>by
    have e:=hd _ List.mem_cons_self
    simp only at e
    unfold lookD at h
    simp only [List.map_cons,look,e]
    exact fun x=>look_ds (fun p hp=>hd p (List.mem_cons_of_mem _ hp)) (h x)
  | (t,none) :: r,hd,h=>by
    have e:=hd _ List.mem_cons_self
    simp only at e
    unfold lookD at h
    simp only [List.map_cons,look,e]
    exact fun x=>look_ds (fun p hp=>hd p (List.mem_cons_of_mem _ hp)) (h x)
theorem opOK_ds {ops:List Oper} {T:Nat→Value→World→Prop} {R:World→World→Prop} {I:Nat→World→Prop} {a0:Act} {w0:World} {k:Nat} {o:Oper} (ds:List (Tmp × Option Nat)) (hB:dsB ops o ds=true) (hg:o.guard=none)
    (h:∀ (m:Nat) (a:Act) (w:World),m<ops.length→R w0 w→I m w→lookD T a0 a w ds (givesUpon P (fun v w'=>T k v w'∧R w w'∧I (m+1) w') ((execOp a.eval o).run P w))):opOK P ops T R I a0 w0 k o:=by
  intro m a w hm hR hI
  simp only [dsB,Bool.and_eq_true,beq_iff_eq] at hB
  obtain ⟨h1,h2⟩:=hB
  rw [h1]
  refine look_ds (fun p hp=>by have:=List.all_eq_true.1 h2 p hp;simpa using this) ?_
  have:=h m a w hm hR hI
  rw [hg]
  exact this
theorem wp_region_rgl {id:Nat} {l:List Oper} {Q:Exit→Act→World→Prop} {a0:Act} {w:World} (T:Nat→Value→World→Prop) (R:World→World→Prop) (I:Nat→World→Prop)
    (hm:P.follows .mixedOrders=true) (hB:rgB l a0.tmps.size=true) (hRr:∀ a,R a a) (hRt:∀ a b c,R a b→R b c→R a c) (hTs:∀ k v a b,T k v a→R a b→T k v b) (hI0:I 0 w.drew)
    (hops:opsOK P l T R I a0 w.drew l 0) (hfin:∀ w',R w.drew w'→I l.length w'→finP T w' (fun a'=>Q .normal a' w') l 0 a0):(Code.region id l.toArray true).wp P Q a0 w:=wp_region_rg T R I hm hB hRr hRt hTs hI0 hops hfin
end
end
section
section
variable {P:Program}
def XV (u:Value):Value→World→Prop:=fun v _=>v=u
def XT:Value→World→Prop:=fun _ _=>True
def Stay (T:Value→World→Prop):Prop:=∀ v a b,T v a→Gr a b→T v b
theorem stay_V (u:Value):Stay (XV u):=fun _ _ _ h _=>h
theorem stay_T:Stay XT:=fun _ _ _ _ _=>trivial
theorem stay_of {F:Value→World→Prop} (h:∀ v a b,F v a→Below a.heap.size a b→F v b):Stay F:=fun v a b x g=>h v a b x g.out
theorem stay_list {l:List (Value→World→Prop)} (h:∀ T ∈ l,Stay T):∀ k v a b,(l.getD k XT) v a→Gr a b→(l.getD k XT) v b:=by
 intro k v a b hv g;rw [List.getD_eq_getElem?_getD] at *
 cases hk:l[k]? with
 | none=>trivial
 | some T=>rw [hk] at hv;exact h T (List.mem_of_getElem? hk) v a b hv g
def GIx (_:Nat) (_:World):Prop:=True
theorem gx_gen {K:Value→World→Prop} {r:Result Next} (h:∀ K':Value→World→Prop,(∀ v w',K v w'→K' v w')→givesUpon P K' r):givesUpon P K r:=h K fun _ _ h=>h
theorem lookD_imp {T:Nat→Value→World→Prop} {a0 a:Act} {w:World} {G G':Prop} (hG:G→G'):∀ {ds:List (Tmp × Option Nat)},lookD T a0 a w ds G→lookD T a0 a w ds G'
 | [],h=>hG h
 | (t,some j) :: r,h=>fun x=>lookD_imp (ds:=r) hG (h x)
 | (t,none) :: r,h=>fun x=>lookD_imp (ds:=r) hG (h x)
theorem givesUpon_imp {K K':Value→World→Prop} (hK:∀ v w,K v w→K' v w) {r:Result Next} (h:givesUpon P K r):givesUpon P K' r:=by
 unfold givesUpon at *
 split at h
 ·exact hK _ _ h
 ·exact hK _ _ h
 ·exact h.mono fun e w' ⟨v,e1,e2⟩=>⟨v,e1,hK _ _ e2⟩
 ·exact h.elim
theorem opOK_rx {ops:List Oper} {T:Nat→Value→World→Prop} {a0:Act} {w0:World} {k:Nat} {o:Oper} (ds:List (Tmp × Option Nat)) (hB:dsB ops o ds=true) (hg:o.guard=none)
  (h:∀ (a:Act) (w:World),Gr w0 w→lookD T a0 a w ds (givesUpon P (fun v w'=>T k v w'∧Gr w w') ((execOp a.eval o).run P w))):opOK P ops T Gr GIx a0 w0 k o :=
 opOK_ds ds hB hg fun m a w _ hR _=>lookD_imp (fun x=>givesUpon_imp (fun v w' ⟨h1,h2⟩=>⟨h1,h2,trivial⟩) x) (h a w hR)
theorem wp_region_rx {id:Nat} {l:List Oper} {Q:Exit→Act→World→Prop} {a0:Act} {w:World} (tl:List (Value→World→Prop))
  (hm:P.follows .mixedOrders=true) (hB:rgB l a0.tmps.size=true) (hTs:∀ T ∈ tl,Stay T)
  (hops:opsOK P l (fun k=>tl.getD k XT) Gr GIx a0 w.drew l 0) (hfin:∀ w',Gr w.drew w'→finP (fun k=>tl.getD k XT) w' (fun a'=>Q .normal a' w') l 0 a0):(Code.region id l.toArray true).wp P Q a0 w :=
 wp_region_rgl (fun k=>tl.getD k XT) Gr GIx hm hB Gr.refl (fun _ _ _ h k=>h.trans k) (stay_list hTs) trivial hops fun w' h _=>hfin w' h
end
end
end Go.Proofs.YtenckjdiggaonaaGreat
