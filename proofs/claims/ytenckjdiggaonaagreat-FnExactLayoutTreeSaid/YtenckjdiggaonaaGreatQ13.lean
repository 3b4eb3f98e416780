import Derived.Test.YtenckjdiggaonaaGreatQ12
set_option linter.unusedVariables false
set_option maxRecDepth 100000
namespace Go.Proofs.YtenckjdiggaonaaGreat
section
open Go.RowKit
set_option maxHeartbeats 1000000
attribute [local go_sem] growUpon_value growUpon_skip growUpon_enter
def spvalsN:List Sp→List Value
 | []=>[]
 | r :: t=>valsSp r ++ spvalsN t
theorem spvalsN_append (A B:List Sp):spvalsN (A ++ B)=spvalsN A ++ spvalsN B:=by
 induction A with
 | nil=>rfl
 | cons r t ih=>simp [spvalsN,ih]
theorem spvalsN_succ {M:List Sp} {k:Nat} {r:Sp} (h:M[k]?=some r):spvalsN (M.take k) ++ valsSp r=spvalsN (M.take (k+1)):=by
 rw [List.take_add_one,h,Option.toList,spvalsN_append];simp [spvalsN]
theorem spvalsN_get:∀ {M:List Sp} {i:Nat} {r:Sp},M[i]?=some r→∀ j,j<3→(spvalsN M)[i*3+j]?=(valsSp r)[j]?
 | [],i,r,h,_,_=>by simp at h
 | q :: t,0,r,h,j,hj=>by
  simp at h;subst h
  show (valsSp q ++ spvalsN t)[0*3+j]?=_
  rw [List.getElem?_append_left (by simp [valsSp];omega)];simp
 | q :: t,i+1,r,h,j,hj=>by
  show (valsSp q ++ spvalsN t)[(i+1)*3+j]?=_
  rw [List.getElem?_append_right (by simp [valsSp];omega)]
  have:=spvalsN_get (M:=t) (i:=i) (r:=r) (by simpa using h) j hj
  rw [<- this];congr 1;simp [valsSp];omega
def SpR (w:World) (v:Value) (L:List Sp):Prop:=∃ A c,v=.slice A L.length c∧SpV w A L
theorem SpR.keep {w w':World} {v:Value} {L:List Sp} (h:SpR w v L) (hb:Below w.heap.size w w'):SpR w' v L:=let ⟨A,c,e,n⟩:=h;⟨A,c,e,n.keep hb⟩
theorem SpR.own {w:World} {base n:Nat} {v:Value} {M:List Sp} {T:TypeId} (h:w.ownsRow base T 3 v n (spvalsN M)) (hn:n=M.length):SpR w v M:=by
 subst hn
 have hl:=h.lt
 have hc:=fun g hg=>h.cells (g:=g) hg
 rcases h.2 with ⟨rfl,h0⟩ | ⟨g,cap,cur,rfl,_⟩
 ·exact ⟨none,0,by rw [h0],⟨fun h=>absurd h (by omega)⟩⟩
 ·refine ⟨_,cap,rfl,⟨fun _=>⟨g,0,rfl,(hl g rfl).2,fun i r hr=>?_⟩⟩⟩
  have e:∀ j,j<3→∀ u,(valsSp r)[j]?=some u→w.cell? ⟨g,0+i*3+j,none⟩=some u:=fun j hj u hu=>by
   have h1:=hc g rfl (i*3+j) u ((spvalsN_get hr j hj).trans hu)
   have hadd:(⟨g,0,none⟩:Addr).add (i*3+j)=⟨g,i*3+j,none⟩:=by unfold Addr.add;split <;> simp_all
   rw [hadd] at h1
   rwa [Nat.zero_add]
  exact ⟨e 0 (by omega) _ rfl,e 1 (by omega) _ rfl,e 2 (by omega) _ rfl⟩
theorem span_infoN:∃ (i:TypeInfo) (z:Value),Tryz.prog.info? 200=some i∧i.zero=some z∧i.size=3∧i.bytes=24∧z.cells.size=3:=by
 have hinfo:(Tryz.prog.info? 200).map (fun i=>(i.zero,i.size,i.bytes))=some (some (.agg #[.int .i64 0,.int .i64 0,.int .i64 0]),3,24):=by kernel_rfl
 obtain ⟨i,hi,h1,h2,h3⟩:=info_parts hinfo
 exact ⟨i,_,hi,h1,h2,h3,rfl⟩
theorem newSp3 (W:World) (r:Sp) (T:TypeId):∀ (j:Nat) (u:Value),(valsSp r)[j]?=some u→(W.alloc (.cells #[.int .i64 r.sa,.int .i64 r.many,.int .i64 r.need] T)).cell? ((⟨W.heap.size,0,none⟩:Addr).add j)=some u:=fun j u h=>by
 have hadd:(⟨W.heap.size,0,none⟩:Addr).add j=⟨W.heap.size,j,none⟩:=by unfold Addr.add;split <;> simp_all
 rw [hadd]
 exact (cellS (newS W _) j).trans (by simpa [valsSp] using h)
theorem valsSp_one (r:Sp):∀ u ∈ valsSp r,u.oneCell'=true:=by intro u hu;simp [valsSp] at hu;rcases hu with rfl | rfl | rfl <;> rfl
theorem own_belowN {w w':World} {base:Nat} {e:TypeId} {size:Nat} {v:Value} {n:Nat} {xs:List Value} (h:w.ownsRow base e size v n xs) (hb:Below w.heap.size w w'):w'.ownsRow base e size v n xs :=
 h.kept (row:=none) ⟨hb.os,hb.tape,hb.output,hb.size,fun k hk _=>hb.block k hk⟩ (by cases v.ownBlock <;> simp)
theorem colSpans_w (A1 A2 A3:Option Addr) (c1 n1 c2 n2 c3:Nat) (L:List Ce) (w:World) (h:CeV w A3 L) (hL:L.length≤10) (hsm:∀ p ∈ L,smW p) :
  Calls Tryz.prog 144 #[.agg #[.slice A1 n1 c1,.slice A2 n2 c2,.slice A3 L.length c3]] w fun e w'=>(∃ v,e=.returned v∧SpR w' v (L.map acM))∧Below w.heap.size w w':=by
 obtain ⟨ti,tz,ti1,ti2,ti3,ti4,ti5⟩:=span_infoN
 have HSM:=hD hsm
 clear hsm
 have ho0:=World.ownsRow_lit (base:=(w.alloc (.cells #[.slice A1 n1 c1,.slice A2 n2 c2,.slice A3 L.length c3] 123 (0,0))).heap.size) (e:=200) (size:=3) (w.alloc (.cells #[.slice A1 n1 c1,.slice A2 n2 c2,.slice A3 L.length c3] 123 (0,0))) #[] 0 (Nat.le_refl _) (by decide) rfl
 rw [World.size_alloc] at ho0
 have HO:=hD (show ((w.alloc (.cells #[.slice A1 n1 c1,.slice A2 n2 c2,.slice A3 L.length c3] 123 (0,0))).alloc (.cells #[] 200 (0,0))).ownsRow (w.heap.size+1) 200 3 (.slice (some ⟨w.heap.size+1,0,none⟩) 0 0) 0 (spvalsN []) from ho0)
 have HG:=hD ((Below.heap_alloc (w.alloc (.cells #[.slice A1 n1 c1,.slice A2 n2 c2,.slice A3 L.length c3] 123 (0,0))) (.cells #[] 200 (0,0)) w.heap.size (by simp)).trans (newS w (.cells #[.slice A1 n1 c1,.slice A2 n2 c2,.slice A3 L.length c3] 123 (0,0))))
 have HB:=hD (balloc (o:=(.cells #[] 200 (0,0))) (balloc (o:=(.cells #[.slice A1 n1 c1,.slice A2 n2 c2,.slice A3 L.length c3] 123 (0,0))) (Below.refl w.heap.size w)))
 clear ho0
 go_enter Tryz.func144,Tryz.ntmps144
 go_wp2_with fail
 go_loopw [3,4] (fun out i wr=>∃ k:Nat,k≤L.length∧i=.int .i64 k∧wr.ownsRow (w.heap.size+1) 200 3 out k (spvalsN ((L.map acM).take k))∧wr.heap[w.heap.size]?=some (.cells #[.slice A1 n1 c1,.slice A2 n2 c2,.slice A3 L.length c3] 123 (0,0))∧Below w.heap.size w wr) (fun _ i _=>L.length - (intOf i).toNat)
 case atStart=>exact ⟨0,by omega,rfl,HO.out,HG.out,HB.out⟩
 case round =>
  obtain ⟨k,hk,rfl,ho,hg,hB⟩:=hrel
  clear HO HB HG
  have g2:=cellS hg 2
  by_cases hlt:k<L.length
  ·have hd:decide ((k:Int)<(L.length:Int))=true:=by simpa using hlt
   obtain ⟨b,off,rfl,hb,hp⟩:=(h.keep hB).cells (by omega)
   have hget:L[k]?=some L[k]:=List.getElem?_eq_getElem hlt
   obtain ⟨d0,d1,d2,d3,d4,d5,d6,d7,d8⟩:=hp k _ hget
   have hsk:smW L[k]:=HSM.out _ (List.getElem_mem hlt)
   generalize hx:L[k]=p at *
   have HTS:=hD (spvalsN_succ (show (L.map acM)[k]?=some (acM p) by rw [List.getElem?_map,hget];rfl))
   have hob:=ho.lt
   have HO:=hD ho
   have HB:=hD hB
   have HG:=hD hg
   clear ho hB hg hp hget hx
   go_upto_region 6 with (fail)
   refine wp_genGG (fun W=>W.heap[wr.heap.size]?=some (.cells #[.int .i64 p.co,.int .i64 p.ro,.int .i64 p.mc,.int .i64 p.mr,.int .i64 p.cw,.int .i64 p.ch,.int .i64 p.sk,.int .i64 p.px,.int .i64 p.py] 80 (0,0))∧Below wr.heap.size wr W) ⟨newS _ _,balloc (Below.refl _ _)⟩ (fun W h0=>?_)
   clear d0 d1 d2 d3 d4 d5 d6 d7 d8 g2
   obtain ⟨hx,hbW⟩:=h0
   have x0:=cellS hx 0
   have x1:=cellS hx 2
   have x2:=cellS hx 4
   have x3:=cellS hx 7
   have hlg:=ltS HG.out
   have hsW:=hbW.size
   replace HO:=hD (own_belowN HO.out hbW)
   replace HG:=hD ((hbW.block _ hlg).trans HG.out)
   replace HB:=hD (bkeep2 HB.out hbW)
   obtain ⟨⟨b1,b2⟩,⟨b3,b4⟩,⟨b5,b6⟩,⟨b7,b8⟩⟩:=hsk
   clear hx hbW
   go_wp2_with (at_builtin;refine wpList_append_own _ rfl _ _ 181 rfl (w.heap.size+1) 200 ti tz 3 24 Tryz.underlying181 ti1 ti2 ti3 ti4 ti5 (by decide) _ _ _ rfl (HO.out.alloc _) ⟨W.heap.size,0,none⟩ 1 1 (valsSp (acM p)) rfl rfl (newSp3 _ (acM p) _) (valsSp_one _) (by simp only [maxLen];omega) (by omega) (by simp;omega) ?_)
   intro v5 w5 how5 hgr5 _
   rw [HTS.out] at how5
   have hg5:=(hgr5.block w.heap.size (by simp;omega) (fun e=>by have:=hob _ e.symm;omega)).trans ((Below.heap_alloc _ _ _ (by omega)).trans HG.out)
   replace HB:=hD (below_own HB.out hgr5 hob (by omega) (Nat.le_refl _))
   replace HO:=hD how5
   replace HG:=hD hg5
   clear how5 hgr5 hob x0 x1 x2 x3 hg5
   go_wp2
   go_roundw
   case rel=>exact ⟨k+1,by omega,by go_num,by simpa using HO.out,HG.out,HB.out⟩
   case measure=>simp [intOf];omega
  ·have hd:decide ((k:Int)<(L.length:Int))=false:=decide_eq_false (by omega)
   obtain rfl:k=L.length:=by omega
   have he:(L.map acM).take L.length=L.map acM:=List.take_of_length_le (by simp)
   rw [he] at ho
   have HR:=hD (SpR.own ho (by simp))
   have HB:=hD hB
   clear ho hB he hg
   go_wp2
   go_ret
   exact ⟨⟨_,rfl,HR.out⟩,HB.out⟩
theorem rowSpans_w (A1 A2 A3:Option Addr) (c1 n1 c2 n2 c3:Nat) (L:List Ce) (w:World) (h:CeV w A3 L) (hL:L.length≤10) (hsm:∀ p ∈ L,smW p) :
  Calls Tryz.prog 145 #[.agg #[.slice A1 n1 c1,.slice A2 n2 c2,.slice A3 L.length c3]] w fun e w'=>(∃ v,e=.returned v∧SpR w' v (L.map dnM))∧Below w.heap.size w w':=by
 obtain ⟨ti,tz,ti1,ti2,ti3,ti4,ti5⟩:=span_infoN
 have HSM:=hD hsm
 clear hsm
 have ho0:=World.ownsRow_lit (base:=(w.alloc (.cells #[.slice A1 n1 c1,.slice A2 n2 c2,.slice A3 L.length c3] 123 (0,0))).heap.size) (e:=200) (size:=3) (w.alloc (.cells #[.slice A1 n1 c1,.slice A2 n2 c2,.slice A3 L.length c3] 123 (0,0))) #[] 0 (Nat.le_refl _) (by decide) rfl
 rw [World.size_alloc] at ho0
 have HO:=hD (show ((w.alloc (.cells #[.slice A1 n1 c1,.slice A2 n2 c2,.slice A3 L.length c3] 123 (0,0))).alloc (.cells #[] 200 (0,0))).ownsRow (w.heap.size+1) 200 3 (.slice (some ⟨w.heap.size+1,0,none⟩) 0 0) 0 (spvalsN []) from ho0)
 have HG:=hD ((Below.heap_alloc (w.alloc (.cells #[.slice A1 n1 c1,.slice A2 n2 c2,.slice A3 L.length c3] 123 (0,0))) (.cells #[] 200 (0,0)) w.heap.size (by simp)).trans (newS w (.cells #[.slice A1 n1 c1,.slice A2 n2 c2,.slice A3 L.length c3] 123 (0,0))))
 have HB:=hD (balloc (o:=(.cells #[] 200 (0,0))) (balloc (o:=(.cells #[.slice A1 n1 c1,.slice A2 n2 c2,.slice A3 L.length c3] 123 (0,0))) (Below.refl w.heap.size w)))
 clear ho0
 go_enter Tryz.func145,Tryz.ntmps145
 go_wp2_with fail
 go_loopw [3,4] (fun out i wr=>∃ k:Nat,k≤L.length∧i=.int .i64 k∧wr.ownsRow (w.heap.size+1) 200 3 out k (spvalsN ((L.map dnM).take k))∧wr.heap[w.heap.size]?=some (.cells #[.slice A1 n1 c1,.slice A2 n2 c2,.slice A3 L.length c3] 123 (0,0))∧Below w.heap.size w wr) (fun _ i _=>L.length - (intOf i).toNat)
 case atStart=>exact ⟨0,by omega,rfl,HO.out,HG.out,HB.out⟩
 case round =>
  obtain ⟨k,hk,rfl,ho,hg,hB⟩:=hrel
  clear HO HB HG
  have g2:=cellS hg 2
  by_cases hlt:k<L.length
  ·have hd:decide ((k:Int)<(L.length:Int))=true:=by simpa using hlt
   obtain ⟨b,off,rfl,hb,hp⟩:=(h.keep hB).cells (by omega)
   have hget:L[k]?=some L[k]:=List.getElem?_eq_getElem hlt
   obtain ⟨d0,d1,d2,d3,d4,d5,d6,d7,d8⟩:=hp k _ hget
   have hsk:smW L[k]:=HSM.out _ (List.getElem_mem hlt)
   generalize hx:L[k]=p at *
   have HTS:=hD (spvalsN_succ (show (L.map dnM)[k]?=some (dnM p) by rw [List.getElem?_map,hget];rfl))
   have hob:=ho.lt
   have HO:=hD ho
   have HB:=hD hB
   have HG:=hD hg
   clear ho hB hg hp hget hx
   go_upto_region 6 with (fail)
   refine wp_genGG (fun W=>W.heap[wr.heap.size]?=some (.cells #[.int .i64 p.co,.int .i64 p.ro,.int .i64 p.mc,.int .i64 p.mr,.int .i64 p.cw,.int .i64 p.ch,.int .i64 p.sk,.int .i64 p.px,.int .i64 p.py] 80 (0,0))∧Below wr.heap.size wr W) ⟨newS _ _,balloc (Below.refl _ _)⟩ (fun W h0=>?_)
   clear d0 d1 d2 d3 d4 d5 d6 d7 d8 g2
   obtain ⟨hx,hbW⟩:=h0
   have x0:=cellS hx 1
   have x1:=cellS hx 3
   have x2:=cellS hx 5
   have x3:=cellS hx 8
   have hlg:=ltS HG.out
   have hsW:=hbW.size
   replace HO:=hD (own_belowN HO.out hbW)
   replace HG:=hD ((hbW.block _ hlg).trans HG.out)
   replace HB:=hD (bkeep2 HB.out hbW)
   obtain ⟨⟨b1,b2⟩,⟨b3,b4⟩,⟨b5,b6⟩,⟨b7,b8⟩⟩:=hsk
   clear hx hbW
   go_wp2_with (at_builtin;refine wpList_append_own _ rfl _ _ 181 rfl (w.heap.size+1) 200 ti tz 3 24 Tryz.underlying181 ti1 ti2 ti3 ti4 ti5 (by decide) _ _ _ rfl (HO.out.alloc _) ⟨W.heap.size,0,none⟩ 1 1 (valsSp (dnM p)) rfl rfl (newSp3 _ (dnM p) _) (valsSp_one _) (by simp only [maxLen];omega) (by omega) (by simp;omega) ?_)
   intro v5 w5 how5 hgr5 _
   rw [HTS.out] at how5
   have hg5:=(hgr5.block w.heap.size (by simp;omega) (fun e=>by have:=hob _ e.symm;omega)).trans ((Below.heap_alloc _ _ _ (by omega)).trans HG.out)
   replace HB:=hD (below_own HB.out hgr5 hob (by omega) (Nat.le_refl _))
   replace HO:=hD how5
   replace HG:=hD hg5
   clear how5 hgr5 hob x0 x1 x2 x3 hg5
   go_wp2
   go_roundw
   case rel=>exact ⟨k+1,by omega,by go_num,by simpa using HO.out,HG.out,HB.out⟩
   case measure=>simp [intOf];omega
  ·have hd:decide ((k:Int)<(L.length:Int))=false:=decide_eq_false (by omega)
   obtain rfl:k=L.length:=by omega
   have he:(L.map dnM).take L.length=L.map dnM:=List.take_of_length_le (by simp)
   rw [he] at ho
   have HR:=hD (SpR.own ho (by simp))
   have HB:=hD hB
   clear ho hB he hg
   go_wp2
   go_ret
   exact ⟨⟨_,rfl,HR.out⟩,HB.out⟩
end
section
open Go.RowKit
set_option maxHeartbeats 1000000
attribute [local go_sem] growUpon_value growUpon_skip growUpon_enter
attribute [local go_sem] givesUpon_value givesUpon_skip givesUpon_enter
def NRz (w:World) (v:Value) (n:Nat) (L:List Int):Prop:=∃ A c,v=.slice A n c∧NV w A L
theorem NRz.keep {w w':World} {v:Value} {n:Nat} {L:List Int} (h:NRz w v n L) (hb:Below w.heap.size w w'):NRz w' v n L:=let ⟨A,c,e,q⟩:=h;⟨A,c,e,q.keep hb⟩
theorem gridRequest_w (A1:Option Addr) (c1:Nat) (L1:List Ln) (A2:Option Addr) (c2:Nat) (L2:List Ln) (A3:Option Addr) (c3:Nat) (L3:List Ce) (w:World) (h1:LnV w A1 L1) (h2:LnV w A2 L2) (h3:CeV w A3 L3) (v1:linesB L1=true) (v2:linesB L2=true) (hl8:L3.length≤10) (hsm:∀ p ∈ L3,smW p) (hs1:spansW L1.length (L3.map acM)) (hs2:spansW L2.length (L3.map dnM)) :
  Calls Tryz.prog 201 #[.agg #[.slice A1 L1.length c1,.slice A2 L2.length c2,.slice A3 L3.length c3]] w fun e w'=>e=.returned (.tuple #[.int .i64 (sumI (wishM L1 (L3.map acM))),.int .i64 (sumI (wishM L2 (L3.map dnM)))])∧Below w.heap.size w w':=by
 obtain ⟨m1,q1⟩:=wish_smalW v1 hs1
 obtain ⟨m2,q2⟩:=wish_smalW v2 hs2
 have n1:=(linesB_len v1).2
 have n2:=(linesB_len v2).2
 have hB0:Below w.heap.size w (w.alloc (.cells #[.slice A1 L1.length c1,.slice A2 L2.length c2,.slice A3 L3.length c3] 123 (0,0))):=balloc (Below.refl _ _)
 have hx0:=newS w (.cells #[.slice A1 L1.length c1,.slice A2 L2.length c2,.slice A3 L3.length c3] 123 (0,0))
 have HV1:=hD (h1.keep hB0)
 have HV2:=hD (h2.keep hB0)
 have HV3:=hD (h3.keep hB0)
 have HX:=hD hx0
 have HB:=hD hB0
 have HS1:=hD v1
 have HS2:=hD v2
 have HM1:=hD m1
 have HM2:=hD m2
 have HSM:=hD hsm
 have HK1:=hD hs1
 have HK2:=hD hs2
 have HL1:=hD q1
 have HL2:=hD q2
 clear hB0 hx0 h1 h2 h3 v1 v2 m1 m2 hsm hs1 hs2 q1 q2
 go_enter Tryz.func201,Tryz.ntmps201
 have d0:=cellS HX.out 0
 have d1:=cellS HX.out 1
 have d2:=cellS HX.out 2
 have lx:=ltS HX.out
 go_wp2_with fail
 refine wp_region_rx (XV (.pointer (some ⟨w.heap.size,0,none⟩)) :: XV (.slice A1 L1.length c1) :: XV (.pointer (some ⟨w.heap.size,2,none⟩)) :: XV (.slice A3 L3.length c3) :: (fun v w=>SpR w v (L3.map acM)) :: (fun v w=>NRz w v L1.length (wishM L1 (L3.map acM))) :: (fun v w=>NRz w v L1.length (wishM L1 (L3.map acM))) :: []) (by kernel_rfl) (by kernel_rfl) ?hTs ?hops ?hfin
 case hTs =>
  intro T hT
  simp only [List.mem_cons,List.not_mem_nil,or_false] at hT
  rcases hT with rfl | rfl | rfl | rfl | rfl | rfl | rfl <;> first | exact stay_V _ | exact stay_T | exact stay_of (fun v a b x g=>x.keep g) | exact stay_of (fun v a b x g=>x)
 case hops =>
  refine ⟨opOK_rx [(1,none)] (by kernel_rfl) rfl ?_,?_⟩
  ·intro act w' hw' h1
   have hk:=evk act
   have hf:=evf act
   generalize act.eval=ρ at *
   replace h1:ρ (.tmp 1)=.pointer (some ⟨w.heap.size,0,none⟩):=h1
   refine gx_gen (fun K hK=>?_)
   obtain ⟨hc,hf'⟩:=bcell (bdrewn hw'.out)
   go_simp
   exact hK _ _ ⟨rfl,Gr.refl _⟩
  refine ⟨opOK_rx [(6,some 0)] (by kernel_rfl) rfl ?_,?_⟩
  ·intro act w' hw' h1
   have hk:=evk act
   have hf:=evf act
   generalize act.eval=ρ at *
   replace h1:ρ (.tmp 6)=.pointer (some ⟨w.heap.size,0,none⟩):=h1
   refine gx_gen (fun K hK=>?_)
   obtain ⟨hc,hf'⟩:=bcell (bdrewn hw'.out)
   go_simp
   exact hK _ _ ⟨rfl,Gr.refl _⟩
  refine ⟨opOK_rx [(1,none)] (by kernel_rfl) rfl ?_,?_⟩
  ·intro act w' hw' h1
   have hk:=evk act
   have hf:=evf act
   generalize act.eval=ρ at *
   replace h1:ρ (.tmp 1)=.pointer (some ⟨w.heap.size,0,none⟩):=h1
   refine gx_gen (fun K hK=>?_)
   obtain ⟨hc,hf'⟩:=bcell (bdrewn hw'.out)
   go_simp
   exact hK _ _ ⟨rfl,Gr.refl _⟩
  refine ⟨opOK_rx [(8,some 2)] (by kernel_rfl) rfl ?_,?_⟩
  ·intro act w' hw' h1
   have hk:=evk act
   have hf:=evf act
   generalize act.eval=ρ at *
   replace h1:ρ (.tmp 8)=.pointer (some ⟨w.heap.size,2,none⟩):=h1
   refine gx_gen (fun K hK=>?_)
   obtain ⟨hc,hf'⟩:=bcell (bdrewn hw'.out)
   go_simp
   exact hK _ _ ⟨rfl,Gr.refl _⟩
  refine ⟨opOK_rx [(9,some 3)] (by kernel_rfl) rfl ?_,?_⟩
  ·intro act w' hw' h1
   have hk:=evk act
   have hf:=evf act
   generalize act.eval=ρ at *
   replace h1:ρ (.tmp 9)=.slice A3 L3.length c3:=h1
   refine gx_gen (fun K hK=>?_)
   obtain ⟨hc,hf'⟩:=bcell (bdrewn hw'.out)
   go_simp
   (with_reducible refine (each_acrossW A3 c3 L3 _ (HV3.out.keep (bdrewn hw'.out)) (by omega) HSM.out).mono ?_);rintro e w1 ⟨rfl,hr1,hb1⟩;exact ⟨_,rfl,hK _ _ ⟨⟨_,_,by rw [List.length_map],hr1.v⟩,hb1⟩⟩
  refine ⟨opOK_rx [(7,some 1),(10,some 4)] (by kernel_rfl) rfl ?_,?_⟩
  ·intro act w' hw' h1 h2
   have hk:=evk act
   have hf:=evf act
   generalize act.eval=ρ at *
   replace h1:ρ (.tmp 7)=.slice A1 L1.length c1:=h1
   replace h2:(fun v w=>SpR w v (L3.map acM)) (ρ (.tmp 10)) w':=h2
   refine gx_gen (fun K hK=>?_)
   obtain ⟨hc,hf'⟩:=bcell (bdrewn hw'.out)
   go_simp
   obtain ⟨A,c,e,hs⟩:=h2;rw [e];(with_reducible refine (lineRequests_w A1 c1 L1 A c (L3.map acM) _ (HV1.out.keep (bdrewn hw'.out)) HS1.out hs HK1.out).mono ?_);rintro e w1 ⟨rfl,hr1,hb1⟩;exact ⟨_,rfl,hK _ _ ⟨⟨_,_,rfl,hr1.nv⟩,hb1⟩⟩
  refine ⟨opOK_rx [(11,some 5)] (by kernel_rfl) rfl ?_,?_⟩
  ·intro act w' hw' h1
   have hk:=evk act
   have hf:=evf act
   generalize act.eval=ρ at *
   replace h1:(fun v w=>NRz w v L1.length (wishM L1 (L3.map acM))) (ρ (.tmp 11)) w':=h1
   refine gx_gen (fun K hK=>?_)
   obtain ⟨hc,hf'⟩:=bcell (bdrewn hw'.out)
   go_simp
   exact hK _ _ ⟨h1,Gr.refl _⟩
  exact trivial
 case hfin =>
  intro w1 hg1
  intro v6 t6
  replace t6:v6=.pointer (some ⟨w.heap.size,0,none⟩):=t6
  subst t6
  intro v7 t7
  replace t7:v7=.slice A1 L1.length c1:=t7
  subst t7
  intro v8 t8
  replace t8:v8=.pointer (some ⟨w.heap.size,2,none⟩):=t8
  subst t8
  intro v9 t9
  replace t9:v9=.slice A3 L3.length c3:=t9
  subst t9
  intro v10 t10
  replace t10:(fun v w=>SpR w v (L3.map acM)) v10 w1:=t10
  intro v11 t11
  replace t11:(fun v w=>NRz w v L1.length (wishM L1 (L3.map acM))) v11 w1:=t11
  intro v4 t4
  replace t4:(fun v w=>NRz w v L1.length (wishM L1 (L3.map acM))) v4 w1:=t4
  have hb1:=bdrewn hg1.out
  clear hg1
  simp only [finP,Act.put,List.setIfInBounds_toArray,List.set_cons_succ,List.set_cons_zero]
  obtain ⟨B1,e1,rfl,hn1⟩:=t4
  clear t10 t11 d0 d1 d2 lx
  replace HX:=hD ((hb1.block _ (gE HX.out).1).trans HX.out)
  replace HV1:=hD (HV1.out.keep hb1)
  replace HV2:=hD (HV2.out.keep hb1)
  replace HV3:=hD (HV3.out.keep hb1)
  replace HB:=hD (bkeep2 HB.out hb1)
  clear hb1
  have HN1:=hD hn1
  clear hn1
  have d0:=cellS HX.out 0
  have d1:=cellS HX.out 1
  have d2:=cellS HX.out 2
  have lx:=ltS HX.out
  go_wp2_with fail
  refine wp_region_rx (XV (.pointer (some ⟨w.heap.size,1,none⟩)) :: XV (.slice A2 L2.length c2) :: XV (.pointer (some ⟨w.heap.size,2,none⟩)) :: XV (.slice A3 L3.length c3) :: (fun v w=>SpR w v (L3.map dnM)) :: (fun v w=>NRz w v L2.length (wishM L2 (L3.map dnM))) :: (fun v w=>NRz w v L2.length (wishM L2 (L3.map dnM))) :: []) (by kernel_rfl) (by kernel_rfl) ?hTs ?hops ?hfin
  case hTs =>
   intro T hT
   simp only [List.mem_cons,List.not_mem_nil,or_false] at hT
   rcases hT with rfl | rfl | rfl | rfl | rfl | rfl | rfl <;> first | exact stay_V _ | exact stay_T | exact stay_of (fun v a b x g=>x.keep g) | exact stay_of (fun v a b x g=>x)
  case hops =>
   refine ⟨opOK_rx [(1,none)] (by kernel_rfl) rfl ?_,?_⟩
   ·intro act w' hw' h1
    have hk:=evk act
    have hf:=evf act
    generalize act.eval=ρ at *
    replace h1:ρ (.tmp 1)=.pointer (some ⟨w.heap.size,0,none⟩):=h1
    refine gx_gen (fun K hK=>?_)
    obtain ⟨hc,hf'⟩:=bcell (bdrewn hw'.out)
    go_simp
    exact hK _ _ ⟨rfl,Gr.refl _⟩
   refine ⟨opOK_rx [(12,some 0)] (by kernel_rfl) rfl ?_,?_⟩
   ·intro act w' hw' h1
    have hk:=evk act
    have hf:=evf act
    generalize act.eval=ρ at *
    replace h1:ρ (.tmp 12)=.pointer (some ⟨w.heap.size,1,none⟩):=h1
    refine gx_gen (fun K hK=>?_)
    obtain ⟨hc,hf'⟩:=bcell (bdrewn hw'.out)
    go_simp
    exact hK _ _ ⟨rfl,Gr.refl _⟩
   refine ⟨opOK_rx [(1,none)] (by kernel_rfl) rfl ?_,?_⟩
   ·intro act w' hw' h1
    have hk:=evk act
    have hf:=evf act
    generalize act.eval=ρ at *
    replace h1:ρ (.tmp 1)=.pointer (some ⟨w.heap.size,0,none⟩):=h1
    refine gx_gen (fun K hK=>?_)
    obtain ⟨hc,hf'⟩:=bcell (bdrewn hw'.out)
    go_simp
    exact hK _ _ ⟨rfl,Gr.refl _⟩
   refine ⟨opOK_rx [(14,some 2)] (by kernel_rfl) rfl ?_,?_⟩
   ·intro act w' hw' h1
    have hk:=evk act
    have hf:=evf act
    generalize act.eval=ρ at *
    replace h1:ρ (.tmp 14)=.pointer (some ⟨w.heap.size,2,none⟩):=h1
    refine gx_gen (fun K hK=>?_)
    obtain ⟨hc,hf'⟩:=bcell (bdrewn hw'.out)
    go_simp
    exact hK _ _ ⟨rfl,Gr.refl _⟩
   refine ⟨opOK_rx [(15,some 3)] (by kernel_rfl) rfl ?_,?_⟩
   ·intro act w' hw' h1
    have hk:=evk act
    have hf:=evf act
    generalize act.eval=ρ at *
    replace h1:ρ (.tmp 15)=.slice A3 L3.length c3:=h1
    refine gx_gen (fun K hK=>?_)
    obtain ⟨hc,hf'⟩:=bcell (bdrewn hw'.out)
    go_simp
    (with_reducible refine (each_downW A3 c3 L3 _ (HV3.out.keep (bdrewn hw'.out)) (by omega) HSM.out).mono ?_);rintro e w1 ⟨rfl,hr1,hb1⟩;exact ⟨_,rfl,hK _ _ ⟨⟨_,_,by rw [List.length_map],hr1.v⟩,hb1⟩⟩
   refine ⟨opOK_rx [(13,some 1),(16,some 4)] (by kernel_rfl) rfl ?_,?_⟩
   ·intro act w' hw' h1 h2
    have hk:=evk act
    have hf:=evf act
    generalize act.eval=ρ at *
    replace h1:ρ (.tmp 13)=.slice A2 L2.length c2:=h1
    replace h2:(fun v w=>SpR w v (L3.map dnM)) (ρ (.tmp 16)) w':=h2
    refine gx_gen (fun K hK=>?_)
    obtain ⟨hc,hf'⟩:=bcell (bdrewn hw'.out)
    go_simp
    obtain ⟨A,c,e,hs⟩:=h2;rw [e];(with_reducible refine (lineRequests_w A2 c2 L2 A c (L3.map dnM) _ (HV2.out.keep (bdrewn hw'.out)) HS2.out hs HK2.out).mono ?_);rintro e w1 ⟨rfl,hr1,hb1⟩;exact ⟨_,rfl,hK _ _ ⟨⟨_,_,rfl,hr1.nv⟩,hb1⟩⟩
   refine ⟨opOK_rx [(17,some 5)] (by kernel_rfl) rfl ?_,?_⟩
   ·intro act w' hw' h1
    have hk:=evk act
    have hf:=evf act
    generalize act.eval=ρ at *
    replace h1:(fun v w=>NRz w v L2.length (wishM L2 (L3.map dnM))) (ρ (.tmp 17)) w':=h1
    refine gx_gen (fun K hK=>?_)
    obtain ⟨hc,hf'⟩:=bcell (bdrewn hw'.out)
    go_simp
    exact hK _ _ ⟨h1,Gr.refl _⟩
   exact trivial
  case hfin =>
   intro w2 hg2
   intro v12 t12
   replace t12:v12=.pointer (some ⟨w.heap.size,1,none⟩):=t12
   subst t12
   intro v13 t13
   replace t13:v13=.slice A2 L2.length c2:=t13
   subst t13
   intro v14 t14
   replace t14:v14=.pointer (some ⟨w.heap.size,2,none⟩):=t14
   subst t14
   intro v15 t15
   replace t15:v15=.slice A3 L3.length c3:=t15
   subst t15
   intro v16 t16
   replace t16:(fun v w=>SpR w v (L3.map dnM)) v16 w2:=t16
   intro v17 t17
   replace t17:(fun v w=>NRz w v L2.length (wishM L2 (L3.map dnM))) v17 w2:=t17
   intro v5 t5
   replace t5:(fun v w=>NRz w v L2.length (wishM L2 (L3.map dnM))) v5 w2:=t5
   have hb2:=bdrewn hg2.out
   clear hg2
   simp only [finP,Act.put,List.setIfInBounds_toArray,List.set_cons_succ,List.set_cons_zero]
   obtain ⟨B2,e2,rfl,hn2⟩:=t5
   clear t16 t17 d0 d1 d2 lx
   replace HX:=hD ((hb2.block _ (gE HX.out).1).trans HX.out)
   replace HN1:=hD (HN1.out.keep hb2)
   replace HB:=hD (bkeep2 HB.out hb2)
   clear hb2
   have HN2:=hD hn2
   clear hn2
   go_wp2_with fail
   with_reducible refine (sum_b B1 e1 L1.length _ _ HN1.out HL1.out.symm (by omega) HM1.out).mono ?_
   rintro e w3 ⟨rfl,hb3⟩
   replace HX:=hD ((hb3.block _ (gE HX.out).1).trans HX.out)
   replace HN2:=hD (HN2.out.keep hb3)
   replace HB:=hD (bkeep2 HB.out hb3)
   clear hb3
   go_wp2_with fail
   with_reducible refine (sum_b B2 e2 L2.length _ _ HN2.out HL2.out.symm (by omega) HM2.out).mono ?_
   rintro e w4 ⟨rfl,hb4⟩
   replace HX:=hD ((hb4.block _ (gE HX.out).1).trans HX.out)
   replace HB:=hD (bkeep2 HB.out hb4)
   clear hb4
   go_wp2
   exact bodyPost_ret (v:=.tuple #[.int .i64 (sumI (wishM L1 (L3.map acM))),.int .i64 (sumI (wishM L2 (L3.map dnM)))]) (by simp only [results,Tryz.results201];go_simp) rfl ⟨rfl,HB.out⟩
theorem sgridRequest_w (A1:Option Addr) (c1:Nat) (L1:List Ln) (A2:Option Addr) (c2:Nat) (L2:List Ln) (A3:Option Addr) (c3:Nat) (L3:List Ce) (w:World) (h1:LnV w A1 L1) (h2:LnV w A2 L2) (h3:CeV w A3 L3) (v1:linesB L1=true) (v2:linesB L2=true) (hl8:L3.length≤10) (hsm:∀ p ∈ L3,smW p) (hs1:spansW L1.length (L3.map acM)) (hs2:spansW L2.length (L3.map dnM)) (k1:L1.length≤c1) (k2:L2.length≤c2) :
  Calls Tryz.prog 97 #[.agg #[.slice A1 L1.length c1,.slice A2 L2.length c2,.slice A3 L3.length c3]] w fun e w'=>e=.returned (.tuple #[.int .i64 (sumI (wishM L1 (L3.map acM))),.int .i64 (sumI (wishM L2 (L3.map dnM)))])∧Below w.heap.size w w':=by
 obtain ⟨m1,q1⟩:=wish_smalW v1 hs1
 obtain ⟨m2,q2⟩:=wish_smalW v2 hs2
 have n1:=(linesB_len v1).2
 have n2:=(linesB_len v2).2
 have hB0:Below w.heap.size w (w.alloc (.cells #[.slice A1 L1.length c1,.slice A2 L2.length c2,.slice A3 L3.length c3] 123 (0,0))):=balloc (Below.refl _ _)
 have hx0:=newS w (.cells #[.slice A1 L1.length c1,.slice A2 L2.length c2,.slice A3 L3.length c3] 123 (0,0))
 have HV1:=hD (h1.keep hB0)
 have HV2:=hD (h2.keep hB0)
 have HV3:=hD (h3.keep hB0)
 have HX:=hD hx0
 have HB:=hD hB0
 have HS1:=hD v1
 have HS2:=hD v2
 have HM1:=hD m1
 have HM2:=hD m2
 have HSM:=hD hsm
 have HK1:=hD hs1
 have HK2:=hD hs2
 have HL1:=hD q1
 have HL2:=hD q2
 clear hB0 hx0 h1 h2 h3 v1 v2 m1 m2 hsm hs1 hs2 q1 q2
 go_enter Tryz.func97,Tryz.ntmps97
 have d0:=cellS HX.out 0
 have d1:=cellS HX.out 1
 have d2:=cellS HX.out 2
 have lx:=ltS HX.out
 go_wp2_with fail
 refine wp_region_rx (XV (.pointer (some ⟨w.heap.size,0,none⟩)) :: XV (.slice A1 L1.length c1) :: XV (.agg #[.slice A1 L1.length c1,.slice A2 L2.length c2,.slice A3 L3.length c3]) :: (fun v w=>SpR w v (L3.map acM)) :: (fun v w=>NRz w v L1.length (wishM L1 (L3.map acM))) :: XV (.int .i64 (sumI (wishM L1 (L3.map acM)))) :: XV (.pointer (some ⟨w.heap.size,1,none⟩)) :: XV (.slice A2 L2.length c2) :: XV (.agg #[.slice A1 L1.length c1,.slice A2 L2.length c2,.slice A3 L3.length c3]) :: (fun v w=>SpR w v (L3.map dnM)) :: (fun v w=>NRz w v L2.length (wishM L2 (L3.map dnM))) :: XV (.int .i64 (sumI (wishM L2 (L3.map dnM)))) :: XV (.int .i64 (sumI (wishM L1 (L3.map acM)))) :: XV (.int .i64 (sumI (wishM L2 (L3.map dnM)))) :: []) (by kernel_rfl) (by kernel_rfl) ?hTs ?hops ?hfin
 case hTs =>
  intro T hT
  simp only [List.mem_cons,List.not_mem_nil,or_false] at hT
  rcases hT with rfl | rfl | rfl | rfl | rfl | rfl | rfl | rfl | rfl | rfl | rfl | rfl | rfl | rfl <;> first | exact stay_V _ | exact stay_T | exact stay_of (fun v a b x g=>x.keep g) | exact stay_of (fun v a b x g=>x)
 case hops =>
  refine ⟨opOK_rx [(1,none)] (by kernel_rfl) rfl ?_,?_⟩
  ·intro act w' hw' h1
   have hk:=evk act
   have hf:=evf act
   generalize act.eval=ρ at *
   replace h1:ρ (.tmp 1)=.pointer (some ⟨w.heap.size,0,none⟩):=h1
   refine gx_gen (fun K hK=>?_)
   obtain ⟨hc,hf'⟩:=bcell (bdrewn hw'.out)
   go_simp
   exact hK _ _ ⟨rfl,Gr.refl _⟩
  refine ⟨opOK_rx [(4,some 0)] (by kernel_rfl) rfl ?_,?_⟩
  ·intro act w' hw' h1
   have hk:=evk act
   have hf:=evf act
   generalize act.eval=ρ at *
   replace h1:ρ (.tmp 4)=.pointer (some ⟨w.heap.size,0,none⟩):=h1
   refine gx_gen (fun K hK=>?_)
   obtain ⟨hc,hf'⟩:=bcell (bdrewn hw'.out)
   go_simp
   exact hK _ _ ⟨rfl,Gr.refl _⟩
  refine ⟨opOK_rx [(1,none)] (by kernel_rfl) rfl ?_,?_⟩
  ·intro act w' hw' h1
   have hk:=evk act
   have hf:=evf act
   generalize act.eval=ρ at *
   replace h1:ρ (.tmp 1)=.pointer (some ⟨w.heap.size,0,none⟩):=h1
   refine gx_gen (fun K hK=>?_)
   obtain ⟨hc,hf'⟩:=bcell (bdrewn hw'.out)
   go_simp
   exact hK _ _ ⟨rfl,Gr.refl _⟩
  refine ⟨opOK_rx [(6,some 2)] (by kernel_rfl) rfl ?_,?_⟩
  ·intro act w' hw' h1
   have hk:=evk act
   have hf:=evf act
   generalize act.eval=ρ at *
   replace h1:ρ (.tmp 6)=.agg #[.slice A1 L1.length c1,.slice A2 L2.length c2,.slice A3 L3.length c3]:=h1
   refine gx_gen (fun K hK=>?_)
   obtain ⟨hc,hf'⟩:=bcell (bdrewn hw'.out)
   go_simp
   (with_reducible refine (colSpans_w A1 A2 A3 c1 L1.length c2 L2.length c3 L3 _ (HV3.out.keep (bdrewn hw'.out)) hl8 HSM.out).mono ?_);rintro e w1 ⟨⟨v,rfl,hr1⟩,hb1⟩;exact ⟨_,rfl,hK _ _ ⟨hr1,hb1⟩⟩
  refine ⟨opOK_rx [(5,some 1),(7,some 3)] (by kernel_rfl) rfl ?_,?_⟩
  ·intro act w' hw' h1 h2
   have hk:=evk act
   have hf:=evf act
   generalize act.eval=ρ at *
   replace h1:ρ (.tmp 5)=.slice A1 L1.length c1:=h1
   replace h2:(fun v w=>SpR w v (L3.map acM)) (ρ (.tmp 7)) w':=h2
   refine gx_gen (fun K hK=>?_)
   obtain ⟨hc,hf'⟩:=bcell (bdrewn hw'.out)
   go_simp
   obtain ⟨A,c,e,hs⟩:=h2;rw [e];(with_reducible refine (wished_w A1 c1 L1 A c (L3.map acM) _ (HV1.out.keep (bdrewn hw'.out)) HS1.out hs HK1.out k1).mono ?_);rintro e w1 ⟨⟨g,cap,rfl,_,hr1⟩,hb1⟩;exact ⟨_,rfl,hK _ _ ⟨⟨_,_,rfl,hr1.nv⟩,hb1⟩⟩
  refine ⟨opOK_rx [(8,some 4)] (by kernel_rfl) rfl ?_,?_⟩
  ·intro act w' hw' h1
   have hk:=evk act
   have hf:=evf act
   generalize act.eval=ρ at *
   replace h1:(fun v w=>NRz w v L1.length (wishM L1 (L3.map acM))) (ρ (.tmp 8)) w':=h1
   refine gx_gen (fun K hK=>?_)
   obtain ⟨hc,hf'⟩:=bcell (bdrewn hw'.out)
   go_simp
   obtain ⟨A,c,e,hs⟩:=h1;rw [e];(with_reducible refine (total_b A c L1.length _ _ hs HL1.out.symm (by omega) HM1.out).mono ?_);rintro e w1 ⟨rfl,hb1⟩;exact ⟨_,rfl,hK _ _ ⟨rfl,hb1⟩⟩
  refine ⟨opOK_rx [(1,none)] (by kernel_rfl) rfl ?_,?_⟩
  ·intro act w' hw' h1
   have hk:=evk act
   have hf:=evf act
   generalize act.eval=ρ at *
   replace h1:ρ (.tmp 1)=.pointer (some ⟨w.heap.size,0,none⟩):=h1
   refine gx_gen (fun K hK=>?_)
   obtain ⟨hc,hf'⟩:=bcell (bdrewn hw'.out)
   go_simp
   exact hK _ _ ⟨rfl,Gr.refl _⟩
  refine ⟨opOK_rx [(10,some 6)] (by kernel_rfl) rfl ?_,?_⟩
  ·intro act w' hw' h1
   have hk:=evk act
   have hf:=evf act
   generalize act.eval=ρ at *
   replace h1:ρ (.tmp 10)=.pointer (some ⟨w.heap.size,1,none⟩):=h1
   refine gx_gen (fun K hK=>?_)
   obtain ⟨hc,hf'⟩:=bcell (bdrewn hw'.out)
   go_simp
   exact hK _ _ ⟨rfl,Gr.refl _⟩
  refine ⟨opOK_rx [(1,none)] (by kernel_rfl) rfl ?_,?_⟩
  ·intro act w' hw' h1
   have hk:=evk act
   have hf:=evf act
   generalize act.eval=ρ at *
   replace h1:ρ (.tmp 1)=.pointer (some ⟨w.heap.size,0,none⟩):=h1
   refine gx_gen (fun K hK=>?_)
   obtain ⟨hc,hf'⟩:=bcell (bdrewn hw'.out)
   go_simp
   exact hK _ _ ⟨rfl,Gr.refl _⟩
  refine ⟨opOK_rx [(12,some 8)] (by kernel_rfl) rfl ?_,?_⟩
  ·intro act w' hw' h1
   have hk:=evk act
   have hf:=evf act
   generalize act.eval=ρ at *
   replace h1:ρ (.tmp 12)=.agg #[.slice A1 L1.length c1,.slice A2 L2.length c2,.slice A3 L3.length c3]:=h1
   refine gx_gen (fun K hK=>?_)
   obtain ⟨hc,hf'⟩:=bcell (bdrewn hw'.out)
   go_simp
   (with_reducible refine (rowSpans_w A1 A2 A3 c1 L1.length c2 L2.length c3 L3 _ (HV3.out.keep (bdrewn hw'.out)) hl8 HSM.out).mono ?_);rintro e w1 ⟨⟨v,rfl,hr1⟩,hb1⟩;exact ⟨_,rfl,hK _ _ ⟨hr1,hb1⟩⟩
  refine ⟨opOK_rx [(11,some 7),(13,some 9)] (by kernel_rfl) rfl ?_,?_⟩
  ·intro act w' hw' h1 h2
   have hk:=evk act
   have hf:=evf act
   generalize act.eval=ρ at *
   replace h1:ρ (.tmp 11)=.slice A2 L2.length c2:=h1
   replace h2:(fun v w=>SpR w v (L3.map dnM)) (ρ (.tmp 13)) w':=h2
   refine gx_gen (fun K hK=>?_)
   obtain ⟨hc,hf'⟩:=bcell (bdrewn hw'.out)
   go_simp
   obtain ⟨A,c,e,hs⟩:=h2;rw [e];(with_reducible refine (wished_w A2 c2 L2 A c (L3.map dnM) _ (HV2.out.keep (bdrewn hw'.out)) HS2.out hs HK2.out k2).mono ?_);rintro e w1 ⟨⟨g,cap,rfl,_,hr1⟩,hb1⟩;exact ⟨_,rfl,hK _ _ ⟨⟨_,_,rfl,hr1.nv⟩,hb1⟩⟩
  refine ⟨opOK_rx [(14,some 10)] (by kernel_rfl) rfl ?_,?_⟩
  ·intro act w' hw' h1
   have hk:=evk act
   have hf:=evf act
   generalize act.eval=ρ at *
   replace h1:(fun v w=>NRz w v L2.length (wishM L2 (L3.map dnM))) (ρ (.tmp 14)) w':=h1
   refine gx_gen (fun K hK=>?_)
   obtain ⟨hc,hf'⟩:=bcell (bdrewn hw'.out)
   go_simp
   obtain ⟨A,c,e,hs⟩:=h1;rw [e];(with_reducible refine (total_b A c L2.length _ _ hs HL2.out.symm (by omega) HM2.out).mono ?_);rintro e w1 ⟨rfl,hb1⟩;exact ⟨_,rfl,hK _ _ ⟨rfl,hb1⟩⟩
  refine ⟨opOK_rx [(9,some 5)] (by kernel_rfl) rfl ?_,?_⟩
  ·intro act w' hw' h1
   have hk:=evk act
   have hf:=evf act
   generalize act.eval=ρ at *
   replace h1:ρ (.tmp 9)=.int .i64 (sumI (wishM L1 (L3.map acM))):=h1
   refine gx_gen (fun K hK=>?_)
   obtain ⟨hc,hf'⟩:=bcell (bdrewn hw'.out)
   go_simp
   exact hK _ _ ⟨rfl,Gr.refl _⟩
  refine ⟨opOK_rx [(15,some 11)] (by kernel_rfl) rfl ?_,?_⟩
  ·intro act w' hw' h1
   have hk:=evk act
   have hf:=evf act
   generalize act.eval=ρ at *
   replace h1:ρ (.tmp 15)=.int .i64 (sumI (wishM L2 (L3.map dnM))):=h1
   refine gx_gen (fun K hK=>?_)
   obtain ⟨hc,hf'⟩:=bcell (bdrewn hw'.out)
   go_simp
   exact hK _ _ ⟨rfl,Gr.refl _⟩
  exact trivial
 case hfin =>
  intro w1 hg1
  intro v4 t4
  replace t4:v4=.pointer (some ⟨w.heap.size,0,none⟩):=t4
  subst t4
  intro v5 t5
  replace t5:v5=.slice A1 L1.length c1:=t5
  subst t5
  intro v6 t6
  replace t6:v6=.agg #[.slice A1 L1.length c1,.slice A2 L2.length c2,.slice A3 L3.length c3]:=t6
  subst t6
  intro v7 t7
  replace t7:(fun v w=>SpR w v (L3.map acM)) v7 w1:=t7
  intro v8 t8
  replace t8:(fun v w=>NRz w v L1.length (wishM L1 (L3.map acM))) v8 w1:=t8
  intro v9 t9
  replace t9:v9=.int .i64 (sumI (wishM L1 (L3.map acM))):=t9
  subst t9
  intro v10 t10
  replace t10:v10=.pointer (some ⟨w.heap.size,1,none⟩):=t10
  subst t10
  intro v11 t11
  replace t11:v11=.slice A2 L2.length c2:=t11
  subst t11
  intro v12 t12
  replace t12:v12=.agg #[.slice A1 L1.length c1,.slice A2 L2.length c2,.slice A3 L3.length c3]:=t12
  subst t12
  intro v13 t13
  replace t13:(fun v w=>SpR w v (L3.map dnM)) v13 w1:=t13
  intro v14 t14
  replace t14:(fun v w=>NRz w v L2.length (wishM L2 (L3.map dnM))) v14 w1:=t14
  intro v15 t15
  replace t15:v15=.int .i64 (sumI (wishM L2 (L3.map dnM))):=t15
  subst t15
  intro v2 t2
  replace t2:v2=.int .i64 (sumI (wishM L1 (L3.map acM))):=t2
  subst t2
  intro v3 t3
  replace t3:v3=.int .i64 (sumI (wishM L2 (L3.map dnM))):=t3
  subst t3
  have hb1:=bdrewn hg1.out
  clear hg1
  simp only [finP,Act.put,List.setIfInBounds_toArray,List.set_cons_succ,List.set_cons_zero]
  clear t7 t8 t13 t14 d0 d1 d2 lx
  replace HX:=hD ((hb1.block _ (gE HX.out).1).trans HX.out)
  replace HB:=hD (bkeep2 HB.out hb1)
  clear hb1
  go_wp2
  exact bodyPost_ret (v:=.tuple #[.int .i64 (sumI (wishM L1 (L3.map acM))),.int .i64 (sumI (wishM L2 (L3.map dnM)))]) (by simp only [results,Tryz.results97];go_simp) rfl ⟨rfl,HB.out⟩
end
section
open Go.RowKit
set_option linter.unusedSimpArgs false
set_option maxHeartbeats 4000000
theorem pv_of {w:World} {A:Option Addr} {L:List Pk} (h:RvK 9 w A (L.map valsPk)):PV w A L:=⟨fun h0=>by
 obtain ⟨b,off,e,hb,hp⟩:=h (by simpa using h0)
 refine ⟨b,off,e,hb,fun i p hi=>?_⟩
 have hr:=hp i (valsPk p) (by rw [List.getElem?_map,hi];rfl)
 exact ⟨hr 0 _ rfl,hr 1 _ rfl,hr 2 _ rfl,hr 3 _ rfl,hr 4 _ rfl,hr 5 _ rfl,hr 6 _ rfl,hr 7 _ rfl,hr 8 _ rfl⟩⟩
theorem cev_of {w:World} {A:Option Addr} {L:List Ce} (h:RvK 9 w A (L.map valsCe)):CeV w A L:=⟨fun h0=>by
 obtain ⟨b,off,e,hb,hp⟩:=h (by simpa using h0)
 refine ⟨b,off,e,hb,fun i p hi=>?_⟩
 have hr:=hp i (valsCe p) (by rw [List.getElem?_map,hi];rfl)
 exact ⟨hr 0 _ rfl,hr 1 _ rfl,hr 2 _ rfl,hr 3 _ rfl,hr 4 _ rfl,hr 5 _ rfl,hr 6 _ rfl,hr 7 _ rfl,hr 8 _ rfl⟩⟩
theorem packReq_v (A:Option Addr) (c n:Nat) (L:List Pk) (ow oh:Int) (w:World) (h:PV w A L) (hn:n=L.length) (hok:∀ p ∈ L,p.big) (h7:L.length≤10) :
  Calls Tryz.prog 229 #[.slice A n c,.agg (valsWi (ow,oh)).toArray] w fun e w'=>e=.returned (.agg (valsWi (reqM L)).toArray)∧Below w.heap.size w w':=by
 subst hn
 have HV:=hD h
 have HOK:=hD hok
 clear h hok
 refine calls_abs Tryz.func229 rfl 10 (by simp only [Tryz.ntmps229]) (by simp) (fun t hsz hargs=>?_)
 have q0:t[0]?=some (.slice A L.length c):=get_of (by omega) (hargs 0 _ rfl)
 have q1:t[1]?=some (.agg (valsWi (ow,oh)).toArray):=get_of (by omega) (hargs 1 _ rfl)
 clear hargs
 obtain ⟨l0,e0⟩:=gE q0
 obtain ⟨l1,e1⟩:=gE q1
 refine wp_seq_h fun K hK=>?_
 apply wp_region_lit
 repeat (first | ((with_reducible show wpList _ _ _ _ _ _);refine allocK 93 2 rfl rfl infz_wish (fun z hz=>?_)) | go_step)
 refine hK.out _ _ ?_
 clear hK K
 refine wp_abw (fun t' W'=>t'.size=10∧t'[0]?=some (.slice A L.length c)∧t'[4]?=some (.pointer (some ⟨w.heap.size+1,0,none⟩))∧(∃ z:Array Value,W'.heap[w.heap.size+1]?=some (.cells z 93 (0,0))∧z.size=2)∧Below w.heap.size w W') ⟨by simp [Act.put,hsz],by simp [Act.put,q0],by simp [Act.put,hsz],⟨⟨z,by have:=newS (w.alloc (.cells (valsWi (ow,oh)).toArray 93)) (.cells z 93);simpa using this,hz⟩,(balloc (Below.refl _ _)).trans ((balloc (Below.refl _ _)).mono (by simp))⟩⟩ ?_
 clear hsz q0 l0 e0 q1 l1 e1 t z hz
 rintro t W1 ⟨hsz,q0,q4,⟨z,H2,hz⟩,hB⟩
 have HB:=hD hB
 replace HV:=hD (HV.out.keep hB)
 have HX:=hD H2
 clear hB H2
 obtain ⟨l0,e0⟩:=gE q0
 obtain ⟨l4,e4⟩:=gE q4
 refine wp_seq_h fun K hK=>?_
 apply wp_region_lit
 repeat go_step
 refine (packRequest_w A c L false _ HV.out HOK.out h7).mono ?_
 rintro e W2 ⟨rfl,hb2⟩
 dsimp only
 have HV2:=hD (HV.out.keep hb2)
 have HB2:=hD (bkeep2 HB.out hb2)
 have HX2:=hD ((hb2.block _ (ltS HX.out)).trans HX.out)
 clear hb2 HB HV HX
 repeat go_step
 refine (packRequest_w A c L true _ HV2.out HOK.out h7).mono ?_
 rintro e W3 ⟨rfl,hb3⟩
 dsimp only
 have HB:=hD (bkeep2 HB2.out hb3)
 have HX:=hD ((hb3.block _ (ltS HX2.out)).trans HX2.out)
 clear hb3 HB2 HV2 HX2
 have HTH:=hD (show W3.there (w.heap.size+1) 0 (valsWi (reqM L)).length from thereB HX.out (by rw [hz];show 0+2≤2;omega))
 repeat (first | ((with_reducible show wpList _ _ _ _ _ _);refine stK 93 _ _ (valsWi (reqM L)) (w.heap.size+1) 0 rfl rfl HTH.out inf_wish (valsWi_one _) (by simp [Act.eval,Act.put,hsz,e4]) (by simp [Act.eval,Act.put,hsz,valsWi,reqD]) ?_) | go_step)
 refine hK.out _ _ ?_
 clear hK K
 apply wp_ret
 refine bp_retcell 4 93 (w.heap.size+1) (valsWi (reqM L)) Tryz.results229 ?_ (World.rangeAt_setCells_same _ _ _ _ HTH.out) Tryz.underlying93 rfl inf_wish rfl ⟨rfl,below_setCells (by omega) _ _ _ HB.out⟩
 simp [Act.put,hsz,e4]
theorem placeReq_v (v:Value) (ow oh:Int) (w:World) :
  Calls Tryz.prog 221 #[v,.agg (valsWi (ow,oh)).toArray] w fun e w'=>e=.returned (.agg (valsWi (ow,oh)).toArray)∧Below w.heap.size w w':=by
 refine calls_abs Tryz.func221 rfl 6 (by simp only [Tryz.ntmps221]) (by simp) (fun t hsz hargs=>?_)
 have q1:t[1]?=some (.agg (valsWi (ow,oh)).toArray):=get_of (by omega) (hargs 1 _ rfl)
 clear hargs
 obtain ⟨l1,e1⟩:=gE q1
 refine wp_seq_h fun K hK=>?_
 apply wp_region_lit
 repeat (first | ((with_reducible show wpList _ _ _ _ _ _);refine allocK 93 2 rfl rfl infz_wish (fun z hz=>?_)) | go_step)
 refine hK.out _ _ ?_
 clear hK K
 refine wp_abw (fun t' W'=>t'.size=6∧t'[3]?=some (.pointer (some ⟨w.heap.size,0,none⟩))∧t'[4]?=some (.pointer (some ⟨w.heap.size+1,0,none⟩))∧W'.heap[w.heap.size]?=some (.cells (valsWi (ow,oh)).toArray 93 (0,0))∧(∃ z:Array Value,W'.heap[w.heap.size+1]?=some (.cells z 93 (0,0))∧z.size=2)∧Below w.heap.size w W') ⟨by simp [Act.put,hsz],by simp [Act.put,hsz],by simp [Act.put,hsz],⟨(Below.heap_alloc _ _ _ (by simp)).trans (newS _ _),⟨z,by have:=newS (w.alloc (.cells (valsWi (ow,oh)).toArray 93)) (.cells z 93);simpa using this,hz⟩,(balloc (Below.refl _ _)).trans ((balloc (Below.refl _ _)).mono (by simp))⟩⟩ ?_
 clear hsz q1 l1 e1 t z hz
 rintro t W1 ⟨hsz,q3,q4,H1,⟨z,H2,hz⟩,hB⟩
 have HR:=hD (show W1.rangeAt w.heap.size 0 (valsWi (ow,oh)) from fun j v hj=>by rw [Nat.zero_add];exact (cellS H1 j).trans (by simpa using hj))
 have HTH:=hD (show W1.there (w.heap.size+1) 0 (valsWi (ow,oh)).length from thereB H2 (by rw [hz];show 0+2≤2;omega))
 have HB:=hD hB
 clear H1 H2 hB
 obtain ⟨l3,e3⟩:=gE q3
 obtain ⟨l4,e4⟩:=gE q4
 refine wp_seq_h fun K hK=>?_
 apply wp_region_lit
 repeat (first | ((with_reducible show wpList _ _ _ _ _ _);refine ldK 93 _ (valsWi (ow,oh)) w.heap.size 0 rfl rfl HR.out Tryz.underlying93 rfl inf_wish (by simp [Act.eval,Act.put,hsz,e3]) ?_) | ((with_reducible show wpList _ _ _ _ _ _);refine stK 93 _ _ (valsWi (ow,oh)) (w.heap.size+1) 0 rfl rfl HTH.out inf_wish (valsWi_one _) (by simp [Act.eval,Act.put,hsz,e4]) (by simp [Act.eval,Act.put,hsz]) ?_) | go_step)
 refine hK.out _ _ ?_
 clear hK K
 apply wp_ret
 refine bp_retcell 4 93 (w.heap.size+1) (valsWi (ow,oh)) Tryz.results221 ?_ (World.rangeAt_setCells_same _ _ _ _ HTH.out) Tryz.underlying93 rfl inf_wish rfl ⟨rfl,below_setCells (by omega) _ _ _ HB.out⟩
 simp [Act.put,hsz,e4]
def gridM (L1 L2:List Ln) (L3:List Ce):Int × Int:=(sumI (wishM L1 (L3.map acM)),sumI (wishM L2 (L3.map dnM)))
theorem gridReq_v (A1:Option Addr) (c1:Nat) (L1:List Ln) (A2:Option Addr) (c2:Nat) (L2:List Ln) (A3:Option Addr) (c3 n3:Nat) (L3:List Ce) (ow oh:Int) (w:World) (h1:LnV w A1 L1) (h2:LnV w A2 L2) (h3:CeV w A3 L3) (hn:n3=L3.length) (v1:linesB L1=true) (v2:linesB L2=true) (hl8:L3.length≤10) (hsm:∀ p ∈ L3,smW p) (hs1:spansW L1.length (L3.map acM)) (hs2:spansW L2.length (L3.map dnM)) :
  Calls Tryz.prog 199 #[.agg #[.slice A1 L1.length c1,.slice A2 L2.length c2,.slice A3 n3 c3],.agg (valsWi (ow,oh)).toArray] w fun e w'=>e=.returned (.agg (valsWi (gridM L1 L2 L3)).toArray)∧Below w.heap.size w w':=by
 subst hn
 have HG:=hD (fun W hb=>gridRequest_w A1 c1 L1 A2 c2 L2 A3 c3 L3 W (h1.keep hb) (h2.keep hb) (h3.keep hb) v1 v2 hl8 hsm hs1 hs2)
 clear h1 h2 h3 v1 v2 hl8 hsm hs1 hs2
 refine calls_abs Tryz.func199 rfl 15 (by simp only [Tryz.ntmps199]) (by simp) (fun t hsz hargs=>?_)
 have q0:t[0]?=some (.agg #[.slice A1 L1.length c1,.slice A2 L2.length c2,.slice A3 L3.length c3]):=get_of (by omega) (hargs 0 _ rfl)
 have q1:t[1]?=some (.agg (valsWi (ow,oh)).toArray):=get_of (by omega) (hargs 1 _ rfl)
 clear hargs
 obtain ⟨l0,e0⟩:=gE q0
 obtain ⟨l1,e1⟩:=gE q1
 refine wp_seq_h fun K hK=>?_
 apply wp_region_lit
 repeat (first | ((with_reducible show wpList _ _ _ _ _ _);refine allocK 93 2 rfl rfl infz_wish (fun z hz=>?_)) | go_step)
 refine hK.out _ _ ?_
 clear hK K
 refine wp_abw (fun t' W'=>t'.size=15∧t'[2]?=some (.pointer (some ⟨w.heap.size,0,none⟩))∧t'[4]?=some (.pointer (some ⟨w.heap.size+2,0,none⟩))∧W'.heap[w.heap.size]?=some (.cells #[.slice A1 L1.length c1,.slice A2 L2.length c2,.slice A3 L3.length c3] 159 (0,0))∧(∃ z:Array Value,W'.heap[w.heap.size+2]?=some (.cells z 93 (0,0))∧z.size=2)∧Below w.heap.size w W') ⟨by simp [Act.put,hsz],by simp [Act.put,hsz],by simp [Act.put,hsz],⟨(Below.heap_alloc _ _ _ (by simp;omega)).trans ((Below.heap_alloc _ _ _ (by simp)).trans (newS _ _)),⟨z,by have:=newS ((w.alloc (.cells #[.slice A1 L1.length c1,.slice A2 L2.length c2,.slice A3 L3.length c3] 159)).alloc (.cells (valsWi (ow,oh)).toArray 93)) (.cells z 93);simpa using this,hz⟩,(((Below.refl _ w).alloc (Nat.le_refl _) _).alloc (by simp) _).alloc (by simp;omega) _⟩⟩ ?_
 clear hsz q0 l0 e0 q1 l1 e1 t z hz
 rintro t W1 ⟨hsz,q2,q4,H1,⟨z,H2,hz⟩,hB⟩
 have HB:=hD hB
 have HX:=hD H2
 have HR:=hD (show W1.rangeAt w.heap.size 0 [.slice A1 L1.length c1,.slice A2 L2.length c2,.slice A3 L3.length c3] from fun j v hj=>by rw [Nat.zero_add];exact (cellS H1 j).trans (by simpa using hj))
 clear hB H2 H1
 obtain ⟨l2,e2⟩:=gE q2
 obtain ⟨l4,e4⟩:=gE q4
 refine wp_seq_h fun K hK=>?_
 apply wp_region_lit
 repeat (first | ((with_reducible show wpList _ _ _ _ _ _);refine ldK 159 _ [.slice A1 L1.length c1,.slice A2 L2.length c2,.slice A3 L3.length c3] w.heap.size 0 rfl rfl HR.out Tryz.underlying159 rfl (by kernel_rfl) (by simp [Act.eval,Act.put,hsz,e2]) ?_) | go_step)
 refine (HG.out _ HB.out).mono ?_
 rintro e W2 ⟨rfl,hb2⟩
 dsimp only
 replace HB:=hD (bkeep2 HB.out hb2)
 replace HX:=hD ((hb2.block _ (ltS HX.out)).trans HX.out)
 clear hb2 HR
 repeat go_step
 refine hK.out _ _ ?_
 clear hK K
 refine wp_abw (fun t' W'=>t'.size=15∧t'[4]?=some (.pointer (some ⟨w.heap.size+2,0,none⟩))∧t'[5]?=some (.int .i64 (gridM L1 L2 L3).1)∧t'[6]?=some (.int .i64 (gridM L1 L2 L3).2)∧W2=W') ⟨by simp [Act.put,hsz],by simp [Act.put,q4],by simp [Act.put,hsz,gridM],by simp [Act.put,hsz,gridM],rfl⟩ ?_
 clear hsz q2 l2 e2 q4 l4 e4 t
 rintro t _ ⟨hsz,q4,q5,q6,rfl⟩
 have HTH:=hD (show W2.there (w.heap.size+2) 0 (valsWi (gridM L1 L2 L3)).length from thereB HX.out (by rw [hz];show 0+2≤2;omega))
 obtain ⟨l4,e4⟩:=gE q4
 obtain ⟨l5,e5⟩:=gE q5
 obtain ⟨l6,e6⟩:=gE q6
 refine wp_seq_h fun K hK=>?_
 apply wp_region_lit
 repeat (first | ((with_reducible show wpList _ _ _ _ _ _);refine stK 93 _ _ (valsWi (gridM L1 L2 L3)) (w.heap.size+2) 0 rfl rfl HTH.out inf_wish (valsWi_one _) (by simp [Act.eval,Act.put,hsz,e4]) (by simp [Act.eval,Act.put,hsz,valsWi]) ?_) | go_step)
 refine hK.out _ _ ?_
 clear hK K
 apply wp_ret
 refine bp_retcell 4 93 (w.heap.size+2) (valsWi (gridM L1 L2 L3)) Tryz.results199 ?_ (World.rangeAt_setCells_same _ _ _ _ HTH.out) Tryz.underlying93 rfl inf_wish rfl ⟨rfl,below_setCells (by omega) _ _ _ HB.out⟩
 simp [Act.put,hsz,e4]
end
end Go.Proofs.YtenckjdiggaonaaGreat
