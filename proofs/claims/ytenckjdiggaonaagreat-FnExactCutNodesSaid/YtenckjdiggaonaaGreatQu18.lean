import Derived.Test.YtenckjdiggaonaaGreatQu17
import Derived.Laws.EntriesVeiled
set_option linter.unusedVariables false
set_option linter.unusedSimpArgs false
set_option maxRecDepth 100000
set_option maxHeartbeats 16000000
namespace Go.Proofs.YtenckjdiggaonaaGreat
open Go.RowKit
attribute [local go_sem] growUpon_value growUpon_skip growUpon_enter
section
theorem new_fullW {w:World} {o:Obj} {cs:Array Value} {T:TypeId} (p:Nr) (ho:o=.cells cs T (0,0)) (hs:cs.size=34):((w.alloc o).setCells w.heap.size 0 (valsNr p)).heap[w.heap.size]?=some (.cells (valsNr p).toArray T (0,0)):=by
 subst ho;rw [heap_setCells (valsNr p) 0 _ _ (newS w _),wrAt_all (by rw [hs];rfl)]
theorem ret_tup2 {a b c d:Int} (h1:a=c) (h2:b=d):Ending.returned (.tuple #[.int .i64 a,.int .i64 b])=.returned (.tuple #[.int .i64 c,.int .i64 d]):=by rw [h1,h2]
theorem pksF_all {L:List Nd} {g:Nat→Int × Int} {ks:List Nat} (hk:∀ x ∈ ks,x<L.length):(pksF L g ks).length=ks.length:=by
 have:=pksF_take_len (g:=g) hk ks.length (Nat.le_refl _)
 rwa [List.take_length] at this
theorem cesF_all {L:List Nd} {g:Nat→Int × Int} {ks:List Nat} (hk:∀ x ∈ ks,x<L.length):(cesF L g ks).length=ks.length:=by
 have:=cesF_take_len (g:=g) hk ks.length (Nat.le_refl _)
 rwa [List.take_length] at this
theorem askN_own {L:List Nd} {f:Nat→Int × Int} {i:Nat} {n:Nd} (h:n.ke=true ∨ kidD L i=[] ∨ n.ki=2):askN L f i n=(n.ww,n.hh):=by unfold askN;rw [if_pos h]
theorem askN_pk {L:List Nd} {f:Nat→Int × Int} {i:Nat} {n:Nd} {ks:List Nat} (hks:kidD L i=ks) (h1:n.ke=false) (h2:ks ≠ []) (h3:n.ki=0):askN L f i n=reqM (pksF L f ks):=by
 subst hks;unfold askN;rw [if_neg (by simp [h1,h2,h3]),if_pos h3]
theorem askN_gr {L:List Nd} {f:Nat→Int × Int} {i:Nat} {n:Nd} {ks:List Nat} (hks:kidD L i=ks) (h1:n.ke=false) (h2:ks ≠ []) (h3:n.ki=1):askN L f i n=gridM n.cs n.rs (cesF L f ks):=by
 subst hks;unfold askN;rw [if_neg (by simp [h1,h2,h3]),if_neg (by omega)]
theorem sizeOf_v (A:Option Addr) (c:Nat) (R:List Nr) (hT:TrOK (R.map Nr.n)):∀ (f i:Nat) (w:World),R.length≤f+i→i<R.length→NrV w A R→RdR w R →
  Calls Tryz.prog 55 #[.agg #[.slice A R.length c],.int .i64 (i:Int)] w fun e w'=>e=.returned (.tuple #[.int .i64 (szM (R.map Nr.n) i).1,.int .i64 (szM (R.map Nr.n) i).2])∧Below w.heap.size w w':=by
 intro f
 induction f with
 | zero=>intro i w h1 h2;omega
 | succ f ih =>
 intro i w hf hi h hr;have hget:R[i]?=some R[i]:=List.getElem?_eq_getElem hi
 have hmg:(R.map Nr.n)[i]?=some R[i].n:=by rw [List.getElem?_map,hget];rfl
 have hsz0:=szM_eq hT hmg;have hr1:=hr _ (List.getElem_mem hi);have hkis:=(hT.sz i _ hmg).2.2;generalize hp0:R[i]=p at *;obtain ⟨b,off,rfl,hb,hc⟩:=h.cells (by omega);have hcp:=hc i p hget
 have hL10:R.length≤10:=by have:=hT.l10;simpa using this
 have hL1:1≤R.length:=by omega
 have hdi:(i:Int)<(R.length:Int):=by omega
 have hB0:Below w.heap.size w (w.alloc (.cells #[.slice (some ⟨b,off,none⟩) R.length c] 30 (0,0))):=balloc (Below.refl _ _);have HX:=hD (newS w (.cells #[.slice (some ⟨b,off,none⟩) R.length c] 30 (0,0)));have HB:=hD hB0;have HNR:=hD (h.keep hB0);have HRD:=hD (hr.keep hB0);have HR1:=hD (hr1.keep hB0);have HC:=hD (rangeB hcp (hB0.block b hb));have HSZ:=hD hsz0;have HMG:=hD hmg;have HKI:=hD hkis
 have HGI:=hD hget
 have HIH:=hD (show ∀ k ∈ kidD (R.map Nr.n) i,∀ W,Below w.heap.size w W→Calls Tryz.prog 55 #[.agg #[.slice (some ⟨b,off,none⟩) R.length c],.int .i64 (k:Int)] W fun e W'=>e=.returned (.tuple #[.int .i64 (szM (R.map Nr.n) k).1,.int .i64 (szM (R.map Nr.n) k).2])∧Below W.heap.size W W' from fun k hk W hW=>by
  have:=kid_gt hT hk
  have hkl:=kidD_lt hk;rw [List.length_map] at hkl
  exact ih k W (by omega) hkl (h.keep hW) (hr.keep hW))
 have x0:=cellS HX.out 0;have lx:=ltS HX.out;clear h hr hr1 hcp hsz0 hc hget hmg ih hp0 hkis hB0
 go_enter Tryz.func55,Tryz.ntmps55
 go_upto_region 1 with fail
 refine wp_genGG (fun W=>W=w.alloc (.cells #[.slice (some ⟨b,off,none⟩) R.length c] 30 (0,0))) rfl (fun W1 e1=>?_);rw [<- e1] at x0 lx;replace HX:=hD (e1 ▸ HX.out);replace HB:=hD (e1 ▸ HB.out);replace HNR:=hD (e1 ▸ HNR.out);replace HRD:=hD (e1 ▸ HRD.out);replace HR1:=hD (e1 ▸ HR1.out);replace HC:=hD (e1 ▸ HC.out);clear e1
 go_upto_region 2 with (first | (refine ldN _ p b (off+i*34) rfl rfl rfl HC.out ?_) | (refine stN (.tmp 6) (.tmp 12) p W1.heap.size 0 rfl rfl rfl rfl (newS _ _) (by show (0+34:Nat)≤34;omega) ?_))
 refine wp_genGG (fun W=>W.heap[W1.heap.size]?=some (.cells (valsNr p).toArray 84 (0,0))∧Below W1.heap.size W1 W) ⟨new_fullW p rfl rfl,below_setCells (Nat.le_refl _) _ _ _ (balloc (Below.refl _ _))⟩ (fun W2 h0=>?_);obtain ⟨hn,hb2⟩:=h0;have HN:=hD hn;have ln:=ltS hn;clear hn x0 lx HC hdi;replace HX:=hbk hb2 HX;replace HNR:=hD (HNR.out.keep hb2);replace HRD:=hD (HRD.out.keep hb2)
 replace HR1:=hD (HR1.out.keep hb2);replace HB:=hD (bkeep2 HB.out hb2);clear hb2;have x0:=cellS HX.out 0;have lx:=ltS HX.out
 go_wp2_with fail
 with_reducible refine (skidsOf_v (some ⟨b,off,none⟩) c R (i:Int) _ HNR.out hL1 (by omega) (kid_no0 hT i)).mono ?_
 rintro e W3 ⟨⟨kv,rfl,hkv⟩,hb3⟩;rw [kidsM_eq] at hkv;obtain ⟨kA,kc,hkv,hkn,-⟩:=hkv;rw [List.length_map] at hkv;subst hkv;have ln3:=Nat.lt_of_lt_of_le ln hb3.size;clear x0 lx ln;replace HX:=hbk hb3 HX;replace HN:=hbk hb3 HN;replace HNR:=hD (HNR.out.keep hb3);replace HRD:=hD (HRD.out.keep hb3);replace HR1:=hD (HR1.out.keep hb3);replace HB:=hD (bkeep2 HB.out hb3);clear hb3;have HKN:=hD hkn;clear hkn
 have hkl10:(kidD (R.map Nr.n) i).length≤10:=Nat.le_trans (kidD_len _ _) (by simpa using hL10)
 have hkl:∀ k ∈ kidD (R.map Nr.n) i,k<(R.map Nr.n).length:=fun k hk=>kidD_lt hk
 have HCW:=hD (show p.n.ki=1→_ from fun h1=>ces_w hT HMG.out h1);have HLI:=hD (show p.n.ki=1→_ from fun h1=>hT.li i p.n HMG.out h1);have HPB:=hD (pks_big hT (kidD (R.map Nr.n) i))
 obtain ⟨ks,hks⟩:∃ ks,kidD (R.map Nr.n) i=ks:=⟨_,rfl⟩
 rw [hks] at HKN hkl10 hkl HIH HCW HPB ⊢;have HPL:=hD (pksF_all (g:=szM (R.map Nr.n)) hkl);have HCL:=hD (cesF_all (g:=szM (R.map Nr.n)) hkl);have HKL:=hD hkl;have HKS:=hD hks;clear hkl hks;have x0:=cellS HX.out 0;have lx:=ltS HX.out;have y1:W3.cell? ⟨W1.heap.size,1,none⟩=some (.int .i64 p.n.ww):=cellS HN.out 1;have y2:W3.cell? ⟨W1.heap.size,2,none⟩=some (.int .i64 p.n.hh):=cellS HN.out 2
 have y3:W3.cell? ⟨W1.heap.size,3,none⟩=some (.bool p.n.ke):=cellS HN.out 3;have y4:W3.cell? ⟨W1.heap.size,4,none⟩=some (.int .i64 p.n.ki):=cellS HN.out 4
 have hC:(p.n.ke=true) ∨ (p.n.ke=false∧ks=[]) ∨ (p.n.ke=false∧ks ≠ []∧p.n.ki=2) ∨ (p.n.ke=false∧ks ≠ []∧p.n.ki ≠ 2):=by
  cases p.n.ke <;> by_cases h1:ks=[] <;> by_cases h2:p.n.ki=2 <;> simp [h1,h2]
 rcases hC with hke | ⟨hke,hnil⟩ | ⟨hke,hnil,hk2⟩ | ⟨hke,hnil,hk2⟩
 ·rw [hke] at y3;have HKE:=hD hke;clear hke;have hz:szM (R.map Nr.n) i=(p.n.ww,p.n.hh):=HSZ.out.trans (askN_own (.inl HKE.out));have HZ:=hD hz;clear hz
  go_wp2_with fail
  go_quiet (fail)
  go_wp2;go_ret2;exact ⟨ret_tup2 (by rw [HZ.out]) (by rw [HZ.out]),belowN' HB.out _⟩
 ·rw [hke] at y3
  have hl0:((ks.length:Int) == 0)=true:=by simp [hnil]
  have HNI:=hD hnil;clear hke hnil;have hz:szM (R.map Nr.n) i=(p.n.ww,p.n.hh):=HSZ.out.trans (askN_own (.inr (.inl (HKS.out.trans HNI.out))));have HZ:=hD hz;clear hz
  go_wp2_with fail
  go_quiet (fail)
  go_wp2;go_ret2;exact ⟨ret_tup2 (by rw [HZ.out]) (by rw [HZ.out]),belowN' HB.out _⟩
 ·rw [hke] at y3
  have hl0:((ks.length:Int) == 0)=false:=by have:=List.length_pos_iff.2 hnil;rw [beq_eq_false_iff_ne];omega
  have hk22:(p.n.ki == 2)=true:=by simp [hk2]
  have HK2:=hD hk2;clear hke hnil hk2;have hz:szM (R.map Nr.n) i=(p.n.ww,p.n.hh):=HSZ.out.trans (askN_own (.inr (.inr HK2.out)));have HZ:=hD hz;clear hz
  go_wp2_with fail
  go_quiet (fail)
  go_wp2;go_ret2;exact ⟨ret_tup2 (by rw [HZ.out]) (by rw [HZ.out]),belowN' HB.out _⟩
 ·rw [hke] at y3
  have hl0:((ks.length:Int) == 0)=false:=by have:=List.length_pos_iff.2 hnil;rw [beq_eq_false_iff_ne];omega
  have hk22:(p.n.ki == 2)=false:=by simp [hk2]
  by_cases hk0:p.n.ki=0
  ·have hk00:(p.n.ki == 0)=true:=by simp [hk0]
   have HZ:=hD (HSZ.out.trans (askN_pk HKS.out hke hnil hk0));clear hke hnil hk2 hk0
   go_wp2_with fail
   with_reducible refine (packsOf_v (some ⟨b,off,none⟩) c R ks kA kc ks.length (szM (R.map Nr.n)) _ HNR.out hL1 (by omega) HKN.out rfl (by omega) (fun k hk=>by have:=HKL.out k hk;rwa [List.length_map] at this) (fun k hk W hW=>HIH.out k hk W (bkeep2 HB.out hW))).mono ?_
   rintro e W4 ⟨⟨A',c',rfl,hpv,-⟩,hb4⟩;have HRQ:=hD (show Calls Tryz.prog 95 #[.slice A' ks.length c'] W4 _ from HPL.out ▸ request_w A' c' _ W4 hpv HPB.out (by rw [HPL.out];omega));clear hpv x0 lx y1 y2 y3 y4;replace HB:=hD (bkeep2 HB.out hb4);clear hb4
   go_wp2_with fail
   with_reducible refine (HRQ.out).mono ?_
   rintro e W5 ⟨rfl,hb5⟩;replace HB:=hD (bkeep2 HB.out hb5);clear hb5;go_wp2;go_ret2;exact ⟨ret_tup2 (by rw [HZ.out]) (by rw [HZ.out]),HB.out⟩
  ·have hk00:(p.n.ki == 0)=false:=by simp [hk0]
   have hk1:p.n.ki=1:=by have:=HKI.out;omega
   have HZ:=hD (HSZ.out.trans (askN_gr HKS.out hke hnil hk1));have HC1:=hD (HCW.out hk1);have HL1:=hD (HLI.out hk1);clear hke hnil hk2 hk0 hk1
   go_wp2_with fail
   with_reducible refine (gridOf_v (some ⟨b,off,none⟩) c R i p ks kA kc ks.length (szM (R.map Nr.n)) _ HNR.out HGI.out (by omega) HKN.out rfl (by omega) (fun k hk=>by have:=HKL.out k hk;rwa [List.length_map] at this) (fun k hk W hW=>HIH.out k hk W (bkeep2 HB.out hW))).mono ?_
   rintro e W4 ⟨⟨A',c',rfl,hcv⟩,hb4⟩;have HRQ:=hD (show Calls Tryz.prog 97 #[.agg (gridAg p (.slice A' ks.length c')).toArray] W4 _ from HCL.out ▸ sgridRequest_w p.ca p.cc p.n.cs p.ra p.rc p.n.rs A' c' _ W4 (HR1.out.keep hb4).c (HR1.out.keep hb4).r hcv HL1.out.1 HL1.out.2 HC1.out.2.2.2 HC1.out.1 HC1.out.2.1 HC1.out.2.2.1 HR1.out.cl HR1.out.rl);clear hcv x0 lx y1 y2 y3 y4
   replace HB:=hD (bkeep2 HB.out hb4);clear hb4
   go_wp2_with fail
   with_reducible refine (HRQ.out).mono ?_
   rintro e W5 ⟨rfl,hb5⟩;replace HB:=hD (bkeep2 HB.out hb5);clear hb5;go_wp2;go_ret2;exact ⟨ret_tup2 (by rw [HZ.out];rfl) (by rw [HZ.out];rfl),HB.out⟩
end
section
theorem kidD_mem {L:List Nd} {i k:Nat} {m:Nd} (hm:L[k]?=some m) (hpa:m.pa=(i:Int)):k ∈ kidD L i:=by
 unfold kidD idsN;refine List.mem_filter.2 ⟨List.mem_range.2 (List.getElem?_eq_some_iff.1 hm).1,?_⟩;unfold kidB;rw [hm]
 simp [hpa]
end
section
attribute [local go_sem 5000] run_mx run_mn
end
section
attribute [local go_sem 5000] run_mx run_mn run_eqlR run_neqR
theorem box4 {w:World} {b:Nat} {t0 t1 t2 t3:Value} (v0 v1 v2 v3:Value) (h0:w.cell? ⟨b,0,none⟩=some t0) (h1:w.cell? ⟨b,1,none⟩=some t1) (h2:w.cell? ⟨b,2,none⟩=some t2) (h3:w.cell? ⟨b,3,none⟩=some t3) :
  ((((w.setCell ⟨b,0,none⟩ v0).setCell ⟨b,1,none⟩ v1).setCell ⟨b,2,none⟩ v2).setCell ⟨b,3,none⟩ v3).cell? ⟨b,0,none⟩=some v0∧((((w.setCell ⟨b,0,none⟩ v0).setCell ⟨b,1,none⟩ v1).setCell ⟨b,2,none⟩ v2).setCell ⟨b,3,none⟩ v3).cell? ⟨b,1,none⟩=some v1 ∧
  ((((w.setCell ⟨b,0,none⟩ v0).setCell ⟨b,1,none⟩ v1).setCell ⟨b,2,none⟩ v2).setCell ⟨b,3,none⟩ v3).cell? ⟨b,2,none⟩=some v2∧((((w.setCell ⟨b,0,none⟩ v0).setCell ⟨b,1,none⟩ v1).setCell ⟨b,2,none⟩ v2).setCell ⟨b,3,none⟩ v3).cell? ⟨b,3,none⟩=some v3 ∧
  ∀ c o,c ≠ b→((((w.setCell ⟨b,0,none⟩ v0).setCell ⟨b,1,none⟩ v1).setCell ⟨b,2,none⟩ v2).setCell ⟨b,3,none⟩ v3).cell? ⟨c,o,none⟩=w.cell? ⟨c,o,none⟩:=by
 have ne:∀ i j:Nat,i ≠ j→(⟨b,i,none⟩:Addr) ≠ ⟨b,j,none⟩:=fun i j h e=>h (by injection e)
 have nb:∀ c i o:Nat,c ≠ b→(⟨b,i,none⟩:Addr) ≠ ⟨c,o,none⟩:=fun c i o h e=>h (by injection e with e1;exact e1.symm)
 refine ⟨?_,?_,?_,?_,fun c o hc=>?_⟩
 ·rw [World.cell?_setCell_other _ _ _ _ (ne 3 0 (by decide)),World.cell?_setCell_other _ _ _ _ (ne 2 0 (by decide)),World.cell?_setCell_other _ _ _ _ (ne 1 0 (by decide))];exact World.cell?_setCell_same _ _ _ h0
 ·rw [World.cell?_setCell_other _ _ _ _ (ne 3 1 (by decide)),World.cell?_setCell_other _ _ _ _ (ne 2 1 (by decide))];exact World.cell?_setCell_same _ _ _ ((World.cell?_setCell_other _ _ _ _ (ne 0 1 (by decide))).trans h1)
 ·rw [World.cell?_setCell_other _ _ _ _ (ne 3 2 (by decide))];exact World.cell?_setCell_same _ _ _ (((World.cell?_setCell_other _ _ _ _ (ne 1 2 (by decide))).trans (World.cell?_setCell_other _ _ _ _ (ne 0 2 (by decide)))).trans h2)
 ·exact World.cell?_setCell_same _ _ _ ((((World.cell?_setCell_other _ _ _ _ (ne 2 3 (by decide))).trans (World.cell?_setCell_other _ _ _ _ (ne 1 3 (by decide)))).trans (World.cell?_setCell_other _ _ _ _ (ne 0 3 (by decide)))).trans h3)
 ·rw [World.cell?_setCell_other _ _ _ _ (nb c 3 o hc),World.cell?_setCell_other _ _ _ _ (nb c 2 o hc),World.cell?_setCell_other _ _ _ _ (nb c 1 o hc),World.cell?_setCell_other _ _ _ _ (nb c 0 o hc)]
end
section
attribute [local go_sem 5000] run_mx run_mn run_eqlR run_neqR
theorem celld {W:World} {a:Addr} {v:Value} (h:W.cell? a=some v):W.drew.cell? a=some v:=h
theorem gen_post {P:Program} {fn:Func} {R:Ending→World→Prop} {e:Exit} {a:Act} {W:World} (F:World→Prop) (hF:F W) (h:∀ W0,F W0→bodyPost P fn R e a W0):bodyPost P fn R e a W:=h W hF
end
section
attribute [local go_sem 5000] run_mx run_mn run_eqlR run_neqR
theorem cutters_any (w:World):Calls Tryz.prog 241 #[] w fun e w'=>e=.returned (.agg #[.func (.func 242) #[] #[],.func (.func 243) #[] #[],.func (.func 244) #[] #[],.func (.func 245) #[] #[]])∧Below w.heap.size w w':=by
 go_enter Tryz.func241,Tryz.ntmps241
 go_wp2
 exact bodyPost_ret (v:=.agg #[.func (.func 242) #[] #[],.func (.func 243) #[] #[],.func (.func 244) #[] #[],.func (.func 245) #[] #[]]) (by simp only [results,Tryz.results241];go_simp) rfl ⟨rfl,(by repeat (first | with_reducible exact Below.refl _ _ | with_reducible assumption | with_reducible refine balloc ?_ | (with_reducible refine bset ?_ ?_;rotate_left;((try dsimp only);omega)) | refine bkeep2 ?_ (by assumption) | with_reducible refine Below.drew ?_))⟩
end
section
attribute [local go_sem 5000] run_mx run_mn
theorem PV.drop {w:World} {L:List Pk} {b off k:Nat} (h:PS w b off L) (hb:b<w.heap.size):PV w (some ⟨b,off+k*9,none⟩) (L.drop k) :=
 ⟨fun _=>⟨b,off+k*9,rfl,hb,fun i p hp=>by
  rw [List.getElem?_drop] at hp
  have:=h (k+i) p hp
  rwa [show off+(k+i)*9=off+k*9+i*9 from by rw [Nat.add_mul,Nat.add_assoc]] at this⟩⟩
theorem size_v (z:Rc) (d:Bool) (w:World):Calls Tryz.prog 238 #[.agg #[.int .i64 (z.x),.int .i64 (z.y),.int .i64 (z.u),.int .i64 (z.v)],.bool d] w fun e w'=>e=.returned (.int .i64 (z.size d))∧Below w.heap.size w w':=by
 cases d
 all_goals
  go_enter Tryz.func238,Tryz.ntmps238
  go_wp2;go_ret;exact ⟨rfl,balloc (Below.refl _ _)⟩
theorem moreOf_no {L:List Pk} {p:Pk} {r:List Pk} {z:Rc} (e:L=p :: r) (h:p.ex=false):moreOf L z=0:=by subst e;simp [moreOf,h]
theorem moreOf_yes {L:List Pk} {p:Pk} {r:List Pk} {z:Rc} (e:L=p :: r) (h:p.ex=true):moreOf L z=shareGo L p.down (z.size p.down) (z.size p.down) 0:=by subst e;simp [moreOf,h]
theorem cells4 {w:World} {b:Nat} {a0 a1 a2 a3:Value} {T:TypeId} {fz:Nat × Nat} (h:w.heap[b]?=some (.cells #[a0,a1,a2,a3] T fz)) :
  w.cell? ⟨b,0,none⟩=some a0∧w.cell? ⟨b,1,none⟩=some a1∧w.cell? ⟨b,2,none⟩=some a2∧w.cell? ⟨b,3,none⟩=some a3:=⟨cellH h 0,cellH h 1,cellH h 2,cellH h 3⟩
end
section
def vals4 (r:Rc):List Value:=[.int .i64 r.x,.int .i64 r.y,.int .i64 r.u,.int .i64 r.v]
def In4 (cs:Array Value) (o:Nat) (r:Rc):Prop:=∀ j,j<4→cs[o+j]?=(vals4 r)[j]?
def Cells4 (w:World) (b o:Nat) (r:Rc):Prop:=w.cell? ⟨b,o,none⟩=some (.int .i64 r.x)∧w.cell? ⟨b,o+1,none⟩=some (.int .i64 r.y)∧w.cell? ⟨b,o+2,none⟩=some (.int .i64 r.u)∧w.cell? ⟨b,o+3,none⟩=some (.int .i64 r.v)
theorem In4.cells {w:World} {b:Nat} {cs:Array Value} {T:TypeId} {fz:Nat × Nat} {o:Nat} {r:Rc} (hh:w.heap[b]?=some (.cells cs T fz)) (h:In4 cs o r):Cells4 w b o r:=by
 have e:∀ j,j<4→w.cell? ⟨b,o+j,none⟩=(vals4 r)[j]?:=fun j hj=>(cellH hh _).trans (h j hj)
 exact ⟨e 0 (by omega),e 1 (by omega),e 2 (by omega),e 3 (by omega)⟩
theorem In4.write {cs:Array Value} {o:Nat} (r:Rc) (h:o+4≤cs.size):In4 (writeAt cs o (vals4 r)) o r:=fun j hj=>writeAt_in _ _ _ _ h hj
theorem In4.keep {cs:Array Value} {o o':Nat} {r q:Rc} (h:In4 cs o' q) (hd:o'+4≤o ∨ o+4≤o'):In4 (writeAt cs o (vals4 r)) o' q:=fun j hj=>by
 rcases hd with hd | hd
 ·rw [writeAt_lo _ _ _ _ (by omega)];exact h j hj
 ·rw [writeAt_hi _ _ _ _ (by simp [vals4];omega)];exact h j hj
def Blk4 (w:World) (g:Nat) (M:List Rc):Prop:=∃ cs:Array Value,w.heap[g]?=some (.cells cs 45 (0,0))∧cs.size=M.length*4∧∀ i r,M[i]?=some r→In4 cs (i*4) r
theorem Blk4.keep {w w':World} {g:Nat} {M:List Rc} (h:Blk4 w g M) (hb:Below w.heap.size w w'):Blk4 w' g M:=by
 obtain ⟨cs,hh,hs,hc⟩:=h;exact ⟨cs,(hb.block g (gE hh).1).trans hh,hs,hc⟩
theorem pput4 {w:World} {b:Nat} {cs:Array Value} {T:TypeId} {fz:Nat × Nat} (h:w.heap[b]?=some (.cells cs T fz)) (o:Nat) (r:Rc) :
  ((((w.setCell ⟨b,o,none⟩ (.int .i64 r.x)).setCell ⟨b,o+1,none⟩ (.int .i64 r.y)).setCell ⟨b,o+2,none⟩ (.int .i64 r.u)).setCell ⟨b,o+3,none⟩ (.int .i64 r.v)).heap[b]?=some (.cells (writeAt cs o (vals4 r)) T fz) :=
 pput1 (pput1 (pput1 (pput1 h _) _) _) _
theorem pput4o {w:World} {b b':Nat} (h:b' ≠ b) (o0 o1 o2 o3:Nat) (x0 x1 x2 x3:Value) :
  ((((w.setCell ⟨b,o0,none⟩ x0).setCell ⟨b,o1,none⟩ x1).setCell ⟨b,o2,none⟩ x2).setCell ⟨b,o3,none⟩ x3).heap[b']?=w.heap[b']?:=by
 rw [Below.heap_setCell _ _ _ _ h,Below.heap_setCell _ _ _ _ h,Below.heap_setCell _ _ _ _ h,Below.heap_setCell _ _ _ _ h]
theorem pput4z {w:World} {b:Nat} {a0 a1 a2 a3:Value} {T:TypeId} {fz:Nat × Nat} (h:w.heap[b]?=some (.cells #[a0,a1,a2,a3] T fz)) (x0 x1 x2 x3:Value) :
  ((((w.setCell ⟨b,0,none⟩ x0).setCell ⟨b,1,none⟩ x1).setCell ⟨b,2,none⟩ x2).setCell ⟨b,3,none⟩ x3).heap[b]?=some (.cells #[x0,x1,x2,x3] T fz):=by
 rw [pput1 (pput1 (pput1 (pput1 h x0) x1) x2) x3];rfl
theorem pput4b {B b:Nat} {a w:World} (h:Below B a w) (hb:B≤b) (o0 o1 o2 o3:Nat) (x0 x1 x2 x3:Value):Below B a ((((w.setCell ⟨b,o0,none⟩ x0).setCell ⟨b,o1,none⟩ x1).setCell ⟨b,o2,none⟩ x2).setCell ⟨b,o3,none⟩ x3) :=
 (((h.setCell hb _).setCell hb _).setCell hb _).setCell hb _
theorem made4:∃ f:Nat→Array Value,(∀ n,(f n).size=n*4)∧∀ (n:Nat) (w:World),n≤1048576→(Instr.makeSlice 26 (.int .i64 (n:Int)) (.int .i64 (n:Int))).run Tryz.prog w=.ok (.slice (some ⟨w.heap.size,0,none⟩) n n) (w.alloc (.cells (f n) 45)):=by
 have hinfo:(Tryz.prog.info? 45).map (fun i=>(i.zero,i.size,i.bytes))=some (some (.agg #[.int .i64 0,.int .i64 0,.int .i64 0,.int .i64 0]),4,32):=by kernel_rfl
 obtain ⟨i,hi,h1,h2,h3⟩:=info_parts hinfo;refine ⟨fun n=>madeCells (Value.agg #[.int .i64 0,.int .i64 0,.int .i64 0,.int .i64 0]).cells (n*4),fun n=>size_madeCells _ _,fun n w hn=>?_⟩;have hr:=run_make (P:=Tryz.prog) w 26 45 i _ Tryz.underlying26 hi h1 .i64 .i64 n n (by omega) (Int.le_refl _) (by rw [h3];omega) (by omega);rw [h2] at hr
 simpa using hr
end
section
attribute [local go_sem 5000] run_mx run_mn
theorem bp_genP {P:Program} {f:Func} {R:Ending→World→Prop} {e:Exit} {a:Act} {W:World} (F:World→Prop) (hF:F W) (h:∀ W0,F W0→bodyPost P f R e a W0):bodyPost P f R e a W:=h W hF
theorem Blk4.far {w:World} {g b:Nat} {M:List Rc} (h:Blk4 w g M) (hne:g ≠ b) (o0 o1 o2 o3:Nat) (x0 x1 x2 x3:Value):Blk4 ((((w.setCell ⟨b,o0,none⟩ x0).setCell ⟨b,o1,none⟩ x1).setCell ⟨b,o2,none⟩ x2).setCell ⟨b,o3,none⟩ x3) g M:=by
 obtain ⟨cs,hh,hs,hc⟩:=h;exact ⟨cs,(pput4o hne _ _ _ _ _ _ _ _).trans hh,hs,hc⟩
theorem parcM_step {L:List Pk} {k:Nat} {p:Pk} {z:Rc} {M:List Rc} {Z:Rc} (hg:L[k]?=some p) (h:parcM (L.drop k) z=(M.drop k,Z)) :
  M[k]?=some (cutP z p.s (takeOf p (L.drop (k+1)) z)).1∧parcM (L.drop (k+1)) (cutP z p.s (takeOf p (L.drop (k+1)) z)).2=(M.drop (k+1),Z):=by
 rw [drop_cons hg] at h;simp only [parcM,Prod.mk.injEq] at h;obtain ⟨h1,h2⟩:=h
 have e:M.drop k=(M.drop k)[0]?.toList ++ M.drop (k+1):=by
  rw [<- h1]
  have:M.drop (k+1)=(M.drop k).drop 1:=by rw [List.drop_drop]
  rw [this,<- h1];simp
 have g0:(M.drop k)[0]?=some (cutP z p.s (takeOf p (L.drop (k+1)) z)).1:=by rw [<- h1];rfl
 refine ⟨by rw [List.getElem?_drop] at g0;simpa using g0,?_⟩
 have h3:M.drop (k+1)=(M.drop k).drop 1:=by rw [List.drop_drop]
 rw [h3,<- h1,<- h2]
 rfl
end
section
attribute [local go_sem 5000] run_mx run_mn run_eqlR run_neqR
end
section
section
variable {P:Program} {ops:Array Oper} {md:Region.Mode} {Q:Exit→Act→World→Prop}
theorem wpK_allocs {pre:Nat→Bool} {f:Nat} {listed:Array Bool} {a:Act} {w:World} {i j:Nat} {oi oj:Oper} {Oi Oj:Obj} (hr:Region.ready md ops listed=[i,j])
  (hrj:Region.ready md ops (listed.setIfInBounds i true)=[j]) (hri:Region.ready md ops (listed.setIfInBounds j true)=[i]) (hoi:ops[i]?=some oi) (hoj:ops[j]?=some oj) (hgi:oi.guard=none) (hgj:oj.guard=none)
  (hp:allPre ops pre listed=false) (hpj:allPre ops pre (listed.setIfInBounds i true)=false) (hpi:allPre ops pre (listed.setIfInBounds j true)=false) (hij:i ≠ j)
  (hd:∀ d,oi.dst=some d→oj.dst ≠ some d)
  (ei:∀ (a':Act) (w':World) (K:Act→World→Prop),K (a'.put oi.dst (.pointer (some ⟨w'.heap.size,0,none⟩))) (w'.alloc Oi)→oi.wp P a' w' K Q)
  (ej:∀ (a':Act) (w':World) (K:Act→World→Prop),K (a'.put oj.dst (.pointer (some ⟨w'.heap.size,0,none⟩))) (w'.alloc Oj)→oj.wp P a' w' K Q)
  (h:∀ x y w',Gr w w'→x ≠ y→w.heap.size≤x→w.heap.size≤y→w'.heap[x]?=some Oi→w'.heap[y]?=some Oj →
   wpK P md ops Q pre f ((listed.setIfInBounds i true).setIfInBounds j true) ((a.put oi.dst (.pointer (some ⟨x,0,none⟩))).put oj.dst (.pointer (some ⟨y,0,none⟩))) w') :
  wpK P md ops Q pre (f+1+1) listed a w:=by
 have old:∀ (w1 w2:World) (o o':Obj),Gr (w1.alloc o) w2→(w2.alloc o').heap[w1.heap.size]?=some o:=fun w1 w2 o o' g=>by
  have hs:=g.out.size
  simp at hs
  rw [Below.heap_alloc _ _ _ (by omega)];exact (g.out.block _ (by simp)).trans (heap_new _ _)
 refine .inr ⟨hp,fun w' hw'=>⟨fun h0=>(by rw [hr] at h0;cases h0),fun k hk=>?_⟩⟩;rw [hr] at hk;simp only [List.mem_cons,List.not_mem_nil,or_false] at hk;have s1:=hw'.out.size
 rcases hk with rfl | rfl
 ·refine wpOp_one hoi hgi (ei _ _ _ ⟨Gr.alloc _ _,wpK_one hrj hoj hgj hpj fun w1 hw1=>ej _ _ _ ⟨Gr.alloc _ _,?_⟩⟩);have s2:=hw1.out.size
  simp at s2
  exact h _ _ _ (hw'.trans ((Gr.alloc _ _).trans (hw1.trans (Gr.alloc _ _)))) (by omega) (by omega) (by omega) (old _ _ _ _ hw1) (heap_new _ _)
 ·refine wpOp_one hoj hgj (ej _ _ _ ⟨Gr.alloc _ _,wpK_one hri hoi hgi hpi fun w1 hw1=>ei _ _ _ ⟨Gr.alloc _ _,?_⟩⟩);have s2:=hw1.out.size
  simp at s2
  have:=h _ _ _ (hw'.trans ((Gr.alloc _ _).trans (hw1.trans (Gr.alloc _ _)))) (by omega) (by omega) (by omega) (heap_new _ _) (old _ _ _ _ hw1)
  rw [Array.setIfInBounds_comm _ _ hij,Act.put_comm a _ _ hd] at this;exact this
end
end
section
attribute [local go_sem 5000] run_mx run_mn
def rvals:List Rc→List Value
 | []=>[]
 | r :: t=>vals4 r ++ rvals t
theorem rvals_append (A B:List Rc):rvals (A ++ B)=rvals A ++ rvals B:=by
 induction A with
 | nil=>rfl
 | cons r t ih=>simp [rvals,ih]
theorem rvals_succ {M:List Rc} {k:Nat} {r:Rc} (h:M[k]?=some r):rvals (M.take k) ++ vals4 r=rvals (M.take (k+1)):=by
 rw [List.take_add_one,h,Option.toList,rvals_append];simp [rvals]
theorem own_below {w w':World} {base:Nat} {e:TypeId} {size:Nat} {v:Value} {n:Nat} {xs:List Value} (h:w.ownsRow base e size v n xs) (hb:Below w.heap.size w w'):w'.ownsRow base e size v n xs :=
 h.kept (row:=none) ⟨hb.os,hb.tape,hb.output,hb.size,fun k hk _=>hb.block k hk⟩ (by cases v.ownBlock <;> simp)
theorem below_grownP {w w':World} {B:Nat} {row:Option Nat} (h:w.grownBy w' row) (hr:∀ g,row=some g→B≤g) (hB:B≤w.heap.size):Below B w w' :=
 ⟨h.os,h.tape,h.output,h.size,fun k hk=>h.block k (by omega) (fun e=>by have:=hr k e.symm;omega)⟩
theorem rect_info:∃ (i:TypeInfo) (z:Value),Tryz.prog.info? 45=some i∧i.zero=some z∧i.size=4∧i.bytes=32∧z.cells.size=4:=by
 have hinfo:(Tryz.prog.info? 45).map (fun i=>(i.zero,i.size,i.bytes))=some (some (.agg #[.int .i64 0,.int .i64 0,.int .i64 0,.int .i64 0]),4,32):=by kernel_rfl
 obtain ⟨i,hi,h1,h2,h3⟩:=info_parts hinfo;exact ⟨i,_,hi,h1,h2,h3,rfl⟩
theorem own_mono {w:World} {base base':Nat} {e:TypeId} {size:Nat} {v:Value} {n:Nat} {xs:List Value} (h:w.ownsRow base e size v n xs) (hb:base'≤base):w.ownsRow base' e size v n xs :=
 ⟨h.1,h.2.imp id fun ⟨g,cap,cur,h1,h2,h3⟩=>⟨g,cap,cur,h1,Nat.le_trans hb h2,h3⟩⟩
theorem new4 (W:World) (r:Rc) (T:TypeId):∀ (j:Nat) (u:Value),(vals4 r)[j]?=some u→(W.alloc (.cells #[.int .i64 r.x,.int .i64 r.y,.int .i64 r.u,.int .i64 r.v] T)).cell? ((⟨W.heap.size,0,none⟩:Addr).add j)=some u:=fun j u h=>by
 have hadd:(⟨W.heap.size,0,none⟩:Addr).add j=⟨W.heap.size,j,none⟩:=by unfold Addr.add;split <;> simp_all
 rw [hadd];exact (cellH (heap_new W _) j).trans (by simpa [vals4] using h)
theorem own_set4 {w:World} {base:Nat} {e:TypeId} {size:Nat} {v:Value} {n:Nat} {xs:List Value} (h:w.ownsRow base e size v n xs) {b:Nat} (hb:b<base) (o0 o1 o2 o3:Nat) (x0 x1 x2 x3:Value) :
  ((((w.setCell ⟨b,o0,none⟩ x0).setCell ⟨b,o1,none⟩ x1).setCell ⟨b,o2,none⟩ x2).setCell ⟨b,o3,none⟩ x3).ownsRow base e size v n xs :=
 ownsRow_setCell_below (ownsRow_setCell_below (ownsRow_setCell_below (ownsRow_setCell_below h (a:=⟨b,o0,none⟩) hb x0) (a:=⟨b,o1,none⟩) hb x1) (a:=⟨b,o2,none⟩) hb x2) (a:=⟨b,o3,none⟩) hb x3
theorem vals4_one (r:Rc):∀ u ∈ vals4 r,u.oneCell'=true:=by intro u hu;simp [vals4] at hu;rcases hu with rfl | rfl | rfl | rfl <;> rfl
theorem grown_old {W w5:World} {v:Value} {o:Obj} {lo hi:Nat} (h:(W.alloc o).grownBy w5 v.ownBlock) (hob:∀ k,v.ownBlock=some k→lo≤k∧k<hi) :
  (∀ q,q<W.heap.size→(q<lo ∨ hi≤q)→w5.heap[q]?=W.heap[q]?)∧∀ B w,Below B w W→B≤lo→B≤W.heap.size→Below B w w5:=by
 refine ⟨fun q hq hd=>(h.block q (by simp;omega) (fun e=>by have:=hob q e.symm;omega)).trans (Below.heap_alloc _ _ _ hq),fun B w hb hB hB2=>?_⟩;exact (hb.alloc hB2 o).trans (below_grownP h (fun g e=>by have:=hob g e;omega) (by simp;omega))
end
section
attribute [local go_sem 5000] run_mx run_mn
def rmB (u v:Int):Bool:=rng u 0 400 && rng v 0 400
end
section
attribute [local go_sem 5000] run_mx run_mn run_eqlR run_neqR
theorem belowN {B:Nat} {a w:World} (h:Below B a w) (n:Nat):Below B a (w.drewN n):=⟨h.os,h.tape,h.output,h.size,h.block⟩
end
section
attribute [local go_sem 5000] run_mx run_mn run_eqlR run_neqR
end
section
attribute [local go_sem 5000] run_mx run_mn run_eqlR run_neqR
end
section
attribute [local go_sem 5000] run_mx run_mn run_eqlR run_neqR
end
section
attribute [local go_sem 5000] run_mx run_mn run_eqlR run_neqR
end
section
attribute [local go_sem 5000] run_mx run_mn
def insP (r:Rc) (p q:Int):Rc:=⟨r.x+mn p (r.u / 2),r.y+mn q (r.v / 2),mx (r.u - 2*p) 0,mx (r.v - 2*q) 0⟩
def ancP (r:Rc) (p q k:Int):Rc:=⟨r.x+(r.u - mn p r.u)*(k % 3) / 2,r.y+(r.v - mn q r.v)*(k / 3) / 2,mn p r.u,mn q r.v⟩
def wP (p:Pk) (r:Rc):Int:=if p.fx then (insP r p.px p.py).u else p.w
def hP (p:Pk) (r:Rc):Int:=if p.fy then (insP r p.px p.py).v else p.h
def setP (p:Pk) (r:Rc):Rc:=ancP (insP r p.px p.py) (wP p r) (hP p r) p.an
end
section
theorem nopan_normal {Q:Exit→Act→World→Prop} {a:Act} {w:World} (h:Q .normal a w):NoPan Q .normal a w:=h
def setL (L:List Pk) (M:List Rc):List Rc:=List.zipWith setP L M
theorem setL_len {L:List Pk} {M:List Rc} (h:M.length=L.length):(setL L M).length=L.length:=by simp [setL,h]
theorem setL_get {L:List Pk} {M:List Rc} {k:Nat} {p:Pk} {r:Rc} (hp:L[k]?=some p) (hr:M[k]?=some r):(setL L M)[k]?=some (setP p r):=by
 simp [setL,List.getElem?_zipWith,hp,hr]
end
section
def bgL (L:List Pk):Prop:=(∀ p ∈ L,p.big)∧L.length≤10
theorem part_bdW {r n:Int} (h1:r≤20000000000000) (h2:1≤n):0≤mx r 0 / n∧mx r 0 / n≤20000000000000:=by
 have:=mx_spec r 0
 have h3:0≤mx r 0:=by omega
 refine ⟨Int.ediv_nonneg h3 (by omega),?_⟩
 have:=Int.ediv_le_self n h3
 omega
theorem shareGo_bdW:∀ {L:List Pk} {d:Bool} {sh rm n:Int},(∀ p ∈ L,p.big)→0≤sh→sh≤20000000000000→rm≤20000000000000→1≤n→0≤shareGo L d sh rm n∧shareGo L d sh rm n≤20000000000000
 | [],d,sh,rm,n,_,h1,h2,h3,h4=>by
  have:=part_bdW h3 h4
  have:=mn_spec sh (mx rm 0 / n)
  simp only [shareGo];omega
 | p :: r,d,sh,rm,n,hL,h1,h2,h3,h4=>by
  have hp:=hL p List.mem_cons_self;have nb:=Pk.need_bdW hp d
  have hr:∀ p ∈ r,p.big:=fun q hq=>hL q (List.mem_cons_of_mem _ hq)
  unfold shareGo
  split
  ·exact shareGo_bdW hr h1 h2 (by omega) (by split <;> omega)
  ·have:=part_bdW (r:=rm - p.need d) (n:=n) (by omega) h4
   have:=mn_spec sh (mx (rm - p.need d) 0 / n)
   exact shareGo_bdW hr (by omega) (by omega) h3 h4
def Rc.okW (r:Rc):Prop:=((-1000000000000000≤r.x∧r.x+r.u≤1000000000000000)∧(-1000000000000000≤r.y∧r.y+r.v≤1000000000000000))∧((0≤r.u∧r.u≤20000000000000)∧(0≤r.v∧r.v≤20000000000000))
theorem cutP_okW {r:Rc} {s n:Int} (h:r.okW) (hn:0≤n):(cutP r s n).1.okW∧(cutP r s n).2.okW:=by
 obtain ⟨⟨⟨a1,a2⟩,a3,a4⟩,⟨a5,a6⟩,a7,a8⟩:=h;have m1:=mn_spec n r.u;have m2:=mn_spec n r.v;unfold cutP Rc.okW
 split
 ·dsimp only;omega
 ·split
  ·dsimp only;omega
  ·split
   ·dsimp only;omega
   ·dsimp only;omega
theorem Rc.size_bdW {r:Rc} (h:r.okW) (d:Bool):0≤r.size d∧r.size d≤20000000000000:=by
 obtain ⟨⟨⟨a1,a2⟩,a3,a4⟩,⟨a5,a6⟩,a7,a8⟩:=h
 unfold Rc.size;split <;> omega
theorem moreOf_bdW {p:Pk} {r:List Pk} {z:Rc} (hL:∀ q ∈ p :: r,q.big) (hz:z.okW):0≤moreOf (p :: r) z∧moreOf (p :: r) z≤20000000000000:=by
 obtain ⟨b1,b2⟩:=Rc.size_bdW hz p.down;simp only [moreOf]
 cases hx:p.ex
 ·simp
 ·have nb:=Pk.need_bdW (hL p List.mem_cons_self) p.down;simp only [if_true];rw [shareGo_same rfl hx];exact shareGo_bdW (fun q hq=>hL q (List.mem_cons_of_mem _ hq)) b1 b2 (by omega) (by omega)
theorem takeOf_bdW {p:Pk} {r:List Pk} {z:Rc} (hL:∀ q ∈ p :: r,q.big) (hz:z.okW):0≤takeOf p r z∧takeOf p r z≤21000000000020:=by
 have:=moreOf_bdW hL hz
 have:=Pk.need_bdW (hL p List.mem_cons_self) p.down
 unfold takeOf;omega
def Rc.at (r:Rc) (x y:Int):Rc:=⟨r.x+x,r.y+y,r.u,r.v⟩
theorem cutP_at (r:Rc) (s n x y:Int):cutP (r.at x y) s n=((cutP r s n).1.at x y,(cutP r s n).2.at x y):=by
 unfold cutP Rc.at
 dsimp only
 by_cases h0:s=0
 ·rw [if_pos h0,if_pos h0];dsimp only;simp only [Prod.mk.injEq,Rc.mk.injEq,true_and,and_true];omega
 ·rw [if_neg h0,if_neg h0]
  by_cases h1:s=1
  ·rw [if_pos h1,if_pos h1];dsimp only;simp only [Prod.mk.injEq,Rc.mk.injEq,true_and,and_true];omega
  ·rw [if_neg h1,if_neg h1]
   by_cases h2:s=2
   ·rw [if_pos h2,if_pos h2];dsimp only;simp only [Prod.mk.injEq,Rc.mk.injEq,true_and,and_true];omega
   ·rw [if_neg h2,if_neg h2];dsimp only;simp only [Prod.mk.injEq,Rc.mk.injEq,true_and,and_true];omega
theorem takeOf_at (p:Pk) (r:List Pk) (z:Rc) (x y:Int):takeOf p r (z.at x y)=takeOf p r z:=rfl
theorem parcM_at:∀ (L:List Pk) (z:Rc) (x y:Int),parcM L (z.at x y)=((parcM L z).1.map (·.at x y),(parcM L z).2.at x y)
 | [],z,x,y=>rfl
 | p :: r,z,x,y=>by
  simp only [parcM,takeOf_at,cutP_at,parcM_at r,List.map_cons]
end
end Go.Proofs.YtenckjdiggaonaaGreat
