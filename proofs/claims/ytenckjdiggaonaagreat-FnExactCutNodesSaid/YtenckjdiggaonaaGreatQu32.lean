import Derived.Test.YtenckjdiggaonaaGreatQu31
set_option linter.unusedVariables false
set_option linter.unusedSimpArgs false
set_option maxRecDepth 100000
set_option maxHeartbeats 16000000
namespace Go.Proofs.YtenckjdiggaonaaGreat
open Go.RowKit
attribute [local go_sem] growUpon_value growUpon_skip growUpon_enter
section
attribute [local go_sem 5000] run_mx run_mn
theorem scut_w (z:Rc) (s n:Int) (w:World) (hz:z.okW) (hs:0≤s) (hs':s≤3) (hn:0≤n) :
  Calls Tryz.prog 173 #[.agg #[.int .i64 (z.x),.int .i64 (z.y),.int .i64 (z.u),.int .i64 (z.v)],.int .i64 s,.int .i64 n] w fun e w'=>e=.returned (.tuple #[.agg #[.int .i64 ((cutP z s n).1.x),.int .i64 ((cutP z s n).1.y),.int .i64 ((cutP z s n).1.u),.int .i64 ((cutP z s n).1.v)],.agg #[.int .i64 ((cutP z s n).2.x),.int .i64 ((cutP z s n).2.y),.int .i64 ((cutP z s n).2.u),.int .i64 ((cutP z s n).2.v)]])∧Below w.heap.size w w':=by
 have h:s=0 ∨ s=1 ∨ s=2 ∨ s=3:=by omega
 rcases h with rfl | rfl | rfl | rfl
 ·exact scut0_w z.x z.y z.u z.v n w (Rc.okW_vr hz) hn
 ·exact scut1_w z.x z.y z.u z.v n w (Rc.okW_vr hz) hn
 ·exact scut2_w z.x z.y z.u z.v n w (Rc.okW_vr hz) hn
 ·exact scut3_w z.x z.y z.u z.v n w (Rc.okW_vr hz) hn
theorem share_nW (A:Option Addr) (c n:Nat) (L:List Pk) (room:Int) (d:Bool) (w:World) (hn:n=L.length) (h:PV w A L) (hL:bgL L) (p0:Pk) (r0:List Pk) (hp0:L=p0 :: r0) (hd0:p0.down=d) (hx0:p0.ex=true) (hr:0≤room) (hr':room≤20000000000000) :
  Calls Tryz.prog 172 #[.slice A n c,.int .i64 room,.bool d] w fun e w'=>e=.returned (.int .i64 (shareGo L d room room 0))∧Below w.heap.size w w':=by
 subst hn;exact share_w A c L room d w h hL p0 r0 hp0 hd0 hx0 hr hr'
theorem parcels_w (A:Option Addr) (c:Nat) (L:List Pk) (z0:Rc) (w:World) (h:PV w A L) (hcap:L.length≤c) (hL:bgL L) (hz0:z0.okW) (M:List Rc) (Z:Rc) (hM:parcM L z0=(M,Z)) :
  Calls Tryz.prog 153 #[.slice A L.length c,.agg #[.int .i64 (z0.x),.int .i64 (z0.y),.int .i64 (z0.u),.int .i64 (z0.v)]] w fun e w'=>(∃ v,e=.returned (.tuple #[v,.agg #[.int .i64 (Z.x),.int .i64 (Z.y),.int .i64 (Z.u),.int .i64 (Z.v)]])∧w'.ownsRow w.heap.size 45 4 v M.length (rvals M))∧Below w.heap.size w w':=by
 obtain ⟨hok,h7⟩:=id hL
 have hML:M.length=L.length:=by have:=parcM_len (L:=L) (z:=z0);rw [hM] at this;exact this
 have HOK:=hD hok;have HML:=hD hML;have HVL:=hD hL;have HM:=hD hM;clear hok hML hL hM;obtain ⟨ti,tz,ti1,ti2,ti3,ti4,ti5⟩:=rect_info
 go_enter Tryz.func153,Tryz.ntmps153
 go_wp2_with fail
 go_loopw [6,7] (fun out i wr=>∃ k:Nat,k≤L.length∧i=.int .i64 k∧wr.ownsRow (w.heap.size+1+1) 45 4 out k (rvals (M.take k)) ∧
  (∃ z:Rc,wr.heap[w.heap.size]?=some (.cells #[.int .i64 z.x,.int .i64 z.y,.int .i64 z.u,.int .i64 z.v] 45 (0,0))∧z.okW∧parcM (L.drop k) z=(M.drop k,Z)) ∧
  wr.heap[w.heap.size+1]?=some (.cells #[.int .i64 0,.int .i64 0,.int .i64 0,.int .i64 0] 45 (0,0))∧Below w.heap.size w wr) (fun _ i _=>L.length - (intOf i).toNat)
 case atStart =>
  refine ⟨0,by omega,rfl,?_,⟨z0,?_,hz0,HM.out⟩,?_,balloc (balloc (balloc (Below.refl _ _)))⟩
  ·have e:=World.ownsRow_lit (base:=w.heap.size+1+1) (e:=45) (size:=4) ((w.alloc (.cells #[.int .i64 z0.x,.int .i64 z0.y,.int .i64 z0.u,.int .i64 z0.v] 45)).alloc (.cells #[.int .i64 0,.int .i64 0,.int .i64 0,.int .i64 0] 45)) #[] 0 (by simp) (by decide) rfl
   simpa only [World.size_alloc,List.take_zero,rvals] using e
  ·rw [Below.heap_alloc _ _ _ (by simp;omega),Below.heap_alloc _ _ _ (by simp)];exact heap_new _ _
  ·rw [Below.heap_alloc _ _ _ (by simp)];have e:=heap_new (w.alloc (.cells #[.int .i64 z0.x,.int .i64 z0.y,.int .i64 z0.u,.int .i64 z0.v] 45)) (.cells #[.int .i64 0,.int .i64 0,.int .i64 0,.int .i64 0] 45)
   simpa only [World.size_alloc] using e
 case round =>
  obtain ⟨k,hk,rfl,how,⟨z,hl,hz,hp⟩,hr,hB⟩:=hrel;clear HM
  by_cases hlt:k<L.length
  ·have hd:decide ((k:Int)<(L.length:Int))=true:=by simpa using hlt
   obtain ⟨b,off,rfl,hb,hps⟩:=(h.keep hB).cells (by omega);have hget:L[k]?=some L[k]:=List.getElem?_eq_getElem hlt;generalize hx:L[k]=p at *;obtain ⟨c0,c1,c2,c3,c4,c5,c6,c7,c8⟩:=hps k _ hget;have hpk:p.big:=HOK.out p (List.mem_of_getElem? hget);have hdrop:=drop_cons hget
   obtain ⟨tk1,tk2⟩:=takeOf_bdW (p:=p) (r:=L.drop (k+1)) (z:=z) (fun q hq=>HOK.out q (List.mem_of_mem_drop (by rw [hdrop];exact hq:q ∈ L.drop k))) hz;obtain ⟨mo1,mo2⟩:=moreOf_bdW (p:=p) (r:=L.drop (k+1)) (z:=z) (fun q hq=>HOK.out q (List.mem_of_mem_drop (by rw [hdrop];exact hq:q ∈ L.drop k))) hz
   obtain ⟨b1,b2,⟨b3,b4⟩,b5⟩:=(show ((0≤p.w∧p.w≤1000000000000)∧(0≤p.h∧p.h≤1000000000000)∧(0≤p.s∧p.s≤3)∧(0≤p.an∧p.an≤8)∧(0≤p.px∧p.px≤10)∧(0≤p.py∧p.py≤10)) from hpk)
   have hdl:L.length - k=(L.drop k).length:=by rw [List.length_drop]
   obtain ⟨sb1,sb2⟩:=Rc.size_bdW hz p.down;have nbf:=Pk.need_bdW hpk false;have nbt:=Pk.need_bdW hpk true;have HG:=hD hget;have HX:=hD hx;have HOW:=hD how;have HL:=hD hl;have HZ:=hD hz;have HP:=hD hp;have HR:=hD hr;have HBB:=hD hB;have HPS:=hD hps;have HPK:=hD hpk;have HD:=hD hdrop;have HDL:=hD hdl;have hll:=(gE hl).1;have hln:=Nat.ne_of_lt hll
   have hkL:k≤L.length:=by omega
   have hLk:¬ L.length=k:=by omega
   have hck:¬ c=k:=by omega
   clear hget hx how hl hz hp hr hB hps hpk hdrop hdl b1 b2 b5
   go_wp2_with fail
   refine (outer_w p _ HPK.out).mono ?_;rintro e w1 ⟨rfl,hb1⟩;replace HL:=hD ((hb1.block _ hll).trans HL.out);replace HR:=hbk hb1 HR;have hc9:=(HPS.out k p HG.out).keep (hb1.block b hb);have HC9:=hD hc9;obtain ⟨d0,d1,d2,d3,d4,d5,d6,d7,d8⟩:=hc9;obtain ⟨l0,l1,l2,l3⟩:=cells4 HL.out;have HB1:=hD hb1;replace HOW:=hD (own_below HOW.out hb1);have hs0:=HBB.out.size;have hs1:=hb1.size;have hob:=HOW.out.lt
   replace HBB:=hD (HBB.out.trans (hb1.mono HBB.out.size))
   have hll1:w.heap.size<w1.heap.size:=by omega
   have hne1:=Nat.ne_of_lt hll1
   obtain ⟨T,hT⟩:∃ T,takeOf p (L.drop (k+1)) z=T:=⟨_,rfl⟩
   clear hb1 c0 c1 c2 c3 c4 c5 c6 c7 c8
   cases hdn:p.down
   ·go_wp2_with fail
    refine (upright_p p _).mono ?_;rintro e w2 ⟨rfl,rfl⟩;rw [hdn]
    cases hex:p.ex
    ·rw [hex] at d5
     have hT2:p.need false=T:=by rw [<- hT];unfold takeOf;simp [moreOf,hex,hdn]
     go_wp2_with fail
     refine wp_region_grow 11 4 (fun i=>decide (i<13) && i != 10) (by kernel_rfl) (by kernel_rfl) rfl ?_
     iterate 11 (refine wpG_step (fun K hK=>?_);apply Exists.intro;refine ⟨.inl ⟨rfl,fun w' hw'=>?_⟩,?_⟩;(focus ((obtain ⟨hc,hf⟩:=bcell hw'.out);(have hcS:=bcellS hw'.out);go_simp <;> first | rfl | (go_at_call 173;exact scut_w z p.s T _ HZ.out b3 b4 (by omega))));(go_simp;refine hK _ ?_;clear hK K))
     refine wpG_nil ?_
     refine wpK_allocs (i:=11) (j:=12) (Oi:=(.cells #[.int .i64 0,.int .i64 0,.int .i64 0,.int .i64 0] 45 (0,0))) (Oj:=(.cells #[.int .i64 0,.int .i64 0,.int .i64 0,.int .i64 0] 45 (0,0))) (by kernel_rfl) (by kernel_rfl) (by kernel_rfl) rfl rfl rfl rfl (by kernel_rfl) (by kernel_rfl) (by kernel_rfl) (by decide) (by intro d h1 h2;cases h1;cases h2) (fun a' w' K hK=>?_) (fun a' w' K hK=>?_) (fun bx by_ w2 hg2 hxy hxl hyl hx hy=>?_)
     ·go_simp;exact hK
     ·go_simp;exact hK
     refine wpK_tail (by kernel_rfl) (fun w3 hg3=>?_);have hB3:Below w1.heap.size w1 w3:=(bgrow (Below.drew (Below.refl _ _)) hg2).trans (hg3.out.mono hg2.out.size);replace hx:=(hg3.out.block _ (gE hx).1).trans hx;replace hy:=(hg3.out.block _ (gE hy).1).trans hy;have hxl2:w1.heap.size≤bx:=hxl;have hyl2:w1.heap.size≤by_:=hyl;clear hg3 hg2 hxl hyl;obtain ⟨x0,x1,x2,x3⟩:=cells4 hx
     obtain ⟨y0,y1,y2,y3⟩:=cells4 hy;have g0:=frozenH hx 0;have g1:=frozenH hx 1;have g2:=frozenH hx 2;have g3:=frozenH hx 3;have k0:=frozenH hy 0;have k1:=frozenH hy 1;have k2:=frozenH hy 2;have k3:=frozenH hy 3;have hyx:by_ ≠ bx:=Ne.symm hxy
     obtain ⟨P,hP⟩:∃ P,cutP z p.s T=P:=⟨_,rfl⟩
     obtain ⟨hst1,hst2⟩:=parcM_step HG.out HP.out;have hok2:=cutP_okW (s:=p.s) (n:=takeOf p (L.drop (k+1)) z) HZ.out tk1;rw [hT,hP] at hst1 hst2 hok2;rw [hP];refine wpAny_one (i:=13) (by kernel_rfl) rfl rfl ?_;go_simp;refine wpAny_one (i:=14) (by kernel_rfl) rfl rfl ?_;go_simp;refine wpAny_end (by kernel_rfl) ?_
     have F1:=(pput4o (b:=by_) (b':=bx) hxy 0 1 2 3 (.int .i64 P.2.x) (.int .i64 P.2.y) (.int .i64 P.2.u) (.int .i64 P.2.v)).trans (pput4z hx (.int .i64 P.1.x) (.int .i64 P.1.y) (.int .i64 P.1.u) (.int .i64 P.1.v))
     have F2:=pput4z ((pput4o (b:=bx) (b':=by_) hyx 0 1 2 3 (.int .i64 P.1.x) (.int .i64 P.1.y) (.int .i64 P.1.u) (.int .i64 P.1.v)).trans hy) (.int .i64 P.2.x) (.int .i64 P.2.y) (.int .i64 P.2.u) (.int .i64 P.2.v)
     have F3:=pput4b (pput4b hB3 hxl2 0 1 2 3 (.int .i64 P.1.x) (.int .i64 P.1.y) (.int .i64 P.1.u) (.int .i64 P.1.v)) hyl2 0 1 2 3 (.int .i64 P.2.x) (.int .i64 P.2.y) (.int .i64 P.2.u) (.int .i64 P.2.v)
     refine NoPan.gen (fun W=>W.heap[bx]?=some (.cells #[.int .i64 P.1.x,.int .i64 P.1.y,.int .i64 P.1.u,.int .i64 P.1.v] 45 (0,0))∧W.heap[by_]?=some (.cells #[.int .i64 P.2.x,.int .i64 P.2.y,.int .i64 P.2.u,.int .i64 P.2.v] 45 (0,0))∧Below w1.heap.size w1 W) ⟨F1,F2,F3⟩ ?_;clear F1 F2 F3 hB3 hx hy x0 x1 x2 x3 y0 y1 y2 y3 g0 g1 g2 g3 k0 k1 k2 k3;rintro W ⟨hx,hy,hBW⟩;obtain ⟨x0,x1,x2,x3⟩:=cells4 hx
     have hwr1:w.heap.size+1<w1.heap.size:=(gE HR.out).1;have hsW:=hBW.size;replace HOW:=hD (own_below HOW.out hBW);replace HL:=hD ((hBW.block _ hll1).trans HL.out);replace HR:=hD ((hBW.block _ hwr1).trans HR.out);replace HBB:=hD (HBB.out.trans (hBW.mono (by omega)))
     have hW0:w.heap.size<W.heap.size:=by omega
     have hWx:bx<W.heap.size:=(gE hx).1;have hWy:by_<W.heap.size:=(gE hy).1;have HX1:=hD hx;have HY1:=hD hy;have HPP:=hD hP;clear hx hy hBW hP d0 d1 d2 d3 d4 d5 d6 d7 d8 l0 l1 l2 l3
     go_wp2_with (at_builtin;refine wpList_append_own _ rfl _ _ 26 rfl (w.heap.size+1+1) 45 ti tz 4 32 Tryz.underlying26 ti1 ti2 ti3 ti4 ti5 (by decide) _ _ _ rfl (HOW.out.alloc _) ⟨W.heap.size,0,none⟩ 1 1 (vals4 P.1) rfl rfl (new4 _ _ _) (vals4_one _) (by simp only [maxLen];omega) (by omega) (by simp;omega) ?_)
     intro v5 w5 how5 hgr5 _;obtain ⟨hst,hbl⟩:=grown_old hgr5 hob;have hs5:=hgr5.size;simp only [World.size_alloc] at hs5;have HL5:=hD ((hst _ hW0 (by omega)).trans HL.out);have HR5:=hD ((hst _ (by omega) (by omega)).trans HR.out);have hy5:=(hst _ hWy (by omega)).trans HY1.out;have HB5:=hD (hbl _ _ HBB.out (by omega) (by omega));clear HL HR HBB HX1 HY1 hst hbl hgr5 hob x0 x1 x2 x3
     rw [rvals_succ hst1] at how5;have HOW5:=hD how5;obtain ⟨y0,y1,y2,y3⟩:=cells4 hy5;obtain ⟨l0,l1,l2,l3⟩:=cells4 HL5.out;have g0:=frozenH HL5.out 0;have g1:=frozenH HL5.out 1;have g2:=frozenH HL5.out 2;have g3:=frozenH HL5.out 3;have E1:=hD (own_set4 HOW5.out (b:=w.heap.size) (by omega) 0 1 2 3 (.int .i64 P.2.x) (.int .i64 P.2.y) (.int .i64 P.2.u) (.int .i64 P.2.v))
     have E2:=hD (pput4z HL5.out (.int .i64 P.2.x) (.int .i64 P.2.y) (.int .i64 P.2.u) (.int .i64 P.2.v));have E3:=hD ((pput4o (b:=w.heap.size) (b':=w.heap.size+1) (by omega) 0 1 2 3 (.int .i64 P.2.x) (.int .i64 P.2.y) (.int .i64 P.2.u) (.int .i64 P.2.v)).trans HR5.out)
     have E4:=hD (pput4b HB5.out (b:=w.heap.size) (by omega) 0 1 2 3 (.int .i64 P.2.x) (.int .i64 P.2.y) (.int .i64 P.2.u) (.int .i64 P.2.v));clear how5 hy5;go_wp2
     go_roundw
     case rel=>exact ⟨k+1,by omega,by go_num,E1.out,⟨P.2,E2.out,hok2.2,hst2⟩,E3.out,E4.out⟩
     case measure=>simp [intOf];omega
    ·rw [hex] at d5
     have hT2:IntKind.i64.wrap (p.need false+shareGo (L.drop k) false z.u z.u 0)=T:=by
      have e:p.need false+shareGo (L.drop k) false z.u z.u 0=T:=by rw [HD.out,<- hT];unfold takeOf;simp [moreOf,hex,hdn,Rc.size]
      rw [IntWalk.i64_in _ (by rw [e,<- hT];omega)];exact e
     have hzb:0≤z.u∧z.u≤20000000000000:=by have:=Rc.size_bdW HZ.out false;simpa [Rc.size] using this
     go_wp2_with fail
     refine (share_nW (some ⟨b,off+k*9,none⟩) (c - k) (L.length - k) (L.drop k) z.u false w1 HDL.out ((PV.drop HPS.out hb).keep HB1.out) (bgL_drop HVL.out k) p (L.drop (k+1)) HD.out hdn hex hzb.1 hzb.2).mono ?_;rintro e w1 ⟨rfl,hb2⟩;replace HOW:=hD (own_below HOW.out hb2);have hsr:=HB1.out.size;have hs2:=hb2.size;have hc9:=HC9.out.keep (hb2.block b (by omega))
     replace HL:=hD ((hb2.block _ hll1).trans HL.out);replace HR:=hbk hb2 HR;replace HBB:=hD (HBB.out.trans (hb2.mono HBB.out.size));replace hob:=HOW.out.lt
     replace hll1:w.heap.size<w1.heap.size:=by omega
     clear d0 d1 d2 d3 d4 d5 d6 d7 d8 l0 l1 l2 l3 hne1 HC9 HB1 hb2;replace hne1:=Nat.ne_of_lt hll1;obtain ⟨d0,d1,d2,d3,d4,d5,d6,d7,d8⟩:=hc9;obtain ⟨l0,l1,l2,l3⟩:=cells4 HL.out;rw [hex] at d5
     go_wp2_with fail
     refine wp_region_grow 11 4 (fun i=>decide (i<13) && i != 10) (by kernel_rfl) (by kernel_rfl) rfl ?_
     iterate 11 (refine wpG_step (fun K hK=>?_);apply Exists.intro;refine ⟨.inl ⟨rfl,fun w' hw'=>?_⟩,?_⟩;(focus ((obtain ⟨hc,hf⟩:=bcell hw'.out);(have hcS:=bcellS hw'.out);go_simp <;> first | rfl | (go_at_call 173;exact scut_w z p.s T _ HZ.out b3 b4 (by omega))));(go_simp;refine hK _ ?_;clear hK K))
     refine wpG_nil ?_
     refine wpK_allocs (i:=11) (j:=12) (Oi:=(.cells #[.int .i64 0,.int .i64 0,.int .i64 0,.int .i64 0] 45 (0,0))) (Oj:=(.cells #[.int .i64 0,.int .i64 0,.int .i64 0,.int .i64 0] 45 (0,0))) (by kernel_rfl) (by kernel_rfl) (by kernel_rfl) rfl rfl rfl rfl (by kernel_rfl) (by kernel_rfl) (by kernel_rfl) (by decide) (by intro d h1 h2;cases h1;cases h2) (fun a' w' K hK=>?_) (fun a' w' K hK=>?_) (fun bx by_ w2 hg2 hxy hxl hyl hx hy=>?_)
     ·go_simp;exact hK
     ·go_simp;exact hK
     refine wpK_tail (by kernel_rfl) (fun w3 hg3=>?_);have hB3:Below w1.heap.size w1 w3:=(bgrow (Below.drew (Below.refl _ _)) hg2).trans (hg3.out.mono hg2.out.size);replace hx:=(hg3.out.block _ (gE hx).1).trans hx;replace hy:=(hg3.out.block _ (gE hy).1).trans hy;have hxl2:w1.heap.size≤bx:=hxl;have hyl2:w1.heap.size≤by_:=hyl;clear hg3 hg2 hxl hyl;obtain ⟨x0,x1,x2,x3⟩:=cells4 hx
     obtain ⟨y0,y1,y2,y3⟩:=cells4 hy;have g0:=frozenH hx 0;have g1:=frozenH hx 1;have g2:=frozenH hx 2;have g3:=frozenH hx 3;have k0:=frozenH hy 0;have k1:=frozenH hy 1;have k2:=frozenH hy 2;have k3:=frozenH hy 3;have hyx:by_ ≠ bx:=Ne.symm hxy
     obtain ⟨P,hP⟩:∃ P,cutP z p.s T=P:=⟨_,rfl⟩
     obtain ⟨hst1,hst2⟩:=parcM_step HG.out HP.out;have hok2:=cutP_okW (s:=p.s) (n:=takeOf p (L.drop (k+1)) z) HZ.out tk1;rw [hT,hP] at hst1 hst2 hok2;rw [hP];refine wpAny_one (i:=13) (by kernel_rfl) rfl rfl ?_;go_simp;refine wpAny_one (i:=14) (by kernel_rfl) rfl rfl ?_;go_simp;refine wpAny_end (by kernel_rfl) ?_
     have F1:=(pput4o (b:=by_) (b':=bx) hxy 0 1 2 3 (.int .i64 P.2.x) (.int .i64 P.2.y) (.int .i64 P.2.u) (.int .i64 P.2.v)).trans (pput4z hx (.int .i64 P.1.x) (.int .i64 P.1.y) (.int .i64 P.1.u) (.int .i64 P.1.v))
     have F2:=pput4z ((pput4o (b:=bx) (b':=by_) hyx 0 1 2 3 (.int .i64 P.1.x) (.int .i64 P.1.y) (.int .i64 P.1.u) (.int .i64 P.1.v)).trans hy) (.int .i64 P.2.x) (.int .i64 P.2.y) (.int .i64 P.2.u) (.int .i64 P.2.v)
     have F3:=pput4b (pput4b hB3 hxl2 0 1 2 3 (.int .i64 P.1.x) (.int .i64 P.1.y) (.int .i64 P.1.u) (.int .i64 P.1.v)) hyl2 0 1 2 3 (.int .i64 P.2.x) (.int .i64 P.2.y) (.int .i64 P.2.u) (.int .i64 P.2.v)
     refine NoPan.gen (fun W=>W.heap[bx]?=some (.cells #[.int .i64 P.1.x,.int .i64 P.1.y,.int .i64 P.1.u,.int .i64 P.1.v] 45 (0,0))∧W.heap[by_]?=some (.cells #[.int .i64 P.2.x,.int .i64 P.2.y,.int .i64 P.2.u,.int .i64 P.2.v] 45 (0,0))∧Below w1.heap.size w1 W) ⟨F1,F2,F3⟩ ?_;clear F1 F2 F3 hB3 hx hy x0 x1 x2 x3 y0 y1 y2 y3 g0 g1 g2 g3 k0 k1 k2 k3;rintro W ⟨hx,hy,hBW⟩;obtain ⟨x0,x1,x2,x3⟩:=cells4 hx
     have hwr1:w.heap.size+1<w1.heap.size:=(gE HR.out).1;have hsW:=hBW.size;replace HOW:=hD (own_below HOW.out hBW);replace HL:=hD ((hBW.block _ hll1).trans HL.out);replace HR:=hD ((hBW.block _ hwr1).trans HR.out);replace HBB:=hD (HBB.out.trans (hBW.mono (by omega)))
     have hW0:w.heap.size<W.heap.size:=by omega
     have hWx:bx<W.heap.size:=(gE hx).1;have hWy:by_<W.heap.size:=(gE hy).1;have HX1:=hD hx;have HY1:=hD hy;have HPP:=hD hP;clear hx hy hBW hP d0 d1 d2 d3 d4 d5 d6 d7 d8 l0 l1 l2 l3
     go_wp2_with (at_builtin;refine wpList_append_own _ rfl _ _ 26 rfl (w.heap.size+1+1) 45 ti tz 4 32 Tryz.underlying26 ti1 ti2 ti3 ti4 ti5 (by decide) _ _ _ rfl (HOW.out.alloc _) ⟨W.heap.size,0,none⟩ 1 1 (vals4 P.1) rfl rfl (new4 _ _ _) (vals4_one _) (by simp only [maxLen];omega) (by omega) (by simp;omega) ?_)
     intro v5 w5 how5 hgr5 _;obtain ⟨hst,hbl⟩:=grown_old hgr5 hob;have hs5:=hgr5.size;simp only [World.size_alloc] at hs5;have HL5:=hD ((hst _ hW0 (by omega)).trans HL.out);have HR5:=hD ((hst _ (by omega) (by omega)).trans HR.out);have hy5:=(hst _ hWy (by omega)).trans HY1.out;have HB5:=hD (hbl _ _ HBB.out (by omega) (by omega));clear HL HR HBB HX1 HY1 hst hbl hgr5 hob x0 x1 x2 x3
     rw [rvals_succ hst1] at how5;have HOW5:=hD how5;obtain ⟨y0,y1,y2,y3⟩:=cells4 hy5;obtain ⟨l0,l1,l2,l3⟩:=cells4 HL5.out;have g0:=frozenH HL5.out 0;have g1:=frozenH HL5.out 1;have g2:=frozenH HL5.out 2;have g3:=frozenH HL5.out 3;have E1:=hD (own_set4 HOW5.out (b:=w.heap.size) (by omega) 0 1 2 3 (.int .i64 P.2.x) (.int .i64 P.2.y) (.int .i64 P.2.u) (.int .i64 P.2.v))
     have E2:=hD (pput4z HL5.out (.int .i64 P.2.x) (.int .i64 P.2.y) (.int .i64 P.2.u) (.int .i64 P.2.v));have E3:=hD ((pput4o (b:=w.heap.size) (b':=w.heap.size+1) (by omega) 0 1 2 3 (.int .i64 P.2.x) (.int .i64 P.2.y) (.int .i64 P.2.u) (.int .i64 P.2.v)).trans HR5.out)
     have E4:=hD (pput4b HB5.out (b:=w.heap.size) (by omega) 0 1 2 3 (.int .i64 P.2.x) (.int .i64 P.2.y) (.int .i64 P.2.u) (.int .i64 P.2.v));clear how5 hy5;go_wp2
     go_roundw
     case rel=>exact ⟨k+1,by omega,by go_num,E1.out,⟨P.2,E2.out,hok2.2,hst2⟩,E3.out,E4.out⟩
     case measure=>simp [intOf];omega
   ·go_wp2_with fail
    refine (upright_p p _).mono ?_;rintro e w2 ⟨rfl,rfl⟩;rw [hdn]
    cases hex:p.ex
    ·rw [hex] at d5
     have hT2:p.need true=T:=by rw [<- hT];unfold takeOf;simp [moreOf,hex,hdn]
     go_wp2_with fail
     refine wp_region_grow 11 4 (fun i=>decide (i<13) && i != 10) (by kernel_rfl) (by kernel_rfl) rfl ?_
     iterate 11 (refine wpG_step (fun K hK=>?_);apply Exists.intro;refine ⟨.inl ⟨rfl,fun w' hw'=>?_⟩,?_⟩;(focus ((obtain ⟨hc,hf⟩:=bcell hw'.out);(have hcS:=bcellS hw'.out);go_simp <;> first | rfl | (go_at_call 173;exact scut_w z p.s T _ HZ.out b3 b4 (by omega))));(go_simp;refine hK _ ?_;clear hK K))
     refine wpG_nil ?_
     refine wpK_allocs (i:=11) (j:=12) (Oi:=(.cells #[.int .i64 0,.int .i64 0,.int .i64 0,.int .i64 0] 45 (0,0))) (Oj:=(.cells #[.int .i64 0,.int .i64 0,.int .i64 0,.int .i64 0] 45 (0,0))) (by kernel_rfl) (by kernel_rfl) (by kernel_rfl) rfl rfl rfl rfl (by kernel_rfl) (by kernel_rfl) (by kernel_rfl) (by decide) (by intro d h1 h2;cases h1;cases h2) (fun a' w' K hK=>?_) (fun a' w' K hK=>?_) (fun bx by_ w2 hg2 hxy hxl hyl hx hy=>?_)
     ·go_simp;exact hK
     ·go_simp;exact hK
     refine wpK_tail (by kernel_rfl) (fun w3 hg3=>?_);have hB3:Below w1.heap.size w1 w3:=(bgrow (Below.drew (Below.refl _ _)) hg2).trans (hg3.out.mono hg2.out.size);replace hx:=(hg3.out.block _ (gE hx).1).trans hx;replace hy:=(hg3.out.block _ (gE hy).1).trans hy;have hxl2:w1.heap.size≤bx:=hxl;have hyl2:w1.heap.size≤by_:=hyl;clear hg3 hg2 hxl hyl;obtain ⟨x0,x1,x2,x3⟩:=cells4 hx
     obtain ⟨y0,y1,y2,y3⟩:=cells4 hy;have g0:=frozenH hx 0;have g1:=frozenH hx 1;have g2:=frozenH hx 2;have g3:=frozenH hx 3;have k0:=frozenH hy 0;have k1:=frozenH hy 1;have k2:=frozenH hy 2;have k3:=frozenH hy 3;have hyx:by_ ≠ bx:=Ne.symm hxy
     obtain ⟨P,hP⟩:∃ P,cutP z p.s T=P:=⟨_,rfl⟩
     obtain ⟨hst1,hst2⟩:=parcM_step HG.out HP.out;have hok2:=cutP_okW (s:=p.s) (n:=takeOf p (L.drop (k+1)) z) HZ.out tk1;rw [hT,hP] at hst1 hst2 hok2;rw [hP];refine wpAny_one (i:=13) (by kernel_rfl) rfl rfl ?_;go_simp;refine wpAny_one (i:=14) (by kernel_rfl) rfl rfl ?_;go_simp;refine wpAny_end (by kernel_rfl) ?_
     have F1:=(pput4o (b:=by_) (b':=bx) hxy 0 1 2 3 (.int .i64 P.2.x) (.int .i64 P.2.y) (.int .i64 P.2.u) (.int .i64 P.2.v)).trans (pput4z hx (.int .i64 P.1.x) (.int .i64 P.1.y) (.int .i64 P.1.u) (.int .i64 P.1.v))
     have F2:=pput4z ((pput4o (b:=bx) (b':=by_) hyx 0 1 2 3 (.int .i64 P.1.x) (.int .i64 P.1.y) (.int .i64 P.1.u) (.int .i64 P.1.v)).trans hy) (.int .i64 P.2.x) (.int .i64 P.2.y) (.int .i64 P.2.u) (.int .i64 P.2.v)
     have F3:=pput4b (pput4b hB3 hxl2 0 1 2 3 (.int .i64 P.1.x) (.int .i64 P.1.y) (.int .i64 P.1.u) (.int .i64 P.1.v)) hyl2 0 1 2 3 (.int .i64 P.2.x) (.int .i64 P.2.y) (.int .i64 P.2.u) (.int .i64 P.2.v)
     refine NoPan.gen (fun W=>W.heap[bx]?=some (.cells #[.int .i64 P.1.x,.int .i64 P.1.y,.int .i64 P.1.u,.int .i64 P.1.v] 45 (0,0))∧W.heap[by_]?=some (.cells #[.int .i64 P.2.x,.int .i64 P.2.y,.int .i64 P.2.u,.int .i64 P.2.v] 45 (0,0))∧Below w1.heap.size w1 W) ⟨F1,F2,F3⟩ ?_;clear F1 F2 F3 hB3 hx hy x0 x1 x2 x3 y0 y1 y2 y3 g0 g1 g2 g3 k0 k1 k2 k3;rintro W ⟨hx,hy,hBW⟩;obtain ⟨x0,x1,x2,x3⟩:=cells4 hx
     have hwr1:w.heap.size+1<w1.heap.size:=(gE HR.out).1;have hsW:=hBW.size;replace HOW:=hD (own_below HOW.out hBW);replace HL:=hD ((hBW.block _ hll1).trans HL.out);replace HR:=hD ((hBW.block _ hwr1).trans HR.out);replace HBB:=hD (HBB.out.trans (hBW.mono (by omega)))
     have hW0:w.heap.size<W.heap.size:=by omega
     have hWx:bx<W.heap.size:=(gE hx).1;have hWy:by_<W.heap.size:=(gE hy).1;have HX1:=hD hx;have HY1:=hD hy;have HPP:=hD hP;clear hx hy hBW hP d0 d1 d2 d3 d4 d5 d6 d7 d8 l0 l1 l2 l3
     go_wp2_with (at_builtin;refine wpList_append_own _ rfl _ _ 26 rfl (w.heap.size+1+1) 45 ti tz 4 32 Tryz.underlying26 ti1 ti2 ti3 ti4 ti5 (by decide) _ _ _ rfl (HOW.out.alloc _) ⟨W.heap.size,0,none⟩ 1 1 (vals4 P.1) rfl rfl (new4 _ _ _) (vals4_one _) (by simp only [maxLen];omega) (by omega) (by simp;omega) ?_)
     intro v5 w5 how5 hgr5 _;obtain ⟨hst,hbl⟩:=grown_old hgr5 hob;have hs5:=hgr5.size;simp only [World.size_alloc] at hs5;have HL5:=hD ((hst _ hW0 (by omega)).trans HL.out);have HR5:=hD ((hst _ (by omega) (by omega)).trans HR.out);have hy5:=(hst _ hWy (by omega)).trans HY1.out;have HB5:=hD (hbl _ _ HBB.out (by omega) (by omega));clear HL HR HBB HX1 HY1 hst hbl hgr5 hob x0 x1 x2 x3
     rw [rvals_succ hst1] at how5;have HOW5:=hD how5;obtain ⟨y0,y1,y2,y3⟩:=cells4 hy5;obtain ⟨l0,l1,l2,l3⟩:=cells4 HL5.out;have g0:=frozenH HL5.out 0;have g1:=frozenH HL5.out 1;have g2:=frozenH HL5.out 2;have g3:=frozenH HL5.out 3;have E1:=hD (own_set4 HOW5.out (b:=w.heap.size) (by omega) 0 1 2 3 (.int .i64 P.2.x) (.int .i64 P.2.y) (.int .i64 P.2.u) (.int .i64 P.2.v))
     have E2:=hD (pput4z HL5.out (.int .i64 P.2.x) (.int .i64 P.2.y) (.int .i64 P.2.u) (.int .i64 P.2.v));have E3:=hD ((pput4o (b:=w.heap.size) (b':=w.heap.size+1) (by omega) 0 1 2 3 (.int .i64 P.2.x) (.int .i64 P.2.y) (.int .i64 P.2.u) (.int .i64 P.2.v)).trans HR5.out)
     have E4:=hD (pput4b HB5.out (b:=w.heap.size) (by omega) 0 1 2 3 (.int .i64 P.2.x) (.int .i64 P.2.y) (.int .i64 P.2.u) (.int .i64 P.2.v));clear how5 hy5;go_wp2
     go_roundw
     case rel=>exact ⟨k+1,by omega,by go_num,E1.out,⟨P.2,E2.out,hok2.2,hst2⟩,E3.out,E4.out⟩
     case measure=>simp [intOf];omega
    ·rw [hex] at d5
     have hT2:IntKind.i64.wrap (p.need true+shareGo (L.drop k) true z.v z.v 0)=T:=by
      have e:p.need true+shareGo (L.drop k) true z.v z.v 0=T:=by rw [HD.out,<- hT];unfold takeOf;simp [moreOf,hex,hdn,Rc.size]
      rw [IntWalk.i64_in _ (by rw [e,<- hT];omega)];exact e
     have hzb:0≤z.v∧z.v≤20000000000000:=by have:=Rc.size_bdW HZ.out true;simpa [Rc.size] using this
     go_wp2_with fail
     refine (share_nW (some ⟨b,off+k*9,none⟩) (c - k) (L.length - k) (L.drop k) z.v true w1 HDL.out ((PV.drop HPS.out hb).keep HB1.out) (bgL_drop HVL.out k) p (L.drop (k+1)) HD.out hdn hex hzb.1 hzb.2).mono ?_;rintro e w1 ⟨rfl,hb2⟩;replace HOW:=hD (own_below HOW.out hb2);have hsr:=HB1.out.size;have hs2:=hb2.size;have hc9:=HC9.out.keep (hb2.block b (by omega))
     replace HL:=hD ((hb2.block _ hll1).trans HL.out);replace HR:=hbk hb2 HR;replace HBB:=hD (HBB.out.trans (hb2.mono HBB.out.size));replace hob:=HOW.out.lt
     replace hll1:w.heap.size<w1.heap.size:=by omega
     clear d0 d1 d2 d3 d4 d5 d6 d7 d8 l0 l1 l2 l3 hne1 HC9 HB1 hb2;replace hne1:=Nat.ne_of_lt hll1;obtain ⟨d0,d1,d2,d3,d4,d5,d6,d7,d8⟩:=hc9;obtain ⟨l0,l1,l2,l3⟩:=cells4 HL.out;rw [hex] at d5
     go_wp2_with fail
     refine wp_region_grow 11 4 (fun i=>decide (i<13) && i != 10) (by kernel_rfl) (by kernel_rfl) rfl ?_
     iterate 11 (refine wpG_step (fun K hK=>?_);apply Exists.intro;refine ⟨.inl ⟨rfl,fun w' hw'=>?_⟩,?_⟩;(focus ((obtain ⟨hc,hf⟩:=bcell hw'.out);(have hcS:=bcellS hw'.out);go_simp <;> first | rfl | (go_at_call 173;exact scut_w z p.s T _ HZ.out b3 b4 (by omega))));(go_simp;refine hK _ ?_;clear hK K))
     refine wpG_nil ?_
     refine wpK_allocs (i:=11) (j:=12) (Oi:=(.cells #[.int .i64 0,.int .i64 0,.int .i64 0,.int .i64 0] 45 (0,0))) (Oj:=(.cells #[.int .i64 0,.int .i64 0,.int .i64 0,.int .i64 0] 45 (0,0))) (by kernel_rfl) (by kernel_rfl) (by kernel_rfl) rfl rfl rfl rfl (by kernel_rfl) (by kernel_rfl) (by kernel_rfl) (by decide) (by intro d h1 h2;cases h1;cases h2) (fun a' w' K hK=>?_) (fun a' w' K hK=>?_) (fun bx by_ w2 hg2 hxy hxl hyl hx hy=>?_)
     ·go_simp;exact hK
     ·go_simp;exact hK
     refine wpK_tail (by kernel_rfl) (fun w3 hg3=>?_);have hB3:Below w1.heap.size w1 w3:=(bgrow (Below.drew (Below.refl _ _)) hg2).trans (hg3.out.mono hg2.out.size);replace hx:=(hg3.out.block _ (gE hx).1).trans hx;replace hy:=(hg3.out.block _ (gE hy).1).trans hy;have hxl2:w1.heap.size≤bx:=hxl;have hyl2:w1.heap.size≤by_:=hyl;clear hg3 hg2 hxl hyl;obtain ⟨x0,x1,x2,x3⟩:=cells4 hx
     obtain ⟨y0,y1,y2,y3⟩:=cells4 hy;have g0:=frozenH hx 0;have g1:=frozenH hx 1;have g2:=frozenH hx 2;have g3:=frozenH hx 3;have k0:=frozenH hy 0;have k1:=frozenH hy 1;have k2:=frozenH hy 2;have k3:=frozenH hy 3;have hyx:by_ ≠ bx:=Ne.symm hxy
     obtain ⟨P,hP⟩:∃ P,cutP z p.s T=P:=⟨_,rfl⟩
     obtain ⟨hst1,hst2⟩:=parcM_step HG.out HP.out;have hok2:=cutP_okW (s:=p.s) (n:=takeOf p (L.drop (k+1)) z) HZ.out tk1;rw [hT,hP] at hst1 hst2 hok2;rw [hP];refine wpAny_one (i:=13) (by kernel_rfl) rfl rfl ?_;go_simp;refine wpAny_one (i:=14) (by kernel_rfl) rfl rfl ?_;go_simp;refine wpAny_end (by kernel_rfl) ?_
     have F1:=(pput4o (b:=by_) (b':=bx) hxy 0 1 2 3 (.int .i64 P.2.x) (.int .i64 P.2.y) (.int .i64 P.2.u) (.int .i64 P.2.v)).trans (pput4z hx (.int .i64 P.1.x) (.int .i64 P.1.y) (.int .i64 P.1.u) (.int .i64 P.1.v))
     have F2:=pput4z ((pput4o (b:=bx) (b':=by_) hyx 0 1 2 3 (.int .i64 P.1.x) (.int .i64 P.1.y) (.int .i64 P.1.u) (.int .i64 P.1.v)).trans hy) (.int .i64 P.2.x) (.int .i64 P.2.y) (.int .i64 P.2.u) (.int .i64 P.2.v)
     have F3:=pput4b (pput4b hB3 hxl2 0 1 2 3 (.int .i64 P.1.x) (.int .i64 P.1.y) (.int .i64 P.1.u) (.int .i64 P.1.v)) hyl2 0 1 2 3 (.int .i64 P.2.x) (.int .i64 P.2.y) (.int .i64 P.2.u) (.int .i64 P.2.v)
     refine NoPan.gen (fun W=>W.heap[bx]?=some (.cells #[.int .i64 P.1.x,.int .i64 P.1.y,.int .i64 P.1.u,.int .i64 P.1.v] 45 (0,0))∧W.heap[by_]?=some (.cells #[.int .i64 P.2.x,.int .i64 P.2.y,.int .i64 P.2.u,.int .i64 P.2.v] 45 (0,0))∧Below w1.heap.size w1 W) ⟨F1,F2,F3⟩ ?_;clear F1 F2 F3 hB3 hx hy x0 x1 x2 x3 y0 y1 y2 y3 g0 g1 g2 g3 k0 k1 k2 k3;rintro W ⟨hx,hy,hBW⟩;obtain ⟨x0,x1,x2,x3⟩:=cells4 hx
     have hwr1:w.heap.size+1<w1.heap.size:=(gE HR.out).1;have hsW:=hBW.size;replace HOW:=hD (own_below HOW.out hBW);replace HL:=hD ((hBW.block _ hll1).trans HL.out);replace HR:=hD ((hBW.block _ hwr1).trans HR.out);replace HBB:=hD (HBB.out.trans (hBW.mono (by omega)))
     have hW0:w.heap.size<W.heap.size:=by omega
     have hWx:bx<W.heap.size:=(gE hx).1;have hWy:by_<W.heap.size:=(gE hy).1;have HX1:=hD hx;have HY1:=hD hy;have HPP:=hD hP;clear hx hy hBW hP d0 d1 d2 d3 d4 d5 d6 d7 d8 l0 l1 l2 l3
     go_wp2_with (at_builtin;refine wpList_append_own _ rfl _ _ 26 rfl (w.heap.size+1+1) 45 ti tz 4 32 Tryz.underlying26 ti1 ti2 ti3 ti4 ti5 (by decide) _ _ _ rfl (HOW.out.alloc _) ⟨W.heap.size,0,none⟩ 1 1 (vals4 P.1) rfl rfl (new4 _ _ _) (vals4_one _) (by simp only [maxLen];omega) (by omega) (by simp;omega) ?_)
     intro v5 w5 how5 hgr5 _;obtain ⟨hst,hbl⟩:=grown_old hgr5 hob;have hs5:=hgr5.size;simp only [World.size_alloc] at hs5;have HL5:=hD ((hst _ hW0 (by omega)).trans HL.out);have HR5:=hD ((hst _ (by omega) (by omega)).trans HR.out);have hy5:=(hst _ hWy (by omega)).trans HY1.out;have HB5:=hD (hbl _ _ HBB.out (by omega) (by omega));clear HL HR HBB HX1 HY1 hst hbl hgr5 hob x0 x1 x2 x3
     rw [rvals_succ hst1] at how5;have HOW5:=hD how5;obtain ⟨y0,y1,y2,y3⟩:=cells4 hy5;obtain ⟨l0,l1,l2,l3⟩:=cells4 HL5.out;have g0:=frozenH HL5.out 0;have g1:=frozenH HL5.out 1;have g2:=frozenH HL5.out 2;have g3:=frozenH HL5.out 3;have E1:=hD (own_set4 HOW5.out (b:=w.heap.size) (by omega) 0 1 2 3 (.int .i64 P.2.x) (.int .i64 P.2.y) (.int .i64 P.2.u) (.int .i64 P.2.v))
     have E2:=hD (pput4z HL5.out (.int .i64 P.2.x) (.int .i64 P.2.y) (.int .i64 P.2.u) (.int .i64 P.2.v));have E3:=hD ((pput4o (b:=w.heap.size) (b':=w.heap.size+1) (by omega) 0 1 2 3 (.int .i64 P.2.x) (.int .i64 P.2.y) (.int .i64 P.2.u) (.int .i64 P.2.v)).trans HR5.out)
     have E4:=hD (pput4b HB5.out (b:=w.heap.size) (by omega) 0 1 2 3 (.int .i64 P.2.x) (.int .i64 P.2.y) (.int .i64 P.2.u) (.int .i64 P.2.v));clear how5 hy5;go_wp2
     go_roundw
     case rel=>exact ⟨k+1,by omega,by go_num,E1.out,⟨P.2,E2.out,hok2.2,hst2⟩,E3.out,E4.out⟩
     case measure=>simp [intOf];omega
  ·have hd:decide ((k:Int)<(L.length:Int))=false:=by simp;omega
   obtain rfl:k=L.length:=by omega
   rw [List.drop_length] at hp
   have hpz:z=Z:=by simp only [parcM,Prod.mk.injEq] at hp;exact hp.2
   subst hpz;rw [<- HML.out,List.take_length] at how;have HOW:=hD how;have HL:=hD hl;have HR:=hD hr;have HBB:=hD hB;obtain ⟨l0,l1,l2,l3⟩:=cells4 hl;clear how hl hp hr hB;obtain ⟨r0,r1,r2,r3⟩:=cells4 HR.out;have g0:=frozenH HR.out 0;have g1:=frozenH HR.out 1;have g2:=frozenH HR.out 2;have g3:=frozenH HR.out 3
   go_wp2_with fail
   go_region
   go_wp2
   refine bp_genP (fun W=>W.heap[w.heap.size+1]?=some (.cells #[.int .i64 z.x,.int .i64 z.y,.int .i64 z.u,.int .i64 z.v] 45 (0,0))∧W.ownsRow w.heap.size 45 4 _ M.length (rvals M)∧Below w.heap.size w W)
    ⟨pput4z HR.out _ _ _ _,own_mono (own_set4 HOW.out (b:=w.heap.size+1) (by omega) _ _ _ _ _ _ _ _) (by omega),Below.drew (pput4b HBB.out (by omega) _ _ _ _ _ _ _ _)⟩ ?_
   clear HR HL HBB HOW l0 l1 l2 l3 r0 r1 r2 r3 g0 g1 g2 g3;rintro W ⟨hW,hk2,hB2⟩;obtain ⟨r0,r1,r2,r3⟩:=cells4 hW;exact bodyPost_ret (v:=.tuple #[_,.agg #[.int .i64 (z.x),.int .i64 (z.y),.int .i64 (z.u),.int .i64 (z.v)]]) (by simp only [results,Tryz.results153];go_simp) rfl ⟨⟨_,rfl,hk2⟩,hB2⟩
end
section
theorem packed_w (A:Option Addr) (c:Nat) (L:List Pk) (z0:Rc) (w:World) (h:PV w A L) (hcap:L.length≤c) (hL:bgL L) (hz0:z0.okW) (M:List Rc) (Z:Rc) (hM:parcM L z0=(M,Z)) :
  Calls Tryz.prog 114 #[.slice A L.length c,.agg #[.int .i64 (z0.x),.int .i64 (z0.y),.int .i64 (z0.u),.int .i64 (z0.v)]] w fun e w'=>(∃ v,e=.returned v∧RV w' v (setL L M)∧∀ k,v.ownBlock=some k→w.heap.size≤k)∧Below w.heap.size w w':=by
 obtain ⟨hok,h7⟩:=id hL
 have hML:M.length=L.length:=by have:=parcM_len (L:=L) (z:=z0);rw [hM] at this;exact this
 have hMok:∀ r ∈ M,r.okW:=by have:=parcM_okW (L:=L) (z:=z0) hok hz0;rw [hM] at this;exact this
 have HOK:=hD hok;have HML:=hD hML;have HMK:=hD hMok;have HM:=hD hM;clear hok hML hM hMok
 go_enter Tryz.func114,Tryz.ntmps114
 go_wp2_with fail
 refine (parcels_w A c L z0 _ (h.keep (balloc (Below.refl _ _))) hcap hL hz0 M Z HM.out).mono ?_;rintro e w1 ⟨⟨v,rfl,ho⟩,hb⟩;have HB0:=hD (bkeep2 (balloc (Below.refl _ _)) hb);clear hb
 rcases own_in4 ho rfl with ⟨rfl,hM0⟩ | ⟨g,cap,cs0,rfl,hg,hnc,hh0,hs0,hc0⟩
 ·have hL0:setL L M=[]:=by rw [hM0];simp [setL]
  have hlz:M.length=0:=by rw [hM0];rfl
  have HL0:=hD hL0;clear hM0 ho hL0
  go_wp2_with fail
  go_loopw [7] (fun i wr=>i=.int .i64 0∧Below w.heap.size w wr) (fun i _=>0)
  case atStart=>exact ⟨rfl,balloc HB0.out⟩
  case round =>
   obtain ⟨rfl,hB⟩:=hrel;have HBB:=hD hB;clear hB;go_wp2;go_ret;exact ⟨⟨_,rfl,by rw [HL0.out];exact RV.nil _,fun k hk=>by cases hk⟩,HBB.out⟩
 ·replace hg:w.heap.size≤g:=by simp only [World.size_alloc] at hg;omega
  have HK0:=hD (And.intro hh0 (And.intro hs0 hc0));have hML:M.length=L.length:=HML.out;clear hh0 hs0 hc0 ho;rw [hML] at hnc;rw [hML]
  go_wp2_with fail
  go_loopw [7] (fun i wr=>∃ k:Nat,k≤L.length∧i=.int .i64 k∧(∃ cs:Array Value,wr.heap[g]?=some (.cells cs 45 (0,0))∧cs.size=cap*4∧(∀ i r,i<k→(setL L M)[i]?=some r→In4 cs (i*4) r)∧(∀ i r,k≤i→M[i]?=some r→In4 cs (i*4) r))∧Below w.heap.size w wr) (fun i _=>L.length - (intOf i).toNat)
  case atStart =>
   obtain ⟨hh,hs,hc⟩:=HK0.out;have hgw:g<w1.heap.size:=(gE hh).1;exact ⟨0,by omega,rfl,⟨cs0,(Below.heap_alloc _ _ _ hgw).trans hh,hs,fun i r hi=>absurd hi (by omega),fun i r _ hr=>hc i r hr⟩,balloc HB0.out⟩
  case round =>
   obtain ⟨k,hk,rfl,⟨cs,hh,hs,hc,hc'⟩,hB⟩:=hrel;clear HK0 HB0 HM
   by_cases hlt:k<L.length
   ·have hd:decide ((k:Int)<(L.length:Int))=true:=by simpa using hlt
    obtain ⟨b,off,rfl,hb,hps⟩:=(h.keep hB).cells (by omega);have hget:L[k]?=some L[k]:=List.getElem?_eq_getElem hlt;obtain ⟨c0,c1,c2,c3,c4,c5,c6,c7,c8⟩:=hps k _ hget;generalize hx:L[k]=p at *
    have hkM:k<M.length:=by rw [HML.out];exact hlt
    have hgetM:M[k]?=some M[k]:=List.getElem?_eq_getElem hkM;obtain ⟨r0,r1,r2,r3⟩:=(hc' k _ (by omega) hgetM).cells hh;generalize hy:M[k]=r at *;have HR:=hD (HMK.out r (List.mem_of_getElem? hgetM));have HP:=hD (HOK.out p (List.mem_of_getElem? hget));have HG:=hD (setL_get hget hgetM);have HH:=hD hh;have HS:=hD hs;have HC:=hD hc;have HC':=hD hc';have HBB:=hD hB;have hgl:g<wr.heap.size:=(gE hh).1
    have hgn:¬ g=wr.heap.size:=by omega
    clear hget hx hgetM hy hh hs hc hc' hB hps
    go_wp2_with fail
    refine wp_region_grow 12 1 (·<12) (by kernel_rfl) (by kernel_rfl) rfl ?_
    iterate 12 (refine wpG_step (fun K hK=>?_);apply Exists.intro;refine ⟨.inl ⟨rfl,fun w' hw'=>?_⟩,?_⟩;(focus ((obtain ⟨hc,hf⟩:=bcell hw'.out);(have hcS:=bcellS hw'.out);go_simp <;> first | rfl | (go_at_call 154;exact psettled_w p r _ HP.out HR.out)));(go_simp;refine hK _ ?_;clear hK K))
    refine wpG_nil ?_;refine wpK_tail (by kernel_rfl) (fun w2 hg2=>?_);have hB2:Below wr.heap.size wr w2:=bgrow (Below.drew (Below.refl _ _)) hg2;replace HH:=hD ((hB2.block _ hgl).trans HH.out);replace HBB:=hD (HBB.out.trans (hB2.mono HBB.out.size));clear hg2 hB2 c0 c1 c2 c3 c4 c5 c6 c7 c8 r0 r1 r2 r3 hgl hgn
    have hsz:k*4+4≤cs.size:=by rw [HS.out];omega
    obtain ⟨y0,d0⟩:=there HH.out (i:=k*4) (by omega);obtain ⟨y1,d1⟩:=there HH.out (i:=k*4+1) (by omega);obtain ⟨y2,d2⟩:=there HH.out (i:=k*4+2) (by omega);obtain ⟨y3,d3⟩:=there HH.out (i:=k*4+3) (by omega);have f0:=frozenH HH.out (k*4);have f1:=frozenH HH.out (k*4+1);have f2:=frozenH HH.out (k*4+2);have f3:=frozenH HH.out (k*4+3)
    obtain ⟨S,hS⟩:∃ S,setP p r=S:=⟨_,rfl⟩
    rw [hS];replace HG:Hid ((setL L M)[k]?=some S):=hD (by rw [<- hS];exact HG.out);have E1:=hD (pput4 HH.out (k*4) S);have E2:=hD (pput4b HBB.out hg (k*4) (k*4+1) (k*4+2) (k*4+3) (.int .i64 S.x) (.int .i64 S.y) (.int .i64 S.u) (.int .i64 S.v));clear hS HH HBB;refine wpAny_one (i:=12) (by kernel_rfl) rfl rfl ?_;go_simp;refine wpAny_end (by kernel_rfl) ?_;refine nopan_normal ?_;go_wp2
    go_roundw
    case rel=>exact ⟨k+1,by omega,by go_num,⟨_,E1.out,(writeAt_size _ _ _).trans HS.out,fun i q hi hq=>by
     by_cases e:i=k
     ·subst e
      obtain rfl:S=q:=by have:=HG.out;rw [this] at hq;exact Option.some.inj hq
      exact In4.write S hsz
     ·exact (HC.out i q (by omega) hq).keep (.inl (by omega)),fun i q hi hq=>(HC'.out i q (by omega) hq).keep (.inr (by omega))⟩,E2.out⟩
    case measure=>simp [intOf];omega
   ·have hd:decide ((k:Int)<(L.length:Int))=false:=by simp;omega
    obtain rfl:k=L.length:=by omega
    have HK:=hD (show RV wr (.slice (some ⟨g,0,none⟩) L.length cap) (setL L M) from ⟨_,cap,by rw [setL_len HML.out],fun _=>⟨g,rfl,(gE hh).1,fun i r hr=>(hc i r (by have:=(List.getElem?_eq_some_iff.1 hr).1;rwa [setL_len HML.out] at this) hr).cells hh⟩⟩);have HBB:=hD hB;clear hh hs hc hc' hB;go_wp2;go_ret;exact ⟨⟨_,rfl,HK.out,fun k hk=>by cases hk;exact hg⟩,HBB.out⟩
end
end Go.Proofs.YtenckjdiggaonaaGreat
