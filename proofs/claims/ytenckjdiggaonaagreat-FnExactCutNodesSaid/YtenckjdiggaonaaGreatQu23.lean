import Derived.Test.YtenckjdiggaonaaGreatQu22
set_option linter.unusedVariables false
set_option linter.unusedSimpArgs false
set_option maxRecDepth 100000
set_option maxHeartbeats 16000000
namespace Go.Proofs.YtenckjdiggaonaaGreat
open Go.RowKit
attribute [local go_sem] growUpon_value growUpon_skip growUpon_enter
section
attribute [local go_sem 5000] run_mx run_mn
attribute [local go_sem] givesUpon_value givesUpon_skip givesUpon_enter
theorem belowNg {B:Nat} {a w:World} (h:Below B a w) (n:Nat):Below B a (w.drewN n):=⟨h.os,h.tape,h.output,h.size,h.block⟩
theorem put4g {w:World} {b:Nat} {a0 a1 a2 a3:Value} {T:TypeId} {fz:Nat × Nat} (h:w.heap[b]?=some (.cells #[a0,a1,a2,a3] T fz)) (x0 x1 x2 x3:Value) :
  ((((w.setCell ⟨b,0,none⟩ x0).setCell ⟨b,1,none⟩ x1).setCell ⟨b,2,none⟩ x2).setCell ⟨b,3,none⟩ x3).heap[b]?=some (.cells #[x0,x1,x2,x3] T fz):=by
 replace h:=putS (i:=0) h x0;simp only [List.setIfInBounds_toArray,List.set_cons_zero] at h;replace h:=putS (i:=1) h x1;simp only [List.setIfInBounds_toArray,List.set_cons_succ,List.set_cons_zero] at h;replace h:=putS (i:=2) h x2;simp only [List.setIfInBounds_toArray,List.set_cons_succ,List.set_cons_zero] at h;replace h:=putS (i:=3) h x3
 simp only [List.setIfInBounds_toArray,List.set_cons_succ,List.set_cons_zero] at h;exact h
theorem put4gb {B b:Nat} {a w:World} (h:Below B a w) (hb:B≤b) (x0 x1 x2 x3:Value) :
  Below B a ((((w.setCell ⟨b,0,none⟩ x0).setCell ⟨b,1,none⟩ x1).setCell ⟨b,2,none⟩ x2).setCell ⟨b,3,none⟩ x3) :=
 (((h.setCell (p:=⟨b,0,none⟩) hb _).setCell (p:=⟨b,1,none⟩) hb _).setCell (p:=⟨b,2,none⟩) hb _).setCell (p:=⟨b,3,none⟩) hb _
theorem inset_g (x y u v p q:Int) (w:World) (h:((0≤x∧x≤20000000000000)∧(0≤y∧y≤20000000000000))∧((0≤u∧u≤20000000000000)∧(0≤v∧v≤20000000000000))) (hp:0≤p∧p≤10) (hq:0≤q∧q≤10):Calls Tryz.prog 211 #[.agg #[.int .i64 (x),.int .i64 (y),.int .i64 (u),.int .i64 (v)],.int .i64 p,.int .i64 q] w fun e w'=>e=.returned (.agg #[.int .i64 (x+mn p (u / 2)),.int .i64 (y+mn q (v / 2)),.int .i64 (mx (u - 2*p) 0),.int .i64 (mx (v - 2*q) 0)])∧Below w.heap.size w w':=by
 have hbd:=ins_bd (a:=⟨x,y,u,v⟩) h hp hq
 dsimp only at hbd
 obtain ⟨⟨⟨m1,m2⟩,m3,m4⟩,⟨m5,m6⟩,m7,m8⟩:=hbd;obtain ⟨⟨⟨a1,a2⟩,⟨a3,a4⟩⟩,⟨a5,a6⟩,⟨a7,a8⟩⟩:=h;obtain ⟨b1,b2⟩:=hp;obtain ⟨b3,b4⟩:=hq
 go_enter Tryz.func211,Tryz.ntmps211
 go_wp2
 exact bodyPost_ret (v:=.agg #[.int .i64 (x+mn p (u / 2)),.int .i64 (y+mn q (v / 2)),.int .i64 (mx (u - 2*p) 0),.int .i64 (mx (v - 2*q) 0)]) (by simp only [results,Tryz.results211];go_simp) rfl ⟨rfl,(by repeat (first | with_reducible exact Below.refl _ _ | with_reducible assumption | with_reducible refine balloc ?_ | (with_reducible refine bset ?_ ?_;rotate_left;((try dsimp only);omega)) | refine bkeep2 ?_ (by assumption) | with_reducible refine Below.drew ?_))⟩
theorem anchored_g (x y u v p q k:Int) (w:World) (h:((0≤x∧x≤20000000000010)∧(0≤y∧y≤20000000000010))∧((0≤u∧u≤20000000000000)∧(0≤v∧v≤20000000000000))) (hp:0≤p∧p≤20000000000000) (hq:0≤q∧q≤20000000000000) (hk:0≤k∧k≤8):Calls Tryz.prog 213 #[.agg #[.int .i64 (x),.int .i64 (y),.int .i64 (u),.int .i64 (v)],.int .i64 p,.int .i64 q,.int .i64 k] w fun e w'=>e=.returned (.agg #[.int .i64 (x+(u - mn p u)*(k % 3) / 2),.int .i64 (y+(v - mn q v)*(k / 3) / 2),.int .i64 (mn p u),.int .i64 (mn q v)])∧Below w.heap.size w w':=by
 obtain ⟨m1,m2,m3,m4,m5,m6,m7,m8,m9,m10,m11,m12⟩:=anc_bd h.2.1 h.2.2 hp hq hk;obtain ⟨⟨⟨a1,a2⟩,⟨a3,a4⟩⟩,⟨a5,a6⟩,⟨a7,a8⟩⟩:=h;obtain ⟨b5,b6⟩:=hk
 go_enter Tryz.func213,Tryz.ntmps213
 go_wp2_with fail
 go_quiet (fail)
 go_wp2
 exact bodyPost_ret (v:=.agg #[.int .i64 (x+(u - mn p u)*(k % 3) / 2),.int .i64 (y+(v - mn q v)*(k / 3) / 2),.int .i64 (mn p u),.int .i64 (mn q v)]) (by simp only [results,Tryz.results213];go_simp) rfl ⟨rfl,(by repeat (first | with_reducible exact Below.refl _ _ | with_reducible assumption | with_reducible refine balloc ?_ | (with_reducible refine bset ?_ ?_;rotate_left;((try dsimp only);omega)) | refine bkeep2 ?_ (by assumption) | with_reducible refine Below.drew ?_ | refine belowNg ?_ _))⟩
theorem inset_r (a b:Re) (p q:Int) (w:World) (h:BdR a) (hp:0≤p∧p≤10) (hq:0≤q∧q≤10) (hb:insR a p q=b):Calls Tryz.prog 211 #[.agg #[.int .i64 a.x,.int .i64 a.y,.int .i64 a.u,.int .i64 a.v],.int .i64 p,.int .i64 q] w fun e w'=>e=.returned (.agg #[.int .i64 b.x,.int .i64 b.y,.int .i64 b.u,.int .i64 b.v])∧Below w.heap.size w w':=by
 subst hb;exact inset_g _ _ _ _ _ _ w h hp hq
theorem anchored_r (a S:Re) (p q k:Int) (w:World) (h:((0≤a.x∧a.x≤20000000000010)∧(0≤a.y∧a.y≤20000000000010))∧((0≤a.u∧a.u≤20000000000000)∧(0≤a.v∧a.v≤20000000000000))) (hp:0≤p∧p≤20000000000000) (hq:0≤q∧q≤20000000000000) (hk:0≤k∧k≤8) (hb:ancR a p q k=S):Calls Tryz.prog 213 #[.agg #[.int .i64 a.x,.int .i64 a.y,.int .i64 a.u,.int .i64 a.v],.int .i64 p,.int .i64 q,.int .i64 k] w fun e w'=>e=.returned (.agg #[.int .i64 S.x,.int .i64 S.y,.int .i64 S.u,.int .i64 S.v])∧Below w.heap.size w w':=by
 subst hb;exact anchored_g _ _ _ _ _ _ _ w h hp hq hk
theorem stuck_v (n room k s t:Int) (w:World) (h:0≤k∧k≤3) (hs:stkI n room k=(s,t)):Calls Tryz.prog 212 #[.int .i64 n,.int .i64 room,.int .i64 k] w fun e w'=>e=.returned (.tuple #[.int .i64 s,.int .i64 t])∧w=w':=by
 have hk:k=0 ∨ k=1 ∨ k=2 ∨ k=3:=by omega
 rcases hk with rfl | rfl | rfl | rfl
 all_goals
  simp [stkI] at hs
  obtain ⟨rfl,rfl⟩:=hs
  go_enter Tryz.func212,Tryz.ntmps212
  go_wp2;refine bodyPost_ret (by simp only [results,Tryz.results212];go_simp) rfl ⟨rfl,rfl⟩
theorem inLines_v (p:Ce) (a:Re) (w:World) (hp:smW p) (hs:0≤p.sk∧p.sk≤15) (ha:BdR a) (S:Re) (hS:celI a p=S) :
  Calls Tryz.prog 204 #[.agg #[.int .i64 p.co,.int .i64 p.ro,.int .i64 p.mc,.int .i64 p.mr,.int .i64 p.cw,.int .i64 p.ch,.int .i64 p.sk,.int .i64 p.px,.int .i64 p.py],.agg #[.int .i64 a.x,.int .i64 a.y,.int .i64 a.u,.int .i64 a.v]] w fun e w'=>e=.returned (.agg #[.int .i64 S.x,.int .i64 S.y,.int .i64 S.u,.int .i64 S.v])∧Below w.heap.size w w':=by
 obtain ⟨hw,hh,hpx,hpy⟩:=hp;have hins:=ins_bd ha hpx hpy
 obtain ⟨b,hb⟩:∃ b,insR a p.px p.py=b:=⟨_,rfl⟩
 have hbx:b.x=a.x+mn p.px (a.u / 2)∧b.y=a.y+mn p.py (a.v / 2)∧b.u=mx (a.u - 2*p.px) 0∧b.v=mx (a.v - 2*p.py) 0:=by rw [<- hb];exact ⟨rfl,rfl,rfl,rfl⟩
 have hbb:((0≤b.x∧b.x≤20000000000010)∧(0≤b.y∧b.y≤20000000000010))∧((0≤b.u∧b.u≤20000000000000)∧(0≤b.v∧b.v≤20000000000000)):=by
  obtain ⟨⟨h1,h2⟩,h3,h4⟩:=ha;omega
 unfold celI at hS;rw [hb] at hS;have q1:=stkI_bd (k:=p.sk % 4) hw hbb.2.1;have q2:=stkI_bd (k:=p.sk / 4) hh hbb.2.2
 obtain ⟨⟨s1,t1⟩,hst1⟩:∃ z,stkI p.cw b.u (p.sk % 4)=z:=⟨_,rfl⟩
 obtain ⟨⟨s2,t2⟩,hst2⟩:∃ z,stkI p.ch b.v (p.sk / 4)=z:=⟨_,rfl⟩
 rw [hst1] at hS q1;rw [hst2] at hS q2;obtain ⟨q1a,q1b,q1c⟩:=q1;obtain ⟨q2a,q2b,q2c⟩:=q2
 dsimp only at hS q1a q1b q1c q2a q2b q2c
 obtain ⟨hs0,hs1⟩:=hs;have HBB:=hD hbb;have HAB:=hD ha;have HP:=hD (And.intro hpx hpy);have HQ:=hD (And.intro q1a q2a);have HS1:=hD hst1;have HS2:=hD hst2;have HSS:=hD hS;have HIN:=hD hb;clear hins hbx hbb ha hpx hpy hst1 hst2 hS q1a q2a hb hw hh
 go_enter Tryz.func204,Tryz.ntmps204
 go_upto_region 1 with (fail)
 refine wp_genGG (fun W=>W.heap[w.heap.size]?=some (.cells #[.int .i64 p.co,.int .i64 p.ro,.int .i64 p.mc,.int .i64 p.mr,.int .i64 p.cw,.int .i64 p.ch,.int .i64 p.sk,.int .i64 p.px,.int .i64 p.py] 80 (0,0))∧W.heap[w.heap.size+1]?=some (.cells #[.int .i64 a.x,.int .i64 a.y,.int .i64 a.u,.int .i64 a.v] 45 (0,0))∧W.heap[w.heap.size+1+1]?=some (.cells #[.int .i64 0,.int .i64 0,.int .i64 0,.int .i64 0] 45 (0,0))∧Below w.heap.size w W) ⟨(Below.heap_alloc _ _ w.heap.size (by simp;omega)).trans ((Below.heap_alloc _ _ w.heap.size (by simp)).trans (newS w _)),(Below.heap_alloc _ _ (w.heap.size+1) (by simp)).trans (by have:=newS (w.alloc (.cells #[.int .i64 p.co,.int .i64 p.ro,.int .i64 p.mc,.int .i64 p.mr,.int .i64 p.cw,.int .i64 p.ch,.int .i64 p.sk,.int .i64 p.px,.int .i64 p.py] 80 (0,0))) (.cells #[.int .i64 a.x,.int .i64 a.y,.int .i64 a.u,.int .i64 a.v] 45 (0,0));rwa [World.size_alloc] at this),by have:=newS ((w.alloc (.cells #[.int .i64 p.co,.int .i64 p.ro,.int .i64 p.mc,.int .i64 p.mr,.int .i64 p.cw,.int .i64 p.ch,.int .i64 p.sk,.int .i64 p.px,.int .i64 p.py] 80 (0,0))).alloc (.cells #[.int .i64 a.x,.int .i64 a.y,.int .i64 a.u,.int .i64 a.v] 45 (0,0))) (.cells #[.int .i64 0,.int .i64 0,.int .i64 0,.int .i64 0] 45 (0,0));rwa [World.size_alloc,World.size_alloc] at this,balloc (balloc (balloc (Below.refl _ _)))⟩ (fun w0 h0=>?_)
 obtain ⟨hx,hy,hz,hb0⟩:=h0;have HX:=hD hx;have HY:=hD hy;have HZ:=hD hz;have HB:=hD hb0;have lz:=ltS hz;have d7:=cellS hx 7;have d8:=cellS hx 8;have y0:=cellS hy 0;have y1:=cellS hy 1;have y2:=cellS hy 2;have y3:=cellS hy 3;clear hx hy hz hb0
 go_wp2_with fail
 with_reducible refine (inset_r a b p.px p.py _ HAB.out HP.out.1 HP.out.2 HIN.out).mono ?_
 rintro e w1 ⟨rfl,hb1⟩;clear d7 d8 y0 y1 y2 y3 lz;replace HX:=hbk hb1 HX;replace HY:=hbk hb1 HY;replace HZ:=hbk hb1 HZ;replace HB:=hD (bkeep2 HB.out hb1);clear hb1
 go_upto_region 2 with (fail)
 refine wp_genGG (fun W=>W.heap[w.heap.size]?=some (.cells #[.int .i64 p.co,.int .i64 p.ro,.int .i64 p.mc,.int .i64 p.mr,.int .i64 p.cw,.int .i64 p.ch,.int .i64 p.sk,.int .i64 p.px,.int .i64 p.py] 80 (0,0))∧W.heap[w.heap.size+1+1]?=some (.cells #[.int .i64 0,.int .i64 0,.int .i64 0,.int .i64 0] 45 (0,0))∧W.heap[w1.heap.size]?=some (.cells #[.int .i64 b.x,.int .i64 b.y,.int .i64 b.u,.int .i64 b.v] 45 (0,0))∧Below w.heap.size w W) ⟨(Below.heap_alloc _ _ _ (ltS HX.out)).trans HX.out,(Below.heap_alloc _ _ _ (ltS HZ.out)).trans HZ.out,newS _ _,balloc HB.out⟩ (fun w2 h2=>?_)
 have ne:w.heap.size+1+1 ≠ w1.heap.size:=by have:=ltS HZ.out;omega
 have HN:=hD ne;clear HX HY HZ HB ne;obtain ⟨hx,hz,hy,hb0⟩:=h2;have HX:=hD hx;have HY:=hD hy;have HZ:=hD hz;have HB:=hD hb0;have d4:=cellS hx 4;have d5:=cellS hx 5;have d6:=cellS hx 6;have y2:=cellS hy 2;have y3:=cellS hy 3;have lx:=ltS hx;have ly:=ltS hy;clear hx hy hz hb0
 go_wp2_with fail
 with_reducible refine (stuck_v p.cw b.u (p.sk % 4) s1 t1 _ (by omega) HS1.out).mono ?_
 rintro e w3 ⟨rfl,rfl⟩
 go_wp2_with fail
 with_reducible refine (stuck_v p.ch b.v (p.sk / 4) s2 t2 _ (by omega) HS2.out).mono ?_
 rintro e w3 ⟨rfl,rfl⟩;have y0:=cellS HY.out 0;have y1:=cellS HY.out 1
 go_wp2_with fail
 with_reducible refine (anchored_r b S s1 s2 (t1+3*t2) _ HBB.out HQ.out.1 HQ.out.2 (by omega) HSS.out).mono ?_
 rintro e w4 ⟨rfl,hb4⟩;clear d4 d5 d6 y0 y1 y2 y3 lx ly;replace HX:=hbk hb4 HX;replace HZ:=hbk hb4 HZ;replace HB:=hD (bkeep2 HB.out hb4);clear hb4;have z0:=cellS HZ.out 0;have z1:=cellS HZ.out 1;have z2:=cellS HZ.out 2;have z3:=cellS HZ.out 3;have f0:=frozenS HZ.out 0;have f1:=frozenS HZ.out 1;have f2:=frozenS HZ.out 2;have f3:=frozenS HZ.out 3;have lz:=ltS HZ.out;go_wp2
 refine bp_genG (fun W=>W.heap[w.heap.size+1+1]?=some (.cells #[.int .i64 S.x,.int .i64 S.y,.int .i64 S.u,.int .i64 S.v] 45 (0,0))∧Below w.heap.size w W) ⟨put4g HZ.out _ _ _ _,put4gb HB.out (by omega) _ _ _ _⟩ ?_;clear z0 z1 z2 z3 f0 f1 f2 f3 lz;rintro W ⟨hp,hbW⟩;have z0:=cellS hp 0;have z1:=cellS hp 1;have z2:=cellS hp 2;have z3:=cellS hp 3
 exact bodyPost_ret (v:=.agg #[.int .i64 S.x,.int .i64 S.y,.int .i64 S.u,.int .i64 S.v]) (by simp only [results,Tryz.results204];go_simp) rfl ⟨rfl,hbW⟩
end
section
attribute [local go_sem] givesUpon_value givesUpon_skip givesUpon_enter
theorem cellK_v (k1 k2 m1 m2:Nat) (cw ch sk px py:Int) (S1 S2:List Int) (B1 B2:Option Addr) (n1 e1 n2 e2 bx1 bx2:Nat) (S:Re) (w:World)
  (hp:smW ⟨k1,k2,m1,m2,cw,ch,sk,px,py⟩) (hs:0≤sk∧sk≤15) (hk1:k1+m1≤S1.length) (hk2:k2+m2≤S2.length) (hz1:SzB S1) (hz2:SzB S2) (hn1:n1=S1.length+1) (hn2:n2=S2.length+1)
  (hx1:w.heap[bx1]?=some (.cells #[.slice B1 n1 e1] 37 (0,0))) (hx2:w.heap[bx2]?=some (.cells #[.slice B2 n2 e2] 37 (0,0))) (hv1:NV w B1 (edL S1)) (hv2:NV w B2 (edL S2)) (hS:cellR S1 S2 ⟨k1,k2,m1,m2,cw,ch,sk,px,py⟩=S) :
  Calls Tryz.prog 203 #[.agg #[.int .i64 k1,.int .i64 k2,.int .i64 m1,.int .i64 m2,.int .i64 cw,.int .i64 ch,.int .i64 sk,.int .i64 px,.int .i64 py],.pointer (some ⟨bx1,0,none⟩),.pointer (some ⟨bx2,0,none⟩)] w fun e w'=>e=.returned (.agg #[.int .i64 S.x,.int .i64 S.y,.int .i64 S.u,.int .i64 S.v])∧Below w.heap.size w w':=by
 have har:=area_bd hz1 hz2 ⟨k1,k2,m1,m2,cw,ch,sk,px,py⟩;have heq:=celI_eq (S1:=S1) (S2:=S2) (c:=⟨k1,k2,m1,m2,cw,ch,sk,px,py⟩) hs hp.1 hp.2.1 hp.2.2.1 hp.2.2.2 har;rw [hS] at heq;have t1:=take_seg S1 k1 m1;have t2:=take_seg S2 k2 m2;have b1:=hz1.take k1;have b2:=hz2.take k2;have b3:=hz1.take (k1+m1);have b4:=hz2.take (k2+m2);have l5:=hz1.2.2;have l6:=hz2.2.2
 obtain ⟨b1_,off1,rfl,hb1,hp1⟩:=hv1.cells (by rw [edL_len];omega);obtain ⟨b2_,off2,rfl,hb2,hp2⟩:=hv2.cells (by rw [edL_len];omega);have c1:=hp1 k1 _ (edL_get (S:=S1) (i:=k1) (by omega));have c2:=hp1 (k1+m1) _ (edL_get (S:=S1) (i:=k1+m1) (by omega));have c3:=hp2 k2 _ (edL_get (S:=S2) (i:=k2) (by omega));have c4:=hp2 (k2+m2) _ (edL_get (S:=S2) (i:=k2+m2) (by omega));have g1:=cellS hx1 0
 have g2:=cellS hx2 0;have lx1:=ltS hx1;have lx2:=ltS hx2
 have hA:areaR S1 S2 ⟨k1,k2,m1,m2,cw,ch,sk,px,py⟩=⟨sumI (S1.take k1),sumI (S2.take k2),sumI (S1.take (k1+m1)) - sumI (S1.take k1),sumI (S2.take (k2+m2)) - sumI (S2.take k2)⟩:=by
  unfold areaR;rw [t1,t2];simp only [Int.toNat_natCast];rw [Int.add_comm,Int.add_sub_cancel,Int.add_comm (sumI (List.take k2 S2)),Int.add_sub_cancel]
 rw [hA] at heq har;clear t1 t2 hA hx1 hx2 hp1 hp2 hv1 hv2 hS
 obtain ⟨l,hl⟩:∃ z,sumI (S1.take k1)=z:=⟨_,rfl⟩
 obtain ⟨t,ht⟩:∃ z,sumI (S2.take k2)=z:=⟨_,rfl⟩
 obtain ⟨r,hr⟩:∃ z,sumI (S1.take (k1+m1))=z:=⟨_,rfl⟩
 obtain ⟨b,hbb⟩:∃ z,sumI (S2.take (k2+m2))=z:=⟨_,rfl⟩
 rw [hl] at c1 b1 heq har;rw [ht] at c3 b2 heq har;rw [hr] at c2 b3 heq har;rw [hbb] at c4 b4 heq har;have hSm:SmW l t r b:=SmW_of (by omega)
 have i1:(k1:Int)<(n1:Int):=by omega
 have i2:(k1:Int)+(m1:Int)<(n1:Int):=by omega
 have i3:(0:Int)≤(k1:Int)+(m1:Int):=by omega
 have i4:((k1:Int)+(m1:Int)).toNat=k1+m1:=by omega
 have w1:IntKind.i64.wrap ((k1:Int)+(m1:Int))=(k1:Int)+(m1:Int):=IntWalk.i64_in _ (by omega)
 have j1:(k2:Int)<(n2:Int):=by omega
 have j2:(k2:Int)+(m2:Int)<(n2:Int):=by omega
 have j3:(0:Int)≤(k2:Int)+(m2:Int):=by omega
 have j4:((k2:Int)+(m2:Int)).toNat=k2+m2:=by omega
 have w2:IntKind.i64.wrap ((k2:Int)+(m2:Int))=(k2:Int)+(m2:Int):=IntWalk.i64_in _ (by omega);have HQ:=hD (And.intro hp (And.intro hs (And.intro har heq)));have HC:=hD (And.intro c1 (And.intro c2 (And.intro c3 (And.intro c4 (And.intro g1 g2)))));clear hl ht hr hbb c1 c2 c3 c4 g1 g2 hp hs har heq b1 b2 b3 b4 l5 l6 hn1 hn2 hk1 hk2 hz1 hz2
 go_enter Tryz.func203,Tryz.ntmps203
 go_upto_region 1 with (fail)
 refine wp_genGG (fun W=>W.heap[w.heap.size]?=some (.cells #[.int .i64 k1,.int .i64 k2,.int .i64 m1,.int .i64 m2,.int .i64 cw,.int .i64 ch,.int .i64 sk,.int .i64 px,.int .i64 py] 80 (0,0))∧W.heap[w.heap.size+1]?=some (.cells #[.int .i64 0,.int .i64 0,.int .i64 0,.int .i64 0] 45 (0,0))∧Below w.heap.size w W) ⟨(Below.heap_alloc _ _ w.heap.size (by simp)).trans (newS w _),by have:=newS (w.alloc (.cells #[.int .i64 k1,.int .i64 k2,.int .i64 m1,.int .i64 m2,.int .i64 cw,.int .i64 ch,.int .i64 sk,.int .i64 px,.int .i64 py] 80 (0,0))) (.cells #[.int .i64 0,.int .i64 0,.int .i64 0,.int .i64 0] 45 (0,0));rwa [World.size_alloc] at this,balloc (balloc (Below.refl _ _))⟩ (fun w0 h0=>?_)
 obtain ⟨hx,hz,hB⟩:=h0;obtain ⟨c1,c2,c3,c4,g1,g2⟩:=HC.out;obtain ⟨hcw,-⟩:=bcell hB;have x0:=cellS hx 0;have x1:=cellS hx 1;have x2:=cellS hx 2;have x3:=cellS hx 3;have x4:=cellS hx 4;have x5:=cellS hx 5;have x6:=cellS hx 6;have x7:=cellS hx 7;have x8:=cellS hx 8;have d1:=(hcw _ _ hb1).trans c1;have d2:=(hcw _ _ hb1).trans c2;have d3:=(hcw _ _ hb2).trans c3;have d4:=(hcw _ _ hb2).trans c4
 have d5:=(hcw _ _ lx1).trans g1;have d6:=(hcw _ _ lx2).trans g2;have z0:=cellS hz 0;have z1:=cellS hz 1;have z2:=cellS hz 2;have z3:=cellS hz 3;have f0:=frozenS hz 0;have f1:=frozenS hz 1;have f2:=frozenS hz 2;have f3:=frozenS hz 3;have lx:=ltS hx;have lz:=ltS hz;have hsw:=hB.size
 have q1:b1_<w0.heap.size:=by omega
 have q2:b2_<w0.heap.size:=by omega
 have q3:bx1<w0.heap.size:=by omega
 have q4:bx2<w0.heap.size:=by omega
 have HZ:=hD hz;have HB:=hD hB;clear hx hz hB c1 c2 c3 c4 g1 g2 hcw HC
 go_wp2_with fail
 refine wp_region_grow 29 1 (·<29) (by kernel_rfl) (by kernel_rfl) rfl ?_
 iterate 29 (refine wpG_step (fun K hK=>?_);first | (refine grow_skip rfl ?_;go_simp;refine hK _ ?_;clear hK K) | (apply Exists.intro;refine ⟨.inl ⟨rfl,fun w' hw'=>?_⟩,?_⟩;(focus ((obtain ⟨hc,hf⟩:=bcell hw'.out);(have hcS:=bcellS hw'.out);go_simp <;> first | rfl | (go_at_call 147;exact corners_w _ _ _ _ _ hSm) | (go_at_call 204;exact inLines_v ⟨k1,k2,m1,m2,cw,ch,sk,px,py⟩ ⟨l,t,r - l,b - t⟩ _ HQ.out.1 HQ.out.2.1 HQ.out.2.2.1 S HQ.out.2.2.2)));(go_simp;refine hK _ ?_;clear hK K)))
 refine wpG_nil ?_;refine wpK_tail (by kernel_rfl) (fun w8 hg8=>?_);have hb8:=bdrewn hg8.out;obtain ⟨hc8,hf8⟩:=bcell hb8;refine wpAny_one (i:=29) (by kernel_rfl) rfl rfl ?_;go_simp;refine wpAny_end (by kernel_rfl) ?_;refine NoPan.thn ?_;clear hc8 hf8;clear hg8;have hz2:=put4g ((hb8.block _ lz).trans HZ.out) (.int .i64 S.x) (.int .i64 S.y) (.int .i64 S.u) (.int .i64 S.v)
 have hbz:=put4gb (bkeep2 HB.out hb8) (b:=w.heap.size+1) (by omega) (.int .i64 S.x) (.int .i64 S.y) (.int .i64 S.u) (.int .i64 S.v);go_wp2;refine bp_genG (fun W=>W.heap[w.heap.size+1]?=some (.cells #[.int .i64 S.x,.int .i64 S.y,.int .i64 S.u,.int .i64 S.v] 45 (0,0))∧Below w.heap.size w W) ⟨hz2,hbz⟩ ?_;clear x0 x1 x2 x3 x4 x5 x6 x7 x8 d1 d2 d3 d4 d5 d6 z0 z1 z2 z3 f0 f1 f2 f3 hz2 hbz
 rintro W ⟨hq,hbW⟩;have z0:=cellS hq 0;have z1:=cellS hq 1;have z2:=cellS hq 2;have z3:=cellS hq 3;exact bodyPost_ret (v:=.agg #[.int .i64 S.x,.int .i64 S.y,.int .i64 S.u,.int .i64 S.v]) (by simp only [results,Tryz.results203];go_simp) rfl ⟨rfl,hbW⟩
def fitC (S1 S2:List Int) (p:Ce):Prop:=smW p∧(0≤p.sk∧p.sk≤15)∧(0≤p.co∧0≤p.ro∧1≤p.mc∧1≤p.mr)∧p.co+p.mc≤S1.length∧p.ro+p.mr≤S2.length
theorem cellJ_v (p:Ce) (S1 S2:List Int) (B1 B2:Option Addr) (n1 e1 n2 e2 bx1 bx2:Nat) (w:World) (hf:fitC S1 S2 p) (hz1:SzB S1) (hz2:SzB S2) (hn1:n1=S1.length+1) (hn2:n2=S2.length+1)
  (hx1:w.heap[bx1]?=some (.cells #[.slice B1 n1 e1] 37 (0,0))) (hx2:w.heap[bx2]?=some (.cells #[.slice B2 n2 e2] 37 (0,0))) (hv1:NV w B1 (edL S1)) (hv2:NV w B2 (edL S2)) :
  Calls Tryz.prog 203 #[.agg #[.int .i64 p.co,.int .i64 p.ro,.int .i64 p.mc,.int .i64 p.mr,.int .i64 p.cw,.int .i64 p.ch,.int .i64 p.sk,.int .i64 p.px,.int .i64 p.py],.pointer (some ⟨bx1,0,none⟩),.pointer (some ⟨bx2,0,none⟩)] w fun e w'=>e=.returned (.agg #[.int .i64 (cellR S1 S2 p).x,.int .i64 (cellR S1 S2 p).y,.int .i64 (cellR S1 S2 p).u,.int .i64 (cellR S1 S2 p).v])∧Below w.heap.size w w':=by
 obtain ⟨co,ro,mc,mr,cw,ch,sk,px,py⟩:=p;obtain ⟨h1,h2,⟨h3,h4,h5,h6⟩,h7,h8⟩:=hf
 dsimp only at h3 h4 h5 h6 h7 h8
 obtain ⟨k1,rfl⟩:=Int.eq_ofNat_of_zero_le h3;obtain ⟨k2,rfl⟩:=Int.eq_ofNat_of_zero_le h4;obtain ⟨m1,rfl⟩:=Int.eq_ofNat_of_zero_le (show 0≤mc by omega);obtain ⟨m2,rfl⟩:=Int.eq_ofNat_of_zero_le (show 0≤mr by omega);exact cellK_v k1 k2 m1 m2 cw ch sk px py S1 S2 B1 B2 n1 e1 n2 e2 bx1 bx2 _ w h1 h2 (by omega) (by omega) hz1 hz2 hn1 hn2 hx1 hx2 hv1 hv2 rfl
theorem each_rect (A:Option Addr) (c:Nat) (L:List Ce) (S1 S2:List Int) (B1 B2:Option Addr) (n1 e1 n2 e2 bx1 bx2:Nat) (w:World) (h:CeV w A L) (hL:L.length≤1048576) (hsm:∀ p ∈ L,fitC S1 S2 p) (hz1:SzB S1) (hz2:SzB S2) (hn1:n1=S1.length+1) (hn2:n2=S2.length+1)
  (hx1:w.heap[bx1]?=some (.cells #[.slice B1 n1 e1] 37 (0,0))) (hx2:w.heap[bx2]?=some (.cells #[.slice B2 n2 e2] 37 (0,0))) (hv1:NV w B1 (edL S1)) (hv2:NV w B2 (edL S2)) :
  Calls Tryz.prog 202 #[.slice A L.length c,.func (.func 203) #[] #[.pointer (some ⟨bx1,0,none⟩),.pointer (some ⟨bx2,0,none⟩)]] w fun e w'=>e=.returned (.slice (some ⟨w.heap.size,0,none⟩) L.length L.length)∧ReB w' w.heap.size (L.map (cellR S1 S2))∧Below w.heap.size w w':=by
 obtain ⟨f,hf,hmk0⟩:=madeRe
 have hmk:∀ w:World,(Instr.makeSlice 26 (.int .i64 (L.length:Int)) (.int .i64 (L.length:Int))).run Tryz.prog w=.ok (.slice (some ⟨w.heap.size,0,none⟩) L.length L.length) (w.alloc (.cells (f L.length) 45)):=fun w=>hmk0 L.length w hL
 have HSM:=hD hsm;have HZZ:=hD (And.intro hz1 (And.intro hz2 (And.intro hn1 hn2)));have HX1:=hD hx1;have HX2:=hD hx2;have HW1:=hD hv1;have HW2:=hD hv2;clear hz1 hz2 hn1 hn2 hx1 hx2 hv1 hv2
 go_enter Tryz.func202,Tryz.ntmps202
 go_wp2_with fail
 have HWW:Hid (∃ cs:Array Value,(w.alloc (.cells (f L.length) 45)).heap[w.heap.size]?=some (.cells cs 45 (0,0))∧cs.size=L.length*4∧∀ i p,i<0→(L.map (cellR S1 S2))[i]?=some p→InS cs (i*4) (valsRe p)):=hD ⟨_,newS _ _,hf _,fun i p hi=>absurd hi (by omega)⟩;clear hmk hmk0 hf hsm
 go_loopw [13] (fun i wr=>∃ k:Nat,k≤L.length∧i=.int .i64 k∧(∃ cs:Array Value,wr.heap[w.heap.size]?=some (.cells cs 45 (0,0))∧cs.size=L.length*4∧∀ i p,i<k→(L.map (cellR S1 S2))[i]?=some p→InS cs (i*4) (valsRe p))∧Below w.heap.size w wr) (fun i _=>L.length - (intOf i).toNat)
 case atStart=>exact ⟨0,by omega,rfl,HWW.out,balloc (Below.refl _ _)⟩
 case round =>
  obtain ⟨k,hk,rfl,⟨cs,hh,hs,hc⟩,hB⟩:=hrel;clear HWW
  by_cases hlt:k<L.length
  ·have hd:decide ((k:Int)<(L.length:Int))=true:=by simpa using hlt
   obtain ⟨b,off,rfl,hb,hp⟩:=(h.keep hB).cells (by omega);have hget:L[k]?=some L[k]:=List.getElem?_eq_getElem hlt;obtain ⟨c0,c1,c2,c3,c4,c5,c6,c7,c8⟩:=hp k _ hget;have hsk:fitC S1 S2 L[k]:=HSM.out _ (List.getElem_mem hlt);generalize hx:L[k]=p at *;have HG:=hD (show (L.map (cellR S1 S2))[k]?=some (cellR S1 S2 p) by rw [List.getElem?_map,hget];rfl);have HH:=hD hh;have HS:=hD hs;have HC:=hD hc
   have HBB:=hD hB;have HK:=hD hsk;clear hget hx hh hs hc hB hp hsk
   go_wp2_with fail
   have hbn:Below w.heap.size w (wr.alloc (.cells #[.int .i64 p.co,.int .i64 p.ro,.int .i64 p.mc,.int .i64 p.mr,.int .i64 p.cw,.int .i64 p.ch,.int .i64 p.sk,.int .i64 p.px,.int .i64 p.py] 80)):=balloc HBB.out
   with_reducible refine (cellJ_v p S1 S2 B1 B2 n1 e1 n2 e2 bx1 bx2 _ HK.out HZZ.out.1 HZZ.out.2.1 HZZ.out.2.2.1 HZZ.out.2.2.2 ((hbn.block _ (ltS HX1.out)).trans HX1.out) ((hbn.block _ (ltS HX2.out)).trans HX2.out) (HW1.out.keep hbn) (HW2.out.keep hbn)).mono ?_
   rintro e w1 ⟨rfl,hb1⟩;have hlg:w.heap.size<wr.heap.size:=ltS HH.out;have hb01:=bkeep2 (balloc (Below.refl wr.heap.size wr)) hb1;replace HH:=hD ((hb01.block _ hlg).trans HH.out);replace HBB:=hD (HBB.out.trans (hb01.mono HBB.out.size));clear hbn hb1 hb01 c0 c1 c2 c3 c4 c5 c6 c7 c8 hlg
   have hsz:k*4+4≤cs.size:=by rw [HS.out];omega
   obtain ⟨y0,d0⟩:=thereS HH.out (i:=k*4) (by omega);obtain ⟨y1,d1⟩:=thereS HH.out (i:=k*4+1) (by omega);obtain ⟨y2,d2⟩:=thereS HH.out (i:=k*4+2) (by omega);obtain ⟨y3,d3⟩:=thereS HH.out (i:=k*4+3) (by omega);have f0:=frozenS HH.out (k*4);have f1:=frozenS HH.out (k*4+1);have f2:=frozenS HH.out (k*4+2);have f3:=frozenS HH.out (k*4+3);have E1:=hD (putRe HH.out (k*4) (cellR S1 S2 p))
   have E2:=hD (putReb HBB.out (Nat.le_refl _) (k*4) (cellR S1 S2 p));go_wp2
   go_roundw
   case rel=>exact ⟨k+1,by omega,by go_num,⟨_,E1.out,(wrAt_size _ _ _).trans HS.out,fun i q hi hq=>by
    by_cases e:i=k
    ·subst e
     obtain rfl:(cellR S1 S2 p)=q:=by have:=HG.out;rw [this] at hq;exact Option.some.inj hq
     exact InS.write (by simp only [valsRe,List.length_cons,List.length_nil];omega)
    ·exact (HC.out i q (by omega) hq).keepS (.inl (by simp only [valsRe,List.length_cons,List.length_nil];omega))⟩,E2.out⟩
   case measure=>simp [intOf];omega
  ·have hd:decide ((k:Int)<(L.length:Int))=false:=decide_eq_false (by omega)
   obtain rfl:k=L.length:=by omega
   have HR:=hD (show ReB wr w.heap.size (L.map (cellR S1 S2)) from ⟨cs,hh,by rw [List.length_map];exact hs,fun i p hp=>hc i p (by have:=(List.getElem?_eq_some_iff.1 hp).1;rwa [List.length_map] at this) hp⟩);have HBB:=hD hB;clear hh hs hc hB;go_wp2;go_ret;exact ⟨rfl,HR.out,HBB.out⟩
theorem fit_ofW {L1 L2:List Ln} {L3:List Ce} {S1 S2:List Int} (hg:GW L1 L2 L3) (h1:S1.length=L1.length) (h2:S2.length=L2.length):∀ p ∈ L3,fitC S1 S2 p:=fun p hp=>by
 have hs:=hg.hsm p hp;obtain ⟨a,b,c⟩:=hg.hin p hp;exact ⟨hs,c,by omega,by omega,by omega⟩
theorem gridRects_w (A1:Option Addr) (c1:Nat) (L1:List Ln) (A2:Option Addr) (c2:Nat) (L2:List Ln) (A3:Option Addr) (c3:Nat) (L3:List Ce) (u v:Int) (w:World) (h1:LnV w A1 L1) (h2:LnV w A2 L2) (h3:CeV w A3 L3) (gf:GW L1 L2 L3) (hu:rqW u v=true) :
  Calls Tryz.prog 200 #[.agg #[.slice A1 L1.length c1,.slice A2 L2.length c2,.slice A3 L3.length c3],.int .i64 u,.int .i64 v] w fun e w'=>(∃ g,e=.returned (.slice (some ⟨g,0,none⟩) L3.length L3.length)∧w.heap.size≤g∧ReB w' g (L3.map (cellR (sizedM L1 (L3.map acM) u) (sizedM L2 (L3.map dnM) v))))∧Below w.heap.size w w':=by
 obtain ⟨⟨u0,u1⟩,⟨y0,y1⟩⟩:=rqW_iff.1 hu;have q1:=sizedM_lenW (room:=u) gf.v1 gf.s1 u0 u1;have q2:=sizedM_lenW (room:=v) gf.v2 gf.s2 y0 y1;have HFT:=hD (fit_ofW gf q1 q2);have HZ1:=hD (SzB.of gf.v1 gf.s1 u0 u1);have HZ2:=hD (SzB.of gf.v2 gf.s2 y0 y1);have HQ:=hD (And.intro q1 q2);have hl8:=gf.hl8;have HG:=hD (And.intro gf hu)
 have hB0:Below w.heap.size w (w.alloc (.cells #[.slice A1 L1.length c1,.slice A2 L2.length c2,.slice A3 L3.length c3] 123 (0,0))):=balloc (Below.refl _ _);have HX:=hD (newS w (.cells #[.slice A1 L1.length c1,.slice A2 L2.length c2,.slice A3 L3.length c3] 123 (0,0)));have HV1:=hD (h1.keep hB0);have HV2:=hD (h2.keep hB0);have HV3:=hD (h3.keep hB0);have HB:=hD hB0;clear hB0 h1 h2 h3 gf hu q1 q2
 go_enter Tryz.func200,Tryz.ntmps200
 go_wp2_with fail
 with_reducible refine (edges_w A1 c1 L1 A2 c2 L2 A3 c3 L3 u v _ HV1.out HV2.out HV3.out HG.out.1 HG.out.2).mono ?_
 rintro e w1 ⟨⟨B1,e1,B2,e2,rfl,hi1,hi2⟩,hb⟩;replace HX:=hbk hb HX;replace HV3:=hD (HV3.out.keep hb);replace HB:=hD (bkeep2 HB.out hb);clear hb;have HI1:=hD hi1;have HI2:=hD hi2;clear hi1 hi2
 go_upto_region 2 with (fail)
 refine wp_genGG (fun W=>W.heap[w1.heap.size]?=some (.cells #[.slice B1 (L1.length+1) e1] 37 (0,0))∧W.heap[w1.heap.size+1]?=some (.cells #[.slice B2 (L2.length+1) e2] 37 (0,0))∧Below w1.heap.size w1 W) ?hw (fun w2 h2=>?_)
 case hw =>
  exact ⟨(Below.heap_alloc _ _ _ (by simp)).trans (newS _ _),by have:=newS (w1.alloc (.cells #[.slice B1 (L1.length+1) e1] 37 (0,0))) (.cells #[.slice B2 (L2.length+1) e2] 37 (0,0));rwa [World.size_alloc] at this,balloc (balloc (Below.refl _ _))⟩
 obtain ⟨hx1,hx2,hb2⟩:=h2;replace HX:=hbk hb2 HX;replace HV3:=hD (HV3.out.keep hb2);replace HI1:=hD (HI1.out.keep hb2);replace HI2:=hD (HI2.out.keep hb2);replace HB:=hD (bkeep2 HB.out hb2);clear hb2;have HX1:=hD hx1;have HX2:=hD hx2;clear hx1 hx2;have d2:=cellS HX.out 2
 go_wp2_with fail
 with_reducible refine (each_rect A3 c3 L3 _ _ B1 B2 (L1.length+1) e1 (L2.length+1) e2 w1.heap.size (w1.heap.size+1) _ HV3.out (by omega) HFT.out HZ1.out HZ2.out (by rw [HQ.out.1]) (by rw [HQ.out.2]) HX1.out HX2.out HI1.out HI2.out).mono ?_
 rintro e w3 ⟨rfl,hr,hb3⟩;have hsz:=HB.out.size;clear d2;replace HX:=hbk hb3 HX;replace HB:=hD (bkeep2 HB.out hb3);clear hb3;have HR:=hD hr;clear hr;go_wp2;go_ret;exact ⟨⟨_,rfl,hsz,HR.out⟩,HB.out⟩
def ReR (w:World) (x:Value) (M:List Re):Prop:=∃ A c,x=.slice A M.length c∧ReV w A M
theorem ReR.keep {w w':World} {x:Value} {M:List Re} (h:ReR w x M) (hb:Below w.heap.size w w'):ReR w' x M:=let ⟨A,c,e,n⟩:=h;⟨A,c,e,n.keep hb⟩
end
section
def reqName:String:="loop.example/widgetroom/impl.request"
theorem nc_pk (v:Value) (w:World):(nilAhead (Tryz.prog.types.size+Made.depth) 165 v "loop.example/widgetroom/impl.request").run Tryz.prog w=.ok (some false) w:=by kernel_rfl
theorem nc_gr (v:Value) (w:World):(nilAhead (Tryz.prog.types.size+Made.depth) 159 v "loop.example/widgetroom/impl.request").run Tryz.prog w=.ok (some false) w:=by kernel_rfl
theorem nc_pl (v:Value) (w:World):(nilAhead (Tryz.prog.types.size+Made.depth) 161 v "loop.example/widgetroom/impl.request").run Tryz.prog w=.ok (some false) w:=by kernel_rfl
theorem cm_pk (v u:Value) (w:World):(callMethod (.iface 165 v) "loop.example/widgetroom/impl.request" #[u]).run Tryz.prog w=.ok (.enter 229 #[v,u]) w:=by kernel_rfl
theorem cm_gr (v u:Value) (w:World):(callMethod (.iface 159 v) "loop.example/widgetroom/impl.request" #[u]).run Tryz.prog w=.ok (.enter 199 #[v,u]) w:=by kernel_rfl
theorem cm_pl (v u:Value) (w:World):(callMethod (.iface 161 v) "loop.example/widgetroom/impl.request" #[u]).run Tryz.prog w=.ok (.enter 221 #[v,u]) w:=by kernel_rfl
theorem run_inv {P:Program} {ρ:Operand→Value} {o:Oper} {w:World} {T:TypeId} {v u:Value} {x y:Operand} {name:String} {ts:Array TypeId} {F:FuncId} (ho:o.op=.call { callee:=.invoke x name,args:=#[y],argTypes:=ts }) (hx:ρ x=.iface T v) (hy:ρ y=u) (hc:(callMethod (.iface T v) name #[u]).run P w=.ok (.enter F #[v,u]) w):(execOp ρ o).run P w=.ok (.enter F #[v,u]) w:=by
 unfold execOp;simp only [ho,resolve,List.map_toArray,List.map_cons,List.map_nil,hx,hy,Sem.run_bind,Sem.run_pure,Result.andThen_ok,invoke]
 simpa using hc
theorem run_mf {P:Program} {ρ:Operand→Value} {o:Oper} {w:World} {x:Operand} {name:String} (ho:o.op=.makeFunc (.method name) #[x] #[]):(execOp ρ o).run P w=.ok (.value (.func (.method name) #[ρ x] #[])) w:=by
 unfold execOp;simp only [ho]
 simp [Instr.makeFunc,Sem.run_pure]
theorem run_nc {P:Program} {ρ:Operand→Value} {o:Oper} {w:World} {T:TypeId} {v:Value} {x:Operand} {name:String} (ho:o.op=.nilCheck x) (hx:ρ x=.func (.method name) #[.iface T v] #[]) (hn:(nilAhead (P.types.size+Made.depth) T v name).run P w=.ok (some false) w):(execOp ρ o).run P w=.ok (.value (ρ x)) w:=by
 unfold execOp;simp only [ho,hx]
 simp [Sem.run_bind,hn]
theorem arReq {v:Value} {x:Wd} {p:Nr} {Y:List Wd} {w:World} {ww hh:Int} {q:Int × Int} (h:ArV w v x Y) (hx:x.p=p) (hr:RdN w p) (hl:Y.length≤10)
  (c0:p.n.ki ≠ 1→p.n.ki ≠ 2→(∀ r ∈ Y.map pkW,r.big)∧reqM (Y.map pkW)=q)
  (c1:p.n.ki=1→(linesB p.n.cs=true∧linesB p.n.rs=true)∧((∀ r ∈ Y.map ceW,smW r)∧spansW p.n.cs.length ((Y.map ceW).map acM)∧spansW p.n.rs.length ((Y.map ceW).map dnM))∧gridM p.n.cs p.n.rs (Y.map ceW)=q)
  (c2:p.n.ki=2→(ww,hh)=q) :
  ∃ T u F,v=.iface T u∧(nilAhead (Tryz.prog.types.size+Made.depth) T u "loop.example/widgetroom/impl.request").run Tryz.prog w=.ok (some false) w ∧
   (∀ z w,(callMethod (.iface T u) "loop.example/widgetroom/impl.request" #[z]).run Tryz.prog w=.ok (.enter F #[u,z]) w) ∧
   Calls Tryz.prog F #[u,.agg (valsWi (ww,hh)).toArray] w fun e w'=>e=.returned (.agg (valsWi q).toArray)∧Below w.heap.size w w':=by
 subst hx;obtain ⟨g,hg,⟨k1,rfl,hv⟩ | ⟨k1,rfl,hv⟩ | ⟨k1,k2,rfl,hv⟩⟩:=h
 ·obtain ⟨⟨l1,l2⟩,⟨s1,s2,s3⟩,rfl⟩:=c1 k1;refine ⟨_,_,_,rfl,nc_gr _ _,fun _ _=>cm_gr _ _ _,?_⟩;exact gridReq_v _ _ _ _ _ _ _ _ _ (Y.map ceW) ww hh w hr.c hr.r (cev_of (by rw [List.map_map];exact hv)) (by rw [List.length_map]) l1 l2 (by rw [List.length_map];exact hl) s1 s2 s3
 ·obtain rfl:=c2 k1;exact ⟨_,_,_,rfl,nc_pl _ _,fun _ _=>cm_pl _ _ _,placeReq_v _ ww hh w⟩
 ·obtain ⟨b1,rfl⟩:=c0 k1 k2;refine ⟨_,_,_,rfl,nc_pk _ _,fun _ _=>cm_pk _ _ _,?_⟩;exact packReq_v _ _ _ (Y.map pkW) ww hh w (pv_of (by rw [List.map_map];exact hv)) (by rw [List.length_map]) b1 (by rw [List.length_map];exact hl)
def MfV (w:World) (v:Value) (x:Wd) (Y:List Wd):Prop:=∃ u,v=.func (.method "loop.example/widgetroom/impl.request") #[u] #[]∧ArV w u x Y
theorem MfV.keep {w w':World} {v:Value} {x:Wd} {Y:List Wd} (h:MfV w v x Y) (hb:Below w.heap.size w w'):MfV w' v x Y:=let ⟨u,e,k⟩:=h;⟨u,e,k.keep hb⟩
theorem pick_pk {R:List Nr} {X:List Wd} {f:Nat→Int × Int}:∀ {ks:List Nat},(∀ k ∈ ks,∃ y p,X[k]?=some y∧R[k]?=some p∧y.p=p∧(y.sw,y.sh)=f k)→(pickW X ks).map pkW=pksF (R.map Nr.n) f ks∧(pickW X ks).map ceW=cesF (R.map Nr.n) f ks
 | [],_=>⟨rfl,rfl⟩
 | k :: t,h=>by
  obtain ⟨y,p,h1,h2,h3,h4⟩:=h k (List.mem_cons_self ..)
  obtain ⟨i1,i2⟩:=pick_pk (X:=X) (R:=R) (f:=f) (ks:=t) fun k hk=>h k (List.mem_cons_of_mem _ hk)
  have e:(R.map Nr.n)[k]?=some p.n:=by rw [List.getElem?_map,h2];rfl
  unfold pickW at i1 i2 ⊢;unfold pksF at i1 ⊢;unfold cesF at i2 ⊢;rw [List.filterMap_cons_some (b:=y) h1,List.filterMap_cons_some (b:=pkOf p.n (f k)) (by rw [e];rfl),List.filterMap_cons_some (b:=ceOf p.n (f k)) (by rw [e];rfl)];rw [List.map_cons,List.map_cons,i1,i2];refine ⟨?_,?_⟩
  ·congr 1
   unfold pkW pkOf;rw [h3,<- h4]
  ·congr 1
   unfold ceW ceOf;rw [h3,<- h4]
end
section
theorem reB_blk {w:World} {g:Nat} {M:List Rc} (h:Blk4 w g M):ReB w g (M.map rcRe):=by
 obtain ⟨cs,hh,hs,hc⟩:=h;refine ⟨cs,hh,by rw [hs,List.length_map],fun i p hp=>?_⟩;rw [List.getElem?_map] at hp;obtain ⟨r,hr,rfl⟩:=Option.map_eq_some_iff.1 hp;intro j u hj;have hj4:j<4:=(List.getElem?_eq_some_iff.1 hj).1;rw [hc i r hr j hj4];exact hj
theorem reB_rbk {w:World} {g:Nat} {M:List Re} (h:RbK 4 w g 45 (M.map valsRe)):ReB w g M:=by
 obtain ⟨cs,hh,hs,hc⟩:=h;rw [List.length_map] at hs;exact ⟨cs,hh,hs,fun i p hp=>hc i (valsRe p) (by rw [List.length_map];exact (List.getElem?_eq_some_iff.1 hp).1) (by rw [List.getElem?_map,hp];rfl)⟩
theorem pkRects_v (A:Option Addr) (c n:Nat) (L:List Pk) (u v:Int) (w:World) (h:PV w A L) (hn:n=L.length) (hcap:L.length≤c) (hL:bgL L) (hq:rqW u v=true) :
  Calls Tryz.prog 228 #[.slice A n c,.int .i64 u,.int .i64 v] w fun e w'=>(∃ g,e=.returned (.slice (some ⟨g,0,none⟩) n n)∧w.heap.size≤g∧ReB w' g ((setL L (parcM L ⟨0,0,u,v⟩).1).map rcRe))∧Below w.heap.size w w':=by
 subst hn;obtain ⟨q1,q2⟩:=rqW_iff.1 hq
 have hz:(⟨0,0,u,v⟩:Rc).okW:=by unfold Rc.okW;dsimp only;omega
 obtain ⟨M,Z,hM⟩:∃ M Z,parcM L ⟨0,0,u,v⟩=(M,Z):=⟨_,_,rfl⟩
 rw [show (parcM L ⟨0,0,u,v⟩).1=M from by rw [hM]];have HP:=hD (packRects_w A c L ⟨0,0,u,v⟩ w h hcap hL hz M Z hM);clear h hcap hL hq hz hM q1 q2
 go_enter Tryz.func228,Tryz.ntmps228
 go_wp2_with fail
 refine HP.out.mono ?_;rintro e w1 ⟨⟨g,rfl,hg,hk⟩,hb⟩;have HK:=hD (reB_blk hk);have HB:=hD hb;clear hk hb;go_wp2;go_ret;exact ⟨⟨g,rfl,hg,HK.out⟩,HB.out⟩
theorem grRects_v (A1:Option Addr) (c1:Nat) (L1:List Ln) (A2:Option Addr) (c2:Nat) (L2:List Ln) (A3:Option Addr) (c3 n3:Nat) (L3:List Ce) (u v:Int) (w:World) (h1:LnV w A1 L1) (h2:LnV w A2 L2) (h3:CeV w A3 L3) (hn:n3=L3.length) (gf:GW L1 L2 L3) (hq:rqW u v=true) :
  Calls Tryz.prog 198 #[.agg #[.slice A1 L1.length c1,.slice A2 L2.length c2,.slice A3 n3 c3],.int .i64 u,.int .i64 v] w fun e w'=>(∃ g,e=.returned (.slice (some ⟨g,0,none⟩) n3 n3)∧w.heap.size≤g∧ReB w' g (L3.map (cellR (sizedM L1 (L3.map acM) u) (sizedM L2 (L3.map dnM) v))))∧Below w.heap.size w w':=by
 subst hn;have hB0:Below w.heap.size w (w.alloc (.cells #[.slice A1 L1.length c1,.slice A2 L2.length c2,.slice A3 L3.length c3] 159 (0,0))):=balloc (Below.refl _ _);have HG:=hD (gridRects_w A1 c1 L1 A2 c2 L2 A3 c3 L3 u v _ (h1.keep hB0) (h2.keep hB0) (h3.keep hB0) gf hq);have HX:=hD (newS w (.cells #[.slice A1 L1.length c1,.slice A2 L2.length c2,.slice A3 L3.length c3] 159 (0,0)))
 have d0:=cellS HX.out 0;have d1:=cellS HX.out 1;have d2:=cellS HX.out 2;clear hB0 h1 h2 h3 gf hq
 go_enter Tryz.func198,Tryz.ntmps198
 go_wp2_with fail
 refine HG.out.mono ?_;rintro e w1 ⟨⟨g,rfl,hg,hr⟩,hb⟩;have HB:=hD (bkeep2 (balloc (Below.refl w.heap.size w)) hb);have HR:=hD hr
 have hg2:w.heap.size≤g:=by simp only [World.size_alloc] at hg;omega
 clear hr hb d0 d1 d2 HX HG;go_wp2;go_ret;exact ⟨⟨g,rfl,hg2,HR.out⟩,HB.out⟩
theorem plr1_v (p:Plc) (u v:Int) (b1 b2:Nat) (w:World) (hp:plB p=true) (hq:rqW u v=true) (h1:w.cell? ⟨b1,0,none⟩=some (.int .i64 u)) (h2:w.cell? ⟨b2,0,none⟩=some (.int .i64 v)) (l1:b1<w.heap.size) (l2:b2<w.heap.size) :
  Calls Tryz.prog 223 #[.agg #[.int .i64 p.x,.int .i64 p.y,.int .i64 p.rx,.int .i64 p.ry,.int .i64 p.ww,.int .i64 p.hh,.int .i64 p.qw,.int .i64 p.qh,.int .i64 p.an],.pointer (some ⟨b1,0,none⟩),.pointer (some ⟨b2,0,none⟩)] w fun e w'=>e=.returned (.agg #[.int .i64 (xM p u),.int .i64 (yM p v),.int .i64 (wM p u),.int .i64 (hM p v)])∧Below w.heap.size w w':=by
 have HPR:=hD (fun W=>placeRect_w p u v W hp hq);have HC:=hD (And.intro h1 h2);clear hp hq h1 h2
 go_enter Tryz.func223,Tryz.ntmps223
 go_upto_region 1 with (fail)
 refine wp_genGG (fun W=>W.heap[w.heap.size]?=some (.cells #[.int .i64 p.x,.int .i64 p.y,.int .i64 p.rx,.int .i64 p.ry,.int .i64 p.ww,.int .i64 p.hh,.int .i64 p.qw,.int .i64 p.qh,.int .i64 p.an] 82 (0,0))∧W.heap[w.heap.size+1]?=some (.cells #[.int .i64 0,.int .i64 0,.int .i64 0,.int .i64 0] 45 (0,0))∧Below w.heap.size w W) ⟨(Below.heap_alloc _ _ w.heap.size (by simp)).trans (newS w _),newS1T w _ _,balloc (balloc (Below.refl _ _))⟩ (fun W0 h0=>?_)
 obtain ⟨hx,hz,hB⟩:=h0;obtain ⟨c0,c1,c2,c3,c4,c5,c6,c7,c8⟩:=c9_q hx;have d1:=(hB.cell (p:=⟨b1,0,none⟩) l1).trans HC.out.1;have d2:=(hB.cell (p:=⟨b2,0,none⟩) l2).trans HC.out.2;have lx:=ltS hx;have HZ:=hD hz;have HB:=hD hB;have k1:b1<W0.heap.size:=Nat.lt_of_lt_of_le l1 hB.size;have k2:b2<W0.heap.size:=Nat.lt_of_lt_of_le l2 hB.size;clear hx hz hB
 go_wp2_with fail
 refine (HPR.out _).mono ?_;rintro e w1 ⟨rfl,hb1⟩;clear c0 c1 c2 c3 c4 c5 c6 c7 c8 d1 d2 lx k1 k2;replace HZ:=hbk hb1 HZ;replace HB:=hD (bkeep2 HB.out hb1);clear hb1;have z0:=cellS HZ.out 0;have z1:=cellS HZ.out 1;have z2:=cellS HZ.out 2;have z3:=cellS HZ.out 3;have f0:=frozenS HZ.out 0;have f1:=frozenS HZ.out 1;have f2:=frozenS HZ.out 2;have f3:=frozenS HZ.out 3;have lz:=ltS HZ.out
 obtain ⟨x0,e0⟩:∃ z,xM p u=z:=⟨_,rfl⟩
 obtain ⟨y0,e1⟩:∃ z,yM p v=z:=⟨_,rfl⟩
 obtain ⟨u0,e2⟩:∃ z,wM p u=z:=⟨_,rfl⟩
 obtain ⟨v0,e3⟩:∃ z,hM p v=z:=⟨_,rfl⟩
 rw [e0,e1,e2,e3];have HE:=hD (And.intro e0 (And.intro e1 (And.intro e2 e3)));clear e0 e1 e2 e3;go_wp2;refine bp_genG (fun W=>W.heap[w.heap.size+1]?=some (.cells #[.int .i64 x0,.int .i64 y0,.int .i64 u0,.int .i64 v0] 45 (0,0))∧Below w.heap.size w W) ⟨put4g HZ.out _ _ _ _,put4gb HB.out (by omega) _ _ _ _⟩ ?_;clear z0 z1 z2 z3 f0 f1 f2 f3 lz;rintro W ⟨hp,hbW⟩;have z0:=cellS hp 0;have z1:=cellS hp 1
 have z2:=cellS hp 2;have z3:=cellS hp 3;exact bodyPost_ret (v:=.agg #[.int .i64 x0,.int .i64 y0,.int .i64 u0,.int .i64 v0]) (by simp only [results,Tryz.results223];go_simp) rfl ⟨by rw [HE.out.1,HE.out.2.1,HE.out.2.2.1,HE.out.2.2.2],hbW⟩
def iV (v:Value):Int:=intOf v
def plOf (vs:List Value):Plc:=⟨iV (gd vs 0),iV (gd vs 1),iV (gd vs 2),iV (gd vs 3),iV (gd vs 4),iV (gd vs 5),iV (gd vs 6),iV (gd vs 7),iV (gd vs 8)⟩
theorem valsRe_one2 (r:Re):one (valsRe r):=by
 intro v hv;simp only [valsRe,List.mem_cons,List.not_mem_nil,or_false] at hv
 rcases hv with rfl | rfl | rfl | rfl <;> rfl
theorem each_prL (A:Option Addr) (c n:Nat) (L:List Plc) (u v:Int) (b1 b2:Nat) (w:World) (h:RvK 9 w A (L.map valsPl)) (hn:n=L.length) (hl:n≤1048576) (hp:∀ p ∈ L,plB p=true) (hq:rqW u v=true) (h1:w.cell? ⟨b1,0,none⟩=some (.int .i64 u)) (h2:w.cell? ⟨b2,0,none⟩=some (.int .i64 v)) (l1:b1<w.heap.size) (l2:b2<w.heap.size) :
  Calls Tryz.prog 222 #[.slice A n c,.func (.func 223) #[] #[.pointer (some ⟨b1,0,none⟩),.pointer (some ⟨b2,0,none⟩)]] w fun e w'=>e=.returned (.slice (some ⟨w.heap.size,0,none⟩) n n)∧ReB w' w.heap.size (L.map (plR u v))∧Below w.heap.size w w':=by
 have e:(L.map valsPl).length=n:=by simp [hn]
 rw [<- e]
 refine (each_pr A c (L.map valsPl) (fun vs=>valsRe (plR u v (plOf vs))) #[.pointer (some ⟨b1,0,none⟩),.pointer (some ⟨b2,0,none⟩)] w h (fun vs hv=>by obtain ⟨p,_,rfl⟩:=List.mem_map.1 hv;exact ⟨rfl,valsPl_one p⟩) (by rw [e];exact hl) (fun vs hv=>⟨rfl,valsRe_one2 _⟩) (fun vs hv W hW=>by
  obtain ⟨p,hm,rfl⟩:=List.mem_map.1 hv
  exact plr1_v p u v b1 b2 W (hp p hm) hq ((hW.cell (p:=⟨b1,0,none⟩) l1).trans h1) ((hW.cell (p:=⟨b2,0,none⟩) l2).trans h2) (Nat.lt_of_lt_of_le l1 hW.size) (Nat.lt_of_lt_of_le l2 hW.size))).mono ?_
 rintro e w1 ⟨rfl,hr,hb⟩;rw [List.map_map] at hr;refine ⟨rfl,reB_rbk ?_,hb⟩;rw [List.map_map];exact hr
theorem plRects_v (A:Option Addr) (c n:Nat) (L:List Plc) (u v:Int) (w:World) (h:RvK 9 w A (L.map valsPl)) (hn:n=L.length) (hl:n≤1048576) (hp:∀ p ∈ L,plB p=true) (hq:rqW u v=true) :
  Calls Tryz.prog 220 #[.slice A n c,.int .i64 u,.int .i64 v] w fun e w'=>(∃ g,e=.returned (.slice (some ⟨g,0,none⟩) n n)∧w.heap.size≤g∧ReB w' g (L.map (plR u v)))∧Below w.heap.size w w':=by
 have HE:=hD (fun (W:World) b1 b2 (hW:Below w.heap.size w W)=>each_prL A c n L u v b1 b2 W (h.keep hW) hn hl hp hq);clear h hn hp hq
 go_enter Tryz.func220,Tryz.ntmps220
 go_upto_region 1 with (fail)
 refine wp_genGG (fun W=>W.heap[w.heap.size]?=some (.cells #[.int .i64 u] 3 (0,0))∧W.heap[w.heap.size+1]?=some (.cells #[.int .i64 v] 3 (0,0))∧Below w.heap.size w W) ⟨(Below.heap_alloc _ _ w.heap.size (by simp)).trans (newS w _),newS1T w _ _,balloc (balloc (Below.refl _ _))⟩ (fun W0 h0=>?_);obtain ⟨hx,hz,hB⟩:=h0;have HC:=hD (HE.out W0 _ _ hB (cellS hx 0) (cellS hz 0) (ltS hx) (ltS hz))
 have HB:=hD hB;clear hx hz hB HE
 go_wp2_with fail
 refine HC.out.mono ?_;rintro e w1 ⟨rfl,hr,hb⟩;have hs:=HB.out.size;have HR:=hD hr;clear hr HC;replace HB:=hD (bkeep2 HB.out hb);clear hb;go_wp2;go_ret;exact ⟨⟨_,rfl,hs,HR.out⟩,HB.out⟩
theorem ncr_pk (v:Value) (w:World):(nilAhead (Tryz.prog.types.size+Made.depth) 165 v "loop.example/widgetroom/impl.rects").run Tryz.prog w=.ok (some false) w:=by kernel_rfl
theorem ncr_gr (v:Value) (w:World):(nilAhead (Tryz.prog.types.size+Made.depth) 159 v "loop.example/widgetroom/impl.rects").run Tryz.prog w=.ok (some false) w:=by kernel_rfl
theorem ncr_pl (v:Value) (w:World):(nilAhead (Tryz.prog.types.size+Made.depth) 161 v "loop.example/widgetroom/impl.rects").run Tryz.prog w=.ok (some false) w:=by kernel_rfl
theorem cmr_pk (v a b:Value) (w:World):(callMethod (.iface 165 v) "loop.example/widgetroom/impl.rects" #[a,b]).run Tryz.prog w=.ok (.enter 228 #[v,a,b]) w:=by kernel_rfl
theorem cmr_gr (v a b:Value) (w:World):(callMethod (.iface 159 v) "loop.example/widgetroom/impl.rects" #[a,b]).run Tryz.prog w=.ok (.enter 198 #[v,a,b]) w:=by kernel_rfl
theorem cmr_pl (v a b:Value) (w:World):(callMethod (.iface 161 v) "loop.example/widgetroom/impl.rects" #[a,b]).run Tryz.prog w=.ok (.enter 220 #[v,a,b]) w:=by kernel_rfl
theorem run_inv2 {P:Program} {ρ:Operand→Value} {o:Oper} {w:World} {T:TypeId} {v u1 u2:Value} {x y z:Operand} {name:String} {ts:Array TypeId} {F:FuncId} (ho:o.op=.call { callee:=.invoke x name,args:=#[y,z],argTypes:=ts }) (hx:ρ x=.iface T v) (hy:ρ y=u1) (hz:ρ z=u2) (hc:(callMethod (.iface T v) name #[u1,u2]).run P w=.ok (.enter F #[v,u1,u2]) w):(execOp ρ o).run P w=.ok (.enter F #[v,u1,u2]) w:=by
 unfold execOp;simp only [ho,resolve,List.map_toArray,List.map_cons,List.map_nil,hx,hy,hz,Sem.run_bind,Sem.run_pure,Result.andThen_ok,invoke]
 simpa using hc
def arM (n:Nd) (Y:List Wd) (a b:Int):List Re :=
 if n.ki=1 then (Y.map ceW).map (cellR (sizedM n.cs ((Y.map ceW).map acM) a) (sizedM n.rs ((Y.map ceW).map dnM) b))
 else if n.ki=2 then (Y.map fun y=>y.p.n.pl).map (plR a b)
 else (setL (Y.map pkW) (parcM (Y.map pkW) ⟨0,0,a,b⟩).1).map rcRe
theorem arRects {v:Value} {x:Wd} {p:Nr} {Y:List Wd} {w:World} {a b:Int} (h:ArV w v x Y) (hx:x.p=p) (hr:RdN w p) (hl:Y.length≤10) (hq:rqW a b=true)
  (c0:p.n.ki ≠ 1→p.n.ki ≠ 2→bgL (Y.map pkW)) (c1:p.n.ki=1→GW p.n.cs p.n.rs (Y.map ceW)) (c2:∀ y ∈ Y,plB y.p.n.pl=true) :
  ∃ T u F,v=.iface T u∧(nilAhead (Tryz.prog.types.size+Made.depth) T u "loop.example/widgetroom/impl.rects").run Tryz.prog w=.ok (some false) w ∧
   (∀ y z w,(callMethod (.iface T u) "loop.example/widgetroom/impl.rects" #[y,z]).run Tryz.prog w=.ok (.enter F #[u,y,z]) w) ∧
   Calls Tryz.prog F #[u,.int .i64 a,.int .i64 b] w fun e w'=>(∃ g,e=.returned (.slice (some ⟨g,0,none⟩) Y.length Y.length)∧w.heap.size≤g∧ReB w' g (arM p.n Y a b))∧Below w.heap.size w w':=by
 subst hx;obtain ⟨g,hg,⟨k1,rfl,hv⟩ | ⟨k1,rfl,hv⟩ | ⟨k1,k2,rfl,hv⟩⟩:=h
 ·refine ⟨_,_,_,rfl,ncr_gr _ _,fun _ _ _=>cmr_gr _ _ _ _,?_⟩;unfold arM;rw [if_pos k1];exact grRects_v _ _ _ _ _ _ _ _ _ (Y.map ceW) a b w hr.c hr.r (cev_of (by rw [List.map_map];exact hv)) (by rw [List.length_map]) (c1 k1) hq
 ·refine ⟨_,_,_,rfl,ncr_pl _ _,fun _ _ _=>cmr_pl _ _ _ _,?_⟩;unfold arM;rw [if_neg (by omega),if_pos k1];exact plRects_v _ _ _ (Y.map fun y=>y.p.n.pl) a b w (by rw [List.map_map];exact hv) (by rw [List.length_map]) (by omega) (fun q hq=>by obtain ⟨y,hy,rfl⟩:=List.mem_map.1 hq;exact c2 y hy) hq
 ·refine ⟨_,_,_,rfl,ncr_pk _ _,fun _ _ _=>cmr_pk _ _ _ _,?_⟩;unfold arM;rw [if_neg k1,if_neg k2];exact pkRects_v _ _ _ (Y.map pkW) a b w (pv_of (by rw [List.map_map];exact hv)) (by rw [List.length_map]) (by rw [List.length_map];exact Nat.le_refl _) (c0 k1 k2) hq
def MrV (w:World) (v:Value) (x:Wd) (Y:List Wd):Prop:=∃ u,v=.func (.method "loop.example/widgetroom/impl.rects") #[u] #[]∧ArV w u x Y
theorem MrV.keep {w w':World} {v:Value} {x:Wd} {Y:List Wd} (h:MrV w v x Y) (hb:Below w.heap.size w w'):MrV w' v x Y:=let ⟨u,e,k⟩:=h;⟨u,e,k.keep hb⟩
theorem pick_pl {R:List Nr} {X:List Wd}:∀ {ks:List Nat},(∀ k ∈ ks,∃ y p,X[k]?=some y∧R[k]?=some p∧y.p=p)→(pickW X ks).map (fun y=>y.p.n.pl)=plsF (R.map Nr.n) ks
 | [],_=>rfl
 | k :: t,h=>by
  obtain ⟨y,p,h1,h2,h3⟩:=h k (List.mem_cons_self ..)
  have ih:=pick_pl (X:=X) (R:=R) (ks:=t) fun k hk=>h k (List.mem_cons_of_mem _ hk)
  have e:(R.map Nr.n)[k]?=some p.n:=by rw [List.getElem?_map,h2];rfl
  unfold pickW at ih ⊢;unfold plsF at ih ⊢;rw [List.filterMap_cons_some (b:=y) h1,List.filterMap_cons_some (b:=p.n.pl) (by rw [e];rfl),List.map_cons,ih,h3]
theorem arM_eq {L:List Nd} {i:Nat} {n:Nd} {Y:List Wd} (a b:Int) (h1:Y.map pkW=pksF L (szM L) (kidD L i)) (h2:Y.map ceW=cesF L (szM L) (kidD L i)) (h3:Y.map (fun y=>y.p.n.pl)=plsF L (kidD L i)):arM n Y a b=kidR0 L i n a b:=by
 unfold arM kidR0;rw [h1,h2,h3]
def QrV (lo:Nat) (w:World) (v:Value) (n:Nat) (M:List Re):Prop:=∃ g,v=.slice (some ⟨g,0,none⟩) n n∧lo≤g∧ReB w g M
theorem QrV.keep {lo:Nat} {w w':World} {v:Value} {n:Nat} {M:List Re} (h:QrV lo w v n M) (hb:Below w.heap.size w w'):QrV lo w' v n M:=let ⟨g,e,hl,k⟩:=h;⟨g,e,hl,k.keep hb⟩
end
section
attribute [local go_sem 5000] run_mx run_mn
attribute [local go_sem] Oper.semAt_some
theorem ldNI {F:Fence} {n:Nat} {P:Program} {ops:Array Oper} {rest:List Oper} {op:Oper} {a:Act} {w:World} {Q:Exit→Act→World→Prop} (T:TypeId) (x:Operand) (vs:List Value) (b o:Nat) {d:TypeDesc} (hgd:op.guard=none) (ho:op.op=.load T x) (hx:a.eval x=.pointer (some ⟨b,o,none⟩))
  (hc:w.rangeAt b o vs) (hu:P.underlying T=some d) (hd:d.isRow=true) (hi:(P.info? T).map (·.size)=some vs.length)
  (h:wpListIn F n P ops Q rest (a.put op.dst (.agg vs.toArray)) w):wpListIn F n P ops Q (op :: rest) a w:=by
 refine wpListIn_plain hgd fun K hK=>⟨fun f hf=>?_,?_⟩
 ·simp [Oper.about,ho] at hf
 ·rw [Oper.semAt_eq _ _ _ (fun c e=>by rw [ho] at e;cases e)];unfold execOp;simp only [ho,hx,Instr.loadAt,Instr.sureAddr,Sem.run_bind,Sem.run_pure,Result.andThen_ok,run_loadVar_mid w b o T vs d hc hu hd hi];exact hK _ _ h
structure BkN where
 i:Nat
 p:Nr
def encN (x:BkN):Array Value:=#[.int .i64 (x.i:Int),.agg (valsNr x.p).toArray]
def NrVn (n0:Nat) (W:World) (A:Option Addr) (R:List Nr):Prop:=0<R.length→∃ b off,A=some ⟨b,off,none⟩∧b<n0∧∀ i p,R[i]?=some p→W.rangeAt b (off+i*34) (valsNr p)
theorem NrVn.below {n0:Nat} {W W':World} {A:Option Addr} {R:List Nr} (h:NrVn n0 W A R) (hb:Below n0 W W'):NrVn n0 W' A R:=fun h0 =>
 let ⟨b,off,e,hl,hp⟩:=h h0;⟨b,off,e,hl,fun i p hi=>rangeB (hp i p hi) (hb.block b hl)⟩
def BkS (R:List Nr) (k:Nat) (ys:List BkN):Prop:=ys.length=R.length - k∧∀ (m:Nat) (y:BkN),ys[m]?=some y→y.i=R.length - 1 - m∧R[y.i]?=some y.p
theorem BkS.snoc {R:List Nr} {j:Nat} {ys:List BkN} {p:Nr} (h:BkS R (j+1) ys) (hp:R[j]?=some p):BkS R j (ys ++ [⟨j,p⟩]):=by
 have hj:=(List.getElem?_eq_some_iff.1 hp).1;refine ⟨by rw [List.length_append,h.1];simp;omega,fun m y hy=>?_⟩
 by_cases e:m<ys.length
 ·rw [List.getElem?_append_left e] at hy;exact h.2 m y hy
 ·rw [List.getElem?_append_right (by omega)] at hy;have hm:=(List.getElem?_eq_some_iff.1 hy).1
  simp at hm
  have:m=ys.length:=by omega
  subst this
  simp at hy
  subst hy;exact ⟨by rw [h.1];dsimp only;omega,hp⟩
theorem backwardN_in (F:Fence) (n:Nat) (hF:F.fn 125) (hro:F.round=none) (a:Option Addr) (len cap:Nat) (w:World) :
  CallsIn F n Tryz.prog 125 #[.slice a len cap] w fun e w'=>e=.returned (.func (.func 167) #[] #[.pointer (some ⟨w.heap.size,0,none⟩)])∧w'=w.alloc (.cells #[.slice a len cap] 28):=by
 refine callsIn_of_wp Tryz.func125 rfl hF ?_ hro;simp only [Tryz.ntmps125,List.size_toArray,List.length_cons,List.length_nil,Nat.reduceAdd,Nat.reduceSub,Array.replicate_succ,Array.replicate_zero,List.push_toArray,List.append_toArray,List.nil_append,List.cons_append]
 gi_wp2
 go_ret;exact ⟨rfl,rfl⟩
end
end Go.Proofs.YtenckjdiggaonaaGreat
