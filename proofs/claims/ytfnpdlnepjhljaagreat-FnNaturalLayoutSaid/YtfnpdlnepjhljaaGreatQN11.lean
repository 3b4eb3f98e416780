import Derived.Test.YtfnpdlnepjhljaaGreatQN10
set_option linter.unusedVariables false
set_option linter.unusedSimpArgs false
set_option maxRecDepth 100000
set_option maxHeartbeats 16000000
namespace Go.Proofs.YtfnpdlnepjhljaaGreat
open Go.RowKit
attribute [local go_sem] growUpon_value growUpon_skip growUpon_enter
section
attribute [local go_sem 5000] run_mx run_mn
theorem wr_w {e:Int} (h1:-100000000000000000≤e) (h2:e≤100000000000000000):IntKind.i64.wrap e=e:=IntWalk.i64_in _ (by omega)
def rqW (w h:Int):Bool:=rng w 0 20000000000000&&rng h 0 20000000000000
theorem rqW_iff {w h:Int}:rqW w h=true↔((0≤w∧w≤20000000000000)∧(0≤h∧h≤20000000000000)):=by simp only [rqW,Bool.and_eq_true,rng_iff]
theorem th_prodW {m s:Int} (h1:0≤m) (h2:m≤1000) (h3:0≤s) (h4:s≤20000000000000):0≤m*s∧m*s≤20000000000000000:=by
 refine ⟨Int.mul_nonneg h1 h3,?_⟩;have e1:m*s≤1000*s:=Int.mul_le_mul_of_nonneg_right h2 h3;omega
theorem th_le {m s:Int} (h1:0≤m) (h2:m≤1000) (h3:0≤s):0≤thM m s∧thM m s≤s:=by
 have e0:=Int.mul_nonneg h1 h3;have e1:m*s≤1000*s:=Int.mul_le_mul_of_nonneg_right h2 h3;unfold thM;omega
theorem half_bdW {s k:Int} (h1:0≤s) (h3:0≤k) (h4:k≤2):0≤s*k∧s*k≤s*2∧0≤s*k / 2∧s*k / 2≤s:=by
 have e1:0≤s*k:=Int.mul_nonneg h1 h3;have e2:s*k≤s*2:=Int.mul_le_mul_of_nonneg_left h4 h1;omega
structure PlBdW (p:Plc) (w h:Int):Prop where
 t1:0≤thM p.rx w∧thM p.rx w≤20000000000000
 t2:0≤thM p.ry h∧thM p.ry h≤20000000000000
 t3:0≤thM p.qw w∧thM p.qw w≤20000000000000
 t4:0≤thM p.qh h∧thM p.qh h≤20000000000000
 w1:0≤wM p w∧wM p w≤20000000000300
 h1:0≤hM p h∧hM p h≤20000000000300
 a1:0≤p.an % 3∧p.an % 3≤2
 a2:0≤p.an / 3∧p.an / 3≤2
 p1:0≤wM p w*(p.an % 3)∧wM p w*(p.an % 3)≤40000000000600∧0≤wM p w*(p.an % 3) / 2∧wM p w*(p.an % 3) / 2≤20000000000300
 p2:0≤hM p h*(p.an / 3)∧hM p h*(p.an / 3)≤40000000000600∧0≤hM p h*(p.an / 3) / 2∧hM p h*(p.an / 3) / 2≤20000000000300
theorem pl_bdW {p:Plc} {w h:Int} (hp:plB p=true) (hr:rqW w h=true):PlBdW p w h:=by
 obtain ⟨b1,b2,b3,b4,b5,b6,b7,b8,b9⟩:=plB_iff.1 hp;obtain ⟨r1,r2⟩:=rqW_iff.1 hr;have t1:=th_le b3.1 b3.2 r1.1;have t2:=th_le b4.1 b4.2 r2.1;have t3:=th_le b7.1 b7.2 r1.1;have t4:=th_le b8.1 b8.2 r2.1
 have w1:0≤wM p w∧wM p w≤w+300:=by have:=mx_spec (p.ww+thM p.qw w) 0;unfold wM;omega
 have h1:0≤hM p h∧hM p h≤h+300:=by have:=mx_spec (p.hh+thM p.qh h) 0;unfold hM;omega
 have a1:0≤p.an % 3∧p.an % 3≤2:=by omega
 have a2:0≤p.an / 3∧p.an / 3≤2:=by omega
 have k1:=half_bdW w1.1 a1.1 a1.2;have k2:=half_bdW h1.1 a2.1 a2.2;exact ⟨by omega,by omega,by omega,by omega,by omega,by omega,a1,a2,by omega,by omega⟩
theorem wM_le {p:Plc} {w h:Int} (hp:plB p=true) (hr:rqW w h=true):0≤wM p w∧wM p w≤w+300:=by
 obtain ⟨b1,b2,b3,b4,b5,b6,b7,b8,b9⟩:=plB_iff.1 hp;obtain ⟨r1,r2⟩:=rqW_iff.1 hr;have t3:=th_le b7.1 b7.2 r1.1
 have:=mx_spec (p.ww+thM p.qw w) 0
 unfold wM;omega
theorem hM_le {p:Plc} {w h:Int} (hp:plB p=true) (hr:rqW w h=true):0≤hM p h∧hM p h≤h+300:=by
 obtain ⟨b1,b2,b3,b4,b5,b6,b7,b8,b9⟩:=plB_iff.1 hp;obtain ⟨r1,r2⟩:=rqW_iff.1 hr;have t3:=th_le b8.1 b8.2 r2.1
 have:=mx_spec (p.hh+thM p.qh h) 0
 unfold hM;omega
theorem xM_le {p:Plc} {w h:Int} (hp:plB p=true) (hr:rqW w h=true):-(w+600)≤xM p w∧xM p w≤w+300:=by
 have hw:=wM_le hp hr;obtain ⟨b1,b2,b3,b4,b5,b6,b7,b8,b9⟩:=plB_iff.1 hp;obtain ⟨r1,r2⟩:=rqW_iff.1 hr;have t:=th_le b3.1 b3.2 r1.1;have k:=half_bdW (k:=p.an % 3) hw.1 (by omega) (by omega);unfold xM;omega
theorem yM_le {p:Plc} {w h:Int} (hp:plB p=true) (hr:rqW w h=true):-(h+600)≤yM p h∧yM p h≤h+300:=by
 have hw:=hM_le hp hr;obtain ⟨b1,b2,b3,b4,b5,b6,b7,b8,b9⟩:=plB_iff.1 hp;obtain ⟨r1,r2⟩:=rqW_iff.1 hr;have t:=th_le b4.1 b4.2 r2.1;have k:=half_bdW (k:=p.an / 3) hw.1 (by omega) (by omega);unfold yM;omega
theorem thou_w (m s:Int) (w:World) (h1:0≤m) (h2:m≤1000) (h3:0≤s) (h4:s≤20000000000000):Calls Tryz.prog 233 #[.int .i64 m,.int .i64 s] w fun e w'=>e=.returned (.int .i64 (thM m s))∧Below w.heap.size w w':=by
 obtain ⟨q1,q2⟩:=th_prodW h1 h2 h3 h4
 go_enter Tryz.func233,Tryz.ntmps233
 go_wp2;go_ret;exact ⟨ret_int rfl,(by repeat (first | with_reducible exact Below.refl _ _ | with_reducible assumption | with_reducible refine balloc ?_|(with_reducible refine bset ?_ ?_;rotate_left;((try dsimp only);omega)) | refine bkeep2 ?_ (by assumption) | with_reducible refine Below.drew ?_))⟩
theorem part_w (n m:Int) (w:World) (h1:0≤m) (h2:m≤1000) (h3:0≤n) (h4:n≤20000000000000):Calls Tryz.prog 174 #[.int .i64 n,.int .i64 m] w fun e w'=>e=.returned (.int .i64 (thM m n))∧Below w.heap.size w w':=by
 obtain ⟨q1,q2⟩:=th_prodW h1 h2 h3 h4;rw [Int.mul_comm] at q1 q2
 go_enter Tryz.func174,Tryz.ntmps174
 go_wp2;go_ret;exact ⟨ret_int (by rw [thM,Int.mul_comm]),(by repeat (first | with_reducible exact Below.refl _ _ | with_reducible assumption | with_reducible refine balloc ?_|(with_reducible refine bset ?_ ?_;rotate_left;((try dsimp only);omega)) | refine bkeep2 ?_ (by assumption) | with_reducible refine Below.drew ?_))⟩
theorem shift_w (b:Nat) (p:Plc) (dx dy:Int) (w:World) (hh:w.heap[b]?=some (.cells #[.int .i64 p.x,.int .i64 p.y,.int .i64 p.rx,.int .i64 p.ry,.int .i64 p.ww,.int .i64 p.hh,.int .i64 p.qw,.int .i64 p.qh,.int .i64 p.an] 41 (0,0))) (h1:-1000000000000000≤p.x∧p.x≤1000000000000000) (h2:-1000000000000000≤p.y∧p.y≤1000000000000000) (h3:-1000000000000000≤dx∧dx≤1000000000000000) (h4:-1000000000000000≤dy∧dy≤1000000000000000) :
  Calls Tryz.prog 232 #[.pointer (some ⟨b,0,none⟩),.int .i64 dx,.int .i64 dy] w fun e w'=>(∃ v,e=.returned v)∧w'.heap[b]?=some (.cells #[.int .i64 (p.x+dx),.int .i64 (p.y+dy),.int .i64 p.rx,.int .i64 p.ry,.int .i64 p.ww,.int .i64 p.hh,.int .i64 p.qw,.int .i64 p.qh,.int .i64 p.an] 41 (0,0))∧w.grownBy w' (some b):=by
 obtain ⟨c0,c1,c2,c3,c4,c5,c6,c7,c8⟩:=c9_q hh;obtain ⟨f0,f1,-⟩:=f9_q hh;have q1:=put_q (i:=0) hh (.int .i64 (p.x+dx));have q2:=put_q (i:=1) q1 (.int .i64 (p.y+dy));simp only [List.setIfInBounds_toArray,List.set_cons_succ,List.set_cons_zero] at q2;have HQ:=hD q2;have HG:=hD (gs_q (gs_q (gr_q w b) 0 (.int .i64 (p.x+dx))) 1 (.int .i64 (p.y+dy)));clear hh q1 q2 c2 c3 c4 c5 c6 c7 c8;obtain ⟨h1,h1'⟩:=h1
 obtain ⟨h2,h2'⟩:=h2;obtain ⟨h3,h3'⟩:=h3;obtain ⟨h4,h4'⟩:=h4
 go_enter Tryz.func232,Tryz.ntmps232
 go_wp2
 go_end0
 exact ⟨⟨_,rfl⟩,HQ.out,HG.out⟩
theorem fix_w (b:Nat) (p:Plc) (w0 h0:Int) (w:World) (hh:w.heap[b]?=some (.cells #[.int .i64 p.x,.int .i64 p.y,.int .i64 p.rx,.int .i64 p.ry,.int .i64 p.ww,.int .i64 p.hh,.int .i64 p.qw,.int .i64 p.qh,.int .i64 p.an] 41 (0,0))) (hp:plB p=true) (hr:rqW w0 h0=true) :
  Calls Tryz.prog 231 #[.pointer (some ⟨b,0,none⟩),.int .i64 w0,.int .i64 h0] w fun e w'=>(∃ v,e=.returned v)∧w'.heap[b]?=some (.cells #[.int .i64 (p.x+thM p.rx w0),.int .i64 (p.y+thM p.ry h0),.int .i64 0,.int .i64 0,.int .i64 (wM p w0),.int .i64 (hM p h0),.int .i64 0,.int .i64 0,.int .i64 p.an] 41 (0,0))∧w.grownBy w' (some b):=by
 have HBD:=hD (pl_bdW hp hr);obtain ⟨⟨b1,b1'⟩,⟨b2,b2'⟩,⟨b3,b3'⟩,⟨b4,b4'⟩,⟨b5,b5'⟩,⟨b6,b6'⟩,⟨b7,b7'⟩,⟨b8,b8'⟩,⟨b9,b9'⟩⟩:=plB_iff.1 hp;obtain ⟨⟨r1,r1'⟩,⟨r2,r2'⟩⟩:=rqW_iff.1 hr;obtain ⟨⟨t1,t1'⟩,⟨t2,t2'⟩,⟨t3,t3'⟩,⟨t4,t4'⟩,-,-,-,-,-,-⟩:=HBD.out;have e1:IntKind.i64.wrap (p.ww+thM p.qw w0)=p.ww+thM p.qw w0:=wr_w (by omega) (by omega)
 have e2:IntKind.i64.wrap (p.hh+thM p.qh h0)=p.hh+thM p.qh h0:=wr_w (by omega) (by omega);have hlt:=lt_q hh;obtain ⟨c0,c1,c2,c3,c4,c5,c6,c7,c8⟩:=c9_q hh;have HX:=hD hh;clear hh hp hr
 go_enter Tryz.func231,Tryz.ntmps231
 go_wp2_with fail
 refine wp_named (fun W0 e0=>?_);replace e0:=hD e0;refine wp_region_grow 13 1 (·<13) (by kernel_rfl) (by kernel_rfl) rfl ?_
 iterate 13 (refine wpG_step (fun K hK=>?_);apply Exists.intro;refine ⟨.inl ⟨rfl,fun w' hw'=>?_⟩,?_⟩;(focus ((obtain ⟨hc,hf⟩:=bcell hw'.out);(have hcS:=bcellS hw'.out);go_simp <;> first | rfl|(go_at_call 233;exact thou_w _ _ _ (by assumption) (by assumption) (by assumption) (by assumption))));(go_simp;refine hK _ ?_;clear hK K))
 refine wpG_nil ?_;refine wpK_tail (by kernel_rfl) (fun w2 hg2=>?_);have hb2:=bdrewn hg2.out;refine wpAny_one (i:=13) (by kernel_rfl) rfl rfl ?_;go_simp
 go_at_call 232
 have HX2:=hD ((hb2.block _ hlt).trans HX.out);clear c0 c1 c2 c3 c4 c5 c6 c7 c8;refine (shift_w b p (thM p.rx w0) (thM p.ry h0) _ HX2.out (by omega) (by omega) (by omega) (by omega)).mono ?_;rintro e w3 ⟨⟨v,rfl⟩,hx3,hg3⟩;go_simp;refine wpAny_end (by kernel_rfl) ?_;refine NoPan.thn ?_;have HG:=hD (gt_q (gb_q (gr_q w b) hb2) hg3);have HX3:=hD hx3;have hlt3:=lt_q hx3;clear HX HX2 hb2 hg2 hx3 hg3 hlt
 obtain ⟨c0,c1,c2,c3,c4,c5,c6,c7,c8⟩:=c9_q HX3.out
 go_wp2_with fail
 refine wp_region_grow 15 1 (·<15) (by kernel_rfl) (by kernel_rfl) rfl ?_
 iterate 15 (refine wpG_step (fun K hK=>?_);apply Exists.intro;refine ⟨.inl ⟨rfl,fun w' hw'=>?_⟩,?_⟩;(focus ((obtain ⟨hc,hf⟩:=bcell hw'.out);(have hcS:=bcellS hw'.out);go_simp <;> first | rfl|(go_at_call 233;exact thou_w _ _ _ (by assumption) (by assumption) (by assumption) (by assumption))));(go_simp;refine hK _ ?_;clear hK K))
 refine wpG_nil ?_;refine wpK_tail (by kernel_rfl) (fun w4 hg4=>?_);have hb4:=bdrewn hg4.out;have hx4:=(hb4.block _ hlt3).trans HX3.out;clear c0 c1 c2 c3 c4 c5 c6 c7 c8;obtain ⟨c0,c1,c2,c3,c4,c5,c6,c7,c8⟩:=c9_q hx4;obtain ⟨f0,f1,f2,f3,f4,f5,f6,f7,f8⟩:=f9_q hx4;have q4:=put_q (i:=4) hx4 (.int .i64 (mx (p.ww+thM p.qw w0) 0))
 simp only [List.setIfInBounds_toArray,List.set_cons_succ,List.set_cons_zero] at q4;replace HX3:=hD q4;replace HG:=hD (gs_q (gb_q HG.out hb4) 4 (.int .i64 (mx (p.ww+thM p.qw w0) 0)));refine wpAny_one (i:=15) (by kernel_rfl) rfl rfl ?_;go_simp;refine wpAny_end (by kernel_rfl) ?_;clear c0 c1 c2 c3 c4 c5 c6 c7 c8 f0 f1 f2 f3 f4 f5 f6 f7 f8 hx4 hb4 hg4 hlt3 q4
 refine NoPan.gen (fun W=>W.heap[b]?=some (.cells #[.int .i64 (p.x+thM p.rx w0),.int .i64 (p.y+thM p.ry h0),.int .i64 p.rx,.int .i64 p.ry,.int .i64 (mx (p.ww+thM p.qw w0) 0),.int .i64 p.hh,.int .i64 p.qw,.int .i64 p.qh,.int .i64 p.an] 41 (0,0))∧w.grownBy W (some b)) ⟨HX3.out,HG.out⟩ (fun w5 hw5=>?_);clear HX3 HG;obtain ⟨hx5,hg5⟩:=hw5;have HX3:=hD hx5;have HG:=hD hg5;have hlt3:=lt_q hx5
 clear hx5 hg5;obtain ⟨c0,c1,c2,c3,c4,c5,c6,c7,c8⟩:=c9_q HX3.out
 go_wp2_with fail
 refine wp_region_grow 15 1 (·<15) (by kernel_rfl) (by kernel_rfl) rfl ?_
 iterate 15 (refine wpG_step (fun K hK=>?_);apply Exists.intro;refine ⟨.inl ⟨rfl,fun w' hw'=>?_⟩,?_⟩;(focus ((obtain ⟨hc,hf⟩:=bcell hw'.out);(have hcS:=bcellS hw'.out);go_simp <;> first | rfl|(go_at_call 233;exact thou_w _ _ _ (by assumption) (by assumption) (by assumption) (by assumption))));(go_simp;refine hK _ ?_;clear hK K))
 refine wpG_nil ?_;refine wpK_tail (by kernel_rfl) (fun w6 hg4=>?_);have hb4:=bdrewn hg4.out;have hx4:=(hb4.block _ hlt3).trans HX3.out;clear c0 c1 c2 c3 c4 c5 c6 c7 c8;obtain ⟨c0,c1,c2,c3,c4,c5,c6,c7,c8⟩:=c9_q hx4;obtain ⟨f0,f1,f2,f3,f4,f5,f6,f7,f8⟩:=f9_q hx4;have q4:=put_q (i:=5) hx4 (.int .i64 (mx (p.hh+thM p.qh h0) 0))
 simp only [List.setIfInBounds_toArray,List.set_cons_succ,List.set_cons_zero] at q4;replace HX3:=hD q4;replace HG:=hD (gs_q (gb_q HG.out hb4) 5 (.int .i64 (mx (p.hh+thM p.qh h0) 0)));refine wpAny_one (i:=15) (by kernel_rfl) rfl rfl ?_;go_simp;refine wpAny_end (by kernel_rfl) ?_;clear c0 c1 c2 c3 c4 c5 c6 c7 c8 f0 f1 f2 f3 f4 f5 f6 f7 f8 hx4 hb4 hg4 hlt3 q4
 refine NoPan.gen (fun W=>W.heap[b]?=some (.cells #[.int .i64 (p.x+thM p.rx w0),.int .i64 (p.y+thM p.ry h0),.int .i64 p.rx,.int .i64 p.ry,.int .i64 (mx (p.ww+thM p.qw w0) 0),.int .i64 (mx (p.hh+thM p.qh h0) 0),.int .i64 p.qw,.int .i64 p.qh,.int .i64 p.an] 41 (0,0))∧w.grownBy W (some b)) ⟨HX3.out,HG.out⟩ (fun w7 hw5=>?_);clear HX3 HG;obtain ⟨hx5,hg5⟩:=hw5
 obtain ⟨c0,c1,c2,c3,c4,c5,c6,c7,c8⟩:=c9_q hx5;obtain ⟨f0,f1,f2,f3,f4,f5,f6,f7,f8⟩:=f9_q hx5;have q1:=put_q (i:=7) (put_q (i:=6) (put_q (i:=3) (put_q (i:=2) hx5 (.int .i64 0)) (.int .i64 0)) (.int .i64 0)) (.int .i64 0);simp only [List.setIfInBounds_toArray,List.set_cons_succ,List.set_cons_zero] at q1;have HQ:=hD q1
 have HG:=hD (gs_q (gs_q (gs_q (gs_q hg5 2 (.int .i64 0)) 3 (.int .i64 0)) 6 (.int .i64 0)) 7 (.int .i64 0));clear q1 hx5 hg5;go_wp2
 go_end0
 exact ⟨⟨_,rfl⟩,HQ.out,HG.out⟩
theorem placeRect_w (p:Plc) (w0 h0:Int) (w:World) (hp:plB p=true) (hr:rqW w0 h0=true) :
  Calls Tryz.prog 230 #[.agg #[.int .i64 p.x,.int .i64 p.y,.int .i64 p.rx,.int .i64 p.ry,.int .i64 p.ww,.int .i64 p.hh,.int .i64 p.qw,.int .i64 p.qh,.int .i64 p.an],.int .i64 w0,.int .i64 h0] w fun e w'=>e=.returned (.agg #[.int .i64 (xM p w0),.int .i64 (yM p h0),.int .i64 (wM p w0),.int .i64 (hM p h0)])∧Below w.heap.size w w':=by
 have HBD:=hD (pl_bdW hp hr);have HP:=hD hp
 have hx0:=(Below.heap_alloc (w.alloc (.cells #[.int .i64 p.x,.int .i64 p.y,.int .i64 p.rx,.int .i64 p.ry,.int .i64 p.ww,.int .i64 p.hh,.int .i64 p.qw,.int .i64 p.qh,.int .i64 p.an] 41 (0,0))) (.cells #[.int .i64 0,.int .i64 0,.int .i64 0,.int .i64 0] 32 (0,0)) w.heap.size (by simp)).trans (new_q w (.cells #[.int .i64 p.x,.int .i64 p.y,.int .i64 p.rx,.int .i64 p.ry,.int .i64 p.ww,.int .i64 p.hh,.int .i64 p.qw,.int .i64 p.qh,.int .i64 p.an] 41 (0,0)))
 have hy0:=newq1 w (.cells #[.int .i64 p.x,.int .i64 p.y,.int .i64 p.rx,.int .i64 p.ry,.int .i64 p.ww,.int .i64 p.hh,.int .i64 p.qw,.int .i64 p.qh,.int .i64 p.an] 41 (0,0)) (.cells #[.int .i64 0,.int .i64 0,.int .i64 0,.int .i64 0] 32 (0,0));have HX:=hD hx0;have HY:=hD hy0
 have HB:=hD (balloc (o:=.cells #[.int .i64 0,.int .i64 0,.int .i64 0,.int .i64 0] 32 (0,0)) (balloc (o:=.cells #[.int .i64 p.x,.int .i64 p.y,.int .i64 p.rx,.int .i64 p.ry,.int .i64 p.ww,.int .i64 p.hh,.int .i64 p.qw,.int .i64 p.qh,.int .i64 p.an] 41 (0,0)) (Below.refl w.heap.size w)));clear hx0 hy0
 go_enter Tryz.func230,Tryz.ntmps230
 go_wp2_with fail
 refine (fix_w w.heap.size p w0 h0 _ HX.out hp hr).mono ?_;rintro e w2 ⟨⟨v,rfl⟩,hx,hg⟩;replace HY:=hD ((hg.block (w.heap.size+1) (lt_q HY.out) (by simp)).trans HY.out);replace HB:=hD (gnew_q HB.out hg (Nat.le_refl _));obtain ⟨⟨t1,t1'⟩,⟨t2,t2'⟩,-,-,⟨u1,u1'⟩,⟨u2,u2'⟩,⟨a1,a1'⟩,⟨a2,a2'⟩,⟨p1,p1',p1a,p1b⟩,⟨p2,p2',p2a,p2b⟩⟩:=HBD.out;obtain ⟨⟨b1,b1'⟩,⟨b2,b2'⟩,-,-,-,-,-,-,⟨b9,b9'⟩⟩:=plB_iff.1 HP.out
 obtain ⟨c0,c1,c2,c3,c4,c5,c6,c7,c8⟩:=c9_q hx;have d0:=cl_q HY.out 0;have d1:=cl_q HY.out 1;have d2:=cl_q HY.out 2;have d3:=cl_q HY.out 3;have f0:=fz_q HY.out 0;have f1:=fz_q HY.out 1;have f2:=fz_q HY.out 2;have f3:=fz_q HY.out 3;have q:=put_q (i:=3) (put_q (i:=2) (put_q (i:=1) (put_q (i:=0) HY.out (.int .i64 (xM p w0))) (.int .i64 (yM p h0))) (.int .i64 (wM p w0))) (.int .i64 (hM p h0))
 simp only [List.setIfInBounds_toArray,List.set_cons_succ,List.set_cons_zero] at q;have HQ:=hD q;have HB2:=hD (bset (a:=⟨w.heap.size+1,3,none⟩) (u:=.int .i64 (hM p h0)) (bset (a:=⟨w.heap.size+1,2,none⟩) (u:=.int .i64 (wM p w0)) (bset (a:=⟨w.heap.size+1,1,none⟩) (u:=.int .i64 (yM p h0)) (bset (a:=⟨w.heap.size+1,0,none⟩) (u:=.int .i64 (xM p w0)) HB.out (by simp)) (by simp)) (by simp)) (by simp))
 clear hx hg HX hp hr q
 go_wp2_with fail
 refine bp_genQ (fun W=>W.heap[w.heap.size+1]?=some (.cells #[.int .i64 (xM p w0),.int .i64 (yM p h0),.int .i64 (wM p w0),.int .i64 (hM p h0)] 32 (0,0))∧Below w.heap.size w W) ⟨HQ.out,HB2.out⟩ ?_;clear HQ HB2 HB HY c0 c1 c2 c3 c4 c5 c6 c7 c8 d0 d1 d2 d3 f0 f1 f2 f3;rintro W ⟨hq,hb⟩;have d0:=cl_q hq 0;have d1:=cl_q hq 1;have d2:=cl_q hq 2;have d3:=cl_q hq 3
 exact bodyPost_ret (v:=.agg #[.int .i64 (xM p w0),.int .i64 (yM p h0),.int .i64 (wM p w0),.int .i64 (hM p h0)]) (by simp only [results,Tryz.results230];go_simp) rfl ⟨rfl,hb⟩
theorem placed_w (p:Plc) (x0 y0 w0 h0:Int) (w:World) (hx0:-1000000000000000≤x0∧x0≤1000000000000000) (hy0:-1000000000000000≤y0∧y0≤1000000000000000) (hp:plB p=true) (hr:rqW w0 h0=true) :
  Calls Tryz.prog 142 #[.agg #[.int .i64 p.x,.int .i64 p.y,.int .i64 p.rx,.int .i64 p.ry,.int .i64 p.ww,.int .i64 p.hh,.int .i64 p.qw,.int .i64 p.qh,.int .i64 p.an],.agg #[.int .i64 (x0),.int .i64 (y0),.int .i64 (w0),.int .i64 (h0)]] w fun e w'=>e=.returned (.agg #[.int .i64 (x0+xM p w0),.int .i64 (y0+yM p h0),.int .i64 (wM p w0),.int .i64 (hM p h0)])∧Below w.heap.size w w':=by
 have HBD:=hD (pl_bdW hp hr);obtain ⟨⟨b1,b1'⟩,⟨b2,b2'⟩,⟨b3,b3'⟩,⟨b4,b4'⟩,⟨b5,b5'⟩,⟨b6,b6'⟩,⟨b7,b7'⟩,⟨b8,b8'⟩,⟨b9,b9'⟩⟩:=plB_iff.1 hp;obtain ⟨⟨r1,r1'⟩,⟨r2,r2'⟩⟩:=rqW_iff.1 hr;obtain ⟨⟨t1,t1'⟩,⟨t2,t2'⟩,⟨t3,t3'⟩,⟨t4,t4'⟩,⟨u1,u1'⟩,⟨u2,u2'⟩,⟨a1,a1'⟩,⟨a2,a2'⟩,⟨p1,p1',p1a,p1b⟩,⟨p2,p2',p2a,p2b⟩⟩:=HBD.out;have e1:IntKind.i64.wrap (p.ww+thM p.qw w0)=p.ww+thM p.qw w0:=wr_w (by omega) (by omega)
 have e2:IntKind.i64.wrap (p.hh+thM p.qh h0)=p.hh+thM p.qh h0:=wr_w (by omega) (by omega);have e3:IntKind.i64.wrap (p.x+thM p.rx w0)=p.x+thM p.rx w0:=wr_w (by omega) (by omega);have e4:IntKind.i64.wrap (p.y+thM p.ry h0)=p.y+thM p.ry h0:=wr_w (by omega) (by omega);have e5:IntKind.i64.wrap (wM p w0*(p.an % 3))=wM p w0*(p.an % 3):=wr_w (by omega) (by omega)
 have e6:IntKind.i64.wrap (hM p h0*(p.an / 3))=hM p h0*(p.an / 3):=wr_w (by omega) (by omega);have e7:IntKind.i64.wrap (p.x+thM p.rx w0-wM p w0*(p.an % 3) / 2)=p.x+thM p.rx w0-wM p w0*(p.an % 3) / 2:=wr_w (by omega) (by omega);have e8:IntKind.i64.wrap (p.y+thM p.ry h0-hM p h0*(p.an / 3) / 2)=p.y+thM p.ry h0-hM p h0*(p.an / 3) / 2:=wr_w (by omega) (by omega);obtain ⟨x1,x2⟩:=hx0;obtain ⟨y1,y2⟩:=hy0
 have e9:IntKind.i64.wrap (x0+(p.x+thM p.rx w0-wM p w0*(p.an % 3) / 2))=x0+(p.x+thM p.rx w0-wM p w0*(p.an % 3) / 2):=wr_w (by omega) (by omega);have e10:IntKind.i64.wrap (y0+(p.y+thM p.ry h0-hM p h0*(p.an / 3) / 2))=y0+(p.y+thM p.ry h0-hM p h0*(p.an / 3) / 2):=wr_w (by omega) (by omega);have m1:mx 0 (p.ww+thM p.qw w0)=wM p w0:=mx_comm _ _;have m2:mx 0 (p.hh+thM p.qh h0)=hM p h0:=mx_comm _ _
 have kx0:=((Below.heap_alloc _ (.cells #[.int .i64 0,.int .i64 0,.int .i64 0,.int .i64 0] 32 (0,0)) w.heap.size (by simp;omega)).trans ((Below.heap_alloc (w.alloc (.cells #[.int .i64 p.x,.int .i64 p.y,.int .i64 p.rx,.int .i64 p.ry,.int .i64 p.ww,.int .i64 p.hh,.int .i64 p.qw,.int .i64 p.qh,.int .i64 p.an] 41 (0,0))) (.cells #[.int .i64 x0,.int .i64 y0,.int .i64 w0,.int .i64 h0] 32 (0,0)) w.heap.size (by simp)).trans (new_q w (.cells #[.int .i64 p.x,.int .i64 p.y,.int .i64 p.rx,.int .i64 p.ry,.int .i64 p.ww,.int .i64 p.hh,.int .i64 p.qw,.int .i64 p.qh,.int .i64 p.an] 41 (0,0)))))
 have ky0:=(Below.heap_alloc _ (.cells #[.int .i64 0,.int .i64 0,.int .i64 0,.int .i64 0] 32 (0,0)) (w.heap.size+1) (by simp)).trans (newq1 w (.cells #[.int .i64 p.x,.int .i64 p.y,.int .i64 p.rx,.int .i64 p.ry,.int .i64 p.ww,.int .i64 p.hh,.int .i64 p.qw,.int .i64 p.qh,.int .i64 p.an] 41 (0,0)) (.cells #[.int .i64 x0,.int .i64 y0,.int .i64 w0,.int .i64 h0] 32 (0,0)))
 have kz0:=newq2 w (.cells #[.int .i64 p.x,.int .i64 p.y,.int .i64 p.rx,.int .i64 p.ry,.int .i64 p.ww,.int .i64 p.hh,.int .i64 p.qw,.int .i64 p.qh,.int .i64 p.an] 41 (0,0)) (.cells #[.int .i64 x0,.int .i64 y0,.int .i64 w0,.int .i64 h0] 32 (0,0)) (.cells #[.int .i64 0,.int .i64 0,.int .i64 0,.int .i64 0] 32 (0,0))
 have hB0:=balloc (o:=.cells #[.int .i64 0,.int .i64 0,.int .i64 0,.int .i64 0] 32 (0,0)) (balloc (o:=.cells #[.int .i64 x0,.int .i64 y0,.int .i64 w0,.int .i64 h0] 32 (0,0)) (balloc (o:=.cells #[.int .i64 p.x,.int .i64 p.y,.int .i64 p.rx,.int .i64 p.ry,.int .i64 p.ww,.int .i64 p.hh,.int .i64 p.qw,.int .i64 p.qh,.int .i64 p.an] 41 (0,0)) (Below.refl w.heap.size w)));have HX0:=hD kx0
 have HY0:=hD ky0;have HZ0:=hD kz0;have HB0:=hD hB0;clear hp hr kx0 ky0 kz0 hB0
 go_enter Tryz.func142,Tryz.ntmps142
 go_wp2_with fail
 refine wp_genG3 (fun W=>W.heap[w.heap.size]?=some (.cells #[.int .i64 p.x,.int .i64 p.y,.int .i64 p.rx,.int .i64 p.ry,.int .i64 p.ww,.int .i64 p.hh,.int .i64 p.qw,.int .i64 p.qh,.int .i64 p.an] 41 (0,0))∧W.heap[w.heap.size+1]?=some (.cells #[.int .i64 x0,.int .i64 y0,.int .i64 w0,.int .i64 h0] 32 (0,0))∧W.heap[w.heap.size+1+1]?=some (.cells #[.int .i64 0,.int .i64 0,.int .i64 0,.int .i64 0] 32 (0,0))∧Below w.heap.size w W) ⟨HX0.out,HY0.out,HZ0.out,HB0.out⟩ (fun w1 h1=>?_)
 clear HX0 HY0 HZ0 HB0;obtain ⟨hx,hy,hz,hb⟩:=h1;have HX:=hD hx;have HY:=hD hy;have HZ:=hD hz;have HB:=hD hb;clear hx hy hz hb;obtain ⟨c0,c1,c2,c3,c4,c5,c6,c7,c8⟩:=c9_q HX.out;have d0:=cl_q HY.out 0;have d1:=cl_q HY.out 1;have d2:=cl_q HY.out 2;have d3:=cl_q HY.out 3;have lx:=lt_q HX.out;have ly:=lt_q HY.out;refine wp_region_grow 9 1 (·<9) (by kernel_rfl) (by kernel_rfl) rfl ?_
 iterate 9 (refine wpG_step (fun K hK=>?_);first|(refine grow_skip rfl ?_;go_simp;refine hK _ ?_;clear hK K)|(apply Exists.intro;refine ⟨.inl ⟨rfl,fun w' hw'=>?_⟩,?_⟩;(focus ((obtain ⟨hc,hf⟩:=bcell hw'.out);(have hcS:=bcellS hw'.out);go_simp <;> first | rfl|(go_at_call 174;exact part_w _ _ _ (by assumption) (by assumption) (by assumption) (by assumption))));(go_simp;refine hK _ ?_;clear hK K)))
 refine wpG_nil ?_;refine wpK_tail (by kernel_rfl) (fun w2 hg2=>?_);have hb2:=bdrewn hg2.out;obtain ⟨hc2,hf2⟩:=bcell hb2;refine wpAny_one (i:=9) (by kernel_rfl) rfl rfl ?_;go_simp;refine wpAny_end (by kernel_rfl) ?_;refine NoPan.thn ?_;clear hc2 hf2;clear hg2;clear c0 c1 c2 c3 c4 c5 c6 c7 c8 d0 d1 d2 d3 lx ly;replace HX:=hbk hb2 HX;replace HY:=hbk hb2 HY;replace HZ:=hbk hb2 HZ
 replace HB:=hD (bkeep2 HB.out hb2);clear hb2;obtain ⟨c0,c1,c2,c3,c4,c5,c6,c7,c8⟩:=c9_q HX.out;have d0:=cl_q HY.out 0;have d1:=cl_q HY.out 1;have d2:=cl_q HY.out 2;have d3:=cl_q HY.out 3;have lx:=lt_q HX.out;have ly:=lt_q HY.out
 go_wp2_with fail
 refine wp_region_grow 9 1 (·<9) (by kernel_rfl) (by kernel_rfl) rfl ?_
 iterate 9 (refine wpG_step (fun K hK=>?_);first|(refine grow_skip rfl ?_;go_simp;refine hK _ ?_;clear hK K)|(apply Exists.intro;refine ⟨.inl ⟨rfl,fun w' hw'=>?_⟩,?_⟩;(focus ((obtain ⟨hc,hf⟩:=bcell hw'.out);(have hcS:=bcellS hw'.out);go_simp <;> first | rfl|(go_at_call 174;exact part_w _ _ _ (by assumption) (by assumption) (by assumption) (by assumption))));(go_simp;refine hK _ ?_;clear hK K)))
 refine wpG_nil ?_;refine wpK_tail (by kernel_rfl) (fun w3 hg3=>?_);have hb3:=bdrewn hg3.out;obtain ⟨hc3,hf3⟩:=bcell hb3;refine wpAny_one (i:=9) (by kernel_rfl) rfl rfl ?_;go_simp;refine wpAny_end (by kernel_rfl) ?_;refine NoPan.thn ?_;clear hc3 hf3;clear hg3;clear c0 c1 c2 c3 c4 c5 c6 c7 c8 d0 d1 d2 d3 lx ly;replace HX:=hbk hb3 HX;replace HY:=hbk hb3 HY;replace HZ:=hbk hb3 HZ
 replace HB:=hD (bkeep2 HB.out hb3);clear hb3;obtain ⟨c0,c1,c2,c3,c4,c5,c6,c7,c8⟩:=c9_q HX.out;have d0:=cl_q HY.out 0;have d1:=cl_q HY.out 1;have d2:=cl_q HY.out 2;have d3:=cl_q HY.out 3;have lx:=lt_q HX.out;have ly:=lt_q HY.out
 go_wp2_with fail
 refine wp_region_grow 15 1 (·<15) (by kernel_rfl) (by kernel_rfl) rfl ?_
 iterate 15 (refine wpG_step (fun K hK=>?_);first|(refine grow_skip rfl ?_;go_simp;refine hK _ ?_;clear hK K)|(apply Exists.intro;refine ⟨.inl ⟨rfl,fun w' hw'=>?_⟩,?_⟩;(focus ((obtain ⟨hc,hf⟩:=bcell hw'.out);(have hcS:=bcellS hw'.out);go_simp <;> first | rfl|(go_at_call 174;exact part_w _ _ _ (by assumption) (by assumption) (by assumption) (by assumption))));(go_simp;refine hK _ ?_;clear hK K)))
 refine wpG_nil ?_;refine wpK_tail (by kernel_rfl) (fun w4 hg4=>?_);have hb4:=bdrewn hg4.out;obtain ⟨hc4,hf4⟩:=bcell hb4;refine wpAny_one (i:=15) (by kernel_rfl) rfl rfl ?_;go_simp;refine wpAny_end (by kernel_rfl) ?_;refine NoPan.thn ?_;clear hc4 hf4;clear hg4;clear c0 c1 c2 c3 c4 c5 c6 c7 c8 d0 d1 d2 d3 lx ly;replace HX:=hbk hb4 HX;replace HY:=hbk hb4 HY;replace HZ:=hbk hb4 HZ
 replace HB:=hD (bkeep2 HB.out hb4);clear hb4;obtain ⟨c0,c1,c2,c3,c4,c5,c6,c7,c8⟩:=c9_q HX.out;have d0:=cl_q HY.out 0;have d1:=cl_q HY.out 1;have d2:=cl_q HY.out 2;have d3:=cl_q HY.out 3;have lx:=lt_q HX.out;have ly:=lt_q HY.out
 go_wp2_with fail
 refine wp_region_grow 15 1 (·<15) (by kernel_rfl) (by kernel_rfl) rfl ?_
 iterate 15 (refine wpG_step (fun K hK=>?_);first|(refine grow_skip rfl ?_;go_simp;refine hK _ ?_;clear hK K)|(apply Exists.intro;refine ⟨.inl ⟨rfl,fun w' hw'=>?_⟩,?_⟩;(focus ((obtain ⟨hc,hf⟩:=bcell hw'.out);(have hcS:=bcellS hw'.out);go_simp <;> first | rfl|(go_at_call 174;exact part_w _ _ _ (by assumption) (by assumption) (by assumption) (by assumption))));(go_simp;refine hK _ ?_;clear hK K)))
 refine wpG_nil ?_;refine wpK_tail (by kernel_rfl) (fun w5 hg5=>?_);have hb5:=bdrewn hg5.out;obtain ⟨hc5,hf5⟩:=bcell hb5;refine wpAny_one (i:=15) (by kernel_rfl) rfl rfl ?_;go_simp;refine wpAny_end (by kernel_rfl) ?_;refine NoPan.thn ?_;clear hc5 hf5;clear hg5;clear c0 c1 c2 c3 c4 c5 c6 c7 c8 d0 d1 d2 d3 lx ly;replace HX:=hbk hb5 HX;replace HY:=hbk hb5 HY;replace HZ:=hbk hb5 HZ
 replace HB:=hD (bkeep2 HB.out hb5);clear hb5;obtain ⟨c0,c1,c2,c3,c4,c5,c6,c7,c8⟩:=c9_q HX.out;have d0:=cl_q HY.out 0;have d1:=cl_q HY.out 1;have d2:=cl_q HY.out 2;have d3:=cl_q HY.out 3;have lx:=lt_q HX.out;have ly:=lt_q HY.out;have z0:=cl_q HZ.out 0;have z1:=cl_q HZ.out 1;have z2:=cl_q HZ.out 2;have z3:=cl_q HZ.out 3;have f0:=fz_q HZ.out 0;have f1:=fz_q HZ.out 1;have f2:=fz_q HZ.out 2
 have f3:=fz_q HZ.out 3;have q:=put_q (i:=3) (put_q (i:=2) (put_q (i:=1) (put_q (i:=0) HZ.out (.int .i64 (x0+xM p w0))) (.int .i64 (y0+yM p h0))) (.int .i64 (wM p w0))) (.int .i64 (hM p h0));simp only [List.setIfInBounds_toArray,List.set_cons_succ,List.set_cons_zero] at q;have HQ:=hD q
 have HB2:=hD (bset (a:=⟨w.heap.size+1+1,3,none⟩) (u:=.int .i64 (hM p h0)) (bset (a:=⟨w.heap.size+1+1,2,none⟩) (u:=.int .i64 (wM p w0)) (bset (a:=⟨w.heap.size+1+1,1,none⟩) (u:=.int .i64 (y0+yM p h0)) (bset (a:=⟨w.heap.size+1+1,0,none⟩) (u:=.int .i64 (x0+xM p w0)) HB.out (by simp;omega)) (by simp;omega)) (by simp;omega)) (by simp;omega));clear q
 go_wp2_with fail
 refine bp_genQ (fun W=>W.heap[w.heap.size+1+1]?=some (.cells #[.int .i64 (x0+xM p w0),.int .i64 (y0+yM p h0),.int .i64 (wM p w0),.int .i64 (hM p h0)] 32 (0,0))∧Below w.heap.size w W) ⟨HQ.out,HB2.out⟩ ?_;clear HQ HB2 HB HY HX HZ z0 z1 z2 z3 f0 f1 f2 f3;clear c0 c1 c2 c3 c4 c5 c6 c7 c8 d0 d1 d2 d3 lx ly;rintro W ⟨hq,hb⟩;have d0:=cl_q hq 0;have d1:=cl_q hq 1;have d2:=cl_q hq 2;have d3:=cl_q hq 3
 exact bodyPost_ret (v:=.agg #[.int .i64 (x0+xM p w0),.int .i64 (y0+yM p h0),.int .i64 (wM p w0),.int .i64 (hM p h0)]) (by simp only [results,Tryz.results142];go_simp) rfl ⟨rfl,hb⟩
end
section
attribute [local go_sem] givesUpon_value givesUpon_skip givesUpon_enter
def inC (n m:Nat) (p:Ce):Prop:=(0≤p.co∧1≤p.mc∧p.co+p.mc≤n)∧(0≤p.ro∧1≤p.mr∧p.ro+p.mr≤m)∧(0≤p.sk∧p.sk≤15)
structure GW (L1 L2:List Ln) (L3:List Ce):Prop where
 v1:linesB L1=true
 v2:linesB L2=true
 hl8:L3.length≤10
 hsm:∀ p∈L3,smW p
 s1:spansW L1.length (L3.map acM)
 s2:spansW L2.length (L3.map dnM)
 n1:L1.length≤5
 n2:L2.length≤5
 hin:∀ p∈L3,inC L1.length L2.length p
theorem sizedM_lenW {L:List Ln} {S:List Sp} {room:Int} (hL:linesB L=true) (hS:spansW L.length S) (hr0:0≤room) (hr1:room≤20000000000000):(sizedM L S room).length=L.length:=(sized_okW hL hS hr0 hr1).2.1
theorem edges_w (A1:Option Addr) (c1:Nat) (L1:List Ln) (A2:Option Addr) (c2:Nat) (L2:List Ln) (A3:Option Addr) (c3:Nat) (L3:List Ce) (u v:Int) (w:World) (h1:LnV w A1 L1) (h2:LnV w A2 L2) (h3:CeV w A3 L3) (gf:GW L1 L2 L3) (hu:rqW u v=true) :
  Calls Tryz.prog 203 #[.agg #[.slice A1 L1.length c1,.slice A2 L2.length c2,.slice A3 L3.length c3],.int .i64 u,.int .i64 v] w fun e w'=>(∃ B1 e1 B2 e2,e=.returned (.tuple #[.slice B1 (L1.length+1) e1,.slice B2 (L2.length+1) e2])∧NV w' B1 (edL (sizedM L1 (L3.map acM) u))∧NV w' B2 (edL (sizedM L2 (L3.map dnM) v)))∧Below w.heap.size w w':=by
 obtain ⟨⟨u0,u1⟩,⟨y0,y1⟩⟩:=rqW_iff.1 hu;have hl8:=gf.hl8;have n1:=gf.n1;have n2:=gf.n2;have HF:=hD gf;have M1:=hD (sized_smalW gf.v1 gf.s1 u0 u1);have M2:=hD (sized_smalW gf.v2 gf.s2 y0 y1);have HL1:=hD (sizedM_lenW (room:=u) gf.v1 gf.s1 u0 u1);have HL2:=hD (sizedM_lenW (room:=v) gf.v2 gf.s2 y0 y1)
 have hB0:Below w.heap.size w (w.alloc (.cells #[.slice A1 L1.length c1,.slice A2 L2.length c2,.slice A3 L3.length c3] 128 (0,0))):=balloc (Below.refl _ _);have HX:=hD (newS w (.cells #[.slice A1 L1.length c1,.slice A2 L2.length c2,.slice A3 L3.length c3] 128 (0,0)));have HV1:=hD (h1.keep hB0);have HV2:=hD (h2.keep hB0);have HV3:=hD (h3.keep hB0);have HB:=hD hB0;clear hB0 h1 h2 h3 gf hu
 go_enter Tryz.func203,Tryz.ntmps203
 have d0:=cellS HX.out 0;have d1:=cellS HX.out 1;have d2:=cellS HX.out 2;have lx:=ltS HX.out
 go_wp2_with fail
 refine wp_region_rx (XV (.pointer (some ⟨w.heap.size,0,none⟩)) :: XV (.slice A1 L1.length c1) :: XV (.pointer (some ⟨w.heap.size,2,none⟩)) :: XV (.slice A3 L3.length c3) :: (fun z9 w=>SpR w z9 (L3.map acM)) :: XV (.int .i64 u) :: (fun x w=>NRz w x L1.length (sizedM L1 (L3.map acM) u)) :: (fun x w=>NRz w x L1.length (sizedM L1 (L3.map acM) u)) :: []) (by kernel_rfl) (by kernel_rfl) ?hTs ?hops ?hfin
 case hTs =>
  intro T hT;simp only [List.mem_cons,List.not_mem_nil,or_false] at hT
  rcases hT with rfl | rfl | rfl | rfl | rfl | rfl | rfl | rfl <;> first | exact stay_V _ | exact stay_T | exact stay_of (fun v a b x g=>x.keep g) | exact stay_of (fun v a b x g=>x)
 case hops =>
  refine ⟨opOK_rx [(3,none)] (by kernel_rfl) rfl ?_,?_⟩
  ·intro act w' hw' h1;obtain ⟨hk,hf⟩:=evkf act;generalize act.eval=ρ at *;replace h1:ρ (.tmp 3)=.pointer (some ⟨w.heap.size,0,none⟩):=h1
   refine gxB hw' fun K hK hc hf'=>?_
   go_simp;exact hK _ _ ⟨rfl,Gr.refl _⟩
  refine ⟨opOK_rx [(10,some 0)] (by kernel_rfl) rfl ?_,?_⟩
  ·intro act w' hw' h1;obtain ⟨hk,hf⟩:=evkf act;generalize act.eval=ρ at *;replace h1:ρ (.tmp 10)=.pointer (some ⟨w.heap.size,0,none⟩):=h1
   refine gxB hw' fun K hK hc hf'=>?_
   go_simp;exact hK _ _ ⟨rfl,Gr.refl _⟩
  refine ⟨opOK_rx [(3,none)] (by kernel_rfl) rfl ?_,?_⟩
  ·intro act w' hw' h1;obtain ⟨hk,hf⟩:=evkf act;generalize act.eval=ρ at *;replace h1:ρ (.tmp 3)=.pointer (some ⟨w.heap.size,0,none⟩):=h1
   refine gxB hw' fun K hK hc hf'=>?_
   go_simp;exact hK _ _ ⟨rfl,Gr.refl _⟩
  refine ⟨opOK_rx [(12,some 2)] (by kernel_rfl) rfl ?_,?_⟩
  ·intro act w' hw' h1;obtain ⟨hk,hf⟩:=evkf act;generalize act.eval=ρ at *;replace h1:ρ (.tmp 12)=.pointer (some ⟨w.heap.size,2,none⟩):=h1
   refine gxB hw' fun K hK hc hf'=>?_
   go_simp;exact hK _ _ ⟨rfl,Gr.refl _⟩
  refine ⟨opOK_rx [(13,some 3)] (by kernel_rfl) rfl ?_,?_⟩
  ·intro act w' hw' h1;obtain ⟨hk,hf⟩:=evkf act;generalize act.eval=ρ at *;replace h1:ρ (.tmp 13)=.slice A3 L3.length c3:=h1
   refine gxB hw' fun K hK hc hf'=>?_
   go_simp
   (with_reducible refine (each_acrossW A3 c3 L3 _ (HV3.out.keep (bdrewn hw'.out)) (by omega) HF.out.hsm).mono ?_);rintro e w1 ⟨rfl,hr1,hb1⟩;exact ⟨_,rfl,hK _ _ ⟨⟨_,_,by rw [List.length_map],hr1.v⟩,hb1⟩⟩
  refine ⟨opOK_rx [(1,none)] (by kernel_rfl) rfl ?_,?_⟩
  ·intro act w' hw' h1;obtain ⟨hk,hf⟩:=evkf act;generalize act.eval=ρ at *;replace h1:ρ (.tmp 1)=.int .i64 u:=h1
   refine gxB hw' fun K hK hc hf'=>?_
   go_simp;exact hK _ _ ⟨rfl,Gr.refl _⟩
  refine ⟨opOK_rx [(11,some 1),(14,some 4),(15,some 5)] (by kernel_rfl) rfl ?_,?_⟩
  ·intro act w' hw' h1 h2 h3;obtain ⟨hk,hf⟩:=evkf act;generalize act.eval=ρ at *;replace h1:ρ (.tmp 11)=.slice A1 L1.length c1:=h1;replace h2:(fun z9 w=>SpR w z9 (L3.map acM)) (ρ (.tmp 14)) w':=h2;replace h3:ρ (.tmp 15)=.int .i64 u:=h3
   refine gxB hw' fun K hK hc hf'=>?_
   go_simp;obtain ⟨A,c,e,hs⟩:=h2;rw [e];(with_reducible refine (lineSizes_w A1 c1 L1 A c (L3.map acM) u _ (HV1.out.keep (bdrewn hw'.out)) HF.out.v1 hs HF.out.s1 u0 u1).mono ?_);rintro e w1 ⟨⟨g,rfl,_,hr1⟩,hb1⟩;exact ⟨_,rfl,hK _ _ ⟨⟨_,_,rfl,hr1.nv⟩,hb1⟩⟩
  refine ⟨opOK_rx [(16,some 6)] (by kernel_rfl) rfl ?_,?_⟩
  ·intro act w' hw' h1;obtain ⟨hk,hf⟩:=evkf act;generalize act.eval=ρ at *;replace h1:(fun x w=>NRz w x L1.length (sizedM L1 (L3.map acM) u)) (ρ (.tmp 16)) w':=h1
   refine gxB hw' fun K hK hc hf'=>?_
   go_simp;exact hK _ _ ⟨h1,Gr.refl _⟩
  exact trivial
 case hfin =>
  intro w1 hg1;intro v10 t10;replace t10:v10=.pointer (some ⟨w.heap.size,0,none⟩):=t10;subst t10;intro v11 t11;replace t11:v11=.slice A1 L1.length c1:=t11;subst t11;intro v12 t12;replace t12:v12=.pointer (some ⟨w.heap.size,2,none⟩):=t12;subst t12;intro v13 t13;replace t13:v13=.slice A3 L3.length c3:=t13;subst t13;intro v14 t14;replace t14:(fun z9 w=>SpR w z9 (L3.map acM)) v14 w1:=t14;intro v15 t15
  replace t15:v15=.int .i64 u:=t15;subst t15;intro v16 t16;replace t16:(fun x w=>NRz w x L1.length (sizedM L1 (L3.map acM) u)) v16 w1:=t16;intro v8 t8;replace t8:(fun x w=>NRz w x L1.length (sizedM L1 (L3.map acM) u)) v8 w1:=t8;have hb1:=bdrewn hg1.out;clear hg1;simp only [finP,Act.put,List.setIfInBounds_toArray,List.set_cons_succ,List.set_cons_zero];obtain ⟨B1,e1,rfl,hn1⟩:=t8
  clear t14 t16 d0 d1 d2 lx;replace HX:=hbk hb1 HX;replace HV1:=hD (HV1.out.keep hb1);replace HV2:=hD (HV2.out.keep hb1);replace HV3:=hD (HV3.out.keep hb1);replace HB:=hD (bkeep2 HB.out hb1);clear hb1;have HN1:=hD hn1;clear hn1;have d0:=cellS HX.out 0;have d1:=cellS HX.out 1;have d2:=cellS HX.out 2;have lx:=ltS HX.out
  go_wp2_with fail
  refine wp_region_rx (XV (.pointer (some ⟨w.heap.size,1,none⟩)) :: XV (.slice A2 L2.length c2) :: XV (.pointer (some ⟨w.heap.size,2,none⟩)) :: XV (.slice A3 L3.length c3) :: (fun z9 w=>SpR w z9 (L3.map dnM)) :: XV (.int .i64 v) :: (fun x w=>NRz w x L2.length (sizedM L2 (L3.map dnM) v)) :: (fun x w=>NRz w x L2.length (sizedM L2 (L3.map dnM) v)) :: []) (by kernel_rfl) (by kernel_rfl) ?hTs ?hops ?hfin
  case hTs =>
   intro T hT;simp only [List.mem_cons,List.not_mem_nil,or_false] at hT
   rcases hT with rfl | rfl | rfl | rfl | rfl | rfl | rfl | rfl <;> first | exact stay_V _ | exact stay_T | exact stay_of (fun v a b x g=>x.keep g) | exact stay_of (fun v a b x g=>x)
  case hops =>
   refine ⟨opOK_rx [(3,none)] (by kernel_rfl) rfl ?_,?_⟩
   ·intro act w' hw' h1;obtain ⟨hk,hf⟩:=evkf act;generalize act.eval=ρ at *;replace h1:ρ (.tmp 3)=.pointer (some ⟨w.heap.size,0,none⟩):=h1
    refine gxB hw' fun K hK hc hf'=>?_
    go_simp;exact hK _ _ ⟨rfl,Gr.refl _⟩
   refine ⟨opOK_rx [(17,some 0)] (by kernel_rfl) rfl ?_,?_⟩
   ·intro act w' hw' h1;obtain ⟨hk,hf⟩:=evkf act;generalize act.eval=ρ at *;replace h1:ρ (.tmp 17)=.pointer (some ⟨w.heap.size,1,none⟩):=h1
    refine gxB hw' fun K hK hc hf'=>?_
    go_simp;exact hK _ _ ⟨rfl,Gr.refl _⟩
   refine ⟨opOK_rx [(3,none)] (by kernel_rfl) rfl ?_,?_⟩
   ·intro act w' hw' h1;obtain ⟨hk,hf⟩:=evkf act;generalize act.eval=ρ at *;replace h1:ρ (.tmp 3)=.pointer (some ⟨w.heap.size,0,none⟩):=h1
    refine gxB hw' fun K hK hc hf'=>?_
    go_simp;exact hK _ _ ⟨rfl,Gr.refl _⟩
   refine ⟨opOK_rx [(19,some 2)] (by kernel_rfl) rfl ?_,?_⟩
   ·intro act w' hw' h1;obtain ⟨hk,hf⟩:=evkf act;generalize act.eval=ρ at *;replace h1:ρ (.tmp 19)=.pointer (some ⟨w.heap.size,2,none⟩):=h1
    refine gxB hw' fun K hK hc hf'=>?_
    go_simp;exact hK _ _ ⟨rfl,Gr.refl _⟩
   refine ⟨opOK_rx [(20,some 3)] (by kernel_rfl) rfl ?_,?_⟩
   ·intro act w' hw' h1;obtain ⟨hk,hf⟩:=evkf act;generalize act.eval=ρ at *;replace h1:ρ (.tmp 20)=.slice A3 L3.length c3:=h1
    refine gxB hw' fun K hK hc hf'=>?_
    go_simp
    (with_reducible refine (each_downW A3 c3 L3 _ (HV3.out.keep (bdrewn hw'.out)) (by omega) HF.out.hsm).mono ?_);rintro e w1 ⟨rfl,hr1,hb1⟩;exact ⟨_,rfl,hK _ _ ⟨⟨_,_,by rw [List.length_map],hr1.v⟩,hb1⟩⟩
   refine ⟨opOK_rx [(2,none)] (by kernel_rfl) rfl ?_,?_⟩
   ·intro act w' hw' h1;obtain ⟨hk,hf⟩:=evkf act;generalize act.eval=ρ at *;replace h1:ρ (.tmp 2)=.int .i64 v:=h1
    refine gxB hw' fun K hK hc hf'=>?_
    go_simp;exact hK _ _ ⟨rfl,Gr.refl _⟩
   refine ⟨opOK_rx [(18,some 1),(21,some 4),(22,some 5)] (by kernel_rfl) rfl ?_,?_⟩
   ·intro act w' hw' h1 h2 h3;obtain ⟨hk,hf⟩:=evkf act;generalize act.eval=ρ at *;replace h1:ρ (.tmp 18)=.slice A2 L2.length c2:=h1;replace h2:(fun z9 w=>SpR w z9 (L3.map dnM)) (ρ (.tmp 21)) w':=h2;replace h3:ρ (.tmp 22)=.int .i64 v:=h3
    refine gxB hw' fun K hK hc hf'=>?_
    go_simp;obtain ⟨A,c,e,hs⟩:=h2;rw [e];(with_reducible refine (lineSizes_w A2 c2 L2 A c (L3.map dnM) v _ (HV2.out.keep (bdrewn hw'.out)) HF.out.v2 hs HF.out.s2 y0 y1).mono ?_);rintro e w1 ⟨⟨g,rfl,_,hr1⟩,hb1⟩;exact ⟨_,rfl,hK _ _ ⟨⟨_,_,rfl,hr1.nv⟩,hb1⟩⟩
   refine ⟨opOK_rx [(23,some 6)] (by kernel_rfl) rfl ?_,?_⟩
   ·intro act w' hw' h1;obtain ⟨hk,hf⟩:=evkf act;generalize act.eval=ρ at *;replace h1:(fun x w=>NRz w x L2.length (sizedM L2 (L3.map dnM) v)) (ρ (.tmp 23)) w':=h1
    refine gxB hw' fun K hK hc hf'=>?_
    go_simp;exact hK _ _ ⟨h1,Gr.refl _⟩
   exact trivial
  case hfin =>
   intro w2 hg2;intro v17 t17;replace t17:v17=.pointer (some ⟨w.heap.size,1,none⟩):=t17;subst t17;intro v18 t18;replace t18:v18=.slice A2 L2.length c2:=t18;subst t18;intro v19 t19;replace t19:v19=.pointer (some ⟨w.heap.size,2,none⟩):=t19;subst t19;intro v20 t20;replace t20:v20=.slice A3 L3.length c3:=t20;subst t20;intro v21 t21;replace t21:(fun z9 w=>SpR w z9 (L3.map dnM)) v21 w2:=t21
   intro v22 t22;replace t22:v22=.int .i64 v:=t22;subst t22;intro v23 t23;replace t23:(fun x w=>NRz w x L2.length (sizedM L2 (L3.map dnM) v)) v23 w2:=t23;intro v9 t9;replace t9:(fun x w=>NRz w x L2.length (sizedM L2 (L3.map dnM) v)) v9 w2:=t9;have hb2:=bdrewn hg2.out;clear hg2;simp only [finP,Act.put,List.setIfInBounds_toArray,List.set_cons_succ,List.set_cons_zero];obtain ⟨B2,e2,rfl,hn2⟩:=t9
   clear t21 t23 d0 d1 d2 lx;replace HX:=hbk hb2 HX;replace HN1:=hD (HN1.out.keep hb2);replace HB:=hD (bkeep2 HB.out hb2);clear hb2;have HN2:=hD hn2;clear hn2
   go_wp2_with fail
   with_reducible refine (edgesOf_w B1 e1 L1.length _ _ HN1.out HL1.out.symm (Nat.le_trans M1.out.2 (by omega)) M1.out.1).mono ?_
   rintro e w3 ⟨rfl,hi1,hb3⟩;replace HX:=hbk hb3 HX;replace HN2:=hD (HN2.out.keep hb3);replace HB:=hD (bkeep2 HB.out hb3);clear hb3;have HI1:=hD hi1.nv;clear hi1
   go_wp2_with fail
   with_reducible refine (edgesOf_w B2 e2 L2.length _ _ HN2.out HL2.out.symm (Nat.le_trans M2.out.2 (by omega)) M2.out.1).mono ?_
   rintro e w4 ⟨rfl,hi2,hb4⟩;replace HX:=hbk hb4 HX;replace HI1:=hD (HI1.out.keep hb4);replace HB:=hD (bkeep2 HB.out hb4);clear hb4;have HI2:=hD hi2.nv;clear hi2;go_wp2
   exact bodyPost_ret (v:=.tuple #[.slice (some ⟨w2.heap.size,0,none⟩) (L1.length+1) (L1.length+1),.slice (some ⟨w3.heap.size,0,none⟩) (L2.length+1) (L2.length+1)]) (by simp only [results,Tryz.results203];go_simp) rfl ⟨⟨_,_,_,_,rfl,HI1.out,HI2.out⟩,HB.out⟩
end
theorem stkS_in {x room wish:Int} {lo hi:Bool} (hr:0≤room) (hw:0≤wish):x≤(stkS x room wish lo hi).1∧(stkS x room wish lo hi).1+(stkS x room wish lo hi).2≤x+room∧0≤(stkS x room wish lo hi).2∧(wish≤room→wish≤(stkS x room wish lo hi).2):=by
 have hm:=mn_spec wish room
 cases lo <;> cases hi <;> simp [stkS] <;> omega
theorem ins_in {a:Re} {p q:Int} (hu:0≤a.u) (hv:0≤a.v) (hp:0≤p) (hq:0≤q) :
  (a.x≤(insR a p q).x∧(insR a p q).x+(insR a p q).u≤a.x+a.u∧0≤(insR a p q).u∧(2*p≤a.u→(insR a p q).u=a.u-2*p)) ∧
  (a.y≤(insR a p q).y∧(insR a p q).y+(insR a p q).v≤a.y+a.v∧0≤(insR a p q).v∧(2*q≤a.v→(insR a p q).v=a.v-2*q)):=by
 have h1:=mn_spec p (a.u / 2);have h2:=mn_spec q (a.v / 2);have h3:=mx_spec (a.u-2*p) 0;have h4:=mx_spec (a.v-2*q) 0;simp only [insR];omega
theorem cell_in {S1 S2:List Int} {c:Ce} (h1:∀ x∈S1,0≤x) (h2:∀ x∈S2,0≤x) (hc:smW c) :
  ((areaR S1 S2 c).x≤(cellR S1 S2 c).x∧(cellR S1 S2 c).x+(cellR S1 S2 c).u≤(areaR S1 S2 c).x+(areaR S1 S2 c).u∧0≤(cellR S1 S2 c).u∧(c.cw+2*c.px≤(areaR S1 S2 c).u→c.cw≤(cellR S1 S2 c).u)) ∧
  ((areaR S1 S2 c).y≤(cellR S1 S2 c).y∧(cellR S1 S2 c).y+(cellR S1 S2 c).v≤(areaR S1 S2 c).y+(areaR S1 S2 c).v∧0≤(cellR S1 S2 c).v∧(c.ch+2*c.py≤(areaR S1 S2 c).v→c.ch≤(cellR S1 S2 c).v)):=by
 obtain ⟨⟨b1,b2⟩,⟨b3,b4⟩,⟨b5,b6⟩,⟨b7,b8⟩⟩:=hc;have hu:0≤(areaR S1 S2 c).u:=sumI_nonneg (fun x hx=>h1 x (segI_mem hx));have hv:0≤(areaR S1 S2 c).v:=sumI_nonneg (fun x hx=>h2 x (segI_mem hx));obtain ⟨⟨i1,i2,i3,i4⟩,j1,j2,j3,j4⟩:=ins_in (p:=c.px) (q:=c.py) hu hv b5 b7
 have e1:=stkS_in (x:=(insR (areaR S1 S2 c) c.px c.py).x) (room:=(insR (areaR S1 S2 c) c.px c.py).u) (wish:=c.cw) (lo:=decide (c.sk % 2=1)) (hi:=decide (c.sk / 2 % 2=1)) i3 b1;have e2:=stkS_in (x:=(insR (areaR S1 S2 c) c.px c.py).y) (room:=(insR (areaR S1 S2 c) c.px c.py).v) (wish:=c.ch) (lo:=decide (c.sk / 4 % 2=1)) (hi:=decide (c.sk / 8=1)) j3 b3;simp only [cellR];omega
theorem fm_get {α β:Type} {f:α→Option β}:∀ {l:List α},(∀ x∈l,∃ y,f x=some y)→∀ j:Nat,(l.filterMap f)[j]?=(l[j]?).bind f
 | [],_,j=>by simp
 | x :: t,h,j=>by
  obtain ⟨y,hy⟩:=h x List.mem_cons_self;rw [List.filterMap_cons_some hy]
  cases j with
  | zero=>simp [hy]
  | succ j=>simpa using fm_get (fun z hz=>h z (List.mem_cons_of_mem _ hz)) j
theorem fm_len {α β:Type} {f:α→Option β}:∀ {l:List α},(∀ x∈l,∃ y,f x=some y)→(l.filterMap f).length=l.length
 | [],_=>rfl
 | x :: t,h=>by
  obtain ⟨y,hy⟩:=h x List.mem_cons_self;rw [List.filterMap_cons_some hy,List.length_cons,List.length_cons,fm_len (fun z hz=>h z (List.mem_cons_of_mem _ hz))]
def plsF (L:List Nd) (ks:List Nat):List Plc:=ks.filterMap fun k=>(L[k]?).map fun m=>m.pl
def rcRe (r:Rc):Re:=⟨r.x,r.y,r.u,r.v⟩
def plR (u v:Int) (p:Plc):Re:=⟨xM p u,yM p v,wM p u,hM p v⟩
def kidR0 (L:List Nd) (i:Nat) (n:Nd) (u v:Int):List Re :=
 if n.ki=1 then (cesF L (szM L) (kidD L i)).map (cellR (sizedM n.cs ((cesF L (szM L) (kidD L i)).map acM) u) (sizedM n.rs ((cesF L (szM L) (kidD L i)).map dnM) v))
 else if n.ki=2 then (plsF L (kidD L i)).map (plR u v)
 else (setL (pksF L (szM L) (kidD L i)) (parcM (pksF L (szM L) (kidD L i)) ⟨0,0,u,v⟩).1).map rcRe
def kidR (L:List Nd) (i:Nat) (n:Nd) (r:Re):List Re:=(kidR0 L i n r.u r.v).map fun q=>q.at r.x r.y
theorem kid_some {L:List Nd} {ks:List Nat} (hk:∀ k∈ks,k<L.length) {β:Type} (g:Nat→Nd→β):∀ k∈ks,∃ y,(L[k]?).map (g k)=some y:=fun k h=>⟨_,by rw [List.getElem?_eq_getElem (hk k h)];rfl⟩
theorem plsF_len {L:List Nd} {ks:List Nat} (hk:∀ k∈ks,k<L.length):(plsF L ks).length=ks.length:=fm_len (kid_some hk fun _ m=>m.pl)
theorem kidR0_len (L:List Nd) (i:Nat) (n:Nd) (u v:Int):(kidR0 L i n u v).length=(kidD L i).length:=by
 have hk:∀ k∈kidD L i,k<L.length:=fun k h=>kidD_lt h
 unfold kidR0
 split
 ·rw [List.length_map,cesF_all hk]
 ·split
  ·rw [List.length_map,plsF_len hk]
  ·rw [List.length_map,setL_len parcM_len,pksF_all hk]
theorem kidR_len (L:List Nd) (i:Nat) (n:Nd) (r:Re):(kidR L i n r).length=(kidD L i).length:=by unfold kidR;rw [List.length_map,kidR0_len]
def posN (k:Nat):List Nat→Nat
 | []=>0
 | x :: t=>if x=k then 0 else posN k t+1
theorem posN_get {k:Nat}:∀ {l:List Nat} {j:Nat},l.Pairwise (· < ·)→l[j]?=some k→posN k l=j
 | [],j,_,h=>by simp at h
 | x :: t,0,_,h=>by
  simp at h
  simp [posN,h]
 | x :: t,j+1,hp,h=>by
  have h':t[j]?=some k:=by simpa using h
  have hx:=(List.pairwise_cons.1 hp).1 k (List.mem_of_getElem? h')
  have:=posN_get (List.pairwise_cons.1 hp).2 h'
  unfold posN;rw [if_neg (by omega),this]
theorem kidD_asc (L:List Nd) (i:Nat):(kidD L i).Pairwise (· < ·):=by
 unfold kidD idsN;exact List.pairwise_lt_range.filter _
def lrF (L:List Nd) (w h:Int):Nat→Nat→Re
 | 0,_=>⟨0,0,w,h⟩
 | f+1,i=>match L[i]? with
  | none=>⟨0,0,w,h⟩
  | some m=>if i=0 then ⟨0,0,w,h⟩ else match L[m.pa.toNat]? with
   | none=>⟨0,0,w,h⟩
   | some n=>((kidR L m.pa.toNat n (lrF L w h f m.pa.toNat))[posN i (kidD L m.pa.toNat)]?).getD ⟨0,0,w,h⟩
def lrM (L:List Nd) (w h:Int) (i:Nat):Re:=lrF L w h (i+1) i
theorem lrM_zero (L:List Nd) (w h:Int):lrM L w h 0=⟨0,0,w,h⟩:=by
 show lrF L w h 1 0=_
 cases hn:L[0]? with
 | none=>simp only [lrF,hn]
 | some m=>simp only [lrF,hn,if_true]
theorem lrF_fuel {L:List Nd} (hT:TrOK L) (w h:Int):∀ (f g i:Nat),i<f→i<g→lrF L w h f i=lrF L w h g i:=by
 intro f
 induction f with
 | zero=>intro g i h1;omega
 | succ f ih =>
  intro g i h1 h2
  cases g with
  | zero=>omega
  | succ g =>
   cases hn:L[i]? with
   | none=>simp only [lrF,hn]
   | some m =>
    simp only [lrF,hn]
    by_cases h0:i=0
    ·rw [if_pos h0,if_pos h0]
    ·rw [if_neg h0,if_neg h0]
     have hp:m.pa.toNat<i:=by
      rcases hT.up i m hn with ⟨e,_⟩ | ⟨_,h3,h4⟩
      ·exact absurd e h0
      ·omega
     rw [ih g m.pa.toNat (by omega) (by omega)]
theorem lrM_kid {L:List Nd} (hT:TrOK L) {w h:Int} {p j k:Nat} {n:Nd} (hn:L[p]?=some n) (hk:(kidD L p)[j]?=some k) {q:Re} (hq:(kidR L p n (lrM L w h p))[j]?=some q):lrM L w h k=q:=by
 have hmem:=List.mem_of_getElem? hk
 obtain ⟨m,hm⟩:∃ m,L[k]?=some m:=⟨_,List.getElem?_eq_getElem (kidD_lt hmem)⟩
 have hpa:=kidD_pa hmem hm;have hgt:=kid_gt hT hmem
 have ep:m.pa.toNat=p:=by omega
 show lrF L w h (k+1) k=q
 simp only [lrF,hm];rw [if_neg (by omega),ep];simp only [hn];rw [posN_get (kidD_asc L p) hk,lrF_fuel hT w h k (p+1) p (by omega) (by omega)]
 show ((kidR L p n (lrM L w h p))[j]?).getD _=q
 rw [hq]
 rfl
theorem kid_of {L:List Nd} (hT:TrOK L) {k:Nat} (h0:0<k) (hk:k<L.length):∃ (p j:Nat) (n:Nd),p<k∧L[p]?=some n∧(kidD L p)[j]?=some k:=by
 obtain ⟨m,hm⟩:∃ m,L[k]?=some m:=⟨_,List.getElem?_eq_getElem hk⟩
 rcases hT.up k m hm with ⟨e,_⟩ | ⟨_,h3,h4⟩
 ·omega
 ·obtain ⟨j,hj⟩:=List.getElem?_of_mem (kidD_mem (i:=m.pa.toNat) hm (by omega));exact ⟨m.pa.toNat,j,L[m.pa.toNat]'(by omega),by omega,List.getElem?_eq_getElem (by omega),hj⟩
theorem cutP_innW {r:Rc} {s n:Int} (hr:r.okW) (hn:0≤n):r.inn (cutP r s n).1∧r.inn (cutP r s n).2:=by
 obtain ⟨⟨⟨a1,a2⟩,a3,a4⟩,⟨a5,a6⟩,a7,a8⟩:=hr;have m1:=mn_spec n r.u;have m2:=mn_spec n r.v;unfold cutP Rc.inn
 split
 ·dsimp only;omega
 ·split
  ·dsimp only;omega
  ·split
   ·dsimp only;omega
   ·dsimp only;omega
theorem parcM_inW:∀ {L:List Pk} {z:Rc},(∀ p∈L,p.big)→z.okW→∀ r∈(parcM L z).1,z.inn r∧r.okW
 | [],z,_,_,r,hr=>by simp [parcM] at hr
 | p :: t,z,hL,hz,r,hr=>by
  have tk:=takeOf_bdW hL hz;obtain ⟨o1,o2⟩:=cutP_okW (s:=p.s) (n:=takeOf p t z) hz tk.1;obtain ⟨i1,i2⟩:=cutP_innW (s:=p.s) hz tk.1;simp only [parcM,List.mem_cons] at hr
  rcases hr with rfl | hr
  ·exact ⟨i1,o1⟩
  ·obtain ⟨j1,j2⟩:=parcM_inW (fun q hq=>hL q (List.mem_cons_of_mem _ hq)) o2 r hr;exact ⟨Rc.inn_trans i2 j1,j2⟩
theorem setP_innW {p:Pk} {r:Rc} (h:p.big) (hr:r.okW):r.inn (setP p r)∧0≤(setP p r).u∧0≤(setP p r).v:=by
 obtain ⟨⟨⟨a1,a2⟩,a3,a4⟩,⟨a5,a6⟩,a7,a8⟩:=hr;obtain ⟨h1,h2,_,h4,h5,h6⟩:=h;have m1:=mn_spec p.px (r.u / 2);have m2:=mn_spec p.py (r.v / 2);have m3:=mx_spec (r.u-2*p.px) 0;have m4:=mx_spec (r.v-2*p.py) 0
 have f1:wP p r=p.w∨wP p r=mx (r.u-2*p.px) 0:=by unfold wP;split;exact .inr rfl;exact .inl rfl
 have f2:hP p r=p.h∨hP p r=mx (r.v-2*p.py) 0:=by unfold hP;split;exact .inr rfl;exact .inl rfl
 have n1:=mn_spec (wP p r) (mx (r.u-2*p.px) 0);have n2:=mn_spec (hP p r) (mx (r.v-2*p.py) 0);have e1:=half_bdW (s:=mx (r.u-2*p.px) 0-mn (wP p r) (mx (r.u-2*p.px) 0)) (k:=p.an % 3) (by omega) (by omega) (by omega);have e2:=half_bdW (s:=mx (r.v-2*p.py) 0-mn (hP p r) (mx (r.v-2*p.py) 0)) (k:=p.an / 3) (by omega) (by omega) (by omega);unfold Rc.inn
 show (r.x≤r.x+mn p.px (r.u / 2)+(mx (r.u-2*p.px) 0-mn (wP p r) (mx (r.u-2*p.px) 0))*(p.an % 3) / 2∧r.y≤r.y+mn p.py (r.v / 2)+(mx (r.v-2*p.py) 0-mn (hP p r) (mx (r.v-2*p.py) 0))*(p.an / 3) / 2∧r.x+mn p.px (r.u / 2)+(mx (r.u-2*p.px) 0-mn (wP p r) (mx (r.u-2*p.px) 0))*(p.an % 3) / 2+mn (wP p r) (mx (r.u-2*p.px) 0)≤r.x+r.u∧r.y+mn p.py (r.v / 2)+(mx (r.v-2*p.py) 0-mn (hP p r) (mx (r.v-2*p.py) 0))*(p.an / 3) / 2+mn (hP p r) (mx (r.v-2*p.py) 0)≤r.y+r.v)∧0≤mn (wP p r) (mx (r.u-2*p.px) 0)∧0≤mn (hP p r) (mx (r.v-2*p.py) 0)
 omega
theorem setL_mem {L:List Pk} {M:List Rc} {j:Nat} {q:Rc} (h:(setL L M)[j]?=some q):∃ p r,L[j]?=some p∧M[j]?=some r∧q=setP p r:=by
 unfold setL at h;rw [List.getElem?_zipWith] at h
 cases hp:L[j]? with
 | none=>rw [hp] at h;simp at h
 | some p =>
  cases hr:M[j]? with
  | none=>rw [hp,hr] at h;simp at h
  | some r=>rw [hp,hr] at h;simp at h;exact ⟨p,r,rfl,rfl,h.symm⟩
theorem gw_of {L:List Nd} (hT:TrOK L) {i:Nat} {n:Nd} (hn:L[i]?=some n) (h1:n.ki=1):GW n.cs n.rs (cesF L (szM L) (kidD L i)):=by
 obtain ⟨z1,z2,z3,z4⟩:=ces_w hT hn h1;obtain ⟨v1,v2⟩:=hT.li i n hn h1;have hp:=ce_bd hT hn h1 (fun k _=>szM_bd hT k);exact ⟨v1,v2,z4,z1,z2,z3,(linesB_len v1).2,(linesB_len v2).2,fun p hm=>⟨(hp p hm).2.2.1,(hp p hm).2.2.2.1,(hp p hm).2.2.2.2⟩⟩
theorem pls_mem {L:List Nd} (hT:TrOK L) {ks:List Nat}:∀ p∈plsF L ks,plB p=true:=fun p hp=>by
 obtain ⟨k,hk,e⟩:=List.mem_filterMap.1 hp
 cases hm:L[k]? with
 | none=>rw [hm] at e;cases e
 | some m=>rw [hm] at e;obtain rfl:=Option.some.inj e;exact hT.pl k m hm
theorem bg_of {L:List Nd} (hT:TrOK L) (i:Nat):bgL (pksF L (szM L) (kidD L i)):=⟨pks_big hT _,Nat.le_trans (pksF_len _ _ _) (Nat.le_trans (kidD_len _ _) hT.l10)⟩
theorem kidR0_bd {L:List Nd} (hT:TrOK L) {i:Nat} {n:Nd} (hn:L[i]?=some n) {u v:Int} (hu:0≤u∧u≤20000000000000) (hv:0≤v∧v≤20000000000000) {j:Nat} {q:Re} (hq:(kidR0 L i n u v)[j]?=some q) :
  ((0≤q.u∧(q.u≤u+300∨q.u≤10000000000350))∧(-(u+600)≤q.x∧(q.x≤u+300∨q.x≤10000000000350)))∧((0≤q.v∧(q.v≤v+300∨q.v≤10000000000350))∧(-(v+600)≤q.y∧(q.y≤v+300∨q.y≤10000000000350))):=by
 unfold kidR0 at hq
 split at hq
 ·rename_i h1
  have gw:=gw_of hT hn h1;rw [List.getElem?_map] at hq;obtain ⟨c,hc,rfl⟩:=Option.map_eq_some_iff.1 hq;have hm:=List.mem_of_getElem? hc;have hs:=gw.hsm c hm;obtain ⟨p1,p2,-⟩:=gw.hin c hm;have s1:=sized_okW gw.v1 gw.s1 hu.1 hu.2;have s2:=sized_okW gw.v2 gw.s2 hv.1 hv.2;have w1:=(wish_okW gw.v1 gw.s1).2.2.2.2;have w2:=(wish_okW gw.v2 gw.s2).2.2.2.2
  obtain ⟨S1,e1⟩:∃ S,sizedM n.cs ((cesF L (szM L) (kidD L i)).map acM) u=S:=⟨_,rfl⟩
  obtain ⟨S2,e2⟩:∃ S,sizedM n.rs ((cesF L (szM L) (kidD L i)).map dnM) v=S:=⟨_,rfl⟩
  rw [e1] at s1;rw [e2] at s2;rw [e1,e2];obtain ⟨-,l1,x1,b1⟩:=s1;obtain ⟨-,l2,x2,b2⟩:=s2
  have n1:∀ x∈S1,0≤x:=fun x hx=>(x1 x hx).1
  have n2:∀ x∈S2,0≤x:=fun x hx=>(x2 x hx).1
  obtain ⟨c1,c2⟩:=cell_in n1 n2 hs;have t1:=take_seg S1 c.co.toNat c.mc.toNat;have t2:=take_seg S2 c.ro.toNat c.mr.toNat;have u1:=sum_take_bd n1 c.co.toNat;have u2:=sum_take_bd n1 (c.co.toNat+c.mc.toNat);have u3:=sum_take_bd n2 c.ro.toNat;have u4:=sum_take_bd n2 (c.ro.toNat+c.mr.toNat);have a1:(areaR S1 S2 c).x=sumI (S1.take c.co.toNat):=rfl;have a2:(areaR S1 S2 c).y=sumI (S2.take c.ro.toNat):=rfl
  have a3:(areaR S1 S2 c).u=sumI (segI S1 c.co.toNat c.mc.toNat):=rfl;have a4:(areaR S1 S2 c).v=sumI (segI S2 c.ro.toNat c.mr.toNat):=rfl;omega
 ·split at hq
  ·rw [List.getElem?_map] at hq;obtain ⟨c,hc,rfl⟩:=Option.map_eq_some_iff.1 hq;have hp:=pls_mem hT c (List.mem_of_getElem? hc);have hr:rqW u v=true:=rqW_iff.2 ⟨hu,hv⟩;have b1:=wM_le hp hr;have b2:=hM_le hp hr;have b3:=xM_le hp hr;have b4:=yM_le hp hr;simp only [plR];omega
  ·rw [List.getElem?_map] at hq;obtain ⟨c,hc,rfl⟩:=Option.map_eq_some_iff.1 hq;obtain ⟨p,r,hp,hr,rfl⟩:=setL_mem hc;have hbg:=(bg_of hT i).1
   have hz:(⟨0,0,u,v⟩:Rc).okW:=by unfold Rc.okW;dsimp only;omega
   obtain ⟨i1,i2⟩:=parcM_inW hbg hz r (List.mem_of_getElem? hr);obtain ⟨k1,k2,k3⟩:=setP_innW (hbg p (List.mem_of_getElem? hp)) i2;have k4:=Rc.inn_trans i1 k1;unfold Rc.inn at k4
   dsimp only at k4
   simp only [rcRe];omega
def LyOK (i:Nat) (r:Re):Prop:=((0≤r.u∧r.u≤10000000000350+300*(i:Int))∧(0≤r.v∧r.v≤10000000000350+300*(i:Int)))∧((-(30000000000000*(i:Int))≤r.x∧r.x≤30000000000000*(i:Int))∧(-(30000000000000*(i:Int))≤r.y∧r.y≤30000000000000*(i:Int)))
theorem kidR_ok {L:List Nd} (hT:TrOK L) {p j k:Nat} {n:Nd} {r q:Re} (hn:L[p]?=some n) (hr:LyOK p r) (hk:p<k) (hp:p≤10) (hq:(kidR L p n r)[j]?=some q):LyOK k q:=by
 unfold kidR at hq;rw [List.getElem?_map] at hq;obtain ⟨c,hc,rfl⟩:=Option.map_eq_some_iff.1 hq;obtain ⟨⟨r1,r2⟩,r3,r4⟩:=hr;have hb:=kidR0_bd hT hn (by omega) (by omega) hc;unfold LyOK Re.at
 dsimp only
 omega
theorem lrM_ok {L:List Nd} (hT:TrOK L) {w h:Int} (hw:0≤w∧w≤400) (hh:0≤h∧h≤400):∀ (f i:Nat),i<f→i<L.length→LyOK i (lrM L w h i):=by
 intro f
 induction f with
 | zero=>intro i hi;omega
 | succ f ih =>
  intro i hi hl
  by_cases h0:i=0
  ·subst h0;rw [lrM_zero];unfold LyOK
   dsimp only
   omega
  ·obtain ⟨p,j,n,hp,hn,hj⟩:=kid_of hT (by omega) hl
   have hj2:j<(kidR L p n (lrM L w h p)).length:=by rw [kidR_len];exact (List.getElem?_eq_some_iff.1 hj).1
   have hq:=List.getElem?_eq_getElem hj2;rw [lrM_kid hT hn hj hq];exact kidR_ok hT hn (ih p (by omega) (by omega)) hp (by have:=hT.l10;omega) hq
theorem lrM_room {L:List Nd} (hT:TrOK L) {w h:Int} (hw:0≤w∧w≤400) (hh:0≤h∧h≤400) {i:Nat} (hl:i<L.length):rqW (lrM L w h i).u (lrM L w h i).v=true∧(-1000000000000000≤(lrM L w h i).x∧(lrM L w h i).x+(lrM L w h i).u≤1000000000000000)∧(-1000000000000000≤(lrM L w h i).y∧(lrM L w h i).y+(lrM L w h i).v≤1000000000000000):=by
 obtain ⟨⟨r1,r2⟩,r3,r4⟩:=lrM_ok hT hw hh (i+1) i (by omega) hl
 have:=hT.l10
 exact ⟨rqW_iff.2 ⟨by omega,by omega⟩,by omega,by omega⟩
theorem setP_at (p:Pk) (r:Rc) (x y:Int):setP p (r.at x y)=(setP p r).at x y:=by
 have e1:wP p (r.at x y)=wP p r:=rfl;have e2:hP p (r.at x y)=hP p r:=rfl;unfold setP;rw [e1,e2];simp only [ancP,insP,Rc.at,Rc.mk.injEq,and_true];omega
theorem setL_at:∀ (L:List Pk) (M:List Rc) (x y:Int),setL L (M.map (·.at x y))=(setL L M).map (·.at x y)
 | [],M,x,y=>by simp [setL]
 | p :: t,[],x,y=>by simp [setL]
 | p :: t,r :: s,x,y=>by
  have:=setL_at t s x y
  simp only [setL,List.map_cons,List.zipWith_cons_cons,setP_at,List.cons.injEq,true_and] at this ⊢;exact this
theorem kidR_pk {L:List Nd} {i:Nat} {n:Nd} (r:Re) (h1:n.ki≠1) (h2:n.ki≠2):kidR L i n r=(setL (pksF L (szM L) (kidD L i)) (parcM (pksF L (szM L) (kidD L i)) ⟨r.x,r.y,r.u,r.v⟩).1).map rcRe:=by
 have e:(⟨r.x,r.y,r.u,r.v⟩:Rc)=(⟨0,0,r.u,r.v⟩:Rc).at r.x r.y:=by simp [Rc.at]
 unfold kidR kidR0;rw [if_neg h1,if_neg h2,e,parcM_at,setL_at,List.map_map,List.map_map]
 rfl
theorem kidR_gr {L:List Nd} {i:Nat} {n:Nd} (r:Re) (h1:n.ki=1):kidR L i n r=(cesF L (szM L) (kidD L i)).map (cellT (sizedM n.cs ((cesF L (szM L) (kidD L i)).map acM) r.u) (sizedM n.rs ((cesF L (szM L) (kidD L i)).map dnM) r.v) r.x r.y):=by
 unfold kidR kidR0;rw [if_pos h1,List.map_map]
 rfl
theorem kidR_pl {L:List Nd} {i:Nat} {n:Nd} (r:Re) (h2:n.ki=2):kidR L i n r=(plsF L (kidD L i)).map fun p=>⟨r.x+xM p r.u,r.y+yM p r.v,wM p r.u,hM p r.v⟩:=by
 unfold kidR kidR0;rw [if_neg (by omega),if_pos h2,List.map_map]
 refine List.map_congr_left fun p _=>?_
 simp only [Function.comp,plR,Re.at,Int.add_comm]
theorem each_pr (A:Option Addr) (c:Nat) (R:List (List Value)) (U:List Value→List Value) (caps:Array Value) (w:World) (h:RvK 9 w A R) (hl:∀ vs∈R,vs.length=9∧one vs) (hL:R.length≤1048576) (hU:∀ vs∈R,(U vs).length=4∧one (U vs))
  (hf:∀ vs∈R,∀ W,Below w.heap.size w W→Calls Tryz.prog 229 (#[.agg vs.toArray] ++ caps) W fun e W'=>e=.returned (.agg (U vs).toArray)∧Below W.heap.size W W') :
  Calls Tryz.prog 228 #[.slice A R.length c,.func (.func 229) #[] caps] w fun e w'=>e=.returned (.slice (some ⟨w.heap.size,0,none⟩) R.length R.length)∧RbK 4 w' w.heap.size 32 (R.map U)∧Below w.heap.size w w':=by
 obtain ⟨fm,hfm,hmk0⟩:=made_Rect;have HR:=hD (show ∀ vs∈R.map U,vs.length=4 from fun vs hv=>by obtain ⟨us,hu,rfl⟩:=List.mem_map.1 hv;exact (hU us hu).1);have HU:=hD hU;have HF:=hD hf;have HH:=hD h;have HL:=hD hl;have HFM:=hD hfm;clear hU hf h hfm hl;refine calls_abs Tryz.func228 rfl 26 (by simp only [Tryz.ntmps228]) (by simp) (fun t hsz hargs=>?_)
 have q0:t[0]?=some (.slice A R.length c):=get_of (by omega) (hargs 0 _ rfl);have q1:t[1]?=some (.func (.func 229) #[] caps):=get_of (by omega) (hargs 1 _ rfl);clear hargs;obtain ⟨l0,e0⟩:=gE q0;obtain ⟨l1,e1⟩:=gE q1
 refine wp_seq_h fun K hK=>?_
 apply wp_region_lit
 repeat (first | go_step)
 refine hK.out _ _ ?_;clear hK K;refine wp_abw (fun t' W'=>t'.size=26∧t'[0]?=some (.slice A R.length c)∧t'[1]?=some (.func (.func 229) #[] caps)∧w=W') ⟨by simp [Act.put,hsz],by simp [Act.put,q0],by simp [Act.put,q1],rfl⟩ ?_;clear hsz q0 l0 e0 q1 l1 e1 t;rintro t _ ⟨hsz,q0,q1,rfl⟩;have hmk:=hmk0 R.length w hL;clear hmk0;obtain ⟨l0,e0⟩:=gE q0;obtain ⟨l1,e1⟩:=gE q1
 refine wp_seq_h fun K hK=>?_
 apply wp_region_lit
 repeat (first | go_step)
 refine hK.out _ _ ?_;clear hK K
 refine wp_abw (fun t' W'=>t'.size=26∧t'[0]?=some (.slice A R.length c)∧t'[1]?=some (.func (.func 229) #[] caps)∧t'[5]?=some (.slice (some ⟨w.heap.size,0,none⟩) R.length R.length)∧RpK 4 W' w.heap.size 32 R.length 0 (R.map U)∧Below w.heap.size w W') ⟨by simp [Act.put,hsz],by simp [Act.put,q0],by simp [Act.put,q1],by simp [Act.put,hsz],⟨RpK.new _ (HFM.out _),balloc (Below.refl _ _)⟩⟩ ?_
 clear hsz q0 l0 e0 q1 l1 e1 t hmk;rintro t W0 ⟨hsz,q0,q1,q5,hP,hB⟩
 refine wp_seq_h fun KE hKE=>?_
 obtain ⟨l0,e0⟩:=gE q0;obtain ⟨l1,e1⟩:=gE q1;obtain ⟨l5,e5⟩:=gE q5
 refine wp_seq_h fun K hK=>?_
 apply wp_region_lit
 repeat (first | go_step)
 refine hK.out _ _ ?_;clear hK K
 refine wp_abw (fun t' W'=>t'.size=26∧t'[1]?=some (.func (.func 229) #[] caps)∧t'[5]?=some (.slice (some ⟨w.heap.size,0,none⟩) R.length R.length)∧t'[11]?=some (.slice A R.length c)∧t'[12]?=some (.int .i64 (R.length:Int))∧t'[13]?=some (.int .i64 ((0:Nat):Int))∧W0=W') ⟨by simp [Act.put,hsz],by simp [Act.put,q1],by simp [Act.put,q5],by simp [Act.put,hsz],by simp [Act.put,hsz],by simp [Act.put,hsz],rfl⟩ ?_
 clear hsz q0 l0 e0 q1 l1 e1 q5 l5 e5 t;rintro t _ ⟨hsz,q1,q5,q11,q12,q13,rfl⟩;apply wp_block
 refine wp_loop (fun a W=>∃ (t:Array Value) (k:Nat),a=⟨t,[]⟩∧k≤R.length∧t.size=26∧t[1]?=some (.func (.func 229) #[] caps)∧t[5]?=some (.slice (some ⟨w.heap.size,0,none⟩) R.length R.length)∧t[11]?=some (.slice A R.length c)∧t[12]?=some (.int .i64 (R.length:Int))∧t[13]?=some (.int .i64 (k:Int))∧RpK 4 W w.heap.size 32 R.length k (R.map U)∧Below w.heap.size w W) (fun a _=>R.length-(intOf (a.tmps.getD 13 undef)).toNat) ⟨t,0,rfl,by omega,hsz,q1,q5,q11,q12,q13,hP,hB⟩ ?_
 clear t hsz q1 q5 q11 q12 q13 hP hB W0;rintro a W ⟨t,k,rfl,hk,hsz,q1,q5,q11,q12,q13,hP,hB⟩
 have hmu:intOf (t.getD 13 undef)=(k:Int):=by rw [Array.getD_eq_getD_getElem?,q13];rfl
 dsimp only
 rw [hmu];clear hmu;have HP:=hD hP;have HB:=hD hB;clear hP hB
 by_cases hlt:k<R.length
 ·have hd:decide ((k:Int)<(R.length:Int))=true:=by simpa using hlt
  obtain ⟨l1,e1⟩:=gE q1;obtain ⟨l5,e5⟩:=gE q5;obtain ⟨l11,e11⟩:=gE q11;obtain ⟨l12,e12⟩:=gE q12;obtain ⟨l13,e13⟩:=gE q13
  refine wp_seq_h fun K hK=>?_
  apply wp_region_lit
  repeat (first | go_step)
  refine hK.out _ _ ?_;clear hK K
  refine wp_abw (fun t' W'=>t'.size=26∧t'[1]?=some (.func (.func 229) #[] caps)∧t'[5]?=some (.slice (some ⟨w.heap.size,0,none⟩) R.length R.length)∧t'[11]?=some (.slice A R.length c)∧t'[12]?=some (.int .i64 (R.length:Int))∧t'[13]?=some (.int .i64 (k:Int))∧t'[14]?=some (.bool true)∧W=W') ⟨by simp [Act.put,hsz],by simp [Act.put,q1],by simp [Act.put,q5],by simp [Act.put,q11],by simp [Act.put,q12],by simp [Act.put,q13],by simp [Act.put,hsz,hd],rfl⟩ ?_
  clear hsz q1 l1 e1 q5 l5 e5 q11 l11 e11 q12 l12 e12 q13 l13 e13 t;rintro t _ ⟨hsz,q1,q5,q11,q12,q13,q14,rfl⟩;clear hd
  refine wp_seq_h fun K1 hK1=>?_
  refine wp_cond_true (by simp [Act.eval,q14]) ?_;apply wp_skip;simp only [Exit.then];refine hK1.out _ _ ?_;clear hK1 K1 q14
  refine wp_seq_h fun KB hKB=>?_
  apply wp_block;have hget:R[k]?=some R[k]:=List.getElem?_eq_getElem hlt;obtain ⟨b,off,rfl,hb,hps⟩:=(HH.out.keep HB.out) (by omega);have hc:=hps k _ hget;have hll:=HL.out _ (List.mem_of_getElem? hget);obtain ⟨hlv,hov⟩:=hll;have hUv:=HU.out _ (List.mem_of_getElem? hget);obtain ⟨hul,huo⟩:=hUv;have hfv:=HF.out _ (List.mem_of_getElem? hget)
  have hmv:(R.map U)[k]?=some (U R[k]):=by rw [List.getElem?_map,hget];rfl
  obtain ⟨x,hx⟩:∃ x,R[k]=x:=⟨_,rfl⟩
  rw [hx] at hc hlv hov hul huo hfv hmv;have HC:=hD hc;have HLV:=hD hlv;have HOV:=hD hov;have HUL:=hD hul;have HUO:=hD huo;have HFV:=hD hfv;have HMV:=hD hmv;clear hget hps hc hlv hov hul huo hfv hmv hx
  have hd1:(k:Int)<(R.length:Int):=by omega
  obtain ⟨l1,e1⟩:=gE q1;obtain ⟨l5,e5⟩:=gE q5;obtain ⟨l11,e11⟩:=gE q11;obtain ⟨l12,e12⟩:=gE q12;obtain ⟨l13,e13⟩:=gE q13
  refine wp_seq_h fun K hK=>?_
  apply wp_region_lit
  repeat (first|((with_reducible show wpList _ _ _ _ _ _);refine ldK 41 _ x b (off+k*9) rfl rfl HC.out Tryz.underlying41 rfl (by rw [HLV.out];exact inf_Place) (by simp [Act.eval,hsz]) ?_)|((with_reducible show wpList _ _ _ _ _ _);refine allocK 41 9 rfl rfl infz_Place (fun z hz=>?_))|((with_reducible show wpList _ _ _ _ _ _);refine stK 41 (.tmp 7) _ x W.heap.size 0 rfl rfl (thereB (newS _ _) (by rw [HLV.out,hz];omega)) (by rw [HLV.out];exact inf_Place) HOV.out (by simp [Act.eval,hsz]) (by simp [Act.eval,hsz]) ?_) | go_step)
  refine hK.out _ _ ?_;clear hK K
  refine wp_abw (fun t' W'=>t'.size=26∧t'[1]?=some (.func (.func 229) #[] caps)∧t'[5]?=some (.slice (some ⟨w.heap.size,0,none⟩) R.length R.length)∧t'[6]?=some (.int .i64 (k:Int))∧t'[7]?=some (.pointer (some ⟨W.heap.size,0,none⟩))∧t'[11]?=some (.slice (some ⟨b,off,none⟩) R.length c)∧t'[12]?=some (.int .i64 (R.length:Int))∧t'[13]?=some (.int .i64 (k:Int))∧W'.rangeAt W.heap.size 0 x∧Below W.heap.size W W') ⟨by simp [Act.put,hsz],by simp [Act.put,q1],by simp [Act.put,q5],by simp [Act.put,hsz],by simp [Act.put,hsz],by simp [Act.put,q11],by simp [Act.put,q12],by simp [Act.put,q13],⟨World.rangeAt_setCells_same _ _ _ _ (thereB (newS _ _) (by rw [HLV.out,hz];omega)),below_setCells (Nat.le_refl _) _ _ _ (balloc (Below.refl _ _))⟩⟩ ?_
  clear hsz q1 l1 e1 q5 l5 e5 q11 l11 e11 q12 l12 e12 q13 l13 e13 t hd1 z hz;rintro t W1 ⟨hsz,q1,q5,q6,q7,q11,q12,q13,hx1,hb1⟩;have HX1:=hD hx1;have hwg:=HP.out.lt;replace HP:=hD (HP.out.keep hb1);replace HB:=hD (bkeep2 HB.out hb1);clear hx1 hb1 HC
  have hd1:(k:Int)<(R.length:Int):=by omega
  obtain ⟨l1,e1⟩:=gE q1;obtain ⟨l5,e5⟩:=gE q5;obtain ⟨l6,e6⟩:=gE q6;obtain ⟨l7,e7⟩:=gE q7;obtain ⟨l11,e11⟩:=gE q11;obtain ⟨l12,e12⟩:=gE q12;obtain ⟨l13,e13⟩:=gE q13;apply wp_region_lit
  repeat (first|((with_reducible show wpList _ _ _ _ _ _);refine ldK 41 _ x W.heap.size 0 rfl rfl HX1.out Tryz.underlying41 rfl (by rw [HLV.out];exact inf_Place) (by simp [Act.eval,hsz,e7]) ?_) | go_step)
  refine (HFV.out _ HB.out).mono ?_;rintro e W2 ⟨rfl,hb2⟩
  dsimp only
  have hth:W2.there w.heap.size (k*4) (U x).length:=by rw [HUL.out];exact (HP.out.keep hb2).there hlt
  repeat (first|((with_reducible show wpList _ _ _ _ _ _);refine stK 32 _ _ (U x) w.heap.size (k*4) rfl rfl hth (by rw [HUL.out];exact inf_Rect) HUO.out (by simp [Act.eval,hsz,hd1]) (by simp [Act.eval,hsz]) ?_) | go_step)
  try simp only [Exit.inBlock]
  refine hKB.out _ _ ?_;clear hKB KB
  refine wp_abw (fun t' W'=>t'.size=26∧t'[1]?=some (.func (.func 229) #[] caps)∧t'[5]?=some (.slice (some ⟨w.heap.size,0,none⟩) R.length R.length)∧t'[11]?=some (.slice (some ⟨b,off,none⟩) R.length c)∧t'[12]?=some (.int .i64 (R.length:Int))∧t'[13]?=some (.int .i64 (k:Int))∧RpK 4 W' w.heap.size 32 R.length (k+1) (R.map U)∧Below w.heap.size w W') ⟨by simp [Act.put,hsz],by simp [Act.put,q1],by simp [Act.put,q5],by simp [Act.put,q11],by simp [Act.put,q12],by simp [Act.put,q13],⟨(HP.out.keep hb2).step HR.out HMV.out hlt,below_setCells (Nat.le_refl _) _ _ _ (bkeep2 HB.out hb2)⟩⟩ ?_
  clear hsz q1 l1 e1 q5 l5 e5 q6 l6 e6 q7 l7 e7 q11 l11 e11 q12 l12 e12 q13 l13 e13 t hth hb2 HP HB hd1;rintro t W3 ⟨hsz,q1,q5,q11,q12,q13,hP,hB⟩;obtain ⟨l1,e1⟩:=gE q1;obtain ⟨l5,e5⟩:=gE q5;obtain ⟨l11,e11⟩:=gE q11;obtain ⟨l12,e12⟩:=gE q12;obtain ⟨l13,e13⟩:=gE q13;apply wp_region_lit
  repeat go_step
  try simp only [Exit.then]
  refine ⟨⟨_,k+1,rfl,by omega,by simp [hsz],by simp [q1],by simp [q5],by simp [q11],by simp [q12],by simp [hsz],hP,hB⟩,?_⟩
  ·simp [hsz,intOf]
   omega
 ·have hd:decide ((k:Int)<(R.length:Int))=false:=decide_eq_false (by omega);obtain ⟨l1,e1⟩:=gE q1;obtain ⟨l5,e5⟩:=gE q5;obtain ⟨l11,e11⟩:=gE q11;obtain ⟨l12,e12⟩:=gE q12;obtain ⟨l13,e13⟩:=gE q13
  refine wp_seq_h fun K hK=>?_
  apply wp_region_lit
  repeat (first | go_step)
  refine hK.out _ _ ?_;clear hK K
  refine wp_abw (fun t' W'=>t'.size=26∧t'[1]?=some (.func (.func 229) #[] caps)∧t'[5]?=some (.slice (some ⟨w.heap.size,0,none⟩) R.length R.length)∧t'[11]?=some (.slice A R.length c)∧t'[12]?=some (.int .i64 (R.length:Int))∧t'[13]?=some (.int .i64 (k:Int))∧t'[14]?=some (.bool false)∧W=W') ⟨by simp [Act.put,hsz],by simp [Act.put,q1],by simp [Act.put,q5],by simp [Act.put,q11],by simp [Act.put,q12],by simp [Act.put,q13],by simp [Act.put,hsz,hd],rfl⟩ ?_
  clear hsz q1 l1 e1 q5 l5 e5 q11 l11 e11 q12 l12 e12 q13 l13 e13 t;rintro t _ ⟨hsz,q1,q5,q11,q12,q13,q14,rfl⟩
  refine wp_seq_h fun K1 hK1=>?_
  refine wp_cond_false (by simp [Act.eval,q14]) ?_;apply wp_exit;simp only [Exit.then,Exit.inBlock,if_true];refine hKE.out _ _ ?_;clear hd;obtain ⟨l1,e1⟩:=gE q1;obtain ⟨l5,e5⟩:=gE q5;obtain ⟨l11,e11⟩:=gE q11;obtain ⟨l12,e12⟩:=gE q12;obtain ⟨l13,e13⟩:=gE q13;obtain ⟨l14,e14⟩:=gE q14
  repeat go_step
  refine bodyPost_ret (results_tmp rfl _ _ _) rfl ?_;exact ⟨by simp [hsz],HP.out.whole (by simp) (by omega),HB.out⟩
section
attribute [local go_sem 5000] run_mx run_mn
attribute [local go_sem] givesUpon_value givesUpon_skip givesUpon_enter
theorem belowNg {B:Nat} {a w:World} (h:Below B a w) (n:Nat):Below B a (w.drewN n):=⟨h.os,h.tape,h.output,h.size,h.block⟩
theorem put4g {w:World} {b:Nat} {a0 a1 a2 a3:Value} {T:TypeId} {fz:Nat × Nat} (h:w.heap[b]?=some (.cells #[a0,a1,a2,a3] T fz)) (x0 x1 x2 x3:Value) :
  ((((w.setCell ⟨b,0,none⟩ x0).setCell ⟨b,1,none⟩ x1).setCell ⟨b,2,none⟩ x2).setCell ⟨b,3,none⟩ x3).heap[b]?=some (.cells #[x0,x1,x2,x3] T fz):=by
 replace h:=putS (i:=0) h x0;simp only [List.setIfInBounds_toArray,List.set_cons_zero] at h;replace h:=putS (i:=1) h x1;simp only [List.setIfInBounds_toArray,List.set_cons_succ,List.set_cons_zero] at h;replace h:=putS (i:=2) h x2;simp only [List.setIfInBounds_toArray,List.set_cons_succ,List.set_cons_zero] at h;replace h:=putS (i:=3) h x3
 simp only [List.setIfInBounds_toArray,List.set_cons_succ,List.set_cons_zero] at h;exact h
theorem put4gb {B b:Nat} {a w:World} (h:Below B a w) (hb:B≤b) (x0 x1 x2 x3:Value) :
  Below B a ((((w.setCell ⟨b,0,none⟩ x0).setCell ⟨b,1,none⟩ x1).setCell ⟨b,2,none⟩ x2).setCell ⟨b,3,none⟩ x3) :=
 (((h.setCell (p:=⟨b,0,none⟩) hb _).setCell (p:=⟨b,1,none⟩) hb _).setCell (p:=⟨b,2,none⟩) hb _).setCell (p:=⟨b,3,none⟩) hb _
theorem inset_g (x y u v p q:Int) (w:World) (h:((0≤x∧x≤20000000000000)∧(0≤y∧y≤20000000000000))∧((0≤u∧u≤20000000000000)∧(0≤v∧v≤20000000000000))) (hp:0≤p∧p≤10) (hq:0≤q∧q≤10):Calls Tryz.prog 217 #[.agg #[.int .i64 (x),.int .i64 (y),.int .i64 (u),.int .i64 (v)],.int .i64 p,.int .i64 q] w fun e w'=>e=.returned (.agg #[.int .i64 (x+mn p (u / 2)),.int .i64 (y+mn q (v / 2)),.int .i64 (mx (u-2*p) 0),.int .i64 (mx (v-2*q) 0)])∧Below w.heap.size w w':=by
 have hbd:=ins_bd (a:=⟨x,y,u,v⟩) h hp hq
 dsimp only at hbd
 obtain ⟨⟨⟨m1,m2⟩,m3,m4⟩,⟨m5,m6⟩,m7,m8⟩:=hbd;obtain ⟨⟨⟨a1,a2⟩,⟨a3,a4⟩⟩,⟨a5,a6⟩,⟨a7,a8⟩⟩:=h;obtain ⟨b1,b2⟩:=hp;obtain ⟨b3,b4⟩:=hq
 go_enter Tryz.func217,Tryz.ntmps217
 go_wp2
 exact bodyPost_ret (v:=.agg #[.int .i64 (x+mn p (u / 2)),.int .i64 (y+mn q (v / 2)),.int .i64 (mx (u-2*p) 0),.int .i64 (mx (v-2*q) 0)]) (by simp only [results,Tryz.results217];go_simp) rfl ⟨rfl,(by repeat (first | with_reducible exact Below.refl _ _ | with_reducible assumption | with_reducible refine balloc ?_|(with_reducible refine bset ?_ ?_;rotate_left;((try dsimp only);omega)) | refine bkeep2 ?_ (by assumption) | with_reducible refine Below.drew ?_))⟩
theorem anchored_g (x y u v p q k:Int) (w:World) (h:((0≤x∧x≤20000000000010)∧(0≤y∧y≤20000000000010))∧((0≤u∧u≤20000000000000)∧(0≤v∧v≤20000000000000))) (hp:0≤p∧p≤20000000000000) (hq:0≤q∧q≤20000000000000) (hk:0≤k∧k≤8):Calls Tryz.prog 219 #[.agg #[.int .i64 (x),.int .i64 (y),.int .i64 (u),.int .i64 (v)],.int .i64 p,.int .i64 q,.int .i64 k] w fun e w'=>e=.returned (.agg #[.int .i64 (x+(u-mn p u)*(k % 3) / 2),.int .i64 (y+(v-mn q v)*(k / 3) / 2),.int .i64 (mn p u),.int .i64 (mn q v)])∧Below w.heap.size w w':=by
 obtain ⟨m1,m2,m3,m4,m5,m6,m7,m8,m9,m10,m11,m12⟩:=anc_bd h.2.1 h.2.2 hp hq hk;obtain ⟨⟨⟨a1,a2⟩,⟨a3,a4⟩⟩,⟨a5,a6⟩,⟨a7,a8⟩⟩:=h;obtain ⟨b5,b6⟩:=hk
 go_enter Tryz.func219,Tryz.ntmps219
 go_wp2_with fail
 go_quiet (fail)
 go_wp2
 exact bodyPost_ret (v:=.agg #[.int .i64 (x+(u-mn p u)*(k % 3) / 2),.int .i64 (y+(v-mn q v)*(k / 3) / 2),.int .i64 (mn p u),.int .i64 (mn q v)]) (by simp only [results,Tryz.results219];go_simp) rfl ⟨rfl,(by repeat (first | with_reducible exact Below.refl _ _ | with_reducible assumption | with_reducible refine balloc ?_|(with_reducible refine bset ?_ ?_;rotate_left;((try dsimp only);omega)) | refine bkeep2 ?_ (by assumption) | with_reducible refine Below.drew ?_ | refine belowNg ?_ _))⟩
theorem inset_r (a b:Re) (p q:Int) (w:World) (h:BdR a) (hp:0≤p∧p≤10) (hq:0≤q∧q≤10) (hb:insR a p q=b):Calls Tryz.prog 217 #[.agg #[.int .i64 a.x,.int .i64 a.y,.int .i64 a.u,.int .i64 a.v],.int .i64 p,.int .i64 q] w fun e w'=>e=.returned (.agg #[.int .i64 b.x,.int .i64 b.y,.int .i64 b.u,.int .i64 b.v])∧Below w.heap.size w w':=by
 subst hb;exact inset_g _ _ _ _ _ _ w h hp hq
theorem anchored_r (a S:Re) (p q k:Int) (w:World) (h:((0≤a.x∧a.x≤20000000000010)∧(0≤a.y∧a.y≤20000000000010))∧((0≤a.u∧a.u≤20000000000000)∧(0≤a.v∧a.v≤20000000000000))) (hp:0≤p∧p≤20000000000000) (hq:0≤q∧q≤20000000000000) (hk:0≤k∧k≤8) (hb:ancR a p q k=S):Calls Tryz.prog 219 #[.agg #[.int .i64 a.x,.int .i64 a.y,.int .i64 a.u,.int .i64 a.v],.int .i64 p,.int .i64 q,.int .i64 k] w fun e w'=>e=.returned (.agg #[.int .i64 S.x,.int .i64 S.y,.int .i64 S.u,.int .i64 S.v])∧Below w.heap.size w w':=by
 subst hb;exact anchored_g _ _ _ _ _ _ _ w h hp hq hk
theorem stuck_v (n room k s t:Int) (w:World) (h:0≤k∧k≤3) (hs:stkI n room k=(s,t)):Calls Tryz.prog 218 #[.int .i64 n,.int .i64 room,.int .i64 k] w fun e w'=>e=.returned (.tuple #[.int .i64 s,.int .i64 t])∧w=w':=by
 have hk:k=0∨k=1∨k=2∨k=3:=by omega
 rcases hk with rfl | rfl | rfl | rfl
 all_goals
  simp [stkI] at hs
  obtain ⟨rfl,rfl⟩:=hs
  go_enter Tryz.func218,Tryz.ntmps218
  go_wp2;refine bodyPost_ret (by simp only [results,Tryz.results218];go_simp) rfl ⟨rfl,rfl⟩
theorem inLines_v (p:Ce) (a:Re) (w:World) (hp:smW p) (hs:0≤p.sk∧p.sk≤15) (ha:BdR a) (S:Re) (hS:celI a p=S) :
  Calls Tryz.prog 210 #[.agg #[.int .i64 p.co,.int .i64 p.ro,.int .i64 p.mc,.int .i64 p.mr,.int .i64 p.cw,.int .i64 p.ch,.int .i64 p.sk,.int .i64 p.px,.int .i64 p.py],.agg #[.int .i64 a.x,.int .i64 a.y,.int .i64 a.u,.int .i64 a.v]] w fun e w'=>e=.returned (.agg #[.int .i64 S.x,.int .i64 S.y,.int .i64 S.u,.int .i64 S.v])∧Below w.heap.size w w':=by
 obtain ⟨hw,hh,hpx,hpy⟩:=hp;have hins:=ins_bd ha hpx hpy
 obtain ⟨b,hb⟩:∃ b,insR a p.px p.py=b:=⟨_,rfl⟩
 have hbx:b.x=a.x+mn p.px (a.u / 2)∧b.y=a.y+mn p.py (a.v / 2)∧b.u=mx (a.u-2*p.px) 0∧b.v=mx (a.v-2*p.py) 0:=by rw [<- hb];exact ⟨rfl,rfl,rfl,rfl⟩
 have hbb:((0≤b.x∧b.x≤20000000000010)∧(0≤b.y∧b.y≤20000000000010))∧((0≤b.u∧b.u≤20000000000000)∧(0≤b.v∧b.v≤20000000000000)):=by
  obtain ⟨⟨h1,h2⟩,h3,h4⟩:=ha;omega
 unfold celI at hS;rw [hb] at hS;have q1:=stkI_bd (k:=p.sk % 4) hw hbb.2.1;have q2:=stkI_bd (k:=p.sk / 4) hh hbb.2.2
 obtain ⟨⟨s1,t1⟩,hst1⟩:∃ z,stkI p.cw b.u (p.sk % 4)=z:=⟨_,rfl⟩
 obtain ⟨⟨s2,t2⟩,hst2⟩:∃ z,stkI p.ch b.v (p.sk / 4)=z:=⟨_,rfl⟩
 rw [hst1] at hS q1;rw [hst2] at hS q2;obtain ⟨q1a,q1b,q1c⟩:=q1;obtain ⟨q2a,q2b,q2c⟩:=q2
 dsimp only at hS q1a q1b q1c q2a q2b q2c
 obtain ⟨hs0,hs1⟩:=hs;have HBB:=hD hbb;have HAB:=hD ha;have HP:=hD (And.intro hpx hpy);have HQ:=hD (And.intro q1a q2a);have HS1:=hD hst1;have HS2:=hD hst2;have HSS:=hD hS;have HIN:=hD hb;clear hins hbx hbb ha hpx hpy hst1 hst2 hS q1a q2a hb hw hh
 go_enter Tryz.func210,Tryz.ntmps210
 go_upto_region 1 with (fail)
 refine wp_genGG (fun W=>W.heap[w.heap.size]?=some (.cells #[.int .i64 p.co,.int .i64 p.ro,.int .i64 p.mc,.int .i64 p.mr,.int .i64 p.cw,.int .i64 p.ch,.int .i64 p.sk,.int .i64 p.px,.int .i64 p.py] 39 (0,0))∧W.heap[w.heap.size+1]?=some (.cells #[.int .i64 a.x,.int .i64 a.y,.int .i64 a.u,.int .i64 a.v] 32 (0,0))∧W.heap[w.heap.size+1+1]?=some (.cells #[.int .i64 0,.int .i64 0,.int .i64 0,.int .i64 0] 32 (0,0))∧Below w.heap.size w W) ⟨(Below.heap_alloc _ _ w.heap.size (by simp;omega)).trans ((Below.heap_alloc _ _ w.heap.size (by simp)).trans (newS w _)),(Below.heap_alloc _ _ (w.heap.size+1) (by simp)).trans (by have:=newS (w.alloc (.cells #[.int .i64 p.co,.int .i64 p.ro,.int .i64 p.mc,.int .i64 p.mr,.int .i64 p.cw,.int .i64 p.ch,.int .i64 p.sk,.int .i64 p.px,.int .i64 p.py] 39 (0,0))) (.cells #[.int .i64 a.x,.int .i64 a.y,.int .i64 a.u,.int .i64 a.v] 32 (0,0));rwa [World.size_alloc] at this),by have:=newS ((w.alloc (.cells #[.int .i64 p.co,.int .i64 p.ro,.int .i64 p.mc,.int .i64 p.mr,.int .i64 p.cw,.int .i64 p.ch,.int .i64 p.sk,.int .i64 p.px,.int .i64 p.py] 39 (0,0))).alloc (.cells #[.int .i64 a.x,.int .i64 a.y,.int .i64 a.u,.int .i64 a.v] 32 (0,0))) (.cells #[.int .i64 0,.int .i64 0,.int .i64 0,.int .i64 0] 32 (0,0));rwa [World.size_alloc,World.size_alloc] at this,balloc (balloc (balloc (Below.refl _ _)))⟩ (fun w0 h0=>?_)
 obtain ⟨hx,hy,hz,hb0⟩:=h0;have HX:=hD hx;have HY:=hD hy;have HZ:=hD hz;have HB:=hD hb0;have lz:=ltS hz;have d7:=cellS hx 7;have d8:=cellS hx 8;have y0:=cellS hy 0;have y1:=cellS hy 1;have y2:=cellS hy 2;have y3:=cellS hy 3;clear hx hy hz hb0
 go_wp2_with fail
 with_reducible refine (inset_r a b p.px p.py _ HAB.out HP.out.1 HP.out.2 HIN.out).mono ?_
 rintro e w1 ⟨rfl,hb1⟩;clear d7 d8 y0 y1 y2 y3 lz;replace HX:=hbk hb1 HX;replace HY:=hbk hb1 HY;replace HZ:=hbk hb1 HZ;replace HB:=hD (bkeep2 HB.out hb1);clear hb1
 go_upto_region 2 with (fail)
 refine wp_genGG (fun W=>W.heap[w.heap.size]?=some (.cells #[.int .i64 p.co,.int .i64 p.ro,.int .i64 p.mc,.int .i64 p.mr,.int .i64 p.cw,.int .i64 p.ch,.int .i64 p.sk,.int .i64 p.px,.int .i64 p.py] 39 (0,0))∧W.heap[w.heap.size+1+1]?=some (.cells #[.int .i64 0,.int .i64 0,.int .i64 0,.int .i64 0] 32 (0,0))∧W.heap[w1.heap.size]?=some (.cells #[.int .i64 b.x,.int .i64 b.y,.int .i64 b.u,.int .i64 b.v] 32 (0,0))∧Below w.heap.size w W) ⟨(Below.heap_alloc _ _ _ (ltS HX.out)).trans HX.out,(Below.heap_alloc _ _ _ (ltS HZ.out)).trans HZ.out,newS _ _,balloc HB.out⟩ (fun w2 h2=>?_)
 have ne:w.heap.size+1+1≠w1.heap.size:=by have:=ltS HZ.out;omega
 have HN:=hD ne;clear HX HY HZ HB ne;obtain ⟨hx,hz,hy,hb0⟩:=h2;have HX:=hD hx;have HY:=hD hy;have HZ:=hD hz;have HB:=hD hb0;have d4:=cellS hx 4;have d5:=cellS hx 5;have d6:=cellS hx 6;have y2:=cellS hy 2;have y3:=cellS hy 3;have lx:=ltS hx;have ly:=ltS hy;clear hx hy hz hb0
 go_wp2_with fail
 with_reducible refine (stuck_v p.cw b.u (p.sk % 4) s1 t1 _ (by omega) HS1.out).mono ?_
 rintro e w3 ⟨rfl,rfl⟩
 go_wp2_with fail
 with_reducible refine (stuck_v p.ch b.v (p.sk / 4) s2 t2 _ (by omega) HS2.out).mono ?_
 rintro e w3 ⟨rfl,rfl⟩;have y0:=cellS HY.out 0;have y1:=cellS HY.out 1
 go_wp2_with fail
 with_reducible refine (anchored_r b S s1 s2 (t1+3*t2) _ HBB.out HQ.out.1 HQ.out.2 (by omega) HSS.out).mono ?_
 rintro e w4 ⟨rfl,hb4⟩;clear d4 d5 d6 y0 y1 y2 y3 lx ly;replace HX:=hbk hb4 HX;replace HZ:=hbk hb4 HZ;replace HB:=hD (bkeep2 HB.out hb4);clear hb4;have z0:=cellS HZ.out 0;have z1:=cellS HZ.out 1;have z2:=cellS HZ.out 2;have z3:=cellS HZ.out 3;have f0:=frozenS HZ.out 0;have f1:=frozenS HZ.out 1;have f2:=frozenS HZ.out 2;have f3:=frozenS HZ.out 3;have lz:=ltS HZ.out;go_wp2
 refine bp_genG (fun W=>W.heap[w.heap.size+1+1]?=some (.cells #[.int .i64 S.x,.int .i64 S.y,.int .i64 S.u,.int .i64 S.v] 32 (0,0))∧Below w.heap.size w W) ⟨put4g HZ.out _ _ _ _,put4gb HB.out (by omega) _ _ _ _⟩ ?_;clear z0 z1 z2 z3 f0 f1 f2 f3 lz;rintro W ⟨hp,hbW⟩;have z0:=cellS hp 0;have z1:=cellS hp 1;have z2:=cellS hp 2;have z3:=cellS hp 3
 exact bodyPost_ret (v:=.agg #[.int .i64 S.x,.int .i64 S.y,.int .i64 S.u,.int .i64 S.v]) (by simp only [results,Tryz.results210];go_simp) rfl ⟨rfl,hbW⟩
end
section
attribute [local go_sem] givesUpon_value givesUpon_skip givesUpon_enter
theorem cellK_v (k1 k2 m1 m2:Nat) (cw ch sk px py:Int) (S1 S2:List Int) (B1 B2:Option Addr) (n1 e1 n2 e2 bx1 bx2:Nat) (S:Re) (w:World)
  (hp:smW ⟨k1,k2,m1,m2,cw,ch,sk,px,py⟩) (hs:0≤sk∧sk≤15) (hk1:k1+m1≤S1.length) (hk2:k2+m2≤S2.length) (hz1:SzB S1) (hz2:SzB S2) (hn1:n1=S1.length+1) (hn2:n2=S2.length+1)
  (hx1:w.heap[bx1]?=some (.cells #[.slice B1 n1 e1] 47 (0,0))) (hx2:w.heap[bx2]?=some (.cells #[.slice B2 n2 e2] 47 (0,0))) (hv1:NV w B1 (edL S1)) (hv2:NV w B2 (edL S2)) (hS:cellR S1 S2 ⟨k1,k2,m1,m2,cw,ch,sk,px,py⟩=S) :
  Calls Tryz.prog 209 #[.agg #[.int .i64 k1,.int .i64 k2,.int .i64 m1,.int .i64 m2,.int .i64 cw,.int .i64 ch,.int .i64 sk,.int .i64 px,.int .i64 py],.pointer (some ⟨bx1,0,none⟩),.pointer (some ⟨bx2,0,none⟩)] w fun e w'=>e=.returned (.agg #[.int .i64 S.x,.int .i64 S.y,.int .i64 S.u,.int .i64 S.v])∧Below w.heap.size w w':=by
 have har:=area_bd hz1 hz2 ⟨k1,k2,m1,m2,cw,ch,sk,px,py⟩;have heq:=celI_eq (S1:=S1) (S2:=S2) (c:=⟨k1,k2,m1,m2,cw,ch,sk,px,py⟩) hs hp.1 hp.2.1 hp.2.2.1 hp.2.2.2 har;rw [hS] at heq;have t1:=take_seg S1 k1 m1;have t2:=take_seg S2 k2 m2;have b1:=hz1.take k1;have b2:=hz2.take k2;have b3:=hz1.take (k1+m1);have b4:=hz2.take (k2+m2);have l5:=hz1.2.2;have l6:=hz2.2.2
 obtain ⟨b1_,off1,rfl,hb1,hp1⟩:=hv1.cells (by rw [edL_len];omega);obtain ⟨b2_,off2,rfl,hb2,hp2⟩:=hv2.cells (by rw [edL_len];omega);have c1:=hp1 k1 _ (edL_get (S:=S1) (i:=k1) (by omega));have c2:=hp1 (k1+m1) _ (edL_get (S:=S1) (i:=k1+m1) (by omega));have c3:=hp2 k2 _ (edL_get (S:=S2) (i:=k2) (by omega));have c4:=hp2 (k2+m2) _ (edL_get (S:=S2) (i:=k2+m2) (by omega));have g1:=cellS hx1 0
 have g2:=cellS hx2 0;have lx1:=ltS hx1;have lx2:=ltS hx2
 have hA:areaR S1 S2 ⟨k1,k2,m1,m2,cw,ch,sk,px,py⟩=⟨sumI (S1.take k1),sumI (S2.take k2),sumI (S1.take (k1+m1))-sumI (S1.take k1),sumI (S2.take (k2+m2))-sumI (S2.take k2)⟩:=by
  unfold areaR;rw [t1,t2];simp only [Int.toNat_natCast];rw [Int.add_comm,Int.add_sub_cancel,Int.add_comm (sumI (List.take k2 S2)),Int.add_sub_cancel]
 rw [hA] at heq har;clear t1 t2 hA hx1 hx2 hp1 hp2 hv1 hv2 hS
 obtain ⟨l,hl⟩:∃ z,sumI (S1.take k1)=z:=⟨_,rfl⟩
 obtain ⟨t,ht⟩:∃ z,sumI (S2.take k2)=z:=⟨_,rfl⟩
 obtain ⟨r,hr⟩:∃ z,sumI (S1.take (k1+m1))=z:=⟨_,rfl⟩
 obtain ⟨b,hbb⟩:∃ z,sumI (S2.take (k2+m2))=z:=⟨_,rfl⟩
 rw [hl] at c1 b1 heq har;rw [ht] at c3 b2 heq har;rw [hr] at c2 b3 heq har;rw [hbb] at c4 b4 heq har;have hSm:SmW l t r b:=SmW_of (by omega)
 have i1:(k1:Int)<(n1:Int):=by omega
 have i2:(k1:Int)+(m1:Int)<(n1:Int):=by omega
 have i3:(0:Int)≤(k1:Int)+(m1:Int):=by omega
 have i4:((k1:Int)+(m1:Int)).toNat=k1+m1:=by omega
 have w1:IntKind.i64.wrap ((k1:Int)+(m1:Int))=(k1:Int)+(m1:Int):=IntWalk.i64_in _ (by omega)
 have j1:(k2:Int)<(n2:Int):=by omega
 have j2:(k2:Int)+(m2:Int)<(n2:Int):=by omega
 have j3:(0:Int)≤(k2:Int)+(m2:Int):=by omega
 have j4:((k2:Int)+(m2:Int)).toNat=k2+m2:=by omega
 have w2:IntKind.i64.wrap ((k2:Int)+(m2:Int))=(k2:Int)+(m2:Int):=IntWalk.i64_in _ (by omega);have HQ:=hD (And.intro hp (And.intro hs (And.intro har heq)));have HC:=hD (And.intro c1 (And.intro c2 (And.intro c3 (And.intro c4 (And.intro g1 g2)))));clear hl ht hr hbb c1 c2 c3 c4 g1 g2 hp hs har heq b1 b2 b3 b4 l5 l6 hn1 hn2 hk1 hk2 hz1 hz2
 go_enter Tryz.func209,Tryz.ntmps209
 go_upto_region 1 with (fail)
 refine wp_genGG (fun W=>W.heap[w.heap.size]?=some (.cells #[.int .i64 k1,.int .i64 k2,.int .i64 m1,.int .i64 m2,.int .i64 cw,.int .i64 ch,.int .i64 sk,.int .i64 px,.int .i64 py] 39 (0,0))∧W.heap[w.heap.size+1]?=some (.cells #[.int .i64 0,.int .i64 0,.int .i64 0,.int .i64 0] 32 (0,0))∧Below w.heap.size w W) ⟨(Below.heap_alloc _ _ w.heap.size (by simp)).trans (newS w _),by have:=newS (w.alloc (.cells #[.int .i64 k1,.int .i64 k2,.int .i64 m1,.int .i64 m2,.int .i64 cw,.int .i64 ch,.int .i64 sk,.int .i64 px,.int .i64 py] 39 (0,0))) (.cells #[.int .i64 0,.int .i64 0,.int .i64 0,.int .i64 0] 32 (0,0));rwa [World.size_alloc] at this,balloc (balloc (Below.refl _ _))⟩ (fun w0 h0=>?_)
 obtain ⟨hx,hz,hB⟩:=h0;obtain ⟨c1,c2,c3,c4,g1,g2⟩:=HC.out;obtain ⟨hcw,-⟩:=bcell hB;have x0:=cellS hx 0;have x1:=cellS hx 1;have x2:=cellS hx 2;have x3:=cellS hx 3;have x4:=cellS hx 4;have x5:=cellS hx 5;have x6:=cellS hx 6;have x7:=cellS hx 7;have x8:=cellS hx 8;have d1:=(hcw _ _ hb1).trans c1;have d2:=(hcw _ _ hb1).trans c2;have d3:=(hcw _ _ hb2).trans c3;have d4:=(hcw _ _ hb2).trans c4
 have d5:=(hcw _ _ lx1).trans g1;have d6:=(hcw _ _ lx2).trans g2;have z0:=cellS hz 0;have z1:=cellS hz 1;have z2:=cellS hz 2;have z3:=cellS hz 3;have f0:=frozenS hz 0;have f1:=frozenS hz 1;have f2:=frozenS hz 2;have f3:=frozenS hz 3;have lx:=ltS hx;have lz:=ltS hz;have hsw:=hB.size
 have q1:b1_<w0.heap.size:=by omega
 have q2:b2_<w0.heap.size:=by omega
 have q3:bx1<w0.heap.size:=by omega
 have q4:bx2<w0.heap.size:=by omega
 have HZ:=hD hz;have HB:=hD hB;clear hx hz hB c1 c2 c3 c4 g1 g2 hcw HC
 go_wp2_with fail
 refine wp_region_grow 29 1 (·<29) (by kernel_rfl) (by kernel_rfl) rfl ?_
 iterate 29 (refine wpG_step (fun K hK=>?_);first|(refine grow_skip rfl ?_;go_simp;refine hK _ ?_;clear hK K)|(apply Exists.intro;refine ⟨.inl ⟨rfl,fun w' hw'=>?_⟩,?_⟩;(focus ((obtain ⟨hc,hf⟩:=bcell hw'.out);(have hcS:=bcellS hw'.out);go_simp <;> first | rfl|(go_at_call 155;exact corners_w _ _ _ _ _ hSm)|(go_at_call 210;exact inLines_v ⟨k1,k2,m1,m2,cw,ch,sk,px,py⟩ ⟨l,t,r-l,b-t⟩ _ HQ.out.1 HQ.out.2.1 HQ.out.2.2.1 S HQ.out.2.2.2)));(go_simp;refine hK _ ?_;clear hK K)))
 refine wpG_nil ?_;refine wpK_tail (by kernel_rfl) (fun w8 hg8=>?_);have hb8:=bdrewn hg8.out;obtain ⟨hc8,hf8⟩:=bcell hb8;refine wpAny_one (i:=29) (by kernel_rfl) rfl rfl ?_;go_simp;refine wpAny_end (by kernel_rfl) ?_;refine NoPan.thn ?_;clear hc8 hf8;clear hg8;have hz2:=put4g ((hb8.block _ lz).trans HZ.out) (.int .i64 S.x) (.int .i64 S.y) (.int .i64 S.u) (.int .i64 S.v)
 have hbz:=put4gb (bkeep2 HB.out hb8) (b:=w.heap.size+1) (by omega) (.int .i64 S.x) (.int .i64 S.y) (.int .i64 S.u) (.int .i64 S.v);go_wp2;refine bp_genG (fun W=>W.heap[w.heap.size+1]?=some (.cells #[.int .i64 S.x,.int .i64 S.y,.int .i64 S.u,.int .i64 S.v] 32 (0,0))∧Below w.heap.size w W) ⟨hz2,hbz⟩ ?_;clear x0 x1 x2 x3 x4 x5 x6 x7 x8 d1 d2 d3 d4 d5 d6 z0 z1 z2 z3 f0 f1 f2 f3 hz2 hbz
 rintro W ⟨hq,hbW⟩;have z0:=cellS hq 0;have z1:=cellS hq 1;have z2:=cellS hq 2;have z3:=cellS hq 3;exact bodyPost_ret (v:=.agg #[.int .i64 S.x,.int .i64 S.y,.int .i64 S.u,.int .i64 S.v]) (by simp only [results,Tryz.results209];go_simp) rfl ⟨rfl,hbW⟩
def fitC (S1 S2:List Int) (p:Ce):Prop:=smW p∧(0≤p.sk∧p.sk≤15)∧(0≤p.co∧0≤p.ro∧1≤p.mc∧1≤p.mr)∧p.co+p.mc≤S1.length∧p.ro+p.mr≤S2.length
theorem cellJ_v (p:Ce) (S1 S2:List Int) (B1 B2:Option Addr) (n1 e1 n2 e2 bx1 bx2:Nat) (w:World) (hf:fitC S1 S2 p) (hz1:SzB S1) (hz2:SzB S2) (hn1:n1=S1.length+1) (hn2:n2=S2.length+1)
  (hx1:w.heap[bx1]?=some (.cells #[.slice B1 n1 e1] 47 (0,0))) (hx2:w.heap[bx2]?=some (.cells #[.slice B2 n2 e2] 47 (0,0))) (hv1:NV w B1 (edL S1)) (hv2:NV w B2 (edL S2)) :
  Calls Tryz.prog 209 #[.agg #[.int .i64 p.co,.int .i64 p.ro,.int .i64 p.mc,.int .i64 p.mr,.int .i64 p.cw,.int .i64 p.ch,.int .i64 p.sk,.int .i64 p.px,.int .i64 p.py],.pointer (some ⟨bx1,0,none⟩),.pointer (some ⟨bx2,0,none⟩)] w fun e w'=>e=.returned (.agg #[.int .i64 (cellR S1 S2 p).x,.int .i64 (cellR S1 S2 p).y,.int .i64 (cellR S1 S2 p).u,.int .i64 (cellR S1 S2 p).v])∧Below w.heap.size w w':=by
 obtain ⟨co,ro,mc,mr,cw,ch,sk,px,py⟩:=p;obtain ⟨h1,h2,⟨h3,h4,h5,h6⟩,h7,h8⟩:=hf
 dsimp only at h3 h4 h5 h6 h7 h8
 obtain ⟨k1,rfl⟩:=Int.eq_ofNat_of_zero_le h3;obtain ⟨k2,rfl⟩:=Int.eq_ofNat_of_zero_le h4;obtain ⟨m1,rfl⟩:=Int.eq_ofNat_of_zero_le (show 0≤mc by omega);obtain ⟨m2,rfl⟩:=Int.eq_ofNat_of_zero_le (show 0≤mr by omega);exact cellK_v k1 k2 m1 m2 cw ch sk px py S1 S2 B1 B2 n1 e1 n2 e2 bx1 bx2 _ w h1 h2 (by omega) (by omega) hz1 hz2 hn1 hn2 hx1 hx2 hv1 hv2 rfl
theorem each_rect (A:Option Addr) (c:Nat) (L:List Ce) (S1 S2:List Int) (B1 B2:Option Addr) (n1 e1 n2 e2 bx1 bx2:Nat) (w:World) (h:CeV w A L) (hL:L.length≤1048576) (hsm:∀ p∈L,fitC S1 S2 p) (hz1:SzB S1) (hz2:SzB S2) (hn1:n1=S1.length+1) (hn2:n2=S2.length+1)
  (hx1:w.heap[bx1]?=some (.cells #[.slice B1 n1 e1] 47 (0,0))) (hx2:w.heap[bx2]?=some (.cells #[.slice B2 n2 e2] 47 (0,0))) (hv1:NV w B1 (edL S1)) (hv2:NV w B2 (edL S2)) :
  Calls Tryz.prog 208 #[.slice A L.length c,.func (.func 209) #[] #[.pointer (some ⟨bx1,0,none⟩),.pointer (some ⟨bx2,0,none⟩)]] w fun e w'=>e=.returned (.slice (some ⟨w.heap.size,0,none⟩) L.length L.length)∧ReB w' w.heap.size (L.map (cellR S1 S2))∧Below w.heap.size w w':=by
 obtain ⟨f,hf,hmk0⟩:=madeRe
 have hmk:∀ w:World,(Instr.makeSlice 28 (.int .i64 (L.length:Int)) (.int .i64 (L.length:Int))).run Tryz.prog w=.ok (.slice (some ⟨w.heap.size,0,none⟩) L.length L.length) (w.alloc (.cells (f L.length) 32)):=fun w=>hmk0 L.length w hL
 have HSM:=hD hsm;have HZZ:=hD (And.intro hz1 (And.intro hz2 (And.intro hn1 hn2)));have HX1:=hD hx1;have HX2:=hD hx2;have HW1:=hD hv1;have HW2:=hD hv2;clear hz1 hz2 hn1 hn2 hx1 hx2 hv1 hv2
 go_enter Tryz.func208,Tryz.ntmps208
 go_wp2_with fail
 have HWW:Hid (∃ cs:Array Value,(w.alloc (.cells (f L.length) 32)).heap[w.heap.size]?=some (.cells cs 32 (0,0))∧cs.size=L.length*4∧∀ i p,i<0→(L.map (cellR S1 S2))[i]?=some p→InS cs (i*4) (valsRe p)):=hD ⟨_,newS _ _,hf _,fun i p hi=>absurd hi (by omega)⟩;clear hmk hmk0 hf hsm
 go_loopw [13] (fun i wr=>∃ k:Nat,k≤L.length∧i=.int .i64 k∧(∃ cs:Array Value,wr.heap[w.heap.size]?=some (.cells cs 32 (0,0))∧cs.size=L.length*4∧∀ i p,i<k→(L.map (cellR S1 S2))[i]?=some p→InS cs (i*4) (valsRe p))∧Below w.heap.size w wr) (fun i _=>L.length-(intOf i).toNat)
 case atStart=>exact ⟨0,by omega,rfl,HWW.out,balloc (Below.refl _ _)⟩
 case round =>
  obtain ⟨k,hk,rfl,⟨cs,hh,hs,hc⟩,hB⟩:=hrel;clear HWW
  by_cases hlt:k<L.length
  ·have hd:decide ((k:Int)<(L.length:Int))=true:=by simpa using hlt
   obtain ⟨b,off,rfl,hb,hp⟩:=(h.keep hB).cells (by omega);have hget:L[k]?=some L[k]:=List.getElem?_eq_getElem hlt;obtain ⟨c0,c1,c2,c3,c4,c5,c6,c7,c8⟩:=hp k _ hget;have hsk:fitC S1 S2 L[k]:=HSM.out _ (List.getElem_mem hlt);generalize hx:L[k]=p at *;have HG:=hD (show (L.map (cellR S1 S2))[k]?=some (cellR S1 S2 p) by rw [List.getElem?_map,hget];rfl);have HH:=hD hh;have HS:=hD hs;have HC:=hD hc
   have HBB:=hD hB;have HK:=hD hsk;clear hget hx hh hs hc hB hp hsk
   go_wp2_with fail
   have hbn:Below w.heap.size w (wr.alloc (.cells #[.int .i64 p.co,.int .i64 p.ro,.int .i64 p.mc,.int .i64 p.mr,.int .i64 p.cw,.int .i64 p.ch,.int .i64 p.sk,.int .i64 p.px,.int .i64 p.py] 39)):=balloc HBB.out
   with_reducible refine (cellJ_v p S1 S2 B1 B2 n1 e1 n2 e2 bx1 bx2 _ HK.out HZZ.out.1 HZZ.out.2.1 HZZ.out.2.2.1 HZZ.out.2.2.2 ((hbn.block _ (ltS HX1.out)).trans HX1.out) ((hbn.block _ (ltS HX2.out)).trans HX2.out) (HW1.out.keep hbn) (HW2.out.keep hbn)).mono ?_
   rintro e w1 ⟨rfl,hb1⟩;have hlg:w.heap.size<wr.heap.size:=ltS HH.out;have hb01:=bkeep2 (balloc (Below.refl wr.heap.size wr)) hb1;replace HH:=hD ((hb01.block _ hlg).trans HH.out);replace HBB:=hD (HBB.out.trans (hb01.mono HBB.out.size));clear hbn hb1 hb01 c0 c1 c2 c3 c4 c5 c6 c7 c8 hlg
   have hsz:k*4+4≤cs.size:=by rw [HS.out];omega
   obtain ⟨y0,d0⟩:=thereS HH.out (i:=k*4) (by omega);obtain ⟨y1,d1⟩:=thereS HH.out (i:=k*4+1) (by omega);obtain ⟨y2,d2⟩:=thereS HH.out (i:=k*4+2) (by omega);obtain ⟨y3,d3⟩:=thereS HH.out (i:=k*4+3) (by omega);have f0:=frozenS HH.out (k*4);have f1:=frozenS HH.out (k*4+1);have f2:=frozenS HH.out (k*4+2);have f3:=frozenS HH.out (k*4+3);have E1:=hD (putRe HH.out (k*4) (cellR S1 S2 p))
   have E2:=hD (putReb HBB.out (Nat.le_refl _) (k*4) (cellR S1 S2 p));go_wp2
   go_roundw
   case rel=>exact ⟨k+1,by omega,by go_num,⟨_,E1.out,(wrAt_size _ _ _).trans HS.out,fun i q hi hq=>by
    by_cases e:i=k
    ·subst e
     obtain rfl:(cellR S1 S2 p)=q:=by have:=HG.out;rw [this] at hq;exact Option.some.inj hq
     exact InS.write (by simp only [valsRe,List.length_cons,List.length_nil];omega)
    ·exact (HC.out i q (by omega) hq).keepS (.inl (by simp only [valsRe,List.length_cons,List.length_nil];omega))⟩,E2.out⟩
   case measure=>simp [intOf];omega
  ·have hd:decide ((k:Int)<(L.length:Int))=false:=decide_eq_false (by omega)
   obtain rfl:k=L.length:=by omega
   have HR:=hD (show ReB wr w.heap.size (L.map (cellR S1 S2)) from ⟨cs,hh,by rw [List.length_map];exact hs,fun i p hp=>hc i p (by have:=(List.getElem?_eq_some_iff.1 hp).1;rwa [List.length_map] at this) hp⟩);have HBB:=hD hB;clear hh hs hc hB;go_wp2;go_ret;exact ⟨rfl,HR.out,HBB.out⟩
theorem fit_ofW {L1 L2:List Ln} {L3:List Ce} {S1 S2:List Int} (hg:GW L1 L2 L3) (h1:S1.length=L1.length) (h2:S2.length=L2.length):∀ p∈L3,fitC S1 S2 p:=fun p hp=>by
 have hs:=hg.hsm p hp;obtain ⟨a,b,c⟩:=hg.hin p hp;exact ⟨hs,c,by omega,by omega,by omega⟩
theorem gridRects_w (A1:Option Addr) (c1:Nat) (L1:List Ln) (A2:Option Addr) (c2:Nat) (L2:List Ln) (A3:Option Addr) (c3:Nat) (L3:List Ce) (u v:Int) (w:World) (h1:LnV w A1 L1) (h2:LnV w A2 L2) (h3:CeV w A3 L3) (gf:GW L1 L2 L3) (hu:rqW u v=true) :
  Calls Tryz.prog 206 #[.agg #[.slice A1 L1.length c1,.slice A2 L2.length c2,.slice A3 L3.length c3],.int .i64 u,.int .i64 v] w fun e w'=>(∃ g,e=.returned (.slice (some ⟨g,0,none⟩) L3.length L3.length)∧w.heap.size≤g∧ReB w' g (L3.map (cellR (sizedM L1 (L3.map acM) u) (sizedM L2 (L3.map dnM) v))))∧Below w.heap.size w w':=by
 obtain ⟨⟨u0,u1⟩,⟨y0,y1⟩⟩:=rqW_iff.1 hu;have q1:=sizedM_lenW (room:=u) gf.v1 gf.s1 u0 u1;have q2:=sizedM_lenW (room:=v) gf.v2 gf.s2 y0 y1;have HFT:=hD (fit_ofW gf q1 q2);have HZ1:=hD (SzB.of gf.v1 gf.s1 u0 u1);have HZ2:=hD (SzB.of gf.v2 gf.s2 y0 y1);have HQ:=hD (And.intro q1 q2);have hl8:=gf.hl8;have HG:=hD (And.intro gf hu)
 have hB0:Below w.heap.size w (w.alloc (.cells #[.slice A1 L1.length c1,.slice A2 L2.length c2,.slice A3 L3.length c3] 128 (0,0))):=balloc (Below.refl _ _);have HX:=hD (newS w (.cells #[.slice A1 L1.length c1,.slice A2 L2.length c2,.slice A3 L3.length c3] 128 (0,0)));have HV1:=hD (h1.keep hB0);have HV2:=hD (h2.keep hB0);have HV3:=hD (h3.keep hB0);have HB:=hD hB0;clear hB0 h1 h2 h3 gf hu q1 q2
 go_enter Tryz.func206,Tryz.ntmps206
 go_wp2_with fail
 with_reducible refine (edges_w A1 c1 L1 A2 c2 L2 A3 c3 L3 u v _ HV1.out HV2.out HV3.out HG.out.1 HG.out.2).mono ?_
 rintro e w1 ⟨⟨B1,e1,B2,e2,rfl,hi1,hi2⟩,hb⟩;replace HX:=hbk hb HX;replace HV3:=hD (HV3.out.keep hb);replace HB:=hD (bkeep2 HB.out hb);clear hb;have HI1:=hD hi1;have HI2:=hD hi2;clear hi1 hi2
 go_upto_region 2 with (fail)
 refine wp_genGG (fun W=>W.heap[w1.heap.size]?=some (.cells #[.slice B1 (L1.length+1) e1] 47 (0,0))∧W.heap[w1.heap.size+1]?=some (.cells #[.slice B2 (L2.length+1) e2] 47 (0,0))∧Below w1.heap.size w1 W) ?hw (fun w2 h2=>?_)
 case hw =>
  exact ⟨(Below.heap_alloc _ _ _ (by simp)).trans (newS _ _),by have:=newS (w1.alloc (.cells #[.slice B1 (L1.length+1) e1] 47 (0,0))) (.cells #[.slice B2 (L2.length+1) e2] 47 (0,0));rwa [World.size_alloc] at this,balloc (balloc (Below.refl _ _))⟩
 obtain ⟨hx1,hx2,hb2⟩:=h2;replace HX:=hbk hb2 HX;replace HV3:=hD (HV3.out.keep hb2);replace HI1:=hD (HI1.out.keep hb2);replace HI2:=hD (HI2.out.keep hb2);replace HB:=hD (bkeep2 HB.out hb2);clear hb2;have HX1:=hD hx1;have HX2:=hD hx2;clear hx1 hx2;have d2:=cellS HX.out 2
 go_wp2_with fail
 with_reducible refine (each_rect A3 c3 L3 _ _ B1 B2 (L1.length+1) e1 (L2.length+1) e2 w1.heap.size (w1.heap.size+1) _ HV3.out (by omega) HFT.out HZ1.out HZ2.out (by rw [HQ.out.1]) (by rw [HQ.out.2]) HX1.out HX2.out HI1.out HI2.out).mono ?_
 rintro e w3 ⟨rfl,hr,hb3⟩;have hsz:=HB.out.size;clear d2;replace HX:=hbk hb3 HX;replace HB:=hD (bkeep2 HB.out hb3);clear hb3;have HR:=hD hr;clear hr;go_wp2;go_ret;exact ⟨⟨_,rfl,hsz,HR.out⟩,HB.out⟩
def ReR (w:World) (x:Value) (M:List Re):Prop:=∃ A c,x=.slice A M.length c∧ReV w A M
theorem ReR.keep {w w':World} {x:Value} {M:List Re} (h:ReR w x M) (hb:Below w.heap.size w w'):ReR w' x M:=let ⟨A,c,e,n⟩:=h;⟨A,c,e,n.keep hb⟩
end
theorem reB_blk {w:World} {g:Nat} {M:List Rc} (h:Blk4 w g M):ReB w g (M.map rcRe):=by
 obtain ⟨cs,hh,hs,hc⟩:=h;refine ⟨cs,hh,by rw [hs,List.length_map],fun i p hp=>?_⟩;rw [List.getElem?_map] at hp;obtain ⟨r,hr,rfl⟩:=Option.map_eq_some_iff.1 hp;intro j u hj;have hj4:j<4:=(List.getElem?_eq_some_iff.1 hj).1;rw [hc i r hr j hj4];exact hj
theorem reB_rbk {w:World} {g:Nat} {M:List Re} (h:RbK 4 w g 32 (M.map valsRe)):ReB w g M:=by
 obtain ⟨cs,hh,hs,hc⟩:=h;rw [List.length_map] at hs;exact ⟨cs,hh,hs,fun i p hp=>hc i (valsRe p) (by rw [List.length_map];exact (List.getElem?_eq_some_iff.1 hp).1) (by rw [List.getElem?_map,hp];rfl)⟩
theorem pkRects_v (A:Option Addr) (c n:Nat) (L:List Pk) (u v:Int) (w:World) (h:PV w A L) (hn:n=L.length) (hcap:L.length≤c) (hL:bgL L) (hq:rqW u v=true) :
  Calls Tryz.prog 234 #[.slice A n c,.int .i64 u,.int .i64 v] w fun e w'=>(∃ g,e=.returned (.slice (some ⟨g,0,none⟩) n n)∧w.heap.size≤g∧ReB w' g ((setL L (parcM L ⟨0,0,u,v⟩).1).map rcRe))∧Below w.heap.size w w':=by
 subst hn;obtain ⟨q1,q2⟩:=rqW_iff.1 hq
 have hz:(⟨0,0,u,v⟩:Rc).okW:=by unfold Rc.okW;dsimp only;omega
 obtain ⟨M,Z,hM⟩:∃ M Z,parcM L ⟨0,0,u,v⟩=(M,Z):=⟨_,_,rfl⟩
 rw [show (parcM L ⟨0,0,u,v⟩).1=M from by rw [hM]];have HP:=hD (packRects_w A c L ⟨0,0,u,v⟩ w h hcap hL hz M Z hM);clear h hcap hL hq hz hM q1 q2
 go_enter Tryz.func234,Tryz.ntmps234
 go_wp2_with fail
 refine HP.out.mono ?_;rintro e w1 ⟨⟨g,rfl,hg,hk⟩,hb⟩;have HK:=hD (reB_blk hk);have HB:=hD hb;clear hk hb;go_wp2;go_ret;exact ⟨⟨g,rfl,hg,HK.out⟩,HB.out⟩
theorem grRects_v (A1:Option Addr) (c1:Nat) (L1:List Ln) (A2:Option Addr) (c2:Nat) (L2:List Ln) (A3:Option Addr) (c3 n3:Nat) (L3:List Ce) (u v:Int) (w:World) (h1:LnV w A1 L1) (h2:LnV w A2 L2) (h3:CeV w A3 L3) (hn:n3=L3.length) (gf:GW L1 L2 L3) (hq:rqW u v=true) :
  Calls Tryz.prog 204 #[.agg #[.slice A1 L1.length c1,.slice A2 L2.length c2,.slice A3 n3 c3],.int .i64 u,.int .i64 v] w fun e w'=>(∃ g,e=.returned (.slice (some ⟨g,0,none⟩) n3 n3)∧w.heap.size≤g∧ReB w' g (L3.map (cellR (sizedM L1 (L3.map acM) u) (sizedM L2 (L3.map dnM) v))))∧Below w.heap.size w w':=by
 subst hn;have hB0:Below w.heap.size w (w.alloc (.cells #[.slice A1 L1.length c1,.slice A2 L2.length c2,.slice A3 L3.length c3] 149 (0,0))):=balloc (Below.refl _ _);have HG:=hD (gridRects_w A1 c1 L1 A2 c2 L2 A3 c3 L3 u v _ (h1.keep hB0) (h2.keep hB0) (h3.keep hB0) gf hq);have HX:=hD (newS w (.cells #[.slice A1 L1.length c1,.slice A2 L2.length c2,.slice A3 L3.length c3] 149 (0,0)))
 have d0:=cellS HX.out 0;have d1:=cellS HX.out 1;have d2:=cellS HX.out 2;clear hB0 h1 h2 h3 gf hq
 go_enter Tryz.func204,Tryz.ntmps204
 go_wp2_with fail
 refine HG.out.mono ?_;rintro e w1 ⟨⟨g,rfl,hg,hr⟩,hb⟩;have HB:=hD (bkeep2 (balloc (Below.refl w.heap.size w)) hb);have HR:=hD hr
 have hg2:w.heap.size≤g:=by simp only [World.size_alloc] at hg;omega
 clear hr hb d0 d1 d2 HX HG;go_wp2;go_ret;exact ⟨⟨g,rfl,hg2,HR.out⟩,HB.out⟩
theorem plr1_v (p:Plc) (u v:Int) (b1 b2:Nat) (w:World) (hp:plB p=true) (hq:rqW u v=true) (h1:w.cell? ⟨b1,0,none⟩=some (.int .i64 u)) (h2:w.cell? ⟨b2,0,none⟩=some (.int .i64 v)) (l1:b1<w.heap.size) (l2:b2<w.heap.size) :
  Calls Tryz.prog 229 #[.agg #[.int .i64 p.x,.int .i64 p.y,.int .i64 p.rx,.int .i64 p.ry,.int .i64 p.ww,.int .i64 p.hh,.int .i64 p.qw,.int .i64 p.qh,.int .i64 p.an],.pointer (some ⟨b1,0,none⟩),.pointer (some ⟨b2,0,none⟩)] w fun e w'=>e=.returned (.agg #[.int .i64 (xM p u),.int .i64 (yM p v),.int .i64 (wM p u),.int .i64 (hM p v)])∧Below w.heap.size w w':=by
 have HPR:=hD (fun W=>placeRect_w p u v W hp hq);have HC:=hD (And.intro h1 h2);clear hp hq h1 h2
 go_enter Tryz.func229,Tryz.ntmps229
 go_upto_region 1 with (fail)
 refine wp_genGG (fun W=>W.heap[w.heap.size]?=some (.cells #[.int .i64 p.x,.int .i64 p.y,.int .i64 p.rx,.int .i64 p.ry,.int .i64 p.ww,.int .i64 p.hh,.int .i64 p.qw,.int .i64 p.qh,.int .i64 p.an] 41 (0,0))∧W.heap[w.heap.size+1]?=some (.cells #[.int .i64 0,.int .i64 0,.int .i64 0,.int .i64 0] 32 (0,0))∧Below w.heap.size w W) ⟨(Below.heap_alloc _ _ w.heap.size (by simp)).trans (newS w _),newS1T w _ _,balloc (balloc (Below.refl _ _))⟩ (fun W0 h0=>?_)
 obtain ⟨hx,hz,hB⟩:=h0;obtain ⟨c0,c1,c2,c3,c4,c5,c6,c7,c8⟩:=c9_q hx;have d1:=(hB.cell (p:=⟨b1,0,none⟩) l1).trans HC.out.1;have d2:=(hB.cell (p:=⟨b2,0,none⟩) l2).trans HC.out.2;have lx:=ltS hx;have HZ:=hD hz;have HB:=hD hB;have k1:b1<W0.heap.size:=Nat.lt_of_lt_of_le l1 hB.size;have k2:b2<W0.heap.size:=Nat.lt_of_lt_of_le l2 hB.size;clear hx hz hB
 go_wp2_with fail
 refine (HPR.out _).mono ?_;rintro e w1 ⟨rfl,hb1⟩;clear c0 c1 c2 c3 c4 c5 c6 c7 c8 d1 d2 lx k1 k2;replace HZ:=hbk hb1 HZ;replace HB:=hD (bkeep2 HB.out hb1);clear hb1;have z0:=cellS HZ.out 0;have z1:=cellS HZ.out 1;have z2:=cellS HZ.out 2;have z3:=cellS HZ.out 3;have f0:=frozenS HZ.out 0;have f1:=frozenS HZ.out 1;have f2:=frozenS HZ.out 2;have f3:=frozenS HZ.out 3;have lz:=ltS HZ.out
 obtain ⟨x0,e0⟩:∃ z,xM p u=z:=⟨_,rfl⟩
 obtain ⟨y0,e1⟩:∃ z,yM p v=z:=⟨_,rfl⟩
 obtain ⟨u0,e2⟩:∃ z,wM p u=z:=⟨_,rfl⟩
 obtain ⟨v0,e3⟩:∃ z,hM p v=z:=⟨_,rfl⟩
 rw [e0,e1,e2,e3];have HE:=hD (And.intro e0 (And.intro e1 (And.intro e2 e3)));clear e0 e1 e2 e3;go_wp2;refine bp_genG (fun W=>W.heap[w.heap.size+1]?=some (.cells #[.int .i64 x0,.int .i64 y0,.int .i64 u0,.int .i64 v0] 32 (0,0))∧Below w.heap.size w W) ⟨put4g HZ.out _ _ _ _,put4gb HB.out (by omega) _ _ _ _⟩ ?_;clear z0 z1 z2 z3 f0 f1 f2 f3 lz;rintro W ⟨hp,hbW⟩;have z0:=cellS hp 0;have z1:=cellS hp 1
 have z2:=cellS hp 2;have z3:=cellS hp 3;exact bodyPost_ret (v:=.agg #[.int .i64 x0,.int .i64 y0,.int .i64 u0,.int .i64 v0]) (by simp only [results,Tryz.results229];go_simp) rfl ⟨by rw [HE.out.1,HE.out.2.1,HE.out.2.2.1,HE.out.2.2.2],hbW⟩
def iV (v:Value):Int:=intOf v
def plOf (vs:List Value):Plc:=⟨iV (gd vs 0),iV (gd vs 1),iV (gd vs 2),iV (gd vs 3),iV (gd vs 4),iV (gd vs 5),iV (gd vs 6),iV (gd vs 7),iV (gd vs 8)⟩
theorem valsRe_one2 (r:Re):one (valsRe r):=by
 intro v hv;simp only [valsRe,List.mem_cons,List.not_mem_nil,or_false] at hv
 rcases hv with rfl | rfl | rfl | rfl <;> rfl
theorem each_prL (A:Option Addr) (c n:Nat) (L:List Plc) (u v:Int) (b1 b2:Nat) (w:World) (h:RvK 9 w A (L.map valsPl)) (hn:n=L.length) (hl:n≤1048576) (hp:∀ p∈L,plB p=true) (hq:rqW u v=true) (h1:w.cell? ⟨b1,0,none⟩=some (.int .i64 u)) (h2:w.cell? ⟨b2,0,none⟩=some (.int .i64 v)) (l1:b1<w.heap.size) (l2:b2<w.heap.size) :
  Calls Tryz.prog 228 #[.slice A n c,.func (.func 229) #[] #[.pointer (some ⟨b1,0,none⟩),.pointer (some ⟨b2,0,none⟩)]] w fun e w'=>e=.returned (.slice (some ⟨w.heap.size,0,none⟩) n n)∧ReB w' w.heap.size (L.map (plR u v))∧Below w.heap.size w w':=by
 have e:(L.map valsPl).length=n:=by simp [hn]
 rw [<- e]
 refine (each_pr A c (L.map valsPl) (fun vs=>valsRe (plR u v (plOf vs))) #[.pointer (some ⟨b1,0,none⟩),.pointer (some ⟨b2,0,none⟩)] w h (fun vs hv=>by obtain ⟨p,_,rfl⟩:=List.mem_map.1 hv;exact ⟨rfl,valsPl_one p⟩) (by rw [e];exact hl) (fun vs hv=>⟨rfl,valsRe_one2 _⟩) (fun vs hv W hW=>by
  obtain ⟨p,hm,rfl⟩:=List.mem_map.1 hv
  exact plr1_v p u v b1 b2 W (hp p hm) hq ((hW.cell (p:=⟨b1,0,none⟩) l1).trans h1) ((hW.cell (p:=⟨b2,0,none⟩) l2).trans h2) (Nat.lt_of_lt_of_le l1 hW.size) (Nat.lt_of_lt_of_le l2 hW.size))).mono ?_
 rintro e w1 ⟨rfl,hr,hb⟩;rw [List.map_map] at hr;refine ⟨rfl,reB_rbk ?_,hb⟩;rw [List.map_map];exact hr
theorem plRects_v (A:Option Addr) (c n:Nat) (L:List Plc) (u v:Int) (w:World) (h:RvK 9 w A (L.map valsPl)) (hn:n=L.length) (hl:n≤1048576) (hp:∀ p∈L,plB p=true) (hq:rqW u v=true) :
  Calls Tryz.prog 226 #[.slice A n c,.int .i64 u,.int .i64 v] w fun e w'=>(∃ g,e=.returned (.slice (some ⟨g,0,none⟩) n n)∧w.heap.size≤g∧ReB w' g (L.map (plR u v)))∧Below w.heap.size w w':=by
 have HE:=hD (fun (W:World) b1 b2 (hW:Below w.heap.size w W)=>each_prL A c n L u v b1 b2 W (h.keep hW) hn hl hp hq);clear h hn hp hq
 go_enter Tryz.func226,Tryz.ntmps226
 go_upto_region 1 with (fail)
 refine wp_genGG (fun W=>W.heap[w.heap.size]?=some (.cells #[.int .i64 u] 3 (0,0))∧W.heap[w.heap.size+1]?=some (.cells #[.int .i64 v] 3 (0,0))∧Below w.heap.size w W) ⟨(Below.heap_alloc _ _ w.heap.size (by simp)).trans (newS w _),newS1T w _ _,balloc (balloc (Below.refl _ _))⟩ (fun W0 h0=>?_);obtain ⟨hx,hz,hB⟩:=h0;have HC:=hD (HE.out W0 _ _ hB (cellS hx 0) (cellS hz 0) (ltS hx) (ltS hz))
 have HB:=hD hB;clear hx hz hB HE
 go_wp2_with fail
 refine HC.out.mono ?_;rintro e w1 ⟨rfl,hr,hb⟩;have hs:=HB.out.size;have HR:=hD hr;clear hr HC;replace HB:=hD (bkeep2 HB.out hb);clear hb;go_wp2;go_ret;exact ⟨⟨_,rfl,hs,HR.out⟩,HB.out⟩
theorem ncr_pk (v:Value) (w:World):(nilAhead (Tryz.prog.types.size+Made.depth) 155 v "loop.example/widgetroom/impl.rects").run Tryz.prog w=.ok (some false) w:=by kernel_rfl
theorem ncr_gr (v:Value) (w:World):(nilAhead (Tryz.prog.types.size+Made.depth) 149 v "loop.example/widgetroom/impl.rects").run Tryz.prog w=.ok (some false) w:=by kernel_rfl
theorem ncr_pl (v:Value) (w:World):(nilAhead (Tryz.prog.types.size+Made.depth) 151 v "loop.example/widgetroom/impl.rects").run Tryz.prog w=.ok (some false) w:=by kernel_rfl
theorem cmr_pk (v a b:Value) (w:World):(callMethod (.iface 155 v) "loop.example/widgetroom/impl.rects" #[a,b]).run Tryz.prog w=.ok (.enter 234 #[v,a,b]) w:=by kernel_rfl
theorem cmr_gr (v a b:Value) (w:World):(callMethod (.iface 149 v) "loop.example/widgetroom/impl.rects" #[a,b]).run Tryz.prog w=.ok (.enter 204 #[v,a,b]) w:=by kernel_rfl
theorem cmr_pl (v a b:Value) (w:World):(callMethod (.iface 151 v) "loop.example/widgetroom/impl.rects" #[a,b]).run Tryz.prog w=.ok (.enter 226 #[v,a,b]) w:=by kernel_rfl
theorem run_inv2 {P:Program} {ρ:Operand→Value} {o:Oper} {w:World} {T:TypeId} {v u1 u2:Value} {x y z:Operand} {name:String} {ts:Array TypeId} {F:FuncId} (ho:o.op=.call { callee:=.invoke x name,args:=#[y,z],argTypes:=ts }) (hx:ρ x=.iface T v) (hy:ρ y=u1) (hz:ρ z=u2) (hc:(callMethod (.iface T v) name #[u1,u2]).run P w=.ok (.enter F #[v,u1,u2]) w):(execOp ρ o).run P w=.ok (.enter F #[v,u1,u2]) w:=by
 unfold execOp;simp only [ho,resolve,List.map_toArray,List.map_cons,List.map_nil,hx,hy,hz,Sem.run_bind,Sem.run_pure,Result.andThen_ok,invoke]
 simpa using hc
def arM (n:Nd) (Y:List Wd) (a b:Int):List Re :=
 if n.ki=1 then (Y.map ceW).map (cellR (sizedM n.cs ((Y.map ceW).map acM) a) (sizedM n.rs ((Y.map ceW).map dnM) b))
 else if n.ki=2 then (Y.map fun y=>y.p.n.pl).map (plR a b)
 else (setL (Y.map pkW) (parcM (Y.map pkW) ⟨0,0,a,b⟩).1).map rcRe
theorem arRects {v:Value} {x:Wd} {p:Nr} {Y:List Wd} {w:World} {a b:Int} (h:ArV w v x Y) (hx:x.p=p) (hr:RdN w p) (hl:Y.length≤10) (hq:rqW a b=true)
  (c0:p.n.ki≠1→p.n.ki≠2→bgL (Y.map pkW)) (c1:p.n.ki=1→GW p.n.cs p.n.rs (Y.map ceW)) (c2:∀ y∈Y,plB y.p.n.pl=true) :
  ∃ T u F,v=.iface T u∧(nilAhead (Tryz.prog.types.size+Made.depth) T u "loop.example/widgetroom/impl.rects").run Tryz.prog w=.ok (some false) w ∧
   (∀ y z w,(callMethod (.iface T u) "loop.example/widgetroom/impl.rects" #[y,z]).run Tryz.prog w=.ok (.enter F #[u,y,z]) w) ∧
   Calls Tryz.prog F #[u,.int .i64 a,.int .i64 b] w fun e w'=>(∃ g,e=.returned (.slice (some ⟨g,0,none⟩) Y.length Y.length)∧w.heap.size≤g∧ReB w' g (arM p.n Y a b))∧Below w.heap.size w w':=by
 subst hx;obtain ⟨g,hg,⟨k1,rfl,hv⟩ | ⟨k1,rfl,hv⟩ | ⟨k1,k2,rfl,hv⟩⟩:=h
 ·refine ⟨_,_,_,rfl,ncr_gr _ _,fun _ _ _=>cmr_gr _ _ _ _,?_⟩;unfold arM;rw [if_pos k1];exact grRects_v _ _ _ _ _ _ _ _ _ (Y.map ceW) a b w hr.c hr.r (cev_of (by rw [List.map_map];exact hv)) (by rw [List.length_map]) (c1 k1) hq
 ·refine ⟨_,_,_,rfl,ncr_pl _ _,fun _ _ _=>cmr_pl _ _ _ _,?_⟩;unfold arM;rw [if_neg (by omega),if_pos k1];exact plRects_v _ _ _ (Y.map fun y=>y.p.n.pl) a b w (by rw [List.map_map];exact hv) (by rw [List.length_map]) (by omega) (fun q hq=>by obtain ⟨y,hy,rfl⟩:=List.mem_map.1 hq;exact c2 y hy) hq
 ·refine ⟨_,_,_,rfl,ncr_pk _ _,fun _ _ _=>cmr_pk _ _ _ _,?_⟩;unfold arM;rw [if_neg k1,if_neg k2];exact pkRects_v _ _ _ (Y.map pkW) a b w (pv_of (by rw [List.map_map];exact hv)) (by rw [List.length_map]) (by rw [List.length_map];exact Nat.le_refl _) (c0 k1 k2) hq
def MrV (w:World) (v:Value) (x:Wd) (Y:List Wd):Prop:=∃ u,v=.func (.method "loop.example/widgetroom/impl.rects") #[u] #[]∧ArV w u x Y
theorem MrV.keep {w w':World} {v:Value} {x:Wd} {Y:List Wd} (h:MrV w v x Y) (hb:Below w.heap.size w w'):MrV w' v x Y:=let ⟨u,e,k⟩:=h;⟨u,e,k.keep hb⟩
theorem pick_pl {R:List Nr} {X:List Wd}:∀ {ks:List Nat},(∀ k∈ks,∃ y p,X[k]?=some y∧R[k]?=some p∧y.p=p)→(pickW X ks).map (fun y=>y.p.n.pl)=plsF (R.map Nr.n) ks
 | [],_=>rfl
 | k :: t,h=>by
  obtain ⟨y,p,h1,h2,h3⟩:=h k (List.mem_cons_self ..)
  have ih:=pick_pl (X:=X) (R:=R) (ks:=t) fun k hk=>h k (List.mem_cons_of_mem _ hk)
  have e:(R.map Nr.n)[k]?=some p.n:=by rw [List.getElem?_map,h2];rfl
  unfold pickW at ih ⊢;unfold plsF at ih ⊢;rw [List.filterMap_cons_some (b:=y) h1,List.filterMap_cons_some (b:=p.n.pl) (by rw [e];rfl),List.map_cons,ih,h3]
theorem arM_eq {L:List Nd} {i:Nat} {n:Nd} {Y:List Wd} (a b:Int) (h1:Y.map pkW=pksF L (szM L) (kidD L i)) (h2:Y.map ceW=cesF L (szM L) (kidD L i)) (h3:Y.map (fun y=>y.p.n.pl)=plsF L (kidD L i)):arM n Y a b=kidR0 L i n a b:=by
 unfold arM kidR0;rw [h1,h2,h3]
def QrV (lo:Nat) (w:World) (v:Value) (n:Nat) (M:List Re):Prop:=∃ g,v=.slice (some ⟨g,0,none⟩) n n∧lo≤g∧ReB w g M
theorem QrV.keep {lo:Nat} {w w':World} {v:Value} {n:Nat} {M:List Re} (h:QrV lo w v n M) (hb:Below w.heap.size w w'):QrV lo w' v n M:=let ⟨g,e,hl,k⟩:=h;⟨g,e,hl,k.keep hb⟩
theorem moved_w (x y u v p q:Int) (w:World) (h1:-1000000000000000≤x∧x≤1000000000000000) (h2:-1000000000000000≤y∧y≤1000000000000000) (h3:-1000000000000000≤p∧p≤1000000000000000) (h4:-1000000000000000≤q∧q≤1000000000000000):Calls Tryz.prog 100 #[.agg #[.int .i64 (x),.int .i64 (y),.int .i64 (u),.int .i64 (v)],.int .i64 p,.int .i64 q] w fun e w'=>e=.returned (.agg #[.int .i64 (x+p),.int .i64 (y+q),.int .i64 (u),.int .i64 (v)])∧Below w.heap.size w w':=by
 have e1:IntKind.i64.wrap (x+p)=x+p:=IntWalk.i64_in _ (by omega);have e2:IntKind.i64.wrap (y+q)=y+q:=IntWalk.i64_in _ (by omega);obtain ⟨a1,a2⟩:=h1;obtain ⟨a3,a4⟩:=h2;obtain ⟨b1,b2⟩:=h3;obtain ⟨b3,b4⟩:=h4
 go_enter Tryz.func100,Tryz.ntmps100
 go_wp2
 exact bodyPost_ret (v:=.agg #[.int .i64 (x+p),.int .i64 (y+q),.int .i64 (u),.int .i64 (v)]) (by simp only [results,Tryz.results100];go_simp) rfl ⟨rfl,(by repeat (first | with_reducible exact Below.refl _ _ | with_reducible assumption | with_reducible refine balloc ?_|(with_reducible refine bset ?_ ?_;rotate_left;((try dsimp only);omega)) | refine bkeep2 ?_ (by assumption) | with_reducible refine Below.drew ?_))⟩
end Go.Proofs.YtfnpdlnepjhljaaGreat
