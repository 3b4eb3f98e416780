import Derived.Test.YtenckjdiggaonaaGreatQu18
set_option linter.unusedVariables false
set_option linter.unusedSimpArgs false
set_option maxRecDepth 100000
set_option maxHeartbeats 16000000
namespace Go.Proofs.YtenckjdiggaonaaGreat
open Go.RowKit
attribute [local go_sem] growUpon_value growUpon_skip growUpon_enter
section
attribute [local go_sem 5000] run_mx run_mn run_eqlR run_neqR
def vrW (x y w h:Int):Bool:=decide (0≤w∧w≤20000000000000∧0≤h∧h≤20000000000000∧-1000000000000000≤x∧x+w≤1000000000000000∧-1000000000000000≤y∧y+h≤1000000000000000)
theorem vrW_iff {x y w h:Int}:vrW x y w h=true ↔ (0≤w∧w≤20000000000000∧0≤h∧h≤20000000000000∧-1000000000000000≤x∧x+w≤1000000000000000∧-1000000000000000≤y∧y+h≤1000000000000000):=by simp [vrW]
theorem Rc.okW_vr {r:Rc} (h:r.okW):vrW r.x r.y r.u r.v=true:=by
 obtain ⟨⟨⟨a1,a2⟩,a3,a4⟩,⟨a5,a6⟩,a7,a8⟩:=h;exact vrW_iff.2 ⟨a5,a6,a7,a8,a1,a2,a3,a4⟩
def SmW (a b c d:Int):Prop:=(-8000000000000000≤a∧a≤8000000000000000)∧(-8000000000000000≤b∧b≤8000000000000000)∧(-8000000000000000≤c∧c≤8000000000000000)∧(-8000000000000000≤d∧d≤8000000000000000)
theorem SmW_of {a b c d:Int} (h:(-8000000000000000≤a∧a≤8000000000000000)∧(-8000000000000000≤b∧b≤8000000000000000)∧(-8000000000000000≤c∧c≤8000000000000000)∧(-8000000000000000≤d∧d≤8000000000000000)):SmW a b c d:=h
theorem SmW.out {a b c d:Int} (h:SmW a b c d):(-8000000000000000≤a∧a≤8000000000000000)∧(-8000000000000000≤b∧b≤8000000000000000)∧(-8000000000000000≤c∧c≤8000000000000000)∧(-8000000000000000≤d∧d≤8000000000000000):=h
theorem SmW_vr {x y u v:Int} (h:vrW x y u v=true):SmW x y u v:=by rw [vrW_iff] at h;apply SmW_of;omega
theorem right_w (x y u v:Int) (w:World) (hS:SmW x y u v):Calls Tryz.prog 102 #[.agg #[.int .i64 (x),.int .i64 (y),.int .i64 (u),.int .i64 (v)]] w fun e w'=>e=.returned (.int .i64 (x+u))∧Below w.heap.size w w':=by
 obtain ⟨⟨s1,s2⟩,⟨s3,s4⟩,⟨s5,s6⟩,⟨s7,s8⟩⟩:=hS.out;clear hS
 go_enter Tryz.func102,Tryz.ntmps102
 go_wp2
 all_goals try go_quiet (fail)
 all_goals try go_wp2
 go_ret;exact ⟨rfl,((Below.refl _ _).alloc (Nat.le_refl _) _)⟩
theorem bottom_w (x y u v:Int) (w:World) (hS:SmW x y u v):Calls Tryz.prog 103 #[.agg #[.int .i64 (x),.int .i64 (y),.int .i64 (u),.int .i64 (v)]] w fun e w'=>e=.returned (.int .i64 (y+v))∧Below w.heap.size w w':=by
 obtain ⟨⟨s1,s2⟩,⟨s3,s4⟩,⟨s5,s6⟩,⟨s7,s8⟩⟩:=hS.out;clear hS
 go_enter Tryz.func103,Tryz.ntmps103
 go_wp2
 all_goals try go_quiet (fail)
 all_goals try go_wp2
 go_ret;exact ⟨rfl,((Below.refl _ _).alloc (Nat.le_refl _) _)⟩
theorem corners_w (l t r b:Int) (w:World) (hS:SmW l t r b) :
  Calls Tryz.prog 147 #[.int .i64 l,.int .i64 t,.int .i64 r,.int .i64 b] w fun e w'=>e=.returned (.agg #[.int .i64 (l),.int .i64 (t),.int .i64 (r - l),.int .i64 (b - t)])∧Below w.heap.size w w':=by
 obtain ⟨⟨s1,s2⟩,⟨s3,s4⟩,⟨s5,s6⟩,⟨s7,s8⟩⟩:=hS.out;clear hS
 go_enter Tryz.func147,Tryz.ntmps147
 go_wp2;exact bodyPost_ret (v:=.agg #[.int .i64 (l),.int .i64 (t),.int .i64 (r - l),.int .i64 (b - t)]) (by simp [results,Tryz.results147,go_sem]) rfl ⟨rfl,(Below.refl _ _).alloc (Nat.le_refl _) _⟩
theorem corners_eqW (l t r b W H:Int) (w:World) (hS:SmW l t r b) (hW:r - l=W) (hH:b - t=H) :
  Calls Tryz.prog 147 #[.int .i64 l,.int .i64 t,.int .i64 r,.int .i64 b] w fun e w'=>e=.returned (.agg #[.int .i64 (l),.int .i64 (t),.int .i64 (W),.int .i64 (H)])∧Below w.heap.size w w':=by
 subst hW hH;exact corners_w l t r b w hS
theorem cutTop_w (x y u v n m k:Int) (w:World) (h1:vrW x y u v=true) (h2:0≤n) (hm:mn n v=m) (hk:v - m=k) :
  Calls Tryz.prog 242 #[.agg #[.int .i64 (x),.int .i64 (y),.int .i64 (u),.int .i64 (v)],.int .i64 n] w fun e w'=>e=.returned (.tuple #[.agg #[.int .i64 (x),.int .i64 (y),.int .i64 (u),.int .i64 (m)],.agg #[.int .i64 (x),.int .i64 (y+m),.int .i64 (u),.int .i64 (k)]])∧Below w.heap.size w w':=by
 obtain ⟨a1,a2,a3,a4,a5,a6,a7,a8⟩:=vrW_iff.1 h1;have g:=mn_spec n v;rw [hm] at g
 have g1:0≤m:=by omega
 have g2:m≤v:=by omega
 have S1:=SmW_vr h1;have S2:SmW x y (x+u) (y+m):=SmW_of (by omega);have S3:SmW x (y+m) (x+u) (y+v):=SmW_of (by omega);clear g h1
 have hk1:v - m≤k:=by omega
 have hk2:k≤v - m:=by omega
 clear hk
 go_enter Tryz.func242,Tryz.ntmps242
 go_wp2_with fail
 refine wp_region_grow 16 2 (·<16) (by kernel_rfl) (by kernel_rfl) rfl ?_
 iterate 16 (refine wpG_step (fun K hK=>?_);apply Exists.intro;refine ⟨.inl ⟨rfl,fun w' hw'=>?_⟩,?_⟩;(focus ((obtain ⟨hc,hf⟩:=bcell hw'.out);(have hcS:=bcellS hw'.out);go_simp <;> first | rfl | (go_at_call 102;exact right_w _ _ _ _ _ (by assumption)) | (go_at_call 103;exact bottom_w _ _ _ _ _ (by assumption)) | (go_at_call 147;refine corners_eqW _ _ _ _ u m _ ?_ ?_ ?_;assumption;omega;omega) | (go_at_call 147;refine corners_eqW _ _ _ _ u k _ ?_ ?_ ?_;assumption;omega;omega)));(go_simp;refine hK _ ?_;clear hK K))
 refine wpG_nil ?_;refine wpK_tail (by kernel_rfl) (fun wt1 ht1=>?_);obtain ⟨hct1,hft1⟩:=bcell ht1.out
 have kb0_0:wt1.cell? ⟨w.heap.size+1,0,none⟩=some (.int .i64 (0)):=by go_simp
 have kg0_0:wt1.frozen? ⟨w.heap.size+1,0,none⟩=false:=by go_simp
 have kb0_1:wt1.cell? ⟨w.heap.size+1,1,none⟩=some (.int .i64 (0)):=by go_simp
 have kg0_1:wt1.frozen? ⟨w.heap.size+1,1,none⟩=false:=by go_simp
 have kb0_2:wt1.cell? ⟨w.heap.size+1,2,none⟩=some (.int .i64 (0)):=by go_simp
 have kg0_2:wt1.frozen? ⟨w.heap.size+1,2,none⟩=false:=by go_simp
 have kb0_3:wt1.cell? ⟨w.heap.size+1,3,none⟩=some (.int .i64 (0)):=by go_simp
 have kg0_3:wt1.frozen? ⟨w.heap.size+1,3,none⟩=false:=by go_simp
 have kb1_0:wt1.cell? ⟨w.heap.size+1+1,0,none⟩=some (.int .i64 (0)):=by go_simp
 have kg1_0:wt1.frozen? ⟨w.heap.size+1+1,0,none⟩=false:=by go_simp
 have kb1_1:wt1.cell? ⟨w.heap.size+1+1,1,none⟩=some (.int .i64 (0)):=by go_simp
 have kg1_1:wt1.frozen? ⟨w.heap.size+1+1,1,none⟩=false:=by go_simp
 have kb1_2:wt1.cell? ⟨w.heap.size+1+1,2,none⟩=some (.int .i64 (0)):=by go_simp
 have kg1_2:wt1.frozen? ⟨w.heap.size+1+1,2,none⟩=false:=by go_simp
 have kb1_3:wt1.cell? ⟨w.heap.size+1+1,3,none⟩=some (.int .i64 (0)):=by go_simp
 have kg1_3:wt1.frozen? ⟨w.heap.size+1+1,3,none⟩=false:=by go_simp
 clear hct1 hft1;refine wpAny_one (i:=16) (by kernel_rfl) rfl rfl ?_;go_simp;refine wpAny_one (i:=17) (by kernel_rfl) rfl rfl ?_;go_simp;refine wpAny_end (by kernel_rfl) ?_;have XA:=box4 (w:=wt1) (b:=w.heap.size+1) (.int .i64 (x)) (.int .i64 (y)) (.int .i64 (u)) (.int .i64 (m)) kb0_0 kb0_1 kb0_2 kb0_3
 have XB:=box4 (b:=w.heap.size+1+1) (.int .i64 (x)) (.int .i64 (y+m)) (.int .i64 (u)) (.int .i64 (k)) ((XA.2.2.2.2 (w.heap.size+1+1) 0 (by omega)).trans kb1_0) ((XA.2.2.2.2 (w.heap.size+1+1) 1 (by omega)).trans kb1_1) ((XA.2.2.2.2 (w.heap.size+1+1) 2 (by omega)).trans kb1_2) ((XA.2.2.2.2 (w.heap.size+1+1) 3 (by omega)).trans kb1_3)
 refine NoPan.gen (fun wf=>Below w.heap.size w wf∧wf.cell? ⟨w.heap.size+1,0,none⟩=some (.int .i64 (x))∧wf.cell? ⟨w.heap.size+1,1,none⟩=some (.int .i64 (y))∧wf.cell? ⟨w.heap.size+1,2,none⟩=some (.int .i64 (u))∧wf.cell? ⟨w.heap.size+1,3,none⟩=some (.int .i64 (m))∧wf.cell? ⟨w.heap.size+1+1,0,none⟩=some (.int .i64 (x))∧wf.cell? ⟨w.heap.size+1+1,1,none⟩=some (.int .i64 (y+m))∧wf.cell? ⟨w.heap.size+1+1,2,none⟩=some (.int .i64 (u))∧wf.cell? ⟨w.heap.size+1+1,3,none⟩=some (.int .i64 (k))) ⟨(by repeat (first | with_reducible exact Below.refl _ _ | with_reducible assumption | with_reducible refine balloc ?_ | (with_reducible refine bset ?_ ?_;rotate_left;((try dsimp only);omega)) | refine bkeep2 ?_ (by assumption) | with_reducible refine Below.drew ?_)),(XB.2.2.2.2 (w.heap.size+1) 0 (by omega)).trans XA.1,(XB.2.2.2.2 (w.heap.size+1) 1 (by omega)).trans XA.2.1,(XB.2.2.2.2 (w.heap.size+1) 2 (by omega)).trans XA.2.2.1,(XB.2.2.2.2 (w.heap.size+1) 3 (by omega)).trans XA.2.2.2.1,XB.1,XB.2.1,XB.2.2.1,XB.2.2.2.1⟩ (fun wf hwf=>?_)
 clear XA XB kb0_0 kb0_1 kb0_2 kb0_3 kb1_0 kb1_1 kb1_2 kb1_3 kg0_0 kg0_1 kg0_2 kg0_3 kg1_0 kg1_1 kg1_2 kg1_3;obtain ⟨hBf,z0,z1,z2,z3,z4,z5,z6,z7⟩:=hwf;go_wp2
 exact bodyPost_ret (v:=.tuple #[.agg #[.int .i64 (x),.int .i64 (y),.int .i64 (u),.int .i64 (m)],.agg #[.int .i64 (x),.int .i64 (y+m),.int .i64 (u),.int .i64 (k)]]) (by simp only [results,Tryz.results242];go_simp) rfl ⟨rfl,(by repeat (first | with_reducible exact Below.refl _ _ | with_reducible assumption | with_reducible refine balloc ?_ | (with_reducible refine bset ?_ ?_;rotate_left;((try dsimp only);omega)) | refine bkeep2 ?_ (by assumption) | with_reducible refine Below.drew ?_))⟩
theorem cutLeft_w (x y u v n m k:Int) (w:World) (h1:vrW x y u v=true) (h2:0≤n) (hm:mn n u=m) (hk:u - m=k) :
  Calls Tryz.prog 244 #[.agg #[.int .i64 (x),.int .i64 (y),.int .i64 (u),.int .i64 (v)],.int .i64 n] w fun e w'=>e=.returned (.tuple #[.agg #[.int .i64 (x),.int .i64 (y),.int .i64 (m),.int .i64 (v)],.agg #[.int .i64 (x+m),.int .i64 (y),.int .i64 (k),.int .i64 (v)]])∧Below w.heap.size w w':=by
 obtain ⟨a1,a2,a3,a4,a5,a6,a7,a8⟩:=vrW_iff.1 h1;have g:=mn_spec n u;rw [hm] at g
 have g1:0≤m:=by omega
 have g2:m≤u:=by omega
 have S1:=SmW_vr h1;have S2:SmW x y (x+m) (y+v):=SmW_of (by omega);have S3:SmW (x+m) y (x+u) (y+v):=SmW_of (by omega);clear g h1
 have hk1:u - m≤k:=by omega
 have hk2:k≤u - m:=by omega
 clear hk
 go_enter Tryz.func244,Tryz.ntmps244
 go_wp2_with fail
 refine wp_region_grow 16 2 (·<16) (by kernel_rfl) (by kernel_rfl) rfl ?_
 iterate 16 (refine wpG_step (fun K hK=>?_);apply Exists.intro;refine ⟨.inl ⟨rfl,fun w' hw'=>?_⟩,?_⟩;(focus ((obtain ⟨hc,hf⟩:=bcell hw'.out);(have hcS:=bcellS hw'.out);go_simp <;> first | rfl | (go_at_call 102;exact right_w _ _ _ _ _ (by assumption)) | (go_at_call 103;exact bottom_w _ _ _ _ _ (by assumption)) | (go_at_call 147;refine corners_eqW _ _ _ _ m v _ ?_ ?_ ?_;assumption;omega;omega) | (go_at_call 147;refine corners_eqW _ _ _ _ k v _ ?_ ?_ ?_;assumption;omega;omega)));(go_simp;refine hK _ ?_;clear hK K))
 refine wpG_nil ?_;refine wpK_tail (by kernel_rfl) (fun wt1 ht1=>?_);obtain ⟨hct1,hft1⟩:=bcell ht1.out
 have kb0_0:wt1.cell? ⟨w.heap.size+1,0,none⟩=some (.int .i64 (0)):=by go_simp
 have kg0_0:wt1.frozen? ⟨w.heap.size+1,0,none⟩=false:=by go_simp
 have kb0_1:wt1.cell? ⟨w.heap.size+1,1,none⟩=some (.int .i64 (0)):=by go_simp
 have kg0_1:wt1.frozen? ⟨w.heap.size+1,1,none⟩=false:=by go_simp
 have kb0_2:wt1.cell? ⟨w.heap.size+1,2,none⟩=some (.int .i64 (0)):=by go_simp
 have kg0_2:wt1.frozen? ⟨w.heap.size+1,2,none⟩=false:=by go_simp
 have kb0_3:wt1.cell? ⟨w.heap.size+1,3,none⟩=some (.int .i64 (0)):=by go_simp
 have kg0_3:wt1.frozen? ⟨w.heap.size+1,3,none⟩=false:=by go_simp
 have kb1_0:wt1.cell? ⟨w.heap.size+1+1,0,none⟩=some (.int .i64 (0)):=by go_simp
 have kg1_0:wt1.frozen? ⟨w.heap.size+1+1,0,none⟩=false:=by go_simp
 have kb1_1:wt1.cell? ⟨w.heap.size+1+1,1,none⟩=some (.int .i64 (0)):=by go_simp
 have kg1_1:wt1.frozen? ⟨w.heap.size+1+1,1,none⟩=false:=by go_simp
 have kb1_2:wt1.cell? ⟨w.heap.size+1+1,2,none⟩=some (.int .i64 (0)):=by go_simp
 have kg1_2:wt1.frozen? ⟨w.heap.size+1+1,2,none⟩=false:=by go_simp
 have kb1_3:wt1.cell? ⟨w.heap.size+1+1,3,none⟩=some (.int .i64 (0)):=by go_simp
 have kg1_3:wt1.frozen? ⟨w.heap.size+1+1,3,none⟩=false:=by go_simp
 clear hct1 hft1;refine wpAny_one (i:=16) (by kernel_rfl) rfl rfl ?_;go_simp;refine wpAny_one (i:=17) (by kernel_rfl) rfl rfl ?_;go_simp;refine wpAny_end (by kernel_rfl) ?_;have XA:=box4 (w:=wt1) (b:=w.heap.size+1) (.int .i64 (x)) (.int .i64 (y)) (.int .i64 (m)) (.int .i64 (v)) kb0_0 kb0_1 kb0_2 kb0_3
 have XB:=box4 (b:=w.heap.size+1+1) (.int .i64 (x+m)) (.int .i64 (y)) (.int .i64 (k)) (.int .i64 (v)) ((XA.2.2.2.2 (w.heap.size+1+1) 0 (by omega)).trans kb1_0) ((XA.2.2.2.2 (w.heap.size+1+1) 1 (by omega)).trans kb1_1) ((XA.2.2.2.2 (w.heap.size+1+1) 2 (by omega)).trans kb1_2) ((XA.2.2.2.2 (w.heap.size+1+1) 3 (by omega)).trans kb1_3)
 refine NoPan.gen (fun wf=>Below w.heap.size w wf∧wf.cell? ⟨w.heap.size+1,0,none⟩=some (.int .i64 (x))∧wf.cell? ⟨w.heap.size+1,1,none⟩=some (.int .i64 (y))∧wf.cell? ⟨w.heap.size+1,2,none⟩=some (.int .i64 (m))∧wf.cell? ⟨w.heap.size+1,3,none⟩=some (.int .i64 (v))∧wf.cell? ⟨w.heap.size+1+1,0,none⟩=some (.int .i64 (x+m))∧wf.cell? ⟨w.heap.size+1+1,1,none⟩=some (.int .i64 (y))∧wf.cell? ⟨w.heap.size+1+1,2,none⟩=some (.int .i64 (k))∧wf.cell? ⟨w.heap.size+1+1,3,none⟩=some (.int .i64 (v))) ⟨(by repeat (first | with_reducible exact Below.refl _ _ | with_reducible assumption | with_reducible refine balloc ?_ | (with_reducible refine bset ?_ ?_;rotate_left;((try dsimp only);omega)) | refine bkeep2 ?_ (by assumption) | with_reducible refine Below.drew ?_)),(XB.2.2.2.2 (w.heap.size+1) 0 (by omega)).trans XA.1,(XB.2.2.2.2 (w.heap.size+1) 1 (by omega)).trans XA.2.1,(XB.2.2.2.2 (w.heap.size+1) 2 (by omega)).trans XA.2.2.1,(XB.2.2.2.2 (w.heap.size+1) 3 (by omega)).trans XA.2.2.2.1,XB.1,XB.2.1,XB.2.2.1,XB.2.2.2.1⟩ (fun wf hwf=>?_)
 clear XA XB kb0_0 kb0_1 kb0_2 kb0_3 kb1_0 kb1_1 kb1_2 kb1_3 kg0_0 kg0_1 kg0_2 kg0_3 kg1_0 kg1_1 kg1_2 kg1_3;obtain ⟨hBf,z0,z1,z2,z3,z4,z5,z6,z7⟩:=hwf;go_wp2
 exact bodyPost_ret (v:=.tuple #[.agg #[.int .i64 (x),.int .i64 (y),.int .i64 (m),.int .i64 (v)],.agg #[.int .i64 (x+m),.int .i64 (y),.int .i64 (k),.int .i64 (v)]]) (by simp only [results,Tryz.results244];go_simp) rfl ⟨rfl,(by repeat (first | with_reducible exact Below.refl _ _ | with_reducible assumption | with_reducible refine balloc ?_ | (with_reducible refine bset ?_ ?_;rotate_left;((try dsimp only);omega)) | refine bkeep2 ?_ (by assumption) | with_reducible refine Below.drew ?_))⟩
theorem cutBottom_w (x y u v n:Int) (w:World) (h1:vrW x y u v=true) (h2:0≤n) :
  Calls Tryz.prog 243 #[.agg #[.int .i64 (x),.int .i64 (y),.int .i64 (u),.int .i64 (v)],.int .i64 n] w fun e w'=>e=.returned (.tuple #[.agg #[.int .i64 (x),.int .i64 (y+(v - mn n v)),.int .i64 (u),.int .i64 (mn n v)],.agg #[.int .i64 (x),.int .i64 (y),.int .i64 (u),.int .i64 (v - mn n v)]])∧Below w.heap.size w w':=by
 obtain ⟨a1,a2,a3,a4,a5,a6,a7,a8⟩:=vrW_iff.1 h1;have g:=mn_spec n v
 have g1:0≤mn n v:=by omega
 have g2:mn n v≤v:=by omega
 have C:=hD (fun w=>cutTop_w x y u v (v - mn n v) (v - mn n v) (mn n v) w h1 (by omega) (by have:=mn_spec (v - mn n v) v;omega) (by omega));clear g
 go_enter Tryz.func243,Tryz.ntmps243
 go_wp2_with (go_at_call 242;refine (C.out _).mono ?_;rintro e w1 ⟨rfl,hb⟩;obtain ⟨hc,hf⟩:=bcell hb;(first | (replace hB:=bkeep2 hB hb) | (replace hB:=bkeep2 (balloc hB) hb) | (replace hB:=bkeep2 (balloc (balloc hB)) hb) | have hB:=hb);obtain ⟨hC,hF,hZ,hN⟩:=bcell4 hB;(try (have hlt:=Nat.lt_of_lt_of_le hlt hb.size;have hne:=Nat.ne_of_lt hlt));(have hs0:=hb.size);(try simp only [World.size_alloc] at hs0);(try (have hlt:=Nat.lt_of_succ_le hs0;have hne:=Nat.ne_of_lt hlt));(have kz0:w.heap.size<w1.heap.size:=by have:=hB.size;simp at this;omega);(have kn0:¬ w.heap.size=w1.heap.size:=by omega);(have kz1:w.heap.size+1<w1.heap.size:=by have:=hB.size;simp at this;omega);(have kn1:¬ w.heap.size+1=w1.heap.size:=by omega);(have kz2:w.heap.size+1+1<w1.heap.size:=by have:=hB.size;simp at this;omega);(have kn2:¬ w.heap.size+1+1=w1.heap.size:=by omega);(have kc0:w1.cell? ⟨w.heap.size+1,0,none⟩=some (.int .i64 (0)):=by go_simp);(have kf0:w1.frozen? ⟨w.heap.size+1,0,none⟩=false:=by go_simp);(have kc1:w1.cell? ⟨w.heap.size+1,1,none⟩=some (.int .i64 (0)):=by go_simp);(have kf1:w1.frozen? ⟨w.heap.size+1,1,none⟩=false:=by go_simp);(have kc2:w1.cell? ⟨w.heap.size+1,2,none⟩=some (.int .i64 (0)):=by go_simp);(have kf2:w1.frozen? ⟨w.heap.size+1,2,none⟩=false:=by go_simp);(have kc3:w1.cell? ⟨w.heap.size+1,3,none⟩=some (.int .i64 (0)):=by go_simp);(have kf3:w1.frozen? ⟨w.heap.size+1,3,none⟩=false:=by go_simp);(have kc0:w1.cell? ⟨w.heap.size+1+1,0,none⟩=some (.int .i64 (0)):=by go_simp);(have kf0:w1.frozen? ⟨w.heap.size+1+1,0,none⟩=false:=by go_simp);(have kc1:w1.cell? ⟨w.heap.size+1+1,1,none⟩=some (.int .i64 (0)):=by go_simp);(have kf1:w1.frozen? ⟨w.heap.size+1+1,1,none⟩=false:=by go_simp);(have kc2:w1.cell? ⟨w.heap.size+1+1,2,none⟩=some (.int .i64 (0)):=by go_simp);(have kf2:w1.frozen? ⟨w.heap.size+1+1,2,none⟩=false:=by go_simp);(have kc3:w1.cell? ⟨w.heap.size+1+1,3,none⟩=some (.int .i64 (0)):=by go_simp);(have kf3:w1.frozen? ⟨w.heap.size+1+1,3,none⟩=false:=by go_simp);clear hC hF hc hf hZ hN)
 refine wp_gen (fun W0=>Below w.heap.size w W0∧W0.cell? ⟨w.heap.size+1,0,none⟩=some (.int .i64 0)∧W0.frozen? ⟨w.heap.size+1,0,none⟩=false∧W0.cell? ⟨w.heap.size+1,1,none⟩=some (.int .i64 0)∧W0.frozen? ⟨w.heap.size+1,1,none⟩=false∧W0.cell? ⟨w.heap.size+1,2,none⟩=some (.int .i64 0)∧W0.frozen? ⟨w.heap.size+1,2,none⟩=false∧W0.cell? ⟨w.heap.size+1,3,none⟩=some (.int .i64 0)∧W0.frozen? ⟨w.heap.size+1,3,none⟩=false∧W0.cell? ⟨w.heap.size+1+1,0,none⟩=some (.int .i64 0)∧W0.frozen? ⟨w.heap.size+1+1,0,none⟩=false∧W0.cell? ⟨w.heap.size+1+1,1,none⟩=some (.int .i64 0)∧W0.frozen? ⟨w.heap.size+1+1,1,none⟩=false∧W0.cell? ⟨w.heap.size+1+1,2,none⟩=some (.int .i64 0)∧W0.frozen? ⟨w.heap.size+1+1,2,none⟩=false∧W0.cell? ⟨w.heap.size+1+1,3,none⟩=some (.int .i64 0)∧W0.frozen? ⟨w.heap.size+1+1,3,none⟩=false∧W0.cell? ⟨w1.heap.size,0,none⟩=some (.int .i64 (x))∧W0.cell? ⟨w1.heap.size,1,none⟩=some (.int .i64 (y))∧W0.cell? ⟨w1.heap.size,2,none⟩=some (.int .i64 (u))∧W0.cell? ⟨w1.heap.size,3,none⟩=some (.int .i64 (v - mn n v))∧W0.cell? ⟨w1.heap.size+1,0,none⟩=some (.int .i64 (x))∧W0.cell? ⟨w1.heap.size+1,1,none⟩=some (.int .i64 (y+(v - mn n v)))∧W0.cell? ⟨w1.heap.size+1,2,none⟩=some (.int .i64 (u))∧W0.cell? ⟨w1.heap.size+1,3,none⟩=some (.int .i64 (mn n v))) ⟨(by repeat (first | with_reducible exact Below.refl _ _ | with_reducible assumption | with_reducible refine balloc ?_ | (with_reducible refine bset ?_ ?_;rotate_left;((try dsimp only);omega)) | refine bkeep2 ?_ (by assumption) | with_reducible refine Below.drew ?_)),?_⟩ (fun W0 hW0=>?_)
 ·go_simp
 obtain ⟨hBW,p0,pf0,p1,pf1,p2,pf2,p3,pf3,q0,qf0,q1,qf1,q2,qf2,q3,qf3,r0,r1,r2,r3,s0,s1,s2,s3⟩:=hW0;generalize w1.heap.size=b6 at *
 go_region
 all_goals go_wp2
 all_goals
  have XA:=box4 (w:=W0) (b:=w.heap.size+1) (.int .i64 (x)) (.int .i64 (y+(v - mn n v))) (.int .i64 (u)) (.int .i64 (mn n v)) p0 p1 p2 p3
  have XB:=box4 (b:=w.heap.size+1+1) (.int .i64 (x)) (.int .i64 (y)) (.int .i64 (u)) (.int .i64 (v - mn n v)) ((XA.2.2.2.2 (w.heap.size+1+1) 0 (by omega)).trans q0) ((XA.2.2.2.2 (w.heap.size+1+1) 1 (by omega)).trans q1) ((XA.2.2.2.2 (w.heap.size+1+1) 2 (by omega)).trans q2) ((XA.2.2.2.2 (w.heap.size+1+1) 3 (by omega)).trans q3)
  refine gen_post (fun wf=>Below w.heap.size w wf∧wf.cell? ⟨w.heap.size+1,0,none⟩=some (.int .i64 (x))∧wf.cell? ⟨w.heap.size+1,1,none⟩=some (.int .i64 (y+(v - mn n v)))∧wf.cell? ⟨w.heap.size+1,2,none⟩=some (.int .i64 (u))∧wf.cell? ⟨w.heap.size+1,3,none⟩=some (.int .i64 (mn n v))∧wf.cell? ⟨w.heap.size+1+1,0,none⟩=some (.int .i64 (x))∧wf.cell? ⟨w.heap.size+1+1,1,none⟩=some (.int .i64 (y))∧wf.cell? ⟨w.heap.size+1+1,2,none⟩=some (.int .i64 (u))∧wf.cell? ⟨w.heap.size+1+1,3,none⟩=some (.int .i64 (v - mn n v))) ⟨(by with_reducible refine Below.drew ?_;exact (by repeat (first | with_reducible exact Below.refl _ _ | with_reducible assumption | with_reducible refine balloc ?_ | (with_reducible refine bset ?_ ?_;rotate_left;((try dsimp only);omega)) | refine bkeep2 ?_ (by assumption) | with_reducible refine Below.drew ?_))),celld ((XB.2.2.2.2 (w.heap.size+1) 0 (by omega)).trans XA.1),celld ((XB.2.2.2.2 (w.heap.size+1) 1 (by omega)).trans XA.2.1),celld ((XB.2.2.2.2 (w.heap.size+1) 2 (by omega)).trans XA.2.2.1),celld ((XB.2.2.2.2 (w.heap.size+1) 3 (by omega)).trans XA.2.2.2.1),celld (XB.1),celld (XB.2.1),celld (XB.2.2.1),celld (XB.2.2.2.1)⟩ (fun wf hwf=>?_)
  clear XA XB;obtain ⟨hBf,z0,z1,z2,z3,z4,z5,z6,z7⟩:=hwf
  exact bodyPost_ret (v:=.tuple #[.agg #[.int .i64 (x),.int .i64 (y+(v - mn n v)),.int .i64 (u),.int .i64 (mn n v)],.agg #[.int .i64 (x),.int .i64 (y),.int .i64 (u),.int .i64 (v - mn n v)]]) (by simp only [results,Tryz.results243];go_simp) rfl ⟨rfl,(by repeat (first | with_reducible exact Below.refl _ _ | with_reducible assumption | with_reducible refine balloc ?_ | (with_reducible refine bset ?_ ?_;rotate_left;((try dsimp only);omega)) | refine bkeep2 ?_ (by assumption) | with_reducible refine Below.drew ?_))⟩
theorem cutRight_w (x y u v n:Int) (w:World) (h1:vrW x y u v=true) (h2:0≤n) :
  Calls Tryz.prog 245 #[.agg #[.int .i64 (x),.int .i64 (y),.int .i64 (u),.int .i64 (v)],.int .i64 n] w fun e w'=>e=.returned (.tuple #[.agg #[.int .i64 (x+(u - mn n u)),.int .i64 (y),.int .i64 (mn n u),.int .i64 (v)],.agg #[.int .i64 (x),.int .i64 (y),.int .i64 (u - mn n u),.int .i64 (v)]])∧Below w.heap.size w w':=by
 obtain ⟨a1,a2,a3,a4,a5,a6,a7,a8⟩:=vrW_iff.1 h1;have g:=mn_spec n u
 have g1:0≤mn n u:=by omega
 have g2:mn n u≤u:=by omega
 have C:=hD (fun w=>cutLeft_w x y u v (u - mn n u) (u - mn n u) (mn n u) w h1 (by omega) (by have:=mn_spec (u - mn n u) u;omega) (by omega));clear g
 go_enter Tryz.func245,Tryz.ntmps245
 go_wp2_with (go_at_call 244;refine (C.out _).mono ?_;rintro e w1 ⟨rfl,hb⟩;obtain ⟨hc,hf⟩:=bcell hb;(first | (replace hB:=bkeep2 hB hb) | (replace hB:=bkeep2 (balloc hB) hb) | (replace hB:=bkeep2 (balloc (balloc hB)) hb) | have hB:=hb);obtain ⟨hC,hF,hZ,hN⟩:=bcell4 hB;(try (have hlt:=Nat.lt_of_lt_of_le hlt hb.size;have hne:=Nat.ne_of_lt hlt));(have hs0:=hb.size);(try simp only [World.size_alloc] at hs0);(try (have hlt:=Nat.lt_of_succ_le hs0;have hne:=Nat.ne_of_lt hlt));(have kz0:w.heap.size<w1.heap.size:=by have:=hB.size;simp at this;omega);(have kn0:¬ w.heap.size=w1.heap.size:=by omega);(have kz1:w.heap.size+1<w1.heap.size:=by have:=hB.size;simp at this;omega);(have kn1:¬ w.heap.size+1=w1.heap.size:=by omega);(have kz2:w.heap.size+1+1<w1.heap.size:=by have:=hB.size;simp at this;omega);(have kn2:¬ w.heap.size+1+1=w1.heap.size:=by omega);(have kc0:w1.cell? ⟨w.heap.size+1,0,none⟩=some (.int .i64 (0)):=by go_simp);(have kf0:w1.frozen? ⟨w.heap.size+1,0,none⟩=false:=by go_simp);(have kc1:w1.cell? ⟨w.heap.size+1,1,none⟩=some (.int .i64 (0)):=by go_simp);(have kf1:w1.frozen? ⟨w.heap.size+1,1,none⟩=false:=by go_simp);(have kc2:w1.cell? ⟨w.heap.size+1,2,none⟩=some (.int .i64 (0)):=by go_simp);(have kf2:w1.frozen? ⟨w.heap.size+1,2,none⟩=false:=by go_simp);(have kc3:w1.cell? ⟨w.heap.size+1,3,none⟩=some (.int .i64 (0)):=by go_simp);(have kf3:w1.frozen? ⟨w.heap.size+1,3,none⟩=false:=by go_simp);(have kc0:w1.cell? ⟨w.heap.size+1+1,0,none⟩=some (.int .i64 (0)):=by go_simp);(have kf0:w1.frozen? ⟨w.heap.size+1+1,0,none⟩=false:=by go_simp);(have kc1:w1.cell? ⟨w.heap.size+1+1,1,none⟩=some (.int .i64 (0)):=by go_simp);(have kf1:w1.frozen? ⟨w.heap.size+1+1,1,none⟩=false:=by go_simp);(have kc2:w1.cell? ⟨w.heap.size+1+1,2,none⟩=some (.int .i64 (0)):=by go_simp);(have kf2:w1.frozen? ⟨w.heap.size+1+1,2,none⟩=false:=by go_simp);(have kc3:w1.cell? ⟨w.heap.size+1+1,3,none⟩=some (.int .i64 (0)):=by go_simp);(have kf3:w1.frozen? ⟨w.heap.size+1+1,3,none⟩=false:=by go_simp);clear hC hF hc hf hZ hN)
 refine wp_gen (fun W0=>Below w.heap.size w W0∧W0.cell? ⟨w.heap.size+1,0,none⟩=some (.int .i64 0)∧W0.frozen? ⟨w.heap.size+1,0,none⟩=false∧W0.cell? ⟨w.heap.size+1,1,none⟩=some (.int .i64 0)∧W0.frozen? ⟨w.heap.size+1,1,none⟩=false∧W0.cell? ⟨w.heap.size+1,2,none⟩=some (.int .i64 0)∧W0.frozen? ⟨w.heap.size+1,2,none⟩=false∧W0.cell? ⟨w.heap.size+1,3,none⟩=some (.int .i64 0)∧W0.frozen? ⟨w.heap.size+1,3,none⟩=false∧W0.cell? ⟨w.heap.size+1+1,0,none⟩=some (.int .i64 0)∧W0.frozen? ⟨w.heap.size+1+1,0,none⟩=false∧W0.cell? ⟨w.heap.size+1+1,1,none⟩=some (.int .i64 0)∧W0.frozen? ⟨w.heap.size+1+1,1,none⟩=false∧W0.cell? ⟨w.heap.size+1+1,2,none⟩=some (.int .i64 0)∧W0.frozen? ⟨w.heap.size+1+1,2,none⟩=false∧W0.cell? ⟨w.heap.size+1+1,3,none⟩=some (.int .i64 0)∧W0.frozen? ⟨w.heap.size+1+1,3,none⟩=false∧W0.cell? ⟨w1.heap.size,0,none⟩=some (.int .i64 (x))∧W0.cell? ⟨w1.heap.size,1,none⟩=some (.int .i64 (y))∧W0.cell? ⟨w1.heap.size,2,none⟩=some (.int .i64 (u - mn n u))∧W0.cell? ⟨w1.heap.size,3,none⟩=some (.int .i64 (v))∧W0.cell? ⟨w1.heap.size+1,0,none⟩=some (.int .i64 (x+(u - mn n u)))∧W0.cell? ⟨w1.heap.size+1,1,none⟩=some (.int .i64 (y))∧W0.cell? ⟨w1.heap.size+1,2,none⟩=some (.int .i64 (mn n u))∧W0.cell? ⟨w1.heap.size+1,3,none⟩=some (.int .i64 (v))) ⟨(by repeat (first | with_reducible exact Below.refl _ _ | with_reducible assumption | with_reducible refine balloc ?_ | (with_reducible refine bset ?_ ?_;rotate_left;((try dsimp only);omega)) | refine bkeep2 ?_ (by assumption) | with_reducible refine Below.drew ?_)),?_⟩ (fun W0 hW0=>?_)
 ·go_simp
 obtain ⟨hBW,p0,pf0,p1,pf1,p2,pf2,p3,pf3,q0,qf0,q1,qf1,q2,qf2,q3,qf3,r0,r1,r2,r3,s0,s1,s2,s3⟩:=hW0;generalize w1.heap.size=b6 at *
 go_region
 all_goals go_wp2
 all_goals
  have XA:=box4 (w:=W0) (b:=w.heap.size+1) (.int .i64 (x+(u - mn n u))) (.int .i64 (y)) (.int .i64 (mn n u)) (.int .i64 (v)) p0 p1 p2 p3
  have XB:=box4 (b:=w.heap.size+1+1) (.int .i64 (x)) (.int .i64 (y)) (.int .i64 (u - mn n u)) (.int .i64 (v)) ((XA.2.2.2.2 (w.heap.size+1+1) 0 (by omega)).trans q0) ((XA.2.2.2.2 (w.heap.size+1+1) 1 (by omega)).trans q1) ((XA.2.2.2.2 (w.heap.size+1+1) 2 (by omega)).trans q2) ((XA.2.2.2.2 (w.heap.size+1+1) 3 (by omega)).trans q3)
  refine gen_post (fun wf=>Below w.heap.size w wf∧wf.cell? ⟨w.heap.size+1,0,none⟩=some (.int .i64 (x+(u - mn n u)))∧wf.cell? ⟨w.heap.size+1,1,none⟩=some (.int .i64 (y))∧wf.cell? ⟨w.heap.size+1,2,none⟩=some (.int .i64 (mn n u))∧wf.cell? ⟨w.heap.size+1,3,none⟩=some (.int .i64 (v))∧wf.cell? ⟨w.heap.size+1+1,0,none⟩=some (.int .i64 (x))∧wf.cell? ⟨w.heap.size+1+1,1,none⟩=some (.int .i64 (y))∧wf.cell? ⟨w.heap.size+1+1,2,none⟩=some (.int .i64 (u - mn n u))∧wf.cell? ⟨w.heap.size+1+1,3,none⟩=some (.int .i64 (v))) ⟨(by with_reducible refine Below.drew ?_;exact (by repeat (first | with_reducible exact Below.refl _ _ | with_reducible assumption | with_reducible refine balloc ?_ | (with_reducible refine bset ?_ ?_;rotate_left;((try dsimp only);omega)) | refine bkeep2 ?_ (by assumption) | with_reducible refine Below.drew ?_))),celld ((XB.2.2.2.2 (w.heap.size+1) 0 (by omega)).trans XA.1),celld ((XB.2.2.2.2 (w.heap.size+1) 1 (by omega)).trans XA.2.1),celld ((XB.2.2.2.2 (w.heap.size+1) 2 (by omega)).trans XA.2.2.1),celld ((XB.2.2.2.2 (w.heap.size+1) 3 (by omega)).trans XA.2.2.2.1),celld (XB.1),celld (XB.2.1),celld (XB.2.2.1),celld (XB.2.2.2.1)⟩ (fun wf hwf=>?_)
  clear XA XB;obtain ⟨hBf,z0,z1,z2,z3,z4,z5,z6,z7⟩:=hwf
  exact bodyPost_ret (v:=.tuple #[.agg #[.int .i64 (x+(u - mn n u)),.int .i64 (y),.int .i64 (mn n u),.int .i64 (v)],.agg #[.int .i64 (x),.int .i64 (y),.int .i64 (u - mn n u),.int .i64 (v)]]) (by simp only [results,Tryz.results245];go_simp) rfl ⟨rfl,(by repeat (first | with_reducible exact Below.refl _ _ | with_reducible assumption | with_reducible refine balloc ?_ | (with_reducible refine bset ?_ ?_;rotate_left;((try dsimp only);omega)) | refine bkeep2 ?_ (by assumption) | with_reducible refine Below.drew ?_))⟩
theorem cut0_w (x y u v n:Int) (w:World) (h1:vrW x y u v=true) (h2:0≤n) :
  Calls Tryz.prog 239 #[.agg #[.int .i64 (x),.int .i64 (y),.int .i64 (u),.int .i64 (v)],.int .i64 0,.int .i64 n] w fun e w'=>e=.returned (.tuple #[.agg #[.int .i64 (x),.int .i64 (y),.int .i64 (u),.int .i64 (mn n v)],.agg #[.int .i64 (x),.int .i64 (y+mn n v),.int .i64 (u),.int .i64 (v - mn n v)]])∧Below w.heap.size w w':=by
 have i0:∀ w,(Instr.index 254 (.agg #[.func (.func 242) #[] #[],.func (.func 243) #[] #[],.func (.func 244) #[] #[],.func (.func 245) #[] #[]]) (.int .i64 0)).run Tryz.prog w=.ok (.func (.func 242) #[] #[]) w:=fun _=>by kernel_rfl
 go_enter Tryz.func239,Tryz.ntmps239
 go_wp2_with fail
 refine wp_region_grow 8 2 (·<8) (by kernel_rfl) (by kernel_rfl) rfl ?_
 iterate 8 (refine wpG_step (fun K hK=>?_);apply Exists.intro;refine ⟨.inl ⟨rfl,fun w' hw'=>?_⟩,?_⟩;(focus ((obtain ⟨hc,hf⟩:=bcell hw'.out);(have hcS:=bcellS hw'.out);go_simp <;> first | rfl | (go_at_call 241;exact cutters_any _) | (go_at_call 242;exact cutTop_w x y u v n (mn n v) (v - mn n v) _ h1 h2 rfl rfl)));(go_simp;refine hK _ ?_;clear hK K))
 refine wpG_nil ?_;refine wpK_tail (by kernel_rfl) (fun wt1 ht1=>?_);obtain ⟨hct1,hft1⟩:=bcell ht1.out
 have kb0_0:wt1.cell? ⟨w.heap.size+1,0,none⟩=some (.int .i64 (0)):=by go_simp
 have kg0_0:wt1.frozen? ⟨w.heap.size+1,0,none⟩=false:=by go_simp
 have kb0_1:wt1.cell? ⟨w.heap.size+1,1,none⟩=some (.int .i64 (0)):=by go_simp
 have kg0_1:wt1.frozen? ⟨w.heap.size+1,1,none⟩=false:=by go_simp
 have kb0_2:wt1.cell? ⟨w.heap.size+1,2,none⟩=some (.int .i64 (0)):=by go_simp
 have kg0_2:wt1.frozen? ⟨w.heap.size+1,2,none⟩=false:=by go_simp
 have kb0_3:wt1.cell? ⟨w.heap.size+1,3,none⟩=some (.int .i64 (0)):=by go_simp
 have kg0_3:wt1.frozen? ⟨w.heap.size+1,3,none⟩=false:=by go_simp
 have kb1_0:wt1.cell? ⟨w.heap.size+1+1,0,none⟩=some (.int .i64 (0)):=by go_simp
 have kg1_0:wt1.frozen? ⟨w.heap.size+1+1,0,none⟩=false:=by go_simp
 have kb1_1:wt1.cell? ⟨w.heap.size+1+1,1,none⟩=some (.int .i64 (0)):=by go_simp
 have kg1_1:wt1.frozen? ⟨w.heap.size+1+1,1,none⟩=false:=by go_simp
 have kb1_2:wt1.cell? ⟨w.heap.size+1+1,2,none⟩=some (.int .i64 (0)):=by go_simp
 have kg1_2:wt1.frozen? ⟨w.heap.size+1+1,2,none⟩=false:=by go_simp
 have kb1_3:wt1.cell? ⟨w.heap.size+1+1,3,none⟩=some (.int .i64 (0)):=by go_simp
 have kg1_3:wt1.frozen? ⟨w.heap.size+1+1,3,none⟩=false:=by go_simp
 clear hct1 hft1;refine wpAny_one (i:=8) (by kernel_rfl) rfl rfl ?_;go_simp;refine wpAny_one (i:=9) (by kernel_rfl) rfl rfl ?_;go_simp;refine wpAny_end (by kernel_rfl) ?_;have XA:=box4 (w:=wt1) (b:=w.heap.size+1) (.int .i64 (x)) (.int .i64 (y)) (.int .i64 (u)) (.int .i64 (mn n v)) kb0_0 kb0_1 kb0_2 kb0_3
 have XB:=box4 (b:=w.heap.size+1+1) (.int .i64 (x)) (.int .i64 (y+mn n v)) (.int .i64 (u)) (.int .i64 (v - mn n v)) ((XA.2.2.2.2 (w.heap.size+1+1) 0 (by omega)).trans kb1_0) ((XA.2.2.2.2 (w.heap.size+1+1) 1 (by omega)).trans kb1_1) ((XA.2.2.2.2 (w.heap.size+1+1) 2 (by omega)).trans kb1_2) ((XA.2.2.2.2 (w.heap.size+1+1) 3 (by omega)).trans kb1_3)
 refine NoPan.gen (fun wf=>Below w.heap.size w wf∧wf.cell? ⟨w.heap.size+1,0,none⟩=some (.int .i64 (x))∧wf.cell? ⟨w.heap.size+1,1,none⟩=some (.int .i64 (y))∧wf.cell? ⟨w.heap.size+1,2,none⟩=some (.int .i64 (u))∧wf.cell? ⟨w.heap.size+1,3,none⟩=some (.int .i64 (mn n v))∧wf.cell? ⟨w.heap.size+1+1,0,none⟩=some (.int .i64 (x))∧wf.cell? ⟨w.heap.size+1+1,1,none⟩=some (.int .i64 (y+mn n v))∧wf.cell? ⟨w.heap.size+1+1,2,none⟩=some (.int .i64 (u))∧wf.cell? ⟨w.heap.size+1+1,3,none⟩=some (.int .i64 (v - mn n v))) ⟨(by repeat (first | with_reducible exact Below.refl _ _ | with_reducible assumption | with_reducible refine balloc ?_ | (with_reducible refine bset ?_ ?_;rotate_left;((try dsimp only);omega)) | refine bkeep2 ?_ (by assumption) | with_reducible refine Below.drew ?_)),(XB.2.2.2.2 (w.heap.size+1) 0 (by omega)).trans XA.1,(XB.2.2.2.2 (w.heap.size+1) 1 (by omega)).trans XA.2.1,(XB.2.2.2.2 (w.heap.size+1) 2 (by omega)).trans XA.2.2.1,(XB.2.2.2.2 (w.heap.size+1) 3 (by omega)).trans XA.2.2.2.1,XB.1,XB.2.1,XB.2.2.1,XB.2.2.2.1⟩ (fun wf hwf=>?_)
 clear XA XB kb0_0 kb0_1 kb0_2 kb0_3 kb1_0 kb1_1 kb1_2 kb1_3 kg0_0 kg0_1 kg0_2 kg0_3 kg1_0 kg1_1 kg1_2 kg1_3;obtain ⟨hBf,z0,z1,z2,z3,z4,z5,z6,z7⟩:=hwf;go_wp2
 exact bodyPost_ret (v:=.tuple #[.agg #[.int .i64 (x),.int .i64 (y),.int .i64 (u),.int .i64 (mn n v)],.agg #[.int .i64 (x),.int .i64 (y+mn n v),.int .i64 (u),.int .i64 (v - mn n v)]]) (by simp only [results,Tryz.results239];go_simp) rfl ⟨rfl,(by repeat (first | with_reducible exact Below.refl _ _ | with_reducible assumption | with_reducible refine balloc ?_ | (with_reducible refine bset ?_ ?_;rotate_left;((try dsimp only);omega)) | refine bkeep2 ?_ (by assumption) | with_reducible refine Below.drew ?_))⟩
theorem cut1_w (x y u v n:Int) (w:World) (h1:vrW x y u v=true) (h2:0≤n) :
  Calls Tryz.prog 239 #[.agg #[.int .i64 (x),.int .i64 (y),.int .i64 (u),.int .i64 (v)],.int .i64 1,.int .i64 n] w fun e w'=>e=.returned (.tuple #[.agg #[.int .i64 (x),.int .i64 (y+(v - mn n v)),.int .i64 (u),.int .i64 (mn n v)],.agg #[.int .i64 (x),.int .i64 (y),.int .i64 (u),.int .i64 (v - mn n v)]])∧Below w.heap.size w w':=by
 have i0:∀ w,(Instr.index 254 (.agg #[.func (.func 242) #[] #[],.func (.func 243) #[] #[],.func (.func 244) #[] #[],.func (.func 245) #[] #[]]) (.int .i64 1)).run Tryz.prog w=.ok (.func (.func 243) #[] #[]) w:=fun _=>by kernel_rfl
 go_enter Tryz.func239,Tryz.ntmps239
 go_wp2_with fail
 refine wp_region_grow 8 2 (·<8) (by kernel_rfl) (by kernel_rfl) rfl ?_
 iterate 8 (refine wpG_step (fun K hK=>?_);apply Exists.intro;refine ⟨.inl ⟨rfl,fun w' hw'=>?_⟩,?_⟩;(focus ((obtain ⟨hc,hf⟩:=bcell hw'.out);(have hcS:=bcellS hw'.out);go_simp <;> first | rfl | (go_at_call 241;exact cutters_any _) | (go_at_call 243;exact cutBottom_w x y u v n _ h1 h2)));(go_simp;refine hK _ ?_;clear hK K))
 refine wpG_nil ?_;refine wpK_tail (by kernel_rfl) (fun wt1 ht1=>?_);obtain ⟨hct1,hft1⟩:=bcell ht1.out
 have kb0_0:wt1.cell? ⟨w.heap.size+1,0,none⟩=some (.int .i64 (0)):=by go_simp
 have kg0_0:wt1.frozen? ⟨w.heap.size+1,0,none⟩=false:=by go_simp
 have kb0_1:wt1.cell? ⟨w.heap.size+1,1,none⟩=some (.int .i64 (0)):=by go_simp
 have kg0_1:wt1.frozen? ⟨w.heap.size+1,1,none⟩=false:=by go_simp
 have kb0_2:wt1.cell? ⟨w.heap.size+1,2,none⟩=some (.int .i64 (0)):=by go_simp
 have kg0_2:wt1.frozen? ⟨w.heap.size+1,2,none⟩=false:=by go_simp
 have kb0_3:wt1.cell? ⟨w.heap.size+1,3,none⟩=some (.int .i64 (0)):=by go_simp
 have kg0_3:wt1.frozen? ⟨w.heap.size+1,3,none⟩=false:=by go_simp
 have kb1_0:wt1.cell? ⟨w.heap.size+1+1,0,none⟩=some (.int .i64 (0)):=by go_simp
 have kg1_0:wt1.frozen? ⟨w.heap.size+1+1,0,none⟩=false:=by go_simp
 have kb1_1:wt1.cell? ⟨w.heap.size+1+1,1,none⟩=some (.int .i64 (0)):=by go_simp
 have kg1_1:wt1.frozen? ⟨w.heap.size+1+1,1,none⟩=false:=by go_simp
 have kb1_2:wt1.cell? ⟨w.heap.size+1+1,2,none⟩=some (.int .i64 (0)):=by go_simp
 have kg1_2:wt1.frozen? ⟨w.heap.size+1+1,2,none⟩=false:=by go_simp
 have kb1_3:wt1.cell? ⟨w.heap.size+1+1,3,none⟩=some (.int .i64 (0)):=by go_simp
 have kg1_3:wt1.frozen? ⟨w.heap.size+1+1,3,none⟩=false:=by go_simp
 clear hct1 hft1;refine wpAny_one (i:=8) (by kernel_rfl) rfl rfl ?_;go_simp;refine wpAny_one (i:=9) (by kernel_rfl) rfl rfl ?_;go_simp;refine wpAny_end (by kernel_rfl) ?_;have XA:=box4 (w:=wt1) (b:=w.heap.size+1) (.int .i64 (x)) (.int .i64 (y+(v - mn n v))) (.int .i64 (u)) (.int .i64 (mn n v)) kb0_0 kb0_1 kb0_2 kb0_3
 have XB:=box4 (b:=w.heap.size+1+1) (.int .i64 (x)) (.int .i64 (y)) (.int .i64 (u)) (.int .i64 (v - mn n v)) ((XA.2.2.2.2 (w.heap.size+1+1) 0 (by omega)).trans kb1_0) ((XA.2.2.2.2 (w.heap.size+1+1) 1 (by omega)).trans kb1_1) ((XA.2.2.2.2 (w.heap.size+1+1) 2 (by omega)).trans kb1_2) ((XA.2.2.2.2 (w.heap.size+1+1) 3 (by omega)).trans kb1_3)
 refine NoPan.gen (fun wf=>Below w.heap.size w wf∧wf.cell? ⟨w.heap.size+1,0,none⟩=some (.int .i64 (x))∧wf.cell? ⟨w.heap.size+1,1,none⟩=some (.int .i64 (y+(v - mn n v)))∧wf.cell? ⟨w.heap.size+1,2,none⟩=some (.int .i64 (u))∧wf.cell? ⟨w.heap.size+1,3,none⟩=some (.int .i64 (mn n v))∧wf.cell? ⟨w.heap.size+1+1,0,none⟩=some (.int .i64 (x))∧wf.cell? ⟨w.heap.size+1+1,1,none⟩=some (.int .i64 (y))∧wf.cell? ⟨w.heap.size+1+1,2,none⟩=some (.int .i64 (u))∧wf.cell? ⟨w.heap.size+1+1,3,none⟩=some (.int .i64 (v - mn n v))) ⟨(by repeat (first | with_reducible exact Below.refl _ _ | with_reducible assumption | with_reducible refine balloc ?_ | (with_reducible refine bset ?_ ?_;rotate_left;((try dsimp only);omega)) | refine bkeep2 ?_ (by assumption) | with_reducible refine Below.drew ?_)),(XB.2.2.2.2 (w.heap.size+1) 0 (by omega)).trans XA.1,(XB.2.2.2.2 (w.heap.size+1) 1 (by omega)).trans XA.2.1,(XB.2.2.2.2 (w.heap.size+1) 2 (by omega)).trans XA.2.2.1,(XB.2.2.2.2 (w.heap.size+1) 3 (by omega)).trans XA.2.2.2.1,XB.1,XB.2.1,XB.2.2.1,XB.2.2.2.1⟩ (fun wf hwf=>?_)
 clear XA XB kb0_0 kb0_1 kb0_2 kb0_3 kb1_0 kb1_1 kb1_2 kb1_3 kg0_0 kg0_1 kg0_2 kg0_3 kg1_0 kg1_1 kg1_2 kg1_3;obtain ⟨hBf,z0,z1,z2,z3,z4,z5,z6,z7⟩:=hwf;go_wp2
 exact bodyPost_ret (v:=.tuple #[.agg #[.int .i64 (x),.int .i64 (y+(v - mn n v)),.int .i64 (u),.int .i64 (mn n v)],.agg #[.int .i64 (x),.int .i64 (y),.int .i64 (u),.int .i64 (v - mn n v)]]) (by simp only [results,Tryz.results239];go_simp) rfl ⟨rfl,(by repeat (first | with_reducible exact Below.refl _ _ | with_reducible assumption | with_reducible refine balloc ?_ | (with_reducible refine bset ?_ ?_;rotate_left;((try dsimp only);omega)) | refine bkeep2 ?_ (by assumption) | with_reducible refine Below.drew ?_))⟩
theorem cut2_w (x y u v n:Int) (w:World) (h1:vrW x y u v=true) (h2:0≤n) :
  Calls Tryz.prog 239 #[.agg #[.int .i64 (x),.int .i64 (y),.int .i64 (u),.int .i64 (v)],.int .i64 2,.int .i64 n] w fun e w'=>e=.returned (.tuple #[.agg #[.int .i64 (x),.int .i64 (y),.int .i64 (mn n u),.int .i64 (v)],.agg #[.int .i64 (x+mn n u),.int .i64 (y),.int .i64 (u - mn n u),.int .i64 (v)]])∧Below w.heap.size w w':=by
 have i0:∀ w,(Instr.index 254 (.agg #[.func (.func 242) #[] #[],.func (.func 243) #[] #[],.func (.func 244) #[] #[],.func (.func 245) #[] #[]]) (.int .i64 2)).run Tryz.prog w=.ok (.func (.func 244) #[] #[]) w:=fun _=>by kernel_rfl
 go_enter Tryz.func239,Tryz.ntmps239
 go_wp2_with fail
 refine wp_region_grow 8 2 (·<8) (by kernel_rfl) (by kernel_rfl) rfl ?_
 iterate 8 (refine wpG_step (fun K hK=>?_);apply Exists.intro;refine ⟨.inl ⟨rfl,fun w' hw'=>?_⟩,?_⟩;(focus ((obtain ⟨hc,hf⟩:=bcell hw'.out);(have hcS:=bcellS hw'.out);go_simp <;> first | rfl | (go_at_call 241;exact cutters_any _) | (go_at_call 244;exact cutLeft_w x y u v n (mn n u) (u - mn n u) _ h1 h2 rfl rfl)));(go_simp;refine hK _ ?_;clear hK K))
 refine wpG_nil ?_;refine wpK_tail (by kernel_rfl) (fun wt1 ht1=>?_);obtain ⟨hct1,hft1⟩:=bcell ht1.out
 have kb0_0:wt1.cell? ⟨w.heap.size+1,0,none⟩=some (.int .i64 (0)):=by go_simp
 have kg0_0:wt1.frozen? ⟨w.heap.size+1,0,none⟩=false:=by go_simp
 have kb0_1:wt1.cell? ⟨w.heap.size+1,1,none⟩=some (.int .i64 (0)):=by go_simp
 have kg0_1:wt1.frozen? ⟨w.heap.size+1,1,none⟩=false:=by go_simp
 have kb0_2:wt1.cell? ⟨w.heap.size+1,2,none⟩=some (.int .i64 (0)):=by go_simp
 have kg0_2:wt1.frozen? ⟨w.heap.size+1,2,none⟩=false:=by go_simp
 have kb0_3:wt1.cell? ⟨w.heap.size+1,3,none⟩=some (.int .i64 (0)):=by go_simp
 have kg0_3:wt1.frozen? ⟨w.heap.size+1,3,none⟩=false:=by go_simp
 have kb1_0:wt1.cell? ⟨w.heap.size+1+1,0,none⟩=some (.int .i64 (0)):=by go_simp
 have kg1_0:wt1.frozen? ⟨w.heap.size+1+1,0,none⟩=false:=by go_simp
 have kb1_1:wt1.cell? ⟨w.heap.size+1+1,1,none⟩=some (.int .i64 (0)):=by go_simp
 have kg1_1:wt1.frozen? ⟨w.heap.size+1+1,1,none⟩=false:=by go_simp
 have kb1_2:wt1.cell? ⟨w.heap.size+1+1,2,none⟩=some (.int .i64 (0)):=by go_simp
 have kg1_2:wt1.frozen? ⟨w.heap.size+1+1,2,none⟩=false:=by go_simp
 have kb1_3:wt1.cell? ⟨w.heap.size+1+1,3,none⟩=some (.int .i64 (0)):=by go_simp
 have kg1_3:wt1.frozen? ⟨w.heap.size+1+1,3,none⟩=false:=by go_simp
 clear hct1 hft1;refine wpAny_one (i:=8) (by kernel_rfl) rfl rfl ?_;go_simp;refine wpAny_one (i:=9) (by kernel_rfl) rfl rfl ?_;go_simp;refine wpAny_end (by kernel_rfl) ?_;have XA:=box4 (w:=wt1) (b:=w.heap.size+1) (.int .i64 (x)) (.int .i64 (y)) (.int .i64 (mn n u)) (.int .i64 (v)) kb0_0 kb0_1 kb0_2 kb0_3
 have XB:=box4 (b:=w.heap.size+1+1) (.int .i64 (x+mn n u)) (.int .i64 (y)) (.int .i64 (u - mn n u)) (.int .i64 (v)) ((XA.2.2.2.2 (w.heap.size+1+1) 0 (by omega)).trans kb1_0) ((XA.2.2.2.2 (w.heap.size+1+1) 1 (by omega)).trans kb1_1) ((XA.2.2.2.2 (w.heap.size+1+1) 2 (by omega)).trans kb1_2) ((XA.2.2.2.2 (w.heap.size+1+1) 3 (by omega)).trans kb1_3)
 refine NoPan.gen (fun wf=>Below w.heap.size w wf∧wf.cell? ⟨w.heap.size+1,0,none⟩=some (.int .i64 (x))∧wf.cell? ⟨w.heap.size+1,1,none⟩=some (.int .i64 (y))∧wf.cell? ⟨w.heap.size+1,2,none⟩=some (.int .i64 (mn n u))∧wf.cell? ⟨w.heap.size+1,3,none⟩=some (.int .i64 (v))∧wf.cell? ⟨w.heap.size+1+1,0,none⟩=some (.int .i64 (x+mn n u))∧wf.cell? ⟨w.heap.size+1+1,1,none⟩=some (.int .i64 (y))∧wf.cell? ⟨w.heap.size+1+1,2,none⟩=some (.int .i64 (u - mn n u))∧wf.cell? ⟨w.heap.size+1+1,3,none⟩=some (.int .i64 (v))) ⟨(by repeat (first | with_reducible exact Below.refl _ _ | with_reducible assumption | with_reducible refine balloc ?_ | (with_reducible refine bset ?_ ?_;rotate_left;((try dsimp only);omega)) | refine bkeep2 ?_ (by assumption) | with_reducible refine Below.drew ?_)),(XB.2.2.2.2 (w.heap.size+1) 0 (by omega)).trans XA.1,(XB.2.2.2.2 (w.heap.size+1) 1 (by omega)).trans XA.2.1,(XB.2.2.2.2 (w.heap.size+1) 2 (by omega)).trans XA.2.2.1,(XB.2.2.2.2 (w.heap.size+1) 3 (by omega)).trans XA.2.2.2.1,XB.1,XB.2.1,XB.2.2.1,XB.2.2.2.1⟩ (fun wf hwf=>?_)
 clear XA XB kb0_0 kb0_1 kb0_2 kb0_3 kb1_0 kb1_1 kb1_2 kb1_3 kg0_0 kg0_1 kg0_2 kg0_3 kg1_0 kg1_1 kg1_2 kg1_3;obtain ⟨hBf,z0,z1,z2,z3,z4,z5,z6,z7⟩:=hwf;go_wp2
 exact bodyPost_ret (v:=.tuple #[.agg #[.int .i64 (x),.int .i64 (y),.int .i64 (mn n u),.int .i64 (v)],.agg #[.int .i64 (x+mn n u),.int .i64 (y),.int .i64 (u - mn n u),.int .i64 (v)]]) (by simp only [results,Tryz.results239];go_simp) rfl ⟨rfl,(by repeat (first | with_reducible exact Below.refl _ _ | with_reducible assumption | with_reducible refine balloc ?_ | (with_reducible refine bset ?_ ?_;rotate_left;((try dsimp only);omega)) | refine bkeep2 ?_ (by assumption) | with_reducible refine Below.drew ?_))⟩
theorem cut3_w (x y u v n:Int) (w:World) (h1:vrW x y u v=true) (h2:0≤n) :
  Calls Tryz.prog 239 #[.agg #[.int .i64 (x),.int .i64 (y),.int .i64 (u),.int .i64 (v)],.int .i64 3,.int .i64 n] w fun e w'=>e=.returned (.tuple #[.agg #[.int .i64 (x+(u - mn n u)),.int .i64 (y),.int .i64 (mn n u),.int .i64 (v)],.agg #[.int .i64 (x),.int .i64 (y),.int .i64 (u - mn n u),.int .i64 (v)]])∧Below w.heap.size w w':=by
 have i0:∀ w,(Instr.index 254 (.agg #[.func (.func 242) #[] #[],.func (.func 243) #[] #[],.func (.func 244) #[] #[],.func (.func 245) #[] #[]]) (.int .i64 3)).run Tryz.prog w=.ok (.func (.func 245) #[] #[]) w:=fun _=>by kernel_rfl
 go_enter Tryz.func239,Tryz.ntmps239
 go_wp2_with fail
 refine wp_region_grow 8 2 (·<8) (by kernel_rfl) (by kernel_rfl) rfl ?_
 iterate 8 (refine wpG_step (fun K hK=>?_);apply Exists.intro;refine ⟨.inl ⟨rfl,fun w' hw'=>?_⟩,?_⟩;(focus ((obtain ⟨hc,hf⟩:=bcell hw'.out);(have hcS:=bcellS hw'.out);go_simp <;> first | rfl | (go_at_call 241;exact cutters_any _) | (go_at_call 245;exact cutRight_w x y u v n _ h1 h2)));(go_simp;refine hK _ ?_;clear hK K))
 refine wpG_nil ?_;refine wpK_tail (by kernel_rfl) (fun wt1 ht1=>?_);obtain ⟨hct1,hft1⟩:=bcell ht1.out
 have kb0_0:wt1.cell? ⟨w.heap.size+1,0,none⟩=some (.int .i64 (0)):=by go_simp
 have kg0_0:wt1.frozen? ⟨w.heap.size+1,0,none⟩=false:=by go_simp
 have kb0_1:wt1.cell? ⟨w.heap.size+1,1,none⟩=some (.int .i64 (0)):=by go_simp
 have kg0_1:wt1.frozen? ⟨w.heap.size+1,1,none⟩=false:=by go_simp
 have kb0_2:wt1.cell? ⟨w.heap.size+1,2,none⟩=some (.int .i64 (0)):=by go_simp
 have kg0_2:wt1.frozen? ⟨w.heap.size+1,2,none⟩=false:=by go_simp
 have kb0_3:wt1.cell? ⟨w.heap.size+1,3,none⟩=some (.int .i64 (0)):=by go_simp
 have kg0_3:wt1.frozen? ⟨w.heap.size+1,3,none⟩=false:=by go_simp
 have kb1_0:wt1.cell? ⟨w.heap.size+1+1,0,none⟩=some (.int .i64 (0)):=by go_simp
 have kg1_0:wt1.frozen? ⟨w.heap.size+1+1,0,none⟩=false:=by go_simp
 have kb1_1:wt1.cell? ⟨w.heap.size+1+1,1,none⟩=some (.int .i64 (0)):=by go_simp
 have kg1_1:wt1.frozen? ⟨w.heap.size+1+1,1,none⟩=false:=by go_simp
 have kb1_2:wt1.cell? ⟨w.heap.size+1+1,2,none⟩=some (.int .i64 (0)):=by go_simp
 have kg1_2:wt1.frozen? ⟨w.heap.size+1+1,2,none⟩=false:=by go_simp
 have kb1_3:wt1.cell? ⟨w.heap.size+1+1,3,none⟩=some (.int .i64 (0)):=by go_simp
 have kg1_3:wt1.frozen? ⟨w.heap.size+1+1,3,none⟩=false:=by go_simp
 clear hct1 hft1;refine wpAny_one (i:=8) (by kernel_rfl) rfl rfl ?_;go_simp;refine wpAny_one (i:=9) (by kernel_rfl) rfl rfl ?_;go_simp;refine wpAny_end (by kernel_rfl) ?_;have XA:=box4 (w:=wt1) (b:=w.heap.size+1) (.int .i64 (x+(u - mn n u))) (.int .i64 (y)) (.int .i64 (mn n u)) (.int .i64 (v)) kb0_0 kb0_1 kb0_2 kb0_3
 have XB:=box4 (b:=w.heap.size+1+1) (.int .i64 (x)) (.int .i64 (y)) (.int .i64 (u - mn n u)) (.int .i64 (v)) ((XA.2.2.2.2 (w.heap.size+1+1) 0 (by omega)).trans kb1_0) ((XA.2.2.2.2 (w.heap.size+1+1) 1 (by omega)).trans kb1_1) ((XA.2.2.2.2 (w.heap.size+1+1) 2 (by omega)).trans kb1_2) ((XA.2.2.2.2 (w.heap.size+1+1) 3 (by omega)).trans kb1_3)
 refine NoPan.gen (fun wf=>Below w.heap.size w wf∧wf.cell? ⟨w.heap.size+1,0,none⟩=some (.int .i64 (x+(u - mn n u)))∧wf.cell? ⟨w.heap.size+1,1,none⟩=some (.int .i64 (y))∧wf.cell? ⟨w.heap.size+1,2,none⟩=some (.int .i64 (mn n u))∧wf.cell? ⟨w.heap.size+1,3,none⟩=some (.int .i64 (v))∧wf.cell? ⟨w.heap.size+1+1,0,none⟩=some (.int .i64 (x))∧wf.cell? ⟨w.heap.size+1+1,1,none⟩=some (.int .i64 (y))∧wf.cell? ⟨w.heap.size+1+1,2,none⟩=some (.int .i64 (u - mn n u))∧wf.cell? ⟨w.heap.size+1+1,3,none⟩=some (.int .i64 (v))) ⟨(by repeat (first | with_reducible exact Below.refl _ _ | with_reducible assumption | with_reducible refine balloc ?_ | (with_reducible refine bset ?_ ?_;rotate_left;((try dsimp only);omega)) | refine bkeep2 ?_ (by assumption) | with_reducible refine Below.drew ?_)),(XB.2.2.2.2 (w.heap.size+1) 0 (by omega)).trans XA.1,(XB.2.2.2.2 (w.heap.size+1) 1 (by omega)).trans XA.2.1,(XB.2.2.2.2 (w.heap.size+1) 2 (by omega)).trans XA.2.2.1,(XB.2.2.2.2 (w.heap.size+1) 3 (by omega)).trans XA.2.2.2.1,XB.1,XB.2.1,XB.2.2.1,XB.2.2.2.1⟩ (fun wf hwf=>?_)
 clear XA XB kb0_0 kb0_1 kb0_2 kb0_3 kb1_0 kb1_1 kb1_2 kb1_3 kg0_0 kg0_1 kg0_2 kg0_3 kg1_0 kg1_1 kg1_2 kg1_3;obtain ⟨hBf,z0,z1,z2,z3,z4,z5,z6,z7⟩:=hwf;go_wp2
 exact bodyPost_ret (v:=.tuple #[.agg #[.int .i64 (x+(u - mn n u)),.int .i64 (y),.int .i64 (mn n u),.int .i64 (v)],.agg #[.int .i64 (x),.int .i64 (y),.int .i64 (u - mn n u),.int .i64 (v)]]) (by simp only [results,Tryz.results239];go_simp) rfl ⟨rfl,(by repeat (first | with_reducible exact Below.refl _ _ | with_reducible assumption | with_reducible refine balloc ?_ | (with_reducible refine bset ?_ ?_;rotate_left;((try dsimp only);omega)) | refine bkeep2 ?_ (by assumption) | with_reducible refine Below.drew ?_))⟩
end
end Go.Proofs.YtenckjdiggaonaaGreat
