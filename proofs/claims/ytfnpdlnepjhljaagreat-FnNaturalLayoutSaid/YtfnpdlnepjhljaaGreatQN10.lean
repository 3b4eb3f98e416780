import Derived.Test.YtfnpdlnepjhljaaGreatQN09
set_option linter.unusedVariables false
set_option linter.unusedSimpArgs false
set_option maxRecDepth 100000
set_option maxHeartbeats 16000000
namespace Go.Proofs.YtfnpdlnepjhljaaGreat
open Go.RowKit
attribute [local go_sem] growUpon_value growUpon_skip growUpon_enter
section
attribute [local go_sem 5000] run_mx run_mn run_eqlR run_neqR
def vrW (x y w h:Int):Bool:=decide (0≤w∧w≤20000000000000∧0≤h∧h≤20000000000000∧-1000000000000000≤x∧x+w≤1000000000000000∧-1000000000000000≤y∧y+h≤1000000000000000)
theorem vrW_iff {x y w h:Int}:vrW x y w h=true↔(0≤w∧w≤20000000000000∧0≤h∧h≤20000000000000∧-1000000000000000≤x∧x+w≤1000000000000000∧-1000000000000000≤y∧y+h≤1000000000000000):=by simp [vrW]
theorem Rc.okW_vr {r:Rc} (h:r.okW):vrW r.x r.y r.u r.v=true:=by
 obtain ⟨⟨⟨a1,a2⟩,a3,a4⟩,⟨a5,a6⟩,a7,a8⟩:=h;exact vrW_iff.2 ⟨a5,a6,a7,a8,a1,a2,a3,a4⟩
def SmW (a b c d:Int):Prop:=(-8000000000000000≤a∧a≤8000000000000000)∧(-8000000000000000≤b∧b≤8000000000000000)∧(-8000000000000000≤c∧c≤8000000000000000)∧(-8000000000000000≤d∧d≤8000000000000000)
theorem SmW_of {a b c d:Int} (h:(-8000000000000000≤a∧a≤8000000000000000)∧(-8000000000000000≤b∧b≤8000000000000000)∧(-8000000000000000≤c∧c≤8000000000000000)∧(-8000000000000000≤d∧d≤8000000000000000)):SmW a b c d:=h
theorem SmW.out {a b c d:Int} (h:SmW a b c d):(-8000000000000000≤a∧a≤8000000000000000)∧(-8000000000000000≤b∧b≤8000000000000000)∧(-8000000000000000≤c∧c≤8000000000000000)∧(-8000000000000000≤d∧d≤8000000000000000):=h
theorem SmW_vr {x y u v:Int} (h:vrW x y u v=true):SmW x y u v:=by rw [vrW_iff] at h;apply SmW_of;omega
theorem right_w (x y u v:Int) (w:World) (hS:SmW x y u v):Calls Tryz.prog 117 #[.agg #[.int .i64 (x),.int .i64 (y),.int .i64 (u),.int .i64 (v)]] w fun e w'=>e=.returned (.int .i64 (x+u))∧Below w.heap.size w w':=by
 obtain ⟨⟨s1,s2⟩,⟨s3,s4⟩,⟨s5,s6⟩,⟨s7,s8⟩⟩:=hS.out;clear hS
 go_enter Tryz.func117,Tryz.ntmps117
 go_wp2
 all_goals try go_quiet (fail)
 all_goals try go_wp2
 go_ret;exact ⟨rfl,((Below.refl _ _).alloc (Nat.le_refl _) _)⟩
theorem bottom_w (x y u v:Int) (w:World) (hS:SmW x y u v):Calls Tryz.prog 118 #[.agg #[.int .i64 (x),.int .i64 (y),.int .i64 (u),.int .i64 (v)]] w fun e w'=>e=.returned (.int .i64 (y+v))∧Below w.heap.size w w':=by
 obtain ⟨⟨s1,s2⟩,⟨s3,s4⟩,⟨s5,s6⟩,⟨s7,s8⟩⟩:=hS.out;clear hS
 go_enter Tryz.func118,Tryz.ntmps118
 go_wp2
 all_goals try go_quiet (fail)
 all_goals try go_wp2
 go_ret;exact ⟨rfl,((Below.refl _ _).alloc (Nat.le_refl _) _)⟩
theorem corners_w (l t r b:Int) (w:World) (hS:SmW l t r b) :
  Calls Tryz.prog 155 #[.int .i64 l,.int .i64 t,.int .i64 r,.int .i64 b] w fun e w'=>e=.returned (.agg #[.int .i64 (l),.int .i64 (t),.int .i64 (r-l),.int .i64 (b-t)])∧Below w.heap.size w w':=by
 obtain ⟨⟨s1,s2⟩,⟨s3,s4⟩,⟨s5,s6⟩,⟨s7,s8⟩⟩:=hS.out;clear hS
 go_enter Tryz.func155,Tryz.ntmps155
 go_wp2;exact bodyPost_ret (v:=.agg #[.int .i64 (l),.int .i64 (t),.int .i64 (r-l),.int .i64 (b-t)]) (by simp [results,Tryz.results155,go_sem]) rfl ⟨rfl,(Below.refl _ _).alloc (Nat.le_refl _) _⟩
theorem corners_eqW (l t r b W H:Int) (w:World) (hS:SmW l t r b) (hW:r-l=W) (hH:b-t=H) :
  Calls Tryz.prog 155 #[.int .i64 l,.int .i64 t,.int .i64 r,.int .i64 b] w fun e w'=>e=.returned (.agg #[.int .i64 (l),.int .i64 (t),.int .i64 (W),.int .i64 (H)])∧Below w.heap.size w w':=by
 subst hW hH;exact corners_w l t r b w hS
theorem cutTop_w (x y u v n m k:Int) (w:World) (h1:vrW x y u v=true) (h2:0≤n) (hm:mn n v=m) (hk:v-m=k) :
  Calls Tryz.prog 248 #[.agg #[.int .i64 (x),.int .i64 (y),.int .i64 (u),.int .i64 (v)],.int .i64 n] w fun e w'=>e=.returned (.tuple #[.agg #[.int .i64 (x),.int .i64 (y),.int .i64 (u),.int .i64 (m)],.agg #[.int .i64 (x),.int .i64 (y+m),.int .i64 (u),.int .i64 (k)]])∧Below w.heap.size w w':=by
 obtain ⟨a1,a2,a3,a4,a5,a6,a7,a8⟩:=vrW_iff.1 h1;have g:=mn_spec n v;rw [hm] at g
 have g1:0≤m:=by omega
 have g2:m≤v:=by omega
 have S1:=SmW_vr h1;have S2:SmW x y (x+u) (y+m):=SmW_of (by omega);have S3:SmW x (y+m) (x+u) (y+v):=SmW_of (by omega);clear g h1
 have hk1:v-m≤k:=by omega
 have hk2:k≤v-m:=by omega
 clear hk
 go_enter Tryz.func248,Tryz.ntmps248
 go_wp2_with fail
 refine wp_region_grow 16 2 (·<16) (by kernel_rfl) (by kernel_rfl) rfl ?_
 iterate 16 (refine wpG_step (fun K hK=>?_);apply Exists.intro;refine ⟨.inl ⟨rfl,fun w' hw'=>?_⟩,?_⟩;(focus ((obtain ⟨hc,hf⟩:=bcell hw'.out);(have hcS:=bcellS hw'.out);go_simp <;> first | rfl|(go_at_call 117;exact right_w _ _ _ _ _ (by assumption))|(go_at_call 118;exact bottom_w _ _ _ _ _ (by assumption))|(go_at_call 155;refine corners_eqW _ _ _ _ u m _ ?_ ?_ ?_;assumption;omega;omega)|(go_at_call 155;refine corners_eqW _ _ _ _ u k _ ?_ ?_ ?_;assumption;omega;omega)));(go_simp;refine hK _ ?_;clear hK K))
 refine wpG_nil ?_;refine wpK_tail (by kernel_rfl) (fun wt1 ht1=>?_);obtain ⟨hct1,hft1⟩:=bcell ht1.out
 have kb0_0:wt1.cell? ⟨w.heap.size+1,0,none⟩=some (.int .i64 (0)):=by go_simp
 have kg0_0:wt1.frozen? ⟨w.heap.size+1,0,none⟩=false:=by go_simp
 have kb0_1:wt1.cell? ⟨w.heap.size+1,1,none⟩=some (.int .i64 (0)):=by go_simp
 have kg0_1:wt1.frozen? ⟨w.heap.size+1,1,none⟩=false:=by go_simp
 have kb0_2:wt1.cell? ⟨w.heap.size+1,2,none⟩=some (.int .i64 (0)):=by go_simp
 have kg0_2:wt1.frozen? ⟨w.heap.size+1,2,none⟩=false:=by go_simp
 have kb0_3:wt1.cell? ⟨w.heap.size+1,3,none⟩=some (.int .i64 (0)):=by go_simp
 have kg0_3:wt1.frozen? ⟨w.heap.size+1,3,none⟩=false:=by go_simp
 have kb1_0:wt1.cell? ⟨w.heap.size+1+1,0,none⟩=some (.int .i64 (0)):=by go_simp
 have kg1_0:wt1.frozen? ⟨w.heap.size+1+1,0,none⟩=false:=by go_simp
 have kb1_1:wt1.cell? ⟨w.heap.size+1+1,1,none⟩=some (.int .i64 (0)):=by go_simp
 have kg1_1:wt1.frozen? ⟨w.heap.size+1+1,1,none⟩=false:=by go_simp
 have kb1_2:wt1.cell? ⟨w.heap.size+1+1,2,none⟩=some (.int .i64 (0)):=by go_simp
 have kg1_2:wt1.frozen? ⟨w.heap.size+1+1,2,none⟩=false:=by go_simp
 have kb1_3:wt1.cell? ⟨w.heap.size+1+1,3,none⟩=some (.int .i64 (0)):=by go_simp
 have kg1_3:wt1.frozen? ⟨w.heap.size+1+1,3,none⟩=false:=by go_simp
 clear hct1 hft1;refine wpAny_one (i:=16) (by kernel_rfl) rfl rfl ?_;go_simp;refine wpAny_one (i:=17) (by kernel_rfl) rfl rfl ?_;go_simp;refine wpAny_end (by kernel_rfl) ?_;have XA:=box4 (w:=wt1) (b:=w.heap.size+1) (.int .i64 (x)) (.int .i64 (y)) (.int .i64 (u)) (.int .i64 (m)) kb0_0 kb0_1 kb0_2 kb0_3
 have XB:=box4 (b:=w.heap.size+1+1) (.int .i64 (x)) (.int .i64 (y+m)) (.int .i64 (u)) (.int .i64 (k)) ((XA.2.2.2.2 (w.heap.size+1+1) 0 (by omega)).trans kb1_0) ((XA.2.2.2.2 (w.heap.size+1+1) 1 (by omega)).trans kb1_1) ((XA.2.2.2.2 (w.heap.size+1+1) 2 (by omega)).trans kb1_2) ((XA.2.2.2.2 (w.heap.size+1+1) 3 (by omega)).trans kb1_3)
 refine NoPan.gen (fun wf=>Below w.heap.size w wf∧wf.cell? ⟨w.heap.size+1,0,none⟩=some (.int .i64 (x))∧wf.cell? ⟨w.heap.size+1,1,none⟩=some (.int .i64 (y))∧wf.cell? ⟨w.heap.size+1,2,none⟩=some (.int .i64 (u))∧wf.cell? ⟨w.heap.size+1,3,none⟩=some (.int .i64 (m))∧wf.cell? ⟨w.heap.size+1+1,0,none⟩=some (.int .i64 (x))∧wf.cell? ⟨w.heap.size+1+1,1,none⟩=some (.int .i64 (y+m))∧wf.cell? ⟨w.heap.size+1+1,2,none⟩=some (.int .i64 (u))∧wf.cell? ⟨w.heap.size+1+1,3,none⟩=some (.int .i64 (k))) ⟨(by repeat (first | with_reducible exact Below.refl _ _ | with_reducible assumption | with_reducible refine balloc ?_|(with_reducible refine bset ?_ ?_;rotate_left;((try dsimp only);omega)) | refine bkeep2 ?_ (by assumption) | with_reducible refine Below.drew ?_)),(XB.2.2.2.2 (w.heap.size+1) 0 (by omega)).trans XA.1,(XB.2.2.2.2 (w.heap.size+1) 1 (by omega)).trans XA.2.1,(XB.2.2.2.2 (w.heap.size+1) 2 (by omega)).trans XA.2.2.1,(XB.2.2.2.2 (w.heap.size+1) 3 (by omega)).trans XA.2.2.2.1,XB.1,XB.2.1,XB.2.2.1,XB.2.2.2.1⟩ (fun wf hwf=>?_)
 clear XA XB kb0_0 kb0_1 kb0_2 kb0_3 kb1_0 kb1_1 kb1_2 kb1_3 kg0_0 kg0_1 kg0_2 kg0_3 kg1_0 kg1_1 kg1_2 kg1_3;obtain ⟨hBf,z0,z1,z2,z3,z4,z5,z6,z7⟩:=hwf;go_wp2
 exact bodyPost_ret (v:=.tuple #[.agg #[.int .i64 (x),.int .i64 (y),.int .i64 (u),.int .i64 (m)],.agg #[.int .i64 (x),.int .i64 (y+m),.int .i64 (u),.int .i64 (k)]]) (by simp only [results,Tryz.results248];go_simp) rfl ⟨rfl,(by repeat (first | with_reducible exact Below.refl _ _ | with_reducible assumption | with_reducible refine balloc ?_|(with_reducible refine bset ?_ ?_;rotate_left;((try dsimp only);omega)) | refine bkeep2 ?_ (by assumption) | with_reducible refine Below.drew ?_))⟩
theorem cutLeft_w (x y u v n m k:Int) (w:World) (h1:vrW x y u v=true) (h2:0≤n) (hm:mn n u=m) (hk:u-m=k) :
  Calls Tryz.prog 250 #[.agg #[.int .i64 (x),.int .i64 (y),.int .i64 (u),.int .i64 (v)],.int .i64 n] w fun e w'=>e=.returned (.tuple #[.agg #[.int .i64 (x),.int .i64 (y),.int .i64 (m),.int .i64 (v)],.agg #[.int .i64 (x+m),.int .i64 (y),.int .i64 (k),.int .i64 (v)]])∧Below w.heap.size w w':=by
 obtain ⟨a1,a2,a3,a4,a5,a6,a7,a8⟩:=vrW_iff.1 h1;have g:=mn_spec n u;rw [hm] at g
 have g1:0≤m:=by omega
 have g2:m≤u:=by omega
 have S1:=SmW_vr h1;have S2:SmW x y (x+m) (y+v):=SmW_of (by omega);have S3:SmW (x+m) y (x+u) (y+v):=SmW_of (by omega);clear g h1
 have hk1:u-m≤k:=by omega
 have hk2:k≤u-m:=by omega
 clear hk
 go_enter Tryz.func250,Tryz.ntmps250
 go_wp2_with fail
 refine wp_region_grow 16 2 (·<16) (by kernel_rfl) (by kernel_rfl) rfl ?_
 iterate 16 (refine wpG_step (fun K hK=>?_);apply Exists.intro;refine ⟨.inl ⟨rfl,fun w' hw'=>?_⟩,?_⟩;(focus ((obtain ⟨hc,hf⟩:=bcell hw'.out);(have hcS:=bcellS hw'.out);go_simp <;> first | rfl|(go_at_call 117;exact right_w _ _ _ _ _ (by assumption))|(go_at_call 118;exact bottom_w _ _ _ _ _ (by assumption))|(go_at_call 155;refine corners_eqW _ _ _ _ m v _ ?_ ?_ ?_;assumption;omega;omega)|(go_at_call 155;refine corners_eqW _ _ _ _ k v _ ?_ ?_ ?_;assumption;omega;omega)));(go_simp;refine hK _ ?_;clear hK K))
 refine wpG_nil ?_;refine wpK_tail (by kernel_rfl) (fun wt1 ht1=>?_);obtain ⟨hct1,hft1⟩:=bcell ht1.out
 have kb0_0:wt1.cell? ⟨w.heap.size+1,0,none⟩=some (.int .i64 (0)):=by go_simp
 have kg0_0:wt1.frozen? ⟨w.heap.size+1,0,none⟩=false:=by go_simp
 have kb0_1:wt1.cell? ⟨w.heap.size+1,1,none⟩=some (.int .i64 (0)):=by go_simp
 have kg0_1:wt1.frozen? ⟨w.heap.size+1,1,none⟩=false:=by go_simp
 have kb0_2:wt1.cell? ⟨w.heap.size+1,2,none⟩=some (.int .i64 (0)):=by go_simp
 have kg0_2:wt1.frozen? ⟨w.heap.size+1,2,none⟩=false:=by go_simp
 have kb0_3:wt1.cell? ⟨w.heap.size+1,3,none⟩=some (.int .i64 (0)):=by go_simp
 have kg0_3:wt1.frozen? ⟨w.heap.size+1,3,none⟩=false:=by go_simp
 have kb1_0:wt1.cell? ⟨w.heap.size+1+1,0,none⟩=some (.int .i64 (0)):=by go_simp
 have kg1_0:wt1.frozen? ⟨w.heap.size+1+1,0,none⟩=false:=by go_simp
 have kb1_1:wt1.cell? ⟨w.heap.size+1+1,1,none⟩=some (.int .i64 (0)):=by go_simp
 have kg1_1:wt1.frozen? ⟨w.heap.size+1+1,1,none⟩=false:=by go_simp
 have kb1_2:wt1.cell? ⟨w.heap.size+1+1,2,none⟩=some (.int .i64 (0)):=by go_simp
 have kg1_2:wt1.frozen? ⟨w.heap.size+1+1,2,none⟩=false:=by go_simp
 have kb1_3:wt1.cell? ⟨w.heap.size+1+1,3,none⟩=some (.int .i64 (0)):=by go_simp
 have kg1_3:wt1.frozen? ⟨w.heap.size+1+1,3,none⟩=false:=by go_simp
 clear hct1 hft1;refine wpAny_one (i:=16) (by kernel_rfl) rfl rfl ?_;go_simp;refine wpAny_one (i:=17) (by kernel_rfl) rfl rfl ?_;go_simp;refine wpAny_end (by kernel_rfl) ?_;have XA:=box4 (w:=wt1) (b:=w.heap.size+1) (.int .i64 (x)) (.int .i64 (y)) (.int .i64 (m)) (.int .i64 (v)) kb0_0 kb0_1 kb0_2 kb0_3
 have XB:=box4 (b:=w.heap.size+1+1) (.int .i64 (x+m)) (.int .i64 (y)) (.int .i64 (k)) (.int .i64 (v)) ((XA.2.2.2.2 (w.heap.size+1+1) 0 (by omega)).trans kb1_0) ((XA.2.2.2.2 (w.heap.size+1+1) 1 (by omega)).trans kb1_1) ((XA.2.2.2.2 (w.heap.size+1+1) 2 (by omega)).trans kb1_2) ((XA.2.2.2.2 (w.heap.size+1+1) 3 (by omega)).trans kb1_3)
 refine NoPan.gen (fun wf=>Below w.heap.size w wf∧wf.cell? ⟨w.heap.size+1,0,none⟩=some (.int .i64 (x))∧wf.cell? ⟨w.heap.size+1,1,none⟩=some (.int .i64 (y))∧wf.cell? ⟨w.heap.size+1,2,none⟩=some (.int .i64 (m))∧wf.cell? ⟨w.heap.size+1,3,none⟩=some (.int .i64 (v))∧wf.cell? ⟨w.heap.size+1+1,0,none⟩=some (.int .i64 (x+m))∧wf.cell? ⟨w.heap.size+1+1,1,none⟩=some (.int .i64 (y))∧wf.cell? ⟨w.heap.size+1+1,2,none⟩=some (.int .i64 (k))∧wf.cell? ⟨w.heap.size+1+1,3,none⟩=some (.int .i64 (v))) ⟨(by repeat (first | with_reducible exact Below.refl _ _ | with_reducible assumption | with_reducible refine balloc ?_|(with_reducible refine bset ?_ ?_;rotate_left;((try dsimp only);omega)) | refine bkeep2 ?_ (by assumption) | with_reducible refine Below.drew ?_)),(XB.2.2.2.2 (w.heap.size+1) 0 (by omega)).trans XA.1,(XB.2.2.2.2 (w.heap.size+1) 1 (by omega)).trans XA.2.1,(XB.2.2.2.2 (w.heap.size+1) 2 (by omega)).trans XA.2.2.1,(XB.2.2.2.2 (w.heap.size+1) 3 (by omega)).trans XA.2.2.2.1,XB.1,XB.2.1,XB.2.2.1,XB.2.2.2.1⟩ (fun wf hwf=>?_)
 clear XA XB kb0_0 kb0_1 kb0_2 kb0_3 kb1_0 kb1_1 kb1_2 kb1_3 kg0_0 kg0_1 kg0_2 kg0_3 kg1_0 kg1_1 kg1_2 kg1_3;obtain ⟨hBf,z0,z1,z2,z3,z4,z5,z6,z7⟩:=hwf;go_wp2
 exact bodyPost_ret (v:=.tuple #[.agg #[.int .i64 (x),.int .i64 (y),.int .i64 (m),.int .i64 (v)],.agg #[.int .i64 (x+m),.int .i64 (y),.int .i64 (k),.int .i64 (v)]]) (by simp only [results,Tryz.results250];go_simp) rfl ⟨rfl,(by repeat (first | with_reducible exact Below.refl _ _ | with_reducible assumption | with_reducible refine balloc ?_|(with_reducible refine bset ?_ ?_;rotate_left;((try dsimp only);omega)) | refine bkeep2 ?_ (by assumption) | with_reducible refine Below.drew ?_))⟩
theorem cutBottom_w (x y u v n:Int) (w:World) (h1:vrW x y u v=true) (h2:0≤n) :
  Calls Tryz.prog 249 #[.agg #[.int .i64 (x),.int .i64 (y),.int .i64 (u),.int .i64 (v)],.int .i64 n] w fun e w'=>e=.returned (.tuple #[.agg #[.int .i64 (x),.int .i64 (y+(v-mn n v)),.int .i64 (u),.int .i64 (mn n v)],.agg #[.int .i64 (x),.int .i64 (y),.int .i64 (u),.int .i64 (v-mn n v)]])∧Below w.heap.size w w':=by
 obtain ⟨a1,a2,a3,a4,a5,a6,a7,a8⟩:=vrW_iff.1 h1;have g:=mn_spec n v
 have g1:0≤mn n v:=by omega
 have g2:mn n v≤v:=by omega
 have C:=hD (fun w=>cutTop_w x y u v (v-mn n v) (v-mn n v) (mn n v) w h1 (by omega) (by have:=mn_spec (v-mn n v) v;omega) (by omega));clear g
 go_enter Tryz.func249,Tryz.ntmps249
 go_wp2_with (go_at_call 248;refine (C.out _).mono ?_;rintro e w1 ⟨rfl,hb⟩;obtain ⟨hc,hf⟩:=bcell hb;(first|(replace hB:=bkeep2 hB hb)|(replace hB:=bkeep2 (balloc hB) hb)|(replace hB:=bkeep2 (balloc (balloc hB)) hb) | have hB:=hb);obtain ⟨hC,hF,hZ,hN⟩:=bcell4 hB;(try (have hlt:=Nat.lt_of_lt_of_le hlt hb.size;have hne:=Nat.ne_of_lt hlt));(have hs0:=hb.size);(try simp only [World.size_alloc] at hs0);(try (have hlt:=Nat.lt_of_succ_le hs0;have hne:=Nat.ne_of_lt hlt));(have kz0:w.heap.size<w1.heap.size:=by have:=hB.size;simp at this;omega);(have kn0:¬ w.heap.size=w1.heap.size:=by omega);(have kz1:w.heap.size+1<w1.heap.size:=by have:=hB.size;simp at this;omega);(have kn1:¬ w.heap.size+1=w1.heap.size:=by omega);(have kz2:w.heap.size+1+1<w1.heap.size:=by have:=hB.size;simp at this;omega);(have kn2:¬ w.heap.size+1+1=w1.heap.size:=by omega);(have kc0:w1.cell? ⟨w.heap.size+1,0,none⟩=some (.int .i64 (0)):=by go_simp);(have kf0:w1.frozen? ⟨w.heap.size+1,0,none⟩=false:=by go_simp);(have kc1:w1.cell? ⟨w.heap.size+1,1,none⟩=some (.int .i64 (0)):=by go_simp);(have kf1:w1.frozen? ⟨w.heap.size+1,1,none⟩=false:=by go_simp);(have kc2:w1.cell? ⟨w.heap.size+1,2,none⟩=some (.int .i64 (0)):=by go_simp);(have kf2:w1.frozen? ⟨w.heap.size+1,2,none⟩=false:=by go_simp);(have kc3:w1.cell? ⟨w.heap.size+1,3,none⟩=some (.int .i64 (0)):=by go_simp);(have kf3:w1.frozen? ⟨w.heap.size+1,3,none⟩=false:=by go_simp);(have kc0:w1.cell? ⟨w.heap.size+1+1,0,none⟩=some (.int .i64 (0)):=by go_simp);(have kf0:w1.frozen? ⟨w.heap.size+1+1,0,none⟩=false:=by go_simp);(have kc1:w1.cell? ⟨w.heap.size+1+1,1,none⟩=some (.int .i64 (0)):=by go_simp);(have kf1:w1.frozen? ⟨w.heap.size+1+1,1,none⟩=false:=by go_simp);(have kc2:w1.cell? ⟨w.heap.size+1+1,2,none⟩=some (.int .i64 (0)):=by go_simp);(have kf2:w1.frozen? ⟨w.heap.size+1+1,2,none⟩=false:=by go_simp);(have kc3:w1.cell? ⟨w.heap.size+1+1,3,none⟩=some (.int .i64 (0)):=by go_simp);(have kf3:w1.frozen? ⟨w.heap.size+1+1,3,none⟩=false:=by go_simp);clear hC hF hc hf hZ hN)
 refine wp_gen (fun W0=>Below w.heap.size w W0∧W0.cell? ⟨w.heap.size+1,0,none⟩=some (.int .i64 0)∧W0.frozen? ⟨w.heap.size+1,0,none⟩=false∧W0.cell? ⟨w.heap.size+1,1,none⟩=some (.int .i64 0)∧W0.frozen? ⟨w.heap.size+1,1,none⟩=false∧W0.cell? ⟨w.heap.size+1,2,none⟩=some (.int .i64 0)∧W0.frozen? ⟨w.heap.size+1,2,none⟩=false∧W0.cell? ⟨w.heap.size+1,3,none⟩=some (.int .i64 0)∧W0.frozen? ⟨w.heap.size+1,3,none⟩=false∧W0.cell? ⟨w.heap.size+1+1,0,none⟩=some (.int .i64 0)∧W0.frozen? ⟨w.heap.size+1+1,0,none⟩=false∧W0.cell? ⟨w.heap.size+1+1,1,none⟩=some (.int .i64 0)∧W0.frozen? ⟨w.heap.size+1+1,1,none⟩=false∧W0.cell? ⟨w.heap.size+1+1,2,none⟩=some (.int .i64 0)∧W0.frozen? ⟨w.heap.size+1+1,2,none⟩=false∧W0.cell? ⟨w.heap.size+1+1,3,none⟩=some (.int .i64 0)∧W0.frozen? ⟨w.heap.size+1+1,3,none⟩=false∧W0.cell? ⟨w1.heap.size,0,none⟩=some (.int .i64 (x))∧W0.cell? ⟨w1.heap.size,1,none⟩=some (.int .i64 (y))∧W0.cell? ⟨w1.heap.size,2,none⟩=some (.int .i64 (u))∧W0.cell? ⟨w1.heap.size,3,none⟩=some (.int .i64 (v-mn n v))∧W0.cell? ⟨w1.heap.size+1,0,none⟩=some (.int .i64 (x))∧W0.cell? ⟨w1.heap.size+1,1,none⟩=some (.int .i64 (y+(v-mn n v)))∧W0.cell? ⟨w1.heap.size+1,2,none⟩=some (.int .i64 (u))∧W0.cell? ⟨w1.heap.size+1,3,none⟩=some (.int .i64 (mn n v))) ⟨(by repeat (first | with_reducible exact Below.refl _ _ | with_reducible assumption | with_reducible refine balloc ?_|(with_reducible refine bset ?_ ?_;rotate_left;((try dsimp only);omega)) | refine bkeep2 ?_ (by assumption) | with_reducible refine Below.drew ?_)),?_⟩ (fun W0 hW0=>?_)
 ·go_simp
 obtain ⟨hBW,p0,pf0,p1,pf1,p2,pf2,p3,pf3,q0,qf0,q1,qf1,q2,qf2,q3,qf3,r0,r1,r2,r3,s0,s1,s2,s3⟩:=hW0;generalize w1.heap.size=b6 at *
 go_region
 all_goals go_wp2
 all_goals
  have XA:=box4 (w:=W0) (b:=w.heap.size+1) (.int .i64 (x)) (.int .i64 (y+(v-mn n v))) (.int .i64 (u)) (.int .i64 (mn n v)) p0 p1 p2 p3
  have XB:=box4 (b:=w.heap.size+1+1) (.int .i64 (x)) (.int .i64 (y)) (.int .i64 (u)) (.int .i64 (v-mn n v)) ((XA.2.2.2.2 (w.heap.size+1+1) 0 (by omega)).trans q0) ((XA.2.2.2.2 (w.heap.size+1+1) 1 (by omega)).trans q1) ((XA.2.2.2.2 (w.heap.size+1+1) 2 (by omega)).trans q2) ((XA.2.2.2.2 (w.heap.size+1+1) 3 (by omega)).trans q3)
  refine gen_post (fun wf=>Below w.heap.size w wf∧wf.cell? ⟨w.heap.size+1,0,none⟩=some (.int .i64 (x))∧wf.cell? ⟨w.heap.size+1,1,none⟩=some (.int .i64 (y+(v-mn n v)))∧wf.cell? ⟨w.heap.size+1,2,none⟩=some (.int .i64 (u))∧wf.cell? ⟨w.heap.size+1,3,none⟩=some (.int .i64 (mn n v))∧wf.cell? ⟨w.heap.size+1+1,0,none⟩=some (.int .i64 (x))∧wf.cell? ⟨w.heap.size+1+1,1,none⟩=some (.int .i64 (y))∧wf.cell? ⟨w.heap.size+1+1,2,none⟩=some (.int .i64 (u))∧wf.cell? ⟨w.heap.size+1+1,3,none⟩=some (.int .i64 (v-mn n v))) ⟨(by with_reducible refine Below.drew ?_;exact (by repeat (first | with_reducible exact Below.refl _ _ | with_reducible assumption | with_reducible refine balloc ?_|(with_reducible refine bset ?_ ?_;rotate_left;((try dsimp only);omega)) | refine bkeep2 ?_ (by assumption) | with_reducible refine Below.drew ?_))),celld ((XB.2.2.2.2 (w.heap.size+1) 0 (by omega)).trans XA.1),celld ((XB.2.2.2.2 (w.heap.size+1) 1 (by omega)).trans XA.2.1),celld ((XB.2.2.2.2 (w.heap.size+1) 2 (by omega)).trans XA.2.2.1),celld ((XB.2.2.2.2 (w.heap.size+1) 3 (by omega)).trans XA.2.2.2.1),celld (XB.1),celld (XB.2.1),celld (XB.2.2.1),celld (XB.2.2.2.1)⟩ (fun wf hwf=>?_)
  clear XA XB;obtain ⟨hBf,z0,z1,z2,z3,z4,z5,z6,z7⟩:=hwf
  exact bodyPost_ret (v:=.tuple #[.agg #[.int .i64 (x),.int .i64 (y+(v-mn n v)),.int .i64 (u),.int .i64 (mn n v)],.agg #[.int .i64 (x),.int .i64 (y),.int .i64 (u),.int .i64 (v-mn n v)]]) (by simp only [results,Tryz.results249];go_simp) rfl ⟨rfl,(by repeat (first | with_reducible exact Below.refl _ _ | with_reducible assumption | with_reducible refine balloc ?_|(with_reducible refine bset ?_ ?_;rotate_left;((try dsimp only);omega)) | refine bkeep2 ?_ (by assumption) | with_reducible refine Below.drew ?_))⟩
theorem cutRight_w (x y u v n:Int) (w:World) (h1:vrW x y u v=true) (h2:0≤n) :
  Calls Tryz.prog 251 #[.agg #[.int .i64 (x),.int .i64 (y),.int .i64 (u),.int .i64 (v)],.int .i64 n] w fun e w'=>e=.returned (.tuple #[.agg #[.int .i64 (x+(u-mn n u)),.int .i64 (y),.int .i64 (mn n u),.int .i64 (v)],.agg #[.int .i64 (x),.int .i64 (y),.int .i64 (u-mn n u),.int .i64 (v)]])∧Below w.heap.size w w':=by
 obtain ⟨a1,a2,a3,a4,a5,a6,a7,a8⟩:=vrW_iff.1 h1;have g:=mn_spec n u
 have g1:0≤mn n u:=by omega
 have g2:mn n u≤u:=by omega
 have C:=hD (fun w=>cutLeft_w x y u v (u-mn n u) (u-mn n u) (mn n u) w h1 (by omega) (by have:=mn_spec (u-mn n u) u;omega) (by omega));clear g
 go_enter Tryz.func251,Tryz.ntmps251
 go_wp2_with (go_at_call 250;refine (C.out _).mono ?_;rintro e w1 ⟨rfl,hb⟩;obtain ⟨hc,hf⟩:=bcell hb;(first|(replace hB:=bkeep2 hB hb)|(replace hB:=bkeep2 (balloc hB) hb)|(replace hB:=bkeep2 (balloc (balloc hB)) hb) | have hB:=hb);obtain ⟨hC,hF,hZ,hN⟩:=bcell4 hB;(try (have hlt:=Nat.lt_of_lt_of_le hlt hb.size;have hne:=Nat.ne_of_lt hlt));(have hs0:=hb.size);(try simp only [World.size_alloc] at hs0);(try (have hlt:=Nat.lt_of_succ_le hs0;have hne:=Nat.ne_of_lt hlt));(have kz0:w.heap.size<w1.heap.size:=by have:=hB.size;simp at this;omega);(have kn0:¬ w.heap.size=w1.heap.size:=by omega);(have kz1:w.heap.size+1<w1.heap.size:=by have:=hB.size;simp at this;omega);(have kn1:¬ w.heap.size+1=w1.heap.size:=by omega);(have kz2:w.heap.size+1+1<w1.heap.size:=by have:=hB.size;simp at this;omega);(have kn2:¬ w.heap.size+1+1=w1.heap.size:=by omega);(have kc0:w1.cell? ⟨w.heap.size+1,0,none⟩=some (.int .i64 (0)):=by go_simp);(have kf0:w1.frozen? ⟨w.heap.size+1,0,none⟩=false:=by go_simp);(have kc1:w1.cell? ⟨w.heap.size+1,1,none⟩=some (.int .i64 (0)):=by go_simp);(have kf1:w1.frozen? ⟨w.heap.size+1,1,none⟩=false:=by go_simp);(have kc2:w1.cell? ⟨w.heap.size+1,2,none⟩=some (.int .i64 (0)):=by go_simp);(have kf2:w1.frozen? ⟨w.heap.size+1,2,none⟩=false:=by go_simp);(have kc3:w1.cell? ⟨w.heap.size+1,3,none⟩=some (.int .i64 (0)):=by go_simp);(have kf3:w1.frozen? ⟨w.heap.size+1,3,none⟩=false:=by go_simp);(have kc0:w1.cell? ⟨w.heap.size+1+1,0,none⟩=some (.int .i64 (0)):=by go_simp);(have kf0:w1.frozen? ⟨w.heap.size+1+1,0,none⟩=false:=by go_simp);(have kc1:w1.cell? ⟨w.heap.size+1+1,1,none⟩=some (.int .i64 (0)):=by go_simp);(have kf1:w1.frozen? ⟨w.heap.size+1+1,1,none⟩=false:=by go_simp);(have kc2:w1.cell? ⟨w.heap.size+1+1,2,none⟩=some (.int .i64 (0)):=by go_simp);(have kf2:w1.frozen? ⟨w.heap.size+1+1,2,none⟩=false:=by go_simp);(have kc3:w1.cell? ⟨w.heap.size+1+1,3,none⟩=some (.int .i64 (0)):=by go_simp);(have kf3:w1.frozen? ⟨w.heap.size+1+1,3,none⟩=false:=by go_simp);clear hC hF hc hf hZ hN)
 refine wp_gen (fun W0=>Below w.heap.size w W0∧W0.cell? ⟨w.heap.size+1,0,none⟩=some (.int .i64 0)∧W0.frozen? ⟨w.heap.size+1,0,none⟩=false∧W0.cell? ⟨w.heap.size+1,1,none⟩=some (.int .i64 0)∧W0.frozen? ⟨w.heap.size+1,1,none⟩=false∧W0.cell? ⟨w.heap.size+1,2,none⟩=some (.int .i64 0)∧W0.frozen? ⟨w.heap.size+1,2,none⟩=false∧W0.cell? ⟨w.heap.size+1,3,none⟩=some (.int .i64 0)∧W0.frozen? ⟨w.heap.size+1,3,none⟩=false∧W0.cell? ⟨w.heap.size+1+1,0,none⟩=some (.int .i64 0)∧W0.frozen? ⟨w.heap.size+1+1,0,none⟩=false∧W0.cell? ⟨w.heap.size+1+1,1,none⟩=some (.int .i64 0)∧W0.frozen? ⟨w.heap.size+1+1,1,none⟩=false∧W0.cell? ⟨w.heap.size+1+1,2,none⟩=some (.int .i64 0)∧W0.frozen? ⟨w.heap.size+1+1,2,none⟩=false∧W0.cell? ⟨w.heap.size+1+1,3,none⟩=some (.int .i64 0)∧W0.frozen? ⟨w.heap.size+1+1,3,none⟩=false∧W0.cell? ⟨w1.heap.size,0,none⟩=some (.int .i64 (x))∧W0.cell? ⟨w1.heap.size,1,none⟩=some (.int .i64 (y))∧W0.cell? ⟨w1.heap.size,2,none⟩=some (.int .i64 (u-mn n u))∧W0.cell? ⟨w1.heap.size,3,none⟩=some (.int .i64 (v))∧W0.cell? ⟨w1.heap.size+1,0,none⟩=some (.int .i64 (x+(u-mn n u)))∧W0.cell? ⟨w1.heap.size+1,1,none⟩=some (.int .i64 (y))∧W0.cell? ⟨w1.heap.size+1,2,none⟩=some (.int .i64 (mn n u))∧W0.cell? ⟨w1.heap.size+1,3,none⟩=some (.int .i64 (v))) ⟨(by repeat (first | with_reducible exact Below.refl _ _ | with_reducible assumption | with_reducible refine balloc ?_|(with_reducible refine bset ?_ ?_;rotate_left;((try dsimp only);omega)) | refine bkeep2 ?_ (by assumption) | with_reducible refine Below.drew ?_)),?_⟩ (fun W0 hW0=>?_)
 ·go_simp
 obtain ⟨hBW,p0,pf0,p1,pf1,p2,pf2,p3,pf3,q0,qf0,q1,qf1,q2,qf2,q3,qf3,r0,r1,r2,r3,s0,s1,s2,s3⟩:=hW0;generalize w1.heap.size=b6 at *
 go_region
 all_goals go_wp2
 all_goals
  have XA:=box4 (w:=W0) (b:=w.heap.size+1) (.int .i64 (x+(u-mn n u))) (.int .i64 (y)) (.int .i64 (mn n u)) (.int .i64 (v)) p0 p1 p2 p3
  have XB:=box4 (b:=w.heap.size+1+1) (.int .i64 (x)) (.int .i64 (y)) (.int .i64 (u-mn n u)) (.int .i64 (v)) ((XA.2.2.2.2 (w.heap.size+1+1) 0 (by omega)).trans q0) ((XA.2.2.2.2 (w.heap.size+1+1) 1 (by omega)).trans q1) ((XA.2.2.2.2 (w.heap.size+1+1) 2 (by omega)).trans q2) ((XA.2.2.2.2 (w.heap.size+1+1) 3 (by omega)).trans q3)
  refine gen_post (fun wf=>Below w.heap.size w wf∧wf.cell? ⟨w.heap.size+1,0,none⟩=some (.int .i64 (x+(u-mn n u)))∧wf.cell? ⟨w.heap.size+1,1,none⟩=some (.int .i64 (y))∧wf.cell? ⟨w.heap.size+1,2,none⟩=some (.int .i64 (mn n u))∧wf.cell? ⟨w.heap.size+1,3,none⟩=some (.int .i64 (v))∧wf.cell? ⟨w.heap.size+1+1,0,none⟩=some (.int .i64 (x))∧wf.cell? ⟨w.heap.size+1+1,1,none⟩=some (.int .i64 (y))∧wf.cell? ⟨w.heap.size+1+1,2,none⟩=some (.int .i64 (u-mn n u))∧wf.cell? ⟨w.heap.size+1+1,3,none⟩=some (.int .i64 (v))) ⟨(by with_reducible refine Below.drew ?_;exact (by repeat (first | with_reducible exact Below.refl _ _ | with_reducible assumption | with_reducible refine balloc ?_|(with_reducible refine bset ?_ ?_;rotate_left;((try dsimp only);omega)) | refine bkeep2 ?_ (by assumption) | with_reducible refine Below.drew ?_))),celld ((XB.2.2.2.2 (w.heap.size+1) 0 (by omega)).trans XA.1),celld ((XB.2.2.2.2 (w.heap.size+1) 1 (by omega)).trans XA.2.1),celld ((XB.2.2.2.2 (w.heap.size+1) 2 (by omega)).trans XA.2.2.1),celld ((XB.2.2.2.2 (w.heap.size+1) 3 (by omega)).trans XA.2.2.2.1),celld (XB.1),celld (XB.2.1),celld (XB.2.2.1),celld (XB.2.2.2.1)⟩ (fun wf hwf=>?_)
  clear XA XB;obtain ⟨hBf,z0,z1,z2,z3,z4,z5,z6,z7⟩:=hwf
  exact bodyPost_ret (v:=.tuple #[.agg #[.int .i64 (x+(u-mn n u)),.int .i64 (y),.int .i64 (mn n u),.int .i64 (v)],.agg #[.int .i64 (x),.int .i64 (y),.int .i64 (u-mn n u),.int .i64 (v)]]) (by simp only [results,Tryz.results251];go_simp) rfl ⟨rfl,(by repeat (first | with_reducible exact Below.refl _ _ | with_reducible assumption | with_reducible refine balloc ?_|(with_reducible refine bset ?_ ?_;rotate_left;((try dsimp only);omega)) | refine bkeep2 ?_ (by assumption) | with_reducible refine Below.drew ?_))⟩
theorem cut0_w (x y u v n:Int) (w:World) (h1:vrW x y u v=true) (h2:0≤n) :
  Calls Tryz.prog 245 #[.agg #[.int .i64 (x),.int .i64 (y),.int .i64 (u),.int .i64 (v)],.int .i64 0,.int .i64 n] w fun e w'=>e=.returned (.tuple #[.agg #[.int .i64 (x),.int .i64 (y),.int .i64 (u),.int .i64 (mn n v)],.agg #[.int .i64 (x),.int .i64 (y+mn n v),.int .i64 (u),.int .i64 (v-mn n v)]])∧Below w.heap.size w w':=by
 have i0:∀ w,(Instr.index 245 (.agg #[.func (.func 248) #[] #[],.func (.func 249) #[] #[],.func (.func 250) #[] #[],.func (.func 251) #[] #[]]) (.int .i64 0)).run Tryz.prog w=.ok (.func (.func 248) #[] #[]) w:=fun _=>by kernel_rfl
 go_enter Tryz.func245,Tryz.ntmps245
 go_wp2_with fail
 refine wp_region_grow 8 2 (·<8) (by kernel_rfl) (by kernel_rfl) rfl ?_
 iterate 8 (refine wpG_step (fun K hK=>?_);apply Exists.intro;refine ⟨.inl ⟨rfl,fun w' hw'=>?_⟩,?_⟩;(focus ((obtain ⟨hc,hf⟩:=bcell hw'.out);(have hcS:=bcellS hw'.out);go_simp <;> first | rfl|(go_at_call 247;exact cutters_any _)|(go_at_call 248;exact cutTop_w x y u v n (mn n v) (v-mn n v) _ h1 h2 rfl rfl)));(go_simp;refine hK _ ?_;clear hK K))
 refine wpG_nil ?_;refine wpK_tail (by kernel_rfl) (fun wt1 ht1=>?_);obtain ⟨hct1,hft1⟩:=bcell ht1.out
 have kb0_0:wt1.cell? ⟨w.heap.size+1,0,none⟩=some (.int .i64 (0)):=by go_simp
 have kg0_0:wt1.frozen? ⟨w.heap.size+1,0,none⟩=false:=by go_simp
 have kb0_1:wt1.cell? ⟨w.heap.size+1,1,none⟩=some (.int .i64 (0)):=by go_simp
 have kg0_1:wt1.frozen? ⟨w.heap.size+1,1,none⟩=false:=by go_simp
 have kb0_2:wt1.cell? ⟨w.heap.size+1,2,none⟩=some (.int .i64 (0)):=by go_simp
 have kg0_2:wt1.frozen? ⟨w.heap.size+1,2,none⟩=false:=by go_simp
 have kb0_3:wt1.cell? ⟨w.heap.size+1,3,none⟩=some (.int .i64 (0)):=by go_simp
 have kg0_3:wt1.frozen? ⟨w.heap.size+1,3,none⟩=false:=by go_simp
 have kb1_0:wt1.cell? ⟨w.heap.size+1+1,0,none⟩=some (.int .i64 (0)):=by go_simp
 have kg1_0:wt1.frozen? ⟨w.heap.size+1+1,0,none⟩=false:=by go_simp
 have kb1_1:wt1.cell? ⟨w.heap.size+1+1,1,none⟩=some (.int .i64 (0)):=by go_simp
 have kg1_1:wt1.frozen? ⟨w.heap.size+1+1,1,none⟩=false:=by go_simp
 have kb1_2:wt1.cell? ⟨w.heap.size+1+1,2,none⟩=some (.int .i64 (0)):=by go_simp
 have kg1_2:wt1.frozen? ⟨w.heap.size+1+1,2,none⟩=false:=by go_simp
 have kb1_3:wt1.cell? ⟨w.heap.size+1+1,3,none⟩=some (.int .i64 (0)):=by go_simp
 have kg1_3:wt1.frozen? ⟨w.heap.size+1+1,3,none⟩=false:=by go_simp
 clear hct1 hft1;refine wpAny_one (i:=8) (by kernel_rfl) rfl rfl ?_;go_simp;refine wpAny_one (i:=9) (by kernel_rfl) rfl rfl ?_;go_simp;refine wpAny_end (by kernel_rfl) ?_;have XA:=box4 (w:=wt1) (b:=w.heap.size+1) (.int .i64 (x)) (.int .i64 (y)) (.int .i64 (u)) (.int .i64 (mn n v)) kb0_0 kb0_1 kb0_2 kb0_3
 have XB:=box4 (b:=w.heap.size+1+1) (.int .i64 (x)) (.int .i64 (y+mn n v)) (.int .i64 (u)) (.int .i64 (v-mn n v)) ((XA.2.2.2.2 (w.heap.size+1+1) 0 (by omega)).trans kb1_0) ((XA.2.2.2.2 (w.heap.size+1+1) 1 (by omega)).trans kb1_1) ((XA.2.2.2.2 (w.heap.size+1+1) 2 (by omega)).trans kb1_2) ((XA.2.2.2.2 (w.heap.size+1+1) 3 (by omega)).trans kb1_3)
 refine NoPan.gen (fun wf=>Below w.heap.size w wf∧wf.cell? ⟨w.heap.size+1,0,none⟩=some (.int .i64 (x))∧wf.cell? ⟨w.heap.size+1,1,none⟩=some (.int .i64 (y))∧wf.cell? ⟨w.heap.size+1,2,none⟩=some (.int .i64 (u))∧wf.cell? ⟨w.heap.size+1,3,none⟩=some (.int .i64 (mn n v))∧wf.cell? ⟨w.heap.size+1+1,0,none⟩=some (.int .i64 (x))∧wf.cell? ⟨w.heap.size+1+1,1,none⟩=some (.int .i64 (y+mn n v))∧wf.cell? ⟨w.heap.size+1+1,2,none⟩=some (.int .i64 (u))∧wf.cell? ⟨w.heap.size+1+1,3,none⟩=some (.int .i64 (v-mn n v))) ⟨(by repeat (first | with_reducible exact Below.refl _ _ | with_reducible assumption | with_reducible refine balloc ?_|(with_reducible refine bset ?_ ?_;rotate_left;((try dsimp only);omega)) | refine bkeep2 ?_ (by assumption) | with_reducible refine Below.drew ?_)),(XB.2.2.2.2 (w.heap.size+1) 0 (by omega)).trans XA.1,(XB.2.2.2.2 (w.heap.size+1) 1 (by omega)).trans XA.2.1,(XB.2.2.2.2 (w.heap.size+1) 2 (by omega)).trans XA.2.2.1,(XB.2.2.2.2 (w.heap.size+1) 3 (by omega)).trans XA.2.2.2.1,XB.1,XB.2.1,XB.2.2.1,XB.2.2.2.1⟩ (fun wf hwf=>?_)
 clear XA XB kb0_0 kb0_1 kb0_2 kb0_3 kb1_0 kb1_1 kb1_2 kb1_3 kg0_0 kg0_1 kg0_2 kg0_3 kg1_0 kg1_1 kg1_2 kg1_3;obtain ⟨hBf,z0,z1,z2,z3,z4,z5,z6,z7⟩:=hwf;go_wp2
 exact bodyPost_ret (v:=.tuple #[.agg #[.int .i64 (x),.int .i64 (y),.int .i64 (u),.int .i64 (mn n v)],.agg #[.int .i64 (x),.int .i64 (y+mn n v),.int .i64 (u),.int .i64 (v-mn n v)]]) (by simp only [results,Tryz.results245];go_simp) rfl ⟨rfl,(by repeat (first | with_reducible exact Below.refl _ _ | with_reducible assumption | with_reducible refine balloc ?_|(with_reducible refine bset ?_ ?_;rotate_left;((try dsimp only);omega)) | refine bkeep2 ?_ (by assumption) | with_reducible refine Below.drew ?_))⟩
theorem cut1_w (x y u v n:Int) (w:World) (h1:vrW x y u v=true) (h2:0≤n) :
  Calls Tryz.prog 245 #[.agg #[.int .i64 (x),.int .i64 (y),.int .i64 (u),.int .i64 (v)],.int .i64 1,.int .i64 n] w fun e w'=>e=.returned (.tuple #[.agg #[.int .i64 (x),.int .i64 (y+(v-mn n v)),.int .i64 (u),.int .i64 (mn n v)],.agg #[.int .i64 (x),.int .i64 (y),.int .i64 (u),.int .i64 (v-mn n v)]])∧Below w.heap.size w w':=by
 have i0:∀ w,(Instr.index 245 (.agg #[.func (.func 248) #[] #[],.func (.func 249) #[] #[],.func (.func 250) #[] #[],.func (.func 251) #[] #[]]) (.int .i64 1)).run Tryz.prog w=.ok (.func (.func 249) #[] #[]) w:=fun _=>by kernel_rfl
 go_enter Tryz.func245,Tryz.ntmps245
 go_wp2_with fail
 refine wp_region_grow 8 2 (·<8) (by kernel_rfl) (by kernel_rfl) rfl ?_
 iterate 8 (refine wpG_step (fun K hK=>?_);apply Exists.intro;refine ⟨.inl ⟨rfl,fun w' hw'=>?_⟩,?_⟩;(focus ((obtain ⟨hc,hf⟩:=bcell hw'.out);(have hcS:=bcellS hw'.out);go_simp <;> first | rfl|(go_at_call 247;exact cutters_any _)|(go_at_call 249;exact cutBottom_w x y u v n _ h1 h2)));(go_simp;refine hK _ ?_;clear hK K))
 refine wpG_nil ?_;refine wpK_tail (by kernel_rfl) (fun wt1 ht1=>?_);obtain ⟨hct1,hft1⟩:=bcell ht1.out
 have kb0_0:wt1.cell? ⟨w.heap.size+1,0,none⟩=some (.int .i64 (0)):=by go_simp
 have kg0_0:wt1.frozen? ⟨w.heap.size+1,0,none⟩=false:=by go_simp
 have kb0_1:wt1.cell? ⟨w.heap.size+1,1,none⟩=some (.int .i64 (0)):=by go_simp
 have kg0_1:wt1.frozen? ⟨w.heap.size+1,1,none⟩=false:=by go_simp
 have kb0_2:wt1.cell? ⟨w.heap.size+1,2,none⟩=some (.int .i64 (0)):=by go_simp
 have kg0_2:wt1.frozen? ⟨w.heap.size+1,2,none⟩=false:=by go_simp
 have kb0_3:wt1.cell? ⟨w.heap.size+1,3,none⟩=some (.int .i64 (0)):=by go_simp
 have kg0_3:wt1.frozen? ⟨w.heap.size+1,3,none⟩=false:=by go_simp
 have kb1_0:wt1.cell? ⟨w.heap.size+1+1,0,none⟩=some (.int .i64 (0)):=by go_simp
 have kg1_0:wt1.frozen? ⟨w.heap.size+1+1,0,none⟩=false:=by go_simp
 have kb1_1:wt1.cell? ⟨w.heap.size+1+1,1,none⟩=some (.int .i64 (0)):=by go_simp
 have kg1_1:wt1.frozen? ⟨w.heap.size+1+1,1,none⟩=false:=by go_simp
 have kb1_2:wt1.cell? ⟨w.heap.size+1+1,2,none⟩=some (.int .i64 (0)):=by go_simp
 have kg1_2:wt1.frozen? ⟨w.heap.size+1+1,2,none⟩=false:=by go_simp
 have kb1_3:wt1.cell? ⟨w.heap.size+1+1,3,none⟩=some (.int .i64 (0)):=by go_simp
 have kg1_3:wt1.frozen? ⟨w.heap.size+1+1,3,none⟩=false:=by go_simp
 clear hct1 hft1;refine wpAny_one (i:=8) (by kernel_rfl) rfl rfl ?_;go_simp;refine wpAny_one (i:=9) (by kernel_rfl) rfl rfl ?_;go_simp;refine wpAny_end (by kernel_rfl) ?_;have XA:=box4 (w:=wt1) (b:=w.heap.size+1) (.int .i64 (x)) (.int .i64 (y+(v-mn n v))) (.int .i64 (u)) (.int .i64 (mn n v)) kb0_0 kb0_1 kb0_2 kb0_3
 have XB:=box4 (b:=w.heap.size+1+1) (.int .i64 (x)) (.int .i64 (y)) (.int .i64 (u)) (.int .i64 (v-mn n v)) ((XA.2.2.2.2 (w.heap.size+1+1) 0 (by omega)).trans kb1_0) ((XA.2.2.2.2 (w.heap.size+1+1) 1 (by omega)).trans kb1_1) ((XA.2.2.2.2 (w.heap.size+1+1) 2 (by omega)).trans kb1_2) ((XA.2.2.2.2 (w.heap.size+1+1) 3 (by omega)).trans kb1_3)
 refine NoPan.gen (fun wf=>Below w.heap.size w wf∧wf.cell? ⟨w.heap.size+1,0,none⟩=some (.int .i64 (x))∧wf.cell? ⟨w.heap.size+1,1,none⟩=some (.int .i64 (y+(v-mn n v)))∧wf.cell? ⟨w.heap.size+1,2,none⟩=some (.int .i64 (u))∧wf.cell? ⟨w.heap.size+1,3,none⟩=some (.int .i64 (mn n v))∧wf.cell? ⟨w.heap.size+1+1,0,none⟩=some (.int .i64 (x))∧wf.cell? ⟨w.heap.size+1+1,1,none⟩=some (.int .i64 (y))∧wf.cell? ⟨w.heap.size+1+1,2,none⟩=some (.int .i64 (u))∧wf.cell? ⟨w.heap.size+1+1,3,none⟩=some (.int .i64 (v-mn n v))) ⟨(by repeat (first | with_reducible exact Below.refl _ _ | with_reducible assumption | with_reducible refine balloc ?_|(with_reducible refine bset ?_ ?_;rotate_left;((try dsimp only);omega)) | refine bkeep2 ?_ (by assumption) | with_reducible refine Below.drew ?_)),(XB.2.2.2.2 (w.heap.size+1) 0 (by omega)).trans XA.1,(XB.2.2.2.2 (w.heap.size+1) 1 (by omega)).trans XA.2.1,(XB.2.2.2.2 (w.heap.size+1) 2 (by omega)).trans XA.2.2.1,(XB.2.2.2.2 (w.heap.size+1) 3 (by omega)).trans XA.2.2.2.1,XB.1,XB.2.1,XB.2.2.1,XB.2.2.2.1⟩ (fun wf hwf=>?_)
 clear XA XB kb0_0 kb0_1 kb0_2 kb0_3 kb1_0 kb1_1 kb1_2 kb1_3 kg0_0 kg0_1 kg0_2 kg0_3 kg1_0 kg1_1 kg1_2 kg1_3;obtain ⟨hBf,z0,z1,z2,z3,z4,z5,z6,z7⟩:=hwf;go_wp2
 exact bodyPost_ret (v:=.tuple #[.agg #[.int .i64 (x),.int .i64 (y+(v-mn n v)),.int .i64 (u),.int .i64 (mn n v)],.agg #[.int .i64 (x),.int .i64 (y),.int .i64 (u),.int .i64 (v-mn n v)]]) (by simp only [results,Tryz.results245];go_simp) rfl ⟨rfl,(by repeat (first | with_reducible exact Below.refl _ _ | with_reducible assumption | with_reducible refine balloc ?_|(with_reducible refine bset ?_ ?_;rotate_left;((try dsimp only);omega)) | refine bkeep2 ?_ (by assumption) | with_reducible refine Below.drew ?_))⟩
theorem cut2_w (x y u v n:Int) (w:World) (h1:vrW x y u v=true) (h2:0≤n) :
  Calls Tryz.prog 245 #[.agg #[.int .i64 (x),.int .i64 (y),.int .i64 (u),.int .i64 (v)],.int .i64 2,.int .i64 n] w fun e w'=>e=.returned (.tuple #[.agg #[.int .i64 (x),.int .i64 (y),.int .i64 (mn n u),.int .i64 (v)],.agg #[.int .i64 (x+mn n u),.int .i64 (y),.int .i64 (u-mn n u),.int .i64 (v)]])∧Below w.heap.size w w':=by
 have i0:∀ w,(Instr.index 245 (.agg #[.func (.func 248) #[] #[],.func (.func 249) #[] #[],.func (.func 250) #[] #[],.func (.func 251) #[] #[]]) (.int .i64 2)).run Tryz.prog w=.ok (.func (.func 250) #[] #[]) w:=fun _=>by kernel_rfl
 go_enter Tryz.func245,Tryz.ntmps245
 go_wp2_with fail
 refine wp_region_grow 8 2 (·<8) (by kernel_rfl) (by kernel_rfl) rfl ?_
 iterate 8 (refine wpG_step (fun K hK=>?_);apply Exists.intro;refine ⟨.inl ⟨rfl,fun w' hw'=>?_⟩,?_⟩;(focus ((obtain ⟨hc,hf⟩:=bcell hw'.out);(have hcS:=bcellS hw'.out);go_simp <;> first | rfl|(go_at_call 247;exact cutters_any _)|(go_at_call 250;exact cutLeft_w x y u v n (mn n u) (u-mn n u) _ h1 h2 rfl rfl)));(go_simp;refine hK _ ?_;clear hK K))
 refine wpG_nil ?_;refine wpK_tail (by kernel_rfl) (fun wt1 ht1=>?_);obtain ⟨hct1,hft1⟩:=bcell ht1.out
 have kb0_0:wt1.cell? ⟨w.heap.size+1,0,none⟩=some (.int .i64 (0)):=by go_simp
 have kg0_0:wt1.frozen? ⟨w.heap.size+1,0,none⟩=false:=by go_simp
 have kb0_1:wt1.cell? ⟨w.heap.size+1,1,none⟩=some (.int .i64 (0)):=by go_simp
 have kg0_1:wt1.frozen? ⟨w.heap.size+1,1,none⟩=false:=by go_simp
 have kb0_2:wt1.cell? ⟨w.heap.size+1,2,none⟩=some (.int .i64 (0)):=by go_simp
 have kg0_2:wt1.frozen? ⟨w.heap.size+1,2,none⟩=false:=by go_simp
 have kb0_3:wt1.cell? ⟨w.heap.size+1,3,none⟩=some (.int .i64 (0)):=by go_simp
 have kg0_3:wt1.frozen? ⟨w.heap.size+1,3,none⟩=false:=by go_simp
 have kb1_0:wt1.cell? ⟨w.heap.size+1+1,0,none⟩=some (.int .i64 (0)):=by go_simp
 have kg1_0:wt1.frozen? ⟨w.heap.size+1+1,0,none⟩=false:=by go_simp
 have kb1_1:wt1.cell? ⟨w.heap.size+1+1,1,none⟩=some (.int .i64 (0)):=by go_simp
 have kg1_1:wt1.frozen? ⟨w.heap.size+1+1,1,none⟩=false:=by go_simp
 have kb1_2:wt1.cell? ⟨w.heap.size+1+1,2,none⟩=some (.int .i64 (0)):=by go_simp
 have kg1_2:wt1.frozen? ⟨w.heap.size+1+1,2,none⟩=false:=by go_simp
 have kb1_3:wt1.cell? ⟨w.heap.size+1+1,3,none⟩=some (.int .i64 (0)):=by go_simp
 have kg1_3:wt1.frozen? ⟨w.heap.size+1+1,3,none⟩=false:=by go_simp
 clear hct1 hft1;refine wpAny_one (i:=8) (by kernel_rfl) rfl rfl ?_;go_simp;refine wpAny_one (i:=9) (by kernel_rfl) rfl rfl ?_;go_simp;refine wpAny_end (by kernel_rfl) ?_;have XA:=box4 (w:=wt1) (b:=w.heap.size+1) (.int .i64 (x)) (.int .i64 (y)) (.int .i64 (mn n u)) (.int .i64 (v)) kb0_0 kb0_1 kb0_2 kb0_3
 have XB:=box4 (b:=w.heap.size+1+1) (.int .i64 (x+mn n u)) (.int .i64 (y)) (.int .i64 (u-mn n u)) (.int .i64 (v)) ((XA.2.2.2.2 (w.heap.size+1+1) 0 (by omega)).trans kb1_0) ((XA.2.2.2.2 (w.heap.size+1+1) 1 (by omega)).trans kb1_1) ((XA.2.2.2.2 (w.heap.size+1+1) 2 (by omega)).trans kb1_2) ((XA.2.2.2.2 (w.heap.size+1+1) 3 (by omega)).trans kb1_3)
 refine NoPan.gen (fun wf=>Below w.heap.size w wf∧wf.cell? ⟨w.heap.size+1,0,none⟩=some (.int .i64 (x))∧wf.cell? ⟨w.heap.size+1,1,none⟩=some (.int .i64 (y))∧wf.cell? ⟨w.heap.size+1,2,none⟩=some (.int .i64 (mn n u))∧wf.cell? ⟨w.heap.size+1,3,none⟩=some (.int .i64 (v))∧wf.cell? ⟨w.heap.size+1+1,0,none⟩=some (.int .i64 (x+mn n u))∧wf.cell? ⟨w.heap.size+1+1,1,none⟩=some (.int .i64 (y))∧wf.cell? ⟨w.heap.size+1+1,2,none⟩=some (.int .i64 (u-mn n u))∧wf.cell? ⟨w.heap.size+1+1,3,none⟩=some (.int .i64 (v))) ⟨(by repeat (first | with_reducible exact Below.refl _ _ | with_reducible assumption | with_reducible refine balloc ?_|(with_reducible refine bset ?_ ?_;rotate_left;((try dsimp only);omega)) | refine bkeep2 ?_ (by assumption) | with_reducible refine Below.drew ?_)),(XB.2.2.2.2 (w.heap.size+1) 0 (by omega)).trans XA.1,(XB.2.2.2.2 (w.heap.size+1) 1 (by omega)).trans XA.2.1,(XB.2.2.2.2 (w.heap.size+1) 2 (by omega)).trans XA.2.2.1,(XB.2.2.2.2 (w.heap.size+1) 3 (by omega)).trans XA.2.2.2.1,XB.1,XB.2.1,XB.2.2.1,XB.2.2.2.1⟩ (fun wf hwf=>?_)
 clear XA XB kb0_0 kb0_1 kb0_2 kb0_3 kb1_0 kb1_1 kb1_2 kb1_3 kg0_0 kg0_1 kg0_2 kg0_3 kg1_0 kg1_1 kg1_2 kg1_3;obtain ⟨hBf,z0,z1,z2,z3,z4,z5,z6,z7⟩:=hwf;go_wp2
 exact bodyPost_ret (v:=.tuple #[.agg #[.int .i64 (x),.int .i64 (y),.int .i64 (mn n u),.int .i64 (v)],.agg #[.int .i64 (x+mn n u),.int .i64 (y),.int .i64 (u-mn n u),.int .i64 (v)]]) (by simp only [results,Tryz.results245];go_simp) rfl ⟨rfl,(by repeat (first | with_reducible exact Below.refl _ _ | with_reducible assumption | with_reducible refine balloc ?_|(with_reducible refine bset ?_ ?_;rotate_left;((try dsimp only);omega)) | refine bkeep2 ?_ (by assumption) | with_reducible refine Below.drew ?_))⟩
theorem cut3_w (x y u v n:Int) (w:World) (h1:vrW x y u v=true) (h2:0≤n) :
  Calls Tryz.prog 245 #[.agg #[.int .i64 (x),.int .i64 (y),.int .i64 (u),.int .i64 (v)],.int .i64 3,.int .i64 n] w fun e w'=>e=.returned (.tuple #[.agg #[.int .i64 (x+(u-mn n u)),.int .i64 (y),.int .i64 (mn n u),.int .i64 (v)],.agg #[.int .i64 (x),.int .i64 (y),.int .i64 (u-mn n u),.int .i64 (v)]])∧Below w.heap.size w w':=by
 have i0:∀ w,(Instr.index 245 (.agg #[.func (.func 248) #[] #[],.func (.func 249) #[] #[],.func (.func 250) #[] #[],.func (.func 251) #[] #[]]) (.int .i64 3)).run Tryz.prog w=.ok (.func (.func 251) #[] #[]) w:=fun _=>by kernel_rfl
 go_enter Tryz.func245,Tryz.ntmps245
 go_wp2_with fail
 refine wp_region_grow 8 2 (·<8) (by kernel_rfl) (by kernel_rfl) rfl ?_
 iterate 8 (refine wpG_step (fun K hK=>?_);apply Exists.intro;refine ⟨.inl ⟨rfl,fun w' hw'=>?_⟩,?_⟩;(focus ((obtain ⟨hc,hf⟩:=bcell hw'.out);(have hcS:=bcellS hw'.out);go_simp <;> first | rfl|(go_at_call 247;exact cutters_any _)|(go_at_call 251;exact cutRight_w x y u v n _ h1 h2)));(go_simp;refine hK _ ?_;clear hK K))
 refine wpG_nil ?_;refine wpK_tail (by kernel_rfl) (fun wt1 ht1=>?_);obtain ⟨hct1,hft1⟩:=bcell ht1.out
 have kb0_0:wt1.cell? ⟨w.heap.size+1,0,none⟩=some (.int .i64 (0)):=by go_simp
 have kg0_0:wt1.frozen? ⟨w.heap.size+1,0,none⟩=false:=by go_simp
 have kb0_1:wt1.cell? ⟨w.heap.size+1,1,none⟩=some (.int .i64 (0)):=by go_simp
 have kg0_1:wt1.frozen? ⟨w.heap.size+1,1,none⟩=false:=by go_simp
 have kb0_2:wt1.cell? ⟨w.heap.size+1,2,none⟩=some (.int .i64 (0)):=by go_simp
 have kg0_2:wt1.frozen? ⟨w.heap.size+1,2,none⟩=false:=by go_simp
 have kb0_3:wt1.cell? ⟨w.heap.size+1,3,none⟩=some (.int .i64 (0)):=by go_simp
 have kg0_3:wt1.frozen? ⟨w.heap.size+1,3,none⟩=false:=by go_simp
 have kb1_0:wt1.cell? ⟨w.heap.size+1+1,0,none⟩=some (.int .i64 (0)):=by go_simp
 have kg1_0:wt1.frozen? ⟨w.heap.size+1+1,0,none⟩=false:=by go_simp
 have kb1_1:wt1.cell? ⟨w.heap.size+1+1,1,none⟩=some (.int .i64 (0)):=by go_simp
 have kg1_1:wt1.frozen? ⟨w.heap.size+1+1,1,none⟩=false:=by go_simp
 have kb1_2:wt1.cell? ⟨w.heap.size+1+1,2,none⟩=some (.int .i64 (0)):=by go_simp
 have kg1_2:wt1.frozen? ⟨w.heap.size+1+1,2,none⟩=false:=by go_simp
 have kb1_3:wt1.cell? ⟨w.heap.size+1+1,3,none⟩=some (.int .i64 (0)):=by go_simp
 have kg1_3:wt1.frozen? ⟨w.heap.size+1+1,3,none⟩=false:=by go_simp
 clear hct1 hft1;refine wpAny_one (i:=8) (by kernel_rfl) rfl rfl ?_;go_simp;refine wpAny_one (i:=9) (by kernel_rfl) rfl rfl ?_;go_simp;refine wpAny_end (by kernel_rfl) ?_;have XA:=box4 (w:=wt1) (b:=w.heap.size+1) (.int .i64 (x+(u-mn n u))) (.int .i64 (y)) (.int .i64 (mn n u)) (.int .i64 (v)) kb0_0 kb0_1 kb0_2 kb0_3
 have XB:=box4 (b:=w.heap.size+1+1) (.int .i64 (x)) (.int .i64 (y)) (.int .i64 (u-mn n u)) (.int .i64 (v)) ((XA.2.2.2.2 (w.heap.size+1+1) 0 (by omega)).trans kb1_0) ((XA.2.2.2.2 (w.heap.size+1+1) 1 (by omega)).trans kb1_1) ((XA.2.2.2.2 (w.heap.size+1+1) 2 (by omega)).trans kb1_2) ((XA.2.2.2.2 (w.heap.size+1+1) 3 (by omega)).trans kb1_3)
 refine NoPan.gen (fun wf=>Below w.heap.size w wf∧wf.cell? ⟨w.heap.size+1,0,none⟩=some (.int .i64 (x+(u-mn n u)))∧wf.cell? ⟨w.heap.size+1,1,none⟩=some (.int .i64 (y))∧wf.cell? ⟨w.heap.size+1,2,none⟩=some (.int .i64 (mn n u))∧wf.cell? ⟨w.heap.size+1,3,none⟩=some (.int .i64 (v))∧wf.cell? ⟨w.heap.size+1+1,0,none⟩=some (.int .i64 (x))∧wf.cell? ⟨w.heap.size+1+1,1,none⟩=some (.int .i64 (y))∧wf.cell? ⟨w.heap.size+1+1,2,none⟩=some (.int .i64 (u-mn n u))∧wf.cell? ⟨w.heap.size+1+1,3,none⟩=some (.int .i64 (v))) ⟨(by repeat (first | with_reducible exact Below.refl _ _ | with_reducible assumption | with_reducible refine balloc ?_|(with_reducible refine bset ?_ ?_;rotate_left;((try dsimp only);omega)) | refine bkeep2 ?_ (by assumption) | with_reducible refine Below.drew ?_)),(XB.2.2.2.2 (w.heap.size+1) 0 (by omega)).trans XA.1,(XB.2.2.2.2 (w.heap.size+1) 1 (by omega)).trans XA.2.1,(XB.2.2.2.2 (w.heap.size+1) 2 (by omega)).trans XA.2.2.1,(XB.2.2.2.2 (w.heap.size+1) 3 (by omega)).trans XA.2.2.2.1,XB.1,XB.2.1,XB.2.2.1,XB.2.2.2.1⟩ (fun wf hwf=>?_)
 clear XA XB kb0_0 kb0_1 kb0_2 kb0_3 kb1_0 kb1_1 kb1_2 kb1_3 kg0_0 kg0_1 kg0_2 kg0_3 kg1_0 kg1_1 kg1_2 kg1_3;obtain ⟨hBf,z0,z1,z2,z3,z4,z5,z6,z7⟩:=hwf;go_wp2
 exact bodyPost_ret (v:=.tuple #[.agg #[.int .i64 (x+(u-mn n u)),.int .i64 (y),.int .i64 (mn n u),.int .i64 (v)],.agg #[.int .i64 (x),.int .i64 (y),.int .i64 (u-mn n u),.int .i64 (v)]]) (by simp only [results,Tryz.results245];go_simp) rfl ⟨rfl,(by repeat (first | with_reducible exact Below.refl _ _ | with_reducible assumption | with_reducible refine balloc ?_|(with_reducible refine bset ?_ ?_;rotate_left;((try dsimp only);omega)) | refine bkeep2 ?_ (by assumption) | with_reducible refine Below.drew ?_))⟩
end
section
attribute [local go_sem 5000] run_mx run_mn run_eqlR run_neqR
theorem ins_bdW {p:Pk} {r:Rc} (h:p.big) (hr:r.okW):(0≤mn p.px (r.u / 2)∧mn p.px (r.u / 2)≤10)∧(0≤mn p.py (r.v / 2)∧mn p.py (r.v / 2)≤10)∧(0≤mx (r.u-2*p.px) 0∧mx (r.u-2*p.px) 0≤20000000000000)∧(0≤mx (r.v-2*p.py) 0∧mx (r.v-2*p.py) 0≤20000000000000):=by
 obtain ⟨⟨⟨a1,a2⟩,a3,a4⟩,⟨a5,a6⟩,a7,a8⟩:=hr;obtain ⟨_,_,_,_,h5,h6⟩:=h;have m1:=mn_spec p.px (r.u / 2);have m2:=mn_spec p.py (r.v / 2);have m3:=mx_spec (r.u-2*p.px) 0;have m4:=mx_spec (r.v-2*p.py) 0;omega
theorem inset_W (p:Pk) (r:Rc) (w:World) (h:p.big) (hr:r.okW):Calls Tryz.prog 217 #[.agg #[.int .i64 (r.x),.int .i64 (r.y),.int .i64 (r.u),.int .i64 (r.v)],.int .i64 p.px,.int .i64 p.py] w fun e w'=>e=.returned (.agg #[.int .i64 ((insP r p.px p.py).x),.int .i64 ((insP r p.px p.py).y),.int .i64 ((insP r p.px p.py).u),.int .i64 ((insP r p.px p.py).v)])∧Below w.heap.size w w':=by
 obtain ⟨⟨m1,m2⟩,⟨m3,m4⟩,⟨m5,m6⟩,⟨m7,m8⟩⟩:=ins_bdW h hr;obtain ⟨⟨⟨a1,a2⟩,a3,a4⟩,⟨a5,a6⟩,a7,a8⟩:=hr;obtain ⟨_,_,_,_,⟨b1,b2⟩,⟨b3,b4⟩⟩:=h
 have x1:r.x≤1000000000000000:=by omega
 have x2:r.y≤1000000000000000:=by omega
 unfold insP
 dsimp only
 go_enter Tryz.func217,Tryz.ntmps217
 go_wp2
 exact bodyPost_ret (v:=.agg #[.int .i64 (r.x+mn p.px (r.u / 2)),.int .i64 (r.y+mn p.py (r.v / 2)),.int .i64 (mx (r.u-2*p.px) 0),.int .i64 (mx (r.v-2*p.py) 0)]) (by simp only [results,Tryz.results217];go_simp) rfl ⟨rfl,(by repeat (first | with_reducible exact Below.refl _ _ | with_reducible assumption | with_reducible refine balloc ?_|(with_reducible refine bset ?_ ?_;rotate_left;((try dsimp only);omega)) | refine bkeep2 ?_ (by assumption) | with_reducible refine Below.drew ?_))⟩
theorem prod_bdW {a k:Int} (h1:0≤a) (h2:a≤20000000000000) (h3:0≤k) (h4:k≤2):0≤a*k∧a*k≤40000000000000:=by
 have e1:=Int.mul_nonneg h1 h3;have e2:a*k≤a*2:=Int.mul_le_mul_of_nonneg_left h4 h1;omega
theorem anchored_big (x y u v p q k:Int) (w:World) (hx:-1000000000000000≤x∧x≤1000000000000020) (hy:-1000000000000000≤y∧y≤1000000000000020) (hu:0≤u∧u≤20000000000000) (hv:0≤v∧v≤20000000000000) (hp:0≤p∧p≤20000000000000) (hq:0≤q∧q≤20000000000000) (hk:0≤k∧k≤8):Calls Tryz.prog 219 #[.agg #[.int .i64 (x),.int .i64 (y),.int .i64 (u),.int .i64 (v)],.int .i64 p,.int .i64 q,.int .i64 k] w fun e w'=>e=.returned (.agg #[.int .i64 (x+(u-mn p u)*(k % 3) / 2),.int .i64 (y+(v-mn q v)*(k / 3) / 2),.int .i64 (mn p u),.int .i64 (mn q v)])∧Below w.heap.size w w':=by
 have g1:=mn_spec p u;have g2:=mn_spec q v;obtain ⟨a1,a2⟩:=hx;obtain ⟨a3,a4⟩:=hy;obtain ⟨a5,a6⟩:=hu;obtain ⟨a7,a8⟩:=hv;obtain ⟨b1,b2⟩:=hp;obtain ⟨b3,b4⟩:=hq;obtain ⟨b5,b6⟩:=hk;obtain ⟨m9,m10⟩:=prod_bdW (a:=u-mn p u) (k:=k % 3) (by omega) (by omega) (by omega) (by omega);obtain ⟨m11,m12⟩:=prod_bdW (a:=v-mn q v) (k:=k / 3) (by omega) (by omega) (by omega) (by omega)
 have m1:0≤mn p u:=by omega
 have m2:mn p u≤u:=by omega
 have m3:0≤mn q v:=by omega
 have m4:mn q v≤v:=by omega
 have m5:0≤k % 3:=by omega
 have m6:k % 3≤2:=by omega
 have m7:0≤k / 3:=by omega
 have m8:k / 3≤2:=by omega
 clear g1 g2
 go_enter Tryz.func219,Tryz.ntmps219
 go_wp2_with fail
 go_quiet (fail)
 go_wp2
 exact bodyPost_ret (v:=.agg #[.int .i64 (x+(u-mn p u)*(k % 3) / 2),.int .i64 (y+(v-mn q v)*(k / 3) / 2),.int .i64 (mn p u),.int .i64 (mn q v)]) (by simp only [results,Tryz.results219];go_simp) rfl ⟨rfl,(by repeat (first | with_reducible exact Below.refl _ _ | with_reducible assumption | with_reducible refine balloc ?_|(with_reducible refine bset ?_ ?_;rotate_left;((try dsimp only);omega)) | refine bkeep2 ?_ (by assumption) | with_reducible refine Below.drew ?_ | refine belowN ?_ _))⟩
theorem anchored_W (p:Pk) (r q:Rc) (a b:Int) (w:World) (h:p.big) (hr:r.okW) (hq:q=insP r p.px p.py) (ha:a=p.w∨a=(insP r p.px p.py).u) (hb:b=p.h∨b=(insP r p.px p.py).v) (S:Rc) (hS:ancP (insP r p.px p.py) a b p.an=S) :
  Calls Tryz.prog 219 #[.agg #[.int .i64 (q.x),.int .i64 (q.y),.int .i64 (q.u),.int .i64 (q.v)],.int .i64 a,.int .i64 b,.int .i64 p.an] w fun e w'=>e=.returned (.agg #[.int .i64 (S.x),.int .i64 (S.y),.int .i64 (S.u),.int .i64 (S.v)])∧Below w.heap.size w w':=by
 subst hq hS;have hi:=ins_bdW h hr;obtain ⟨⟨⟨a1,a2⟩,a3,a4⟩,⟨a5,a6⟩,a7,a8⟩:=hr;obtain ⟨h1,h2,_,h4,h5,h6⟩:=h
 have ea:0≤a∧a≤20000000000000:=by rcases ha with rfl | rfl <;> (try simp only [insP]) <;> omega
 have eb:0≤b∧b≤20000000000000:=by rcases hb with rfl | rfl <;> (try simp only [insP]) <;> omega
 exact anchored_big _ _ _ _ _ _ _ _ (by simp only [insP];omega) (by simp only [insP];omega) (by simp only [insP];omega) (by simp only [insP];omega) ea eb h4
theorem inParcel_w (p:Pk) (r:Rc) (w:World) (h:p.big) (hr:r.okW):Calls Tryz.prog 239 #[.agg #[.int .i64 p.w,.int .i64 p.h,.int .i64 p.s,.bool p.fx,.bool p.fy,.bool p.ex,.int .i64 p.an,.int .i64 p.px,.int .i64 p.py],.agg #[.int .i64 (r.x),.int .i64 (r.y),.int .i64 (r.u),.int .i64 (r.v)]] w fun e w'=>e=.returned (.agg #[.int .i64 ((setP p r).x),.int .i64 ((setP p r).y),.int .i64 ((setP p r).u),.int .i64 ((setP p r).v)])∧Below w.heap.size w w':=by
 obtain ⟨S,hS⟩:∃ S,setP p r=S:=⟨_,rfl⟩
 rw [hS];have HS:=hD hS;clear hS
 go_enter Tryz.func239,Tryz.ntmps239
 go_wp2_with fail
 with_reducible refine (inset_W p r _ h hr).mono ?_
 rintro e w1 ⟨rfl,hb1⟩
 have hP1:=(hb1.block w.heap.size (by simp;omega)).trans ((Below.heap_alloc _ (.cells #[.int .i64 0,.int .i64 0,.int .i64 0,.int .i64 0] 32 (0,0)) _ (by simp;omega)).trans ((Below.heap_alloc _ (.cells #[.int .i64 r.x,.int .i64 r.y,.int .i64 r.u,.int .i64 r.v] 32 (0,0)) _ (by simp)).trans (heap_new w (.cells #[.int .i64 p.w,.int .i64 p.h,.int .i64 p.s,.bool p.fx,.bool p.fy,.bool p.ex,.int .i64 p.an,.int .i64 p.px,.int .i64 p.py] 37 (0,0)))))
 have hI1:=(hb1.block (w.heap.size+1+1) (by simp)).trans (by have e:=heap_new ((w.alloc (.cells #[.int .i64 p.w,.int .i64 p.h,.int .i64 p.s,.bool p.fx,.bool p.fy,.bool p.ex,.int .i64 p.an,.int .i64 p.px,.int .i64 p.py] 37 (0,0))).alloc (.cells #[.int .i64 r.x,.int .i64 r.y,.int .i64 r.u,.int .i64 r.v] 32 (0,0))) (.cells #[.int .i64 0,.int .i64 0,.int .i64 0,.int .i64 0] 32 (0,0));simpa only [World.size_alloc] using e)
 have hB1:Below w.heap.size w w1:=bkeep2 (balloc (balloc (balloc (Below.refl _ _)))) hb1;have hls:w.heap.size+1+1<w1.heap.size:=(gE hI1).1
 obtain ⟨I,hI⟩:∃ I,insP r p.px p.py=I:=⟨_,rfl⟩
 rw [hI];have c0:=cellH hP1 0;have c1:=cellH hP1 1;have c3:=cellH hP1 3;have c4:=cellH hP1 4;have c6:=cellH hP1 6;simp only [List.getElem?_toArray,List.getElem?_cons_zero,List.getElem?_cons_succ] at c0 c1 c3 c4 c6;have HB:=hD hB1;have HX:=hD hI1
 have hl0:w.heap.size<w1.heap.size:=by omega
 have hn0:¬ w.heap.size=w1.heap.size:=by omega
 have HI:=hD hI;clear hP1 hI1 hb1 hB1 hI
 cases hfx:p.fx <;> cases hfy:p.fy
 ·rw [hfx] at c3;rw [hfy] at c4
  go_wp2_with fail
  go_region
  go_wp2_with fail
  refine (anchored_W p r I p.w p.h _ h hr HI.out.symm (by rw [HI.out];simp) (by rw [HI.out];simp) S (by rw [<- HS.out];unfold setP wP hP;simp [hfx,hfy,HI.out])).mono ?_;rintro e w2 ⟨rfl,hb2⟩;replace HX:=hD ((hb2.block _ (by simp;omega)).trans ((Below.heap_alloc _ _ _ hls).trans HX.out));replace HB:=hD (bkeep2 (Below.drew (balloc HB.out)) hb2);clear hb2 c0 c1 c3 c4 c6 hl0 hn0 hls
  obtain ⟨i0,i1,i2,i3⟩:=cells4 HX.out;have g0:=frozenH HX.out 0;have g1:=frozenH HX.out 1;have g2:=frozenH HX.out 2;have g3:=frozenH HX.out 3;go_wp2
  refine bp_genP (fun W=>W.heap[w.heap.size+1+1]?=some (.cells #[.int .i64 S.x,.int .i64 S.y,.int .i64 S.u,.int .i64 S.v] 32 (0,0))∧Below w.heap.size w W)
   ⟨pput4z HX.out _ _ _ _,pput4b HB.out (by omega) _ _ _ _ _ _ _ _⟩ ?_
  clear HX HB i0 i1 i2 i3 g0 g1 g2 g3;rintro W ⟨hW,hB2⟩;obtain ⟨r0,r1,r2,r3⟩:=cells4 hW;exact bodyPost_ret (v:=.agg #[.int .i64 (S.x),.int .i64 (S.y),.int .i64 (S.u),.int .i64 (S.v)]) (by simp only [results,Tryz.results239];go_simp) rfl ⟨rfl,hB2⟩
 ·rw [hfx] at c3;rw [hfy] at c4
  go_wp2_with fail
  go_region
  go_wp2_with fail
  refine (anchored_W p r I p.w I.v _ h hr HI.out.symm (by rw [HI.out];simp) (by rw [HI.out];simp) S (by rw [<- HS.out];unfold setP wP hP;simp [hfx,hfy,HI.out])).mono ?_;rintro e w2 ⟨rfl,hb2⟩;replace HX:=hD ((hb2.block _ (by simp;omega)).trans ((Below.heap_alloc _ _ _ hls).trans HX.out));replace HB:=hD (bkeep2 (Below.drew (balloc HB.out)) hb2);clear hb2 c0 c1 c3 c4 c6 hl0 hn0 hls
  obtain ⟨i0,i1,i2,i3⟩:=cells4 HX.out;have g0:=frozenH HX.out 0;have g1:=frozenH HX.out 1;have g2:=frozenH HX.out 2;have g3:=frozenH HX.out 3;go_wp2
  refine bp_genP (fun W=>W.heap[w.heap.size+1+1]?=some (.cells #[.int .i64 S.x,.int .i64 S.y,.int .i64 S.u,.int .i64 S.v] 32 (0,0))∧Below w.heap.size w W)
   ⟨pput4z HX.out _ _ _ _,pput4b HB.out (by omega) _ _ _ _ _ _ _ _⟩ ?_
  clear HX HB i0 i1 i2 i3 g0 g1 g2 g3;rintro W ⟨hW,hB2⟩;obtain ⟨r0,r1,r2,r3⟩:=cells4 hW;exact bodyPost_ret (v:=.agg #[.int .i64 (S.x),.int .i64 (S.y),.int .i64 (S.u),.int .i64 (S.v)]) (by simp only [results,Tryz.results239];go_simp) rfl ⟨rfl,hB2⟩
 ·rw [hfx] at c3;rw [hfy] at c4
  go_wp2_with fail
  go_region
  go_wp2_with fail
  refine (anchored_W p r I I.u p.h _ h hr HI.out.symm (by rw [HI.out];simp) (by rw [HI.out];simp) S (by rw [<- HS.out];unfold setP wP hP;simp [hfx,hfy,HI.out])).mono ?_;rintro e w2 ⟨rfl,hb2⟩;replace HX:=hD ((hb2.block _ (by simp;omega)).trans ((Below.heap_alloc _ _ _ hls).trans HX.out));replace HB:=hD (bkeep2 (Below.drew (balloc HB.out)) hb2);clear hb2 c0 c1 c3 c4 c6 hl0 hn0 hls
  obtain ⟨i0,i1,i2,i3⟩:=cells4 HX.out;have g0:=frozenH HX.out 0;have g1:=frozenH HX.out 1;have g2:=frozenH HX.out 2;have g3:=frozenH HX.out 3;go_wp2
  refine bp_genP (fun W=>W.heap[w.heap.size+1+1]?=some (.cells #[.int .i64 S.x,.int .i64 S.y,.int .i64 S.u,.int .i64 S.v] 32 (0,0))∧Below w.heap.size w W)
   ⟨pput4z HX.out _ _ _ _,pput4b HB.out (by omega) _ _ _ _ _ _ _ _⟩ ?_
  clear HX HB i0 i1 i2 i3 g0 g1 g2 g3;rintro W ⟨hW,hB2⟩;obtain ⟨r0,r1,r2,r3⟩:=cells4 hW;exact bodyPost_ret (v:=.agg #[.int .i64 (S.x),.int .i64 (S.y),.int .i64 (S.u),.int .i64 (S.v)]) (by simp only [results,Tryz.results239];go_simp) rfl ⟨rfl,hB2⟩
 ·rw [hfx] at c3;rw [hfy] at c4
  go_wp2_with fail
  go_region
  go_wp2_with fail
  refine (anchored_W p r I I.u I.v _ h hr HI.out.symm (by rw [HI.out];simp) (by rw [HI.out];simp) S (by rw [<- HS.out];unfold setP wP hP;simp [hfx,hfy,HI.out])).mono ?_;rintro e w2 ⟨rfl,hb2⟩;replace HX:=hD ((hb2.block _ (by simp;omega)).trans ((Below.heap_alloc _ _ _ hls).trans HX.out));replace HB:=hD (bkeep2 (Below.drew (balloc HB.out)) hb2);clear hb2 c0 c1 c3 c4 c6 hl0 hn0 hls
  obtain ⟨i0,i1,i2,i3⟩:=cells4 HX.out;have g0:=frozenH HX.out 0;have g1:=frozenH HX.out 1;have g2:=frozenH HX.out 2;have g3:=frozenH HX.out 3;go_wp2
  refine bp_genP (fun W=>W.heap[w.heap.size+1+1]?=some (.cells #[.int .i64 S.x,.int .i64 S.y,.int .i64 S.u,.int .i64 S.v] 32 (0,0))∧Below w.heap.size w W)
   ⟨pput4z HX.out _ _ _ _,pput4b HB.out (by omega) _ _ _ _ _ _ _ _⟩ ?_
  clear HX HB i0 i1 i2 i3 g0 g1 g2 g3;rintro W ⟨hW,hB2⟩;obtain ⟨r0,r1,r2,r3⟩:=cells4 hW;exact bodyPost_ret (v:=.agg #[.int .i64 (S.x),.int .i64 (S.y),.int .i64 (S.u),.int .i64 (S.v)]) (by simp only [results,Tryz.results239];go_simp) rfl ⟨rfl,hB2⟩
end
section
attribute [local go_sem 5000] run_mx run_mn
theorem expandShare_w (A:Option Addr) (c:Nat) (L:List Pk) (room:Int) (d:Bool) (w:World) (h:PV w A L) (hL:bgL L) (p0:Pk) (r0:List Pk) (hp0:L=p0 :: r0) (hd0:p0.down=d) (hx0:p0.ex=true) (hr:0≤room) (hr':room≤20000000000000) :
  Calls Tryz.prog 243 #[.slice A L.length c,.int .i64 room,.bool d] w fun e w'=>e=.returned (.int .i64 (shareGo L d room room 0))∧Below w.heap.size w w':=by
 obtain ⟨hok,h7⟩:=id hL;have H0:=hD (And.intro hp0 (And.intro hd0 hx0));have HL:=hD hok;clear hp0 hd0 hx0 hok hL
 obtain ⟨R,hR⟩:∃ R,shareGo L d room room 0=R:=⟨_,rfl⟩
 rw [hR];have HR:=hD hR;clear hR
 go_enter Tryz.func243,Tryz.ntmps243
 go_wp2_with fail
 go_loopw [1,7,8,14] (fun rm sh n i wr=>∃ (k:Nat) (a b q:Int),k≤L.length∧rm=.int .i64 a∧sh=.int .i64 b∧n=.int .i64 q∧i=.int .i64 k∧shareGo (L.drop k) d b a q=R∧(-(1000000000020*(k:Int))≤a∧a≤20000000000000)∧(0≤b∧b≤20000000000000)∧(0≤q∧q≤k)∧(1≤k→1≤q)∧Below w.heap.size w wr) (fun _ _ _ i _=>L.length-(intOf i).toNat)
 case atStart=>exact ⟨0,room,room,0,by omega,rfl,rfl,rfl,rfl,HR.out,by omega,by omega,by omega,by omega,Below.refl _ _⟩
 case round =>
  obtain ⟨k,a,b,q,hk,rfl,rfl,rfl,rfl,hS,⟨ha1,ha2⟩,⟨hb1,hb2⟩,⟨hq1,hq2⟩,hkq,hB⟩:=hrel;have HBB:=hD hB;have HS:=hD hS;clear HR hB hS
  by_cases hlt:k<L.length
  ·have hd:decide ((k:Int)<(L.length:Int))=true:=by simpa using hlt
   obtain ⟨g,off,rfl,hg,hp⟩:=(h.keep HBB.out).cells (by omega);obtain ⟨c0,c1,c2,c3,c4,c5,c6,c7,c8⟩:=hp k _ (List.getElem?_eq_getElem hlt);have hget:L[k]?=some L[k]:=List.getElem?_eq_getElem hlt;generalize hx:L[k]=p at *;have hpk:p.big:=HL.out p (List.mem_of_getElem? hget);have nb:=Pk.need_bdW hpk d
   have hfst:k=0→p.down=d∧p.ex=true:=by
    rintro rfl;obtain ⟨e1,e2,e3⟩:=H0.out
    have e4:p=p0:=by rw [e1] at hget;simpa using hget.symm
    rw [e4];exact ⟨e2,e3⟩
   have HG:=hD hget;have HX:=hD hx;have HP:=hD hp;have HPK:=hD hpk;clear hget hx hp hpk
   by_cases hdn:p.down=d
   ·have hne:(p.down != d)=false:=by simp [hdn]
    have heq:(p.down == d)=true:=by simp [hdn]
    have HDN:=hD hdn;have HF:=hD hfst;clear hdn hfst
    cases hex:p.ex
    all_goals
     have HEX:=hD hex;rw [hex] at c5;clear hex
     go_wp2_with fail
     rw [<- HEX.out];refine (isDown_v p _).mono ?_;rintro e w1 ⟨rfl,hbb⟩;have hv:=(hbb.block wr.heap.size (by simp)).trans (heap_new wr _);replace HBB:=hD (HBB.out.trans ((Below.refl wr.heap.size wr).alloc (Nat.le_refl _) _ |>.trans (hbb.mono (by simp)) |>.mono HBB.out.size));have HV:=hD hv;obtain ⟨v0,v1,v2,v3,v4,v5,v6,v7,v8⟩:=b9c hv;clear hbb hv c0 c1 c2 c3 c4 c5 c6 c7 c8
     go_wp2_with fail
     refine (need_w p d _ HPK.out).mono ?_;rintro e w2 ⟨rfl,hbb⟩;have hv:=(hbb.block wr.heap.size (gE HV.out).1).trans HV.out;replace HBB:=hD (HBB.out.trans (hbb.mono HBB.out.size));clear v0 v1 v2 v3 v4 v5 v6 v7 v8;obtain ⟨v0,v1,v2,v3,v4,v5,v6,v7,v8⟩:=b9c hv;rw [HEX.out] at v5;clear hbb hv HV;go_wp2
     go_roundw
    case rel=>exact ⟨k+1,_,_,_,by omega,rfl,rfl,rfl,by go_num,by rw [<- HS.out,drop_cons HG.out,shareGo_plain HDN.out HEX.out],by omega,by omega,by omega,fun _=>hkq (by
     rcases Nat.eq_zero_or_pos k with e | e
     ·have h9:=(HF.out e).2;rw [HEX.out] at h9
      cases h9
     ·exact e),HBB.out⟩
    case measure=>simp [intOf];omega
    case rel=>exact ⟨k+1,_,_,_,by omega,rfl,rfl,rfl,by go_num,by rw [<- HS.out,drop_cons HG.out,shareGo_same HDN.out HEX.out],by omega,by omega,by omega,by omega,HBB.out⟩
    case measure=>simp [intOf];omega
   ·have hne:(p.down != d)=true:=by simpa using hdn
    have heq:(p.down == d)=false:=by simpa using hdn
    have hk1:1≤k:=by
     rcases Nat.eq_zero_or_pos k with e | e
     ·exact absurd (hfst e).1 hdn
     ·exact e
    have hq3:1≤q:=hkq hk1;have HDN:=hD hdn;have pb:=part_bdW (r:=a-p.need d) (n:=q) (by omega) hq3;have mb:=mx_spec (a-p.need d) 0
    have m0:0≤mx (a-p.need d) 0:=by omega
    have nb2:=mn_spec b (mx (a-p.need d) 0 / q)
    have hq0:¬ q=0:=by omega
    clear hdn hfst hkq
    go_wp2_with fail
    refine (isDown_v p _).mono ?_;rintro e w1 ⟨rfl,hbb⟩;have hv:=(hbb.block wr.heap.size (by simp)).trans (heap_new wr _);replace HBB:=hD (HBB.out.trans ((Below.refl wr.heap.size wr).alloc (Nat.le_refl _) _ |>.trans (hbb.mono (by simp)) |>.mono HBB.out.size));have HV:=hD hv;obtain ⟨v0,v1,v2,v3,v4,v5,v6,v7,v8⟩:=b9c hv;clear hbb hv c0 c1 c2 c3 c4 c5 c6 c7 c8
    go_wp2_with fail
    refine (need_w p d _ HPK.out).mono ?_;rintro e w2 ⟨rfl,hbb⟩;replace HBB:=hD (HBB.out.trans (hbb.mono HBB.out.size));clear v0 v1 v2 v3 v4 v5 v6 v7 v8 hbb HV;go_wp2
    go_roundw
    case rel=>exact ⟨k+1,_,_,_,by omega,rfl,rfl,rfl,by go_num,by rw [<- HS.out,drop_cons HG.out,shareGo_other HDN.out],by omega,by omega,by omega,by omega,HBB.out⟩
    case measure=>simp [intOf];omega
  ·have hd:decide ((k:Int)<(L.length:Int))=false:=by simp;omega
   obtain rfl:k=L.length:=by omega
   have hk1:1≤L.length:=by rw [H0.out.1];simp
   have hq3:1≤q:=hkq hk1;have hSS:=HS.out;rw [List.drop_length] at hSS;have HS2:=hD hSS;have pb:=part_bdW (r:=a) (n:=q) (by omega) hq3;have mb:=mx_spec a 0
   have m0:0≤mx a 0:=by omega
   have hq0:¬ q=0:=by omega
   clear hSS HS hkq;go_wp2;go_ret;exact ⟨ret_int (by rw [<- HS2.out];rfl),HBB.out⟩
end
section
attribute [local go_sem 5000] run_mx run_mn
theorem cut_w (z:Rc) (s n:Int) (w:World) (hz:z.okW) (hs:0≤s) (hs':s≤3) (hn:0≤n) :
  Calls Tryz.prog 245 #[.agg #[.int .i64 (z.x),.int .i64 (z.y),.int .i64 (z.u),.int .i64 (z.v)],.int .i64 s,.int .i64 n] w fun e w'=>e=.returned (.tuple #[.agg #[.int .i64 ((cutP z s n).1.x),.int .i64 ((cutP z s n).1.y),.int .i64 ((cutP z s n).1.u),.int .i64 ((cutP z s n).1.v)],.agg #[.int .i64 ((cutP z s n).2.x),.int .i64 ((cutP z s n).2.y),.int .i64 ((cutP z s n).2.u),.int .i64 ((cutP z s n).2.v)]])∧Below w.heap.size w w':=by
 have h:s=0∨s=1∨s=2∨s=3:=by omega
 rcases h with rfl | rfl | rfl | rfl
 ·exact cut0_w z.x z.y z.u z.v n w (Rc.okW_vr hz) hn
 ·exact cut1_w z.x z.y z.u z.v n w (Rc.okW_vr hz) hn
 ·exact cut2_w z.x z.y z.u z.v n w (Rc.okW_vr hz) hn
 ·exact cut3_w z.x z.y z.u z.v n w (Rc.okW_vr hz) hn
theorem share1_w (b off c lf:Nat) (L:List Pk) (p:Pk) (r:List Pk) (z:Rc) (w:World) (e0:L=p :: r) (h:PV w (some ⟨b,off,none⟩) L) (hL:bgL L) (hz:z.okW)
  (hl:w.heap[lf]?=some (.cells #[.int .i64 z.x,.int .i64 z.y,.int .i64 z.u,.int .i64 z.v] 32 (0,0))) :
  Calls Tryz.prog 242 #[.slice (some ⟨b,off,none⟩) L.length c,.pointer (some ⟨lf,0,none⟩)] w fun e w'=>e=.returned (.int .i64 (moreOf L z))∧Below w.heap.size w w':=by
 obtain ⟨b',off',eA,hb,hc⟩:=first_cells h e0
 injection eA with eA
 injection eA with e1 e2
 subst e1 e2;have hlf:=(gE hl).1;obtain ⟨sb1,sb2⟩:=Rc.size_bdW hz p.down;have HL:=hD hl;have HV:=hD hL
 have hlp:0<L.length:=by rw [e0];simp
 have HE:=hD e0;have HH:=hD h;obtain ⟨l0,l1,l2,l3⟩:=cells4 hl;have hne:=Nat.ne_of_lt hlf;obtain ⟨c0,c1,c2,c3,c4,c5,c6,c7,c8⟩:=hc;clear hl h hL e0
 cases hx:p.ex
 ·have HM:=hD (moreOf_no (z:=z) HE.out hx);rw [hx] at c5;clear hx
  go_enter Tryz.func242,Tryz.ntmps242
  go_wp2;go_ret;exact ⟨ret_int HM.out.symm,balloc (Below.refl _ _)⟩
 ·have HM:=hD (moreOf_yes (z:=z) HE.out hx);have HX:=hD hx;rw [hx] at c5;clear hx
  go_enter Tryz.func242,Tryz.ntmps242
  go_wp2_with fail
  refine wp_region_grow 8 1 (·<8) (by kernel_rfl) (by kernel_rfl) rfl ?_
  iterate 8 (refine wpG_step (fun K hK=>?_);apply Exists.intro;refine ⟨.inl ⟨rfl,fun w' hw'=>?_⟩,?_⟩;(focus ((obtain ⟨hc,hf⟩:=bcell hw'.out);(have hcS:=bcellS hw'.out);go_simp <;> first | rfl|(go_at_call 201;exact isDown_x p _ _)|(go_at_call 244;exact size_v z _ _)|(go_at_call 243;exact expandShare_w _ c L _ _ _ (HH.out.keep (bkeep2 (Below.drew (balloc (Below.refl _ _))) hw'.out)) HV.out p r HE.out rfl HX.out sb1 sb2)));(go_simp;refine hK _ ?_;clear hK K))
  refine wpG_nil ?_;refine wpK_tail (by kernel_rfl) (fun w1 hg1=>?_);refine wpAny_one (i:=8) (by kernel_rfl) rfl rfl ?_;go_simp;refine wpAny_end (by kernel_rfl) ?_;refine NoPan.thn ?_;have HB:=hD (bkeep2 (Below.drew (balloc (Below.refl _ _))) hg1.out);clear hg1 c0 c1 c2 c3 c4 c5 c6 c7 c8 l0 l1 l2 l3;go_wp2;go_ret;exact ⟨ret_int HM.out.symm,HB.out⟩
theorem share1_nW (b off c lf n:Nat) (L:List Pk) (p:Pk) (r:List Pk) (z:Rc) (w:World) (hn:n=L.length) (e0:L=p :: r) (h:PV w (some ⟨b,off,none⟩) L) (hL:bgL L) (hz:z.okW)
  (hl:w.heap[lf]?=some (.cells #[.int .i64 z.x,.int .i64 z.y,.int .i64 z.u,.int .i64 z.v] 32 (0,0))) :
  Calls Tryz.prog 242 #[.slice (some ⟨b,off,none⟩) n c,.pointer (some ⟨lf,0,none⟩)] w fun e w'=>e=.returned (.int .i64 (moreOf L z))∧Below w.heap.size w w':=by
 subst hn;exact share1_w b off c lf L p r z w e0 h hL hz hl
end
section
attribute [local go_sem 5000] run_mx run_mn
theorem bgL_drop {L:List Pk} (h:bgL L) (k:Nat):bgL (L.drop k):=⟨fun p hp=>h.1 p (List.mem_of_mem_drop hp),by have:=h.2;rw [List.length_drop];omega⟩
theorem packParcels_w (A:Option Addr) (c:Nat) (L:List Pk) (z0:Rc) (w:World) (h:PV w A L) (hcap:L.length≤c) (hL:bgL L) (hz0:z0.okW) (M:List Rc) (Z:Rc) (hM:parcM L z0=(M,Z)) :
  Calls Tryz.prog 238 #[.slice A L.length c,.agg #[.int .i64 (z0.x),.int .i64 (z0.y),.int .i64 (z0.u),.int .i64 (z0.v)]] w fun e w'=>(∃ g,e=.returned (.tuple #[.slice (some ⟨g,0,none⟩) L.length L.length,.agg #[.int .i64 (Z.x),.int .i64 (Z.y),.int .i64 (Z.u),.int .i64 (Z.v)]])∧w.heap.size≤g∧Blk4 w' g M)∧Below w.heap.size w w':=by
 obtain ⟨hok,h7⟩:=id hL
 have hML:M.length=L.length:=by have:=parcM_len (L:=L) (z:=z0);rw [hM] at this;exact this
 obtain ⟨f,hf,hmk0⟩:=made4
 have hmk:∀ w:World,(Instr.makeSlice 28 (.int .i64 (L.length:Int)) (.int .i64 (L.length:Int))).run Tryz.prog w=.ok (.slice (some ⟨w.heap.size,0,none⟩) L.length L.length) (w.alloc (.cells (f L.length) 32)):=fun w=>hmk0 L.length w (by omega)
 have HOK:=hD hok;have HML:=hD hML;have HVL:=hD hL;have HM:=hD hM;clear hok hML hL hM hmk0
 go_enter Tryz.func238,Tryz.ntmps238
 go_wp2_with fail
 have H0:∀ (i:Nat) (r:Rc),i<0→M[i]?=some r→In4 (f L.length) (i*4) r:=fun i r hi=>absurd hi (by omega)
 have HF:=hD (And.intro (hf L.length) H0);clear H0 hf hmk
 go_loopw [17] (fun i wr=>∃ k:Nat,k≤L.length∧i=.int .i64 k∧(∃ cs:Array Value,wr.heap[w.heap.size+1+1]?=some (.cells cs 32 (0,0))∧cs.size=L.length*4∧∀ i r,i<k→M[i]?=some r→In4 cs (i*4) r) ∧
  (∃ z:Rc,wr.heap[w.heap.size]?=some (.cells #[.int .i64 z.x,.int .i64 z.y,.int .i64 z.u,.int .i64 z.v] 32 (0,0))∧z.okW∧parcM (L.drop k) z=(M.drop k,Z)) ∧
  wr.heap[w.heap.size+1]?=some (.cells #[.int .i64 0,.int .i64 0,.int .i64 0,.int .i64 0] 32 (0,0))∧Below w.heap.size w wr) (fun i _=>L.length-(intOf i).toNat)
 case atStart =>
  refine ⟨0,by omega,rfl,⟨_,?_,HF.out.1,HF.out.2⟩,⟨z0,?_,hz0,HM.out⟩,?_,balloc (balloc (balloc (Below.refl _ _)))⟩
  ·have e:=heap_new ((w.alloc (.cells #[.int .i64 z0.x,.int .i64 z0.y,.int .i64 z0.u,.int .i64 z0.v] 32)).alloc (.cells #[.int .i64 0,.int .i64 0,.int .i64 0,.int .i64 0] 32)) (.cells (f L.length) 32)
   simpa only [World.size_alloc] using e
  ·rw [Below.heap_alloc _ _ _ (by simp;omega),Below.heap_alloc _ _ _ (by simp)];exact heap_new _ _
  ·rw [Below.heap_alloc _ _ _ (by simp)];have e:=heap_new (w.alloc (.cells #[.int .i64 z0.x,.int .i64 z0.y,.int .i64 z0.u,.int .i64 z0.v] 32)) (.cells #[.int .i64 0,.int .i64 0,.int .i64 0,.int .i64 0] 32)
   simpa only [World.size_alloc] using e
 case round =>
  obtain ⟨k,hk,rfl,⟨cs,hh,hs,hc⟩,⟨z,hl,hz,hp⟩,hr,hB⟩:=hrel;clear HF HM
  by_cases hlt:k<L.length
  ·have hd:decide ((k:Int)<(L.length:Int))=true:=by simpa using hlt
   obtain ⟨b,off,rfl,hb,hps⟩:=(h.keep hB).cells (by omega);obtain ⟨c0,c1,c2,c3,c4,c5,c6,c7,c8⟩:=hps k _ (List.getElem?_eq_getElem hlt);have hget:L[k]?=some L[k]:=List.getElem?_eq_getElem hlt;generalize hx:L[k]=p at *;have hpk:p.big:=HOK.out p (List.mem_of_getElem? hget);have hdrop:=drop_cons hget
   obtain ⟨tk1,tk2⟩:=takeOf_bdW (p:=p) (r:=L.drop (k+1)) (z:=z) (fun q hq=>HOK.out q (List.mem_of_mem_drop (by rw [hdrop];exact hq:q∈L.drop k))) hz
   have hw6:IntKind.i64.wrap (p.need p.down+moreOf (L.drop k) z)=takeOf p (L.drop (k+1)) z:=by
    rw [hdrop];exact IntWalk.i64_in _ (by unfold takeOf at tk1 tk2;omega)
   obtain ⟨b1,b2,⟨b3,b4⟩,b5⟩:=(show ((0≤p.w∧p.w≤1000000000000)∧(0≤p.h∧p.h≤1000000000000)∧(0≤p.s∧p.s≤3)∧(0≤p.an∧p.an≤8)∧(0≤p.px∧p.px≤10)∧(0≤p.py∧p.py≤10)) from hpk)
   have hdl:L.length-k=(L.drop k).length:=by rw [List.length_drop]
   have HG:=hD hget;have HX:=hD hx;have HH:=hD hh;have HS:=hD hs;have HC:=hD hc;have HL:=hD hl;have HZ:=hD hz;have HP:=hD hp;have HR:=hD hr;have HBB:=hD hB;have HPS:=hD hps;have HPK:=hD hpk;have HD:=hD hdrop;have HDL:=hD hdl;obtain ⟨l0,l1,l2,l3⟩:=cells4 hl;have hll:=(gE hl).1;have hln:=Nat.ne_of_lt hll;clear hget hx hh hs hc hl hz hp hr hB hps hpk hdrop hdl b1 b2 b5
   go_wp2_with fail
   have hkL:k≤L.length:=by omega
   have hLk:¬ L.length=k:=by omega
   refine wp_region_grow 14 1 (·<14) (by kernel_rfl) (by kernel_rfl) rfl ?_
   iterate 14 (refine wpG_step (fun K hK=>?_);apply Exists.intro;refine ⟨.inl ⟨rfl,fun w' hw'=>?_⟩,?_⟩;(focus ((obtain ⟨hc,hf⟩:=bcell hw'.out);(have hcS:=bcellS hw'.out);go_simp <;> first | rfl|(go_at_call 201;exact isDown_x p _ _)|(go_at_call 241;exact need_w p _ _ HPK.out)|(go_at_call 242;exact share1_nW _ _ _ _ _ (L.drop k) p _ z _ HDL.out HD.out ((PV.drop HPS.out hb).keep (bkeep2 (Below.drew (balloc (Below.refl _ _))) hw'.out)) (bgL_drop HVL.out k) HZ.out (((bkeep2 (Below.drew (balloc (Below.refl _ _))) hw'.out).block _ hll).trans HL.out))));(go_simp;refine hK _ ?_;clear hK K))
   refine wpG_nil ?_;refine wpK_tail (by kernel_rfl) (fun w1 hg1=>?_);refine wpAny_one (i:=14) (by kernel_rfl) rfl rfl ?_;go_simp;refine wpAny_end (by kernel_rfl) ?_;refine NoPan.thn ?_;have hgl:=hg1.out;have hB1:Below wr.heap.size wr w1:=bkeep2 (Below.drew (balloc (Below.refl _ _))) hgl
   have hv1:=(hgl.block wr.heap.size (by simp)).trans (heap_new wr (.cells #[.int .i64 p.w,.int .i64 p.h,.int .i64 p.s,.bool p.fx,.bool p.fy,.bool p.ex,.int .i64 p.an,.int .i64 p.px,.int .i64 p.py] 37));have HV:=hD hv1;have HB1:=hD hB1;replace HL:=hD ((hB1.block _ hll).trans HL.out);have hgg:w.heap.size+1+1<wr.heap.size:=(gE HH.out).1
   have hrr:w.heap.size+1<wr.heap.size:=by omega
   replace HH:=hD ((hB1.block _ hgg).trans HH.out);replace HR:=hD ((hB1.block _ hrr).trans HR.out);obtain ⟨m0,m1,m2,m3⟩:=cells4 HL.out;have m4:w1.cell? ⟨wr.heap.size,2,none⟩=some (.int .i64 p.s):=cellH hv1 2;clear hgl hB1 hv1 hg1 c0 c1 c2 c3 c4 c5 c6 c7 c8 l0 l1 l2 l3 hw6
   go_wp2_with fail
   with_reducible refine (cut_w z p.s (takeOf p (L.drop (k+1)) z) _ HZ.out b3 b4 tk1).mono ?_
   rintro e w2 ⟨rfl,hb2⟩;clear m0 m1 m2 m3 m4 HV
   obtain ⟨P,hP⟩:∃ P,cutP z p.s (takeOf p (L.drop (k+1)) z)=P:=⟨_,rfl⟩
   rw [hP];have hok2:=cutP_okW (s:=p.s) (n:=takeOf p (L.drop (k+1)) z) HZ.out tk1;obtain ⟨hst1,hst2⟩:=parcM_step HG.out HP.out;rw [hP] at hst1 hst2 hok2;have HST1:=hD hst1;have HST2:=hD hst2;have HOK2:=hD hok2.2;have hs1:=HB1.out.size;replace HL:=hD ((hb2.block _ (by omega)).trans HL.out);replace HH:=hD ((hb2.block _ (by omega)).trans HH.out);replace HR:=hD ((hb2.block _ (by omega)).trans HR.out)
   replace HBB:=hD ((HBB.out.trans (HB1.out.mono HBB.out.size)).trans (hb2.mono (by have:=HBB.out.size;omega)));clear hP hst1 hst2 hok2 hb2 HB1 hs1 hgg hrr hll hln
   have hsz:k*4+4≤cs.size:=by rw [HS.out];omega
   obtain ⟨y0,d0⟩:=there HH.out (i:=k*4) (by omega);obtain ⟨y1,d1⟩:=there HH.out (i:=k*4+1) (by omega);obtain ⟨y2,d2⟩:=there HH.out (i:=k*4+2) (by omega);obtain ⟨y3,d3⟩:=there HH.out (i:=k*4+3) (by omega);have f0:=frozenH HH.out (k*4);have f1:=frozenH HH.out (k*4+1);have f2:=frozenH HH.out (k*4+2);have f3:=frozenH HH.out (k*4+3);obtain ⟨l0,l1,l2,l3⟩:=cells4 HL.out;have g0:=frozenH HL.out 0
   have g1:=frozenH HL.out 1;have g2:=frozenH HL.out 2;have g3:=frozenH HL.out 3
   have n1:¬ w.heap.size+1+1=w.heap.size:=by omega
   have n2:¬ w.heap.size=w.heap.size+1+1:=by omega
   have E1:=hD ((pput4o (b:=w.heap.size) (b':=w.heap.size+1+1) n1 0 1 2 3 (.int .i64 P.2.x) (.int .i64 P.2.y) (.int .i64 P.2.u) (.int .i64 P.2.v)).trans (pput4 HH.out (k*4) P.1))
   have E2:=hD (pput4z ((pput4o (b:=w.heap.size+1+1) (b':=w.heap.size) n2 (k*4) (k*4+1) (k*4+2) (k*4+3) (.int .i64 P.1.x) (.int .i64 P.1.y) (.int .i64 P.1.u) (.int .i64 P.1.v)).trans HL.out) (.int .i64 P.2.x) (.int .i64 P.2.y) (.int .i64 P.2.u) (.int .i64 P.2.v))
   have E3:=hD ((pput4o (b:=w.heap.size) (b':=w.heap.size+1) (by omega) 0 1 2 3 (.int .i64 P.2.x) (.int .i64 P.2.y) (.int .i64 P.2.u) (.int .i64 P.2.v)).trans ((pput4o (b:=w.heap.size+1+1) (b':=w.heap.size+1) (by omega) (k*4) (k*4+1) (k*4+2) (k*4+3) (.int .i64 P.1.x) (.int .i64 P.1.y) (.int .i64 P.1.u) (.int .i64 P.1.v)).trans HR.out))
   have E4:=hD (pput4b (pput4b HBB.out (b:=w.heap.size+1+1) (by omega) (k*4) (k*4+1) (k*4+2) (k*4+3) (.int .i64 P.1.x) (.int .i64 P.1.y) (.int .i64 P.1.u) (.int .i64 P.1.v)) (b:=w.heap.size) (by omega) 0 1 2 3 (.int .i64 P.2.x) (.int .i64 P.2.y) (.int .i64 P.2.u) (.int .i64 P.2.v));go_wp2
   go_roundw
   case rel=>exact ⟨k+1,by omega,by go_num,⟨_,E1.out,(writeAt_size _ _ _).trans HS.out,fun i q hi hq=>by
    by_cases e:i=k
    ·subst e
     obtain rfl:P.1=q:=by have:=HST1.out;rw [this] at hq;exact Option.some.inj hq
     exact In4.write P.1 hsz
    ·exact (HC.out i q (by omega) hq).keep (.inl (by omega))⟩,⟨P.2,E2.out,HOK2.out,HST2.out⟩,E3.out,E4.out⟩
   case measure=>simp [intOf];omega
  ·have hd:decide ((k:Int)<(L.length:Int))=false:=by simp;omega
   obtain rfl:k=L.length:=by omega
   rw [List.drop_length] at hp
   have hpz:z=Z:=by simp only [parcM,Prod.mk.injEq] at hp;exact hp.2
   subst hpz;have HBK:=hD (show Blk4 wr (w.heap.size+1+1) M from ⟨cs,hh,by rw [hs,HML.out],fun i r hi=>hc i r (by have:=(List.getElem?_eq_some_iff.1 hi).1;rw [HML.out] at this;exact this) hi⟩);have HL:=hD hl;have HR:=hD hr;have HBB:=hD hB;obtain ⟨l0,l1,l2,l3⟩:=cells4 hl;clear hh hs hc hl hp hr hB;obtain ⟨r0,r1,r2,r3⟩:=cells4 HR.out;have g0:=frozenH HR.out 0;have g1:=frozenH HR.out 1
   have g2:=frozenH HR.out 2;have g3:=frozenH HR.out 3
   go_wp2_with fail
   go_region
   go_wp2
   refine bp_genP (fun W=>W.heap[w.heap.size+1]?=some (.cells #[.int .i64 z.x,.int .i64 z.y,.int .i64 z.u,.int .i64 z.v] 32 (0,0))∧Blk4 W (w.heap.size+1+1) M∧Below w.heap.size w W)
    ⟨pput4z HR.out _ _ _ _,HBK.out.far (by omega) _ _ _ _ _ _ _ _,Below.drew (pput4b HBB.out (by omega) _ _ _ _ _ _ _ _)⟩ ?_
   clear HR HL HBB HBK l0 l1 l2 l3 r0 r1 r2 r3 g0 g1 g2 g3;rintro W ⟨hW,hk2,hB2⟩;obtain ⟨r0,r1,r2,r3⟩:=cells4 hW;exact bodyPost_ret (v:=.tuple #[.slice (some ⟨w.heap.size+1+1,0,none⟩) L.length L.length,.agg #[.int .i64 (z.x),.int .i64 (z.y),.int .i64 (z.u),.int .i64 (z.v)]]) (by simp only [results,Tryz.results238];go_simp) rfl ⟨⟨_,rfl,by omega,hk2⟩,hB2⟩
end
theorem parcM_okW:∀ {L:List Pk} {z:Rc},(∀ p∈L,p.big)→z.okW→∀ r∈(parcM L z).1,r.okW
 | [],z,_,_,r,hr=>by simp [parcM] at hr
 | p :: t,z,hL,hz,r,hr=>by
  have tk:=takeOf_bdW hL hz;have hc:=cutP_okW (s:=p.s) (n:=takeOf p t z) hz tk.1;simp only [parcM,List.mem_cons] at hr
  rcases hr with rfl | hr
  ·exact hc.1
  ·exact parcM_okW (fun q hq=>hL q (List.mem_cons_of_mem _ hq)) hc.2 r hr
theorem packRects_w (A:Option Addr) (c:Nat) (L:List Pk) (z0:Rc) (w:World) (h:PV w A L) (hcap:L.length≤c) (hL:bgL L) (hz0:z0.okW) (M:List Rc) (Z:Rc) (hM:parcM L z0=(M,Z)) :
  Calls Tryz.prog 236 #[.slice A L.length c,.agg #[.int .i64 (z0.x),.int .i64 (z0.y),.int .i64 (z0.u),.int .i64 (z0.v)]] w fun e w'=>(∃ g,e=.returned (.slice (some ⟨g,0,none⟩) L.length L.length)∧w.heap.size≤g∧Blk4 w' g (setL L M))∧Below w.heap.size w w':=by
 obtain ⟨hok,h7⟩:=id hL
 have hML:M.length=L.length:=by have:=parcM_len (L:=L) (z:=z0);rw [hM] at this;exact this
 have hMok:∀ r∈M,r.okW:=by have:=parcM_okW (L:=L) (z:=z0) hok hz0;rw [hM] at this;exact this
 have HOK:=hD hok;have HML:=hD hML;have HMK:=hD hMok;have HM:=hD hM;clear hok hML hM hMok
 go_enter Tryz.func236,Tryz.ntmps236
 go_wp2_with fail
 refine (packParcels_w A c L z0 _ (h.keep (balloc (Below.refl _ _))) hcap hL hz0 M Z HM.out).mono ?_;rintro e w1 ⟨⟨g,rfl,hg,hk⟩,hb⟩;have HB0:=hD (bkeep2 (balloc (Below.refl _ _)) hb)
 replace hg:w.heap.size≤g:=by simp only [World.size_alloc] at hg;omega
 have HK0:=hD hk;clear hb hk
 go_wp2_with fail
 go_loopw [17] (fun i wr=>∃ k:Nat,k≤L.length∧i=.int .i64 k∧(∃ cs:Array Value,wr.heap[g]?=some (.cells cs 32 (0,0))∧cs.size=L.length*4∧(∀ i r,i<k→(setL L M)[i]?=some r→In4 cs (i*4) r)∧(∀ i r,k≤i→M[i]?=some r→In4 cs (i*4) r))∧Below w.heap.size w wr) (fun i _=>L.length-(intOf i).toNat)
 case atStart =>
  obtain ⟨cs,hh,hs,hc⟩:=HK0.out.keep (balloc (Below.refl _ _));exact ⟨0,by omega,rfl,⟨cs,hh,by rw [hs,HML.out],fun i r hi=>absurd hi (by omega),fun i r _ hr=>hc i r hr⟩,balloc HB0.out⟩
 case round =>
  obtain ⟨k,hk,rfl,⟨cs,hh,hs,hc,hc'⟩,hB⟩:=hrel;clear HK0 HB0 HM
  by_cases hlt:k<L.length
  ·have hd:decide ((k:Int)<(L.length:Int))=true:=by simpa using hlt
   obtain ⟨b,off,rfl,hb,hps⟩:=(h.keep hB).cells (by omega);have hget:L[k]?=some L[k]:=List.getElem?_eq_getElem hlt;obtain ⟨c0,c1,c2,c3,c4,c5,c6,c7,c8⟩:=hps k _ hget;generalize hx:L[k]=p at *
   have hkM:k<M.length:=by rw [HML.out];exact hlt
   have hgetM:M[k]?=some M[k]:=List.getElem?_eq_getElem hkM;obtain ⟨r0,r1,r2,r3⟩:=(hc' k _ (by omega) hgetM).cells hh;generalize hy:M[k]=r at *;have HR:=hD (HMK.out r (List.mem_of_getElem? hgetM));have HP:=hD (HOK.out p (List.mem_of_getElem? hget));have HG:=hD (setL_get hget hgetM);have HH:=hD hh;have HS:=hD hs;have HC:=hD hc;have HC':=hD hc';have HBB:=hD hB;have hgl:g<wr.heap.size:=(gE hh).1
   have hgn:¬ g=wr.heap.size:=by omega
   clear hget hx hgetM hy hh hs hc hc' hB hps
   go_wp2_with fail
   refine wp_region_grow 9 1 (·<9) (by kernel_rfl) (by kernel_rfl) rfl ?_
   iterate 9 (refine wpG_step (fun K hK=>?_);apply Exists.intro;refine ⟨.inl ⟨rfl,fun w' hw'=>?_⟩,?_⟩;(focus ((obtain ⟨hc,hf⟩:=bcell hw'.out);(have hcS:=bcellS hw'.out);go_simp <;> first | rfl|(go_at_call 239;exact inParcel_w p r _ HP.out HR.out)));(go_simp;refine hK _ ?_;clear hK K))
   refine wpG_nil ?_;refine wpK_tail (by kernel_rfl) (fun w2 hg2=>?_);have hB2:Below wr.heap.size wr w2:=bgrow (Below.drew (balloc (Below.refl _ _))) hg2;replace HH:=hD ((hB2.block _ hgl).trans HH.out);replace HBB:=hD (HBB.out.trans (hB2.mono HBB.out.size));clear hg2 hB2 c0 c1 c2 c3 c4 c5 c6 c7 c8 r0 r1 r2 r3 hgl hgn
   have hsz:k*4+4≤cs.size:=by rw [HS.out];omega
   obtain ⟨y0,d0⟩:=there HH.out (i:=k*4) (by omega);obtain ⟨y1,d1⟩:=there HH.out (i:=k*4+1) (by omega);obtain ⟨y2,d2⟩:=there HH.out (i:=k*4+2) (by omega);obtain ⟨y3,d3⟩:=there HH.out (i:=k*4+3) (by omega);have f0:=frozenH HH.out (k*4);have f1:=frozenH HH.out (k*4+1);have f2:=frozenH HH.out (k*4+2);have f3:=frozenH HH.out (k*4+3)
   obtain ⟨S,hS⟩:∃ S,setP p r=S:=⟨_,rfl⟩
   rw [hS];replace HG:Hid ((setL L M)[k]?=some S):=hD (by rw [<- hS];exact HG.out);have E1:=hD (pput4 HH.out (k*4) S);have E2:=hD (pput4b HBB.out hg (k*4) (k*4+1) (k*4+2) (k*4+3) (.int .i64 S.x) (.int .i64 S.y) (.int .i64 S.u) (.int .i64 S.v));clear hS HH HBB;refine wpAny_one (i:=9) (by kernel_rfl) rfl rfl ?_;go_simp;refine wpAny_end (by kernel_rfl) ?_;refine nopan_normal ?_;go_wp2
   go_roundw
   case rel=>exact ⟨k+1,by omega,by go_num,⟨_,E1.out,(writeAt_size _ _ _).trans HS.out,fun i q hi hq=>by
    by_cases e:i=k
    ·subst e
     obtain rfl:S=q:=by have:=HG.out;rw [this] at hq;exact Option.some.inj hq
     exact In4.write S hsz
    ·exact (HC.out i q (by omega) hq).keep (.inl (by omega)),fun i q hi hq=>(HC'.out i q (by omega) hq).keep (.inr (by omega))⟩,E2.out⟩
   case measure=>simp [intOf];omega
  ·have hd:decide ((k:Int)<(L.length:Int))=false:=by simp;omega
   obtain rfl:k=L.length:=by omega
   have HK:=hD (show Blk4 wr g (setL L M) from ⟨cs,hh,by rw [hs,setL_len HML.out],fun i r hr=>hc i r (by have:=(List.getElem?_eq_some_iff.1 hr).1;rwa [setL_len HML.out] at this) hr⟩);have HBB:=hD hB;clear hh hs hc hc' hB;go_wp2;go_ret;exact ⟨⟨_,rfl,hg,HK.out⟩,HBB.out⟩
def edP (S:List Int) (k:Nat):List Int:=(List.range (S.length+1)).map fun i=>if i≤k then sumI (S.take i) else 0
def edL (S:List Int):List Int:=(List.range (S.length+1)).map fun i=>sumI (S.take i)
theorem edP_len (S:List Int) (k:Nat):(edP S k).length=S.length+1:=by simp [edP]
theorem edL_len (S:List Int):(edL S).length=S.length+1:=by simp [edL]
theorem edP_zero (S:List Int):List.replicate (S.length+1) 0=edP S 0:=by
 apply List.ext_getElem
 ·simp [edP]
 ·intro i h1 h2;simp only [edP,List.getElem_map,List.getElem_range,List.getElem_replicate]
  split
  ·rename_i h
   obtain rfl:i=0:=by omega
   simp [sumI]
  ·rfl
theorem edP_end (S:List Int):edP S S.length=edL S:=by
 apply List.ext_getElem
 ·simp [edP,edL]
 ·intro i h1 h2;simp only [edP,edL,List.getElem_map,List.getElem_range];rw [if_pos]
  simp [edP] at h1
  omega
theorem edP_get {S:List Int} {k i:Nat} (hi:i≤S.length):(edP S k)[i]?=some (if i≤k then sumI (S.take i) else 0):=by
 rw [List.getElem?_eq_getElem (by rw [edP_len];omega)]
 simp [edP]
theorem edL_get {S:List Int} {i:Nat} (hi:i≤S.length):(edL S)[i]?=some (sumI (S.take i)):=by
 rw [List.getElem?_eq_getElem (by rw [edL_len];omega)]
 simp [edL]
theorem edP_set {S:List Int} {k:Nat} (hk:k<S.length):(edP S k).set (k+1) (sumI (S.take (k+1)))=edP S (k+1):=by
 apply List.ext_getElem
 ·simp [edP]
 ·intro i h1 h2;rw [List.getElem_set];simp only [edP,List.getElem_map,List.getElem_range]
  split
  ·rename_i h
   subst h;rw [if_pos (Nat.le_refl _)]
  ·rename_i h
   by_cases h3:i≤k
   ·rw [if_pos h3,if_pos (by omega)]
   ·rw [if_neg h3,if_neg (by omega)]
theorem nopan_normalE {Q:Exit→Act→World→Prop} {a:Act} {w:World} (h:Q .normal a w):NoPan Q .normal a w:=h
theorem edgesOf_w (A:Option Addr) (c n:Nat) (S:List Int) (w:World) (h:NV w A S) (hn:n=S.length) (h5:S.length≤8) (hM:Smal 1000000000000000 S) :
  Calls Tryz.prog 214 #[.slice A n c] w fun e w'=>e=.returned (.slice (some ⟨w.heap.size,0,none⟩) (n+1) (n+1))∧IB w' w.heap.size (edL S)∧Below w.heap.size w w':=by
 have hmk:∀ w:World,(Instr.makeSlice 47 (.int .i64 ((n:Int)+1)) (.int .i64 ((n:Int)+1))).run Tryz.prog w=.ok (.slice (some ⟨w.heap.size,0,none⟩) (n+1) (n+1)) (w.alloc (.cells (ivals (List.replicate (n+1) 0)) 3)):=fun w=>madeI (n+1) w (by omega)
 have HM:=hD hM;subst hn
 have hi0:IB (w.alloc (.cells (ivals (List.replicate (S.length+1) 0)) 3)) w.heap.size (edP S 0):=by rw [<- edP_zero];exact makeI_b _ w
 have HI:=hD hi0;have HB:=hD (balloc (o:=(.cells (ivals (List.replicate (S.length+1) 0)) 3)) (Below.refl w.heap.size w));have HH:=hD h;clear hM hi0 h
 obtain ⟨n,hn⟩:∃ n,S.length=n:=⟨_,rfl⟩
 rw [hn] at hmk h5;have HN:=hD hn;rw [show S.length=n from hn]
 go_enter Tryz.func214,Tryz.ntmps214
 go_wp2_with fail
 go_loopw [11] (fun i wr=>∃ k:Nat,k≤n∧i=.int .i64 k∧IB wr w.heap.size (edP S k)∧Below w.heap.size w wr) (fun i _=>n-(intOf i).toNat)
 case atStart=>exact ⟨0,by omega,rfl,by rw [<- HN.out];exact HI.out,by rw [<- HN.out];exact HB.out⟩
 case round =>
  obtain ⟨k,hk,rfl,hi,hB⟩:=hrel;clear HI HB
  by_cases hlt:k<n
  ·have hd:decide ((k:Int)<(n:Int))=true:=by simpa using hlt
   have hlS:k<S.length:=by omega
   obtain ⟨b,off,rfl,hb,hp⟩:=(HH.out.keep hB).cells (by omega);have hget:S[k]?=some S[k]:=List.getElem?_eq_getElem hlS;have c0:=hp k _ hget;have hs:=sumI_snoc hget;have b1:=HM.out k;have b2:=HM.out (k+1);rw [hs] at b2;have hset:=hi.set (k+1) (sumI (S.take (k+1)));rw [edP_set hlS,hs] at hset;generalize S[k]=x at *;have d0:=hi.cell (edP_get (S:=S) (k:=k) (i:=k) (by omega))
   rw [if_pos (Nat.le_refl _)] at d0;have d1:=hi.cell (edP_get (S:=S) (k:=k) (i:=k+1) (by omega));rw [if_neg (by omega)] at d1;have f1:=hi.frozen (k+1)
   obtain ⟨t,ht⟩:∃ t,sumI (S.take k)=t:=⟨_,rfl⟩
   rw [ht] at d0 b1 b2 hset;have hlg:=hi.lt
   have i1:(k:Int)<(n:Int)+1:=by omega
   have i2:(k:Int)+1<(n:Int)+1:=by omega
   have i3:(0:Int)≤(k:Int)+1:=by omega
   have i4:((k:Int)+1).toNat=k+1:=by omega
   have m1:IntKind.i64.wrap ((k:Int)+1)=(k:Int)+1:=IntWalk.i64_in _ (by omega);have m2:IntKind.i64.wrap (t+x)=t+x:=IntWalk.i64_in _ (by omega);have HI:=hD hi;have HB:=hD hB;have HT:=hD (And.intro ht hs);clear hi hB hp hget ht hs hset hn
   go_wp2_with fail
   refine wp_region_grow 13 1 (·<13) (by kernel_rfl) (by kernel_rfl) rfl ?_
   iterate 13 (refine wpG_step (fun K hK=>?_);first|(refine grow_skip rfl ?_;go_simp;refine hK _ ?_;clear hK K)|(apply Exists.intro;refine ⟨.inl ⟨rfl,fun w' hw'=>?_⟩,?_⟩;(focus ((obtain ⟨hc,hf⟩:=bcell hw'.out);(have hcS:=bcellS hw'.out);go_simp <;> first | rfl | fail));(go_simp;refine hK _ ?_;clear hK K)))
   refine wpG_nil ?_;refine wpK_tail (by kernel_rfl) (fun w8 hg8=>?_);have hb8:=bdrewn hg8.out;obtain ⟨hc8,hf8⟩:=bcell hb8;refine wpAny_one (i:=13) (by kernel_rfl) rfl rfl ?_;go_simp;refine wpAny_end (by kernel_rfl) ?_;refine nopan_normalE ?_;clear hc8 hf8;clear hg8;have hi2:=(HI.out.keep hb8).set (k+1) (t+x);have e2:=edP_set hlS;rw [HT.out.2,HT.out.1] at e2;rw [e2] at hi2;replace HI:=hD hi2
   replace HB:=hD ((bkeep2 HB.out hb8).setCell (p:=⟨w.heap.size,k+1,none⟩) (Nat.le_refl _) (.int .i64 (t+x)));clear hi2 e2 hb8 c0 d0 d1 f1;go_wp2
   go_roundw
   case rel=>exact ⟨k+1,by omega,by go_num,HI.out,HB.out⟩
   case measure=>simp [intOf];omega
  ·have hd:decide ((k:Int)<(n:Int))=false:=decide_eq_false (by omega)
   obtain rfl:k=n:=by omega
   rw [<- HN.out,edP_end] at hi;have HI:=hD hi;have HB:=hD hB;clear hi hB hn;go_wp2;go_ret;exact ⟨rfl,HI.out,HB.out⟩
structure Re where
 x:Int
 y:Int
 u:Int
 v:Int
def valsRe (p:Re):List Value:=[.int .i64 p.x,.int .i64 p.y,.int .i64 p.u,.int .i64 p.v]
structure ReV (w:World) (A:Option Addr) (L:List Re):Prop where
 cells:0<L.length→∃ b off,A=some ⟨b,off,none⟩∧b<w.heap.size∧∀ i p,L[i]?=some p→w.cell? ⟨b,off+i*4,none⟩=some (.int .i64 p.x)∧w.cell? ⟨b,off+i*4+1,none⟩=some (.int .i64 p.y)∧w.cell? ⟨b,off+i*4+2,none⟩=some (.int .i64 p.u)∧w.cell? ⟨b,off+i*4+3,none⟩=some (.int .i64 p.v)
theorem ReV.keep {w w':World} {A:Option Addr} {L:List Re} (h:ReV w A L) (hb:Below w.heap.size w w'):ReV w' A L :=
 ⟨fun h0=>let ⟨b,off,e,hl,hp⟩:=h.cells h0;⟨b,off,e,Nat.lt_of_lt_of_le hl hb.size,fun i p hi=>by
  obtain ⟨c0,c1,c2,c3⟩:=hp i p hi
  exact ⟨(hb.cell (p:=⟨b,off+i*4,none⟩) hl).trans c0,(hb.cell (p:=⟨b,off+i*4+1,none⟩) hl).trans c1,(hb.cell (p:=⟨b,off+i*4+2,none⟩) hl).trans c2,(hb.cell (p:=⟨b,off+i*4+3,none⟩) hl).trans c3⟩⟩⟩
theorem ReV.nil (w:World) (A:Option Addr):ReV w A []:=⟨fun h=>absurd h (by simp)⟩
def ReB (w:World) (g:Nat) (L:List Re):Prop:=∃ cs:Array Value,w.heap[g]?=some (.cells cs 32 (0,0))∧cs.size=L.length*4∧∀ i p,L[i]?=some p→InS cs (i*4) (valsRe p)
theorem ReB.v {w:World} {g:Nat} {L:List Re} (h:ReB w g L):ReV w (some ⟨g,0,none⟩) L:=by
 obtain ⟨cs,hh,hs,hc⟩:=h;refine ⟨fun _=>⟨g,0,rfl,ltS hh,fun i p hp=>?_⟩⟩;have hi:=hc i p hp;simp only [Nat.zero_add];exact ⟨(cellS hh _).trans (hi 0 _ rfl),(cellS hh _).trans (hi 1 _ rfl),(cellS hh _).trans (hi 2 _ rfl),(cellS hh _).trans (hi 3 _ rfl)⟩
theorem ReB.keep {w w':World} {g:Nat} {L:List Re} (h:ReB w g L) (hb:Below w.heap.size w w'):ReB w' g L:=by
 obtain ⟨cs,hh,hs,hc⟩:=h;exact ⟨cs,(hb.block g (ltS hh)).trans hh,hs,hc⟩
theorem madeRe:∃ f:Nat→Array Value,(∀ n,(f n).size=n*4)∧∀ (n:Nat) (w:World),n≤1048576→(Instr.makeSlice 28 (.int .i64 (n:Int)) (.int .i64 (n:Int))).run Tryz.prog w=.ok (.slice (some ⟨w.heap.size,0,none⟩) n n) (w.alloc (.cells (f n) 32)):=by
 have hinfo:(Tryz.prog.info? 32).map (fun i=>(i.zero,i.size,i.bytes))=some (some (.agg #[.int .i64 0,.int .i64 0,.int .i64 0,.int .i64 0]),4,32):=by kernel_rfl
 obtain ⟨i,hi,h1,h2,h3⟩:=info_parts hinfo;refine ⟨fun n=>madeCells (Value.agg #[.int .i64 0,.int .i64 0,.int .i64 0,.int .i64 0]).cells (n*4),fun n=>size_madeCells _ _,fun n w hn=>?_⟩;have hr:=run_make (P:=Tryz.prog) w 28 32 i _ Tryz.underlying28 hi h1 .i64 .i64 n n (by omega) (Int.le_refl _) (by rw [h3];omega) (by omega);rw [h2] at hr
 simpa using hr
theorem putRe {w:World} {b:Nat} {cs:Array Value} {T:TypeId} {fz:Nat × Nat} (h:w.heap[b]?=some (.cells cs T fz)) (o:Nat) (p:Re) :
  (((((w.setCell ⟨b,o,none⟩ (.int .i64 p.x)).setCell ⟨b,o+1,none⟩ (.int .i64 p.y)).setCell ⟨b,o+2,none⟩ (.int .i64 p.u)).setCell ⟨b,o+3,none⟩ (.int .i64 p.v))).heap[b]?=some (.cells (wrAt cs o (valsRe p)) T fz) :=
 putS (putS (putS (putS h _) _) _) _
theorem putReb {B b:Nat} {a w:World} (h:Below B a w) (hb:B≤b) (o:Nat) (p:Re):Below B a (((((w.setCell ⟨b,o,none⟩ (.int .i64 p.x)).setCell ⟨b,o+1,none⟩ (.int .i64 p.y)).setCell ⟨b,o+2,none⟩ (.int .i64 p.u)).setCell ⟨b,o+3,none⟩ (.int .i64 p.v))) :=
 ((((h).setCell hb _).setCell hb _).setCell hb _).setCell hb _
theorem takZ_at:∀ {L:List Ln} {O P:List Int} {i:Nat} {l:Ln} {o p:Int},L[i]?=some l→O[i]?=some o→P[i]?=some p→(takZ L O P)[i]?=some (o-mn p (o-l.mi))
 | l' :: L,o' :: O,p' :: P,0,l,o,p,hl,ho,hp=>by
  simp only [List.getElem?_cons_zero,Option.some.injEq] at hl ho hp;subst hl ho hp
  simp [takZ]
 | l' :: L,o' :: O,p' :: P,i+1,l,o,p,hl,ho,hp=>by
  simp only [List.getElem?_cons_succ] at hl ho hp;simp only [takZ,List.getElem?_cons_succ];exact takZ_at hl ho hp
 | [],_,_,i,l,o,p,hl,_,_=>by simp at hl
 | _ :: _,[],_,i,l,o,p,_,ho,_=>by simp at ho
 | _ :: _,_ :: _,[],i,l,o,p,_,_,hp=>by simp at hp
theorem takZ_sum:∀ (L:List Ln) (O P:List Int),sumI (takZ L O P)=sumI O-tknZ L O P
 | l :: L,o :: O,p :: P=>by simp only [takZ,tknZ,sumI,takZ_sum L O P];omega
 | [],O,P=>by simp [takZ,tknZ]
 | l :: L,[],P=>by simp [takZ,tknZ]
 | l :: L,o :: O,[]=>by simp [takZ,tknZ]
theorem shr_all {L:List Ln} (hL:linesB L=true):∀ (f:Nat) (n:Int) (O:List Int),n.toNat≤f→0≤n→SOK L O →
  SOK L (shrZ L n O)∧(∀ (i:Nat) (l:Ln) (o r:Int),L[i]?=some l→O[i]?=some o→(shrZ L n O)[i]?=some r→r≤o∧(l.wt=0→r=o))∧sumI (shrZ L n O)≤sumI O∧sumI O-n≤sumI (shrZ L n O)∧(sumI (shrZ L n O)=sumI O-n∨sumI (wtZ L (shrZ L n O))=0)
 | 0,n,O,hf,hn,h=>by
  obtain rfl:n=0:=by omega
  rw [shr_end (.inl (by omega))];exact ⟨h,fun i l o r _ h1 h2=>by rw [h1] at h2;obtain rfl:=Option.some.inj h2;exact ⟨Int.le_refl _,fun _=>rfl⟩,Int.le_refl _,by omega,.inl (by omega)⟩
 | f+1,n,O,hf,hn,h=>by
  by_cases h0:0<n∧sumI (wtZ L O)≠0
  ·obtain ⟨hp0,hs⟩:=h0;obtain ⟨hp,ht0,htn,hk⟩:=round_ok hL h hp0 hs;rw [shr_go hL h hp0 hs];have hw:=wtZ_ok hL h
   have hs0:0<sumI (wtZ L O):=by have:=hw.sum;omega
   have hsum:=takZ_sum L O (spreadM n (wtZ L O));obtain ⟨a1,a2,a3,a4,a5⟩:=shr_all hL f (n-tknZ L O (spreadM n (wtZ L O))) (takZ L O (spreadM n (wtZ L O))) (by omega) (by omega) hk;refine ⟨a1,fun i l o r h1 h2 h3=>?_,by omega,by omega,?_⟩
   ·obtain ⟨y,e1,y0,y1,e2⟩:=spread_get (n:=n) (by omega) hw (wtZ_get h1 h2)
    have:=takZ_at h1 h2 e1
    have hr:=a2 i l _ r h1 this h3;have hmi:=(h.get h1 h2).1;have hm:=mn_spec y (o-l.mi);refine ⟨by omega,fun hw0=>?_⟩;have h4:=(e2 hs0).1 (by rw [hw0];simp)
    have:=hr.2 hw0
    subst h4;omega
   ·rcases a5 with a5 | a5
    ·exact .inl (by omega)
    ·exact .inr a5
  ·have he:shrZ L n O=O:=shr_end (by omega);rw [he];refine ⟨h,fun i l o r _ h1 h2=>by rw [h1] at h2;obtain rfl:=Option.some.inj h2;exact ⟨Int.le_refl _,fun _=>rfl⟩,Int.le_refl _,by omega,?_⟩
   by_cases hp0:0<n
   ·exact .inr (by omega)
   ·exact .inl (by omega)
theorem linesB_get {L:List Ln} (hL:linesB L=true) {l:Ln} (hl:l∈L):(0≤l.wt∧l.wt≤5)∧(0≤l.mi∧l.mi≤30):=by
 obtain ⟨h1,h2⟩:=min_bd hL;refine ⟨h2.1 _ (List.mem_map_of_mem hl),?_⟩;simp only [linesB,Bool.and_eq_true,List.all_eq_true] at hL
 have:=hL.2 l hl
 simp only [lineB,Bool.and_eq_true,rng_iff] at this;exact this.2
theorem sized_okW {L:List Ln} {S:List Sp} {room:Int} (hL:linesB L=true) (hS:spansW L.length S) (hr0:0≤room) (hr1:room≤20000000000000) :
  SOK L (sizedM L S room)∧(sizedM L S room).length=L.length∧(∀ x∈sizedM L S room,0≤x∧x≤100000000000000)∧(sumI (sizedM L S room)≤room∨sumI (sizedM L S room)≤sumI (wishM L S)):=by
 obtain ⟨k1,k2,k3,k4,k5⟩:=wish_okW hL hS
 have key:SOK L (sizedM L S room)∧(sumI (sizedM L S room)≤room∨sumI (sizedM L S room)≤sumI (wishM L S)):=by
  unfold sizedM
  split
  ·obtain ⟨a1,a2,a3,a4,a5⟩:=shr_all hL _ (-(room-sumI (wishM L S))) (wishM L S) (Nat.le_refl _) (by omega) k1;exact ⟨a1,.inr a3⟩
  ·split
   ·exact ⟨k1,.inr (Int.le_refl _)⟩
   ·obtain ⟨hO,hW⟩:=min_bd hL
    have hn:0≤room-sumI (wishM L S):=by omega
    have hsum:=spread_sum hn hW;have hnn:=spread_nn hn hW
    have hlen:(spreadM (room-sumI (wishM L S)) (L.map Ln.wt)).length=L.length:=by rw [spreadM_len,List.length_map]
    have hs:=sum_addAt (O:=wishM L S) (P:=spreadM (room-sumI (wishM L S)) (L.map Ln.wt)) (k:=0) (by omega);have hmi:MI L (addAt (wishM L S) 0 (spreadM (room-sumI (wishM L S)) (L.map Ln.wt))):=MI.add (fun i l o h1 h2=>(k1.get h1 h2).1) hnn;have hx0:=nn_addAt (k:=0) (fun x hx=>(k3 x hx).1) hnn;have hx1:=mem_le_sum hx0
    refine ⟨SOK.of (by rw [addAt_len];exact k2) hmi (fun x hx=>by have:=hx1 x hx;omega),.inl (by omega)⟩
 refine ⟨key.1,key.1.len,fun x hx=>?_,key.2⟩;obtain ⟨i,hi,e⟩:=List.mem_iff_getElem.1 hx
 have hl:i<L.length:=by rw [<- key.1.len];exact hi
 have:=key.1.get (List.getElem?_eq_getElem hl) (by rw [List.getElem?_eq_getElem hi,e])
 have:=(linesB_get hL (List.getElem_mem hl)).2
 omega
theorem sized_smalW {L:List Ln} {S:List Sp} {room:Int} (hL:linesB L=true) (hS:spansW L.length S) (hr0:0≤room) (hr1:room≤20000000000000):Smal 1000000000000000 (sizedM L S room)∧(sizedM L S room).length≤5:=by
 obtain ⟨-,hl,hx,-⟩:=sized_okW hL hS hr0 hr1;have h5:=(linesB_len hL).2;refine ⟨smal_of (b:=100000000000000) (fun x h=>⟨by have:=(hx x h).1;omega,(hx x h).2⟩) (by omega) ?_,by omega⟩;rw [hl];omega
theorem take_seg (S:List Int) (a m:Nat):sumI (S.take (a+m))=sumI (S.take a)+sumI (segI S a m):=by
  rw [segI,List.take_add,sumI_append]
theorem sum_take_bd {S:List Int} (h:∀ x∈S,0≤x) (k:Nat):0≤sumI (S.take k)∧sumI (S.take k)≤sumI S:=by
  have h1:=sumI_nonneg (L:=S.take k) (fun x hx=>h x (List.mem_of_mem_take hx))
  have h2:=sumI_nonneg (L:=S.drop k) (fun x hx=>h x (List.mem_of_mem_drop hx))
  have h3:=sumI_append (S.take k) (S.drop k)
  rw [List.take_append_drop] at h3
  omega
def insR (a:Re) (p q:Int):Re:=⟨a.x+mn p (a.u / 2),a.y+mn q (a.v / 2),mx (a.u-2*p) 0,mx (a.v-2*q) 0⟩
def stkI (wish room k:Int):Int × Int:=if k=1 then (wish,0) else if k=2 then (wish,2) else if k=3 then (room,0) else (wish,1)
def ancR (a:Re) (p q k:Int):Re:=⟨a.x+(a.u-mn p a.u)*(k % 3) / 2,a.y+(a.v-mn q a.v)*(k / 3) / 2,mn p a.u,mn q a.v⟩
def stkS (at_ room wish:Int) (lo hi:Bool):Int × Int :=
  if lo&&hi then (at_,room) else if lo then (at_,mn wish room) else if hi then (at_+room-mn wish room,mn wish room) else (at_+(room-mn wish room) / 2,mn wish room)
def areaR (S1 S2:List Int) (c:Ce):Re:=⟨sumI (S1.take c.co.toNat),sumI (S2.take c.ro.toNat),sumI (segI S1 c.co.toNat c.mc.toNat),sumI (segI S2 c.ro.toNat c.mr.toNat)⟩
def cellR (S1 S2:List Int) (c:Ce):Re :=
  ⟨(stkS (insR (areaR S1 S2 c) c.px c.py).x (insR (areaR S1 S2 c) c.px c.py).u c.cw (decide (c.sk % 2=1)) (decide (c.sk / 2 % 2=1))).1,
   (stkS (insR (areaR S1 S2 c) c.px c.py).y (insR (areaR S1 S2 c) c.px c.py).v c.ch (decide (c.sk / 4 % 2=1)) (decide (c.sk / 8=1))).1,
   (stkS (insR (areaR S1 S2 c) c.px c.py).x (insR (areaR S1 S2 c) c.px c.py).u c.cw (decide (c.sk % 2=1)) (decide (c.sk / 2 % 2=1))).2,
   (stkS (insR (areaR S1 S2 c) c.px c.py).y (insR (areaR S1 S2 c) c.px c.py).v c.ch (decide (c.sk / 4 % 2=1)) (decide (c.sk / 8=1))).2⟩
def BdR (a:Re):Prop:=((0≤a.x∧a.x≤20000000000000)∧(0≤a.y∧a.y≤20000000000000))∧((0≤a.u∧a.u≤20000000000000)∧(0≤a.v∧a.v≤20000000000000))
theorem ins_bd {a:Re} {p q:Int} (h:BdR a) (hp:0≤p∧p≤10) (hq:0≤q∧q≤10) :
    ((0≤mn p (a.u / 2)∧mn p (a.u / 2)≤10)∧(0≤mn q (a.v / 2)∧mn q (a.v / 2)≤10))∧((0≤mx (a.u-2*p) 0∧mx (a.u-2*p) 0≤20000000000000)∧(0≤mx (a.v-2*q) 0∧mx (a.v-2*q) 0≤20000000000000)):=by
  obtain ⟨⟨h1,h2⟩,h3,h4⟩:=h
  have:=mn_spec p (a.u / 2);have:=mn_spec q (a.v / 2);have:=mx_spec (a.u-2*p) 0;have:=mx_spec (a.v-2*q) 0
  omega
theorem mul3_bd {a b:Int} (h1:0≤a) (h2:a≤20000000000000) (h3:0≤b) (h4:b≤2):0≤a*b∧a*b≤40000000000000 :=
  ⟨Int.mul_nonneg h1 h3,Int.le_trans (Int.mul_le_mul h2 h4 h3 (by omega)) (by omega)⟩
theorem anc_bd {u v p q k:Int} (hu:0≤u∧u≤20000000000000) (hv:0≤v∧v≤20000000000000) (hp:0≤p∧p≤20000000000000) (hq:0≤q∧q≤20000000000000) (hk:0≤k∧k≤8) :
    0≤mn p u∧mn p u≤u∧0≤mn q v∧mn q v≤v∧0≤k % 3∧k % 3≤2∧0≤k / 3∧k / 3≤2∧0≤(u-mn p u)*(k % 3)∧(u-mn p u)*(k % 3)≤40000000000000∧0≤(v-mn q v)*(k / 3)∧(v-mn q v)*(k / 3)≤40000000000000:=by
  have g1:=mn_spec p u;have g2:=mn_spec q v
  have e1:=mul3_bd (a:=u-mn p u) (b:=k % 3) (by omega) (by omega) (by omega) (by omega)
  have e2:=mul3_bd (a:=v-mn q v) (b:=k / 3) (by omega) (by omega) (by omega) (by omega)
  omega
theorem stkI_bd {wish room k:Int} (h1:0≤wish∧wish≤1000000000000) (h2:0≤room∧room≤20000000000000):(0≤(stkI wish room k).1∧(stkI wish room k).1≤20000000000000)∧(0≤(stkI wish room k).2∧(stkI wish room k).2≤2):=by
  unfold stkI
  split
  · simp only;omega
  · split
    · simp only;omega
    · split <;> (simp only;omega)
theorem stk_one (x room wish k:Int) (lo hi:Bool) (hr:0≤room) (hlo:lo=decide (k % 2=1)) (hhi:hi=decide (k / 2=1)) (hk:0≤k∧k≤3) :
    x+(room-mn (stkI wish room k).1 room)*(stkI wish room k).2 / 2=(stkS x room wish lo hi).1∧mn (stkI wish room k).1 room=(stkS x room wish lo hi).2:=by
  have hk4:k=0∨k=1∨k=2∨k=3:=by omega
  have hm:=mn_spec wish room
  rcases hk4 with rfl | rfl | rfl | rfl
  · subst hlo hhi
    simp [stkI,stkS]
  · subst hlo hhi
    simp [stkI,stkS]
  · subst hlo hhi
    simp [stkI,stkS]
    omega
  · subst hlo hhi
    have:=mn_spec room room
    simp [stkI,stkS]
    omega
def celI (a:Re) (c:Ce):Re:=ancR (insR a c.px c.py) (stkI c.cw (insR a c.px c.py).u (c.sk % 4)).1 (stkI c.ch (insR a c.px c.py).v (c.sk / 4)).1 ((stkI c.cw (insR a c.px c.py).u (c.sk % 4)).2+3*(stkI c.ch (insR a c.px c.py).v (c.sk / 4)).2)
theorem celI_eq {S1 S2:List Int} {c:Ce} (hs:0≤c.sk∧c.sk≤15) (hw:0≤c.cw∧c.cw≤1000000000000) (hh:0≤c.ch∧c.ch≤1000000000000) (hp:0≤c.px∧c.px≤10) (hq:0≤c.py∧c.py≤10) (hb:BdR (areaR S1 S2 c)):celI (areaR S1 S2 c) c=cellR S1 S2 c:=by
  obtain ⟨-,b3,b4⟩:=ins_bd hb hp hq
  have e1:=stk_one (insR (areaR S1 S2 c) c.px c.py).x (insR (areaR S1 S2 c) c.px c.py).u c.cw (c.sk % 4) (decide (c.sk % 2=1)) (decide (c.sk / 2 % 2=1)) b3.1 (by rw [show c.sk % 4 % 2=c.sk % 2 by omega]) (by rw [show c.sk % 4 / 2=c.sk / 2 % 2 by omega]) (by omega)
  have e2:=stk_one (insR (areaR S1 S2 c) c.px c.py).y (insR (areaR S1 S2 c) c.px c.py).v c.ch (c.sk / 4) (decide (c.sk / 4 % 2=1)) (decide (c.sk / 8=1)) b4.1 rfl (by rw [show c.sk / 4 / 2=c.sk / 8 by omega]) (by omega)
  have f1:=(stkI_bd (wish:=c.cw) (room:=(insR (areaR S1 S2 c) c.px c.py).u) (k:=c.sk % 4) hw b3).2
  have f2:=(stkI_bd (wish:=c.ch) (room:=(insR (areaR S1 S2 c) c.px c.py).v) (k:=c.sk / 4) hh b4).2
  unfold celI cellR ancR
  rw [show ((stkI c.cw (insR (areaR S1 S2 c) c.px c.py).u (c.sk % 4)).2+3*(stkI c.ch (insR (areaR S1 S2 c) c.px c.py).v (c.sk / 4)).2) % 3=(stkI c.cw (insR (areaR S1 S2 c) c.px c.py).u (c.sk % 4)).2 by omega,
    show ((stkI c.cw (insR (areaR S1 S2 c) c.px c.py).u (c.sk % 4)).2+3*(stkI c.ch (insR (areaR S1 S2 c) c.px c.py).v (c.sk / 4)).2) / 3=(stkI c.ch (insR (areaR S1 S2 c) c.px c.py).v (c.sk / 4)).2 by omega,
    e1.1,e1.2,e2.1,e2.2]
def SzB (S:List Int):Prop:=(∀ x∈S,0≤x)∧sumI S≤20000000000000∧S.length≤5
theorem SzB.seg {S:List Int} (h:SzB S) (a m:Nat):0≤sumI (segI S a m)∧sumI (segI S a m)≤20000000000000:=by
  have h1:=take_seg S a m
  have h2:=sum_take_bd h.1 (a+m)
  have h3:=sum_take_bd h.1 a
  have h4:=sumI_nonneg (L:=segI S a m) (fun x hx=>h.1 x (segI_mem hx))
  have:=h.2.1
  omega
theorem SzB.take {S:List Int} (h:SzB S) (a:Nat):0≤sumI (S.take a)∧sumI (S.take a)≤20000000000000:=by
  have h3:=sum_take_bd h.1 a
  have:=h.2.1
  omega
theorem area_bd {S1 S2:List Int} (h1:SzB S1) (h2:SzB S2) (c:Ce):BdR (areaR S1 S2 c):=by
  have a1:=h1.take c.co.toNat
  have a2:=h2.take c.ro.toNat
  have a3:=h1.seg c.co.toNat c.mc.toNat
  have a4:=h2.seg c.ro.toNat c.mr.toNat
  exact ⟨⟨⟨a1.1,by show sumI _≤_;omega⟩,⟨a2.1,by show sumI _≤_;omega⟩⟩,⟨a3.1,by show sumI _≤_;omega⟩,⟨a4.1,by show sumI _≤_;omega⟩⟩
theorem SzB.segsmal {S:List Int} (h:SzB S) (a m:Nat):Smal 1000000000000000 (segI S a m):=fun k=>by
  have h4:=sum_take_bd (S:=segI S a m) (fun x hx=>h.1 x (segI_mem hx)) k
  have:=h.seg a m
  omega
theorem SzB.takesmal {S:List Int} (h:SzB S) (a:Nat):Smal 1000000000000000 (S.take a):=fun k=>by
  have h4:=sum_take_bd (S:=S.take a) (fun x hx=>h.1 x (List.mem_of_mem_take hx)) k
  have:=h.take a
  omega
theorem SzB.of {L:List Ln} {S:List Sp} {room:Int} (hL:linesB L=true) (hS:spansW L.length S) (hr0:0≤room) (hr1:room≤20000000000000):SzB (sizedM L S room):=by
  obtain ⟨-,h2,h3,h4⟩:=sized_okW hL hS hr0 hr1
  have h5:=(wish_okW hL hS).2.2.2.2
  exact ⟨fun x hx=>(h3 x hx).1,by omega,by have:=(linesB_len hL).2;omega⟩
def Re.at (r:Re) (x y:Int):Re:=⟨r.x+x,r.y+y,r.u,r.v⟩
theorem insR_at (a:Re) (p q x y:Int):insR (a.at x y) p q=(insR a p q).at x y:=by simp only [insR,Re.at,Re.mk.injEq,and_true];omega
theorem stkS_at (x room wish d:Int) (lo hi:Bool):stkS (x+d) room wish lo hi=((stkS x room wish lo hi).1+d,(stkS x room wish lo hi).2):=by
  unfold stkS
  cases lo <;> cases hi <;> simp <;> omega
def BdM (a:Re):Prop:=((-2000000000000000≤a.x∧a.x≤2000000000000000)∧(-2000000000000000≤a.y∧a.y≤2000000000000000))∧((0≤a.u∧a.u≤20000000000000)∧(0≤a.v∧a.v≤20000000000000))
theorem ins_bdU {a:Re} {p q:Int} (h:(0≤a.u∧a.u≤20000000000000)∧(0≤a.v∧a.v≤20000000000000)) (hp:0≤p∧p≤10) (hq:0≤q∧q≤10) :
    ((0≤mn p (a.u / 2)∧mn p (a.u / 2)≤10)∧(0≤mn q (a.v / 2)∧mn q (a.v / 2)≤10))∧((0≤mx (a.u-2*p) 0∧mx (a.u-2*p) 0≤20000000000000)∧(0≤mx (a.v-2*q) 0∧mx (a.v-2*q) 0≤20000000000000)):=by
  obtain ⟨h3,h4⟩:=h
  have:=mn_spec p (a.u / 2);have:=mn_spec q (a.v / 2);have:=mx_spec (a.u-2*p) 0;have:=mx_spec (a.v-2*q) 0
  omega
def cellT (S1 S2:List Int) (x y:Int) (c:Ce):Re:=(cellR S1 S2 c).at x y
section
attribute [local go_sem 5000] run_mx run_mn
theorem wp_genG3 {P:Program} {c:Code} {Q:Exit→Act→World→Prop} {a:Act} {W:World} (F:World→Prop) (hF:F W) (h:∀ W0,F W0→c.wp P Q a W0):c.wp P Q a W:=h W hF
end
section
attribute [local go_sem 5000] run_mx run_mn
theorem bp_genQ {P:Program} {f:Func} {R:Ending→World→Prop} {e:Exit} {a:Act} {W:World} (F:World→Prop) (hF:F W) (h:∀ W0,F W0→bodyPost P f R e a W0):bodyPost P f R e a W:=h W hF
end
end Go.Proofs.YtfnpdlnepjhljaaGreat
