import Derived.Test.YtfnpdlnepjhljaaGreatQN12
set_option linter.unusedVariables false
set_option linter.unusedSimpArgs false
set_option maxRecDepth 100000
set_option maxHeartbeats 16000000
namespace Go.Proofs.YtfnpdlnepjhljaaGreat
open Go.RowKit
attribute [local go_sem] growUpon_value growUpon_skip growUpon_enter
section
attribute [local go_sem 5000] run_mx run_mn run_eqlR run_neqR
theorem scut0_w (x y u v n:Int) (w:World) (h1:vrW x y u v=true) (h2:0≤n) :
  Calls Tryz.prog 181 #[.agg #[.int .i64 (x),.int .i64 (y),.int .i64 (u),.int .i64 (v)],.int .i64 0,.int .i64 n] w fun e w'=>e=.returned (.tuple #[.agg #[.int .i64 (x),.int .i64 (y),.int .i64 (u),.int .i64 (mn n v)],.agg #[.int .i64 (x),.int .i64 (y+mn n v),.int .i64 (u),.int .i64 (v-mn n v)]])∧Below w.heap.size w w':=by
 obtain ⟨a1,a2,a3,a4,a5,a6,a7,a8⟩:=vrW_iff.1 h1;have g:=mn_spec n v
 have g1:0≤mn n v:=by omega
 have g2:mn n v≤v:=by omega
 clear g
 go_enter Tryz.func181,Tryz.ntmps181
 go_wp2_with fail
 refine wp_gen (fun W0=>Below w.heap.size w W0∧W0.cell? ⟨w.heap.size+1,0,none⟩=some (.int .i64 0)∧W0.frozen? ⟨w.heap.size+1,0,none⟩=false∧W0.cell? ⟨w.heap.size+1,1,none⟩=some (.int .i64 0)∧W0.frozen? ⟨w.heap.size+1,1,none⟩=false∧W0.cell? ⟨w.heap.size+1,2,none⟩=some (.int .i64 0)∧W0.frozen? ⟨w.heap.size+1,2,none⟩=false∧W0.cell? ⟨w.heap.size+1,3,none⟩=some (.int .i64 0)∧W0.frozen? ⟨w.heap.size+1,3,none⟩=false∧W0.cell? ⟨w.heap.size+1+1,0,none⟩=some (.int .i64 0)∧W0.frozen? ⟨w.heap.size+1+1,0,none⟩=false∧W0.cell? ⟨w.heap.size+1+1,1,none⟩=some (.int .i64 0)∧W0.frozen? ⟨w.heap.size+1+1,1,none⟩=false∧W0.cell? ⟨w.heap.size+1+1,2,none⟩=some (.int .i64 0)∧W0.frozen? ⟨w.heap.size+1+1,2,none⟩=false∧W0.cell? ⟨w.heap.size+1+1,3,none⟩=some (.int .i64 0)∧W0.frozen? ⟨w.heap.size+1+1,3,none⟩=false∧W0.cell? ⟨w.heap.size+1+1+1,0,none⟩=some (.int .i64 (x))∧W0.cell? ⟨w.heap.size+1+1+1,1,none⟩=some (.int .i64 (y))∧W0.cell? ⟨w.heap.size+1+1+1,2,none⟩=some (.int .i64 (u))∧W0.cell? ⟨w.heap.size+1+1+1,3,none⟩=some (.int .i64 (mn n v))∧W0.cell? ⟨w.heap.size+1+1+1+1,0,none⟩=some (.int .i64 (x))∧W0.cell? ⟨w.heap.size+1+1+1+1,1,none⟩=some (.int .i64 (y+mn n v))∧W0.cell? ⟨w.heap.size+1+1+1+1,2,none⟩=some (.int .i64 (u))∧W0.cell? ⟨w.heap.size+1+1+1+1,3,none⟩=some (.int .i64 (v-mn n v))) ⟨(by repeat (first | with_reducible exact Below.refl _ _ | with_reducible assumption | with_reducible refine balloc ?_|(with_reducible refine bset ?_ ?_;rotate_left;((try dsimp only);omega)) | refine bkeep2 ?_ (by assumption) | with_reducible refine Below.drew ?_)),?_⟩ (fun W0 hW0=>?_)
 ·go_simp
 obtain ⟨hBW,p0,pf0,p1,pf1,p2,pf2,p3,pf3,q0,qf0,q1,qf1,q2,qf2,q3,qf3,r0,r1,r2,r3,s0,s1,s2,s3⟩:=hW0
 go_region
 all_goals go_wp2
 all_goals
  have XA:=box4 (w:=W0) (b:=w.heap.size+1) (.int .i64 (x)) (.int .i64 (y)) (.int .i64 (u)) (.int .i64 (mn n v)) p0 p1 p2 p3
  have XB:=box4 (b:=w.heap.size+1+1) (.int .i64 (x)) (.int .i64 (y+mn n v)) (.int .i64 (u)) (.int .i64 (v-mn n v)) ((XA.2.2.2.2 (w.heap.size+1+1) 0 (by omega)).trans q0) ((XA.2.2.2.2 (w.heap.size+1+1) 1 (by omega)).trans q1) ((XA.2.2.2.2 (w.heap.size+1+1) 2 (by omega)).trans q2) ((XA.2.2.2.2 (w.heap.size+1+1) 3 (by omega)).trans q3)
  refine gen_post (fun wf=>Below w.heap.size w wf∧wf.cell? ⟨w.heap.size+1,0,none⟩=some (.int .i64 (x))∧wf.cell? ⟨w.heap.size+1,1,none⟩=some (.int .i64 (y))∧wf.cell? ⟨w.heap.size+1,2,none⟩=some (.int .i64 (u))∧wf.cell? ⟨w.heap.size+1,3,none⟩=some (.int .i64 (mn n v))∧wf.cell? ⟨w.heap.size+1+1,0,none⟩=some (.int .i64 (x))∧wf.cell? ⟨w.heap.size+1+1,1,none⟩=some (.int .i64 (y+mn n v))∧wf.cell? ⟨w.heap.size+1+1,2,none⟩=some (.int .i64 (u))∧wf.cell? ⟨w.heap.size+1+1,3,none⟩=some (.int .i64 (v-mn n v))) ⟨(by with_reducible refine Below.drew ?_;exact (by repeat (first | with_reducible exact Below.refl _ _ | with_reducible assumption | with_reducible refine balloc ?_|(with_reducible refine bset ?_ ?_;rotate_left;((try dsimp only);omega)) | refine bkeep2 ?_ (by assumption) | with_reducible refine Below.drew ?_))),celld ((XB.2.2.2.2 (w.heap.size+1) 0 (by omega)).trans XA.1),celld ((XB.2.2.2.2 (w.heap.size+1) 1 (by omega)).trans XA.2.1),celld ((XB.2.2.2.2 (w.heap.size+1) 2 (by omega)).trans XA.2.2.1),celld ((XB.2.2.2.2 (w.heap.size+1) 3 (by omega)).trans XA.2.2.2.1),celld XB.1,celld XB.2.1,celld XB.2.2.1,celld XB.2.2.2.1⟩ (fun wf hwf=>?_)
  clear XA XB;obtain ⟨hBf,z0,z1,z2,z3,z4,z5,z6,z7⟩:=hwf
  exact bodyPost_ret (v:=.tuple #[.agg #[.int .i64 (x),.int .i64 (y),.int .i64 (u),.int .i64 (mn n v)],.agg #[.int .i64 (x),.int .i64 (y+mn n v),.int .i64 (u),.int .i64 (v-mn n v)]]) (by simp only [results,Tryz.results181];go_simp) rfl ⟨rfl,(by repeat (first | with_reducible exact Below.refl _ _ | with_reducible assumption | with_reducible refine balloc ?_|(with_reducible refine bset ?_ ?_;rotate_left;((try dsimp only);omega)) | refine bkeep2 ?_ (by assumption) | with_reducible refine Below.drew ?_))⟩
theorem scut1_w (x y u v n:Int) (w:World) (h1:vrW x y u v=true) (h2:0≤n) :
  Calls Tryz.prog 181 #[.agg #[.int .i64 (x),.int .i64 (y),.int .i64 (u),.int .i64 (v)],.int .i64 1,.int .i64 n] w fun e w'=>e=.returned (.tuple #[.agg #[.int .i64 (x),.int .i64 (y+(v-mn n v)),.int .i64 (u),.int .i64 (mn n v)],.agg #[.int .i64 (x),.int .i64 (y),.int .i64 (u),.int .i64 (v-mn n v)]])∧Below w.heap.size w w':=by
 obtain ⟨a1,a2,a3,a4,a5,a6,a7,a8⟩:=vrW_iff.1 h1;have g:=mn_spec n v
 have g1:0≤mn n v:=by omega
 have g2:mn n v≤v:=by omega
 clear g
 go_enter Tryz.func181,Tryz.ntmps181
 go_wp2_with fail
 refine wp_gen (fun W0=>Below w.heap.size w W0∧W0.cell? ⟨w.heap.size+1,0,none⟩=some (.int .i64 0)∧W0.frozen? ⟨w.heap.size+1,0,none⟩=false∧W0.cell? ⟨w.heap.size+1,1,none⟩=some (.int .i64 0)∧W0.frozen? ⟨w.heap.size+1,1,none⟩=false∧W0.cell? ⟨w.heap.size+1,2,none⟩=some (.int .i64 0)∧W0.frozen? ⟨w.heap.size+1,2,none⟩=false∧W0.cell? ⟨w.heap.size+1,3,none⟩=some (.int .i64 0)∧W0.frozen? ⟨w.heap.size+1,3,none⟩=false∧W0.cell? ⟨w.heap.size+1+1,0,none⟩=some (.int .i64 0)∧W0.frozen? ⟨w.heap.size+1+1,0,none⟩=false∧W0.cell? ⟨w.heap.size+1+1,1,none⟩=some (.int .i64 0)∧W0.frozen? ⟨w.heap.size+1+1,1,none⟩=false∧W0.cell? ⟨w.heap.size+1+1,2,none⟩=some (.int .i64 0)∧W0.frozen? ⟨w.heap.size+1+1,2,none⟩=false∧W0.cell? ⟨w.heap.size+1+1,3,none⟩=some (.int .i64 0)∧W0.frozen? ⟨w.heap.size+1+1,3,none⟩=false∧W0.cell? ⟨w.heap.size+1+1+1,0,none⟩=some (.int .i64 (x))∧W0.cell? ⟨w.heap.size+1+1+1,1,none⟩=some (.int .i64 (y+(v-mn n v)))∧W0.cell? ⟨w.heap.size+1+1+1,2,none⟩=some (.int .i64 (u))∧W0.cell? ⟨w.heap.size+1+1+1,3,none⟩=some (.int .i64 (mn n v))∧W0.cell? ⟨w.heap.size+1+1+1+1,0,none⟩=some (.int .i64 (x))∧W0.cell? ⟨w.heap.size+1+1+1+1,1,none⟩=some (.int .i64 (y))∧W0.cell? ⟨w.heap.size+1+1+1+1,2,none⟩=some (.int .i64 (u))∧W0.cell? ⟨w.heap.size+1+1+1+1,3,none⟩=some (.int .i64 (v-mn n v))) ⟨(by repeat (first | with_reducible exact Below.refl _ _ | with_reducible assumption | with_reducible refine balloc ?_|(with_reducible refine bset ?_ ?_;rotate_left;((try dsimp only);omega)) | refine bkeep2 ?_ (by assumption) | with_reducible refine Below.drew ?_)),?_⟩ (fun W0 hW0=>?_)
 ·go_simp
 obtain ⟨hBW,p0,pf0,p1,pf1,p2,pf2,p3,pf3,q0,qf0,q1,qf1,q2,qf2,q3,qf3,r0,r1,r2,r3,s0,s1,s2,s3⟩:=hW0
 go_region
 all_goals go_wp2
 all_goals
  have XA:=box4 (w:=W0) (b:=w.heap.size+1) (.int .i64 (x)) (.int .i64 (y+(v-mn n v))) (.int .i64 (u)) (.int .i64 (mn n v)) p0 p1 p2 p3
  have XB:=box4 (b:=w.heap.size+1+1) (.int .i64 (x)) (.int .i64 (y)) (.int .i64 (u)) (.int .i64 (v-mn n v)) ((XA.2.2.2.2 (w.heap.size+1+1) 0 (by omega)).trans q0) ((XA.2.2.2.2 (w.heap.size+1+1) 1 (by omega)).trans q1) ((XA.2.2.2.2 (w.heap.size+1+1) 2 (by omega)).trans q2) ((XA.2.2.2.2 (w.heap.size+1+1) 3 (by omega)).trans q3)
  refine gen_post (fun wf=>Below w.heap.size w wf∧wf.cell? ⟨w.heap.size+1,0,none⟩=some (.int .i64 (x))∧wf.cell? ⟨w.heap.size+1,1,none⟩=some (.int .i64 (y+(v-mn n v)))∧wf.cell? ⟨w.heap.size+1,2,none⟩=some (.int .i64 (u))∧wf.cell? ⟨w.heap.size+1,3,none⟩=some (.int .i64 (mn n v))∧wf.cell? ⟨w.heap.size+1+1,0,none⟩=some (.int .i64 (x))∧wf.cell? ⟨w.heap.size+1+1,1,none⟩=some (.int .i64 (y))∧wf.cell? ⟨w.heap.size+1+1,2,none⟩=some (.int .i64 (u))∧wf.cell? ⟨w.heap.size+1+1,3,none⟩=some (.int .i64 (v-mn n v))) ⟨(by with_reducible refine Below.drew ?_;exact (by repeat (first | with_reducible exact Below.refl _ _ | with_reducible assumption | with_reducible refine balloc ?_|(with_reducible refine bset ?_ ?_;rotate_left;((try dsimp only);omega)) | refine bkeep2 ?_ (by assumption) | with_reducible refine Below.drew ?_))),celld ((XB.2.2.2.2 (w.heap.size+1) 0 (by omega)).trans XA.1),celld ((XB.2.2.2.2 (w.heap.size+1) 1 (by omega)).trans XA.2.1),celld ((XB.2.2.2.2 (w.heap.size+1) 2 (by omega)).trans XA.2.2.1),celld ((XB.2.2.2.2 (w.heap.size+1) 3 (by omega)).trans XA.2.2.2.1),celld XB.1,celld XB.2.1,celld XB.2.2.1,celld XB.2.2.2.1⟩ (fun wf hwf=>?_)
  clear XA XB;obtain ⟨hBf,z0,z1,z2,z3,z4,z5,z6,z7⟩:=hwf
  exact bodyPost_ret (v:=.tuple #[.agg #[.int .i64 (x),.int .i64 (y+(v-mn n v)),.int .i64 (u),.int .i64 (mn n v)],.agg #[.int .i64 (x),.int .i64 (y),.int .i64 (u),.int .i64 (v-mn n v)]]) (by simp only [results,Tryz.results181];go_simp) rfl ⟨rfl,(by repeat (first | with_reducible exact Below.refl _ _ | with_reducible assumption | with_reducible refine balloc ?_|(with_reducible refine bset ?_ ?_;rotate_left;((try dsimp only);omega)) | refine bkeep2 ?_ (by assumption) | with_reducible refine Below.drew ?_))⟩
theorem scut2_w (x y u v n:Int) (w:World) (h1:vrW x y u v=true) (h2:0≤n) :
  Calls Tryz.prog 181 #[.agg #[.int .i64 (x),.int .i64 (y),.int .i64 (u),.int .i64 (v)],.int .i64 2,.int .i64 n] w fun e w'=>e=.returned (.tuple #[.agg #[.int .i64 (x),.int .i64 (y),.int .i64 (mn n u),.int .i64 (v)],.agg #[.int .i64 (x+mn n u),.int .i64 (y),.int .i64 (u-mn n u),.int .i64 (v)]])∧Below w.heap.size w w':=by
 obtain ⟨a1,a2,a3,a4,a5,a6,a7,a8⟩:=vrW_iff.1 h1;have g:=mn_spec n u
 have g1:0≤mn n u:=by omega
 have g2:mn n u≤u:=by omega
 clear g
 go_enter Tryz.func181,Tryz.ntmps181
 go_wp2_with fail
 refine wp_gen (fun W0=>Below w.heap.size w W0∧W0.cell? ⟨w.heap.size+1,0,none⟩=some (.int .i64 0)∧W0.frozen? ⟨w.heap.size+1,0,none⟩=false∧W0.cell? ⟨w.heap.size+1,1,none⟩=some (.int .i64 0)∧W0.frozen? ⟨w.heap.size+1,1,none⟩=false∧W0.cell? ⟨w.heap.size+1,2,none⟩=some (.int .i64 0)∧W0.frozen? ⟨w.heap.size+1,2,none⟩=false∧W0.cell? ⟨w.heap.size+1,3,none⟩=some (.int .i64 0)∧W0.frozen? ⟨w.heap.size+1,3,none⟩=false∧W0.cell? ⟨w.heap.size+1+1,0,none⟩=some (.int .i64 0)∧W0.frozen? ⟨w.heap.size+1+1,0,none⟩=false∧W0.cell? ⟨w.heap.size+1+1,1,none⟩=some (.int .i64 0)∧W0.frozen? ⟨w.heap.size+1+1,1,none⟩=false∧W0.cell? ⟨w.heap.size+1+1,2,none⟩=some (.int .i64 0)∧W0.frozen? ⟨w.heap.size+1+1,2,none⟩=false∧W0.cell? ⟨w.heap.size+1+1,3,none⟩=some (.int .i64 0)∧W0.frozen? ⟨w.heap.size+1+1,3,none⟩=false∧W0.cell? ⟨w.heap.size+1+1+1,0,none⟩=some (.int .i64 (x))∧W0.cell? ⟨w.heap.size+1+1+1,1,none⟩=some (.int .i64 (y))∧W0.cell? ⟨w.heap.size+1+1+1,2,none⟩=some (.int .i64 (mn n u))∧W0.cell? ⟨w.heap.size+1+1+1,3,none⟩=some (.int .i64 (v))∧W0.cell? ⟨w.heap.size+1+1+1+1,0,none⟩=some (.int .i64 (x+mn n u))∧W0.cell? ⟨w.heap.size+1+1+1+1,1,none⟩=some (.int .i64 (y))∧W0.cell? ⟨w.heap.size+1+1+1+1,2,none⟩=some (.int .i64 (u-mn n u))∧W0.cell? ⟨w.heap.size+1+1+1+1,3,none⟩=some (.int .i64 (v))) ⟨(by repeat (first | with_reducible exact Below.refl _ _ | with_reducible assumption | with_reducible refine balloc ?_|(with_reducible refine bset ?_ ?_;rotate_left;((try dsimp only);omega)) | refine bkeep2 ?_ (by assumption) | with_reducible refine Below.drew ?_)),?_⟩ (fun W0 hW0=>?_)
 ·go_simp
 obtain ⟨hBW,p0,pf0,p1,pf1,p2,pf2,p3,pf3,q0,qf0,q1,qf1,q2,qf2,q3,qf3,r0,r1,r2,r3,s0,s1,s2,s3⟩:=hW0
 go_region
 all_goals go_wp2
 all_goals
  have XA:=box4 (w:=W0) (b:=w.heap.size+1) (.int .i64 (x)) (.int .i64 (y)) (.int .i64 (mn n u)) (.int .i64 (v)) p0 p1 p2 p3
  have XB:=box4 (b:=w.heap.size+1+1) (.int .i64 (x+mn n u)) (.int .i64 (y)) (.int .i64 (u-mn n u)) (.int .i64 (v)) ((XA.2.2.2.2 (w.heap.size+1+1) 0 (by omega)).trans q0) ((XA.2.2.2.2 (w.heap.size+1+1) 1 (by omega)).trans q1) ((XA.2.2.2.2 (w.heap.size+1+1) 2 (by omega)).trans q2) ((XA.2.2.2.2 (w.heap.size+1+1) 3 (by omega)).trans q3)
  refine gen_post (fun wf=>Below w.heap.size w wf∧wf.cell? ⟨w.heap.size+1,0,none⟩=some (.int .i64 (x))∧wf.cell? ⟨w.heap.size+1,1,none⟩=some (.int .i64 (y))∧wf.cell? ⟨w.heap.size+1,2,none⟩=some (.int .i64 (mn n u))∧wf.cell? ⟨w.heap.size+1,3,none⟩=some (.int .i64 (v))∧wf.cell? ⟨w.heap.size+1+1,0,none⟩=some (.int .i64 (x+mn n u))∧wf.cell? ⟨w.heap.size+1+1,1,none⟩=some (.int .i64 (y))∧wf.cell? ⟨w.heap.size+1+1,2,none⟩=some (.int .i64 (u-mn n u))∧wf.cell? ⟨w.heap.size+1+1,3,none⟩=some (.int .i64 (v))) ⟨(by with_reducible refine Below.drew ?_;exact (by repeat (first | with_reducible exact Below.refl _ _ | with_reducible assumption | with_reducible refine balloc ?_|(with_reducible refine bset ?_ ?_;rotate_left;((try dsimp only);omega)) | refine bkeep2 ?_ (by assumption) | with_reducible refine Below.drew ?_))),celld ((XB.2.2.2.2 (w.heap.size+1) 0 (by omega)).trans XA.1),celld ((XB.2.2.2.2 (w.heap.size+1) 1 (by omega)).trans XA.2.1),celld ((XB.2.2.2.2 (w.heap.size+1) 2 (by omega)).trans XA.2.2.1),celld ((XB.2.2.2.2 (w.heap.size+1) 3 (by omega)).trans XA.2.2.2.1),celld XB.1,celld XB.2.1,celld XB.2.2.1,celld XB.2.2.2.1⟩ (fun wf hwf=>?_)
  clear XA XB;obtain ⟨hBf,z0,z1,z2,z3,z4,z5,z6,z7⟩:=hwf
  exact bodyPost_ret (v:=.tuple #[.agg #[.int .i64 (x),.int .i64 (y),.int .i64 (mn n u),.int .i64 (v)],.agg #[.int .i64 (x+mn n u),.int .i64 (y),.int .i64 (u-mn n u),.int .i64 (v)]]) (by simp only [results,Tryz.results181];go_simp) rfl ⟨rfl,(by repeat (first | with_reducible exact Below.refl _ _ | with_reducible assumption | with_reducible refine balloc ?_|(with_reducible refine bset ?_ ?_;rotate_left;((try dsimp only);omega)) | refine bkeep2 ?_ (by assumption) | with_reducible refine Below.drew ?_))⟩
theorem scut3_w (x y u v n:Int) (w:World) (h1:vrW x y u v=true) (h2:0≤n) :
  Calls Tryz.prog 181 #[.agg #[.int .i64 (x),.int .i64 (y),.int .i64 (u),.int .i64 (v)],.int .i64 3,.int .i64 n] w fun e w'=>e=.returned (.tuple #[.agg #[.int .i64 (x+(u-mn n u)),.int .i64 (y),.int .i64 (mn n u),.int .i64 (v)],.agg #[.int .i64 (x),.int .i64 (y),.int .i64 (u-mn n u),.int .i64 (v)]])∧Below w.heap.size w w':=by
 obtain ⟨a1,a2,a3,a4,a5,a6,a7,a8⟩:=vrW_iff.1 h1;have g:=mn_spec n u
 have g1:0≤mn n u:=by omega
 have g2:mn n u≤u:=by omega
 clear g
 go_enter Tryz.func181,Tryz.ntmps181
 go_wp2_with fail
 refine wp_gen (fun W0=>Below w.heap.size w W0∧W0.cell? ⟨w.heap.size+1,0,none⟩=some (.int .i64 0)∧W0.frozen? ⟨w.heap.size+1,0,none⟩=false∧W0.cell? ⟨w.heap.size+1,1,none⟩=some (.int .i64 0)∧W0.frozen? ⟨w.heap.size+1,1,none⟩=false∧W0.cell? ⟨w.heap.size+1,2,none⟩=some (.int .i64 0)∧W0.frozen? ⟨w.heap.size+1,2,none⟩=false∧W0.cell? ⟨w.heap.size+1,3,none⟩=some (.int .i64 0)∧W0.frozen? ⟨w.heap.size+1,3,none⟩=false∧W0.cell? ⟨w.heap.size+1+1,0,none⟩=some (.int .i64 0)∧W0.frozen? ⟨w.heap.size+1+1,0,none⟩=false∧W0.cell? ⟨w.heap.size+1+1,1,none⟩=some (.int .i64 0)∧W0.frozen? ⟨w.heap.size+1+1,1,none⟩=false∧W0.cell? ⟨w.heap.size+1+1,2,none⟩=some (.int .i64 0)∧W0.frozen? ⟨w.heap.size+1+1,2,none⟩=false∧W0.cell? ⟨w.heap.size+1+1,3,none⟩=some (.int .i64 0)∧W0.frozen? ⟨w.heap.size+1+1,3,none⟩=false∧W0.cell? ⟨w.heap.size+1+1+1,0,none⟩=some (.int .i64 (x+(u-mn n u)))∧W0.cell? ⟨w.heap.size+1+1+1,1,none⟩=some (.int .i64 (y))∧W0.cell? ⟨w.heap.size+1+1+1,2,none⟩=some (.int .i64 (mn n u))∧W0.cell? ⟨w.heap.size+1+1+1,3,none⟩=some (.int .i64 (v))∧W0.cell? ⟨w.heap.size+1+1+1+1,0,none⟩=some (.int .i64 (x))∧W0.cell? ⟨w.heap.size+1+1+1+1,1,none⟩=some (.int .i64 (y))∧W0.cell? ⟨w.heap.size+1+1+1+1,2,none⟩=some (.int .i64 (u-mn n u))∧W0.cell? ⟨w.heap.size+1+1+1+1,3,none⟩=some (.int .i64 (v))) ⟨(by repeat (first | with_reducible exact Below.refl _ _ | with_reducible assumption | with_reducible refine balloc ?_|(with_reducible refine bset ?_ ?_;rotate_left;((try dsimp only);omega)) | refine bkeep2 ?_ (by assumption) | with_reducible refine Below.drew ?_)),?_⟩ (fun W0 hW0=>?_)
 ·go_simp
 obtain ⟨hBW,p0,pf0,p1,pf1,p2,pf2,p3,pf3,q0,qf0,q1,qf1,q2,qf2,q3,qf3,r0,r1,r2,r3,s0,s1,s2,s3⟩:=hW0
 go_region
 all_goals go_wp2
 all_goals
  have XA:=box4 (w:=W0) (b:=w.heap.size+1) (.int .i64 (x+(u-mn n u))) (.int .i64 (y)) (.int .i64 (mn n u)) (.int .i64 (v)) p0 p1 p2 p3
  have XB:=box4 (b:=w.heap.size+1+1) (.int .i64 (x)) (.int .i64 (y)) (.int .i64 (u-mn n u)) (.int .i64 (v)) ((XA.2.2.2.2 (w.heap.size+1+1) 0 (by omega)).trans q0) ((XA.2.2.2.2 (w.heap.size+1+1) 1 (by omega)).trans q1) ((XA.2.2.2.2 (w.heap.size+1+1) 2 (by omega)).trans q2) ((XA.2.2.2.2 (w.heap.size+1+1) 3 (by omega)).trans q3)
  refine gen_post (fun wf=>Below w.heap.size w wf∧wf.cell? ⟨w.heap.size+1,0,none⟩=some (.int .i64 (x+(u-mn n u)))∧wf.cell? ⟨w.heap.size+1,1,none⟩=some (.int .i64 (y))∧wf.cell? ⟨w.heap.size+1,2,none⟩=some (.int .i64 (mn n u))∧wf.cell? ⟨w.heap.size+1,3,none⟩=some (.int .i64 (v))∧wf.cell? ⟨w.heap.size+1+1,0,none⟩=some (.int .i64 (x))∧wf.cell? ⟨w.heap.size+1+1,1,none⟩=some (.int .i64 (y))∧wf.cell? ⟨w.heap.size+1+1,2,none⟩=some (.int .i64 (u-mn n u))∧wf.cell? ⟨w.heap.size+1+1,3,none⟩=some (.int .i64 (v))) ⟨(by with_reducible refine Below.drew ?_;exact (by repeat (first | with_reducible exact Below.refl _ _ | with_reducible assumption | with_reducible refine balloc ?_|(with_reducible refine bset ?_ ?_;rotate_left;((try dsimp only);omega)) | refine bkeep2 ?_ (by assumption) | with_reducible refine Below.drew ?_))),celld ((XB.2.2.2.2 (w.heap.size+1) 0 (by omega)).trans XA.1),celld ((XB.2.2.2.2 (w.heap.size+1) 1 (by omega)).trans XA.2.1),celld ((XB.2.2.2.2 (w.heap.size+1) 2 (by omega)).trans XA.2.2.1),celld ((XB.2.2.2.2 (w.heap.size+1) 3 (by omega)).trans XA.2.2.2.1),celld XB.1,celld XB.2.1,celld XB.2.2.1,celld XB.2.2.2.1⟩ (fun wf hwf=>?_)
  clear XA XB;obtain ⟨hBf,z0,z1,z2,z3,z4,z5,z6,z7⟩:=hwf
  exact bodyPost_ret (v:=.tuple #[.agg #[.int .i64 (x+(u-mn n u)),.int .i64 (y),.int .i64 (mn n u),.int .i64 (v)],.agg #[.int .i64 (x),.int .i64 (y),.int .i64 (u-mn n u),.int .i64 (v)]]) (by simp only [results,Tryz.results181];go_simp) rfl ⟨rfl,(by repeat (first | with_reducible exact Below.refl _ _ | with_reducible assumption | with_reducible refine balloc ?_|(with_reducible refine bset ?_ ?_;rotate_left;((try dsimp only);omega)) | refine bkeep2 ?_ (by assumption) | with_reducible refine Below.drew ?_))⟩
end
section
attribute [local go_sem 5000] run_mx run_mn
theorem scut_w (z:Rc) (s n:Int) (w:World) (hz:z.okW) (hs:0≤s) (hs':s≤3) (hn:0≤n) :
  Calls Tryz.prog 181 #[.agg #[.int .i64 (z.x),.int .i64 (z.y),.int .i64 (z.u),.int .i64 (z.v)],.int .i64 s,.int .i64 n] w fun e w'=>e=.returned (.tuple #[.agg #[.int .i64 ((cutP z s n).1.x),.int .i64 ((cutP z s n).1.y),.int .i64 ((cutP z s n).1.u),.int .i64 ((cutP z s n).1.v)],.agg #[.int .i64 ((cutP z s n).2.x),.int .i64 ((cutP z s n).2.y),.int .i64 ((cutP z s n).2.u),.int .i64 ((cutP z s n).2.v)]])∧Below w.heap.size w w':=by
 have h:s=0∨s=1∨s=2∨s=3:=by omega
 rcases h with rfl | rfl | rfl | rfl
 ·exact scut0_w z.x z.y z.u z.v n w (Rc.okW_vr hz) hn
 ·exact scut1_w z.x z.y z.u z.v n w (Rc.okW_vr hz) hn
 ·exact scut2_w z.x z.y z.u z.v n w (Rc.okW_vr hz) hn
 ·exact scut3_w z.x z.y z.u z.v n w (Rc.okW_vr hz) hn
theorem share_nW (A:Option Addr) (c n:Nat) (L:List Pk) (room:Int) (d:Bool) (w:World) (hn:n=L.length) (h:PV w A L) (hL:bgL L) (p0:Pk) (r0:List Pk) (hp0:L=p0 :: r0) (hd0:p0.down=d) (hx0:p0.ex=true) (hr:0≤room) (hr':room≤20000000000000) :
  Calls Tryz.prog 180 #[.slice A n c,.int .i64 room,.bool d] w fun e w'=>e=.returned (.int .i64 (shareGo L d room room 0))∧Below w.heap.size w w':=by
 subst hn;exact share_w A c L room d w h hL p0 r0 hp0 hd0 hx0 hr hr'
theorem parcels_w (A:Option Addr) (c:Nat) (L:List Pk) (z0:Rc) (w:World) (h:PV w A L) (hcap:L.length≤c) (hL:bgL L) (hz0:z0.okW) (M:List Rc) (Z:Rc) (hM:parcM L z0=(M,Z)) :
  Calls Tryz.prog 169 #[.slice A L.length c,.agg #[.int .i64 (z0.x),.int .i64 (z0.y),.int .i64 (z0.u),.int .i64 (z0.v)]] w fun e w'=>(∃ v,e=.returned (.tuple #[v,.agg #[.int .i64 (Z.x),.int .i64 (Z.y),.int .i64 (Z.u),.int .i64 (Z.v)]])∧w'.ownsRow w.heap.size 32 4 v M.length (rvals M))∧Below w.heap.size w w':=by
 obtain ⟨hok,h7⟩:=id hL
 have hML:M.length=L.length:=by have:=parcM_len (L:=L) (z:=z0);rw [hM] at this;exact this
 have HOK:=hD hok;have HML:=hD hML;have HVL:=hD hL;have HM:=hD hM;clear hok hML hL hM;obtain ⟨ti,tz,ti1,ti2,ti3,ti4,ti5⟩:=rect_info
 go_enter Tryz.func169,Tryz.ntmps169
 go_wp2_with fail
 go_loopw [6,7] (fun out i wr=>∃ k:Nat,k≤L.length∧i=.int .i64 k∧wr.ownsRow (w.heap.size+1+1) 32 4 out k (rvals (M.take k)) ∧
  (∃ z:Rc,wr.heap[w.heap.size]?=some (.cells #[.int .i64 z.x,.int .i64 z.y,.int .i64 z.u,.int .i64 z.v] 32 (0,0))∧z.okW∧parcM (L.drop k) z=(M.drop k,Z)) ∧
  wr.heap[w.heap.size+1]?=some (.cells #[.int .i64 0,.int .i64 0,.int .i64 0,.int .i64 0] 32 (0,0))∧Below w.heap.size w wr) (fun _ i _=>L.length-(intOf i).toNat)
 case atStart =>
  refine ⟨0,by omega,rfl,?_,⟨z0,?_,hz0,HM.out⟩,?_,balloc (balloc (balloc (Below.refl _ _)))⟩
  ·have e:=World.ownsRow_lit (base:=w.heap.size+1+1) (e:=32) (size:=4) ((w.alloc (.cells #[.int .i64 z0.x,.int .i64 z0.y,.int .i64 z0.u,.int .i64 z0.v] 32)).alloc (.cells #[.int .i64 0,.int .i64 0,.int .i64 0,.int .i64 0] 32)) #[] 0 (by simp) (by decide) rfl
   simpa only [World.size_alloc,List.take_zero,rvals] using e
  ·rw [Below.heap_alloc _ _ _ (by simp;omega),Below.heap_alloc _ _ _ (by simp)];exact heap_new _ _
  ·rw [Below.heap_alloc _ _ _ (by simp)];have e:=heap_new (w.alloc (.cells #[.int .i64 z0.x,.int .i64 z0.y,.int .i64 z0.u,.int .i64 z0.v] 32)) (.cells #[.int .i64 0,.int .i64 0,.int .i64 0,.int .i64 0] 32)
   simpa only [World.size_alloc] using e
 case round =>
  obtain ⟨k,hk,rfl,how,⟨z,hl,hz,hp⟩,hr,hB⟩:=hrel;clear HM
  by_cases hlt:k<L.length
  ·have hd:decide ((k:Int)<(L.length:Int))=true:=by simpa using hlt
   obtain ⟨b,off,rfl,hb,hps⟩:=(h.keep hB).cells (by omega);have hget:L[k]?=some L[k]:=List.getElem?_eq_getElem hlt;generalize hx:L[k]=p at *;obtain ⟨c0,c1,c2,c3,c4,c5,c6,c7,c8⟩:=hps k _ hget;have hpk:p.big:=HOK.out p (List.mem_of_getElem? hget);have hdrop:=drop_cons hget
   obtain ⟨tk1,tk2⟩:=takeOf_bdW (p:=p) (r:=L.drop (k+1)) (z:=z) (fun q hq=>HOK.out q (List.mem_of_mem_drop (by rw [hdrop];exact hq:q∈L.drop k))) hz;obtain ⟨mo1,mo2⟩:=moreOf_bdW (p:=p) (r:=L.drop (k+1)) (z:=z) (fun q hq=>HOK.out q (List.mem_of_mem_drop (by rw [hdrop];exact hq:q∈L.drop k))) hz
   obtain ⟨b1,b2,⟨b3,b4⟩,b5⟩:=(show ((0≤p.w∧p.w≤1000000000000)∧(0≤p.h∧p.h≤1000000000000)∧(0≤p.s∧p.s≤3)∧(0≤p.an∧p.an≤8)∧(0≤p.px∧p.px≤10)∧(0≤p.py∧p.py≤10)) from hpk)
   have hdl:L.length-k=(L.drop k).length:=by rw [List.length_drop]
   obtain ⟨sb1,sb2⟩:=Rc.size_bdW hz p.down;have nbf:=Pk.need_bdW hpk false;have nbt:=Pk.need_bdW hpk true;have HG:=hD hget;have HX:=hD hx;have HOW:=hD how;have HL:=hD hl;have HZ:=hD hz;have HP:=hD hp;have HR:=hD hr;have HBB:=hD hB;have HPS:=hD hps;have HPK:=hD hpk;have HD:=hD hdrop;have HDL:=hD hdl;have hll:=(gE hl).1;have hln:=Nat.ne_of_lt hll
   have hkL:k≤L.length:=by omega
   have hLk:¬ L.length=k:=by omega
   have hck:¬ c=k:=by omega
   clear hget hx how hl hz hp hr hB hps hpk hdrop hdl b1 b2 b5
   go_wp2_with fail
   refine (outer_w p _ HPK.out).mono ?_;rintro e w1 ⟨rfl,hb1⟩;replace HL:=hD ((hb1.block _ hll).trans HL.out);replace HR:=hbk hb1 HR;have hc9:=(HPS.out k p HG.out).keep (hb1.block b hb);have HC9:=hD hc9;obtain ⟨d0,d1,d2,d3,d4,d5,d6,d7,d8⟩:=hc9;obtain ⟨l0,l1,l2,l3⟩:=cells4 HL.out;have HB1:=hD hb1;replace HOW:=hD (own_below HOW.out hb1);have hs0:=HBB.out.size;have hs1:=hb1.size;have hob:=HOW.out.lt
   replace HBB:=hD (HBB.out.trans (hb1.mono HBB.out.size))
   have hll1:w.heap.size<w1.heap.size:=by omega
   have hne1:=Nat.ne_of_lt hll1
   obtain ⟨T,hT⟩:∃ T,takeOf p (L.drop (k+1)) z=T:=⟨_,rfl⟩
   clear hb1 c0 c1 c2 c3 c4 c5 c6 c7 c8
   cases hdn:p.down
   ·go_wp2_with fail
    refine (upright_p p _).mono ?_;rintro e w2 ⟨rfl,rfl⟩;rw [hdn]
    cases hex:p.ex
    ·rw [hex] at d5
     have hT2:p.need false=T:=by rw [<- hT];unfold takeOf;simp [moreOf,hex,hdn]
     go_wp2_with fail
     refine wp_region_grow 11 4 (fun i=>decide (i<13)&&i != 10) (by kernel_rfl) (by kernel_rfl) rfl ?_
     iterate 11 (refine wpG_step (fun K hK=>?_);apply Exists.intro;refine ⟨.inl ⟨rfl,fun w' hw'=>?_⟩,?_⟩;(focus ((obtain ⟨hc,hf⟩:=bcell hw'.out);(have hcS:=bcellS hw'.out);go_simp <;> first | rfl|(go_at_call 181;exact scut_w z p.s T _ HZ.out b3 b4 (by omega))));(go_simp;refine hK _ ?_;clear hK K))
     refine wpG_nil ?_
     refine wpK_allocs (i:=11) (j:=12) (Oi:=(.cells #[.int .i64 0,.int .i64 0,.int .i64 0,.int .i64 0] 32 (0,0))) (Oj:=(.cells #[.int .i64 0,.int .i64 0,.int .i64 0,.int .i64 0] 32 (0,0))) (by kernel_rfl) (by kernel_rfl) (by kernel_rfl) rfl rfl rfl rfl (by kernel_rfl) (by kernel_rfl) (by kernel_rfl) (by decide) (by intro d h1 h2;cases h1;cases h2) (fun a' w' K hK=>?_) (fun a' w' K hK=>?_) (fun bx by_ w2 hg2 hxy hxl hyl hx hy=>?_)
     ·go_simp;exact hK
     ·go_simp;exact hK
     refine wpK_tail (by kernel_rfl) (fun w3 hg3=>?_);have hB3:Below w1.heap.size w1 w3:=(bgrow (Below.drew (Below.refl _ _)) hg2).trans (hg3.out.mono hg2.out.size);replace hx:=(hg3.out.block _ (gE hx).1).trans hx;replace hy:=(hg3.out.block _ (gE hy).1).trans hy;have hxl2:w1.heap.size≤bx:=hxl;have hyl2:w1.heap.size≤by_:=hyl;clear hg3 hg2 hxl hyl;obtain ⟨x0,x1,x2,x3⟩:=cells4 hx
     obtain ⟨y0,y1,y2,y3⟩:=cells4 hy;have g0:=frozenH hx 0;have g1:=frozenH hx 1;have g2:=frozenH hx 2;have g3:=frozenH hx 3;have k0:=frozenH hy 0;have k1:=frozenH hy 1;have k2:=frozenH hy 2;have k3:=frozenH hy 3;have hyx:by_≠bx:=Ne.symm hxy
     obtain ⟨P,hP⟩:∃ P,cutP z p.s T=P:=⟨_,rfl⟩
     obtain ⟨hst1,hst2⟩:=parcM_step HG.out HP.out;have hok2:=cutP_okW (s:=p.s) (n:=takeOf p (L.drop (k+1)) z) HZ.out tk1;rw [hT,hP] at hst1 hst2 hok2;rw [hP];refine wpAny_one (i:=13) (by kernel_rfl) rfl rfl ?_;go_simp;refine wpAny_one (i:=14) (by kernel_rfl) rfl rfl ?_;go_simp;refine wpAny_end (by kernel_rfl) ?_
     have F1:=(pput4o (b:=by_) (b':=bx) hxy 0 1 2 3 (.int .i64 P.2.x) (.int .i64 P.2.y) (.int .i64 P.2.u) (.int .i64 P.2.v)).trans (pput4z hx (.int .i64 P.1.x) (.int .i64 P.1.y) (.int .i64 P.1.u) (.int .i64 P.1.v))
     have F2:=pput4z ((pput4o (b:=bx) (b':=by_) hyx 0 1 2 3 (.int .i64 P.1.x) (.int .i64 P.1.y) (.int .i64 P.1.u) (.int .i64 P.1.v)).trans hy) (.int .i64 P.2.x) (.int .i64 P.2.y) (.int .i64 P.2.u) (.int .i64 P.2.v)
     have F3:=pput4b (pput4b hB3 hxl2 0 1 2 3 (.int .i64 P.1.x) (.int .i64 P.1.y) (.int .i64 P.1.u) (.int .i64 P.1.v)) hyl2 0 1 2 3 (.int .i64 P.2.x) (.int .i64 P.2.y) (.int .i64 P.2.u) (.int .i64 P.2.v)
     refine NoPan.gen (fun W=>W.heap[bx]?=some (.cells #[.int .i64 P.1.x,.int .i64 P.1.y,.int .i64 P.1.u,.int .i64 P.1.v] 32 (0,0))∧W.heap[by_]?=some (.cells #[.int .i64 P.2.x,.int .i64 P.2.y,.int .i64 P.2.u,.int .i64 P.2.v] 32 (0,0))∧Below w1.heap.size w1 W) ⟨F1,F2,F3⟩ ?_;clear F1 F2 F3 hB3 hx hy x0 x1 x2 x3 y0 y1 y2 y3 g0 g1 g2 g3 k0 k1 k2 k3;rintro W ⟨hx,hy,hBW⟩;obtain ⟨x0,x1,x2,x3⟩:=cells4 hx
     have hwr1:w.heap.size+1<w1.heap.size:=(gE HR.out).1;have hsW:=hBW.size;replace HOW:=hD (own_below HOW.out hBW);replace HL:=hD ((hBW.block _ hll1).trans HL.out);replace HR:=hD ((hBW.block _ hwr1).trans HR.out);replace HBB:=hD (HBB.out.trans (hBW.mono (by omega)))
     have hW0:w.heap.size<W.heap.size:=by omega
     have hWx:bx<W.heap.size:=(gE hx).1;have hWy:by_<W.heap.size:=(gE hy).1;have HX1:=hD hx;have HY1:=hD hy;have HPP:=hD hP;clear hx hy hBW hP d0 d1 d2 d3 d4 d5 d6 d7 d8 l0 l1 l2 l3
     go_wp2_with (at_builtin;refine wpList_append_own _ rfl _ _ 28 rfl (w.heap.size+1+1) 32 ti tz 4 32 Tryz.underlying28 ti1 ti2 ti3 ti4 ti5 (by decide) _ _ _ rfl (HOW.out.alloc _) ⟨W.heap.size,0,none⟩ 1 1 (vals4 P.1) rfl rfl (new4 _ _ _) (vals4_one _) (by simp only [maxLen];omega) (by omega) (by simp;omega) ?_)
     intro v5 w5 how5 hgr5 _;obtain ⟨hst,hbl⟩:=grown_old hgr5 hob;have hs5:=hgr5.size;simp only [World.size_alloc] at hs5;have HL5:=hD ((hst _ hW0 (by omega)).trans HL.out);have HR5:=hD ((hst _ (by omega) (by omega)).trans HR.out);have hy5:=(hst _ hWy (by omega)).trans HY1.out;have HB5:=hD (hbl _ _ HBB.out (by omega) (by omega));clear HL HR HBB HX1 HY1 hst hbl hgr5 hob x0 x1 x2 x3
     rw [rvals_succ hst1] at how5;have HOW5:=hD how5;obtain ⟨y0,y1,y2,y3⟩:=cells4 hy5;obtain ⟨l0,l1,l2,l3⟩:=cells4 HL5.out;have g0:=frozenH HL5.out 0;have g1:=frozenH HL5.out 1;have g2:=frozenH HL5.out 2;have g3:=frozenH HL5.out 3;have E1:=hD (own_set4 HOW5.out (b:=w.heap.size) (by omega) 0 1 2 3 (.int .i64 P.2.x) (.int .i64 P.2.y) (.int .i64 P.2.u) (.int .i64 P.2.v))
     have E2:=hD (pput4z HL5.out (.int .i64 P.2.x) (.int .i64 P.2.y) (.int .i64 P.2.u) (.int .i64 P.2.v));have E3:=hD ((pput4o (b:=w.heap.size) (b':=w.heap.size+1) (by omega) 0 1 2 3 (.int .i64 P.2.x) (.int .i64 P.2.y) (.int .i64 P.2.u) (.int .i64 P.2.v)).trans HR5.out)
     have E4:=hD (pput4b HB5.out (b:=w.heap.size) (by omega) 0 1 2 3 (.int .i64 P.2.x) (.int .i64 P.2.y) (.int .i64 P.2.u) (.int .i64 P.2.v));clear how5 hy5;go_wp2
     go_roundw
     case rel=>exact ⟨k+1,by omega,by go_num,E1.out,⟨P.2,E2.out,hok2.2,hst2⟩,E3.out,E4.out⟩
     case measure=>simp [intOf];omega
    ·rw [hex] at d5
     have hT2:IntKind.i64.wrap (p.need false+shareGo (L.drop k) false z.u z.u 0)=T:=by
      have e:p.need false+shareGo (L.drop k) false z.u z.u 0=T:=by rw [HD.out,<- hT];unfold takeOf;simp [moreOf,hex,hdn,Rc.size]
      rw [IntWalk.i64_in _ (by rw [e,<- hT];omega)];exact e
     have hzb:0≤z.u∧z.u≤20000000000000:=by have:=Rc.size_bdW HZ.out false;simpa [Rc.size] using this
     go_wp2_with fail
     refine (share_nW (some ⟨b,off+k*9,none⟩) (c-k) (L.length-k) (L.drop k) z.u false w1 HDL.out ((PV.drop HPS.out hb).keep HB1.out) (bgL_drop HVL.out k) p (L.drop (k+1)) HD.out hdn hex hzb.1 hzb.2).mono ?_;rintro e w1 ⟨rfl,hb2⟩;replace HOW:=hD (own_below HOW.out hb2);have hsr:=HB1.out.size;have hs2:=hb2.size;have hc9:=HC9.out.keep (hb2.block b (by omega))
     replace HL:=hD ((hb2.block _ hll1).trans HL.out);replace HR:=hbk hb2 HR;replace HBB:=hD (HBB.out.trans (hb2.mono HBB.out.size));replace hob:=HOW.out.lt
     replace hll1:w.heap.size<w1.heap.size:=by omega
     clear d0 d1 d2 d3 d4 d5 d6 d7 d8 l0 l1 l2 l3 hne1 HC9 HB1 hb2;replace hne1:=Nat.ne_of_lt hll1;obtain ⟨d0,d1,d2,d3,d4,d5,d6,d7,d8⟩:=hc9;obtain ⟨l0,l1,l2,l3⟩:=cells4 HL.out;rw [hex] at d5
     go_wp2_with fail
     refine wp_region_grow 11 4 (fun i=>decide (i<13)&&i != 10) (by kernel_rfl) (by kernel_rfl) rfl ?_
     iterate 11 (refine wpG_step (fun K hK=>?_);apply Exists.intro;refine ⟨.inl ⟨rfl,fun w' hw'=>?_⟩,?_⟩;(focus ((obtain ⟨hc,hf⟩:=bcell hw'.out);(have hcS:=bcellS hw'.out);go_simp <;> first | rfl|(go_at_call 181;exact scut_w z p.s T _ HZ.out b3 b4 (by omega))));(go_simp;refine hK _ ?_;clear hK K))
     refine wpG_nil ?_
     refine wpK_allocs (i:=11) (j:=12) (Oi:=(.cells #[.int .i64 0,.int .i64 0,.int .i64 0,.int .i64 0] 32 (0,0))) (Oj:=(.cells #[.int .i64 0,.int .i64 0,.int .i64 0,.int .i64 0] 32 (0,0))) (by kernel_rfl) (by kernel_rfl) (by kernel_rfl) rfl rfl rfl rfl (by kernel_rfl) (by kernel_rfl) (by kernel_rfl) (by decide) (by intro d h1 h2;cases h1;cases h2) (fun a' w' K hK=>?_) (fun a' w' K hK=>?_) (fun bx by_ w2 hg2 hxy hxl hyl hx hy=>?_)
     ·go_simp;exact hK
     ·go_simp;exact hK
     refine wpK_tail (by kernel_rfl) (fun w3 hg3=>?_);have hB3:Below w1.heap.size w1 w3:=(bgrow (Below.drew (Below.refl _ _)) hg2).trans (hg3.out.mono hg2.out.size);replace hx:=(hg3.out.block _ (gE hx).1).trans hx;replace hy:=(hg3.out.block _ (gE hy).1).trans hy;have hxl2:w1.heap.size≤bx:=hxl;have hyl2:w1.heap.size≤by_:=hyl;clear hg3 hg2 hxl hyl;obtain ⟨x0,x1,x2,x3⟩:=cells4 hx
     obtain ⟨y0,y1,y2,y3⟩:=cells4 hy;have g0:=frozenH hx 0;have g1:=frozenH hx 1;have g2:=frozenH hx 2;have g3:=frozenH hx 3;have k0:=frozenH hy 0;have k1:=frozenH hy 1;have k2:=frozenH hy 2;have k3:=frozenH hy 3;have hyx:by_≠bx:=Ne.symm hxy
     obtain ⟨P,hP⟩:∃ P,cutP z p.s T=P:=⟨_,rfl⟩
     obtain ⟨hst1,hst2⟩:=parcM_step HG.out HP.out;have hok2:=cutP_okW (s:=p.s) (n:=takeOf p (L.drop (k+1)) z) HZ.out tk1;rw [hT,hP] at hst1 hst2 hok2;rw [hP];refine wpAny_one (i:=13) (by kernel_rfl) rfl rfl ?_;go_simp;refine wpAny_one (i:=14) (by kernel_rfl) rfl rfl ?_;go_simp;refine wpAny_end (by kernel_rfl) ?_
     have F1:=(pput4o (b:=by_) (b':=bx) hxy 0 1 2 3 (.int .i64 P.2.x) (.int .i64 P.2.y) (.int .i64 P.2.u) (.int .i64 P.2.v)).trans (pput4z hx (.int .i64 P.1.x) (.int .i64 P.1.y) (.int .i64 P.1.u) (.int .i64 P.1.v))
     have F2:=pput4z ((pput4o (b:=bx) (b':=by_) hyx 0 1 2 3 (.int .i64 P.1.x) (.int .i64 P.1.y) (.int .i64 P.1.u) (.int .i64 P.1.v)).trans hy) (.int .i64 P.2.x) (.int .i64 P.2.y) (.int .i64 P.2.u) (.int .i64 P.2.v)
     have F3:=pput4b (pput4b hB3 hxl2 0 1 2 3 (.int .i64 P.1.x) (.int .i64 P.1.y) (.int .i64 P.1.u) (.int .i64 P.1.v)) hyl2 0 1 2 3 (.int .i64 P.2.x) (.int .i64 P.2.y) (.int .i64 P.2.u) (.int .i64 P.2.v)
     refine NoPan.gen (fun W=>W.heap[bx]?=some (.cells #[.int .i64 P.1.x,.int .i64 P.1.y,.int .i64 P.1.u,.int .i64 P.1.v] 32 (0,0))∧W.heap[by_]?=some (.cells #[.int .i64 P.2.x,.int .i64 P.2.y,.int .i64 P.2.u,.int .i64 P.2.v] 32 (0,0))∧Below w1.heap.size w1 W) ⟨F1,F2,F3⟩ ?_;clear F1 F2 F3 hB3 hx hy x0 x1 x2 x3 y0 y1 y2 y3 g0 g1 g2 g3 k0 k1 k2 k3;rintro W ⟨hx,hy,hBW⟩;obtain ⟨x0,x1,x2,x3⟩:=cells4 hx
     have hwr1:w.heap.size+1<w1.heap.size:=(gE HR.out).1;have hsW:=hBW.size;replace HOW:=hD (own_below HOW.out hBW);replace HL:=hD ((hBW.block _ hll1).trans HL.out);replace HR:=hD ((hBW.block _ hwr1).trans HR.out);replace HBB:=hD (HBB.out.trans (hBW.mono (by omega)))
     have hW0:w.heap.size<W.heap.size:=by omega
     have hWx:bx<W.heap.size:=(gE hx).1;have hWy:by_<W.heap.size:=(gE hy).1;have HX1:=hD hx;have HY1:=hD hy;have HPP:=hD hP;clear hx hy hBW hP d0 d1 d2 d3 d4 d5 d6 d7 d8 l0 l1 l2 l3
     go_wp2_with (at_builtin;refine wpList_append_own _ rfl _ _ 28 rfl (w.heap.size+1+1) 32 ti tz 4 32 Tryz.underlying28 ti1 ti2 ti3 ti4 ti5 (by decide) _ _ _ rfl (HOW.out.alloc _) ⟨W.heap.size,0,none⟩ 1 1 (vals4 P.1) rfl rfl (new4 _ _ _) (vals4_one _) (by simp only [maxLen];omega) (by omega) (by simp;omega) ?_)
     intro v5 w5 how5 hgr5 _;obtain ⟨hst,hbl⟩:=grown_old hgr5 hob;have hs5:=hgr5.size;simp only [World.size_alloc] at hs5;have HL5:=hD ((hst _ hW0 (by omega)).trans HL.out);have HR5:=hD ((hst _ (by omega) (by omega)).trans HR.out);have hy5:=(hst _ hWy (by omega)).trans HY1.out;have HB5:=hD (hbl _ _ HBB.out (by omega) (by omega));clear HL HR HBB HX1 HY1 hst hbl hgr5 hob x0 x1 x2 x3
     rw [rvals_succ hst1] at how5;have HOW5:=hD how5;obtain ⟨y0,y1,y2,y3⟩:=cells4 hy5;obtain ⟨l0,l1,l2,l3⟩:=cells4 HL5.out;have g0:=frozenH HL5.out 0;have g1:=frozenH HL5.out 1;have g2:=frozenH HL5.out 2;have g3:=frozenH HL5.out 3;have E1:=hD (own_set4 HOW5.out (b:=w.heap.size) (by omega) 0 1 2 3 (.int .i64 P.2.x) (.int .i64 P.2.y) (.int .i64 P.2.u) (.int .i64 P.2.v))
     have E2:=hD (pput4z HL5.out (.int .i64 P.2.x) (.int .i64 P.2.y) (.int .i64 P.2.u) (.int .i64 P.2.v));have E3:=hD ((pput4o (b:=w.heap.size) (b':=w.heap.size+1) (by omega) 0 1 2 3 (.int .i64 P.2.x) (.int .i64 P.2.y) (.int .i64 P.2.u) (.int .i64 P.2.v)).trans HR5.out)
     have E4:=hD (pput4b HB5.out (b:=w.heap.size) (by omega) 0 1 2 3 (.int .i64 P.2.x) (.int .i64 P.2.y) (.int .i64 P.2.u) (.int .i64 P.2.v));clear how5 hy5;go_wp2
     go_roundw
     case rel=>exact ⟨k+1,by omega,by go_num,E1.out,⟨P.2,E2.out,hok2.2,hst2⟩,E3.out,E4.out⟩
     case measure=>simp [intOf];omega
   ·go_wp2_with fail
    refine (upright_p p _).mono ?_;rintro e w2 ⟨rfl,rfl⟩;rw [hdn]
    cases hex:p.ex
    ·rw [hex] at d5
     have hT2:p.need true=T:=by rw [<- hT];unfold takeOf;simp [moreOf,hex,hdn]
     go_wp2_with fail
     refine wp_region_grow 11 4 (fun i=>decide (i<13)&&i != 10) (by kernel_rfl) (by kernel_rfl) rfl ?_
     iterate 11 (refine wpG_step (fun K hK=>?_);apply Exists.intro;refine ⟨.inl ⟨rfl,fun w' hw'=>?_⟩,?_⟩;(focus ((obtain ⟨hc,hf⟩:=bcell hw'.out);(have hcS:=bcellS hw'.out);go_simp <;> first | rfl|(go_at_call 181;exact scut_w z p.s T _ HZ.out b3 b4 (by omega))));(go_simp;refine hK _ ?_;clear hK K))
     refine wpG_nil ?_
     refine wpK_allocs (i:=11) (j:=12) (Oi:=(.cells #[.int .i64 0,.int .i64 0,.int .i64 0,.int .i64 0] 32 (0,0))) (Oj:=(.cells #[.int .i64 0,.int .i64 0,.int .i64 0,.int .i64 0] 32 (0,0))) (by kernel_rfl) (by kernel_rfl) (by kernel_rfl) rfl rfl rfl rfl (by kernel_rfl) (by kernel_rfl) (by kernel_rfl) (by decide) (by intro d h1 h2;cases h1;cases h2) (fun a' w' K hK=>?_) (fun a' w' K hK=>?_) (fun bx by_ w2 hg2 hxy hxl hyl hx hy=>?_)
     ·go_simp;exact hK
     ·go_simp;exact hK
     refine wpK_tail (by kernel_rfl) (fun w3 hg3=>?_);have hB3:Below w1.heap.size w1 w3:=(bgrow (Below.drew (Below.refl _ _)) hg2).trans (hg3.out.mono hg2.out.size);replace hx:=(hg3.out.block _ (gE hx).1).trans hx;replace hy:=(hg3.out.block _ (gE hy).1).trans hy;have hxl2:w1.heap.size≤bx:=hxl;have hyl2:w1.heap.size≤by_:=hyl;clear hg3 hg2 hxl hyl;obtain ⟨x0,x1,x2,x3⟩:=cells4 hx
     obtain ⟨y0,y1,y2,y3⟩:=cells4 hy;have g0:=frozenH hx 0;have g1:=frozenH hx 1;have g2:=frozenH hx 2;have g3:=frozenH hx 3;have k0:=frozenH hy 0;have k1:=frozenH hy 1;have k2:=frozenH hy 2;have k3:=frozenH hy 3;have hyx:by_≠bx:=Ne.symm hxy
     obtain ⟨P,hP⟩:∃ P,cutP z p.s T=P:=⟨_,rfl⟩
     obtain ⟨hst1,hst2⟩:=parcM_step HG.out HP.out;have hok2:=cutP_okW (s:=p.s) (n:=takeOf p (L.drop (k+1)) z) HZ.out tk1;rw [hT,hP] at hst1 hst2 hok2;rw [hP];refine wpAny_one (i:=13) (by kernel_rfl) rfl rfl ?_;go_simp;refine wpAny_one (i:=14) (by kernel_rfl) rfl rfl ?_;go_simp;refine wpAny_end (by kernel_rfl) ?_
     have F1:=(pput4o (b:=by_) (b':=bx) hxy 0 1 2 3 (.int .i64 P.2.x) (.int .i64 P.2.y) (.int .i64 P.2.u) (.int .i64 P.2.v)).trans (pput4z hx (.int .i64 P.1.x) (.int .i64 P.1.y) (.int .i64 P.1.u) (.int .i64 P.1.v))
     have F2:=pput4z ((pput4o (b:=bx) (b':=by_) hyx 0 1 2 3 (.int .i64 P.1.x) (.int .i64 P.1.y) (.int .i64 P.1.u) (.int .i64 P.1.v)).trans hy) (.int .i64 P.2.x) (.int .i64 P.2.y) (.int .i64 P.2.u) (.int .i64 P.2.v)
     have F3:=pput4b (pput4b hB3 hxl2 0 1 2 3 (.int .i64 P.1.x) (.int .i64 P.1.y) (.int .i64 P.1.u) (.int .i64 P.1.v)) hyl2 0 1 2 3 (.int .i64 P.2.x) (.int .i64 P.2.y) (.int .i64 P.2.u) (.int .i64 P.2.v)
     refine NoPan.gen (fun W=>W.heap[bx]?=some (.cells #[.int .i64 P.1.x,.int .i64 P.1.y,.int .i64 P.1.u,.int .i64 P.1.v] 32 (0,0))∧W.heap[by_]?=some (.cells #[.int .i64 P.2.x,.int .i64 P.2.y,.int .i64 P.2.u,.int .i64 P.2.v] 32 (0,0))∧Below w1.heap.size w1 W) ⟨F1,F2,F3⟩ ?_;clear F1 F2 F3 hB3 hx hy x0 x1 x2 x3 y0 y1 y2 y3 g0 g1 g2 g3 k0 k1 k2 k3;rintro W ⟨hx,hy,hBW⟩;obtain ⟨x0,x1,x2,x3⟩:=cells4 hx
     have hwr1:w.heap.size+1<w1.heap.size:=(gE HR.out).1;have hsW:=hBW.size;replace HOW:=hD (own_below HOW.out hBW);replace HL:=hD ((hBW.block _ hll1).trans HL.out);replace HR:=hD ((hBW.block _ hwr1).trans HR.out);replace HBB:=hD (HBB.out.trans (hBW.mono (by omega)))
     have hW0:w.heap.size<W.heap.size:=by omega
     have hWx:bx<W.heap.size:=(gE hx).1;have hWy:by_<W.heap.size:=(gE hy).1;have HX1:=hD hx;have HY1:=hD hy;have HPP:=hD hP;clear hx hy hBW hP d0 d1 d2 d3 d4 d5 d6 d7 d8 l0 l1 l2 l3
     go_wp2_with (at_builtin;refine wpList_append_own _ rfl _ _ 28 rfl (w.heap.size+1+1) 32 ti tz 4 32 Tryz.underlying28 ti1 ti2 ti3 ti4 ti5 (by decide) _ _ _ rfl (HOW.out.alloc _) ⟨W.heap.size,0,none⟩ 1 1 (vals4 P.1) rfl rfl (new4 _ _ _) (vals4_one _) (by simp only [maxLen];omega) (by omega) (by simp;omega) ?_)
     intro v5 w5 how5 hgr5 _;obtain ⟨hst,hbl⟩:=grown_old hgr5 hob;have hs5:=hgr5.size;simp only [World.size_alloc] at hs5;have HL5:=hD ((hst _ hW0 (by omega)).trans HL.out);have HR5:=hD ((hst _ (by omega) (by omega)).trans HR.out);have hy5:=(hst _ hWy (by omega)).trans HY1.out;have HB5:=hD (hbl _ _ HBB.out (by omega) (by omega));clear HL HR HBB HX1 HY1 hst hbl hgr5 hob x0 x1 x2 x3
     rw [rvals_succ hst1] at how5;have HOW5:=hD how5;obtain ⟨y0,y1,y2,y3⟩:=cells4 hy5;obtain ⟨l0,l1,l2,l3⟩:=cells4 HL5.out;have g0:=frozenH HL5.out 0;have g1:=frozenH HL5.out 1;have g2:=frozenH HL5.out 2;have g3:=frozenH HL5.out 3;have E1:=hD (own_set4 HOW5.out (b:=w.heap.size) (by omega) 0 1 2 3 (.int .i64 P.2.x) (.int .i64 P.2.y) (.int .i64 P.2.u) (.int .i64 P.2.v))
     have E2:=hD (pput4z HL5.out (.int .i64 P.2.x) (.int .i64 P.2.y) (.int .i64 P.2.u) (.int .i64 P.2.v));have E3:=hD ((pput4o (b:=w.heap.size) (b':=w.heap.size+1) (by omega) 0 1 2 3 (.int .i64 P.2.x) (.int .i64 P.2.y) (.int .i64 P.2.u) (.int .i64 P.2.v)).trans HR5.out)
     have E4:=hD (pput4b HB5.out (b:=w.heap.size) (by omega) 0 1 2 3 (.int .i64 P.2.x) (.int .i64 P.2.y) (.int .i64 P.2.u) (.int .i64 P.2.v));clear how5 hy5;go_wp2
     go_roundw
     case rel=>exact ⟨k+1,by omega,by go_num,E1.out,⟨P.2,E2.out,hok2.2,hst2⟩,E3.out,E4.out⟩
     case measure=>simp [intOf];omega
    ·rw [hex] at d5
     have hT2:IntKind.i64.wrap (p.need true+shareGo (L.drop k) true z.v z.v 0)=T:=by
      have e:p.need true+shareGo (L.drop k) true z.v z.v 0=T:=by rw [HD.out,<- hT];unfold takeOf;simp [moreOf,hex,hdn,Rc.size]
      rw [IntWalk.i64_in _ (by rw [e,<- hT];omega)];exact e
     have hzb:0≤z.v∧z.v≤20000000000000:=by have:=Rc.size_bdW HZ.out true;simpa [Rc.size] using this
     go_wp2_with fail
     refine (share_nW (some ⟨b,off+k*9,none⟩) (c-k) (L.length-k) (L.drop k) z.v true w1 HDL.out ((PV.drop HPS.out hb).keep HB1.out) (bgL_drop HVL.out k) p (L.drop (k+1)) HD.out hdn hex hzb.1 hzb.2).mono ?_;rintro e w1 ⟨rfl,hb2⟩;replace HOW:=hD (own_below HOW.out hb2);have hsr:=HB1.out.size;have hs2:=hb2.size;have hc9:=HC9.out.keep (hb2.block b (by omega))
     replace HL:=hD ((hb2.block _ hll1).trans HL.out);replace HR:=hbk hb2 HR;replace HBB:=hD (HBB.out.trans (hb2.mono HBB.out.size));replace hob:=HOW.out.lt
     replace hll1:w.heap.size<w1.heap.size:=by omega
     clear d0 d1 d2 d3 d4 d5 d6 d7 d8 l0 l1 l2 l3 hne1 HC9 HB1 hb2;replace hne1:=Nat.ne_of_lt hll1;obtain ⟨d0,d1,d2,d3,d4,d5,d6,d7,d8⟩:=hc9;obtain ⟨l0,l1,l2,l3⟩:=cells4 HL.out;rw [hex] at d5
     go_wp2_with fail
     refine wp_region_grow 11 4 (fun i=>decide (i<13)&&i != 10) (by kernel_rfl) (by kernel_rfl) rfl ?_
     iterate 11 (refine wpG_step (fun K hK=>?_);apply Exists.intro;refine ⟨.inl ⟨rfl,fun w' hw'=>?_⟩,?_⟩;(focus ((obtain ⟨hc,hf⟩:=bcell hw'.out);(have hcS:=bcellS hw'.out);go_simp <;> first | rfl|(go_at_call 181;exact scut_w z p.s T _ HZ.out b3 b4 (by omega))));(go_simp;refine hK _ ?_;clear hK K))
     refine wpG_nil ?_
     refine wpK_allocs (i:=11) (j:=12) (Oi:=(.cells #[.int .i64 0,.int .i64 0,.int .i64 0,.int .i64 0] 32 (0,0))) (Oj:=(.cells #[.int .i64 0,.int .i64 0,.int .i64 0,.int .i64 0] 32 (0,0))) (by kernel_rfl) (by kernel_rfl) (by kernel_rfl) rfl rfl rfl rfl (by kernel_rfl) (by kernel_rfl) (by kernel_rfl) (by decide) (by intro d h1 h2;cases h1;cases h2) (fun a' w' K hK=>?_) (fun a' w' K hK=>?_) (fun bx by_ w2 hg2 hxy hxl hyl hx hy=>?_)
     ·go_simp;exact hK
     ·go_simp;exact hK
     refine wpK_tail (by kernel_rfl) (fun w3 hg3=>?_);have hB3:Below w1.heap.size w1 w3:=(bgrow (Below.drew (Below.refl _ _)) hg2).trans (hg3.out.mono hg2.out.size);replace hx:=(hg3.out.block _ (gE hx).1).trans hx;replace hy:=(hg3.out.block _ (gE hy).1).trans hy;have hxl2:w1.heap.size≤bx:=hxl;have hyl2:w1.heap.size≤by_:=hyl;clear hg3 hg2 hxl hyl;obtain ⟨x0,x1,x2,x3⟩:=cells4 hx
     obtain ⟨y0,y1,y2,y3⟩:=cells4 hy;have g0:=frozenH hx 0;have g1:=frozenH hx 1;have g2:=frozenH hx 2;have g3:=frozenH hx 3;have k0:=frozenH hy 0;have k1:=frozenH hy 1;have k2:=frozenH hy 2;have k3:=frozenH hy 3;have hyx:by_≠bx:=Ne.symm hxy
     obtain ⟨P,hP⟩:∃ P,cutP z p.s T=P:=⟨_,rfl⟩
     obtain ⟨hst1,hst2⟩:=parcM_step HG.out HP.out;have hok2:=cutP_okW (s:=p.s) (n:=takeOf p (L.drop (k+1)) z) HZ.out tk1;rw [hT,hP] at hst1 hst2 hok2;rw [hP];refine wpAny_one (i:=13) (by kernel_rfl) rfl rfl ?_;go_simp;refine wpAny_one (i:=14) (by kernel_rfl) rfl rfl ?_;go_simp;refine wpAny_end (by kernel_rfl) ?_
     have F1:=(pput4o (b:=by_) (b':=bx) hxy 0 1 2 3 (.int .i64 P.2.x) (.int .i64 P.2.y) (.int .i64 P.2.u) (.int .i64 P.2.v)).trans (pput4z hx (.int .i64 P.1.x) (.int .i64 P.1.y) (.int .i64 P.1.u) (.int .i64 P.1.v))
     have F2:=pput4z ((pput4o (b:=bx) (b':=by_) hyx 0 1 2 3 (.int .i64 P.1.x) (.int .i64 P.1.y) (.int .i64 P.1.u) (.int .i64 P.1.v)).trans hy) (.int .i64 P.2.x) (.int .i64 P.2.y) (.int .i64 P.2.u) (.int .i64 P.2.v)
     have F3:=pput4b (pput4b hB3 hxl2 0 1 2 3 (.int .i64 P.1.x) (.int .i64 P.1.y) (.int .i64 P.1.u) (.int .i64 P.1.v)) hyl2 0 1 2 3 (.int .i64 P.2.x) (.int .i64 P.2.y) (.int .i64 P.2.u) (.int .i64 P.2.v)
     refine NoPan.gen (fun W=>W.heap[bx]?=some (.cells #[.int .i64 P.1.x,.int .i64 P.1.y,.int .i64 P.1.u,.int .i64 P.1.v] 32 (0,0))∧W.heap[by_]?=some (.cells #[.int .i64 P.2.x,.int .i64 P.2.y,.int .i64 P.2.u,.int .i64 P.2.v] 32 (0,0))∧Below w1.heap.size w1 W) ⟨F1,F2,F3⟩ ?_;clear F1 F2 F3 hB3 hx hy x0 x1 x2 x3 y0 y1 y2 y3 g0 g1 g2 g3 k0 k1 k2 k3;rintro W ⟨hx,hy,hBW⟩;obtain ⟨x0,x1,x2,x3⟩:=cells4 hx
     have hwr1:w.heap.size+1<w1.heap.size:=(gE HR.out).1;have hsW:=hBW.size;replace HOW:=hD (own_below HOW.out hBW);replace HL:=hD ((hBW.block _ hll1).trans HL.out);replace HR:=hD ((hBW.block _ hwr1).trans HR.out);replace HBB:=hD (HBB.out.trans (hBW.mono (by omega)))
     have hW0:w.heap.size<W.heap.size:=by omega
     have hWx:bx<W.heap.size:=(gE hx).1;have hWy:by_<W.heap.size:=(gE hy).1;have HX1:=hD hx;have HY1:=hD hy;have HPP:=hD hP;clear hx hy hBW hP d0 d1 d2 d3 d4 d5 d6 d7 d8 l0 l1 l2 l3
     go_wp2_with (at_builtin;refine wpList_append_own _ rfl _ _ 28 rfl (w.heap.size+1+1) 32 ti tz 4 32 Tryz.underlying28 ti1 ti2 ti3 ti4 ti5 (by decide) _ _ _ rfl (HOW.out.alloc _) ⟨W.heap.size,0,none⟩ 1 1 (vals4 P.1) rfl rfl (new4 _ _ _) (vals4_one _) (by simp only [maxLen];omega) (by omega) (by simp;omega) ?_)
     intro v5 w5 how5 hgr5 _;obtain ⟨hst,hbl⟩:=grown_old hgr5 hob;have hs5:=hgr5.size;simp only [World.size_alloc] at hs5;have HL5:=hD ((hst _ hW0 (by omega)).trans HL.out);have HR5:=hD ((hst _ (by omega) (by omega)).trans HR.out);have hy5:=(hst _ hWy (by omega)).trans HY1.out;have HB5:=hD (hbl _ _ HBB.out (by omega) (by omega));clear HL HR HBB HX1 HY1 hst hbl hgr5 hob x0 x1 x2 x3
     rw [rvals_succ hst1] at how5;have HOW5:=hD how5;obtain ⟨y0,y1,y2,y3⟩:=cells4 hy5;obtain ⟨l0,l1,l2,l3⟩:=cells4 HL5.out;have g0:=frozenH HL5.out 0;have g1:=frozenH HL5.out 1;have g2:=frozenH HL5.out 2;have g3:=frozenH HL5.out 3;have E1:=hD (own_set4 HOW5.out (b:=w.heap.size) (by omega) 0 1 2 3 (.int .i64 P.2.x) (.int .i64 P.2.y) (.int .i64 P.2.u) (.int .i64 P.2.v))
     have E2:=hD (pput4z HL5.out (.int .i64 P.2.x) (.int .i64 P.2.y) (.int .i64 P.2.u) (.int .i64 P.2.v));have E3:=hD ((pput4o (b:=w.heap.size) (b':=w.heap.size+1) (by omega) 0 1 2 3 (.int .i64 P.2.x) (.int .i64 P.2.y) (.int .i64 P.2.u) (.int .i64 P.2.v)).trans HR5.out)
     have E4:=hD (pput4b HB5.out (b:=w.heap.size) (by omega) 0 1 2 3 (.int .i64 P.2.x) (.int .i64 P.2.y) (.int .i64 P.2.u) (.int .i64 P.2.v));clear how5 hy5;go_wp2
     go_roundw
     case rel=>exact ⟨k+1,by omega,by go_num,E1.out,⟨P.2,E2.out,hok2.2,hst2⟩,E3.out,E4.out⟩
     case measure=>simp [intOf];omega
  ·have hd:decide ((k:Int)<(L.length:Int))=false:=by simp;omega
   obtain rfl:k=L.length:=by omega
   rw [List.drop_length] at hp
   have hpz:z=Z:=by simp only [parcM,Prod.mk.injEq] at hp;exact hp.2
   subst hpz;rw [<- HML.out,List.take_length] at how;have HOW:=hD how;have HL:=hD hl;have HR:=hD hr;have HBB:=hD hB;obtain ⟨l0,l1,l2,l3⟩:=cells4 hl;clear how hl hp hr hB;obtain ⟨r0,r1,r2,r3⟩:=cells4 HR.out;have g0:=frozenH HR.out 0;have g1:=frozenH HR.out 1;have g2:=frozenH HR.out 2;have g3:=frozenH HR.out 3
   go_wp2_with fail
   go_region
   go_wp2
   refine bp_genP (fun W=>W.heap[w.heap.size+1]?=some (.cells #[.int .i64 z.x,.int .i64 z.y,.int .i64 z.u,.int .i64 z.v] 32 (0,0))∧W.ownsRow w.heap.size 32 4 _ M.length (rvals M)∧Below w.heap.size w W)
    ⟨pput4z HR.out _ _ _ _,own_mono (own_set4 HOW.out (b:=w.heap.size+1) (by omega) _ _ _ _ _ _ _ _) (by omega),Below.drew (pput4b HBB.out (by omega) _ _ _ _ _ _ _ _)⟩ ?_
   clear HR HL HBB HOW l0 l1 l2 l3 r0 r1 r2 r3 g0 g1 g2 g3;rintro W ⟨hW,hk2,hB2⟩;obtain ⟨r0,r1,r2,r3⟩:=cells4 hW;exact bodyPost_ret (v:=.tuple #[_,.agg #[.int .i64 (z.x),.int .i64 (z.y),.int .i64 (z.u),.int .i64 (z.v)]]) (by simp only [results,Tryz.results169];go_simp) rfl ⟨⟨_,rfl,hk2⟩,hB2⟩
end
theorem packed_w (A:Option Addr) (c:Nat) (L:List Pk) (z0:Rc) (w:World) (h:PV w A L) (hcap:L.length≤c) (hL:bgL L) (hz0:z0.okW) (M:List Rc) (Z:Rc) (hM:parcM L z0=(M,Z)) :
  Calls Tryz.prog 140 #[.slice A L.length c,.agg #[.int .i64 (z0.x),.int .i64 (z0.y),.int .i64 (z0.u),.int .i64 (z0.v)]] w fun e w'=>(∃ v,e=.returned v∧RV w' v (setL L M)∧∀ k,v.ownBlock=some k→w.heap.size≤k)∧Below w.heap.size w w':=by
 obtain ⟨hok,h7⟩:=id hL
 have hML:M.length=L.length:=by have:=parcM_len (L:=L) (z:=z0);rw [hM] at this;exact this
 have hMok:∀ r∈M,r.okW:=by have:=parcM_okW (L:=L) (z:=z0) hok hz0;rw [hM] at this;exact this
 have HOK:=hD hok;have HML:=hD hML;have HMK:=hD hMok;have HM:=hD hM;clear hok hML hM hMok
 go_enter Tryz.func140,Tryz.ntmps140
 go_wp2_with fail
 refine (parcels_w A c L z0 _ (h.keep (balloc (Below.refl _ _))) hcap hL hz0 M Z HM.out).mono ?_;rintro e w1 ⟨⟨v,rfl,ho⟩,hb⟩;have HB0:=hD (bkeep2 (balloc (Below.refl _ _)) hb);clear hb
 rcases own_in4 ho rfl with ⟨rfl,hM0⟩ | ⟨g,cap,cs0,rfl,hg,hnc,hh0,hs0,hc0⟩
 ·have hL0:setL L M=[]:=by rw [hM0];simp [setL]
  have hlz:M.length=0:=by rw [hM0];rfl
  have HL0:=hD hL0;clear hM0 ho hL0
  go_wp2_with fail
  go_loopw [7] (fun i wr=>i=.int .i64 0∧Below w.heap.size w wr) (fun i _=>0)
  case atStart=>exact ⟨rfl,balloc HB0.out⟩
  case round =>
   obtain ⟨rfl,hB⟩:=hrel;have HBB:=hD hB;clear hB;go_wp2;go_ret;exact ⟨⟨_,rfl,by rw [HL0.out];exact RV.nil _,fun k hk=>by cases hk⟩,HBB.out⟩
 ·replace hg:w.heap.size≤g:=by simp only [World.size_alloc] at hg;omega
  have HK0:=hD (And.intro hh0 (And.intro hs0 hc0));have hML:M.length=L.length:=HML.out;clear hh0 hs0 hc0 ho;rw [hML] at hnc;rw [hML]
  go_wp2_with fail
  go_loopw [7] (fun i wr=>∃ k:Nat,k≤L.length∧i=.int .i64 k∧(∃ cs:Array Value,wr.heap[g]?=some (.cells cs 32 (0,0))∧cs.size=cap*4∧(∀ i r,i<k→(setL L M)[i]?=some r→In4 cs (i*4) r)∧(∀ i r,k≤i→M[i]?=some r→In4 cs (i*4) r))∧Below w.heap.size w wr) (fun i _=>L.length-(intOf i).toNat)
  case atStart =>
   obtain ⟨hh,hs,hc⟩:=HK0.out;have hgw:g<w1.heap.size:=(gE hh).1;exact ⟨0,by omega,rfl,⟨cs0,(Below.heap_alloc _ _ _ hgw).trans hh,hs,fun i r hi=>absurd hi (by omega),fun i r _ hr=>hc i r hr⟩,balloc HB0.out⟩
  case round =>
   obtain ⟨k,hk,rfl,⟨cs,hh,hs,hc,hc'⟩,hB⟩:=hrel;clear HK0 HB0 HM
   by_cases hlt:k<L.length
   ·have hd:decide ((k:Int)<(L.length:Int))=true:=by simpa using hlt
    obtain ⟨b,off,rfl,hb,hps⟩:=(h.keep hB).cells (by omega);have hget:L[k]?=some L[k]:=List.getElem?_eq_getElem hlt;obtain ⟨c0,c1,c2,c3,c4,c5,c6,c7,c8⟩:=hps k _ hget;generalize hx:L[k]=p at *
    have hkM:k<M.length:=by rw [HML.out];exact hlt
    have hgetM:M[k]?=some M[k]:=List.getElem?_eq_getElem hkM;obtain ⟨r0,r1,r2,r3⟩:=(hc' k _ (by omega) hgetM).cells hh;generalize hy:M[k]=r at *;have HR:=hD (HMK.out r (List.mem_of_getElem? hgetM));have HP:=hD (HOK.out p (List.mem_of_getElem? hget));have HG:=hD (setL_get hget hgetM);have HH:=hD hh;have HS:=hD hs;have HC:=hD hc;have HC':=hD hc';have HBB:=hD hB;have hgl:g<wr.heap.size:=(gE hh).1
    have hgn:¬ g=wr.heap.size:=by omega
    clear hget hx hgetM hy hh hs hc hc' hB hps
    go_wp2_with fail
    refine wp_region_grow 12 1 (·<12) (by kernel_rfl) (by kernel_rfl) rfl ?_
    iterate 12 (refine wpG_step (fun K hK=>?_);apply Exists.intro;refine ⟨.inl ⟨rfl,fun w' hw'=>?_⟩,?_⟩;(focus ((obtain ⟨hc,hf⟩:=bcell hw'.out);(have hcS:=bcellS hw'.out);go_simp <;> first | rfl|(go_at_call 170;exact psettled_w p r _ HP.out HR.out)));(go_simp;refine hK _ ?_;clear hK K))
    refine wpG_nil ?_;refine wpK_tail (by kernel_rfl) (fun w2 hg2=>?_);have hB2:Below wr.heap.size wr w2:=bgrow (Below.drew (Below.refl _ _)) hg2;replace HH:=hD ((hB2.block _ hgl).trans HH.out);replace HBB:=hD (HBB.out.trans (hB2.mono HBB.out.size));clear hg2 hB2 c0 c1 c2 c3 c4 c5 c6 c7 c8 r0 r1 r2 r3 hgl hgn
    have hsz:k*4+4≤cs.size:=by rw [HS.out];omega
    obtain ⟨y0,d0⟩:=there HH.out (i:=k*4) (by omega);obtain ⟨y1,d1⟩:=there HH.out (i:=k*4+1) (by omega);obtain ⟨y2,d2⟩:=there HH.out (i:=k*4+2) (by omega);obtain ⟨y3,d3⟩:=there HH.out (i:=k*4+3) (by omega);have f0:=frozenH HH.out (k*4);have f1:=frozenH HH.out (k*4+1);have f2:=frozenH HH.out (k*4+2);have f3:=frozenH HH.out (k*4+3)
    obtain ⟨S,hS⟩:∃ S,setP p r=S:=⟨_,rfl⟩
    rw [hS];replace HG:Hid ((setL L M)[k]?=some S):=hD (by rw [<- hS];exact HG.out);have E1:=hD (pput4 HH.out (k*4) S);have E2:=hD (pput4b HBB.out hg (k*4) (k*4+1) (k*4+2) (k*4+3) (.int .i64 S.x) (.int .i64 S.y) (.int .i64 S.u) (.int .i64 S.v));clear hS HH HBB;refine wpAny_one (i:=12) (by kernel_rfl) rfl rfl ?_;go_simp;refine wpAny_end (by kernel_rfl) ?_;refine nopan_normal ?_;go_wp2
    go_roundw
    case rel=>exact ⟨k+1,by omega,by go_num,⟨_,E1.out,(writeAt_size _ _ _).trans HS.out,fun i q hi hq=>by
     by_cases e:i=k
     ·subst e
      obtain rfl:S=q:=by have:=HG.out;rw [this] at hq;exact Option.some.inj hq
      exact In4.write S hsz
     ·exact (HC.out i q (by omega) hq).keep (.inl (by omega)),fun i q hi hq=>(HC'.out i q (by omega) hq).keep (.inr (by omega))⟩,E2.out⟩
    case measure=>simp [intOf];omega
   ·have hd:decide ((k:Int)<(L.length:Int))=false:=by simp;omega
    obtain rfl:k=L.length:=by omega
    have HK:=hD (show RV wr (.slice (some ⟨g,0,none⟩) L.length cap) (setL L M) from ⟨_,cap,by rw [setL_len HML.out],fun _=>⟨g,rfl,(gE hh).1,fun i r hr=>(hc i r (by have:=(List.getElem?_eq_some_iff.1 hr).1;rwa [setL_len HML.out] at this) hr).cells hh⟩⟩);have HBB:=hD hB;clear hh hs hc hc' hB;go_wp2;go_ret;exact ⟨⟨_,rfl,HK.out,fun k hk=>by cases hk;exact hg⟩,HBB.out⟩
section
attribute [local go_sem] givesUpon_value givesUpon_skip givesUpon_enter
inductive Dn (L:List Nd):Nat→Nat→Prop where
 | own (i:Nat):Dn L i i
 | kid {i k j:Nat}:k∈kidD L i→Dn L k j→Dn L i j
theorem Dn.snoc {L:List Nd} {i p k:Nat} (h:Dn L i p) (hk:k∈kidD L p):Dn L i k:=by
 induction h with
 | own i=>exact .kid hk (.own k)
 | kid h1 _ ih=>exact .kid h1 (ih hk)
theorem dn_root {L:List Nd} (hT:TrOK L):∀ (f j:Nat),j<f→j<L.length→Dn L 0 j:=by
 intro f
 induction f with
 | zero=>intro j h;omega
 | succ f ih =>
  intro j h hj
  by_cases h0:j=0
  ·subst h0;exact .own 0
  ·obtain ⟨p,q,n,hp,_,hq⟩:=kid_of hT (by omega) hj;exact (ih p (by omega) (by omega)).snoc (List.mem_of_getElem? hq)
theorem upon_appendL {P:Program} {o:Oper} {a:Act} {w:World} {K:Act→World→Prop} {Q:Exit→Act→World→Prop} (s x:Operand) (t:TypeId) {v xv v':Value} {w':World}
  (ho:o.op=.call { callee:=.builtin .append,args:=#[s,x],argTypes:=#[t,t] }) (hs:a.eval s=v) (hx:a.eval x=xv)
  (hr:(Builtin.append_ #[t,t] o.type #[v,xv]).run P w=.ok v' w') (h:K (a.put o.dst v') w'):o.wp P a w K Q:=by
 unfold Oper.wp execOp;simp only [ho,resolve,invoke,builtin,Sem.run_bind,Sem.run_pure,Result.andThen_ok,List.map_toArray,List.map_cons,List.map_nil,hs,hx,hr];exact h
theorem LyP.put2 {w:World} {g N:Nat} {F:Nat→Re} {K:Nat→Prop} {cs:Array Value} {j:Nat} {r:Re} (hh:w.heap[g]?=some (.cells (wrAt cs (j*4) (valsRe r)) 32 (0,0))) (hs:cs.size=N*4) (hc:∀ j,j<N→K j→InS cs (j*4) (valsRe (F j))) (hj:j<N) (hr:F j=r):LyP w g N F (fun i=>K i∨i=j):=by
 refine ⟨_,hh,(wrAt_size _ _ _).trans hs,fun i hi ki=>?_⟩
 by_cases e:i=j
 ·subst e;rw [hr];exact InS.write (by rw [hs];show i*4+4≤_;omega)
 ·rcases ki with h1 | h1
  ·refine (hc i hi h1).keepS ?_
   show i*4+4≤_∨j*4+4≤_
   omega
  ·exact absurd h1 e
theorem reR_rv {w:World} {v:Value} {M:List Rc} (h:RV w v M):ReR w v (M.map rcRe):=by
 obtain ⟨A,c,rfl,hc⟩:=h;refine ⟨A,c,by rw [List.length_map],⟨fun h0=>?_⟩⟩;obtain ⟨b,rfl,hb,hp⟩:=hc (by rwa [List.length_map] at h0);refine ⟨b,0,rfl,hb,fun i q hq=>?_⟩;rw [List.getElem?_map] at hq;obtain ⟨r,hr,rfl⟩:=Option.map_eq_some_iff.1 hq;obtain ⟨c0,c1,c2,c3⟩:=hp i r hr;rw [Nat.zero_add];exact ⟨c0,c1,c2,c3⟩
def RrV (lo:Nat) (w:World) (v:Value) (M:List Re):Prop:=ReR w v M∧∀ k,v.ownBlock=some k→lo≤k
theorem RrV.keep {lo:Nat} {w w':World} {v:Value} {M:List Re} (h:RrV lo w v M) (hb:Below w.heap.size w w'):RrV lo w' v M:=⟨h.1.keep hb,h.2⟩
def PkV (w:World) (v:Value) (n:Nat) (L:List Pk):Prop:=∃ A c,v=.slice A n c∧PV w A L∧n≤c
theorem PkV.keep {w w':World} {v:Value} {n:Nat} {L:List Pk} (h:PkV w v n L) (hb:Below w.heap.size w w'):PkV w' v n L:=let ⟨A,c,e,q,hc⟩:=h;⟨A,c,e,q.keep hb,hc⟩
def GdV (w:World) (v:Value) (p:Nr) (n:Nat) (L:List Ce):Prop:=∃ A c,v=.agg (gridAg p (.slice A n c)).toArray∧CeV w A L
theorem GdV.keep {w w':World} {v:Value} {p:Nr} {n:Nat} {L:List Ce} (h:GdV w v p n L) (hb:Below w.heap.size w w'):GdV w' v p n L:=let ⟨A,c,e,q⟩:=h;⟨A,c,e,q.keep hb⟩
theorem laid_v (A:Option Addr) (c:Nat) (R:List Nr) (a b:Int) (hT:TrOK (R.map Nr.n)) (ha:0≤a∧a≤400) (hb:0≤b∧b≤400) (w0:World) (hV:NrV w0 A R) (hR:RdR w0 R) (g:Nat) (hg:w0.heap.size≤g):∀ (f i:Nat) (w:World) (K:Nat→Prop) (r:Re),R.length≤f+i→i<R.length→lrM (R.map Nr.n) a b i=r→Below w0.heap.size w0 w→LyP w g R.length (lrM (R.map Nr.n) a b) K →
  Calls Tryz.prog 102 #[.agg #[.slice A R.length c],.int .i64 (i:Int),.agg #[.int .i64 r.x,.int .i64 r.y,.int .i64 r.u,.int .i64 r.v],.slice (some ⟨g,0,none⟩) R.length R.length] w fun e w'=>(∃ v,e=.returned v)∧LyP w' g R.length (lrM (R.map Nr.n) a b) (fun j=>K j∨Dn (R.map Nr.n) i j)∧w.grownBy w' (some g):=by
 have hL10:R.length≤10:=by have:=hT.l10;rwa [List.length_map] at this
 have hL1:1≤R.length:=by have:=hT.l1;rwa [List.length_map] at this
 obtain ⟨bn,off,rfl,hbn,hcn⟩:=id hV.cells (by omega);have HCN:=hD hcn;have HV:=hD hV;have HR:=hD hR;have HAB:=hD (And.intro ha hb);clear hcn hV hR ha hb;obtain ⟨ti,tz,ti1,ti2,ti3,ti4,ti5⟩:=rect_infoN;intro f
 induction f with
 | zero=>intro i w K r h1 h2;omega
 | succ f ih =>
 intro i w K r hf hi hrr hB hly
 have hlm:i<(R.map Nr.n).length:=by rw [List.length_map];exact hi
 have hget:R[i]?=some R[i]:=List.getElem?_eq_getElem hi
 have hmg:(R.map Nr.n)[i]?=some R[i].n:=by rw [List.getElem?_map,hget];rfl
 have hkis:=(hT.sz i _ hmg).2.2;have hcp:=HCN.out i _ hget;generalize hp0:R[i]=p at *;obtain ⟨hq,hrx,hry⟩:=lrM_room hT HAB.out.1 HAB.out.2 hlm;rw [hrr] at hq hrx hry
 have HIH:=hD (show ∀ (m k:Nat) (q:Re),(kidD (R.map Nr.n) i)[m]?=some k→lrM (R.map Nr.n) a b k=q→∀ (W:World) (K':Nat→Prop),Below w0.heap.size w0 W→LyP W g R.length (lrM (R.map Nr.n) a b) K'→Calls Tryz.prog 102 #[.agg #[.slice (some ⟨bn,off,none⟩) R.length c],.int .i64 (k:Int),.agg #[.int .i64 q.x,.int .i64 q.y,.int .i64 q.u,.int .i64 q.v],.slice (some ⟨g,0,none⟩) R.length R.length] W fun e w'=>(∃ v,e=.returned v)∧LyP w' g R.length (lrM (R.map Nr.n) a b) (fun j=>K' j∨Dn (R.map Nr.n) k j)∧W.grownBy w' (some g) from fun m k q hk hq W K' hW hl=>ih k W K' q (by have:=kid_gt hT (List.mem_of_getElem? hk);omega) (by have:=kidD_lt (List.mem_of_getElem? hk);rwa [List.length_map] at this) hq hW hl)
 have HMG:=hD hmg;have HKI:=hD hkis;have HGI:=hD hget;have HQR:=hD hq;have HXY:=hD (And.intro hrx hry);have HCP:=hD hcp;have lgw:g<w.heap.size:=hly.lt
 have hdi:(i:Int)<(R.length:Int):=by omega
 have HLY:=hD hly;have HB:=hD hB;have HRR:=hD hrr;clear ih hget hmg hp0 hB hly hkis hcp hq hrx hry hrr HCN
 go_enter Tryz.func102,Tryz.ntmps102
 go_upto_region 1 with (fail)
 refine wp_genGG (fun W=>W.heap[w.heap.size]?=some (.cells #[.slice (some ⟨bn,off,none⟩) R.length c] 25 (0,0))∧W.heap[w.heap.size+1]?=some (.cells #[.int .i64 r.x,.int .i64 r.y,.int .i64 r.u,.int .i64 r.v] 32 (0,0))∧Below w.heap.size w W) ⟨(Below.heap_alloc _ _ w.heap.size (by simp)).trans (newS w _),newS1T w _ _,balloc (balloc (Below.refl _ _))⟩ (fun W1 h1=>?_);obtain ⟨hx,hz,hb1⟩:=h1
 obtain ⟨cs,hc,hs,hcc⟩:=HLY.out.keep hb1;have z0:=cellS hz 0;have z1:=cellS hz 1;have z2:=cellS hz 2;have z3:=cellS hz 3;obtain ⟨y0,d0⟩:=thereS hc (i:=i*4) (by rw [hs];omega);obtain ⟨y1,d1⟩:=thereS hc (i:=i*4+1) (by rw [hs];omega);obtain ⟨y2,d2⟩:=thereS hc (i:=i*4+2) (by rw [hs];omega);obtain ⟨y3,d3⟩:=thereS hc (i:=i*4+3) (by rw [hs];omega);have f0:=frozenS hc (i*4);have f1:=frozenS hc (i*4+1)
 have f2:=frozenS hc (i*4+2);have f3:=frozenS hc (i*4+3);have lz:=ltS hz;have lc:=ltS hc;have HX:=hD hx;have HZ:=hD hz;have HC:=hD hc;have HS:=hD hs;have HCC:=hD hcc;have HB1:=hD hb1;clear hx hz hc hs hcc hb1
 go_upto_region 2 with (fail)
 refine wp_genGG (fun W=>W.heap[w.heap.size]?=some (.cells #[.slice (some ⟨bn,off,none⟩) R.length c] 25 (0,0))∧W.heap[w.heap.size+1]?=some (.cells #[.int .i64 r.x,.int .i64 r.y,.int .i64 r.u,.int .i64 r.v] 32 (0,0))∧LyP W g R.length (lrM (R.map Nr.n) a b) (fun j=>K j∨j=i)∧w.grownBy W (some g)) ?hw2 (fun W2 h2=>?_)
 case hw2 =>
  have hg1:=gsetI (gsetI (gsetI (gsetI (greflI W1 g) (i*4) (.int .i64 r.x)) (i*4+1) (.int .i64 r.y)) (i*4+2) (.int .i64 r.u)) (i*4+3) (.int .i64 r.v)
  exact ⟨(hg1.block _ (ltS HX.out) (fun e=>by have:=Option.some.inj e;omega)).trans HX.out,(hg1.block _ (ltS HZ.out) (fun e=>by have:=Option.some.inj e;omega)).trans HZ.out,LyP.put2 (putRe HC.out (i*4) r) HS.out HCC.out hi HRR.out,gsetI (gsetI (gsetI (gsetI (grown_below (greflI w g) HB1.out) (i*4) (.int .i64 r.x)) (i*4+1) (.int .i64 r.y)) (i*4+2) (.int .i64 r.u)) (i*4+3) (.int .i64 r.v)⟩
 obtain ⟨hx,hz,hly2,hg2⟩:=h2;clear z0 z1 z2 z3 y0 d0 y1 d1 y2 d2 y3 d3 f0 f1 f2 f3 lz lc HX HZ HC HS HCC HB1 cs W1;have hB2:=below_grown HB.out hg2 hg HB.out.size;have HX:=hD hx;have HZ:=hD hz;replace HLY:=hD hly2;have HG:=hD hg2;have x0:=cellS hx 0;have lx:=ltS hx;have HB2:=hD hB2;clear hx hz hly2 hg2 hB2
 go_wp2_with fail
 with_reducible refine (skidsOf_b (some ⟨bn,off,none⟩) c R (i:Int) _ (HV.out.keep HB2.out) hL1 (by omega) (kid_no0 hT i)).mono ?_
 rintro e W3 ⟨⟨kv,rfl,hkv,hkf⟩,hb3⟩;rw [kidsM_eq] at hkv;obtain ⟨kA,kc,hkv,hkn,-⟩:=hkv;rw [List.length_map] at hkv;subst hkv;have hsz2:=HG.out.size;have HKF:=hD (show ∀ b0 o,kA=some ⟨b0,o,none⟩→w.heap.size≤b0 from fun b0 o e=>Nat.le_trans hsz2 (hkf b0 (by rw [e];rfl)));replace HX:=hD ((hb3.block _ lx).trans HX.out);replace HZ:=hD ((hb3.block _ (ltS HZ.out)).trans HZ.out)
 replace HLY:=hD (HLY.out.keep hb3);replace HG:=hD (grown_below HG.out hb3);replace HB2:=hD (bkeep2 HB2.out hb3);have HKN:=hD hkn;have hkl10:(kidD (R.map Nr.n) i).length≤10:=Nat.le_trans (kidD_len _ _) (by rw [List.length_map];exact hL10);have HKL:=hD (show ∀ k∈kidD (R.map Nr.n) i,k<R.length from fun k hk=>by have:=kidD_lt hk;rwa [List.length_map] at this)
 have HPL:=hD (pksF_all (L:=(R.map Nr.n)) (g:=szM (R.map Nr.n)) (ks:=kidD (R.map Nr.n) i) (fun k hk=>kidD_lt hk));have HCL:=hD (cesF_all (L:=(R.map Nr.n)) (g:=szM (R.map Nr.n)) (ks:=kidD (R.map Nr.n) i) (fun k hk=>kidD_lt hk));have HML:=hD (kidR_len (R.map Nr.n) i p.n r)
 obtain ⟨M,hM⟩:∃ M,kidR (R.map Nr.n) i p.n r=M:=⟨_,rfl⟩
 have HM:=hD hM;rw [hM] at HML;have HBG:=hD (bg_of hT i);have HGW:=hD (show p.n.ki=1→_ from fun h1=>gw_of hT HMG.out h1)
 obtain ⟨ks,hks⟩:∃ ks,kidD (R.map Nr.n) i=ks:=⟨_,rfl⟩
 rw [hks] at HKN hkl10 HKL HIH HPL HCL HML HBG HGW ⊢;have HKS:=hD hks;have x4:W3.cell? ⟨bn,off+i*34+4,none⟩=some (.int .i64 p.n.ki):=(rangeB HCP.out (HB2.out.block bn hbn)) 4 _ rfl;have lbn:bn<W3.heap.size:=Nat.lt_of_lt_of_le hbn HB2.out.size;have x1:=cellS HX.out 0;have lx3:=ltS HX.out;clear hkn hkf hb3 hM hks x0 lx hsz2
 go_upto_block 0 with (fail)
 have ho0:=World.ownsRow_lit (base:=W3.heap.size) (e:=32) (size:=4) W3 #[] 0 (Nat.le_refl _) (by decide) rfl;refine wp_genGG (fun W=>W.ownsRow W3.heap.size 32 4 (.slice (some ⟨W3.heap.size,0,none⟩) 0 0) 0 (revals [])∧Below W3.heap.size W3 W) ⟨ho0,balloc (Below.refl _ _)⟩ (fun W4 h4=>?_);obtain ⟨ho4,hb4⟩:=h4;have hs3:w.heap.size≤W3.heap.size:=HG.out.size;have HO:=hD ho4;have HB4:=hD hb4
 have hs4:w.heap.size≤W4.heap.size:=Nat.le_trans hs3 hb4.size;clear x4 lbn x1 lx3 ho0 ho4 hb4
 go_cut [9] (fun rv wx=>RrV w.heap.size wx rv M∧Below W3.heap.size W3 wx)
 case first =>
  have hx4:=(HB4.out.block _ (ltS HX.out)).trans HX.out;have hz4:=(HB4.out.block _ (ltS HZ.out)).trans HZ.out;have x1:=cellS hx4 0;have z0:=cellS hz4 0;have z1:=cellS hz4 1;have z2:=cellS hz4 2;have z3:=cellS hz4 3;have lx:=ltS hx4;have lz:=ltS hz4;have HNR3:=hD (HV.out.keep HB2.out);have HNR:=hD (HV.out.keep (bkeep2 HB2.out HB4.out));have HRD:=hD (HR.out.keep (bkeep2 HB2.out HB4.out))
  have HKN4:=hD (HKN.out.keep HB4.out);clear hx4 hz4
  have HSO:=hD (show ∀ k0∈ks,∀ W,Below W4.heap.size W4 W→Calls Tryz.prog 68 #[.agg #[.slice (some ⟨bn,off,none⟩) R.length c],.int .i64 (k0:Int)] W fun e W'=>e=.returned (.tuple #[.int .i64 (szM (R.map Nr.n) k0).1,.int .i64 (szM (R.map Nr.n) k0).2])∧Below W.heap.size W W' from fun k0 hk0 W hW=>sizeOf_v (some ⟨bn,off,none⟩) c R hT R.length k0 W (by omega) (HKL.out k0 hk0) (HNR.out.keep hW) (HRD.out.keep hW))
  rcases HKI.out with hk0 | hk1 | hk2
  ·have e0:(p.n.ki == 0)=true:=by simp [hk0]
   have HPC:=hD (show ∀ A' c' W,PV W A' (pksF (R.map Nr.n) (szM (R.map Nr.n)) ks)→ks.length≤c'→Calls Tryz.prog 140 #[.slice A' ks.length c',.agg #[.int .i64 r.x,.int .i64 r.y,.int .i64 r.u,.int .i64 r.v]] W fun e w'=>(∃ v,e=.returned v∧RrV W.heap.size w' v M)∧Below W.heap.size W w' from fun A' c' W hpv hcap=>by
    obtain ⟨Mp,Zp,hMp⟩:∃ Mp Zp,parcM (pksF (R.map Nr.n) (szM (R.map Nr.n)) ks) ⟨r.x,r.y,r.u,r.v⟩=(Mp,Zp):=⟨_,_,rfl⟩
    have hz:(⟨r.x,r.y,r.u,r.v⟩:Rc).okW:=by have:=rqW_iff.1 HQR.out;have:=HXY.out;unfold Rc.okW;dsimp only;omega
    have hpk:=packed_w A' c' (pksF (R.map Nr.n) (szM (R.map Nr.n)) ks) ⟨r.x,r.y,r.u,r.v⟩ W hpv (by rw [HPL.out];exact hcap) HBG.out hz Mp Zp hMp;rw [HPL.out] at hpk;refine hpk.mono ?_;rintro e w' ⟨⟨v,rfl,hrv,hf⟩,hb⟩;refine ⟨⟨v,rfl,?_,hf⟩,hb⟩;rw [<- HM.out,kidR_pk r (by omega) (by omega),HKS.out,hMp]
    exact reR_rv hrv)
   clear hk0
   go_upto_region 10 with (fail)
   refine wp_region_rx (XV (.agg #[.slice (some ⟨bn,off,none⟩) R.length c]) :: XV (.slice kA ks.length kc) :: (fun v z=>PkV z v ks.length (pksF (R.map Nr.n) (szM (R.map Nr.n)) ks)) :: XV (.agg #[.int .i64 r.x,.int .i64 r.y,.int .i64 r.u,.int .i64 r.v]) :: (fun v z=>RrV w.heap.size z v M) :: (fun v z=>RrV w.heap.size z v M) :: []) (by kernel_rfl) (by kernel_rfl) ?hTs ?hops ?hfin
   case hTs =>
    intro T hT;simp only [List.mem_cons,List.not_mem_nil,or_false] at hT
    rcases hT with rfl | rfl | rfl | rfl | rfl | rfl <;> first | exact stay_V _ | exact stay_T | exact stay_of (fun v a b x g=>x.keep g) | exact stay_of (fun v a b x g=>x)
   case hops =>
    refine ⟨opOK_rx [(4,none)] (by kernel_rfl) rfl ?_,?_⟩
    ·intro act w' hw' h1;obtain ⟨hk,hf⟩:=evkf act;generalize act.eval=ρ at *;replace h1:ρ (.tmp 4)=.pointer (some ⟨w.heap.size,0,none⟩):=h1
     refine gxB hw' fun K hK hc hf'=>?_
     go_simp;exact hK _ _ ⟨rfl,Gr.refl _⟩
    refine ⟨opOK_rx [(8,none)] (by kernel_rfl) rfl ?_,?_⟩
    ·intro act w' hw' h1;obtain ⟨hk,hf⟩:=evkf act;generalize act.eval=ρ at *;replace h1:ρ (.tmp 8)=.slice kA ks.length kc:=h1
     refine gxB hw' fun K hK hc hf'=>?_
     go_simp;exact hK _ _ ⟨rfl,Gr.refl _⟩
    refine ⟨opOK_rx [(48,some 0),(49,some 1)] (by kernel_rfl) rfl ?_,?_⟩
    ·intro act w' hw' h1 h2;obtain ⟨hk,hf⟩:=evkf act;generalize act.eval=ρ at *;replace h1:ρ (.tmp 48)=.agg #[.slice (some ⟨bn,off,none⟩) R.length c]:=h1;replace h2:ρ (.tmp 49)=.slice kA ks.length kc:=h2
     refine gxB hw' fun K hK hc hf'=>?_
     go_simp
     (refine (packsOf_v _ c R ks kA kc ks.length (szM (R.map Nr.n)) _ (HNR.out.keep (bdrewn hw'.out)) hL1 (by omega) (HKN4.out.keep (bdrewn hw'.out)) rfl (by omega) HKL.out (fun k0 hk0 W hW=>HSO.out k0 hk0 W (bkeep2 (bdrewn hw'.out) hW))).mono ?_);rintro e w1 ⟨⟨A',c',rfl,hpv,hcap⟩,hb1⟩;exact ⟨_,rfl,hK _ _ ⟨⟨A',c',rfl,hpv,hcap⟩,hb1⟩⟩
    refine ⟨opOK_rx [(6,none)] (by kernel_rfl) rfl ?_,?_⟩
    ·intro act w' hw' h1;obtain ⟨hk,hf⟩:=evkf act;generalize act.eval=ρ at *;replace h1:ρ (.tmp 6)=.pointer (some ⟨w.heap.size+1,0,none⟩):=h1
     refine gxB hw' fun K hK hc hf'=>?_
     go_simp;exact hK _ _ ⟨rfl,Gr.refl _⟩
    refine ⟨opOK_rx [(50,some 2),(51,some 3)] (by kernel_rfl) rfl ?_,?_⟩
    ·intro act w' hw' h1 h2;obtain ⟨hk,hf⟩:=evkf act;generalize act.eval=ρ at *;replace h1:(fun v z=>PkV z v ks.length (pksF (R.map Nr.n) (szM (R.map Nr.n)) ks)) (ρ (.tmp 50)) w':=h1;replace h2:ρ (.tmp 51)=.agg #[.int .i64 r.x,.int .i64 r.y,.int .i64 r.u,.int .i64 r.v]:=h2
     refine gxB hw' fun K hK hc hf'=>?_
     go_simp;obtain ⟨A',c',e,hpv,hcap⟩:=h1;rw [e];(refine (HPC.out A' c' _ hpv hcap).mono ?_);rintro e w1 ⟨⟨v,rfl,hr,hf⟩,hb1⟩;exact ⟨_,rfl,hK _ _ ⟨⟨hr,fun k0 hk0=>Nat.le_trans (Nat.le_trans hs4 (bdrewn hw'.out).size) (hf k0 hk0)⟩,hb1⟩⟩
    refine ⟨opOK_rx [(52,some 4)] (by kernel_rfl) rfl ?_,?_⟩
    ·intro act w' hw' h1;obtain ⟨hk,hf⟩:=evkf act;generalize act.eval=ρ at *;replace h1:(fun v z=>RrV w.heap.size z v M) (ρ (.tmp 52)) w':=h1
     refine gxB hw' fun K hK hc hf'=>?_
     go_simp;exact hK _ _ ⟨h1,Gr.refl _⟩
    exact trivial
   case hfin =>
    intro w1 hg1;intro v48 t48;replace t48:v48=.agg #[.slice (some ⟨bn,off,none⟩) R.length c]:=t48;subst t48;intro v49 t49;replace t49:v49=.slice kA ks.length kc:=t49;subst t49;intro v50 t50;replace t50:(fun v z=>PkV z v ks.length (pksF (R.map Nr.n) (szM (R.map Nr.n)) ks)) v50 w1:=t50;intro v51 t51;replace t51:v51=.agg #[.int .i64 r.x,.int .i64 r.y,.int .i64 r.u,.int .i64 r.v]:=t51;subst t51
    intro v52 t52;replace t52:(fun v z=>RrV w.heap.size z v M) v52 w1:=t52;intro v9 t9;replace t9:(fun v z=>RrV w.heap.size z v M) v9 w1:=t9;have hb1:=bdrewn hg1.out;clear hg1;simp only [finP,Act.put,List.setIfInBounds_toArray,List.set_cons_succ,List.set_cons_zero];go_wp2
    go_meet
    exact ⟨t9,bkeep2 HB4.out hb1⟩
  ·have e0:(p.n.ki == 0)=false:=by simp [hk1]
   have e1:(p.n.ki == 1)=true:=by simp [hk1]
   have HRP:=hD (HRD.out p (List.mem_of_getElem? HGI.out))
   have HGC:=hD (show ∀ A' c' W,RdN W p→CeV W A' (cesF (R.map Nr.n) (szM (R.map Nr.n)) ks)→Calls Tryz.prog 141 #[.agg (gridAg p (.slice A' ks.length c')).toArray,.agg #[.int .i64 r.x,.int .i64 r.y,.int .i64 r.u,.int .i64 r.v]] W fun e w'=>(∃ v,e=.returned v∧RrV W.heap.size w' v M)∧Below W.heap.size W w' from fun A' c' W hrd hcv=>by
    have hgd:=gridded_w p.ca p.cc p.n.cs p.ra p.rc p.n.rs A' c' (cesF (R.map Nr.n) (szM (R.map Nr.n)) ks) r.x r.y r.u r.v W hrd.c hrd.r hcv (HGW.out hk1) HQR.out (by have:=rqW_iff.1 HQR.out;have:=HXY.out;omega) (by have:=rqW_iff.1 HQR.out;have:=HXY.out;omega) hrd.cl hrd.rl;rw [HCL.out] at hgd;refine hgd.mono ?_;rintro e w' ⟨⟨v,rfl,hrv,hf⟩,hb⟩;refine ⟨⟨v,rfl,?_,hf⟩,hb⟩
    rw [<- HM.out,kidR_gr r hk1,HKS.out]
    exact hrv)
   clear hk1
   go_upto_region 12 with (fail)
   refine wp_region_rx (XV (.agg #[.slice (some ⟨bn,off,none⟩) R.length c]) :: XV (.int .i64 (i:Int)) :: XV (.slice kA ks.length kc) :: (fun v z=>GdV z v p ks.length (cesF (R.map Nr.n) (szM (R.map Nr.n)) ks)) :: XV (.agg #[.int .i64 r.x,.int .i64 r.y,.int .i64 r.u,.int .i64 r.v]) :: (fun v z=>RrV w.heap.size z v M) :: (fun v z=>RrV w.heap.size z v M) :: []) (by kernel_rfl) (by kernel_rfl) ?hTs ?hops ?hfin
   case hTs =>
    intro T hT;simp only [List.mem_cons,List.not_mem_nil,or_false] at hT
    rcases hT with rfl | rfl | rfl | rfl | rfl | rfl | rfl <;> first | exact stay_V _ | exact stay_T | exact stay_of (fun v a b x g=>x.keep g) | exact stay_of (fun v a b x g=>x)
   case hops =>
    refine ⟨opOK_rx [(4,none)] (by kernel_rfl) rfl ?_,?_⟩
    ·intro act w' hw' h1;obtain ⟨hk,hf⟩:=evkf act;generalize act.eval=ρ at *;replace h1:ρ (.tmp 4)=.pointer (some ⟨w.heap.size,0,none⟩):=h1
     refine gxB hw' fun K hK hc hf'=>?_
     go_simp;exact hK _ _ ⟨rfl,Gr.refl _⟩
    refine ⟨opOK_rx [(1,none)] (by kernel_rfl) rfl ?_,?_⟩
    ·intro act w' hw' h1;obtain ⟨hk,hf⟩:=evkf act;generalize act.eval=ρ at *;replace h1:ρ (.tmp 1)=.int .i64 (i:Int):=h1
     refine gxB hw' fun K hK hc hf'=>?_
     go_simp;exact hK _ _ ⟨rfl,Gr.refl _⟩
    refine ⟨opOK_rx [(8,none)] (by kernel_rfl) rfl ?_,?_⟩
    ·intro act w' hw' h1;obtain ⟨hk,hf⟩:=evkf act;generalize act.eval=ρ at *;replace h1:ρ (.tmp 8)=.slice kA ks.length kc:=h1
     refine gxB hw' fun K hK hc hf'=>?_
     go_simp;exact hK _ _ ⟨rfl,Gr.refl _⟩
    refine ⟨opOK_rx [(55,some 0),(56,some 1),(57,some 2)] (by kernel_rfl) rfl ?_,?_⟩
    ·intro act w' hw' h1 h2 h3;obtain ⟨hk,hf⟩:=evkf act;generalize act.eval=ρ at *;replace h1:ρ (.tmp 55)=.agg #[.slice (some ⟨bn,off,none⟩) R.length c]:=h1;replace h2:ρ (.tmp 56)=.int .i64 (i:Int):=h2;replace h3:ρ (.tmp 57)=.slice kA ks.length kc:=h3
     refine gxB hw' fun K hK hc hf'=>?_
     go_simp
     (refine (gridOf_v _ c R i p ks kA kc ks.length (szM (R.map Nr.n)) _ (HNR.out.keep (bdrewn hw'.out)) HGI.out (by omega) (HKN4.out.keep (bdrewn hw'.out)) rfl (by omega) HKL.out (fun k0 hk0 W hW=>HSO.out k0 hk0 W (bkeep2 (bdrewn hw'.out) hW))).mono ?_);rintro e w1 ⟨⟨A',c',rfl,hcv⟩,hb1⟩;exact ⟨_,rfl,hK _ _ ⟨⟨A',c',rfl,hcv⟩,hb1⟩⟩
    refine ⟨opOK_rx [(6,none)] (by kernel_rfl) rfl ?_,?_⟩
    ·intro act w' hw' h1;obtain ⟨hk,hf⟩:=evkf act;generalize act.eval=ρ at *;replace h1:ρ (.tmp 6)=.pointer (some ⟨w.heap.size+1,0,none⟩):=h1
     refine gxB hw' fun K hK hc hf'=>?_
     go_simp;exact hK _ _ ⟨rfl,Gr.refl _⟩
    refine ⟨opOK_rx [(58,some 3),(59,some 4)] (by kernel_rfl) rfl ?_,?_⟩
    ·intro act w' hw' h1 h2;obtain ⟨hk,hf⟩:=evkf act;generalize act.eval=ρ at *;replace h1:(fun v z=>GdV z v p ks.length (cesF (R.map Nr.n) (szM (R.map Nr.n)) ks)) (ρ (.tmp 58)) w':=h1;replace h2:ρ (.tmp 59)=.agg #[.int .i64 r.x,.int .i64 r.y,.int .i64 r.u,.int .i64 r.v]:=h2
     refine gxB hw' fun K hK hc hf'=>?_
     go_simp;obtain ⟨A',c',e,hcv⟩:=h1;rw [e];(refine (HGC.out A' c' _ (HRP.out.keep (bdrewn hw'.out)) hcv).mono ?_);rintro e w1 ⟨⟨v,rfl,hr,hf⟩,hb1⟩;exact ⟨_,rfl,hK _ _ ⟨⟨hr,fun k0 hk0=>Nat.le_trans (Nat.le_trans hs4 (bdrewn hw'.out).size) (hf k0 hk0)⟩,hb1⟩⟩
    refine ⟨opOK_rx [(60,some 5)] (by kernel_rfl) rfl ?_,?_⟩
    ·intro act w' hw' h1;obtain ⟨hk,hf⟩:=evkf act;generalize act.eval=ρ at *;replace h1:(fun v z=>RrV w.heap.size z v M) (ρ (.tmp 60)) w':=h1
     refine gxB hw' fun K hK hc hf'=>?_
     go_simp;exact hK _ _ ⟨h1,Gr.refl _⟩
    exact trivial
   case hfin =>
    intro w2 hg2;intro v55 t55;replace t55:v55=.agg #[.slice (some ⟨bn,off,none⟩) R.length c]:=t55;subst t55;intro v56 t56;replace t56:v56=.int .i64 (i:Int):=t56;subst t56;intro v57 t57;replace t57:v57=.slice kA ks.length kc:=t57;subst t57;intro v58 t58;replace t58:(fun v z=>GdV z v p ks.length (cesF (R.map Nr.n) (szM (R.map Nr.n)) ks)) v58 w2:=t58;intro v59 t59
    replace t59:v59=.agg #[.int .i64 r.x,.int .i64 r.y,.int .i64 r.u,.int .i64 r.v]:=t59;subst t59;intro v60 t60;replace t60:(fun v z=>RrV w.heap.size z v M) v60 w2:=t60;intro v9 t9;replace t9:(fun v z=>RrV w.heap.size z v M) v9 w2:=t9;have hb2:=bdrewn hg2.out;clear hg2;simp only [finP,Act.put,List.setIfInBounds_toArray,List.set_cons_succ,List.set_cons_zero];go_wp2
    go_meet
    exact ⟨t9,bkeep2 HB4.out hb2⟩
  ·have e0:(p.n.ki == 0)=false:=by simp [hk2]
   have e1:(p.n.ki == 1)=false:=by simp [hk2]
   have HM2:=hD (show M=(plsF (R.map Nr.n) ks).map (fun q=>(⟨r.x+xM q r.u,r.y+yM q r.v,wM q r.u,hM q r.v⟩:Re)) from by rw [<- HM.out,kidR_pl r hk2,HKS.out]);clear hk2
   go_wp2_with fail
   go_loopw [9,10] (fun rv iv wr=>∃ m:Nat,m≤ks.length∧iv=.int .i64 (m:Int)∧wr.ownsRow W3.heap.size 32 4 rv m (revals (M.take m))∧Below W3.heap.size W3 wr) (fun _ iv _=>ks.length-(intOf iv).toNat)
   case atStart=>exact ⟨0,by omega,rfl,HO.out,HB4.out⟩
   case round =>
    obtain ⟨m,hm,rfl,ho,hBr⟩:=hrel;clear HO x1 z0 z1 z2 z3 lx lz
    by_cases hlt:m<ks.length
    ·have hd:decide ((m:Int)<(ks.length:Int))=true:=by simpa using hlt
     have hdm:(m:Int)<(ks.length:Int):=by omega
     obtain ⟨kd,hkd⟩:∃ kd,ks[m]?=some kd:=⟨_,List.getElem?_eq_getElem hlt⟩
     have hkdl:=HKL.out kd (List.mem_of_getElem? hkd)
     have hkdi:(kd:Int)<(R.length:Int):=by omega
     obtain ⟨s,hs⟩:∃ s,R[kd]?=some s:=⟨_,List.getElem?_eq_getElem hkdl⟩
     obtain ⟨kb,koff,ek,hkb,hkp⟩:=(HKN.out.keep hBr).cells (by rw [List.length_map];omega);have ck:=hkp m (kd:Int) (by rw [List.getElem?_map,hkd];rfl);obtain ⟨b1,o1,e1',hb1,hcs⟩:=(HNR3.out.keep hBr).cells (by omega)
     cases e1'
     have hpl:=node_pl (hcs kd s hs);have p0:=hpl 0 _ rfl;have p1:=hpl 1 _ rfl;have p2:=hpl 2 _ rfl;have p3:=hpl 3 _ rfl;have p4:=hpl 4 _ rfl;have p5:=hpl 5 _ rfl;have p6:=hpl 6 _ rfl;have p7:=hpl 7 _ rfl;have p8:=hpl 8 _ rfl;simp only [Nat.add_zero] at p0;have hpB:=hT.pl kd s.n (by rw [List.getElem?_map,hs];rfl)
     have hmm:M[m]?=some ⟨r.x+xM s.n.pl r.u,r.y+yM s.n.pl r.v,wM s.n.pl r.u,hM s.n.pl r.v⟩:=by
      rw [HM2.out,List.getElem?_map,show (plsF (R.map Nr.n) ks)[m]?=some s.n.pl from by
       unfold plsF;rw [fm_get (kid_some (fun k hk=>by rw [List.length_map];exact HKL.out k hk) fun _ n=>n.pl),hkd]
       show (((R.map Nr.n))[kd]?).map _=_
       rw [List.getElem?_map,hs]
       rfl]
      rfl
     have hrs:=revals_succ hmm;have hxr:=(hBr.block _ (ltS HX.out)).trans HX.out;have hzr:=(hBr.block _ (ltS HZ.out)).trans HZ.out;have x1:=cellS hxr 0;have z0:=cellS hzr 0;have z1:=cellS hzr 1;have z2:=cellS hzr 2;have z3:=cellS hzr 3;have lx:=ltS hxr;have lz:=ltS hzr;have hws:W3.heap.size≤wr.heap.size:=hBr.size
     have HXO:=hD (show (-1000000000000000≤r.x∧r.x≤1000000000000000)∧(-1000000000000000≤r.y∧r.y≤1000000000000000) by have:=HXY.out;have:=rqW_iff.1 HQR.out;omega);have HOR:=hD ho;have HRS:=hD hrs;have HBR:=hD hBr;have HEK:=hD ek;have HPB:=hD hpB;have hob:=ho.lt;clear ho hrs hBr hkp hcs hmm hxr hzr hpl hpB hkd hs
     go_wp2_with fail
     rw [ek];refine wp_region_grow 12 3 (·<13) (by kernel_rfl) (by kernel_rfl) rfl ?_
     iterate 12 (refine wpG_step (fun K hK=>?_);apply Exists.intro;refine ⟨.inl ⟨rfl,fun w' hw'=>?_⟩,?_⟩;(focus ((obtain ⟨hc,hf⟩:=bcell hw'.out);(have hcS:=bcellS hw'.out);go_simp <;> first | rfl|(go_at_call 142;exact placed_w s.n.pl r.x r.y r.u r.v _ HXO.out.1 HXO.out.2 HPB.out HQR.out)));(go_simp;refine hK _ ?_;clear hK K))
     refine wpG_nil ?_;refine wpK_one (i:=12) (by kernel_rfl) rfl rfl (by kernel_rfl) (fun wa ha=>?_);go_simp;refine ⟨Gr.alloc _ _,?_⟩;refine wpK_tail (by kernel_rfl) (fun w8 h8=>?_);have hb8:Below wr.heap.size wr w8:=bgrow (balloc (bgrow (Below.refl _ _).drew ha)) h8
     have hgb:=(h8.out.block wa.heap.size (by simp)).trans (newS wa (.cells #[.int .i64 (r.x+xM s.n.pl r.u),.int .i64 (r.y+yM s.n.pl r.v),.int .i64 (wM s.n.pl r.u),.int .i64 (hM s.n.pl r.v)] 32 (0,0)));clear ha h8;generalize wa.heap.size=gb at *;have ho8:=own_belowN HOR.out hb8
     have hnews:∀ (j:Nat) (u:Value),(valsRe ⟨r.x+xM s.n.pl r.u,r.y+yM s.n.pl r.v,wM s.n.pl r.u,hM s.n.pl r.v⟩)[j]?=some u→w8.cell? ((⟨gb,0,none⟩:Addr).add j)=some u:=fun j u hu=>by
      rw [add_none,Nat.zero_add];exact (cellS hgb j).trans (by simpa [valsRe] using hu)
     obtain ⟨v8,w9,hap,how8,hgr8,-⟩:=run_append_own (P:=Tryz.prog) w8 W3.heap.size 28 28 32 ti tz 4 32 Tryz.underlying28 ti1 ti2 ti3 ti4 ti5 (by decide) _ m (revals (M.take m)) ho8 ⟨gb,0,none⟩ 1 1 (valsRe ⟨r.x+xM s.n.pl r.u,r.y+yM s.n.pl r.v,wM s.n.pl r.u,hM s.n.pl r.v⟩) rfl hnews (valsRe_one2 _) (by simp only [maxLen];omega) (by omega) (Nat.le_trans hws hb8.size);rw [HRS.out] at how8
     have HO9:=hD how8;have HB9:=hD (below_own0 (bkeep2 HBR.out hb8) hgr8 ho8.lt (Nat.le_refl _) (Nat.le_refl _));refine wpAny_one (f:=1) (i:=13) (by kernel_rfl) rfl rfl ?_;refine upon_appendL (.tmp 32) (.tmp 44) 28 rfl rfl rfl hap ?_;simp only [Act.put,List.setIfInBounds_toArray,List.set_cons_succ,List.set_cons_zero];refine wpAny_one (f:=0) (i:=14) (by kernel_rfl) rfl rfl ?_;go_simp
     refine wpAny_end (by kernel_rfl) ?_;refine nopan_normal ?_;rw [<- ek];clear p0 p1 p2 p3 p4 p5 p6 p7 p8 ek hap how8 hgr8 ho8 hnews hgb hb8 x1 z0 z1 z2 z3 lx lz hob ck hkb hb1;go_wp2
     go_roundw
     case rel=>exact ⟨m+1,by omega,by go_num,by simpa using HO9.out,HB9.out⟩
     case measure=>simp [intOf];omega
    ·have hd:decide ((m:Int)<(ks.length:Int))=false:=by simp;omega
     obtain rfl:m=ks.length:=by omega
     have he:M.take ks.length=M:=List.take_of_length_le (by rw [HML.out];exact Nat.le_refl _);rw [he] at ho;have HRR2:=hD (show RrV w.heap.size wr u9 M from ⟨ReR.own ho HML.out.symm,fun k hk=>Nat.le_trans hs3 (ho.lt k hk).1⟩);have HBR:=hD hBr;clear ho hBr he;go_wp2
     go_meet
     exact ⟨HRR2.out,HBR.out⟩
 case rest =>
  obtain ⟨⟨hre,hfar⟩,hbc⟩:=hcut;obtain ⟨rA,rc,e9,hrv⟩:=hre;subst e9;have HRV:=hD hrv;have HFR:=hD (show ∀ b0 o,rA=some ⟨b0,o,none⟩→w.heap.size≤b0 from fun b0 o e=>hfar b0 (by rw [e];rfl));replace HX:=hD ((hbc.block _ (ltS HX.out)).trans HX.out);replace HLY:=hD (HLY.out.keep hbc);replace HG:=hD (grown_below HG.out hbc);replace HB2:=hD (bkeep2 HB2.out hbc);replace HKN:=hD (HKN.out.keep hbc)
  clear hrv hfar hbc HO HZ HPL HCL HBG HGW
  go_wp2_with fail
  go_loopw [11] (fun kv wr=>∃ m:Nat,m≤ks.length∧kv=.int .i64 (m:Int)∧LyP wr g R.length (lrM (R.map Nr.n) a b) (fun j=>(K j∨j=i)∨∃ m' k',m'<m∧ks[m']?=some k'∧Dn (R.map Nr.n) k' j)∧wc.grownBy wr (some g)) (fun kv _=>ks.length-(intOf kv).toNat)
  case atStart=>exact ⟨0,by omega,rfl,HLY.out.mono fun j _ hj=>hj.elim id fun ⟨m',k',h,_⟩=>absurd h (by omega),greflI _ _⟩
  case round =>
   obtain ⟨m,hm,rfl,hly,hgr⟩:=hrel;clear HLY
   by_cases hlt:m<ks.length
   ·have hd:decide ((m:Int)<(ks.length:Int))=true:=by simpa using hlt
    have hdm:(m:Int)<(ks.length:Int):=by omega
    have hdM:(m:Int)<(M.length:Int):=by rw [HML.out];omega
    obtain ⟨kd,hkd⟩:∃ kd,ks[m]?=some kd:=⟨_,List.getElem?_eq_getElem hlt⟩
    obtain ⟨q,hqm⟩:∃ q,M[m]?=some q:=⟨_,List.getElem?_eq_getElem (by rw [HML.out];exact hlt)⟩
    have hkq:lrM (R.map Nr.n) a b kd=q:=lrM_kid hT HMG.out (by rw [HKS.out];exact hkd) (by rw [HRR.out,HM.out];exact hqm);obtain ⟨kb,koff,ek,hkb,hkp⟩:=HKN.out.cells (by rw [List.length_map];omega);obtain ⟨rb,roff,er,hrb,hrp⟩:=HRV.out.cells (by rw [HML.out];omega)
    have hkg:kb≠g:=by have:=HKF.out kb koff ek;omega
    have hrg:rb≠g:=by have:=HFR.out rb roff er;omega
    have ck:=(World.cell?_of_block (a:=⟨kb,koff+m,none⟩) (hgr.block kb hkb (fun e=>hkg (Option.some.inj e)))).trans (hkp m (kd:Int) (by rw [List.getElem?_map,hkd];rfl));obtain ⟨c0,c1,c2,c3⟩:=hrp m q hqm;have hrbl:=hgr.block rb hrb (fun e=>hrg (Option.some.inj e));replace c0:=(World.cell?_of_block (a:=⟨rb,roff+m*4,none⟩) hrbl).trans c0
    replace c1:=(World.cell?_of_block (a:=⟨rb,roff+m*4+1,none⟩) hrbl).trans c1;replace c2:=(World.cell?_of_block (a:=⟨rb,roff+m*4+2,none⟩) hrbl).trans c2;replace c3:=(World.cell?_of_block (a:=⟨rb,roff+m*4+3,none⟩) hrbl).trans c3;have hxr:=(hgr.block _ (ltS HX.out) (fun e=>by have:=Option.some.inj e;omega)).trans HX.out;have x1:=cellS hxr 0;have lx:=ltS hxr
    have lkb:kb<wr.heap.size:=Nat.lt_of_lt_of_le hkb hgr.size;have lrb:rb<wr.heap.size:=Nat.lt_of_lt_of_le hrb hgr.size;have HLY:=hD hly;have HGR:=hD hgr;have HEK:=hD ek;have HER:=hD er;have HKD:=hD hkd;have HKQ:=hD hkq;clear hly hgr ek er hkd hkq hkp hrp hrbl hxr hqm hkb hrb
    go_wp2_with fail
    refine wp_region_rxl 10 1 [] #[true,true,true,true,true,true,true,true,true,true,false] (by kernel_rfl) (by kernel_rfl) (by kernel_rfl) (XV (.agg #[.slice (some ⟨bn,off,none⟩) R.length c]) :: XV (.slice kA ks.length kc) :: XV (.int .i64 (m:Int)) :: XV (.pointer (some ⟨kb,koff+m,none⟩)) :: XV (.int .i64 (kd:Int)) :: XV (.slice rA M.length rc) :: XV (.int .i64 (m:Int)) :: XV (.pointer (some ⟨rb,roff+m*4,none⟩)) :: XV (.agg #[.int .i64 q.x,.int .i64 q.y,.int .i64 q.u,.int .i64 q.v]) :: XV (.slice (some ⟨g,0,none⟩) R.length R.length) :: []) (by kernel_rfl) (by kernel_rfl) (by kernel_rfl) ?hTs ?hXs ?hops ?hfin
    case hTs =>
     intro T hT;simp only [List.mem_cons,List.not_mem_nil,or_false] at hT
     rcases hT with rfl | rfl | rfl | rfl | rfl | rfl | rfl | rfl | rfl | rfl <;> first | exact stay_V _ | exact stay_T | exact stay_of (fun v a b x g=>x.keep g) | exact stay_of (fun v a b x g=>x)
    case hXs =>
     intro x d s hx;exact absurd hx (List.not_mem_nil)
    case hops =>
     refine ⟨opOK_rx [(4,none)] (by kernel_rfl) rfl ?_,?_⟩
     ·intro act w' hw' h1;obtain ⟨hk,hf⟩:=evkf act;generalize act.eval=ρ at *;replace h1:ρ (.tmp 4)=.pointer (some ⟨w.heap.size,0,none⟩):=h1
      refine gxB hw' fun K hK hc hf'=>?_
      go_simp;exact hK _ _ ⟨rfl,Gr.refl _⟩
     refine ⟨opOK_rx [(8,none)] (by kernel_rfl) rfl ?_,?_⟩
     ·intro act w' hw' h1;obtain ⟨hk,hf⟩:=evkf act;generalize act.eval=ρ at *;replace h1:ρ (.tmp 8)=.slice kA ks.length kc:=h1
      refine gxB hw' fun K hK hc hf'=>?_
      go_simp;exact hK _ _ ⟨rfl,Gr.refl _⟩
     refine ⟨opOK_rx [(11,none)] (by kernel_rfl) rfl ?_,?_⟩
     ·intro act w' hw' h1;obtain ⟨hk,hf⟩:=evkf act;generalize act.eval=ρ at *;replace h1:ρ (.tmp 11)=.int .i64 (m:Int):=h1
      refine gxB hw' fun K hK hc hf'=>?_
      go_simp;exact hK _ _ ⟨rfl,Gr.refl _⟩
     refine ⟨opOK_rx [(68,some 1),(69,some 2)] (by kernel_rfl) rfl ?_,?_⟩
     ·intro act w' hw' h1 h2;obtain ⟨hk,hf⟩:=evkf act;generalize act.eval=ρ at *;replace h1:ρ (.tmp 68)=.slice kA ks.length kc:=h1;replace h2:ρ (.tmp 69)=.int .i64 (m:Int):=h2;refine gx_gen (fun K hK=>?_);rw [HEK.out] at h1;obtain ⟨hc,hf'⟩:=bcell (bdrewn hw'.out);go_simp;exact hK _ _ ⟨rfl,Gr.refl _⟩
     refine ⟨opOK_rx [(70,some 3)] (by kernel_rfl) rfl ?_,?_⟩
     ·intro act w' hw' h1;obtain ⟨hk,hf⟩:=evkf act;generalize act.eval=ρ at *;replace h1:ρ (.tmp 70)=.pointer (some ⟨kb,koff+m,none⟩):=h1
      refine gxB hw' fun K hK hc hf'=>?_
      go_simp;exact hK _ _ ⟨rfl,Gr.refl _⟩
     refine ⟨opOK_rx [(9,none)] (by kernel_rfl) rfl ?_,?_⟩
     ·intro act w' hw' h1;obtain ⟨hk,hf⟩:=evkf act;generalize act.eval=ρ at *;replace h1:ρ (.tmp 9)=.slice rA M.length rc:=h1
      refine gxB hw' fun K hK hc hf'=>?_
      go_simp;exact hK _ _ ⟨rfl,Gr.refl _⟩
     refine ⟨opOK_rx [(11,none)] (by kernel_rfl) rfl ?_,?_⟩
     ·intro act w' hw' h1;obtain ⟨hk,hf⟩:=evkf act;generalize act.eval=ρ at *;replace h1:ρ (.tmp 11)=.int .i64 (m:Int):=h1
      refine gxB hw' fun K hK hc hf'=>?_
      go_simp;exact hK _ _ ⟨rfl,Gr.refl _⟩
     refine ⟨opOK_rx [(72,some 5),(73,some 6)] (by kernel_rfl) rfl ?_,?_⟩
     ·intro act w' hw' h1 h2;obtain ⟨hk,hf⟩:=evkf act;generalize act.eval=ρ at *;replace h1:ρ (.tmp 72)=.slice rA M.length rc:=h1;replace h2:ρ (.tmp 73)=.int .i64 (m:Int):=h2;refine gx_gen (fun K hK=>?_);rw [HER.out] at h1;obtain ⟨hc,hf'⟩:=bcell (bdrewn hw'.out);go_simp;exact hK _ _ ⟨rfl,Gr.refl _⟩
     refine ⟨opOK_rx [(74,some 7)] (by kernel_rfl) rfl ?_,?_⟩
     ·intro act w' hw' h1;obtain ⟨hk,hf⟩:=evkf act;generalize act.eval=ρ at *;replace h1:ρ (.tmp 74)=.pointer (some ⟨rb,roff+m*4,none⟩):=h1
      refine gxB hw' fun K hK hc hf'=>?_
      go_simp;exact hK _ _ ⟨rfl,Gr.refl _⟩
     refine ⟨opOK_rx [(3,none)] (by kernel_rfl) rfl ?_,?_⟩
     ·intro act w' hw' h1;obtain ⟨hk,hf⟩:=evkf act;generalize act.eval=ρ at *;replace h1:ρ (.tmp 3)=.slice (some ⟨g,0,none⟩) R.length R.length:=h1
      refine gxB hw' fun K hK hc hf'=>?_
      go_simp;exact hK _ _ ⟨rfl,Gr.refl _⟩
     exact trivial
    case hfin =>
     intro w16 hg16;intro v67 t67;replace t67:v67=.agg #[.slice (some ⟨bn,off,none⟩) R.length c]:=t67;subst t67;intro v68 t68;replace t68:v68=.slice kA ks.length kc:=t68;subst t68;intro v69 t69;replace t69:v69=.int .i64 (m:Int):=t69;subst t69;intro v70 t70;replace t70:v70=.pointer (some ⟨kb,koff+m,none⟩):=t70;subst t70;intro v71 t71;replace t71:v71=.int .i64 (kd:Int):=t71;subst t71;intro v72 t72
     replace t72:v72=.slice rA M.length rc:=t72;subst t72;intro v73 t73;replace t73:v73=.int .i64 (m:Int):=t73;subst t73;intro v74 t74;replace t74:v74=.pointer (some ⟨rb,roff+m*4,none⟩):=t74;subst t74;intro v75 t75;replace t75:v75=.agg #[.int .i64 q.x,.int .i64 q.y,.int .i64 q.u,.int .i64 q.v]:=t75;subst t75;intro v76 t76;replace t76:v76=.slice (some ⟨g,0,none⟩) R.length R.length:=t76;subst t76
     have hb16:=bdrewn hg16.out;clear hg16;simp only [finP,List.take_succ_cons,List.take_zero,Act.put,List.setIfInBounds_toArray,List.set_cons_succ,List.set_cons_zero];refine wpAny_one (i:=10) (by kernel_rfl) rfl rfl ?_;go_simp
     go_at_call 102
     refine (HIH.out m kd q HKD.out HKQ.out _ _ (bkeep2 (below_grown HB2.out HGR.out hg HB2.out.size) hb16) (HLY.out.keep hb16)).mono ?_;rintro e w17 ⟨⟨v,rfl⟩,hl17,hg17⟩;go_simp;refine wpAny_end (by kernel_rfl) ?_;refine nopan_normal ?_
     have HL17:=hD (hl17.mono (K':=fun j=>(K j∨j=i)∨∃ m' k',m'<m+1∧ks[m']?=some k'∧Dn (R.map Nr.n) k' j) fun j _ hj=>by
      rcases hj with h | ⟨m',k',h1,h2,h3⟩
      ·exact .inl (.inl h)
      ·by_cases e:m'=m
       ·subst e;rw [HKD.out] at h2;obtain rfl:=Option.some.inj h2;exact .inr h3
       ·exact .inl (.inr ⟨m',k',by omega,h2,h3⟩))
     have HG17:=hD (gt_q (grown_below HGR.out hb16) hg17);clear hl17 hg17 hb16 HLY HGR x1 c0 c1 c2 c3 ck lx lkb lrb;go_wp2
     go_roundw
     case rel=>exact ⟨m+1,by omega,by go_num,HL17.out,HG17.out⟩
     case measure=>simp [intOf];omega
   ·have hd:decide ((m:Int)<(ks.length:Int))=false:=by simp;omega
    obtain rfl:m=ks.length:=by omega
    have HL:=hD (hly.mono (K':=fun j=>K j∨Dn (R.map Nr.n) i j) fun j _ hj=>by
     rcases hj with h | h
     ·exact .inl (.inl h)
     ·cases h with
      | own=>exact .inl (.inr rfl)
      | kid h1 h2 =>
       rw [HKS.out] at h1;obtain ⟨m',h3⟩:=List.getElem?_of_mem h1
       exact .inr ⟨m',_,(List.getElem?_eq_some_iff.1 h3).1,h3,h2⟩)
    have HGE:=hD (gt_q HG.out hgr);clear hly hgr;go_wp2
    go_end0
    exact ⟨⟨_,rfl⟩,HL.out,HGE.out⟩
theorem slayout_v (A:Option Addr) (c k:Nat) (R:List Nr) (a b:Int) (w:World) (hT:TrOK (R.map Nr.n)) (hk:k=R.length) (h:NrV w A R) (hr:RdR w R) (ha:0≤a∧a≤400) (hb:0≤b∧b≤400) :
  Calls Tryz.prog 58 #[.agg #[.slice A k c],.int .i64 a,.int .i64 b] w fun e w'=>(∃ g,e=.returned (.slice (some ⟨g,0,none⟩) k k)∧w.heap.size≤g∧ReB w' g ((List.range k).map (lrM (R.map Nr.n) a b)))∧Below w.heap.size w w':=by
 subst hk
 have hL:R.length≤10:=by have:=hT.l10;rwa [List.length_map] at this
 have hL1:0<R.length:=by have:=hT.l1;rw [List.length_map] at this;omega
 obtain ⟨fm,hfm,hmk0⟩:=made_Rect
 have hmk:=fun w=>hmk0 R.length w (by omega)
 have HFM:=hD (hfm R.length);have HLD:=hD (fun W (hW:Below w.heap.size w W) (hl:LyP W (w.heap.size+1) R.length (lrM (R.map Nr.n) a b) (fun _=>False))=>laid_v A c R a b hT ha hb w h hr (w.heap.size+1) (by omega) R.length 0 W (fun _=>False) ⟨0,0,a,b⟩ (by omega) hL1 (lrM_zero _ _ _) hW hl);clear hmk0 hfm ha hb h hr
 go_enter Tryz.func58,Tryz.ntmps58
 go_upto_region 2 with (fail)
 refine wp_genGG (fun W=>W.heap[w.heap.size]?=some (.cells #[.slice A R.length c] 25 (0,0))∧(∃ cs:Array Value,W.heap[w.heap.size+1]?=some (.cells cs 32 (0,0))∧cs.size=R.length*4)∧Below w.heap.size w W) ⟨(Below.heap_alloc _ _ w.heap.size (by simp)).trans (newS w _),⟨_,newS1T w _ _,HFM.out⟩,balloc (balloc (Below.refl _ _))⟩ (fun W1 h1=>?_);obtain ⟨hx,⟨cs,hc,hs⟩,hb1⟩:=h1
 have HC:=hD (HLD.out W1 hb1 ⟨cs,hc,hs,fun j _ h=>h.elim⟩);have x0:=cellS hx 0;have lx:=ltS hx;have HB:=hD hb1;clear hx hc hs hb1 hmk HFM HLD
 go_wp2_with fail
 refine HC.out.mono ?_;rintro e w2 ⟨⟨v,rfl⟩,hl,hg⟩;have HL:=hD (hl.whole fun j hj=>.inr (dn_root hT (j+1) j (by omega) (by rw [List.length_map];exact hj)));have HB2:=hD (below_grown HB.out hg (by omega) HB.out.size);clear hl hg x0 lx HC;go_wp2;go_ret;exact ⟨⟨_,rfl,by omega,HL.out⟩,HB2.out⟩
end
def GRB (lo:Nat) (w:World) (x:Value) (M:List Re):Prop:=(x=.slice none 0 0∧M=[])∨∃ g n,x=.slice (some ⟨g,0,none⟩) n n∧n=M.length∧lo≤g∧ReB w g M
theorem GRB.rv {lo:Nat} {w:World} {x:Value} {M:List Re} (h:GRB lo w x M):ReR w x M:=by
 rcases h with ⟨rfl,rfl⟩ | ⟨g,n,rfl,rfl,_,hk⟩
 ·exact ⟨none,0,rfl,ReV.nil _ _⟩
 ·exact ⟨_,_,rfl,hk.v⟩
def rgG (u v:Int):Bool:=rng u 0 400&&rng v 0 400
theorem rgG_yes {u v:Int} (h:rgG u v=true):(0≤u∧u≤400)∧(0≤v∧v≤400):=by simpa only [rgG,Bool.and_eq_true,rng_iff] using h
theorem validRoom_g (u v:Int) (w:World):Calls Tryz.prog 54 #[.int .i64 u,.int .i64 v] w fun e w'=>e=.returned (.bool (rgG u v))∧w=w':=by
 unfold rgG
 cases h1:rng u 0 400
 ·go_enter Tryz.func54,Tryz.ntmps54
  go_wp2_with fail
  with_reducible refine (within_any _ _ _ _).mono ?_
  rintro e w2 ⟨rfl,rfl⟩;go_wp2;go_ret;exact ⟨by simp,rfl⟩
 ·go_enter Tryz.func54,Tryz.ntmps54
  go_wp2_with fail
  with_reducible refine (within_any _ _ _ _).mono ?_
  rintro e w2 ⟨rfl,rfl⟩
  go_wp2_with fail
  with_reducible refine (within_any _ _ _ _).mono ?_
  rintro e w2 ⟨rfl,rfl⟩;go_wp2;go_ret;exact ⟨by simp,rfl⟩
theorem goodRoom_g (u v:Int) (w:World):Calls Tryz.prog 57 #[.int .i64 u,.int .i64 v] w fun e w'=>e=.returned (.bool (rgG u v))∧w=w':=by
 unfold rgG
 cases h1:rng u 0 400
 ·go_enter Tryz.func57,Tryz.ntmps57
  go_wp2_with fail
  with_reducible refine (inRange_any _ _ _ _).mono ?_
  rintro e w2 ⟨rfl,rfl⟩;go_wp2;go_ret;exact ⟨by simp,rfl⟩
 ·go_enter Tryz.func57,Tryz.ntmps57
  go_wp2_with fail
  with_reducible refine (inRange_any _ _ _ _).mono ?_
  rintro e w2 ⟨rfl,rfl⟩
  go_wp2_with fail
  with_reducible refine (inRange_any _ _ _ _).mono ?_
  rintro e w2 ⟨rfl,rfl⟩;go_wp2;go_ret;exact ⟨by simp,rfl⟩
def lyL (L:List Nd) (a b:Int):List Re:=if (treeB L&&rgG a b)=true then (List.range L.length).map (lrM L a b) else []
theorem lyL_len (L:List Nd) (a b:Int):(lyL L a b).length≤10:=by
 unfold lyL
 split
 ·rename_i h
  rw [Bool.and_eq_true] at h;rw [List.length_map,List.length_range];exact (tree_len h.1).2
 ·exact Nat.zero_le _
theorem GRB.mono {lo lo':Nat} {w:World} {x:Value} {M:List Re} (h:GRB lo w x M) (hl:lo'≤lo):GRB lo' w x M:=h.imp id fun ⟨g,n,h1,h2,h3,hk⟩=>⟨g,n,h1,h2,Nat.le_trans hl h3,hk⟩
theorem LayoutTree_x (A:Option Addr) (c k:Nat) (R:List Nr) (a b:Int) (w:World) (hk:k=R.length) (h:NrV w A R) (hr:RdR w R) (hL:R.length≤1048576) (hm:∀ p∈R,p.n.cs.length≤1048576∧p.n.rs.length≤1048576) :
  Calls Tryz.prog 14 #[.agg #[.slice A k c],.int .i64 a,.int .i64 b] w fun e w'=>(∃ x,e=.returned x∧GRB w.heap.size w' x (lyL (R.map Nr.n) a b)∧((lyL (R.map Nr.n) a b).length=0→x=.slice none 0 0))∧Below w.heap.size w w':=by
 have hB0:Below w.heap.size w (w.alloc (.cells #[.slice A k c] 25 (0,0))):=balloc (Below.refl _ _);have HX:=hD (newS w (.cells #[.slice A k c] 25 (0,0)));have HB:=hD hB0;have HV:=hD (h.keep hB0);have HR:=hD (hr.keep hB0);have HM:=hD hm;have HK:=hD hk;have x0:=cellS HX.out 0;clear hB0 h hr hm hk
 cases ht:treeB (R.map Nr.n)
 ·rw [show lyL (R.map Nr.n) a b=[] by simp [lyL,ht]];have HT:=hD ht;clear ht
  go_enter Tryz.func14,Tryz.ntmps14
  go_wp2_with fail
  with_reducible refine (ValidTree_n A c k R false _ HK.out HV.out HR.out hL HM.out HT.out).mono ?_
  rintro e w1 ⟨rfl,hb⟩;clear x0;replace HX:=hbk hb HX;replace HB:=hD (bkeep2 HB.out hb);clear hb;have x0:=cellS HX.out 0;go_wp2;go_ret;exact ⟨⟨_,rfl,.inl ⟨rfl,rfl⟩,fun _=>rfl⟩,HB.out⟩
 ·cases hg:rgG a b
  ·rw [show lyL (R.map Nr.n) a b=[] by simp [lyL,hg]];have HT:=hD ht;clear ht
   go_enter Tryz.func14,Tryz.ntmps14
   go_wp2_with fail
   with_reducible refine (ValidTree_n A c k R true _ HK.out HV.out HR.out hL HM.out HT.out).mono ?_
   rintro e w1 ⟨rfl,hb⟩;clear x0;replace HX:=hbk hb HX;replace HB:=hD (bkeep2 HB.out hb);clear hb;have x0:=cellS HX.out 0
   go_wp2_with fail
   with_reducible refine (validRoom_g a b _).mono ?_
   rintro e w2 ⟨rfl,rfl⟩;rw [hg];clear hg;go_wp2;go_ret;exact ⟨⟨_,rfl,.inl ⟨rfl,rfl⟩,fun _=>rfl⟩,HB.out⟩
  ·rw [show lyL (R.map Nr.n) a b=(List.range k).map (lrM (R.map Nr.n) a b) by simp [lyL,ht,hg,HK.out]];have HT:=hD ht;have HG:=hD (rgG_yes hg);clear ht
   go_enter Tryz.func14,Tryz.ntmps14
   go_wp2_with fail
   with_reducible refine (ValidTree_n A c k R true _ HK.out HV.out HR.out hL HM.out HT.out).mono ?_
   rintro e w1 ⟨rfl,hb⟩;clear x0;replace HX:=hbk hb HX;replace HV:=hD (HV.out.keep hb);replace HR:=hD (HR.out.keep hb);replace HB:=hD (bkeep2 HB.out hb);clear hb;have x0:=cellS HX.out 0
   go_wp2_with fail
   with_reducible refine (validRoom_g a b _).mono ?_
   rintro e w2 ⟨rfl,rfl⟩;rw [hg];clear hg;have hsz:=HB.out.size
   go_wp2_with fail
   with_reducible refine (layout_v A c k R a b _ (trOK_of HT.out) HK.out HV.out HR.out HG.out.1 HG.out.2).mono ?_
   rintro e w3 ⟨⟨g,rfl,hgl,hre⟩,hb⟩;have HRE:=hD hre;clear x0 hre;replace HB:=hD (bkeep2 HB.out hb);clear hb;go_wp2;go_ret;exact ⟨⟨_,rfl,.inr ⟨g,_,rfl,by rw [List.length_map,List.length_range],Nat.le_trans hsz hgl,HRE.out⟩,fun h0=>by rw [List.length_map,List.length_range] at h0;have:=(tree_len HT.out).1;rw [List.length_map] at this;have:=HK.out;omega⟩,HB.out⟩
theorem LayoutTree_v (A:Option Addr) (c k:Nat) (R:List Nr) (a b:Int) (w:World) (hk:k=R.length) (h:NrV w A R) (hr:RdR w R) (hL:R.length≤1048576) (hm:∀ p∈R,p.n.cs.length≤1048576∧p.n.rs.length≤1048576) :
  Calls Tryz.prog 14 #[.agg #[.slice A k c],.int .i64 a,.int .i64 b] w fun e w'=>(∃ x,e=.returned x∧GRB w.heap.size w' x (lyL (R.map Nr.n) a b))∧Below w.heap.size w w' :=
 (LayoutTree_x A c k R a b w hk h hr hL hm).mono fun e w' ⟨⟨x,h1,h2,_⟩,h3⟩=>⟨⟨x,h1,h2⟩,h3⟩
section
attribute [local go_sem 5000] run_mx run_mn run_eqlR run_neqR
set_option maxRecDepth 100000
end
section
attribute [local go_sem 5000] run_mx run_mn run_eqlR run_neqR
theorem room_g (u v:Int) (w:World):Calls Tryz.prog 17 #[.int .i64 u,.int .i64 v] w fun e w'=>e=.returned (.agg #[.int .i64 (0),.int .i64 (0),.int .i64 (u),.int .i64 (v)])∧Below w.heap.size w w':=by
 go_enter Tryz.func17,Tryz.ntmps17
 go_wp2
 exact bodyPost_ret (v:=.agg #[.int .i64 (0),.int .i64 (0),.int .i64 (u),.int .i64 (v)]) (by simp only [results,Tryz.results17];go_simp) rfl ⟨rfl,(by repeat (first | with_reducible exact Below.refl _ _ | with_reducible assumption | with_reducible refine balloc ?_|(with_reducible refine bset ?_ ?_;rotate_left;((try dsimp only);omega)) | refine bkeep2 ?_ (by assumption) | with_reducible refine Below.drew ?_))⟩
theorem equalRects_g (v v':Value) (M:List Re) (w:World) (h:ReR w v M) (h':ReR w v' M) (hM:M.length≤100) :
  Calls Tryz.prog 15 #[v,v'] w fun e w'=>e=.returned (.bool true)∧Below w.heap.size w w':=by
 obtain ⟨A,c,rfl,h⟩:=h;obtain ⟨B,c',rfl,h'⟩:=h'
 go_enter Tryz.func15,Tryz.ntmps15
 go_wp2_with fail
 go_loopw [5] (fun i wr=>∃ k:Nat,k≤M.length∧i=.int .i64 k∧Below w.heap.size w wr) (fun i _=>M.length-(intOf i).toNat)
 case atStart=>exact ⟨0,by omega,rfl,Below.refl _ _⟩
 case round =>
  obtain ⟨k,hk,rfl,hB⟩:=hrel
  by_cases hlt:k<M.length
  ·have hd:decide ((k:Int)<(M.length:Int))=true:=by simpa using hlt
   obtain ⟨b,off,rfl,hb,hp⟩:=(h.keep hB).cells (by omega);obtain ⟨b',off',rfl,hb',hp'⟩:=(h'.keep hB).cells (by omega);obtain ⟨c0,c1,c2,c3⟩:=hp k _ (List.getElem?_eq_getElem hlt);obtain ⟨d0,d1,d2,d3⟩:=hp' k _ (List.getElem?_eq_getElem hlt);generalize hx:M[k]=r at *;have he:eqR r.x r.y r.u r.v r.x r.y r.u r.v=true:=eqR_self;have HX:=hD hx;have HP:=hD hp;have HP':=hD hp';have HB:=hD hB;have HH:=hD h
   have HH':=hD h';clear hx hp hp' hB h h'
   go_wp2_with fail
   refine wp_region_grow 9 0 (·<9) (by kernel_rfl) (by kernel_rfl) rfl ?_
   iterate 9 (refine wpG_step (fun K hK=>?_);first|(refine grow_skip rfl ?_;go_simp;refine hK _ ?_;clear hK K)|(apply Exists.intro;refine ⟨.inl ⟨rfl,fun w' hw'=>?_⟩,?_⟩;(focus ((obtain ⟨hc,hf⟩:=bcell hw'.out);(have hcS:=bcellS hw'.out);go_simp <;> first | rfl|(fail)));(go_simp;refine hK _ ?_;clear hK K)))
   refine wpG_nil ?_;refine wpK_tail (by kernel_rfl) (fun w1 hg1=>?_);have hb1:=bdrewn hg1.out;refine wpAny_end (by kernel_rfl) ?_;refine NoPan.thn ?_;clear hg1;replace HB:=hD (HB.out.trans (hb1.mono HB.out.size));clear hb1 c0 c1 c2 c3 d0 d1 d2 d3;go_wp2
   go_roundw
   case rel=>exact ⟨k+1,by omega,by go_num,HB.out⟩
   case measure=>simp [intOf];omega
  ·have hd:decide ((k:Int)<(M.length:Int))=false:=by simp;omega
   have HB:=hD hB;clear hB;go_wp2;go_ret;exact ⟨rfl,HB.out⟩
end

theorem rer {w:World} {A:Option Addr} {c:Nat} {M:List Re} (h:ReV w A M):ReR w (.slice A M.length c) M:=⟨A,c,rfl,h⟩
theorem lay_facts {L:List Nd} {a b:Int} (h:0<(lyL L a b).length):(treeB L=true∧(0≤a∧a≤400)∧(0≤b∧b≤400))∧(lyL L a b).length=L.length∧(lyL L a b)[0]?=some ⟨0,0,a,b⟩∧(∀ (k:Nat) (S:Re),(lyL L a b)[k]?=some S→S=lrM L a b k)∧∀ (k:Nat) (S:Re),(lyL L a b)[k]?=some S→0≤S.u∧0≤S.v:=by
 unfold lyL at *
 split at h
 ·rename_i e
  rw [if_pos e];rw [Bool.and_eq_true] at e;obtain ⟨ht,hg⟩:=e;obtain ⟨hw,hh⟩:=rgG_yes hg;have hT:=trOK_of ht;rw [List.length_map,List.length_range] at h ⊢
  have he:∀ (k:Nat) (S:Re),((List.range L.length).map (lrM L a b))[k]?=some S→k<L.length∧S=lrM L a b k:=fun k S hk=>by
   rw [List.getElem?_map] at hk;obtain ⟨j,hj,rfl⟩:=Option.map_eq_some_iff.1 hk;have hl:=(List.getElem?_eq_some_iff.1 hj).1;rw [List.length_range] at hl;rw [List.getElem?_range hl] at hj;obtain rfl:=Option.some.inj hj;exact ⟨hl,rfl⟩
  refine ⟨⟨ht,hw,hh⟩,rfl,?_,fun k S hk=>(he k S hk).2,fun k S hk=>?_⟩
  ·rw [List.getElem?_map,List.getElem?_range h,Option.map_some,lrM_zero]
  ·obtain ⟨hl,rfl⟩:=he k S hk;obtain ⟨⟨⟨r1,_⟩,r2,_⟩,_⟩:=lrM_ok hT hw hh (k+1) k (by omega) hl;exact ⟨r1,r2⟩
 ·simp at h
def lrZ (L:List Nd) (w h:Int) (p:Nat):Rc:=⟨(lrM L w h p).x,(lrM L w h p).y,(lrM L w h p).u,(lrM L w h p).v⟩
theorem lrZ_okW {L:List Nd} (hT:TrOK L) {w h:Int} (hw:0≤w∧w≤400) (hh:0≤h∧h≤400) {p:Nat} (hp:p<L.length):(lrZ L w h p).okW:=by
 obtain ⟨⟨⟨a1,a2⟩,a3,a4⟩,⟨a5,a6⟩,a7,a8⟩:=lrM_ok hT hw hh (p+1) p (by omega) hp
 have:=hT.l10
 unfold Rc.okW lrZ
 dsimp only
 omega
theorem pack_kid {L:List Nd} (hT:TrOK L) {w h:Int} {p j k:Nat} {n:Nd} (hn:L[p]?=some n) (h1:n.ki≠1) (h2:n.ki≠2) (hk:(kidD L p)[j]?=some k) :
  ∃ q r,(pksF L (szM L) (kidD L p))[j]?=some q∧(parcM (pksF L (szM L) (kidD L p)) (lrZ L w h p)).1[j]?=some r∧lrM L w h k=rcRe (setP q r):=by
 have hj:=(List.getElem?_eq_some_iff.1 hk).1
 obtain ⟨q,hq⟩:∃ q,(kidR L p n (lrM L w h p))[j]?=some q:=⟨_,List.getElem?_eq_getElem (by rw [kidR_len];exact hj)⟩
 have e:=lrM_kid hT hn hk hq;rw [kidR_pk _ h1 h2,List.getElem?_map] at hq;obtain ⟨q',hq',rfl⟩:=Option.map_eq_some_iff.1 hq;obtain ⟨a,b,ha,hb,rfl⟩:=setL_mem hq';exact ⟨a,b,ha,hb,e⟩
def PW:List Int→List Int→Prop
 | [],[]=>True
 | x :: X,y :: Y=>x≤y∧PW X Y
 | _,_=>False
theorem PW.refl:∀ X:List Int,PW X X
 | []=>trivial
 | x :: X=>⟨Int.le_refl _,PW.refl X⟩
theorem PW.trans:∀ {X Y Z:List Int},PW X Y→PW Y Z→PW X Z
 | [],[],[],_,_=>trivial
 | x :: X,y :: Y,z :: Z,h,k=>⟨Int.le_trans h.1 k.1,PW.trans h.2 k.2⟩
 | [],y :: Y,_,h,_=>by simp [PW] at h
 | x :: X,[],_,h,_=>by simp [PW] at h
 | [],[],z :: Z,_,h=>by simp [PW] at h
 | x :: X,y :: Y,[],_,h=>by simp [PW] at h
theorem PW.sum:∀ {X Y:List Int},PW X Y→sumI X≤sumI Y
 | [],[],_=>Int.le_refl _
 | x :: X,y :: Y,h=>by have:=PW.sum h.2;have:=h.1;simp only [sumI];omega
 | [],y :: Y,h=>by simp [PW] at h
 | x :: X,[],h=>by simp [PW] at h
theorem PW.drop:∀ {X Y:List Int} (k:Nat),PW X Y→PW (X.drop k) (Y.drop k)
 | X,Y,0,h=>by simpa using h
 | [],[],k+1,h=>by simp [PW]
 | x :: X,y :: Y,k+1,h=>by simpa using PW.drop k h.2
 | [],y :: Y,k+1,h=>by simp [PW] at h
 | x :: X,[],k+1,h=>by simp [PW] at h
theorem PW.take:∀ {X Y:List Int} (k:Nat),PW X Y→PW (X.take k) (Y.take k)
 | X,Y,0,h=>by simp [PW]
 | [],[],k+1,h=>by simp [PW]
 | x :: X,y :: Y,k+1,h=>by simpa [PW] using ⟨h.1,PW.take k h.2⟩
 | [],y :: Y,k+1,h=>by simp [PW] at h
 | x :: X,[],k+1,h=>by simp [PW] at h
theorem PW.seg {X Y:List Int} (a m:Nat) (h:PW X Y):sumI (segI X a m)≤sumI (segI Y a m):=((h.drop a).take m).sum
theorem PW.append:∀ {X Y Z W:List Int},PW X Y→PW Z W→PW (X ++ Z) (Y ++ W)
 | [],[],_,_,_,k=>k
 | x :: X,y :: Y,_,_,h,k=>⟨h.1,PW.append h.2 k⟩
 | [],y :: Y,_,_,h,_=>by simp [PW] at h
 | x :: X,[],_,_,h,_=>by simp [PW] at h
theorem PW.addP:∀ {O P:List Int},(∀ x∈P,0≤x)→PW O (addP O P)
 | [],P,_=>by cases P <;> simp [Go.Proofs.YtfnpdlnepjhljaaGreat.addP,PW]
 | o :: O,[],_=>PW.refl _
 | o :: O,p :: P,h=>⟨by have:=h p List.mem_cons_self;omega,PW.addP (fun x hx=>h x (List.mem_cons_of_mem _ hx))⟩
theorem PW.addAt {O P:List Int} {k:Nat} (h:∀ x∈P,0≤x):PW O (addAt O k P):=by
 have:=PW.append (PW.refl (O.take k)) (PW.addP (O:=O.drop k) h)
 rwa [List.take_append_drop] at this
theorem addP_take:∀ (X P:List Int) (m:Nat),(addP X P).take m=addP (X.take m) (P.take m)
 | X,P,0=>by simp [addP]
 | [],P,m+1=>by cases P <;> simp [addP]
 | x :: X,[],m+1=>by simp [addP]
 | x :: X,p :: P,m+1=>by simp [addP,addP_take X P m]
theorem seg_addAt {O P:List Int} {a m:Nat} (hP:P.length=m) (h:a+m≤O.length):segI (addAt O a P) a m=addP (segI O a m) P:=by
 have hl:(O.take a).length=a:=by rw [List.length_take];omega
 unfold segI addAt;rw [List.drop_append,hl,Nat.sub_self,List.drop_of_length_le (by omega),List.drop_zero,List.nil_append,addP_take,List.take_of_length_le (by omega:P.length≤m)]
def fitV:List Pk→List Rc→Bool
 | p :: t,r :: s=>decide (p.w≤r.u)&&(decide (p.h≤r.v)&&fitV t s)
 | _,_=>true
theorem shareGo_roomW:∀ {L:List Pk} {d:Bool} {sh rm n:Int},(∀ p∈L,p.big)→1≤n→shareGo L d sh rm n≤mx (rm-reqD L d) 0
 | [],d,sh,rm,n,_,hn=>by
  rw [reqD_nil]
  have:=mn_spec sh (mx rm 0 / n)
  have:=part_le (x:=rm) hn
  simp only [shareGo,Int.sub_zero];omega
 | p :: r,d,sh,rm,n,hL,hn=>by
  have hr:∀ p∈r,p.big:=fun q hq=>hL q (List.mem_cons_of_mem _ hq)
  by_cases h:p.down=d
  ·rw [reqD_same h,shareGo,if_pos h]
   have:=shareGo_roomW (L:=r) (d:=d) (sh:=sh) (rm:=rm-p.need d) (n:=if p.ex then n+1 else n) hr (by split <;> omega)
   rwa [show rm-p.need d-reqD r d=rm-(reqD r d+p.need d) by omega] at this
  ·rw [reqD_other h,shareGo,if_neg h];have h1:=shareGo_roomW (L:=r) (d:=d) (sh:=mn sh (mx (rm-p.need d) 0 / n)) (rm:=rm) (n:=n) hr hn;have h2:=shareGo_le (L:=r) (d:=d) (sh:=mn sh (mx (rm-p.need d) 0 / n)) (rm:=rm) (n:=n)
   have:=mn_spec sh (mx (rm-p.need d) 0 / n)
   have:=part_le (x:=rm-p.need d) hn
   have:=mx_spec (reqD r d) (p.need d)
   have:=mx_spec (rm-p.need d) 0
   have:=mx_spec (rm-reqD r d) 0
   have:=mx_spec (rm-mx (reqD r d) (p.need d)) 0
   omega
theorem share_roomW {p:Pk} {t:List Pk} {rm:Int} (hL:∀ q∈p :: t,q.big) (hx:p.ex=true) (h0:0≤rm) :
  shareGo (p :: t) p.down rm rm 0≤rm∧shareGo (p :: t) p.down rm rm 0≤mx (rm-reqD (p :: t) p.down) 0:=by
 refine ⟨shareGo_le,?_⟩;rw [shareGo_same rfl hx,reqD_same rfl]
 have:=shareGo_roomW (L:=t) (d:=p.down) (sh:=rm) (rm:=rm-p.need p.down) (n:=0+1) (fun q hq=>hL q (List.mem_cons_of_mem _ hq)) (by omega)
 rwa [show rm-p.need p.down-reqD t p.down=rm-(reqD t p.down+p.need p.down) by omega] at this
theorem reqD_bdW {L:List Pk} (h:∀ p∈L,p.big) (d:Bool):0≤reqD L d∧reqD L d≤1000000000020*L.length:=by
 obtain ⟨a1,a2,a3,a4⟩:=reqM_bdW h
 unfold reqD;split <;> omega
theorem setP_fitW {p:Pk} {r:Rc} (h:p.big) :
  (p.need false≤r.u→p.w≤(setP p r).u)∧(p.need true≤r.v→p.h≤(setP p r).v):=by
 obtain ⟨h1,h2,_,h4,h5,h6⟩:=h;have e1:(setP p r).u=mn (wP p r) (mx (r.u-2*p.px) 0):=rfl;have e2:(setP p r).v=mn (hP p r) (mx (r.v-2*p.py) 0):=rfl
 have f1:wP p r=p.w∨wP p r=mx (r.u-2*p.px) 0:=by unfold wP;split;exact .inr rfl;exact .inl rfl
 have f2:hP p r=p.h∨hP p r=mx (r.v-2*p.py) 0:=by unfold hP;split;exact .inr rfl;exact .inl rfl
 have m1:=mn_spec (wP p r) (mx (r.u-2*p.px) 0);have m2:=mn_spec (hP p r) (mx (r.v-2*p.py) 0);have m3:=mx_spec (r.u-2*p.px) 0;have m4:=mx_spec (r.v-2*p.py) 0;rw [e1,e2];have n1:p.need false=p.w+2*p.px:=rfl;have n2:p.need true=p.h+2*p.py:=rfl;rw [n1,n2]
 refine ⟨fun _=>?_,fun _=>?_⟩ <;> omega
theorem fitV_cons {p:Pk} {t:List Pk} {r:Rc} {s:List Rc}:fitV (p :: t) (r :: s)=true↔p.w≤r.u∧p.h≤r.v∧fitV t s=true:=by
 simp [fitV]
theorem setL_consW {p:Pk} {t:List Pk} {r:Rc} {s:List Rc}:setL (p :: t) (r :: s)=setP p r :: setL t s:=rfl
theorem takeOf_geW {p:Pk} {t:List Pk} {z:Rc} (hL:∀ q∈p :: t,q.big) (hz:z.okW):p.need p.down≤takeOf p t z:=by
 have:=moreOf_bdW hL hz
 unfold takeOf;omega
theorem takeOf_leW {p:Pk} {t:List Pk} {z:Rc} (hL:∀ q∈p :: t,q.big) (hz:z.okW) (h:reqD (p :: t) p.down≤z.size p.down):takeOf p t z≤z.size p.down-reqD t p.down:=by
 have hs:=Rc.size_bdW hz p.down;have e:=reqD_same (p:=p) (t:=t) (d:=p.down) rfl;unfold takeOf;simp only [moreOf]
 cases hx:p.ex
 ·simp;omega
 ·have:=(share_roomW (rm:=z.size p.down) hL hx hs.1).2
  have m:=mx_spec (z.size p.down-reqD (p :: t) p.down) 0;simp only [if_true];omega
theorem cutP_sizeW {r:Rc} {s n:Int} (h0:0≤s) (h3:s≤3) (p:Pk) (hs:p.s=s) :
  (cutP r s n).1.size p.down=mn n (r.size p.down)∧(cutP r s n).2.size p.down=r.size p.down-mn n (r.size p.down)∧(cutP r s n).1.size (!p.down)=r.size (!p.down)∧(cutP r s n).2.size (!p.down)=r.size (!p.down):=by
 unfold cutP
 by_cases e0:s=0
 ·have hd:p.down=true:=by simp [Pk.down,hs,e0]
  rw [hd,if_pos e0];simp [Rc.size]
 ·by_cases e1:s=1
  ·have hd:p.down=true:=by simp [Pk.down,hs,e1]
   rw [hd,if_neg e0,if_pos e1];simp [Rc.size]
  ·have hd:p.down=false:=by simp [Pk.down,hs,e0,e1]
   rw [hd,if_neg e0,if_neg e1]
   split <;> simp [Rc.size]
theorem need_allW {p:Pk} {r:Rc} (h1:p.need p.down≤r.size p.down) (h2:p.need (!p.down)≤r.size (!p.down)):p.need false≤r.u∧p.need true≤r.v:=by
 cases hd:p.down <;> simp [hd,Rc.size] at h1 h2 <;> exact ⟨by assumption,by assumption⟩
theorem req_ofW (L:List Pk) (z:Rc) (d:Bool):(reqD L d≤z.size d∧reqD L (!d)≤z.size (!d))↔((reqM L).1≤z.u∧(reqM L).2≤z.v):=by
 cases d <;> simp [reqD,Rc.size] <;> exact And.comm
theorem fits_ifW:∀ {L:List Pk} {z:Rc},(∀ p∈L,p.big)→z.okW→(reqM L).1≤z.u→(reqM L).2≤z.v→fitV L (setL L (parcM L z).1)=true
 | [],z,_,_,_,_=>by simp [parcM,setL,fitV]
 | p :: t,z,hL,hz,h1,h2=>by
  have hp:=hL p List.mem_cons_self
  have ht:∀ q∈t,q.big:=fun q hq=>hL q (List.mem_cons_of_mem _ hq)
  obtain ⟨b1,b2⟩:=takeOf_bdW hL hz;obtain ⟨o1,o2⟩:=cutP_okW (s:=p.s) hz b1;have hs:=hp.2.2.1;obtain ⟨c1,c2,c3,c4⟩:=cutP_sizeW (r:=z) (n:=takeOf p t z) hs.1 hs.2 p rfl;obtain ⟨q1,q2⟩:=(req_ofW (p :: t) z p.down).2 ⟨h1,h2⟩;have g1:=takeOf_geW hL hz;have g2:=takeOf_leW hL hz q1;have e1:=reqD_same (p:=p) (t:=t) (d:=p.down) rfl
  have e2:reqD (p :: t) (!p.down)=mx (reqD t (!p.down)) (p.need (!p.down)):=reqD_other (by simp);have m:=mx_spec (reqD t (!p.down)) (p.need (!p.down));have mm:=mn_spec (takeOf p t z) (z.size p.down);have rb:=reqD_bdW ht p.down;simp only [parcM,setL_consW,fitV_cons];obtain ⟨n1,n2⟩:=need_allW (p:=p) (r:=(cutP z p.s (takeOf p t z)).1) (by omega) (by omega)
  obtain ⟨f1,f2⟩:=setP_fitW (r:=(cutP z p.s (takeOf p t z)).1) hp;refine ⟨f1 n1,f2 n2,?_⟩;have hh:=(req_ofW t (cutP z p.s (takeOf p t z)).2 p.down).1 ⟨by omega,by omega⟩;exact fits_ifW ht o2 hh.1 hh.2
theorem step_needW {n:Nat} {ws O:List Int} {s:Sp} (hw:wsOK ws) (hl:ws.length=n) (hO:O.length=n) (hs:spanW n s) :
  PW O (stepM ws O s)∧(stepM ws O s).length=n∧s.need≤sumI (segI (stepM ws O s) s.sa.toNat s.many.toNat):=by
 obtain ⟨a,m,e1,e2,h1,h2,h3,h4⟩:=hs;unfold stepM;rw [e1,e2];simp only [Int.toNat_natCast];have hseg:=seg_ok hw h1 (by rw [hl];exact h2);have hx:=mx_spec (s.need-sumI (segI O a m)) 0
 have hn:0≤mx (s.need-sumI (segI O a m)) 0:=by omega
 have hnn:=spread_nn hn hseg
 have hlen:(spreadM (mx (s.need-sumI (segI O a m)) 0) (segI ws a m)).length=m:=by rw [spreadM_len,segI_len (by omega)]
 refine ⟨PW.addAt hnn,by rw [addAt_len,hO],?_⟩;rw [seg_addAt hlen (by omega),sum_addP (by rw [hlen,segI_len (by omega)];exact Nat.le_refl _),spread_sum hn hseg];omega
theorem round_geW {n:Nat} {ws:List Int} {m:Int} (hw:wsOK ws) (hl:ws.length=n):∀ {S:List Sp} {O:List Int},(∀ s∈S,spanW n s)→O.length=n →
  PW O (roundM ws m S O)∧(roundM ws m S O).length=n∧∀ s∈S,s.many=m→s.need≤sumI (segI (roundM ws m S O) s.sa.toNat s.many.toNat)
 | [],O,_,hO=>⟨PW.refl _,hO,fun s hs=>by simp at hs⟩
 | t :: S,O,hs,hO=>by
  have hst:=step_needW hw hl hO (hs t List.mem_cons_self);have e:roundM ws m (t :: S) O=roundM ws m S (if t.many=m then stepM ws O t else O):=rfl;rw [e]
  have hO':(if t.many=m then stepM ws O t else O).length=n:=by split;exact hst.2.1;exact hO
  have hPW:PW O (if t.many=m then stepM ws O t else O):=by split;exact hst.1;exact PW.refl _
  obtain ⟨h1,h2,h3⟩:=round_geW (S:=S) (m:=m) hw hl (fun s hh=>hs s (List.mem_cons_of_mem _ hh)) hO';refine ⟨hPW.trans h1,h2,fun s hh hm=>?_⟩
  rcases List.mem_cons.1 hh with rfl | hh
  ·rw [if_pos hm] at h1 ⊢;exact Int.le_trans hst.2.2 (h1.seg _ _)
  ·exact h3 s hh hm
theorem req_geW {n:Nat} {ws:List Int} {S:List Sp} {O:List Int} (hw:wsOK ws) (hl:ws.length=n) (hs:∀ s∈S,spanW n s) (hO:O.length=n):∀ i:Nat,
  (reqN ws S O i).length=n∧PW O (reqN ws S O i)∧∀ s∈S,s.many≤i→s.need≤sumI (segI (reqN ws S O i) s.sa.toNat s.many.toNat)
 | 0=>⟨hO,PW.refl _,fun s hh hm=>by
   obtain ⟨a,m,e1,e2,h1,_⟩:=hs s hh
   omega⟩
 | i+1=>by
  obtain ⟨h1,h2,h3⟩:=req_geW hw hl hs hO i;obtain ⟨k1,k2,k3⟩:=round_geW (m:=(i:Int)+1) hw hl hs h1;refine ⟨k2,h2.trans k1,fun s hh hm=>?_⟩
  by_cases h:s.many=(i:Int)+1
  ·exact k3 s hh h
  ·exact Int.le_trans (h3 s hh (by omega)) (k1.seg _ _)
theorem wish_needW {L:List Ln} {S:List Sp} (hL:linesB L=true) (hS:spansW L.length S):∀ s∈S,s.need≤sumI (segI (wishM L S) s.sa.toNat s.many.toNat):=fun s hs=>by
 obtain ⟨-,hW⟩:=min_bd hL;obtain ⟨-,hss⟩:=hS;obtain ⟨a,m,e1,e2,h1,h2,-⟩:=hss s hs;exact (req_geW (O:=L.map Ln.mi) hW (by simp) hss (by simp) L.length).2.2 s hs (by omega)
theorem sized_geW {L:List Ln} {S:List Sp} {room:Int} (hL:linesB L=true) (hS:spansW L.length S) (hr:sumI (wishM L S)≤room):PW (wishM L S) (sizedM L S room)∧sumI (sizedM L S room)≤room:=by
 unfold sizedM;rw [if_neg (by omega)]
 split
 ·exact ⟨PW.refl _,hr⟩
 ·obtain ⟨hO,hW⟩:=min_bd hL
  have hn:0≤room-sumI (wishM L S):=by omega
  have hlen:(spreadM (room-sumI (wishM L S)) (L.map Ln.wt)).length=L.length:=by rw [spreadM_len,List.length_map]
  refine ⟨PW.addAt (spread_nn hn hW),?_⟩;rw [sum_addAt (by have:=(wish_okW hL hS).2.1;omega),spread_sum hn hW];omega
theorem cells_fitW {L1 L2:List Ln} {L3:List Ce} {u v:Int} (gf:GW L1 L2 L3) (hu:0≤u∧u≤20000000000000) (hv:0≤v∧v≤20000000000000) (h1:(gridM L1 L2 L3).1≤u) (h2:(gridM L1 L2 L3).2≤v):∀ p∈L3,
  p.cw≤(cellR (sizedM L1 (L3.map acM) u) (sizedM L2 (L3.map dnM) v) p).u∧p.ch≤(cellR (sizedM L1 (L3.map acM) u) (sizedM L2 (L3.map dnM) v) p).v:=fun p hp=>by
 obtain ⟨g1,g2⟩:=sized_geW gf.v1 gf.s1 h1;obtain ⟨g3,g4⟩:=sized_geW gf.v2 gf.s2 h2;have z1:=SzB.of gf.v1 gf.s1 hu.1 hu.2;have z2:=SzB.of gf.v2 gf.s2 hv.1 hv.2;have hci:=cell_in z1.1 z2.1 (gf.hsm p hp);have n1:=wish_needW gf.v1 gf.s1 (acM p) (List.mem_map_of_mem hp);have n2:=wish_needW gf.v2 gf.s2 (dnM p) (List.mem_map_of_mem hp);have s1:=PW.seg p.co.toNat p.mc.toNat g1
 have s2:=PW.seg p.ro.toNat p.mr.toNat g3;simp only [areaR,acM,dnM] at hci n1 n2;omega
theorem fitV_get:∀ {L:List Pk} {M:List Rc} {j:Nat} {p:Pk} {r:Rc},fitV L M=true→L[j]?=some p→M[j]?=some r→p.w≤r.u∧p.h≤r.v
 | [],_,j,p,r,_,hp,_=>by simp at hp
 | q :: t,[],j,p,r,_,_,hr=>by simp at hr
 | q :: t,s :: m,0,p,r,h,hp,hr=>by
  simp at hp hr
  subst hp hr;obtain ⟨h1,h2,_⟩:=fitV_cons.1 h;exact ⟨h1,h2⟩
 | q :: t,s :: m,j+1,p,r,h,hp,hr=>by
  simp only [List.getElem?_cons_succ] at hp hr;exact fitV_get (fitV_cons.1 h).2.2 hp hr
theorem kid_fits {L:List Nd} (hT:TrOK L) {w h:Int} (hw:0≤w∧w≤400) (hh:0≤h∧h≤400) {n:Nd} (hn:L[0]?=some n) (hke:n.ke=false) (hki:n.ki=0∨n.ki=1) (h1:(szM L 0).1≤w) (h2:(szM L 0).2≤h) {j k:Nat} (hk:(kidD L 0)[j]?=some k) :
  (szM L k).1≤(lrM L w h k).u∧(szM L k).2≤(lrM L w h k).v:=by
 have hne:kidD L 0≠[]:=fun e=>by rw [e] at hk;simp at hk
 obtain ⟨m,hm⟩:∃ m,L[k]?=some m:=⟨_,List.getElem?_eq_getElem (kidD_lt (List.mem_of_getElem? hk))⟩
 have hks:∀ k∈kidD L 0,k<L.length:=fun k hk=>kidD_lt hk
 rw [szM_eq hT hn] at h1 h2
 rcases hki with e | e
 ·rw [askN_pk rfl hke hne e] at h1 h2;obtain ⟨q,r,hq,hr,er⟩:=pack_kid hT (w:=w) (h:=h) hn (by omega) (by omega) hk;have ok:=lrZ_okW hT hw hh (p:=0) (List.getElem?_eq_some_iff.1 hn).1;have hb:=(bg_of hT 0).1;have hf:=fits_ifW hb ok (by show _≤(lrM L w h 0).u;rw [lrM_zero];exact h1) (by show _≤(lrM L w h 0).v;rw [lrM_zero];exact h2)
  have hset:(setL (pksF L (szM L) (kidD L 0)) (parcM (pksF L (szM L) (kidD L 0)) (lrZ L w h 0)).1)[j]?=some (setP q r):=by
   unfold setL;rw [List.getElem?_zipWith,hq,hr]
  obtain ⟨f1,f2⟩:=fitV_get hf hq hset
  have hqk:q=pkOf m (szM L k):=by
   have:=fm_get (kid_some hks fun k m=>pkOf m (szM L k)) j
   unfold pksF at hq;rw [this,hk] at hq;simp only [Option.bind_some,hm,Option.map_some,Option.some.injEq] at hq;exact hq.symm
  rw [er];rw [hqk] at f1 f2;subst hqk;exact ⟨f1,f2⟩
 ·rw [askN_gr rfl hke hne e] at h1 h2;have hj:=(List.getElem?_eq_some_iff.1 hk).1
  obtain ⟨q,hq⟩:∃ q,(kidR L 0 n (lrM L w h 0))[j]?=some q:=⟨_,List.getElem?_eq_getElem (by rw [kidR_len];exact hj)⟩
  rw [lrM_kid hT hn hk hq];rw [kidR_gr _ e,List.getElem?_map] at hq;obtain ⟨c,hc,rfl⟩:=Option.map_eq_some_iff.1 hq
  have hck:c=ceOf m (szM L k):=by
   have:=fm_get (kid_some hks fun k m=>ceOf m (szM L k)) j
   unfold cesF at hc;rw [this,hk] at hc;simp only [Option.bind_some,hm,Option.map_some,Option.some.injEq] at hc;exact hc.symm
  rw [lrM_zero];obtain ⟨f1,f2⟩:=cells_fitW (gw_of hT hn e) (u:=w) (v:=h) (by omega) (by omega) h1 h2 c (List.mem_of_getElem? hc);subst hck;exact ⟨f1,f2⟩
end Go.Proofs.YtfnpdlnepjhljaaGreat
