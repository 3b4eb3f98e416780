import Derived.Test.YtenckjdiggaonaaGreatQc35
set_option linter.unusedVariables false
set_option linter.unusedSimpArgs false
set_option maxRecDepth 100000
set_option maxHeartbeats 16000000
namespace Go.Proofs.YtenckjdiggaonaaGreat
open Go.RowKit
attribute [local go_sem] growUpon_value growUpon_skip growUpon_enter
section
def rgG (u v:Int):Bool:=rng u 0 400 && rng v 0 400
theorem rgG_yes {u v:Int} (h:rgG u v=true):(0≤u∧u≤400)∧(0≤v∧v≤400):=by simpa only [rgG,Bool.and_eq_true,rng_iff] using h
theorem validRoom_g (u v:Int) (w:World):Calls Tryz.prog 47 #[.int .i64 u,.int .i64 v] w fun e w'=>e=.returned (.bool (rgG u v))∧w=w':=by
 unfold rgG
 cases h1:rng u 0 400
 ·go_enter Tryz.func47,Tryz.ntmps47
  go_wp2_with fail
  with_reducible refine (within_any _ _ _ _).mono ?_
  rintro e w2 ⟨rfl,rfl⟩;go_wp2;go_ret;exact ⟨by simp,rfl⟩
 ·go_enter Tryz.func47,Tryz.ntmps47
  go_wp2_with fail
  with_reducible refine (within_any _ _ _ _).mono ?_
  rintro e w2 ⟨rfl,rfl⟩
  go_wp2_with fail
  with_reducible refine (within_any _ _ _ _).mono ?_
  rintro e w2 ⟨rfl,rfl⟩;go_wp2;go_ret;exact ⟨by simp,rfl⟩
theorem goodRoom_g (u v:Int) (w:World):Calls Tryz.prog 43 #[.int .i64 u,.int .i64 v] w fun e w'=>e=.returned (.bool (rgG u v))∧w=w':=by
 unfold rgG
 cases h1:rng u 0 400
 ·go_enter Tryz.func43,Tryz.ntmps43
  go_wp2_with fail
  with_reducible refine (inRange_any _ _ _ _).mono ?_
  rintro e w2 ⟨rfl,rfl⟩;go_wp2;go_ret;exact ⟨by simp,rfl⟩
 ·go_enter Tryz.func43,Tryz.ntmps43
  go_wp2_with fail
  with_reducible refine (inRange_any _ _ _ _).mono ?_
  rintro e w2 ⟨rfl,rfl⟩
  go_wp2_with fail
  with_reducible refine (inRange_any _ _ _ _).mono ?_
  rintro e w2 ⟨rfl,rfl⟩;go_wp2;go_ret;exact ⟨by simp,rfl⟩
def lyL (L:List Nd) (a b:Int):List Re:=if (treeB L && rgG a b)=true then (List.range L.length).map (lrM L a b) else []
theorem lyL_len (L:List Nd) (a b:Int):(lyL L a b).length≤10:=by
 unfold lyL
 split
 ·rename_i h
  rw [Bool.and_eq_true] at h;rw [List.length_map,List.length_range];exact (tree_len h.1).2
 ·exact Nat.zero_le _
theorem GRB.mono {lo lo':Nat} {w:World} {x:Value} {M:List Re} (h:GRB lo w x M) (hl:lo'≤lo):GRB lo' w x M:=h.imp id fun ⟨g,n,h1,h2,h3,hk⟩=>⟨g,n,h1,h2,Nat.le_trans hl h3,hk⟩
theorem LayoutTree_x (A:Option Addr) (c k:Nat) (R:List Nr) (a b:Int) (w:World) (hk:k=R.length) (h:NrV w A R) (hr:RdR w R) (hL:R.length≤1048576) (hm:∀ p ∈ R,p.n.cs.length≤1048576∧p.n.rs.length≤1048576) :
  Calls Tryz.prog 15 #[.agg #[.slice A k c],.int .i64 a,.int .i64 b] w fun e w'=>(∃ x,e=.returned x∧GRB w.heap.size w' x (lyL (R.map Nr.n) a b)∧((lyL (R.map Nr.n) a b).length=0→x=.slice none 0 0))∧Below w.heap.size w w':=by
 have hB0:Below w.heap.size w (w.alloc (.cells #[.slice A k c] 30 (0,0))):=balloc (Below.refl _ _);have HX:=hD (newS w (.cells #[.slice A k c] 30 (0,0)));have HB:=hD hB0;have HV:=hD (h.keep hB0);have HR:=hD (hr.keep hB0);have HM:=hD hm;have HK:=hD hk;have x0:=cellS HX.out 0;clear hB0 h hr hm hk
 cases ht:treeB (R.map Nr.n)
 ·rw [show lyL (R.map Nr.n) a b=[] by simp [lyL,ht]];have HT:=hD ht;clear ht
  go_enter Tryz.func15,Tryz.ntmps15
  go_wp2_with fail
  with_reducible refine (ValidTree_n A c k R false _ HK.out HV.out HR.out hL HM.out HT.out).mono ?_
  rintro e w1 ⟨rfl,hb⟩;clear x0;replace HX:=hbk hb HX;replace HB:=hD (bkeep2 HB.out hb);clear hb;have x0:=cellS HX.out 0;go_wp2;go_ret;exact ⟨⟨_,rfl,.inl ⟨rfl,rfl⟩,fun _=>rfl⟩,HB.out⟩
 ·cases hg:rgG a b
  ·rw [show lyL (R.map Nr.n) a b=[] by simp [lyL,hg]];have HT:=hD ht;clear ht
   go_enter Tryz.func15,Tryz.ntmps15
   go_wp2_with fail
   with_reducible refine (ValidTree_n A c k R true _ HK.out HV.out HR.out hL HM.out HT.out).mono ?_
   rintro e w1 ⟨rfl,hb⟩;clear x0;replace HX:=hbk hb HX;replace HB:=hD (bkeep2 HB.out hb);clear hb;have x0:=cellS HX.out 0
   go_wp2_with fail
   with_reducible refine (validRoom_g a b _).mono ?_
   rintro e w2 ⟨rfl,rfl⟩;rw [hg];clear hg;go_wp2;go_ret;exact ⟨⟨_,rfl,.inl ⟨rfl,rfl⟩,fun _=>rfl⟩,HB.out⟩
  ·rw [show lyL (R.map Nr.n) a b=(List.range k).map (lrM (R.map Nr.n) a b) by simp [lyL,ht,hg,HK.out]];have HT:=hD ht;have HG:=hD (rgG_yes hg);clear ht
   go_enter Tryz.func15,Tryz.ntmps15
   go_wp2_with fail
   with_reducible refine (ValidTree_n A c k R true _ HK.out HV.out HR.out hL HM.out HT.out).mono ?_
   rintro e w1 ⟨rfl,hb⟩;clear x0;replace HX:=hbk hb HX;replace HV:=hD (HV.out.keep hb);replace HR:=hD (HR.out.keep hb);replace HB:=hD (bkeep2 HB.out hb);clear hb;have x0:=cellS HX.out 0
   go_wp2_with fail
   with_reducible refine (validRoom_g a b _).mono ?_
   rintro e w2 ⟨rfl,rfl⟩;rw [hg];clear hg;have hsz:=HB.out.size
   go_wp2_with fail
   with_reducible refine (layout_v A c k R a b _ (trOK_of HT.out) HK.out HV.out HR.out HG.out.1 HG.out.2).mono ?_
   rintro e w3 ⟨⟨g,rfl,hgl,hre⟩,hb⟩;have HRE:=hD hre;clear x0 hre;replace HB:=hD (bkeep2 HB.out hb);clear hb;go_wp2;go_ret;exact ⟨⟨_,rfl,.inr ⟨g,_,rfl,by rw [List.length_map,List.length_range],Nat.le_trans hsz hgl,HRE.out⟩,fun h0=>by rw [List.length_map,List.length_range] at h0;have:=(tree_len HT.out).1;rw [List.length_map] at this;have:=HK.out;omega⟩,HB.out⟩
theorem LayoutTree_v (A:Option Addr) (c k:Nat) (R:List Nr) (a b:Int) (w:World) (hk:k=R.length) (h:NrV w A R) (hr:RdR w R) (hL:R.length≤1048576) (hm:∀ p ∈ R,p.n.cs.length≤1048576∧p.n.rs.length≤1048576) :
  Calls Tryz.prog 15 #[.agg #[.slice A k c],.int .i64 a,.int .i64 b] w fun e w'=>(∃ x,e=.returned x∧GRB w.heap.size w' x (lyL (R.map Nr.n) a b))∧Below w.heap.size w w' :=
 (LayoutTree_x A c k R a b w hk h hr hL hm).mono fun e w' ⟨⟨x,h1,h2,_⟩,h3⟩=>⟨⟨x,h1,h2⟩,h3⟩
end
section
attribute [local go_sem 5000] run_mx run_mn run_eqlR run_neqR
set_option maxRecDepth 100000
def Smw (a b c d:Int):Prop:=(-8000000000000000≤a∧a≤8000000000000000)∧(-8000000000000000≤b∧b≤8000000000000000)∧(-8000000000000000≤c∧c≤8000000000000000)∧(-8000000000000000≤d∧d≤8000000000000000)
theorem Smw_of {a b c d:Int} (h:(-8000000000000000≤a∧a≤8000000000000000)∧(-8000000000000000≤b∧b≤8000000000000000)∧(-8000000000000000≤c∧c≤8000000000000000)∧(-8000000000000000≤d∧d≤8000000000000000)):Smw a b c d:=h
theorem Smw.out {a b c d:Int} (h:Smw a b c d):(-8000000000000000≤a∧a≤8000000000000000)∧(-8000000000000000≤b∧b≤8000000000000000)∧(-8000000000000000≤c∧c≤8000000000000000)∧(-8000000000000000≤d∧d≤8000000000000000):=h
def Lw (x y u v:Int):Prop:=0≤u∧u≤1000000000000000∧0≤v∧v≤1000000000000000∧-1000000000000000≤x∧x≤1000000000000000∧-1000000000000000≤y∧y≤1000000000000000
theorem Lw.out {x y u v:Int} (h:Lw x y u v):0≤u∧u≤1000000000000000∧0≤v∧v≤1000000000000000∧-1000000000000000≤x∧x≤1000000000000000∧-1000000000000000≤y∧y≤1000000000000000:=h
theorem Smw_lw {x y u v:Int} (h:Lw x y u v):Smw x y u v:=by unfold Lw at h;apply Smw_of;omega
theorem cover_bdl {x y u v x' y' u' v':Int} (h1:Lw x y u v) (h2:Lw x' y' u' v'):-1000000000000000≤mn x x'∧mn x x'≤1000000000000000∧-1000000000000000≤mn y y'∧mn y y'≤1000000000000000∧-2000000000000000≤mx (x+u) (x'+u')∧mx (x+u) (x'+u')≤2000000000000000∧-2000000000000000≤mx (y+v) (y'+v')∧mx (y+v) (y'+v')≤2000000000000000:=by
 have:=mn_spec x x';have:=mn_spec y y';have:=mx_spec (x+u) (x'+u');have:=mx_spec (y+v) (y'+v')
 unfold Lw at h1 h2;omega
theorem holds_eql {x y u v x' y' u' v':Int} (h1:Lw x y u v) (h2:Lw x' y' u' v') :
  (mn x x'=x∧mn y y'=y∧mx (x+u) (x'+u') - mn x x'=u∧mx (y+v) (y'+v') - mn y y'=v) ↔ (x≤x'∧y≤y'∧x'+u'≤x+u∧y'+v'≤y+v):=by
 have:=mn_spec x x';have:=mn_spec y y';have:=mx_spec (x+u) (x'+u');have:=mx_spec (y+v) (y'+v')
 omega
theorem right_l (x y u v:Int) (w:World) (hS:Smw x y u v):Calls Tryz.prog 102 #[.agg #[.int .i64 (x),.int .i64 (y),.int .i64 (u),.int .i64 (v)]] w fun e w'=>e=.returned (.int .i64 (x+u))∧Below w.heap.size w w':=by
 obtain ⟨⟨s1,s2⟩,⟨s3,s4⟩,⟨s5,s6⟩,⟨s7,s8⟩⟩:=hS.out;clear hS
 go_enter Tryz.func102,Tryz.ntmps102
 go_wp2
 all_goals try go_quiet (fail)
 all_goals try go_wp2
 go_ret;exact ⟨rfl,((Below.refl _ _).alloc (Nat.le_refl _) _)⟩
theorem bottom_l (x y u v:Int) (w:World) (hS:Smw x y u v):Calls Tryz.prog 103 #[.agg #[.int .i64 (x),.int .i64 (y),.int .i64 (u),.int .i64 (v)]] w fun e w'=>e=.returned (.int .i64 (y+v))∧Below w.heap.size w w':=by
 obtain ⟨⟨s1,s2⟩,⟨s3,s4⟩,⟨s5,s6⟩,⟨s7,s8⟩⟩:=hS.out;clear hS
 go_enter Tryz.func103,Tryz.ntmps103
 go_wp2
 all_goals try go_quiet (fail)
 all_goals try go_wp2
 go_ret;exact ⟨rfl,((Below.refl _ _).alloc (Nat.le_refl _) _)⟩
theorem corners_l (l t r b:Int) (w:World) (hS:Smw l t r b) :
  Calls Tryz.prog 147 #[.int .i64 l,.int .i64 t,.int .i64 r,.int .i64 b] w fun e w'=>e=.returned (.agg #[.int .i64 (l),.int .i64 (t),.int .i64 (r - l),.int .i64 (b - t)])∧Below w.heap.size w w':=by
 obtain ⟨⟨s1,s2⟩,⟨s3,s4⟩,⟨s5,s6⟩,⟨s7,s8⟩⟩:=hS.out;clear hS
 go_enter Tryz.func147,Tryz.ntmps147
 go_wp2;exact bodyPost_ret (v:=.agg #[.int .i64 (l),.int .i64 (t),.int .i64 (r - l),.int .i64 (b - t)]) (by simp [results,Tryz.results147,go_sem]) rfl ⟨rfl,(Below.refl _ _).alloc (Nat.le_refl _) _⟩
theorem cover_l (x y u v x' y' u' v':Int) (w:World) (h1:Lw x y u v) (h2:Lw x' y' u' v') :
  Calls Tryz.prog 149 #[.agg #[.int .i64 (x),.int .i64 (y),.int .i64 (u),.int .i64 (v)],.agg #[.int .i64 (x'),.int .i64 (y'),.int .i64 (u'),.int .i64 (v')]] w fun e w'=>e=.returned (.agg #[.int .i64 (mn x x'),.int .i64 (mn y y'),.int .i64 (mx (x+u) (x'+u') - mn x x'),.int .i64 (mx (y+v) (y'+v') - mn y y')])∧Below w.heap.size w w':=by
 obtain ⟨m1,m2,m3,m4,m5,m6,m7,m8⟩:=cover_bdl h1 h2;have S1:=Smw_lw h1;have S2:=Smw_lw h2;have S3:Smw (mn x x') (mn y y') (mx (x+u) (x'+u')) (mx (y+v) (y'+v')):=Smw_of (by omega);clear m1 m2 m3 m4 m5 m6 m7 m8 h1 h2
 go_enter Tryz.func149,Tryz.ntmps149
 go_wp2_with fail
 refine wp_region_grow 21 1 (·<21) (by kernel_rfl) (by kernel_rfl) rfl ?_
 iterate 21 (refine wpG_step (fun K hK=>?_);apply Exists.intro;refine ⟨.inl ⟨rfl,fun w' hw'=>?_⟩,?_⟩;(focus ((obtain ⟨hc,hf⟩:=bcell hw'.out);(have hcS:=bcellS hw'.out);go_simp <;> first | rfl | (go_at_call 102;exact right_l _ _ _ _ _ (by assumption)) | (go_at_call 103;exact bottom_l _ _ _ _ _ (by assumption)) | (go_at_call 147;exact corners_l _ _ _ _ _ (by assumption))));(go_simp;refine hK _ ?_;clear hK K))
 refine wpG_nil ?_;refine wpK_tail (by kernel_rfl) (fun wt1 ht1=>?_);obtain ⟨hct1,hft1⟩:=bcell ht1.out;refine wpAny_one (i:=21) (by kernel_rfl) rfl rfl ?_;go_simp;refine wpAny_end (by kernel_rfl) ?_;refine NoPan.thn ?_;go_wp2
 exact bodyPost_ret (v:=.agg #[.int .i64 (mn x x'),.int .i64 (mn y y'),.int .i64 (mx (x+u) (x'+u') - mn x x'),.int .i64 (mx (y+v) (y'+v') - mn y y')]) (by simp only [results,Tryz.results149];go_simp) rfl ⟨rfl,(by repeat (first | with_reducible exact Below.refl _ _ | with_reducible assumption | with_reducible refine balloc ?_ | (with_reducible refine bset ?_ ?_;rotate_left;((try dsimp only);omega)) | refine bkeep2 ?_ (by assumption) | with_reducible refine Below.drew ?_))⟩
theorem holds_l (x y u v x' y' u' v':Int) (w:World) (h1:Lw x y u v) (h2:Lw x' y' u' v') :
  Calls Tryz.prog 105 #[.agg #[.int .i64 (x),.int .i64 (y),.int .i64 (u),.int .i64 (v)],.agg #[.int .i64 (x'),.int .i64 (y'),.int .i64 (u'),.int .i64 (v')]] w fun e w'=>e=.returned (.bool (insB x y u v x' y' u' v'))∧Below w.heap.size w w':=by
 go_enter Tryz.func105,Tryz.ntmps105
 go_wp2_with fail
 refine wp_region_grow 5 1 (·<5) (by kernel_rfl) (by kernel_rfl) rfl ?_
 iterate 5 (refine wpG_step (fun K hK=>?_);apply Exists.intro;refine ⟨.inl ⟨rfl,fun w' hw'=>?_⟩,?_⟩;(focus ((obtain ⟨hc,hf⟩:=bcell hw'.out);(have hcS:=bcellS hw'.out);go_simp <;> first | rfl | (go_at_call 149;exact cover_l _ _ _ _ _ _ _ _ _ h1 h2)));(go_simp;refine hK _ ?_;clear hK K))
 refine wpG_nil ?_;refine wpK_tail (by kernel_rfl) (fun wt1 ht1=>?_);obtain ⟨hct1,hft1⟩:=bcell ht1.out;refine wpAny_one (i:=5) (by kernel_rfl) rfl rfl ?_;go_simp;refine wpAny_end (by kernel_rfl) ?_;refine NoPan.thn ?_;go_wp2;go_ret
 exact ⟨ret_bool (by rw [Bool.eq_iff_iff,eqR_iff,insB_iff];exact holds_eql h1 h2),(by repeat (first | with_reducible exact Below.refl _ _ | with_reducible assumption | with_reducible refine balloc ?_ | (with_reducible refine bset ?_ ?_;rotate_left;((try dsimp only);omega)) | refine bkeep2 ?_ (by assumption) | with_reducible refine Below.drew ?_))⟩
theorem sinside_l (x y u v x' y' u' v':Int) (t:Bool) (w:World) (h1:Lw x y u v) (h2:Lw x' y' u' v') (ht:insB x y u v x' y' u' v'=t):Calls Tryz.prog 68 #[.agg #[.int .i64 (x),.int .i64 (y),.int .i64 (u),.int .i64 (v)],.agg #[.int .i64 (x'),.int .i64 (y'),.int .i64 (u'),.int .i64 (v')]] w fun e w'=>e=.returned (.bool t)∧Below w.heap.size w w':=by
 subst ht;obtain ⟨a1,a2,a3,a4,a5,a6,a7,a8⟩:=h1.out;obtain ⟨b1,b2,b3,b4,b5,b6,b7,b8⟩:=h2.out
 by_cases g1:x≤x' <;> by_cases g2:y≤y' <;> by_cases g3:x'+u'≤x+u <;> by_cases g4:y'+v'≤y+v
 all_goals
  go_enter Tryz.func68,Tryz.ntmps68
  go_wp2;go_ret
  exact ⟨ret_bool (by (first | (refine Eq.symm (insB_not.2 ?_);omega) | (refine Eq.symm (insB_iff.2 ?_);omega) | (rw [Bool.eq_iff_iff,insB_iff];simp only [decide_eq_true_eq];omega))),(by repeat (first | with_reducible exact Below.refl _ _ | with_reducible assumption | with_reducible refine balloc ?_ | (with_reducible refine bset ?_ ?_;rotate_left;((try dsimp only);omega)) | refine bkeep2 ?_ (by assumption) | with_reducible refine Below.drew ?_))⟩
end
section
def rcN (M:List Re) (i:Nat):Re:=(M[i]?).getD ⟨0,0,0,0⟩
def paX (L:List Nd) (i:Nat):Nat:=(((L[i]?).map Nd.pa).getD 0).toNat
theorem rcN_at {M:List Re} {i:Nat} {S:Re} (h:M[i]?=some S):rcN M i=S:=by unfold rcN;rw [h];rfl
theorem paX_at {L:List Nd} {i p:Nat} {n:Nd} (h:L[i]?=some n) (hp:n.pa=(p:Int)):paX L i=p:=by unfold paX;rw [h];simp [hp]
theorem GRB.sl {lo:Nat} {w:World} {x:Value} {M:List Re} (h:GRB lo w x M):∃ A1,x=.slice A1 M.length M.length∧(0<M.length→∃ g,A1=some ⟨g,0,none⟩∧lo≤g∧ReB w g M):=by
 rcases h with ⟨rfl,rfl⟩ | ⟨g,n,rfl,rfl,hg,hk⟩
 ·exact ⟨none,rfl,fun h=>absurd h (by simp)⟩
 ·exact ⟨_,rfl,fun _=>⟨g,rfl,hg,hk⟩⟩
theorem reB_cells {w:World} {g i:Nat} {M:List Re} {S:Re} (h:ReB w g M) (hi:M[i]?=some S):w.cell? ⟨g,i*4,none⟩=some (.int .i64 S.x)∧w.cell? ⟨g,i*4+1,none⟩=some (.int .i64 S.y)∧w.cell? ⟨g,i*4+2,none⟩=some (.int .i64 S.u)∧w.cell? ⟨g,i*4+3,none⟩=some (.int .i64 S.v):=by
 obtain ⟨cs,hh,hs,hc⟩:=h;have h:=hc i S hi;exact ⟨(cellS hh _).trans (by simpa using h 0 _ rfl),(cellS hh _).trans (h 1 _ rfl),(cellS hh _).trans (h 2 _ rfl),(cellS hh _).trans (h 3 _ rfl)⟩
theorem lyL_ok {L:List Nd} {a b:Int} (h:0<(lyL L a b).length):TrOK L∧(lyL L a b).length=L.length∧∀ S ∈ lyL L a b,Lw S.x S.y S.u S.v:=by
 unfold lyL at *
 split at h
 ·rename_i e
  rw [if_pos e];rw [Bool.and_eq_true] at e;have hT:=trOK_of e.1;refine ⟨hT,by simp,fun S hS=>?_⟩;obtain ⟨k,hk,rfl⟩:=List.mem_map.1 hS;obtain ⟨q,hx,hy⟩:=lrM_room hT (rgG_yes e.2).1 (rgG_yes e.2).2 (List.mem_range.1 hk);obtain ⟨q1,q2⟩:=rqW_iff.1 q;unfold Lw;omega
 ·simp at h
def inR (S T:Re):Bool:=insB S.x S.y S.u S.v T.x T.y T.u T.v
def clF (L:List Nd) (M:List Re) (i:Nat):Bool:=decide (0<i) && !inR (rcN M (paX L i)) (rcN M i)
theorem isClipped_v (A:Option Addr) (c:Nat) (R:List Nr) (M:List Re) (g i:Nat) (w:World) (hT:TrOK (R.map Nr.n)) (h:NrV w A R) (hM:ReB w g M) (hMR:M.length=R.length) (hL:∀ S ∈ M,Lw S.x S.y S.u S.v) (hi:i<R.length) :
  Calls Tryz.prog 70 #[.agg #[.slice A R.length c],.slice (some ⟨g,0,none⟩) R.length R.length,.int .i64 (i:Int)] w fun e w'=>e=.returned (.bool (clF (R.map Nr.n) M i))∧Below w.heap.size w w':=by
 have hB0:Below w.heap.size w (w.alloc (.cells #[.slice A R.length c] 30 (0,0))):=balloc (Below.refl _ _);have HX:=hD (newS w (.cells #[.slice A R.length c] 30 (0,0)));have x0:=cellS HX.out 0;have HB:=hD hB0
 rcases Nat.eq_zero_or_pos i with rfl | h0
 ·rw [show clF (R.map Nr.n) M 0=false from rfl];clear h hM hL hT hB0
  go_enter Tryz.func70,Tryz.ntmps70
  go_wp2_with fail
  refine wp_region_grow 19 1 (·<19) (by kernel_rfl) (by kernel_rfl) rfl ?_
  iterate 19 (refine wpG_step (fun K hK=>?_);first | (refine grow_skip rfl ?_;go_simp;refine hK _ ?_;clear hK K) | (apply Exists.intro;refine ⟨.inl ⟨rfl,fun w' hw'=>?_⟩,?_⟩;(focus ((obtain ⟨hc,hf⟩:=bcell hw'.out);(have hcS:=bcellS hw'.out);go_simp <;> first | rfl));(go_simp;refine hK _ ?_;clear hK K)))
  refine wpG_nil ?_;refine wpK_tail (by kernel_rfl) (fun wa hga=>?_);have hba:=bdrewn hga.out;obtain ⟨hca,hfa⟩:=bcell hba;refine wpAny_one (i:=19) (by kernel_rfl) rfl rfl ?_;go_simp;refine wpAny_end (by kernel_rfl) ?_;refine NoPan.thn ?_;clear hca hfa;clear hga;go_wp2;go_ret;exact ⟨rfl,bkeep2 HB.out hba⟩
 ·obtain ⟨n,hn⟩:∃ n,R[i]?=some n:=⟨_,List.getElem?_eq_getElem hi⟩
  have hnm:(R.map Nr.n)[i]?=some n.n:=by rw [List.getElem?_map,hn];rfl
  obtain ⟨hp0,hpi⟩:0≤n.n.pa∧n.n.pa<(i:Int):=by rcases hT.up i _ hnm with ⟨e,_⟩ | ⟨_,h⟩;omega;exact h
  obtain ⟨p,hp⟩:∃ p:Nat,n.n.pa=(p:Int):=⟨n.n.pa.toNat,by omega⟩
  have hlp:p<R.length:=by omega
  obtain ⟨S,hS⟩:∃ S,M[i]?=some S:=⟨_,List.getElem?_eq_getElem (by omega)⟩
  obtain ⟨P,hP⟩:∃ P,M[p]?=some P:=⟨_,List.getElem?_eq_getElem (by omega)⟩
  rw [show clF (R.map Nr.n) M i=!inR P S by unfold clF;rw [paX_at hnm hp,rcN_at hS,rcN_at hP,decide_eq_true h0,Bool.true_and]];have LS:=hL S (List.mem_of_getElem? hS);have LP:=hL P (List.mem_of_getElem? hP);obtain ⟨c0,c1,c2,c3⟩:=reB_cells (hM.keep hB0) hS;obtain ⟨d0,d1,d2,d3⟩:=reB_cells (hM.keep hB0) hP;have hl:=(hM.keep hB0).lt;obtain ⟨bl,off,rfl,hbl,hps⟩:=(h.keep hB0).cells (by omega)
  have x1:(w.alloc (.cells #[.slice (some ⟨bl,off,none⟩) R.length c] 30 (0,0))).cell? ⟨bl,off+i*34,none⟩=some (.int .i64 n.n.pa):=hps i n hn 0 _ rfl;rw [hp] at x1
  have hd:decide ((i:Int) > 0)=true:=by simpa using h0
  have hd1:(i:Int)<(R.length:Int):=by omega
  have hd2:(p:Int)<(R.length:Int):=by omega
  unfold inR;clear h hM hL hT hB0 hps hn hnm hp0 hpi hp hS hP
  go_enter Tryz.func70,Tryz.ntmps70
  go_wp2_with fail
  refine wp_region_grow 19 1 (·<19) (by kernel_rfl) (by kernel_rfl) rfl ?_
  iterate 19 (refine wpG_step (fun K hK=>?_);first | (refine grow_skip rfl ?_;go_simp;refine hK _ ?_;clear hK K) | (apply Exists.intro;refine ⟨.inl ⟨rfl,fun w' hw'=>?_⟩,?_⟩;(focus ((obtain ⟨hc,hf⟩:=bcell hw'.out);(have hcS:=bcellS hw'.out);go_simp <;> first | rfl | (go_at_call 105;exact holds_l _ _ _ _ _ _ _ _ _ LP LS)));(go_simp;refine hK _ ?_;clear hK K)))
  refine wpG_nil ?_;refine wpK_tail (by kernel_rfl) (fun wa hga=>?_);have hba:=bdrewn hga.out;obtain ⟨hca,hfa⟩:=bcell hba;refine wpAny_one (i:=19) (by kernel_rfl) rfl rfl ?_;go_simp;refine wpAny_end (by kernel_rfl) ?_;refine NoPan.thn ?_;clear hca hfa;clear hga;go_wp2;go_ret;exact ⟨rfl,bkeep2 HB.out hba⟩
end
section
theorem indicesCl_v (n:Nat) (f:Nat→Bool) (caps:Array Value) (w:World) (hn:n≤1048576)
  (hf:∀ k,k<n→∀ W,Below w.heap.size w W→Calls Tryz.prog 69 (#[.int .i64 (k:Int)] ++ caps) W fun e W'=>e=.returned (.bool (f k))∧Below W.heap.size W W') :
  Calls Tryz.prog 65 #[.int .i64 (n:Int),.func (.func 69) #[] caps] w fun e w'=>(∃ v,e=.returned v∧GO w.heap.size w' v (idsM f n))∧Below w.heap.size w w':=by
 obtain ⟨ti,tz,ti1,ti2,ti3,ti4,ti5⟩:=int_infoW;have HF:=hD hf;clear hf;refine calls_abs Tryz.func65 rfl 20 (by simp only [Tryz.ntmps65]) (by simp) (fun t hsz hargs=>?_);have q0:t[0]?=some (.int .i64 (n:Int)):=get_of (by omega) (hargs 0 _ rfl);have q1:t[1]?=some (.func (.func 69) #[] caps):=get_of (by omega) (hargs 1 _ rfl);clear hargs;obtain ⟨l0,e0⟩:=gE q0;obtain ⟨l1,e1⟩:=gE q1
 refine wp_seq_h fun K hK=>?_
 apply wp_region_lit
 repeat (first | go_step)
 refine hK.out _ _ ?_;clear hK K;refine wp_abw (fun t' W'=>t'.size=20∧t'[0]?=some (.int .i64 (n:Int))∧t'[1]?=some (.func (.func 69) #[] caps)∧w=W') ⟨by simp [Act.put,hsz],by simp [Act.put,q0],by simp [Act.put,q1],rfl⟩ ?_;clear hsz q0 l0 e0 q1 l1 e1 t;rintro t _ ⟨hsz,q0,q1,rfl⟩;obtain ⟨l0,e0⟩:=gE q0;obtain ⟨l1,e1⟩:=gE q1
 refine wp_seq_h fun K hK=>?_
 apply wp_region_lit
 repeat (first | go_step)
 refine hK.out _ _ ?_;clear hK K;refine wp_abw (fun t' W'=>t'.size=20∧t'[0]?=some (.int .i64 (n:Int))∧t'[1]?=some (.func (.func 69) #[] caps)∧t'[5]?=some (.slice none 0 0)∧w=W') ⟨by simp [Act.put,hsz],by simp [Act.put,q0],by simp [Act.put,q1],by simp [Act.put,hsz],rfl⟩ ?_;clear hsz q0 l0 e0 q1 l1 e1 t;rintro t _ ⟨hsz,q0,q1,q5,rfl⟩
 refine wp_seq_h fun KE hKE=>?_
 obtain ⟨l0,e0⟩:=gE q0;obtain ⟨l1,e1⟩:=gE q1;obtain ⟨l5,e5⟩:=gE q5
 refine wp_seq_h fun K hK=>?_
 apply wp_region_lit
 repeat (first | go_step)
 refine hK.out _ _ ?_;clear hK K;refine wp_abw (fun t' W'=>t'.size=20∧t'[1]?=some (.func (.func 69) #[] caps)∧t'[5]?=some (.slice none 0 0)∧t'[7]?=some (.int .i64 (n:Int))∧t'[8]?=some (.int .i64 ((0:Nat):Int))∧w=W') ⟨by simp [Act.put,hsz],by simp [Act.put,q1],by simp [Act.put,q5],by simp [Act.put,hsz],by simp [Act.put,hsz],rfl⟩ ?_;clear hsz q0 l0 e0 q1 l1 e1 q5 l5 e5 t
 rintro t _ ⟨hsz,q1,q5,q7,q8,rfl⟩;apply wp_block
 refine wp_loop (fun a W=>∃ (t:Array Value) (k:Nat) (v:Value),a=⟨t,[]⟩∧k≤n∧t.size=20∧t[1]?=some (.func (.func 69) #[] caps)∧t[5]?=some (v)∧t[7]?=some (.int .i64 (n:Int))∧t[8]?=some (.int .i64 (k:Int))∧W.ownsRow w.heap.size 3 1 v (idsM f k).length (nvalsW (idsM f k))∧Below w.heap.size w W) (fun a _=>n - (intOf (a.tmps.getD 8 undef)).toNat) ⟨t,0,.slice none 0 0,rfl,by omega,hsz,q1,q5,q7,q8,⟨rfl,.inl ⟨rfl,rfl⟩⟩,Below.refl _ _⟩ ?_
 clear t hsz q1 q5 q7 q8;rintro a W ⟨t,k,v,rfl,hk,hsz,q1,q5,q7,q8,hO,hB⟩
 have hmu:intOf (t.getD 8 undef)=(k:Int):=by rw [Array.getD_eq_getD_getElem?,q8];rfl
 dsimp only
 rw [hmu];clear hmu;have HO:=hD hO;have HB:=hD hB;clear hO hB
 by_cases hlt:k<n
 ·have hd:decide ((k:Int)<(n:Int))=true:=by simpa using hlt
  obtain ⟨l1,e1⟩:=gE q1;obtain ⟨l5,e5⟩:=gE q5;obtain ⟨l7,e7⟩:=gE q7;obtain ⟨l8,e8⟩:=gE q8
  refine wp_seq_h fun K hK=>?_
  apply wp_region_lit
  repeat (first | go_step)
  refine hK.out _ _ ?_;clear hK K;refine wp_abw (fun t' W'=>t'.size=20∧t'[1]?=some (.func (.func 69) #[] caps)∧t'[5]?=some (v)∧t'[7]?=some (.int .i64 (n:Int))∧t'[8]?=some (.int .i64 (k:Int))∧t'[9]?=some (.bool true)∧W=W') ⟨by simp [Act.put,hsz],by simp [Act.put,q1],by simp [Act.put,q5],by simp [Act.put,q7],by simp [Act.put,q8],by simp [Act.put,hsz,hd],rfl⟩ ?_
  clear hsz q1 l1 e1 q5 l5 e5 q7 l7 e7 q8 l8 e8 t;rintro t _ ⟨hsz,q1,q5,q7,q8,q9,rfl⟩;clear hd
  refine wp_seq_h fun K1 hK1=>?_
  refine wp_cond_true (by simp [Act.eval,q9]) ?_;apply wp_skip;simp only [Exit.then];refine hK1.out _ _ ?_;clear hK1 K1 q9
  refine wp_seq_h fun KB hKB=>?_
  apply wp_block;obtain ⟨l1,e1⟩:=gE q1;obtain ⟨l5,e5⟩:=gE q5;obtain ⟨l7,e7⟩:=gE q7;obtain ⟨l8,e8⟩:=gE q8
  refine wp_seq_h fun K hK=>?_
  apply wp_region_lit
  repeat (first | go_step)
  refine hK.out _ _ ?_;clear hK K;refine wp_abw (fun t' W'=>t'.size=20∧t'[1]?=some (.func (.func 69) #[] caps)∧t'[5]?=some (v)∧t'[6]?=some (.int .i64 (k:Int))∧t'[7]?=some (.int .i64 (n:Int))∧t'[8]?=some (.int .i64 (k:Int))∧W=W') ⟨by simp [Act.put,hsz],by simp [Act.put,q1],by simp [Act.put,q5],by simp [Act.put,hsz],by simp [Act.put,q7],by simp [Act.put,q8],rfl⟩ ?_
  clear hsz q1 l1 e1 q5 l5 e5 q7 l7 e7 q8 l8 e8 t;rintro t _ ⟨hsz,q1,q5,q6,q7,q8,rfl⟩;obtain ⟨l1,e1⟩:=gE q1;obtain ⟨l5,e5⟩:=gE q5;obtain ⟨l6,e6⟩:=gE q6;obtain ⟨l7,e7⟩:=gE q7;obtain ⟨l8,e8⟩:=gE q8;have hlen:=idsM_len f k
  refine wp_seq_h fun K hK=>?_
  apply wp_region_lit
  repeat go_step
  refine (HF.out k hlt _ HB.out).mono ?_;rintro e W1 ⟨rfl,hb1⟩
  dsimp only
  repeat go_step
  refine hK.out _ _ ?_;clear hK K;have hob:=HO.out.lt;replace HO:=hD (own_bw HO.out hb1);replace HB:=hD (bkeep2 HB.out hb1);have hs1:=hb1.size;clear hb1
  refine wp_abw (fun t' W'=>t'.size=20∧t'[1]?=some (.func (.func 69) #[] caps)∧t'[5]?=some (v)∧t'[6]?=some (.int .i64 (k:Int))∧t'[7]?=some (.int .i64 (n:Int))∧t'[8]?=some (.int .i64 (k:Int))∧t'[13]?=some (.bool (f k))∧W1=W') ⟨by simp [Act.put,hsz],by simp [Act.put,q1],by simp [Act.put,q5],by simp [Act.put,q6],by simp [Act.put,q7],by simp [Act.put,q8],by simp [Act.put,hsz],rfl⟩ ?_
  clear hsz q1 l1 e1 q5 l5 e5 q6 l6 e6 q7 l7 e7 q8 l8 e8 t;rintro t _ ⟨hsz,q1,q5,q6,q7,q8,q13,rfl⟩;obtain ⟨l1,e1⟩:=gE q1
  by_cases hfk:f k=true
  ·have hids:=idsM_yes hfk;rw [hfk] at q13;refine wp_cond_true (by simp [Act.eval,q13]) ?_;clear l1 e1 q13;obtain ⟨l1,e1⟩:=gE q1;obtain ⟨l5,e5⟩:=gE q5;obtain ⟨l6,e6⟩:=gE q6;obtain ⟨l7,e7⟩:=gE q7;obtain ⟨l8,e8⟩:=gE q8;have hob:∀ b,v.ownBlock=some b→w.heap.size≤b∧b<W1.heap.size:=HO.out.lt;have hw1:w.heap.size≤W1.heap.size:=HB.out.size;apply wp_region_lit
   repeat (first | ((with_reducible show wpList _ _ _ _ _ _);refine wpList_append_own _ rfl _ _ 37 rfl w.heap.size 3 ti tz 1 8 Tryz.underlying37 ti1 ti2 ti3 ti4 ti5 (by decide) v _ _ (by simp [Act.eval,Act.put,hsz,e5]) (HO.out.alloc _) ⟨W1.heap.size,0,none⟩ 1 1 [.int .i64 (k:Int)] (by simp [Act.eval,Act.put,hsz]) rfl (newW _ _ _) (by simp [Value.oneCell']) (by simp only [maxLen];omega) (by omega) (by simp;omega) ?_) | go_step)
   intro v5 w5 how5 hgr5 _;have hb5:=below_own HB.out hgr5 hob (Nat.le_refl _) (Nat.le_refl _);rw [nvalsW_snoc,<- hids] at how5
   have hlen5:(idsM f k).length+1=(idsM f (k+1)).length:=by rw [hids];simp
   rw [hlen5] at how5;clear hlen5 hids
   repeat go_step
   try simp only [Exit.inBlock]
   refine hKB.out _ _ ?_;clear hKB KB;refine wp_abw (fun t' W'=>t'.size=20∧t'[1]?=some (.func (.func 69) #[] caps)∧t'[5]?=some (v5)∧t'[7]?=some (.int .i64 (n:Int))∧t'[8]?=some (.int .i64 (k:Int))∧w5=W') ⟨by simp [Act.put,hsz],by simp [Act.put,q1],by simp [Act.put,hsz],by simp [Act.put,q7],by simp [Act.put,q8],rfl⟩ ?_;clear hsz q1 l1 e1 q5 l5 e5 q6 l6 e6 q7 l7 e7 q8 l8 e8 t hob hw1
   rintro t _ ⟨hsz,q1,q5,q7,q8,rfl⟩;obtain ⟨l1,e1⟩:=gE q1;obtain ⟨l5,e5⟩:=gE q5;obtain ⟨l7,e7⟩:=gE q7;obtain ⟨l8,e8⟩:=gE q8;apply wp_region_lit
   repeat go_step
   try simp only [Exit.then]
   refine ⟨⟨_,k+1,v5,rfl,by omega,by simp [hsz],by simp [q1],by simp [q5],by simp [q7],by simp [hsz],how5,hb5⟩,?_⟩
   ·simp [hsz,intOf]
    omega
  ·have hfk':f k=false:=by simpa using hfk
   have hids:=idsM_no hfk';rw [hfk'] at q13;refine wp_cond_false (by simp [Act.eval,q13]) ?_;clear l1 e1 q13;apply wp_skip
   try simp only [Exit.inBlock]
   refine hKB.out _ _ ?_;clear hKB KB;obtain ⟨l1,e1⟩:=gE q1;obtain ⟨l5,e5⟩:=gE q5;obtain ⟨l6,e6⟩:=gE q6;obtain ⟨l7,e7⟩:=gE q7;obtain ⟨l8,e8⟩:=gE q8;apply wp_region_lit
   repeat go_step
   try simp only [Exit.then]
   refine ⟨⟨_,k+1,v,rfl,by omega,by simp [hsz],by simp [q1],by simp [q5],by simp [q7],by simp [hsz],by rw [hids];exact HO.out,HB.out⟩,?_⟩
   ·simp [hsz,intOf]
    omega
 ·have hd:decide ((k:Int)<(n:Int))=false:=decide_eq_false (by omega);obtain ⟨l1,e1⟩:=gE q1;obtain ⟨l5,e5⟩:=gE q5;obtain ⟨l7,e7⟩:=gE q7;obtain ⟨l8,e8⟩:=gE q8
  refine wp_seq_h fun K hK=>?_
  apply wp_region_lit
  repeat (first | go_step)
  refine hK.out _ _ ?_;clear hK K;refine wp_abw (fun t' W'=>t'.size=20∧t'[1]?=some (.func (.func 69) #[] caps)∧t'[5]?=some (v)∧t'[7]?=some (.int .i64 (n:Int))∧t'[8]?=some (.int .i64 (k:Int))∧t'[9]?=some (.bool false)∧W=W') ⟨by simp [Act.put,hsz],by simp [Act.put,q1],by simp [Act.put,q5],by simp [Act.put,q7],by simp [Act.put,q8],by simp [Act.put,hsz,hd],rfl⟩ ?_
  clear hsz q1 l1 e1 q5 l5 e5 q7 l7 e7 q8 l8 e8 t;rintro t _ ⟨hsz,q1,q5,q7,q8,q9,rfl⟩
  refine wp_seq_h fun K1 hK1=>?_
  refine wp_cond_false (by simp [Act.eval,q9]) ?_;apply wp_exit;simp only [Exit.then,Exit.inBlock,if_true];refine hKE.out _ _ ?_;clear hd
  obtain rfl:k=n:=by omega
  obtain ⟨l1,e1⟩:=gE q1;obtain ⟨l5,e5⟩:=gE q5;obtain ⟨l7,e7⟩:=gE q7;obtain ⟨l8,e8⟩:=gE q8;obtain ⟨l9,e9⟩:=gE q9
  repeat go_step
  refine bodyPost_ret (results_tmp rfl _ _ _) rfl ?_;exact ⟨⟨v,by simp [hsz],GO.of HO.out rfl⟩,HB.out⟩
def clpM (L:List Nd) (a b:Int):List Int:=idsM (clF L (lyL L a b)) (lyL L a b).length
theorem clpM_len (L:List Nd) (a b:Int):(clpM L a b).length≤10:=Nat.le_trans (idsM_len _ _) (lyL_len _ _ _)
theorem clip1_v (A:Option Addr) (c:Nat) (R:List Nr) (M:List Re) (g i bt br:Nat) (w:World) (hT:TrOK (R.map Nr.n)) (h:NrV w A R) (hM:ReB w g M) (hMR:M.length=R.length) (hL:∀ S ∈ M,Lw S.x S.y S.u S.v) (hi:i<R.length) (ht:w.cell? ⟨bt,0,none⟩=some (.slice A R.length c)) (hr:w.cell? ⟨br,0,none⟩=some (.slice (some ⟨g,0,none⟩) R.length R.length)) :
  Calls Tryz.prog 69 #[.int .i64 (i:Int),.pointer (some ⟨bt,0,none⟩),.pointer (some ⟨br,0,none⟩)] w fun e w'=>e=.returned (.bool (clF (R.map Nr.n) M i))∧Below w.heap.size w w':=by
 have HC:=hD (isClipped_v A c R M g i w hT h hM hMR hL hi);clear hT h hM hMR hL
 go_enter Tryz.func69,Tryz.ntmps69
 go_wp2_with fail
 refine HC.out.mono ?_;rintro e w1 ⟨rfl,hb⟩;have HB:=hD hb;clear hb ht hr;go_wp2;go_ret;exact ⟨rfl,HB.out⟩
theorem ClippedNodes_v (A:Option Addr) (c k:Nat) (R:List Nr) (a b:Int) (w:World) (hk:k=R.length) (h:NrV w A R) (hr:RdR w R) (hL:R.length≤1048576) (hm:∀ p ∈ R,p.n.cs.length≤1048576∧p.n.rs.length≤1048576) :
  Calls Tryz.prog 36 #[.agg #[.slice A k c],.int .i64 a,.int .i64 b] w fun e w'=>(∃ x,e=.returned x∧GO w.heap.size w' x (clpM (R.map Nr.n) a b))∧Below w.heap.size w w':=by
 have hB0:Below w.heap.size w (w.alloc (.cells #[.slice A k c] 30 (0,0))):=balloc (Below.refl _ _);have HX:=hD (newS w (.cells #[.slice A k c] 30 (0,0)));have HB:=hD hB0;have HV:=hD (h.keep hB0);have HR:=hD (hr.keep hB0);have HM:=hD hm;have HK:=hD hk;have x0:=cellS HX.out 0;clear hB0 h hr hm hk
 go_enter Tryz.func36,Tryz.ntmps36
 go_wp2_with fail
 with_reducible refine (LayoutTree_v A c k R a b _ HK.out HV.out HR.out hL HM.out).mono ?_
 rintro e w1 ⟨⟨x,rfl,hx⟩,hb⟩;clear x0;replace HX:=hbk hb HX;replace HV:=hD (HV.out.keep hb);replace HB:=hD (bkeep2 HB.out hb);clear hb;have hok:=lyL_ok (L:=R.map Nr.n) (a:=a) (b:=b);have hlen:=lyL_len (R.map Nr.n) a b
 obtain ⟨M,hM⟩:∃ M,lyL (R.map Nr.n) a b=M:=⟨_,rfl⟩
 have HCP:=hD (show clpM (R.map Nr.n) a b=idsM (clF (R.map Nr.n) M) M.length by unfold clpM;rw [hM]);rw [hM] at hx hok hlen;clear hM;obtain ⟨A1,rfl,hx1⟩:=hx.sl;have HX1:=hD hx1;have HOK:=hD hok;have hsz:w.heap.size≤w1.heap.size:=HB.out.size;have ltx:=ltS HX.out;clear hx hx1 hok
 go_upto_region 2 with (fail)
 refine wp_genGG (fun W=>W.heap[w1.heap.size]?=some (.cells #[.slice A1 M.length M.length] 26 (0,0))∧Below w1.heap.size w1 W) ?g1 (fun W h=>?_)
 case g1=>exact ⟨newS _ _,balloc (Below.refl _ _)⟩
 obtain ⟨h1,hb⟩:=h;have HY:=hD h1;have x1:=cellS h1 0;have HX0:=hD ((hb.block _ ltx).trans HX.out);have x0:=cellS HX0.out 0;have HB1:=hD hb;clear h1 hb
 go_wp2_with fail
 refine (indicesCl_v M.length (clF (R.map Nr.n) M) #[.pointer (some ⟨w.heap.size,0,none⟩),.pointer (some ⟨w1.heap.size,0,none⟩)] _ (by omega) (fun i hi W2 hW=>?_)).mono ?_
 ·obtain ⟨g,rfl,hg,hre⟩:=HX1.out (by omega);obtain ⟨hT,hMR,hLw⟩:=HOK.out (by omega);rw [List.length_map] at hMR;rw [hMR] at hi x1;exact clip1_v A c R M g i _ _ W2 hT ((HV.out.keep HB1.out).keep hW) ((hre.keep HB1.out).keep hW) hMR hLw hi (by rw [<- HK.out];exact cellS ((hW.block _ (ltS HX0.out)).trans HX0.out) 0) (by rw [<- hMR];exact cellS ((hW.block _ (ltS HY.out)).trans HY.out) 0)
 rintro e w2 ⟨⟨v,rfl,hv⟩,hb2⟩;have HG:=hD (hv.mono (show w.heap.size≤W.heap.size by have:=HB1.out.size;omega));replace HB:=hD (bkeep2 (bkeep2 HB.out HB1.out) hb2);clear hv hb2 x0 x1 HX HX0 HY HV HR;go_wp2;go_ret;exact ⟨⟨v,rfl,by rw [HCP.out];exact HG.out⟩,HB.out⟩
theorem sClippedNodes_v (A:Option Addr) (c k:Nat) (R:List Nr) (a b:Int) (w:World) (hk:k=R.length) (h:NrV w A R) (hr:RdR w R) (hL:R.length≤1048576) (hm:∀ p ∈ R,p.n.cs.length≤1048576∧p.n.rs.length≤1048576) :
  Calls Tryz.prog 35 #[.agg #[.slice A k c],.int .i64 a,.int .i64 b] w fun e w'=>(∃ x,e=.returned x∧NR w' x (clpM (R.map Nr.n) a b))∧Below w.heap.size w w':=by
 obtain ⟨ti,tz,ti1,ti2,ti3,ti4,ti5⟩:=int_infoW;have hB0:Below w.heap.size w (w.alloc (.cells #[.slice A k c] 30 (0,0))):=balloc (Below.refl _ _);have HX:=hD (newS w (.cells #[.slice A k c] 30 (0,0)));have HB:=hD hB0;have HV:=hD (h.keep hB0);have HR:=hD (hr.keep hB0);have HM:=hD hm;have HK:=hD hk;have x0:=cellS HX.out 0;clear hB0 h hr hm hk
 cases ht:treeB (R.map Nr.n)
 ·rw [show clpM (R.map Nr.n) a b=[] by simp [clpM,lyL,ht];rfl];have HT:=hD ht;clear ht
  go_enter Tryz.func35,Tryz.ntmps35
  go_wp2_with fail
  with_reducible refine (svalidTree_n A c k R false _ HK.out HV.out HR.out hL HM.out HT.out).mono ?_
  rintro e w1 ⟨rfl,hb⟩;clear x0;replace HX:=hbk hb HX;replace HB:=hD (bkeep2 HB.out hb);clear hb;have x0:=cellS HX.out 0;go_wp2;go_ret;exact ⟨⟨_,rfl,⟨none,0,rfl,NV.nil _ _⟩⟩,HB.out⟩
 ·cases hg:rgG a b
  ·rw [show clpM (R.map Nr.n) a b=[] by simp [clpM,lyL,hg];rfl];have HT:=hD ht;clear ht
   go_enter Tryz.func35,Tryz.ntmps35
   go_wp2_with fail
   with_reducible refine (svalidTree_n A c k R true _ HK.out HV.out HR.out hL HM.out HT.out).mono ?_
   rintro e w1 ⟨rfl,hb⟩;clear x0;replace HX:=hbk hb HX;replace HB:=hD (bkeep2 HB.out hb);clear hb;have x0:=cellS HX.out 0
   go_wp2_with fail
   with_reducible refine (goodRoom_g a b _).mono ?_
   rintro e w2 ⟨rfl,rfl⟩;rw [hg];clear hg;go_wp2;go_ret;exact ⟨⟨_,rfl,⟨none,0,rfl,NV.nil _ _⟩⟩,HB.out⟩
  ·have hok:=lyL_ok (L:=R.map Nr.n) (a:=a) (b:=b)
   have hly:lyL (R.map Nr.n) a b=(List.range k).map (lrM (R.map Nr.n) a b):=by simp [lyL,ht,hg,HK.out]
   unfold clpM
   have hk1:1≤k:=by have:=(trOK_of ht).l1;rw [List.length_map] at this;have:=HK.out;omega
   obtain ⟨M,hM⟩:∃ M,(List.range k).map (lrM (R.map Nr.n) a b)=M:=⟨_,rfl⟩
   have hml:M.length=k:=by rw [<- hM,List.length_map,List.length_range]
   rw [hly,hM] at hok;rw [hly,hM];have HMM:=hD hM;clear hM;obtain ⟨hT,hMR,hLw⟩:=hok (by omega);rw [List.length_map] at hMR;rw [hMR,<- HK.out];have HT:=hD ht;have HG:=hD (rgG_yes hg);have HLW:=hD (And.intro hMR hLw);clear ht hly hT hMR hLw
   go_enter Tryz.func35,Tryz.ntmps35
   go_wp2_with fail
   with_reducible refine (svalidTree_n A c k R true _ HK.out HV.out HR.out hL HM.out HT.out).mono ?_
   rintro e w1 ⟨rfl,hb⟩;clear x0;replace HX:=hbk hb HX;replace HV:=hD (HV.out.keep hb);replace HR:=hD (HR.out.keep hb);replace HB:=hD (bkeep2 HB.out hb);clear hb;have x0:=cellS HX.out 0
   go_wp2_with fail
   with_reducible refine (goodRoom_g a b _).mono ?_
   rintro e w2 ⟨rfl,rfl⟩;rw [hg];clear hg
   go_wp2_with fail
   with_reducible refine (slayout_v A c k R a b _ (trOK_of HT.out) HK.out HV.out HR.out HG.out.1 HG.out.2).mono ?_
   rintro e w3 ⟨⟨g,rfl,hgl,hre⟩,hb⟩;have HRE:=hD hre;clear x0 hre hgl;replace HX:=hbk hb HX;replace HV:=hD (HV.out.keep hb);replace HB:=hD (bkeep2 HB.out hb);clear hb;clear HR;rw [HMM.out] at HRE
   have HO:=hD (show (w3.alloc (.cells #[] 3 (0,0))).ownsRow w3.heap.size 3 1 (.slice (some ⟨w3.heap.size,0,none⟩) 0 0) 0 (nvalsW []) from World.ownsRow_lit (base:=w3.heap.size) (e:=3) (size:=1) w3 #[] 0 (by simp) (by decide) rfl);have hsz:w.heap.size≤w3.heap.size:=HB.out.size;have ltx:=ltS HX.out;have lt3:w.heap.size<w3.heap.size:=ltx
   go_wp2_with fail
   go_loopw [8,9] (fun out iv wr=>∃ i:Nat,1≤i∧i≤k∧iv=.int .i64 (i:Int)∧wr.ownsRow w3.heap.size 3 1 out (idsM (clF (R.map Nr.n) M) i).length (nvalsW (idsM (clF (R.map Nr.n) M) i))∧Below w3.heap.size w3 wr) (fun _ iv _=>k - (intOf iv).toNat)
   case atStart=>exact ⟨1,Nat.le_refl _,hk1,rfl,HO.out,balloc (Below.refl _ _)⟩
   case round =>
    obtain ⟨i,hi1,hik,rfl,ho,hbr⟩:=hrel;clear HO;have HO:=hD ho;have HBR:=hD hbr;have hob:=ho.lt;have hw3:w3.heap.size≤wr.heap.size:=hbr.size;have HX1:=hD ((hbr.block _ lt3).trans HX.out);have x0:=cellS HX1.out 0;have hil:=idsM_len (clF (R.map Nr.n) M) i
    by_cases hlt:i<k
    ·have hd:decide ((i:Int)<(k:Int))=true:=decide_eq_true (by omega)
     have hdi:(i:Int)<(k:Int):=by omega
     have hi:i<R.length:=by have:=HK.out;omega
     have hMR:=HLW.out.1
     obtain ⟨n,hn⟩:∃ n,R[i]?=some n:=⟨_,List.getElem?_eq_getElem hi⟩
     have hnm:(R.map Nr.n)[i]?=some n.n:=by rw [List.getElem?_map,hn];rfl
     obtain ⟨hp0,hpi⟩:0≤n.n.pa∧n.n.pa<(i:Int):=by rcases (trOK_of HT.out).up i _ hnm with ⟨e,_⟩ | ⟨_,h⟩;omega;exact h
     obtain ⟨p,hp⟩:∃ p:Nat,n.n.pa=(p:Int):=⟨n.n.pa.toNat,by omega⟩
     have hlp:p<R.length:=by omega
     obtain ⟨S,hS⟩:∃ S,M[i]?=some S:=⟨_,List.getElem?_eq_getElem (by omega)⟩
     obtain ⟨P,hP⟩:∃ P,M[p]?=some P:=⟨_,List.getElem?_eq_getElem (by omega)⟩
     have hcl:clF (R.map Nr.n) M i=!inR P S:=by unfold clF;rw [paX_at hnm hp,rcN_at hS,rcN_at hP,decide_eq_true (show 0<i from hi1),Bool.true_and]
     have LS:=HLW.out.2 S (List.mem_of_getElem? hS);have LP:=HLW.out.2 P (List.mem_of_getElem? hP);have hre:=HRE.out.keep hbr;obtain ⟨c0,c1,c2,c3⟩:=reB_cells hre hS;obtain ⟨d0,d1,d2,d3⟩:=reB_cells hre hP;have hl:=hre.lt;obtain ⟨bl,off,rfl,hbl,hps⟩:=(HV.out.keep hbr).cells (by omega);have x1:wr.cell? ⟨bl,off+i*34,none⟩=some (.int .i64 n.n.pa):=hps i n hn 0 _ rfl;rw [hp] at x1
     have hd2:(p:Int)<(k:Int):=by have:=HK.out;omega
     have hk10:k≤10:=by have:=(trOK_of HT.out).l10;rw [List.length_map] at this;have:=HK.out;omega
     clear hre hps hn hnm hp0 hpi hp hS hP hbr ho hMR
     cases hq:inR P S
     ·rw [hq] at hcl;have hids:=idsM_yes hcl;unfold inR at hq;have HIDS:=hD hids;clear hcl hids
      go_wp2_with fail
      refine wp_region_grow 15 0 (·<15) (by kernel_rfl) (by kernel_rfl) rfl ?_
      iterate 15 (refine wpG_step (fun K hK=>?_);first | (refine grow_skip rfl ?_;go_simp;refine hK _ ?_;clear hK K) | (apply Exists.intro;refine ⟨.inl ⟨rfl,fun w' hw'=>?_⟩,?_⟩;(focus ((obtain ⟨hc,hf⟩:=bcell hw'.out);(have hcS:=bcellS hw'.out);go_simp <;> first | rfl | (go_at_call 68;exact sinside_l _ _ _ _ _ _ _ _ _ _ LP LS hq)));(go_simp;refine hK _ ?_;clear hK K)))
      refine wpG_nil ?_;refine wpK_tail (by kernel_rfl) (fun w5 hg5=>?_);have hb5:=bdrewn hg5.out;refine wpAny_end (by kernel_rfl) ?_;refine NoPan.thn ?_;clear hg5;clear c0 c1 c2 c3 d0 d1 d2 d3 x0 x1;replace HO:=hD (own_bw HO.out hb5);replace HBR:=hD (bkeep HBR.out hb5 hw3);have hob5:=HO.out.lt;have hw5:w3.heap.size≤w5.heap.size:=HBR.out.size;clear hb5 hob
      go_wp2_with (at_builtin;refine wpList_append_own _ rfl _ _ 37 rfl w3.heap.size 3 ti tz 1 8 Tryz.underlying37 ti1 ti2 ti3 ti4 ti5 (by decide) _ _ _ rfl (HO.out.alloc _) ⟨w5.heap.size,0,none⟩ 1 1 [.int .i64 (i:Int)] rfl rfl (newW _ _ _) (by simp [Value.oneCell']) (by simp only [maxLen];omega) (by omega) (by simp;omega) ?_)
      intro v6 w6 how6 hgr6 _;rw [nvalsW_snoc,<- HIDS.out] at how6;have HB6:=hD (below_own (n:=w3.heap.size) HBR.out hgr6 (lo:=w3.heap.size) (hi:=w5.heap.size) hob5 (Nat.le_refl _) (Nat.le_refl _));have HO6:=hD how6;have hx6:=hD ((HB6.out.block _ lt3).trans HX.out);have x6:=cellS hx6.out 0
      have hl6:(idsM (clF (R.map Nr.n) M) i).length+1=(idsM (clF (R.map Nr.n) M) (i+1)).length:=by rw [HIDS.out];simp
      have HL6:=hD hl6;clear how6 hgr6 hob5 HO HBR hl6;go_wp2
      go_roundw
      case rel=>exact ⟨i+1,by omega,by omega,by go_num,by have:=HO6.out;rwa [<- HL6.out],HB6.out⟩
      case measure=>simp [intOf];omega
     ·rw [hq] at hcl;have hids:=idsM_no hcl;unfold inR at hq;have HIDS:=hD hids;clear hcl hids
      go_wp2_with fail
      refine wp_region_grow 15 0 (·<15) (by kernel_rfl) (by kernel_rfl) rfl ?_
      iterate 15 (refine wpG_step (fun K hK=>?_);first | (refine grow_skip rfl ?_;go_simp;refine hK _ ?_;clear hK K) | (apply Exists.intro;refine ⟨.inl ⟨rfl,fun w' hw'=>?_⟩,?_⟩;(focus ((obtain ⟨hc,hf⟩:=bcell hw'.out);(have hcS:=bcellS hw'.out);go_simp <;> first | rfl | (go_at_call 68;exact sinside_l _ _ _ _ _ _ _ _ _ _ LP LS hq)));(go_simp;refine hK _ ?_;clear hK K)))
      refine wpG_nil ?_;refine wpK_tail (by kernel_rfl) (fun w5 hg5=>?_);have hb5:=bdrewn hg5.out;refine wpAny_end (by kernel_rfl) ?_;refine NoPan.thn ?_;clear hg5;clear c0 c1 c2 c3 d0 d1 d2 d3 x0 x1;replace HO:=hD (own_bw HO.out hb5);replace HBR:=hD (bkeep HBR.out hb5 hw3);clear hb5 hob;go_wp2
      go_roundw
      case rel=>exact ⟨i+1,by omega,by omega,by go_num,by rw [HIDS.out];exact HO.out,HBR.out⟩
      case measure=>simp [intOf];omega
    ·obtain rfl:i=k:=by omega
     have hd:decide ((i:Int)<(i:Int))=false:=by simp
     obtain ⟨b0,off,rfl,-⟩:=HV.out.cells (by have:=HK.out;omega);go_wp2;go_ret;exact ⟨⟨_,rfl,(GO.of HO.out (by rfl)).nr⟩,bkeep HB.out hbr hsz⟩
end
end Go.Proofs.YtenckjdiggaonaaGreat
