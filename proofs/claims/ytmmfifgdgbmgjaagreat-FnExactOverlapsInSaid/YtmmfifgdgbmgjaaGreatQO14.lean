import Derived.Test.YtmmfifgdgbmgjaaGreatQO13
import Derived.WalkSpells
set_option linter.unusedVariables false
set_option linter.unusedSimpArgs false
set_option maxRecDepth 100000
set_option maxHeartbeats 16000000
namespace Go.Proofs.YtmmfifgdgbmgjaaGreat
open Go.RowKit
attribute [local go_sem] growUpon_value growUpon_skip growUpon_enter
theorem trOK_of {L:List Nd} (h:treeB L=true):TrOK L where
 l1:=(tree_len h).1
 l10:=(tree_len h).2
 up:=fun k n hn=>by
  obtain ⟨_,hu,_⟩:=tree_nok h hn;unfold upB at hu
  split at hu
  ·rename_i e;exact .inl ⟨e,by simpa using hu⟩
  ·rename_i e;rw [rng_iff] at hu;right;omega
 sz:=fun k n hn=>by
  obtain ⟨hd,_,_⟩:=tree_nok h hn;simp only [ndB,Bool.and_eq_true,rng_iff] at hd;obtain ⟨⟨h1,h2⟩,h3,_⟩:=hd;exact ⟨h1,h2,by omega⟩
 pk:=fun k n hn=>by
  obtain ⟨hd,_,_⟩:=tree_nok h hn;simp only [ndB,Bool.and_eq_true] at hd;exact hd.2.2.2.1
 pl:=fun k n hn=>by
  obtain ⟨hd,_,_⟩:=tree_nok h hn;simp only [ndB,Bool.and_eq_true] at hd;exact hd.2.2.2.2.2.2.2.2
 li:=fun k n hn h1=>own_lines (tree_nok h hn).1 h1
 ce:=fun k n u hn h0 hu h1=>by
  obtain ⟨_,_,hc⟩:=tree_nok h hn;unfold clB at hc;rw [if_neg (by omega),hu] at hc
  simpa [h1] using hc
def WsV (lo:Nat) (w:World) (R:List Nr) (v:Value):Prop:=∃ g:Nat,v=.slice (some ⟨g,0,none⟩) R.length R.length∧lo≤g∧RbK 2 w g 96 ((List.range R.length).map fun k=>valsWi (szM (R.map Nr.n) k))
theorem WsV.keep {lo:Nat} {w w':World} {R:List Nr} {v:Value} (h:WsV lo w R v) (hb:Below w.heap.size w w'):WsV lo w' R v:=let ⟨g,e,hl,k⟩:=h;⟨g,e,hl,k.keep hb⟩
theorem WsV.mono {lo lo':Nat} {w:World} {R:List Nr} {v:Value} (h:WsV lo w R v) (hl:lo'≤lo):WsV lo' w R v:=let ⟨g,e,h1,k⟩:=h;⟨g,e,by omega,k⟩
def rqM (L:List Nd) (i:Int):Int × Int:=if (treeB L&&rng i 0 ((L.length:Int)-1))=true then szM L i.toNat else (-1,-1)
theorem WsV.at {lo:Nat} {w:World} {R:List Nr} {g:Nat} (h:RbK 2 w g 96 ((List.range R.length).map fun k=>valsWi (szM (R.map Nr.n) k))) {j:Nat} (hj:j<R.length):w.cell? ⟨g,j*2,none⟩=some (.int .i64 (szM (R.map Nr.n) j).1)∧w.cell? ⟨g,j*2+1,none⟩=some (.int .i64 (szM (R.map Nr.n) j).2):=by
 obtain ⟨cs,hh,hs,hc⟩:=h
 have:=hc j (valsWi (szM (R.map Nr.n) j)) (by simpa using hj) (by rw [List.getElem?_map,List.getElem?_range hj];rfl)
 exact ⟨(cellS hh _).trans (this 0 _ rfl),(cellS hh _).trans (this 1 _ rfl)⟩
def GRB (lo:Nat) (w:World) (x:Value) (M:List Re):Prop:=(x=.slice none 0 0∧M=[])∨∃ g n,x=.slice (some ⟨g,0,none⟩) n n∧n=M.length∧lo≤g∧ReB w g M
theorem GRB.rv {lo:Nat} {w:World} {x:Value} {M:List Re} (h:GRB lo w x M):ReR w x M:=by
 rcases h with ⟨rfl,rfl⟩ | ⟨g,n,rfl,rfl,_,hk⟩
 ·exact ⟨none,0,rfl,ReV.nil _ _⟩
 ·exact ⟨_,_,rfl,hk.v⟩
theorem GRB.keep {lo:Nat} {w w':World} {x:Value} {M:List Re} (h:GRB lo w x M) (hb:Below w.heap.size w w'):GRB lo w' x M :=
 h.imp id fun ⟨g,n,h1,h2,h3,hk⟩=>⟨g,n,h1,h2,h3,hk.keep hb⟩
def mkR (k:Nat):Re:=⟨(k:Int)*4+1,(k:Int)*4+1+1,(k:Int)*4+1+1+1,(k:Int)*4+1+1+1+1⟩
def MKR (n:Nat):List Re:=(List.range n).map mkR
theorem GRB.but {lo g0:Nat} {w w':World} {v:Value} {M:List Re} (h:GRB lo w v M) (hb:w.grownBy w' (some g0)) (hg:g0<lo):GRB lo w' v M :=
 h.imp id fun ⟨g,n,h1,h2,h3,hk⟩=>⟨g,n,h1,h2,h3,hk.but hb (by omega)⟩
def GRM (w:World) (v:Value) (n:Nat):Prop:=(v=.slice none 0 0∧n=0)∨∃ g,v=.slice (some ⟨g,0,none⟩) n n∧ReB w g (MKR n)
theorem GRM.keep {w w':World} {v:Value} {n:Nat} (h:GRM w v n) (hb:Below w.heap.size w w'):GRM w' v n :=
 h.imp id fun ⟨g,h1,hk⟩=>⟨g,h1,hk.keep hb⟩
def rgG (u v:Int):Bool:=rng u 0 400&&rng v 0 400
theorem rgG_yes {u v:Int} (h:rgG u v=true):(0≤u∧u≤400)∧(0≤v∧v≤400):=by simpa only [rgG,Bool.and_eq_true,rng_iff] using h
theorem validRoom_g (u v:Int) (w:World):Calls Tryz.prog 33 #[.int .i64 u,.int .i64 v] w fun e w'=>e=.returned (.bool (rgG u v))∧w=w':=by
 unfold rgG
 cases h1:rng u 0 400
 ·go_enter Tryz.func33,Tryz.ntmps33
  go_wp2_with fail
  with_reducible refine (within_any _ _ _ _).mono ?_
  rintro e w2 ⟨rfl,rfl⟩;go_wp2;go_ret;exact ⟨by simp,rfl⟩
 ·go_enter Tryz.func33,Tryz.ntmps33
  go_wp2_with fail
  with_reducible refine (within_any _ _ _ _).mono ?_
  rintro e w2 ⟨rfl,rfl⟩
  go_wp2_with fail
  with_reducible refine (within_any _ _ _ _).mono ?_
  rintro e w2 ⟨rfl,rfl⟩;go_wp2;go_ret;exact ⟨by simp,rfl⟩
theorem goodRoom_g (u v:Int) (w:World):Calls Tryz.prog 28 #[.int .i64 u,.int .i64 v] w fun e w'=>e=.returned (.bool (rgG u v))∧w=w':=by
 unfold rgG
 cases h1:rng u 0 400
 ·go_enter Tryz.func28,Tryz.ntmps28
  go_wp2_with fail
  with_reducible refine (inRange_any _ _ _ _).mono ?_
  rintro e w2 ⟨rfl,rfl⟩;go_wp2;go_ret;exact ⟨by simp,rfl⟩
 ·go_enter Tryz.func28,Tryz.ntmps28
  go_wp2_with fail
  with_reducible refine (inRange_any _ _ _ _).mono ?_
  rintro e w2 ⟨rfl,rfl⟩
  go_wp2_with fail
  with_reducible refine (inRange_any _ _ _ _).mono ?_
  rintro e w2 ⟨rfl,rfl⟩;go_wp2;go_ret;exact ⟨by simp,rfl⟩
def lyL (L:List Nd) (a b:Int):List Re:=if (treeB L&&rgG a b)=true then (List.range L.length).map (lrM L a b) else []
theorem lyL_len (L:List Nd) (a b:Int):(lyL L a b).length≤10:=by
 unfold lyL
 split
 ·rename_i h
  rw [Bool.and_eq_true] at h;rw [List.length_map,List.length_range];exact (tree_len h.1).2
 ·exact Nat.zero_le _
theorem GRB.mono {lo lo':Nat} {w:World} {x:Value} {M:List Re} (h:GRB lo w x M) (hl:lo'≤lo):GRB lo' w x M:=h.imp id fun ⟨g,n,h1,h2,h3,hk⟩=>⟨g,n,h1,h2,Nat.le_trans hl h3,hk⟩
theorem LayoutTree_x (A:Option Addr) (c k:Nat) (R:List Nr) (a b:Int) (w:World) (hk:k=R.length) (h:NrV w A R) (hr:RdR w R) (hL:R.length≤1048576) (hm:∀ p∈R,p.n.cs.length≤1048576∧p.n.rs.length≤1048576) :
  Calls Tryz.prog 40 #[.agg #[.slice A k c],.int .i64 a,.int .i64 b] w fun e w'=>(∃ x,e=.returned x∧GRB w.heap.size w' x (lyL (R.map Nr.n) a b)∧((lyL (R.map Nr.n) a b).length=0→x=.slice none 0 0))∧Below w.heap.size w w':=by
 have hB0:Below w.heap.size w (w.alloc (.cells #[.slice A k c] 30 (0,0))):=balloc (Below.refl _ _);have HX:=hD (newS w (.cells #[.slice A k c] 30 (0,0)));have HB:=hD hB0;have HV:=hD (h.keep hB0);have HR:=hD (hr.keep hB0);have HM:=hD hm;have HK:=hD hk;have x0:=cellS HX.out 0;clear hB0 h hr hm hk
 cases ht:treeB (R.map Nr.n)
 ·rw [show lyL (R.map Nr.n) a b=[] by simp [lyL,ht]];have HT:=hD ht;clear ht
  go_enter Tryz.func40,Tryz.ntmps40
  go_wp2_with fail
  with_reducible refine (ValidTree_n A c k R false _ HK.out HV.out HR.out hL HM.out HT.out).mono ?_
  rintro e w1 ⟨rfl,hb⟩;clear x0;replace HX:=hbk hb HX;replace HB:=hD (bkeep2 HB.out hb);clear hb;have x0:=cellS HX.out 0;go_wp2;go_ret;exact ⟨⟨_,rfl,.inl ⟨rfl,rfl⟩,fun _=>rfl⟩,HB.out⟩
 ·cases hg:rgG a b
  ·rw [show lyL (R.map Nr.n) a b=[] by simp [lyL,hg]];have HT:=hD ht;clear ht
   go_enter Tryz.func40,Tryz.ntmps40
   go_wp2_with fail
   with_reducible refine (ValidTree_n A c k R true _ HK.out HV.out HR.out hL HM.out HT.out).mono ?_
   rintro e w1 ⟨rfl,hb⟩;clear x0;replace HX:=hbk hb HX;replace HB:=hD (bkeep2 HB.out hb);clear hb;have x0:=cellS HX.out 0
   go_wp2_with fail
   with_reducible refine (validRoom_g a b _).mono ?_
   rintro e w2 ⟨rfl,rfl⟩;rw [hg];clear hg;go_wp2;go_ret;exact ⟨⟨_,rfl,.inl ⟨rfl,rfl⟩,fun _=>rfl⟩,HB.out⟩
  ·rw [show lyL (R.map Nr.n) a b=(List.range k).map (lrM (R.map Nr.n) a b) by simp [lyL,ht,hg,HK.out]];have HT:=hD ht;have HG:=hD (rgG_yes hg);clear ht
   go_enter Tryz.func40,Tryz.ntmps40
   go_wp2_with fail
   with_reducible refine (ValidTree_n A c k R true _ HK.out HV.out HR.out hL HM.out HT.out).mono ?_
   rintro e w1 ⟨rfl,hb⟩;clear x0;replace HX:=hbk hb HX;replace HV:=hD (HV.out.keep hb);replace HR:=hD (HR.out.keep hb);replace HB:=hD (bkeep2 HB.out hb);clear hb;have x0:=cellS HX.out 0
   go_wp2_with fail
   with_reducible refine (validRoom_g a b _).mono ?_
   rintro e w2 ⟨rfl,rfl⟩;rw [hg];clear hg;have hsz:=HB.out.size
   go_wp2_with fail
   with_reducible refine (layout_v A c k R a b _ (trOK_of HT.out) HK.out HV.out HR.out HG.out.1 HG.out.2).mono ?_
   rintro e w3 ⟨⟨g,rfl,hgl,hre⟩,hb⟩;have HRE:=hD hre;clear x0 hre;replace HB:=hD (bkeep2 HB.out hb);clear hb;go_wp2;go_ret;exact ⟨⟨_,rfl,.inr ⟨g,_,rfl,by rw [List.length_map,List.length_range],Nat.le_trans hsz hgl,HRE.out⟩,fun h0=>by rw [List.length_map,List.length_range] at h0;have:=(tree_len HT.out).1;rw [List.length_map] at this;have:=HK.out;omega⟩,HB.out⟩
section
attribute [local go_sem 5000] run_mx run_mn run_eqlR run_neqR
set_option maxRecDepth 100000
def Smw (a b c d:Int):Prop:=(-8000000000000000≤a∧a≤8000000000000000)∧(-8000000000000000≤b∧b≤8000000000000000)∧(-8000000000000000≤c∧c≤8000000000000000)∧(-8000000000000000≤d∧d≤8000000000000000)
theorem Smw_of {a b c d:Int} (h:(-8000000000000000≤a∧a≤8000000000000000)∧(-8000000000000000≤b∧b≤8000000000000000)∧(-8000000000000000≤c∧c≤8000000000000000)∧(-8000000000000000≤d∧d≤8000000000000000)):Smw a b c d:=h
theorem Smw.out {a b c d:Int} (h:Smw a b c d):(-8000000000000000≤a∧a≤8000000000000000)∧(-8000000000000000≤b∧b≤8000000000000000)∧(-8000000000000000≤c∧c≤8000000000000000)∧(-8000000000000000≤d∧d≤8000000000000000):=h
def Lw (x y u v:Int):Prop:=0≤u∧u≤1000000000000000∧0≤v∧v≤1000000000000000∧-1000000000000000≤x∧x≤1000000000000000∧-1000000000000000≤y∧y≤1000000000000000
theorem Lw.out {x y u v:Int} (h:Lw x y u v):0≤u∧u≤1000000000000000∧0≤v∧v≤1000000000000000∧-1000000000000000≤x∧x≤1000000000000000∧-1000000000000000≤y∧y≤1000000000000000:=h
theorem Smw_lw {x y u v:Int} (h:Lw x y u v):Smw x y u v:=by unfold Lw at h;apply Smw_of;omega
theorem meet_bdl {x y u v x' y' u' v':Int} (h1:Lw x y u v) (h2:Lw x' y' u' v'):-1000000000000000≤mx x x'∧mx x x'≤1000000000000000∧-1000000000000000≤mx y y'∧mx y y'≤1000000000000000∧-2000000000000000≤mn (x+u) (x'+u')∧mn (x+u) (x'+u')≤2000000000000000∧-2000000000000000≤mn (y+v) (y'+v')∧mn (y+v) (y'+v')≤2000000000000000:=by
 have:=mx_spec x x';have:=mx_spec y y';have:=mn_spec (x+u) (x'+u');have:=mn_spec (y+v) (y'+v')
 unfold Lw at h1 h2;omega
theorem right_l (x y u v:Int) (w:World) (hS:Smw x y u v):Calls Tryz.prog 72 #[.agg #[.int .i64 (x),.int .i64 (y),.int .i64 (u),.int .i64 (v)]] w fun e w'=>e=.returned (.int .i64 (x+u))∧Below w.heap.size w w':=by
 obtain ⟨⟨s1,s2⟩,⟨s3,s4⟩,⟨s5,s6⟩,⟨s7,s8⟩⟩:=hS.out;clear hS
 go_enter Tryz.func72,Tryz.ntmps72
 go_wp2
 all_goals try go_quiet (fail)
 all_goals try go_wp2
 go_ret;exact ⟨rfl,((Below.refl _ _).alloc (Nat.le_refl _) _)⟩
theorem bottom_l (x y u v:Int) (w:World) (hS:Smw x y u v):Calls Tryz.prog 73 #[.agg #[.int .i64 (x),.int .i64 (y),.int .i64 (u),.int .i64 (v)]] w fun e w'=>e=.returned (.int .i64 (y+v))∧Below w.heap.size w w':=by
 obtain ⟨⟨s1,s2⟩,⟨s3,s4⟩,⟨s5,s6⟩,⟨s7,s8⟩⟩:=hS.out;clear hS
 go_enter Tryz.func73,Tryz.ntmps73
 go_wp2
 all_goals try go_quiet (fail)
 all_goals try go_wp2
 go_ret;exact ⟨rfl,((Below.refl _ _).alloc (Nat.le_refl _) _)⟩
theorem corners_l (l t r b:Int) (w:World) (hS:Smw l t r b) :
  Calls Tryz.prog 105 #[.int .i64 l,.int .i64 t,.int .i64 r,.int .i64 b] w fun e w'=>e=.returned (.agg #[.int .i64 (l),.int .i64 (t),.int .i64 (r-l),.int .i64 (b-t)])∧Below w.heap.size w w':=by
 obtain ⟨⟨s1,s2⟩,⟨s3,s4⟩,⟨s5,s6⟩,⟨s7,s8⟩⟩:=hS.out;clear hS
 go_enter Tryz.func105,Tryz.ntmps105
 go_wp2;exact bodyPost_ret (v:=.agg #[.int .i64 (l),.int .i64 (t),.int .i64 (r-l),.int .i64 (b-t)]) (by simp [results,Tryz.results105,go_sem]) rfl ⟨rfl,(Below.refl _ _).alloc (Nat.le_refl _) _⟩
theorem meet_nol (x y u v x' y' u' v':Int) (w:World) (h1:Lw x y u v) (h2:Lw x' y' u' v') (h3:hitB x y u v x' y' u' v'=false) :
  Calls Tryz.prog 69 #[.agg #[.int .i64 (x),.int .i64 (y),.int .i64 (u),.int .i64 (v)],.agg #[.int .i64 (x'),.int .i64 (y'),.int .i64 (u'),.int .i64 (v')]] w fun e w'=>(e=.returned (.tuple #[.agg #[.int .i64 (0),.int .i64 (0),.int .i64 (0),.int .i64 (0)],.bool false]))∧Below w.heap.size w w':=by
 obtain ⟨m1,m2,m3,m4,m5,m6,m7,m8⟩:=meet_bdl h1 h2;have S1:=Smw_lw h1;have S2:=Smw_lw h2;have S3:Smw (mx x x') (mx y y') (mn (x+u) (x'+u')) (mn (y+v) (y'+v')):=Smw_of (by omega);rw [hitB_not] at h3
 by_cases h4:mn (x+u) (x'+u')-mx x x'≤0
 all_goals
  go_enter Tryz.func69,Tryz.ntmps69
  go_wp2_with fail
  refine wp_named (fun W1 e1=>?_);replace e1:=hD e1;refine wp_region_grow 21 2 (·<22) (by kernel_rfl) (by kernel_rfl) rfl ?_
  iterate 21 (refine wpG_step (fun K hK=>?_);apply Exists.intro;refine ⟨.inl ⟨rfl,fun w' hw'=>?_⟩,?_⟩;(focus ((obtain ⟨hc,hf⟩:=bcell hw'.out);(have hcS:=bcellS hw'.out);go_simp <;> first | rfl|(go_at_call 72;exact right_l _ _ _ _ _ (by assumption))|(go_at_call 73;exact bottom_l _ _ _ _ _ (by assumption))|(go_at_call 105;exact corners_l _ _ _ _ _ (by assumption))));(go_simp;refine hK _ ?_;clear hK K))
  refine wpG_nil ?_;refine wpK_one (i:=21) (by kernel_rfl) rfl rfl (by kernel_rfl) (fun w1_0 h1_0=>?_);go_simp;refine ⟨Gr.alloc _ _,?_⟩;refine wpK_tail (by kernel_rfl) (fun w1_9 h1_9=>?_);obtain ⟨hc1_9,hf1_9⟩:=bcell h1_9.out;refine wpAny_one (i:=22) (by kernel_rfl) rfl rfl ?_;go_simp;refine wpAny_end (by kernel_rfl) ?_
  have s1_a:W1.heap.size≤w1_9.heap.size:=by rw [e1.out];exact Nat.le_trans h1_0.out.size (Nat.le_trans (by simp) h1_9.out.size)
  have s1_b:W1.heap.size≤w1_0.heap.size:=by rw [e1.out];exact h1_0.out.size
  have s1_c:w1_0.heap.size<w1_9.heap.size:=by have:=h1_9.out.size;simp at this;omega
  have b1_a:Below W1.heap.size W1 w1_9:=by rw [e1.out];exact bgrow (balloc (bgrow (Below.refl _ _).drew h1_0)) h1_9
  refine NoPan.gen (fun wf=>Below W1.heap.size W1 wf∧W1.heap.size≤w1_0.heap.size∧w1_0.heap.size<wf.heap.size∧wf.cell? ⟨w1_0.heap.size,0,none⟩=some (.int .i64 (mx x x'))∧wf.frozen? ⟨w1_0.heap.size,0,none⟩=false∧wf.cell? ⟨w1_0.heap.size,1,none⟩=some (.int .i64 (mx y y'))∧wf.frozen? ⟨w1_0.heap.size,1,none⟩=false∧wf.cell? ⟨w1_0.heap.size,2,none⟩=some (.int .i64 (mn (x+u) (x'+u')-mx x x'))∧wf.frozen? ⟨w1_0.heap.size,2,none⟩=false∧wf.cell? ⟨w1_0.heap.size,3,none⟩=some (.int .i64 (mn (y+v) (y'+v')-mx y y'))∧wf.frozen? ⟨w1_0.heap.size,3,none⟩=false) ?_ (fun wf1 hwf1=>?_)
  ·refine ⟨by repeat (first | exact b1_a|(refine bset ?_ ?_;rotate_left;((try dsimp only);omega))),?_⟩;refine ⟨s1_b,?_⟩;refine ⟨by simp;omega,?_⟩;go_simp
  generalize hgb1:w1_0.heap.size=b1 at *;have E:=e1.out;subst E;obtain ⟨hB1,hl1,hu1,c1_0,f1_0,c1_1,f1_1,c1_2,f1_2,c1_3,f1_3⟩:=hwf1
  try simp only [World.size_alloc] at hl1
  clear hgb1 e1 hc1_9 hf1_9 s1_a s1_b s1_c b1_a h1_9 w1_9 h1_0 w1_0;obtain ⟨hc1,hf1⟩:=bcell hB1;go_wp2
  exact bodyPost_ret (v:=.tuple #[.agg #[.int .i64 (0),.int .i64 (0),.int .i64 (0),.int .i64 (0)],.bool false]) (by simp only [results,Tryz.results69];go_simp) rfl ⟨rfl,(by repeat (first | with_reducible exact Below.refl _ _ | with_reducible assumption | with_reducible refine balloc ?_|(with_reducible refine bset ?_ ?_;rotate_left;((try dsimp only);omega)) | refine bkeep2 ?_ (by assumption) | with_reducible refine Below.drew ?_))⟩
theorem meet_yesl (x y u v x' y' u' v':Int) (w:World) (h1:Lw x y u v) (h2:Lw x' y' u' v') (h3:hitB x y u v x' y' u' v'=true) :
  Calls Tryz.prog 69 #[.agg #[.int .i64 (x),.int .i64 (y),.int .i64 (u),.int .i64 (v)],.agg #[.int .i64 (x'),.int .i64 (y'),.int .i64 (u'),.int .i64 (v')]] w fun e w'=>(e=.returned (.tuple #[.agg #[.int .i64 (mx x x'),.int .i64 (mx y y'),.int .i64 (mn (x+u) (x'+u')-mx x x'),.int .i64 (mn (y+v) (y'+v')-mx y y')],.bool true]))∧Below w.heap.size w w':=by
 obtain ⟨m1,m2,m3,m4,m5,m6,m7,m8⟩:=meet_bdl h1 h2;have S1:=Smw_lw h1;have S2:=Smw_lw h2;have S3:Smw (mx x x') (mx y y') (mn (x+u) (x'+u')) (mn (y+v) (y'+v')):=Smw_of (by omega);rw [hitB_iff] at h3;obtain ⟨h4,h5⟩:=h3
 all_goals
  go_enter Tryz.func69,Tryz.ntmps69
  go_wp2_with fail
  refine wp_named (fun W1 e1=>?_);replace e1:=hD e1;refine wp_region_grow 21 2 (·<22) (by kernel_rfl) (by kernel_rfl) rfl ?_
  iterate 21 (refine wpG_step (fun K hK=>?_);apply Exists.intro;refine ⟨.inl ⟨rfl,fun w' hw'=>?_⟩,?_⟩;(focus ((obtain ⟨hc,hf⟩:=bcell hw'.out);(have hcS:=bcellS hw'.out);go_simp <;> first | rfl|(go_at_call 72;exact right_l _ _ _ _ _ (by assumption))|(go_at_call 73;exact bottom_l _ _ _ _ _ (by assumption))|(go_at_call 105;exact corners_l _ _ _ _ _ (by assumption))));(go_simp;refine hK _ ?_;clear hK K))
  refine wpG_nil ?_;refine wpK_one (i:=21) (by kernel_rfl) rfl rfl (by kernel_rfl) (fun w1_0 h1_0=>?_);go_simp;refine ⟨Gr.alloc _ _,?_⟩;refine wpK_tail (by kernel_rfl) (fun w1_9 h1_9=>?_);obtain ⟨hc1_9,hf1_9⟩:=bcell h1_9.out;refine wpAny_one (i:=22) (by kernel_rfl) rfl rfl ?_;go_simp;refine wpAny_end (by kernel_rfl) ?_
  have s1_a:W1.heap.size≤w1_9.heap.size:=by rw [e1.out];exact Nat.le_trans h1_0.out.size (Nat.le_trans (by simp) h1_9.out.size)
  have s1_b:W1.heap.size≤w1_0.heap.size:=by rw [e1.out];exact h1_0.out.size
  have s1_c:w1_0.heap.size<w1_9.heap.size:=by have:=h1_9.out.size;simp at this;omega
  have b1_a:Below W1.heap.size W1 w1_9:=by rw [e1.out];exact bgrow (balloc (bgrow (Below.refl _ _).drew h1_0)) h1_9
  refine NoPan.gen (fun wf=>Below W1.heap.size W1 wf∧W1.heap.size≤w1_0.heap.size∧w1_0.heap.size<wf.heap.size∧wf.cell? ⟨w1_0.heap.size,0,none⟩=some (.int .i64 (mx x x'))∧wf.frozen? ⟨w1_0.heap.size,0,none⟩=false∧wf.cell? ⟨w1_0.heap.size,1,none⟩=some (.int .i64 (mx y y'))∧wf.frozen? ⟨w1_0.heap.size,1,none⟩=false∧wf.cell? ⟨w1_0.heap.size,2,none⟩=some (.int .i64 (mn (x+u) (x'+u')-mx x x'))∧wf.frozen? ⟨w1_0.heap.size,2,none⟩=false∧wf.cell? ⟨w1_0.heap.size,3,none⟩=some (.int .i64 (mn (y+v) (y'+v')-mx y y'))∧wf.frozen? ⟨w1_0.heap.size,3,none⟩=false) ?_ (fun wf1 hwf1=>?_)
  ·refine ⟨by repeat (first | exact b1_a|(refine bset ?_ ?_;rotate_left;((try dsimp only);omega))),?_⟩;refine ⟨s1_b,?_⟩;refine ⟨by simp;omega,?_⟩;go_simp
  generalize hgb1:w1_0.heap.size=b1 at *;have E:=e1.out;subst E;obtain ⟨hB1,hl1,hu1,c1_0,f1_0,c1_1,f1_1,c1_2,f1_2,c1_3,f1_3⟩:=hwf1
  try simp only [World.size_alloc] at hl1
  clear hgb1 e1 hc1_9 hf1_9 s1_a s1_b s1_c b1_a h1_9 w1_9 h1_0 w1_0;obtain ⟨hc1,hf1⟩:=bcell hB1;go_wp2
  exact bodyPost_ret (v:=.tuple #[.agg #[.int .i64 (mx x x'),.int .i64 (mx y y'),.int .i64 (mn (x+u) (x'+u')-mx x x'),.int .i64 (mn (y+v) (y'+v')-mx y y')],.bool true]) (by simp only [results,Tryz.results69];go_simp) rfl ⟨rfl,(by repeat (first | with_reducible exact Below.refl _ _ | with_reducible assumption | with_reducible refine balloc ?_|(with_reducible refine bset ?_ ?_;rotate_left;((try dsimp only);omega)) | refine bkeep2 ?_ (by assumption) | with_reducible refine Below.drew ?_))⟩
theorem smeet_yesl (x y u v x' y' u' v':Int) (w:World) (h1:Lw x y u v) (h2:Lw x' y' u' v') (h3:hitB x y u v x' y' u' v'=true) :
  Calls Tryz.prog 52 #[.agg #[.int .i64 (x),.int .i64 (y),.int .i64 (u),.int .i64 (v)],.agg #[.int .i64 (x'),.int .i64 (y'),.int .i64 (u'),.int .i64 (v')]] w fun e w'=>e=.returned (.tuple #[.agg #[.int .i64 (mx x x'),.int .i64 (mx y y'),.int .i64 (mn (x+u) (x'+u')-mx x x'),.int .i64 (mn (y+v) (y'+v')-mx y y')],.bool true])∧Below w.heap.size w w':=by
 obtain ⟨m1,m2,m3,m4,m5,m6,m7,m8⟩:=meet_bdl h1 h2;obtain ⟨a1,a2,a3,a4,a5,a6,a7,a8⟩:=h1.out;obtain ⟨b1,b2,b3,b4,b5,b6,b7,b8⟩:=h2.out;obtain ⟨g1,g2⟩:=hitB_iff.1 h3;clear h1 h2 h3
 go_enter Tryz.func52,Tryz.ntmps52
 go_wp2
 exact bodyPost_ret (v:=.tuple #[.agg #[.int .i64 (mx x x'),.int .i64 (mx y y'),.int .i64 (mn (x+u) (x'+u')-mx x x'),.int .i64 (mn (y+v) (y'+v')-mx y y')],.bool true]) (by simp only [results,Tryz.results52];go_simp) rfl ⟨rfl,(by repeat (first | with_reducible exact Below.refl _ _ | with_reducible assumption | with_reducible refine balloc ?_|(with_reducible refine bset ?_ ?_;rotate_left;((try dsimp only);omega)) | refine bkeep2 ?_ (by assumption) | with_reducible refine Below.drew ?_))⟩
theorem smeet_nol (x y u v x' y' u' v':Int) (w:World) (h1:Lw x y u v) (h2:Lw x' y' u' v') (h3:hitB x y u v x' y' u' v'=false) :
  Calls Tryz.prog 52 #[.agg #[.int .i64 (x),.int .i64 (y),.int .i64 (u),.int .i64 (v)],.agg #[.int .i64 (x'),.int .i64 (y'),.int .i64 (u'),.int .i64 (v')]] w fun e w'=>e=.returned (.tuple #[.agg #[.int .i64 (0),.int .i64 (0),.int .i64 (0),.int .i64 (0)],.bool false])∧Below w.heap.size w w':=by
 obtain ⟨m1,m2,m3,m4,m5,m6,m7,m8⟩:=meet_bdl h1 h2;obtain ⟨a1,a2,a3,a4,a5,a6,a7,a8⟩:=h1.out;obtain ⟨b1,b2,b3,b4,b5,b6,b7,b8⟩:=h2.out;have g:=hitB_not.1 h3;clear h1 h2 h3
 by_cases g1:mn (x+u) (x'+u')-mx x x'≤0
 all_goals
  go_enter Tryz.func52,Tryz.ntmps52
  go_wp2
  exact bodyPost_ret (v:=.tuple #[.agg #[.int .i64 (0),.int .i64 (0),.int .i64 (0),.int .i64 (0)],.bool false]) (by simp only [results,Tryz.results52];go_simp) rfl ⟨rfl,(by repeat (first | with_reducible exact Below.refl _ _ | with_reducible assumption | with_reducible refine balloc ?_|(with_reducible refine bset ?_ ?_;rotate_left;((try dsimp only);omega)) | refine bkeep2 ?_ (by assumption) | with_reducible refine Below.drew ?_))⟩
end
def rcN (M:List Re) (i:Nat):Re:=(M[i]?).getD ⟨0,0,0,0⟩
def paX (L:List Nd) (i:Nat):Nat:=(((L[i]?).map Nd.pa).getD 0).toNat
theorem rcN_at {M:List Re} {i:Nat} {S:Re} (h:M[i]?=some S):rcN M i=S:=by unfold rcN;rw [h];rfl
theorem GRB.sl {lo:Nat} {w:World} {x:Value} {M:List Re} (h:GRB lo w x M):∃ A1,x=.slice A1 M.length M.length∧(0<M.length→∃ g,A1=some ⟨g,0,none⟩∧lo≤g∧ReB w g M):=by
 rcases h with ⟨rfl,rfl⟩ | ⟨g,n,rfl,rfl,hg,hk⟩
 ·exact ⟨none,rfl,fun h=>absurd h (by simp)⟩
 ·exact ⟨_,rfl,fun _=>⟨g,rfl,hg,hk⟩⟩
theorem reB_cells {w:World} {g i:Nat} {M:List Re} {S:Re} (h:ReB w g M) (hi:M[i]?=some S):w.cell? ⟨g,i*4,none⟩=some (.int .i64 S.x)∧w.cell? ⟨g,i*4+1,none⟩=some (.int .i64 S.y)∧w.cell? ⟨g,i*4+2,none⟩=some (.int .i64 S.u)∧w.cell? ⟨g,i*4+3,none⟩=some (.int .i64 S.v):=by
 obtain ⟨cs,hh,hs,hc⟩:=h;have h:=hc i S hi;exact ⟨(cellS hh _).trans (by simpa using h 0 _ rfl),(cellS hh _).trans (h 1 _ rfl),(cellS hh _).trans (h 2 _ rfl),(cellS hh _).trans (h 3 _ rfl)⟩
theorem lyL_ok {L:List Nd} {a b:Int} (h:0<(lyL L a b).length):TrOK L∧(lyL L a b).length=L.length∧∀ S∈lyL L a b,Lw S.x S.y S.u S.v:=by
 unfold lyL at *
 split at h
 ·rename_i e
  rw [if_pos e];rw [Bool.and_eq_true] at e;have hT:=trOK_of e.1;refine ⟨hT,by simp,fun S hS=>?_⟩;obtain ⟨k,hk,rfl⟩:=List.mem_map.1 hS;obtain ⟨q,hx,hy⟩:=lrM_room hT (rgG_yes e.2).1 (rgG_yes e.2).2 (List.mem_range.1 hk);obtain ⟨q1,q2⟩:=rqW_iff.1 q;unfold Lw;omega
 ·simp at h
def inR (S T:Re):Bool:=insB S.x S.y S.u S.v T.x T.y T.u T.v
def clF (L:List Nd) (M:List Re) (i:Nat):Bool:=decide (0<i)&&!inR (rcN M (paX L i)) (rcN M i)
section
attribute [local go_sem] Oper.semAt_some
attribute [local go_sem] givesUpon_value givesUpon_skip givesUpon_enter
def hitRe (S T:Re):Bool:=hitB S.x S.y S.u S.v T.x T.y T.u T.v
def meetRe (S T:Re):Re:=⟨mx S.x T.x,mx S.y T.y,mn (S.x+S.u) (T.x+T.u)-mx S.x T.x,mn (S.y+S.v) (T.y+T.v)-mx S.y T.y⟩
def metRe (S T:Re):Re:=if hitRe S T=true then meetRe S T else ⟨0,0,0,0⟩
def LwR (S:Re):Prop:=Lw S.x S.y S.u S.v
theorem meet_v (S T:Re) (w:World) (h:LwR S) (k:LwR T):Calls Tryz.prog 69 #[.agg (valsRe S).toArray,.agg (valsRe T).toArray] w fun e w'=>e=.returned (.tuple #[.agg (valsRe (metRe S T)).toArray,.bool (hitRe S T)])∧Below w.heap.size w w':=by
 unfold metRe
 cases e:hitRe S T
 ·exact meet_nol _ _ _ _ _ _ _ _ w h k e
 ·exact meet_yesl _ _ _ _ _ _ _ _ w h k e
theorem smeet_v (S T:Re) (w:World) (h:LwR S) (k:LwR T):Calls Tryz.prog 52 #[.agg (valsRe S).toArray,.agg (valsRe T).toArray] w fun e w'=>e=.returned (.tuple #[.agg (valsRe (metRe S T)).toArray,.bool (hitRe S T)])∧Below w.heap.size w w':=by
 unfold metRe
 cases e:hitRe S T
 ·exact smeet_nol _ _ _ _ _ _ _ _ w h k e
 ·exact smeet_yesl _ _ _ _ _ _ _ _ w h k e
def seL (M:List Re):Re→List Nat→Option Re
 | S,[]=>some S
 | S,k :: ks=>if hitRe S (rcN M k)=true then seL M (meetRe S (rcN M k)) ks else none
def upC {n:Nat} (x:{k:Nat // k<n}):Int:=(x.1:Int)
def zRe:Array Value:=#[.int .i64 0,.int .i64 0,.int .i64 0,.int .i64 0]
structure SeW (w:World) (A:Option Addr) (c n g:Nat) (S:Re) (W:World):Prop where
 t:W.heap[w.heap.size]?=some (.cells #[.slice A n c] 30 (0,0))
 r:W.heap[w.heap.size+1]?=some (.cells #[.slice (some ⟨g,0,none⟩) n n] 51 (0,0))
 p:W.heap[w.heap.size+1+1]?=some (.cells zRe 38 (0,0))
 q:W.heap[w.heap.size+1+1+1]?=some (.cells #[.bool false] 4 (0,0))
 s:W.heap[w.heap.size+1+1+1+1]?=some (.cells (valsRe S).toArray 38 (0,0))
 l:Below w.heap.size w W
 z:w.heap.size+7≤W.heap.size
def seVal:Option Re→Value
 | none=>.tuple #[.agg zRe,.bool false]
 | some S=>.tuple #[.agg (valsRe S).toArray,.bool true]
def AlV (n0:Nat) (w:World) (v:Value):Prop:=∃ g:Nat,v=.pointer (some ⟨g,0,none⟩)∧n0≤g∧w.heap[g]?=some (.cells zRe 38 (0,0))
theorem AlV.keep {n0:Nat} {w w':World} {v:Value} (h:AlV n0 w v) (hb:Below w.heap.size w w'):AlV n0 w' v:=let ⟨g,e,hl,hc⟩:=h;⟨g,e,hl,(hb.block g (ltS hc)).trans hc⟩
structure SeX (w:World) (W:World):Prop where
 p:W.heap[w.heap.size+1+1]?=some (.cells zRe 38 (0,0))
 q:W.heap[w.heap.size+1+1+1]?=some (.cells #[.bool false] 4 (0,0))
 l:Below w.heap.size w W
 z:w.heap.size+7≤W.heap.size
theorem SeX.grown {w X Y:World} {row:Option Nat} (h:SeX w X) (hg:X.grownBy Y row) (hr:∀ k,row=some k→w.heap.size+7≤k):SeX w Y :=
 have hz:=h.z
 have f:∀ k,k<w.heap.size+7→Y.heap[k]?=X.heap[k]?:=fun k hk=>hg.block k (by omega) (fun e=>by have:=hr k e.symm;omega)
 ⟨(f _ (by omega)).trans h.p,(f _ (by omega)).trans h.q,h.l.grown hg h.l.size (fun k e=>by have:=hr k e;omega),Nat.le_trans hz hg.size⟩
theorem SeW.grown {w X Y:World} {A:Option Addr} {c n g:Nat} {S:Re} {row:Option Nat} (h:SeW w A c n g S X) (hg:X.grownBy Y row) (hr:∀ k,row=some k→w.heap.size+7≤k):SeW w A c n g S Y :=
 have hz:=h.z
 have f:∀ k,k<w.heap.size+7→Y.heap[k]?=X.heap[k]?:=fun k hk=>hg.block k (by omega) (fun e=>by have:=hr k e.symm;omega)
 ⟨(f _ (by omega)).trans h.t,(f _ (by omega)).trans h.r,(f _ (by omega)).trans h.p,(f _ (by omega)).trans h.q,(f _ (by omega)).trans h.s,h.l.grown hg h.l.size (fun k e=>by have:=hr k e;omega),Nat.le_trans hz hg.size⟩
theorem SeW.below {w X Y:World} {A:Option Addr} {c n g:Nat} {S:Re} (h:SeW w A c n g S X) (hb:Below X.heap.size X Y):SeW w A c n g S Y :=
 have hz:=h.z
 have f:∀ k,k<w.heap.size+7→Y.heap[k]?=X.heap[k]?:=fun k hk=>hb.block k (by omega)
 ⟨(f _ (by omega)).trans h.t,(f _ (by omega)).trans h.r,(f _ (by omega)).trans h.p,(f _ (by omega)).trans h.q,(f _ (by omega)).trans h.s,bkeep2 h.l hb,Nat.le_trans hz hb.size⟩
section
variable {P:Program}
end
end
def wsL (f:Nat→Int × Int):Nat→List Int
 | 0=>[]
 | n+1=>wsL f n ++ [(f n).1,(f n).2]
theorem afAdd (b off n:Nat):(⟨b,off,none⟩:Addr).add n=⟨b,off+n,none⟩:=by
 unfold Addr.add
 split
 ·rename_i h;subst h;rfl
 ·rfl
theorem newW2 (W:World) (x y:Int) (T:TypeId):∀ (j:Nat) (u:Value),[Value.int .i64 x,Value.int .i64 y][j]?=some u→(W.alloc (.cells #[.int .i64 x,.int .i64 y] T)).cell? ((⟨W.heap.size,0,none⟩:Addr).add j)=some u:=fun j u h=>by
 rw [afAdd,Nat.zero_add];exact (cellS (newS W _) j).trans (by simpa using h)
def ovI (M:List Re) (ks:List Nat) (n:Nat):Nat→List Int
 | 0=>[]
 | m+1=>ovI M ks n m ++ (if hitRe (rcN M (ks.getD n 0)) (rcN M (ks.getD (n+1+m) 0))=true then [(ks.getD n 0:Int),(ks.getD (n+1+m) 0:Int)] else [])
def ovO (M:List Re) (ks:List Nat):Nat→List Int
 | 0=>[]
 | n+1=>ovO M ks n ++ ovI M ks n (ks.length-(n+1))
theorem ovI_len (M:List Re) (ks:List Nat) (n:Nat):∀ m,(ovI M ks n m).length≤2*m
 | 0=>Nat.le_refl _
 | m+1=>by
  have:=ovI_len M ks n m
  simp only [ovI,List.length_append]
  split <;> simp <;> omega
theorem ovO_len (M:List Re) (ks:List Nat):∀ n,(ovO M ks n).length≤2*ks.length*n
 | 0=>Nat.zero_le _
 | n+1=>by
  have:=ovO_len M ks n
  have:=ovI_len M ks n (ks.length-(n+1))
  simp only [ovO,List.length_append,Nat.mul_add,Nat.mul_one];omega
theorem overlaps_v (g:Nat) (M:List Re) (B:Option Addr) (cb:Nat) (ks:List Nat) (w:World) (hM:ReB w g M) (hL:∀ S∈M,LwR S) (hk:∀ k∈ks,k<M.length) (h10:ks.length≤10) (hm10:M.length≤10) (hcb:ks.length≤cb) (hB:NV w B (ks.map fun (k:Nat)=>(k:Int))) :
  Calls Tryz.prog 53 #[.slice (some ⟨g,0,none⟩) M.length M.length,.slice B ks.length cb] w fun e w'=>(∃ v,e=.returned v∧GO w.heap.size w' v (ovO M ks ks.length))∧Below w.heap.size w w':=by
 obtain ⟨ti,tz,ti1,ti2,ti3,ti4,ti5⟩:=int_infoW;have HM:=hD hM;have HNB:=hD hB;have HKL:=hD hk;clear hM hB hk
 go_enter Tryz.func53,Tryz.ntmps53
 go_wp2_with fail
 go_loopw [5,14] (fun out iv wr=>∃ n:Nat,n≤ks.length∧iv=.int .i64 (n:Int)∧wr.ownsRow w.heap.size 3 1 out (ovO M ks n).length (nvalsW (ovO M ks n))∧Below w.heap.size w wr) (fun _ iv _=>ks.length-(intOf iv).toNat)
 case atStart=>exact ⟨0,Nat.zero_le _,rfl,World.ownsRow_nil _ _ _ _,Below.refl _ _⟩
 case round =>
  obtain ⟨n,hn,rfl,ho,hbr⟩:=hrel
  by_cases hlt:n<ks.length
  ·have hd:decide ((n:Int)<(ks.length:Int))=true:=decide_eq_true (by omega)
   have hdn:(n:Int)<(ks.length:Int):=by omega
   obtain ⟨b,off,rfl,hb,hps⟩:=HNB.out.cells (by rw [List.length_map];omega);have HPS:=hD hps
   obtain ⟨kn,hkn⟩:∃ kn,ks[n]?=some kn:=⟨_,List.getElem?_eq_getElem hlt⟩
   have xn:wr.cell? ⟨b,off+n,none⟩=some (.int .i64 (kn:Int)):=(hbr.cell (p:=⟨b,off+n,none⟩) hb).trans (hps n _ (by rw [List.getElem?_map,hkn];rfl))
   have hgn:ks.getD n 0=kn:=by rw [List.getD_eq_getElem?_getD,hkn];rfl
   have HO:=hD ho;have HB:=hD hbr;have HKN:=hD hkn;have HGN:=hD hgn;have hol:=ovO_len M ks n;clear hps hkn hgn ho hbr;have hd1:decide ((n:Int)+1≤(ks.length:Int))=true:=decide_eq_true (by omega)
   have hsl:((ks.length:Int)-((n:Int)+1)).toNat=ks.length-(n+1):=by omega
   by_cases hcn:cb=n+1
   ·subst hcn
    go_wp2_with fail
    go_loopw [5,24] (fun out iv wr=>∃ m:Nat,m≤ks.length-(n+1)∧iv=.int .i64 (m:Int)∧wr.ownsRow w.heap.size 3 1 out (ovO M ks n ++ ovI M ks n m).length (nvalsW (ovO M ks n ++ ovI M ks n m))∧Below w.heap.size w wr) (fun _ iv _=>ks.length-(n+1)-(intOf iv).toNat)
    case atStart=>exact ⟨0,Nat.zero_le _,rfl,by simpa [ovI] using HO.out,HB.out⟩
    case round =>
     obtain ⟨m,hm,rfl,ho2,hb2⟩:=hrel;clear HO HB xn
     by_cases hlm:m<ks.length-(n+1)
     ·exact absurd hlm (by omega)
     ·obtain rfl:m=ks.length-(n+1):=by omega
      have hdm:decide (((ks.length-(n+1):Nat):Int)<((ks.length-(n+1):Nat):Int))=false:=by simp
      have HO2:=hD ho2;have HB2:=hD hb2;clear ho2 hb2;go_wp2
      go_roundw
      case rel=>exact ⟨n+1,by omega,by go_num,HO2.out,HB2.out⟩
      case measure=>simp [intOf];omega
   ·go_wp2_with fail
    go_loopw [5,24] (fun out iv wr=>∃ m:Nat,m≤ks.length-(n+1)∧iv=.int .i64 (m:Int)∧wr.ownsRow w.heap.size 3 1 out (ovO M ks n ++ ovI M ks n m).length (nvalsW (ovO M ks n ++ ovI M ks n m))∧Below w.heap.size w wr) (fun _ iv _=>ks.length-(n+1)-(intOf iv).toNat)
    case atStart=>exact ⟨0,Nat.zero_le _,rfl,by simpa [ovI] using HO.out,HB.out⟩
    case round =>
     obtain ⟨m,hm,rfl,ho2,hb2⟩:=hrel;clear HO HB xn
     by_cases hlm:m<ks.length-(n+1)
     ·obtain ⟨km,hkm⟩:∃ km,ks[n+1+m]?=some km:=⟨_,List.getElem?_eq_getElem (by omega)⟩
      have hgm:ks.getD (n+1+m) 0=km:=by rw [List.getD_eq_getElem?_getD,hkm];rfl
      have xm:wr.cell? ⟨b,off+(n+1)+m,none⟩=some (.int .i64 (km:Int)):=by
       rw [Nat.add_assoc];exact (hb2.cell (p:=⟨b,off+(n+1+m),none⟩) hb).trans (HPS.out (n+1+m) _ (by rw [List.getElem?_map,hkm];rfl))
      have hln:kn<M.length:=HKL.out kn (List.mem_of_getElem? HKN.out);have hlmm:km<M.length:=HKL.out km (List.mem_of_getElem? hkm)
      obtain ⟨S,hS⟩:∃ S,M[kn]?=some S:=⟨_,List.getElem?_eq_getElem hln⟩
      obtain ⟨T,hT⟩:∃ T,M[km]?=some T:=⟨_,List.getElem?_eq_getElem hlmm⟩
      have hre:=HM.out.keep hb2;obtain ⟨c0,c1,c2,c3⟩:=reB_cells hre hS;obtain ⟨d0,d1,d2,d3⟩:=reB_cells hre hT;have hl:=hre.lt;have LS:=hL S (List.mem_of_getElem? hS);have LT:=hL T (List.mem_of_getElem? hT)
      obtain ⟨Z,hZ⟩:∃ Z,metRe S T=Z:=⟨_,rfl⟩
      obtain ⟨q,hq⟩:∃ q,hitRe S T=q:=⟨_,rfl⟩
      have hov:ovI M ks n (m+1)=ovI M ks n m ++ (if q=true then [(kn:Int),(km:Int)] else []):=by simp only [ovI];rw [HGN.out,hgm,rcN_at hS,rcN_at hT,hq]
      have HOV:=hD hov
      have HCA:Hid (∀ W':World,Calls Tryz.prog 69 #[.agg #[.int .i64 (S.x),.int .i64 (S.y),.int .i64 (S.u),.int .i64 (S.v)],.agg #[.int .i64 (T.x),.int .i64 (T.y),.int .i64 (T.u),.int .i64 (T.v)]] W' fun e w'=>e=.returned (.tuple #[.agg #[.int .i64 (Z.x),.int .i64 (Z.y),.int .i64 (Z.u),.int .i64 (Z.v)],.bool q])∧Below W'.heap.size W' w'):=hD fun W'=>by
       have:=meet_v S T W' LS LT
       rw [hZ,hq] at this;exact this
      have hdm:decide ((m:Int)<((ks.length-(n+1):Nat):Int))=true:=decide_eq_true (by omega)
      have hdm2:(m:Int)<((ks.length-(n+1):Nat):Int):=by omega
      have hdn2:(kn:Int)<(M.length:Int):=by omega
      have hdn3:(km:Int)<(M.length:Int):=by omega
      have HO2:=hD ho2;have HB2:=hD hb2;have hil:=ovI_len M ks n m;have hwb:w.heap.size≤wr.heap.size:=hb2.size;clear hkm hgm hS hT hre LS LT hZ hq hov ho2 hb2 hln hlmm
      go_wp2_with fail
      refine wp_named (fun W1 e1=>?_);replace e1:=hD e1;refine wp_region_grow 12 3 (fun i=>decide (i<13)&&i != 11) (by kernel_rfl) (by kernel_rfl) rfl ?_
      iterate 12 (refine wpG_step (fun K hK=>?_);apply Exists.intro;refine ⟨.inl ⟨rfl,fun w' hw'=>?_⟩,?_⟩;(focus ((obtain ⟨hc,hf⟩:=bcell hw'.out);(have hcS:=bcellS hw'.out);go_simp <;> first | rfl|(go_at_call 69;exact HCA.out _)));(go_simp;refine hK _ ?_;clear hK K))
      refine wpG_nil ?_;refine wpK_one (i:=12) (by kernel_rfl) rfl rfl (by kernel_rfl) (fun w1_0 h1_0=>?_);go_simp;refine ⟨Gr.alloc _ _,?_⟩;refine wpK_tail (by kernel_rfl) (fun w1_9 h1_9=>?_);obtain ⟨hc1_9,hf1_9⟩:=bcell h1_9.out;refine wpAny_one (i:=13) (by kernel_rfl) rfl rfl ?_;go_simp;refine wpAny_one (i:=14) (by kernel_rfl) rfl rfl ?_;go_simp;refine wpAny_end (by kernel_rfl) ?_
      have s1_a:W1.heap.size≤w1_9.heap.size:=by rw [e1.out];exact Nat.le_trans h1_0.out.size (Nat.le_trans (by simp) h1_9.out.size)
      have s1_b:W1.heap.size≤w1_0.heap.size:=by rw [e1.out];exact h1_0.out.size
      have s1_c:w1_0.heap.size<w1_9.heap.size:=by have:=h1_9.out.size;simp at this;omega
      have b1_a:Below W1.heap.size W1 w1_9:=by rw [e1.out];exact bgrow (balloc (bgrow (Below.refl _ _).drew h1_0)) h1_9
      refine NoPan.gen (fun wf=>Below W1.heap.size W1 wf∧W1.heap.size≤w1_0.heap.size∧w1_0.heap.size<wf.heap.size∧wf.cell? ⟨w1_0.heap.size,0,none⟩=some (.int .i64 Z.x)∧wf.frozen? ⟨w1_0.heap.size,0,none⟩=false∧wf.cell? ⟨w1_0.heap.size,1,none⟩=some (.int .i64 Z.y)∧wf.frozen? ⟨w1_0.heap.size,1,none⟩=false∧wf.cell? ⟨w1_0.heap.size,2,none⟩=some (.int .i64 Z.u)∧wf.frozen? ⟨w1_0.heap.size,2,none⟩=false∧wf.cell? ⟨w1_0.heap.size,3,none⟩=some (.int .i64 Z.v)∧wf.frozen? ⟨w1_0.heap.size,3,none⟩=false) ?_ (fun wf1 hwf1=>?_)
      ·refine ⟨by repeat (first | exact b1_a|(refine bset ?_ ?_;rotate_left;((try dsimp only);omega))),?_⟩;refine ⟨s1_b,?_⟩;refine ⟨by simp;omega,?_⟩;go_simp
      generalize hgb1:w1_0.heap.size=b1 at *;have E:=e1.out;subst E;obtain ⟨hB1,hl1,hu1,c1_0,f1_0,c1_1,f1_1,c1_2,f1_2,c1_3,f1_3⟩:=hwf1
      try simp only [World.size_alloc] at hl1
      clear hgb1 e1 hc1_9 hf1_9 s1_a s1_b s1_c b1_a h1_9 w1_9 h1_0 w1_0;obtain ⟨hc1,hf1⟩:=bcell hB1;replace HO2:=hD (own_bw HO2.out hB1);replace HB2:=hD (bkeep2 HB2.out hB1);have hsz1:=hB1.size;clear hB1 hc1 hf1 c0 c1 c2 c3 d0 d1 d2 d3 xm HCA c1_0 c1_1 c1_2 c1_3 f1_0 f1_1 f1_2 f1_3;have hob:=HO2.out.lt;have hwf:w.heap.size≤wf1.heap.size:=HB2.out.size
      cases q
      ·have HQ:=hD (show ovI M ks n (m+1)=ovI M ks n m by rw [HOV.out,if_neg (by simp),List.append_nil]);clear HOV hob;go_wp2
       go_roundw
       case rel=>exact ⟨m+1,by omega,by go_num,by rw [HQ.out];exact HO2.out,HB2.out⟩
       case measure=>simp [intOf];omega
      ·have HQ:=hD (show ovI M ks n (m+1)=ovI M ks n m ++ [(kn:Int),(km:Int)] by rw [HOV.out,if_pos rfl]);clear HOV
       have hla:(ovO M ks n ++ ovI M ks n m).length≤1000:=by
        rw [List.length_append]
        have:2*ks.length*n≤2*10*10:=Nat.mul_le_mul (by omega) (by omega)
        omega
       go_wp2_with (at_builtin;refine wpList_append_own _ rfl _ _ 26 rfl w.heap.size 3 ti tz 1 8 Tryz.underlying26 ti1 ti2 ti3 ti4 ti5 (by decide) _ _ _ rfl (HO2.out.alloc _) ⟨wf1.heap.size,0,none⟩ 2 2 [.int .i64 (kn:Int),.int .i64 (km:Int)] rfl rfl (newW2 _ _ _ _) (by simp [Value.oneCell']) (by simp only [maxLen];omega) (by omega) (by simp;omega) ?_)
       intro v5 w5 how5 hgr5 _
       have hO5:w5.ownsRow w.heap.size 3 1 v5 (ovO M ks n ++ ovI M ks n (m+1)).length (nvalsW (ovO M ks n ++ ovI M ks n (m+1))):=by
        have e:nvalsW (ovO M ks n ++ ovI M ks n m) ++ [.int .i64 (kn:Int),.int .i64 (km:Int)]=nvalsW (ovO M ks n ++ ovI M ks n (m+1)):=by
         rw [HQ.out];simp only [nvalsW,List.map_append,List.map_cons,List.map_nil,List.append_assoc]
        rw [e] at how5
        have e2:(ovO M ks n ++ ovI M ks n (m+1)).length=(ovO M ks n ++ ovI M ks n m).length+2:=by rw [HQ.out,<- List.append_assoc,List.length_append];rfl
        rw [show (ovO M ks n ++ ovI M ks n m).length=(ovO M ks n).length+(ovI M ks n m).length from List.length_append] at e2;rw [e2];exact how5
       have HB5:=hD (below_own (n:=w.heap.size) HB2.out hgr5 (lo:=w.heap.size) (hi:=wf1.heap.size) (fun k hk=>hob k hk) (Nat.le_refl _) (Nat.le_refl _));have HO5:=hD hO5;clear how5 hgr5 hob hO5 HO2 HB2;go_wp2
       go_roundw
       case rel=>exact ⟨m+1,by omega,by go_num,HO5.out,HB5.out⟩
       case measure=>simp [intOf];omega
     ·obtain rfl:m=ks.length-(n+1):=by omega
      have hdm:decide (((ks.length-(n+1):Nat):Int)<((ks.length-(n+1):Nat):Int))=false:=by simp
      have HO2:=hD ho2;have HB2:=hD hb2;clear ho2 hb2;go_wp2
      go_roundw
      case rel=>exact ⟨n+1,by omega,by go_num,HO2.out,HB2.out⟩
      case measure=>simp [intOf];omega
  ·obtain rfl:n=ks.length:=by omega
   have hd:decide ((ks.length:Int)<(ks.length:Int))=false:=by simp
   have HO:=hD ho;have HB:=hD hbr;clear ho hbr;go_wp2;go_ret;exact ⟨⟨_,rfl,GO.of HO.out (by rfl)⟩,HB.out⟩
def ovM (L:List Nd) (a b i:Int):List Int:=if 0<(lyL L a b).length∧rng i 0 ((L.length:Int)-1)=true then ovO (lyL L a b) (kidD L i.toNat) (kidD L i.toNat).length else []
theorem ovM_len (L:List Nd) (a b i:Int):(ovM L a b i).length≤1000:=by
 unfold ovM
 split
 ·rename_i h
  obtain ⟨hT,hl,-⟩:=lyL_ok h.1;have h1:=ovO_len (lyL L a b) (kidD L i.toNat) (kidD L i.toNat).length;have h2:=kidD_len L i.toNat;have h3:=hT.l10
  have:2*(kidD L i.toNat).length*(kidD L i.toNat).length≤2*10*10:=Nat.mul_le_mul (by omega) (by omega)
  omega
 ·simp
section
theorem eqNilO (A:Option Addr) (n c:Nat) (w:World):(binOp .eql 51 (.slice A n c) (.slice none 0 0)).run Tryz.prog w=.ok (.bool A.isNone) w:=Lib.run_eql_slice_nil w _ _ A n c 0 0 Tryz.underlying51
attribute [local go_sem] eqNilO
theorem GO.sl {lo:Nat} {w:World} {v:Value} {M:List Int} (h:GO lo w v M):∃ B cb,v=.slice B M.length cb∧M.length≤cb∧NV w B M:=by
 rcases h with ⟨rfl,rfl⟩ | ⟨g,cap,n,rfl,rfl,_,hk⟩
 ·exact ⟨none,0,rfl,Nat.le_refl _,NV.nil _ _⟩
 ·exact ⟨_,cap,rfl,hk.1,by have:=hk.nr rfl cap;obtain ⟨A2,c2,e,hn⟩:=this;cases e;exact hn⟩
theorem OverlapsIn_v (A:Option Addr) (c k:Nat) (R:List Nr) (a b i:Int) (w:World) (hk:k=R.length) (h:NrV w A R) (hr:RdR w R) (hL:R.length≤1048576) (hm:∀ p∈R,p.n.cs.length≤1048576∧p.n.rs.length≤1048576) :
  Calls Tryz.prog 25 #[.agg #[.slice A k c],.int .i64 a,.int .i64 b,.int .i64 i] w fun e w'=>(∃ x,e=.returned x∧GO w.heap.size w' x (ovM (R.map Nr.n) a b i))∧Below w.heap.size w w':=by
 have hB0:Below w.heap.size w (w.alloc (.cells #[.slice A k c] 30 (0,0))):=balloc (Below.refl _ _);have HX:=hD (newS w (.cells #[.slice A k c] 30 (0,0)));have HB:=hD hB0;have HV:=hD (h.keep hB0);have HR:=hD (hr.keep hB0);have HM:=hD hm;have HK:=hD hk;have x0:=cellS HX.out 0;clear hB0 h hr hm hk
 go_enter Tryz.func25,Tryz.ntmps25
 go_wp2_with fail
 refine (LayoutTree_x A c k R a b _ HK.out HV.out HR.out hL HM.out).mono ?_;rintro e w1 ⟨⟨x,rfl,hx,hnil⟩,hb⟩;clear x0;replace HX:=hbk hb HX;replace HV:=hD (HV.out.keep hb);replace HR:=hD (HR.out.keep hb);replace HB:=hD (bkeep2 HB.out hb);clear hb;have x0:=cellS HX.out 0;have hok:=lyL_ok (L:=R.map Nr.n) (a:=a) (b:=b);have hlen:=lyL_len (R.map Nr.n) a b
 obtain ⟨M,hM⟩:∃ M,lyL (R.map Nr.n) a b=M:=⟨_,rfl⟩
 have HCP:=hD (show ovM (R.map Nr.n) a b i=if 0<M.length∧rng i 0 ((k:Int)-1)=true then ovO M (kidD (R.map Nr.n) i.toNat) (kidD (R.map Nr.n) i.toNat).length else [] by unfold ovM;rw [hM,List.length_map,HK.out]);rw [hM] at hx hok hnil hlen;clear hM
 rcases Nat.eq_zero_or_pos M.length with hz | hz
 ·obtain rfl:=hnil hz;have HN:=hD (show ovM (R.map Nr.n) a b i=[] by rw [HCP.out,if_neg (by omega)]);clear hx hok hnil hz HV HR HCP;go_wp2;go_ret;exact ⟨⟨_,rfl,.inl ⟨rfl,HN.out⟩⟩,HB.out⟩
 ·obtain ⟨hT,hMR,hLw⟩:=hok hz;obtain ⟨A1,rfl,hx1⟩:=hx.sl;obtain ⟨g,rfl,hg,hre⟩:=hx1 hz;rw [List.length_map] at hMR;have HRE:=hD hre;have HT:=hD hT;have HMR:=hD hMR;have HLW:=hD hLw;have HZZ:=hD hz
  have hkl:k≤1048576:=by have:=HK.out;omega
  clear hx hx1 hok hnil hre hT hMR hg hLw hz
  obtain ⟨q,hq⟩:∃ q,rng i 0 ((k:Int)-1)=q:=⟨_,rfl⟩
  have HQ:=hD hq
  go_wp2_with fail
  with_reducible refine (has_v A c k i q _ hkl hq).mono ?_
  rintro e w2 ⟨rfl,hb⟩;clear x0 hq;replace HX:=hbk hb HX;replace HV:=hD (HV.out.keep hb);replace HR:=hD (HR.out.keep hb);replace HRE:=hD (HRE.out.keep hb);replace HB:=hD (bkeep2 HB.out hb);clear hb;have x0:=cellS HX.out 0
  cases q
  ·have HN:=hD (show ovM (R.map Nr.n) a b i=[] by rw [HCP.out,if_neg (by rw [HQ.out];simp)]);clear HV HR HCP;go_wp2;go_ret;exact ⟨⟨_,rfl,.inl ⟨rfl,HN.out⟩⟩,HB.out⟩
  ·obtain ⟨i1,i2⟩:=rng_iff.1 HQ.out;obtain ⟨j,rfl⟩:=Int.eq_ofNat_of_zero_le i1;have HN:=hD (show ovM (R.map Nr.n) a b (j:Int)=ovO M (kidD (R.map Nr.n) j) (kidD (R.map Nr.n) j).length by rw [HCP.out,if_pos ⟨HZZ.out,HQ.out⟩,Int.toNat_natCast]);have HKF:=hD (HK.out ▸ kidsOf_f A c R (j:Int) w2 HV.out hL);clear HCP x0 i1 i2 hkl;have x0:=cellS HX.out 0
   go_wp2_with fail
   refine HKF.out.mono ?_;rintro e w3 ⟨⟨v,rfl,hv⟩,hb⟩;rw [kidsM_eq] at hv
   obtain ⟨ks,hks⟩:∃ ks,kidD (R.map Nr.n) j=ks:=⟨_,rfl⟩
   have hkl:∀ x∈ks,x<M.length:=fun x hx=>by rw [<- hks] at hx;have:=kidD_lt hx;rw [List.length_map] at this;rw [HMR.out];exact this
   have hk10:ks.length≤10:=by rw [<- hks];exact Nat.le_trans (kidD_len _ _) HT.out.l10
   rw [hks] at hv HN;obtain ⟨B,cb,rfl,hcb,hnv⟩:=hv.sl;rw [List.length_map] at hcb ⊢;have hs3:=hb.size;clear x0 HKF hks hv;replace HX:=hbk hb HX;replace HRE:=hD (HRE.out.keep hb);replace HB:=hD (bkeep2 HB.out hb);clear hb;have hs:w.heap.size≤w3.heap.size:=HB.out.size
   go_wp2_with fail
   refine (overlaps_v g M B cb ks _ HRE.out HLW.out hkl hk10 hlen hcb hnv).mono ?_;rintro e w4 ⟨⟨v,rfl,hv⟩,hb⟩;have HG:=hD (hv.mono hs);replace HB:=hD (bkeep2 HB.out hb);clear hv hb;go_wp2;go_ret;exact ⟨⟨_,rfl,by rw [HN.out];exact HG.out⟩,HB.out⟩
end
theorem sOverlapsIn_v (A:Option Addr) (c k:Nat) (R:List Nr) (a b i:Int) (w:World) (hk:k=R.length) (h:NrV w A R) (hr:RdR w R) (hL:R.length≤1048576) (hm:∀ p∈R,p.n.cs.length≤1048576∧p.n.rs.length≤1048576) :
  Calls Tryz.prog 24 #[.agg #[.slice A k c],.int .i64 a,.int .i64 b,.int .i64 i] w fun e w'=>(∃ x,e=.returned x∧NR w' x (ovM (R.map Nr.n) a b i))∧Below w.heap.size w w':=by
 obtain ⟨ti,tz,ti1,ti2,ti3,ti4,ti5⟩:=int_infoW;have hB0:Below w.heap.size w (w.alloc (.cells #[.slice A k c] 30 (0,0))):=balloc (Below.refl _ _);have HX:=hD (newS w (.cells #[.slice A k c] 30 (0,0)));have HB:=hD hB0;have HV:=hD (h.keep hB0);have HR:=hD (hr.keep hB0);have HM:=hD hm;have HK:=hD hk;have x0:=cellS HX.out 0;clear hB0 h hr hm hk
 obtain ⟨q,hq⟩:∃ q,(treeB (R.map Nr.n)&&rng i 0 ((k:Int)-1))=q:=⟨_,rfl⟩
 have HQ:=hD hq;clear hq
 cases q
 ·have HN:=hD (show ovM (R.map Nr.n) a b i=[] by
   unfold ovM;rw [if_neg];rintro ⟨h1,h2⟩;rw [List.length_map,<- HK.out] at h2;have hq:=HQ.out;rw [h2,Bool.and_true] at hq
   simp [lyL,hq] at h1)
  go_enter Tryz.func24,Tryz.ntmps24
  go_wp2_with fail
  refine (goodNode_v A c k R i false _ HK.out HV.out HR.out hL HM.out HQ.out).mono ?_;rintro e w1 ⟨rfl,hb⟩;clear x0;replace HX:=hbk hb HX;replace HB:=hD (bkeep2 HB.out hb);clear hb;go_wp2;go_ret;exact ⟨⟨_,rfl,by rw [HN.out];exact ⟨none,0,rfl,NV.nil _ _⟩⟩,HB.out⟩
 ·cases hg:rgG a b
  ·have HN:=hD (show ovM (R.map Nr.n) a b i=[] by
    unfold ovM;rw [if_neg];rintro ⟨h1,-⟩
    simp [lyL,hg] at h1)
   go_enter Tryz.func24,Tryz.ntmps24
   go_wp2_with fail
   refine (goodNode_v A c k R i true _ HK.out HV.out HR.out hL HM.out HQ.out).mono ?_;rintro e w1 ⟨rfl,hb⟩;clear x0;replace HX:=hbk hb HX;replace HB:=hD (bkeep2 HB.out hb);clear hb
   go_wp2_with fail
   with_reducible refine (goodRoom_g a b _).mono ?_
   rintro e w2 ⟨rfl,rfl⟩;rw [hg];clear hg;go_wp2;go_ret;exact ⟨⟨_,rfl,by rw [HN.out];exact ⟨none,0,rfl,NV.nil _ _⟩⟩,HB.out⟩
  ·have hq:=HQ.out;rw [Bool.and_eq_true] at hq;obtain ⟨ht,hri⟩:=hq;obtain ⟨i1,i2⟩:=rng_iff.1 hri;obtain ⟨j,rfl⟩:=Int.eq_ofNat_of_zero_le i1
   have hly:lyL (R.map Nr.n) a b=(List.range k).map (lrM (R.map Nr.n) a b):=by simp [lyL,ht,hg,HK.out]
   obtain ⟨M,hM⟩:∃ M,(List.range k).map (lrM (R.map Nr.n) a b)=M:=⟨_,rfl⟩
   rw [hM] at hly
   have hml:M.length=k:=by rw [<- hM,List.length_map,List.length_range]
   have hok:=lyL_ok (L:=R.map Nr.n) (a:=a) (b:=b);rw [hly] at hok;obtain ⟨hT,hMR,hLw⟩:=hok (by omega);rw [List.length_map] at hMR
   obtain ⟨ks,hks⟩:∃ ks,kidD (R.map Nr.n) j=ks:=⟨_,rfl⟩
   have HN:=hD (show ovM (R.map Nr.n) a b (j:Int)=ovO M ks ks.length by
    unfold ovM
    rw [hly,if_pos ⟨by omega,by rw [List.length_map,<- HK.out];exact hri⟩,Int.toNat_natCast,hks])
   have hkl:∀ x∈ks,x<M.length:=fun x hx=>by rw [<- hks] at hx;have:=kidD_lt hx;rw [List.length_map] at this;rw [hMR];exact this
   have h10:ks.length≤10:=by rw [<- hks];exact Nat.le_trans (kidD_len _ _) hT.l10
   have hz0:isKid R (j:Int) 0=false:=by
    obtain ⟨r0,hr0⟩:∃ r0,R[0]?=some r0:=⟨_,List.getElem?_eq_getElem (by omega)⟩
    rw [isKid_at hr0]
    have:(R.map Nr.n)[0]?=some r0.n:=by rw [List.getElem?_map,hr0];rfl
    rcases hT.up 0 _ this with ⟨_,e⟩ | ⟨h,_⟩
    ·rw [e];simp
    ·omega
   have HSK:=hD (show ∀ W:World,NrV W A R→Calls Tryz.prog 51 #[.agg #[.slice A k c],.int .i64 (j:Int)] W fun e w'=>(∃ v,e=.returned v∧KdV w' v (ks.map fun (x:Nat)=>(x:Int)))∧Below W.heap.size W w' from fun W h=>by
    have:=skidsOf_v A c R (j:Int) W h (by omega) hL hz0
    rw [kidsM_eq,hks,<- HK.out] at this
    exact this)
   have HT:=hD ht;have HG:=hD (rgG_yes hg);have HMM:=hD hM;have HKL:=hD hkl;have HML:=hD hml;have HLW:=hD hLw;clear ht hri i1 i2 hly hM hok hT hMR hks hkl hz0 hml hLw
   go_enter Tryz.func24,Tryz.ntmps24
   go_wp2_with fail
   refine (goodNode_v A c k R j true _ HK.out HV.out HR.out hL HM.out HQ.out).mono ?_;rintro e w1 ⟨rfl,hb⟩;clear x0;replace HX:=hbk hb HX;replace HV:=hD (HV.out.keep hb);replace HR:=hD (HR.out.keep hb);replace HB:=hD (bkeep2 HB.out hb);clear hb;have x0:=cellS HX.out 0
   go_wp2_with fail
   with_reducible refine (goodRoom_g a b _).mono ?_
   rintro e w2 ⟨rfl,rfl⟩;rw [hg];clear hg
   go_wp2_with fail
   with_reducible refine (slayout_v A c k R a b _ (trOK_of HT.out) HK.out HV.out HR.out HG.out.1 HG.out.2).mono ?_
   rintro e w3 ⟨⟨g,rfl,hgl,hre⟩,hb⟩;rw [HMM.out] at hre;have HRE:=hD hre;clear x0 hre hgl;replace HX:=hbk hb HX;replace HV:=hD (HV.out.keep hb);replace HB:=hD (bkeep2 HB.out hb);clear hb;have x0:=cellS HX.out 0;clear HR
   go_wp2_with fail
   refine (HSK.out _ HV.out).mono ?_;rintro e w4 ⟨⟨v,rfl,B,cb,rfl,hnv,hcb⟩,hb⟩;rw [List.length_map] at hcb ⊢;have HNB:=hD hnv;clear x0 hnv HSK;replace HX:=hbk hb HX;replace HRE:=hD (HRE.out.keep hb);replace HB:=hD (bkeep2 HB.out hb);clear hb
   have HO:=hD (show (w4.alloc (.cells #[] 3 (0,0))).ownsRow w4.heap.size 3 1 (.slice (some ⟨w4.heap.size,0,none⟩) 0 0) 0 (nvalsW []) from World.ownsRow_lit (base:=w4.heap.size) (e:=3) (size:=1) w4 #[] 0 (by simp) (by decide) rfl);have hsz:w.heap.size≤w4.heap.size:=HB.out.size;have HB4:Hid (Below w4.heap.size w4 (w4.alloc (.cells #[] 3 (0,0)))):=hD (balloc (Below.refl _ _))
   go_wp2_with fail
   have hLw:=HLW.out
   go_loopw [11,12] (fun out av wr=>∃ n:Nat,n≤ks.length∧av=.int .i64 (n:Int)∧wr.ownsRow w4.heap.size 3 1 out (ovO M ks n).length (nvalsW (ovO M ks n))∧Below w4.heap.size w4 wr) (fun _ av _=>ks.length-(intOf av).toNat)
   case atStart=>exact ⟨0,Nat.zero_le _,rfl,HO.out,HB4.out⟩
   case round =>
    obtain ⟨n,hn,rfl,ho,hbr⟩:=hrel;clear HO HB4
    by_cases hlt:n<ks.length
    ·have hd:decide ((n:Int)<(ks.length:Int))=true:=decide_eq_true (by omega)
     have hdn:(n:Int)<(ks.length:Int):=by omega
     obtain ⟨b0,off,rfl,hb,hps⟩:=HNB.out.cells (by rw [List.length_map];omega);have HPS:=hD hps
     obtain ⟨kn,hkn⟩:∃ kn,ks[n]?=some kn:=⟨_,List.getElem?_eq_getElem hlt⟩
     have hgn:ks.getD n 0=kn:=by rw [List.getD_eq_getElem?_getD,hkn];rfl
     have HKN:=hD hkn;have HGN:=hD hgn;have HO:=hD ho;have HB4:=hD hbr;have hol:=ovO_len M ks n;clear hps hkn hgn ho hbr
     go_wp2_with fail
     go_loopw [11,13] (fun out bv wr=>∃ m:Nat,m≤ks.length-(n+1)∧bv=.int .i64 ((n+1+m:Nat):Int)∧wr.ownsRow w4.heap.size 3 1 out (ovO M ks n ++ ovI M ks n m).length (nvalsW (ovO M ks n ++ ovI M ks n m))∧Below w4.heap.size w4 wr) (fun _ bv _=>ks.length-(intOf bv).toNat)
     case atStart=>exact ⟨0,Nat.zero_le _,by first | rfl | go_num | simp,by simpa [ovI] using HO.out,HB4.out⟩
     case round =>
      obtain ⟨m,hm,rfl,ho2,hb2⟩:=hrel;clear HO HB4
      by_cases hlm:m<ks.length-(n+1)
      ·obtain ⟨km,hkm⟩:∃ km,ks[n+1+m]?=some km:=⟨_,List.getElem?_eq_getElem (by omega)⟩
       have hgm:ks.getD (n+1+m) 0=km:=by rw [List.getD_eq_getElem?_getD,hkm];rfl
       have xn:wr.cell? ⟨b0,off+n,none⟩=some (.int .i64 (kn:Int)):=(hb2.cell (p:=⟨b0,off+n,none⟩) hb).trans (HPS.out n _ (by rw [List.getElem?_map,HKN.out];rfl));have xm:wr.cell? ⟨b0,off+(n+1+m),none⟩=some (.int .i64 (km:Int)):=(hb2.cell (p:=⟨b0,off+(n+1+m),none⟩) hb).trans (HPS.out (n+1+m) _ (by rw [List.getElem?_map,hkm];rfl));have hln:kn<M.length:=HKL.out kn (List.mem_of_getElem? HKN.out)
       have hlmm:km<M.length:=HKL.out km (List.mem_of_getElem? hkm)
       obtain ⟨S,hS⟩:∃ S,M[kn]?=some S:=⟨_,List.getElem?_eq_getElem hln⟩
       obtain ⟨T,hT⟩:∃ T,M[km]?=some T:=⟨_,List.getElem?_eq_getElem hlmm⟩
       have hre:=HRE.out.keep hb2;obtain ⟨c0,c1,c2,c3⟩:=reB_cells hre hS;obtain ⟨d0,d1,d2,d3⟩:=reB_cells hre hT;have hl:=hre.lt;have hbl:b0<wr.heap.size:=Nat.lt_of_lt_of_le hb hb2.size;have LS:=hLw S (List.mem_of_getElem? hS);have LT:=hLw T (List.mem_of_getElem? hT)
       obtain ⟨Z,hZ⟩:∃ Z,metRe S T=Z:=⟨_,rfl⟩
       obtain ⟨q,hq⟩:∃ q,hitRe S T=q:=⟨_,rfl⟩
       have hov:ovI M ks n (m+1)=ovI M ks n m ++ (if q=true then [(kn:Int),(km:Int)] else []):=by simp only [ovI];rw [HGN.out,hgm,rcN_at hS,rcN_at hT,hq]
       have HOV:=hD hov
       have HCA:Hid (∀ W':World,Calls Tryz.prog 52 #[.agg #[.int .i64 (S.x),.int .i64 (S.y),.int .i64 (S.u),.int .i64 (S.v)],.agg #[.int .i64 (T.x),.int .i64 (T.y),.int .i64 (T.u),.int .i64 (T.v)]] W' fun e w'=>e=.returned (.tuple #[.agg #[.int .i64 (Z.x),.int .i64 (Z.y),.int .i64 (Z.u),.int .i64 (Z.v)],.bool q])∧Below W'.heap.size W' w'):=hD fun W'=>by
        have:=smeet_v S T W' LS LT
        rw [hZ,hq] at this;exact this
       have HO2:=hD ho2;have HB2:=hD hb2;have hil:=ovI_len M ks n m
       obtain ⟨p,hp⟩:∃ p,n+1+m=p:=⟨_,rfl⟩
       rw [hp] at xm;have hdm:decide ((p:Int)<(ks.length:Int))=true:=decide_eq_true (by omega)
       have hdm2:(p:Int)<(ks.length:Int):=by omega
       have hdn2:(kn:Int)<(k:Int):=by have:=HML.out;omega
       have hdn3:(km:Int)<(k:Int):=by have:=HML.out;omega
       have HP:=hD hp;have hwb:w4.heap.size≤wr.heap.size:=hb2.size;clear hkm hgm hS hT hre LS LT hZ hq hov ho2 hb2 hln hlmm;rw [hp];clear hp
       go_wp2_with fail
       refine wp_named (fun W1 e1=>?_);replace e1:=hD e1;refine wp_region_grow 18 3 (fun i=>decide (i<19)&&i != 17) (by kernel_rfl) (by kernel_rfl) rfl ?_
       iterate 18 (refine wpG_step (fun K hK=>?_);apply Exists.intro;refine ⟨.inl ⟨rfl,fun w' hw'=>?_⟩,?_⟩;(focus ((obtain ⟨hc,hf⟩:=bcell hw'.out);(have hcS:=bcellS hw'.out);go_simp <;> first | rfl|(go_at_call 52;exact HCA.out _)));(go_simp;refine hK _ ?_;clear hK K))
       refine wpG_nil ?_;refine wpK_one (i:=18) (by kernel_rfl) rfl rfl (by kernel_rfl) (fun w1_0 h1_0=>?_);go_simp;refine ⟨Gr.alloc _ _,?_⟩;refine wpK_tail (by kernel_rfl) (fun w1_9 h1_9=>?_);obtain ⟨hc1_9,hf1_9⟩:=bcell h1_9.out;refine wpAny_one (i:=19) (by kernel_rfl) rfl rfl ?_;go_simp;refine wpAny_one (i:=20) (by kernel_rfl) rfl rfl ?_;go_simp;refine wpAny_end (by kernel_rfl) ?_
       have s1_a:W1.heap.size≤w1_9.heap.size:=by rw [e1.out];exact Nat.le_trans h1_0.out.size (Nat.le_trans (by simp) h1_9.out.size)
       have s1_b:W1.heap.size≤w1_0.heap.size:=by rw [e1.out];exact h1_0.out.size
       have s1_c:w1_0.heap.size<w1_9.heap.size:=by have:=h1_9.out.size;simp at this;omega
       have b1_a:Below W1.heap.size W1 w1_9:=by rw [e1.out];exact bgrow (balloc (bgrow (Below.refl _ _).drew h1_0)) h1_9
       refine NoPan.gen (fun wf=>Below W1.heap.size W1 wf∧W1.heap.size≤w1_0.heap.size∧w1_0.heap.size<wf.heap.size∧wf.cell? ⟨w1_0.heap.size,0,none⟩=some (.int .i64 Z.x)∧wf.frozen? ⟨w1_0.heap.size,0,none⟩=false∧wf.cell? ⟨w1_0.heap.size,1,none⟩=some (.int .i64 Z.y)∧wf.frozen? ⟨w1_0.heap.size,1,none⟩=false∧wf.cell? ⟨w1_0.heap.size,2,none⟩=some (.int .i64 Z.u)∧wf.frozen? ⟨w1_0.heap.size,2,none⟩=false∧wf.cell? ⟨w1_0.heap.size,3,none⟩=some (.int .i64 Z.v)∧wf.frozen? ⟨w1_0.heap.size,3,none⟩=false) ?_ (fun wf1 hwf1=>?_)
       ·refine ⟨by repeat (first | exact b1_a|(refine bset ?_ ?_;rotate_left;((try dsimp only);omega))),?_⟩;refine ⟨s1_b,?_⟩;refine ⟨by simp;omega,?_⟩;go_simp
       generalize hgb1:w1_0.heap.size=b1 at *;have E:=e1.out;subst E;obtain ⟨hB1,hl1,hu1,c1_0,f1_0,c1_1,f1_1,c1_2,f1_2,c1_3,f1_3⟩:=hwf1
       try simp only [World.size_alloc] at hl1
       clear hgb1 e1 hc1_9 hf1_9 s1_a s1_b s1_c b1_a h1_9 w1_9 h1_0 w1_0;obtain ⟨hc1,hf1⟩:=bcell hB1;have hsz1:=hB1.size;have xn1:wf1.cell? ⟨b0,off+n,none⟩=some (.int .i64 (kn:Int)):=(hB1.cell (p:=⟨b0,off+n,none⟩) hbl).trans xn;have xm1:wf1.cell? ⟨b0,off+p,none⟩=some (.int .i64 (km:Int)):=(hB1.cell (p:=⟨b0,off+p,none⟩) hbl).trans xm
       have hbf:b0<wf1.heap.size:=by omega
       replace HO2:=hD (own_bw HO2.out hB1);replace HB2:=hD (bkeep HB2.out hB1 hwb);clear hB1 hc1 hf1 c0 c1 c2 c3 d0 d1 d2 d3 xm xn HCA c1_0 c1_1 c1_2 c1_3 f1_0 f1_1 f1_2 f1_3;have hwf:w4.heap.size≤wf1.heap.size:=HB2.out.size
       cases q
       ·have HQ:=hD (show ovI M ks n (m+1)=ovI M ks n m by rw [HOV.out,if_neg (by simp),List.append_nil]);clear HOV xn1 xm1;go_wp2
        go_roundw
        case rel=>exact ⟨m+1,by omega,by have:=HP.out;subst this;go_num,by rw [HQ.out];exact HO2.out,HB2.out⟩
        case measure=>have:=HP.out;simp [intOf];omega
       ·have HQ:=hD (show ovI M ks n (m+1)=ovI M ks n m ++ [(kn:Int),(km:Int)] by rw [HOV.out,if_pos rfl]);clear HOV
        have hla:(ovO M ks n ++ ovI M ks n m).length≤1000:=by
         rw [List.length_append]
         have:2*ks.length*n≤2*10*10:=Nat.mul_le_mul (by omega) (by omega)
         omega
        go_wp2_with fail
        refine wp_region_grow 9 3 (·<10) (by kernel_rfl) (by kernel_rfl) rfl ?_
        iterate 9 (refine wpG_step (fun K hK=>?_);apply Exists.intro;refine ⟨.inl ⟨rfl,fun w' hw'=>?_⟩,?_⟩;(focus ((obtain ⟨hc,hf⟩:=bcell hw'.out);(have hcS:=bcellS hw'.out);go_simp <;> first | rfl));(go_simp;refine hK _ ?_;clear hK K))
        refine wpG_nil ?_;refine wpK_one (i:=9) (by kernel_rfl) rfl rfl (by kernel_rfl) (fun wa ha=>?_);go_simp;refine ⟨Gr.alloc _ _,?_⟩;refine wpK_tail (by kernel_rfl) (fun w8 h8=>?_);have hb8:Below wf1.heap.size wf1 w8:=bgrow (balloc (bgrow (Below.refl _ _).drew ha)) h8;have hgb:=(h8.out.block wa.heap.size (by simp)).trans (newS wa (.cells #[.int .i64 (kn:Int),.int .i64 (km:Int)] 3 (0,0)))
        clear ha h8;generalize wa.heap.size=gb at *;replace HO2:=hD (own_bw HO2.out hb8);replace HB2:=hD (bkeep HB2.out hb8 hwf);have hw8:w4.heap.size≤w8.heap.size:=HB2.out.size
        have hnews:∀ (j:Nat) (u:Value),[Value.int .i64 (kn:Int),Value.int .i64 (km:Int)][j]?=some u→w8.cell? ((⟨gb,0,none⟩:Addr).add j)=some u:=fun j u hu=>by
         rw [afAdd,Nat.zero_add];exact (cellS hgb j).trans (by simpa using hu)
        obtain ⟨v5,w5,hap,how5,hgr5,-⟩:=run_append_own (P:=Tryz.prog) w8 w4.heap.size 26 26 3 ti tz 1 8 Tryz.underlying26 ti1 ti2 ti3 ti4 ti5 (by decide) _ (ovO M ks n ++ ovI M ks n m).length (nvalsW (ovO M ks n ++ ovI M ks n m)) HO2.out ⟨gb,0,none⟩ 2 2 [.int .i64 (kn:Int),.int .i64 (km:Int)] rfl hnews (by simp [Value.oneCell']) (by simp only [maxLen];omega) (by omega) hw8
        have hO5:w5.ownsRow w4.heap.size 3 1 v5 (ovO M ks n ++ ovI M ks n (m+1)).length (nvalsW (ovO M ks n ++ ovI M ks n (m+1))):=by
         have e:nvalsW (ovO M ks n ++ ovI M ks n m) ++ [.int .i64 (kn:Int),.int .i64 (km:Int)]=nvalsW (ovO M ks n ++ ovI M ks n (m+1)):=by
          rw [HQ.out];simp only [nvalsW,List.map_append,List.map_cons,List.map_nil,List.append_assoc]
         rw [e] at how5
         have e2:(ovO M ks n ++ ovI M ks n (m+1)).length=(ovO M ks n ++ ovI M ks n m).length+2:=by rw [HQ.out,<- List.append_assoc,List.length_append];rfl
         rw [e2];exact how5
        have HB5:=hD (below_own0 HB2.out hgr5 HO2.out.lt (Nat.le_refl _) (Nat.le_refl _));have HO5:=hD hO5;clear how5 hgr5 hO5 hnews hgb hb8 xn1 xm1;refine wpAny_one (f:=1) (i:=10) (by kernel_rfl) rfl rfl ?_;refine upon_appendL (.tmp 67) (.tmp 76) 26 rfl rfl rfl hap ?_;simp only [Act.put,List.setIfInBounds_toArray,List.set_cons_succ,List.set_cons_zero];clear hap
        refine wpAny_one (f:=0) (i:=11) (by kernel_rfl) rfl rfl ?_;go_simp;refine wpAny_end (by kernel_rfl) ?_;refine nopan_normal ?_;go_wp2
        go_roundw
        case rel=>exact ⟨m+1,by omega,by have:=HP.out;subst this;go_num,HO5.out,HB5.out⟩
        case measure=>have:=HP.out;simp [intOf];omega
      ·obtain ⟨p,hp⟩:∃ p,n+1+m=p:=⟨_,rfl⟩
       rw [hp];have hdm:decide ((p:Int)<(ks.length:Int))=false:=decide_eq_false (by omega);have HO2:=hD ho2;have HB2:=hD hb2;have HE:=hD (show ovO M ks (n+1)=ovO M ks n ++ ovI M ks n m by simp only [ovO];rw [show ks.length-(n+1)=m by omega]);clear ho2 hb2;go_wp2
       go_roundw
       case rel=>exact ⟨n+1,by omega,by go_num,by rw [HE.out];exact HO2.out,HB2.out⟩
       case measure=>simp [intOf];omega
    ·obtain rfl:n=ks.length:=by omega
     have hd:decide ((ks.length:Int)<(ks.length:Int))=false:=by simp
     have HO:=hD ho;have HB4:=hD hbr;clear ho hbr;go_wp2;go_ret;exact ⟨⟨_,rfl,by rw [HN.out];exact (GO.of HO.out (by rfl)).nr⟩,bkeep HB.out HB4.out hsz⟩
end Go.Proofs.YtmmfifgdgbmgjaaGreat
