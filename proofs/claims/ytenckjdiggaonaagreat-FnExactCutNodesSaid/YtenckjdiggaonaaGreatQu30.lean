import Derived.Test.YtenckjdiggaonaaGreatQu29
set_option linter.unusedVariables false
set_option linter.unusedSimpArgs false
set_option maxRecDepth 100000
set_option maxHeartbeats 16000000
namespace Go.Proofs.YtenckjdiggaonaaGreat
open Go.RowKit
attribute [local go_sem] growUpon_value growUpon_skip growUpon_enter
section
attribute [local go_sem 5000] run_mx run_mn
attribute [local go_sem] givesUpon_value givesUpon_skip givesUpon_enter
def revals:List Re→List Value
 | []=>[]
 | r :: t=>valsRe r ++ revals t
theorem revals_append (A B:List Re):revals (A ++ B)=revals A ++ revals B:=by
 induction A with
 | nil=>rfl
 | cons r t ih=>simp [revals,ih]
theorem revals_succ {M:List Re} {k:Nat} {r:Re} (h:M[k]?=some r):revals (M.take k) ++ valsRe r=revals (M.take (k+1)):=by
 rw [List.take_add_one,h,Option.toList,revals_append];simp [revals]
theorem revals_get:∀ {M:List Re} {i:Nat} {r:Re},M[i]?=some r→∀ j,j<4→(revals M)[i*4+j]?=(valsRe r)[j]?
 | [],i,r,h,_,_=>by simp at h
 | q :: t,0,r,h,j,hj=>by
  simp at h;subst h
  show (valsRe q ++ revals t)[0*4+j]?=_
  rw [List.getElem?_append_left (by simp [valsRe];omega)];simp
 | q :: t,i+1,r,h,j,hj=>by
  show (valsRe q ++ revals t)[(i+1)*4+j]?=_
  rw [List.getElem?_append_right (by simp [valsRe];omega)]
  have:=revals_get (M:=t) (i:=i) (r:=r) (by simpa using h) j hj
  rw [<- this];congr 1;simp [valsRe];omega
theorem ReR.own {w:World} {base n:Nat} {v:Value} {M:List Re} {T:TypeId} (h:w.ownsRow base T 4 v n (revals M)) (hn:n=M.length):ReR w v M:=by
 subst hn;have hl:=h.lt
 have hc:=fun g hg=>h.cells (g:=g) hg
 rcases h.2 with ⟨rfl,h0⟩ | ⟨g,cap,cur,rfl,_⟩
 ·exact ⟨none,0,by rw [h0],⟨fun h=>absurd h (by omega)⟩⟩
 ·refine ⟨_,cap,rfl,⟨fun _=>⟨g,0,rfl,(hl g rfl).2,fun i r hr=>?_⟩⟩⟩
  have e:∀ j,j<4→∀ u,(valsRe r)[j]?=some u→w.cell? ⟨g,0+i*4+j,none⟩=some u:=fun j hj u hu=>by
   have h1:=hc g rfl (i*4+j) u ((revals_get hr j hj).trans hu)
   have hadd:(⟨g,0,none⟩:Addr).add (i*4+j)=⟨g,i*4+j,none⟩:=by unfold Addr.add;split <;> simp_all
   rw [hadd] at h1
   rwa [Nat.zero_add]
  exact ⟨e 0 (by omega) _ rfl,e 1 (by omega) _ rfl,e 2 (by omega) _ rfl,e 3 (by omega) _ rfl⟩
theorem rect_infoN:∃ (i:TypeInfo) (z:Value),Tryz.prog.info? 45=some i∧i.zero=some z∧i.size=4∧i.bytes=32∧z.cells.size=4:=by
 have hinfo:(Tryz.prog.info? 45).map (fun i=>(i.zero,i.size,i.bytes))=some (some (.agg #[.int .i64 0,.int .i64 0,.int .i64 0,.int .i64 0]),4,32):=by kernel_rfl
 obtain ⟨i,hi,h1,h2,h3⟩:=info_parts hinfo;exact ⟨i,_,hi,h1,h2,h3,rfl⟩
theorem newRe4 (W:World) (r:Re) (T:TypeId):∀ (j:Nat) (u:Value),(valsRe r)[j]?=some u→(W.alloc (.cells #[.int .i64 r.x,.int .i64 r.y,.int .i64 r.u,.int .i64 r.v] T)).cell? ((⟨W.heap.size,0,none⟩:Addr).add j)=some u:=fun j u h=>by
 have hadd:(⟨W.heap.size,0,none⟩:Addr).add j=⟨W.heap.size,j,none⟩:=by unfold Addr.add;split <;> simp_all
 rw [hadd];exact (cellS (newS W _) j).trans (by simpa [valsRe] using h)
theorem valsRe_one (r:Re):∀ u ∈ valsRe r,u.oneCell'=true:=by intro u hu;simp [valsRe] at hu;rcases hu with rfl | rfl | rfl | rfl <;> rfl
theorem sinset_g (x y u v p q:Int) (w:World) (h:((-2000000000000000≤x∧x≤2000000000000000)∧(-2000000000000000≤y∧y≤2000000000000000))∧((0≤u∧u≤20000000000000)∧(0≤v∧v≤20000000000000))) (hp:0≤p∧p≤10) (hq:0≤q∧q≤10):Calls Tryz.prog 156 #[.agg #[.int .i64 (x),.int .i64 (y),.int .i64 (u),.int .i64 (v)],.int .i64 p,.int .i64 q] w fun e w'=>e=.returned (.agg #[.int .i64 (x+mn p (u / 2)),.int .i64 (y+mn q (v / 2)),.int .i64 (mx (u - 2*p) 0),.int .i64 (mx (v - 2*q) 0)])∧Below w.heap.size w w':=by
 have hbd:=ins_bdU (a:=⟨x,y,u,v⟩) h.2 hp hq
 dsimp only at hbd
 obtain ⟨⟨⟨m1,m2⟩,m3,m4⟩,⟨m5,m6⟩,m7,m8⟩:=hbd;obtain ⟨⟨⟨a1,a2⟩,⟨a3,a4⟩⟩,⟨a5,a6⟩,⟨a7,a8⟩⟩:=h;obtain ⟨b1,b2⟩:=hp;obtain ⟨b3,b4⟩:=hq;rw [mx_comm (u - 2*p) 0,mx_comm (v - 2*q) 0] at *
 go_enter Tryz.func156,Tryz.ntmps156
 go_wp2
 exact bodyPost_ret (v:=.agg #[.int .i64 (x+mn p (u / 2)),.int .i64 (y+mn q (v / 2)),.int .i64 (mx 0 (u - 2*p)),.int .i64 (mx 0 (v - 2*q))]) (by simp only [results,Tryz.results156];go_simp) rfl ⟨rfl,(by repeat (first | with_reducible exact Below.refl _ _ | with_reducible assumption | with_reducible refine balloc ?_ | (with_reducible refine bset ?_ ?_;rotate_left;((try dsimp only);omega)) | refine bkeep2 ?_ (by assumption) | with_reducible refine Below.drew ?_))⟩
theorem sinset_r (a b:Re) (p q:Int) (w:World) (h:BdM a) (hp:0≤p∧p≤10) (hq:0≤q∧q≤10) (hb:insR a p q=b):Calls Tryz.prog 156 #[.agg #[.int .i64 a.x,.int .i64 a.y,.int .i64 a.u,.int .i64 a.v],.int .i64 p,.int .i64 q] w fun e w'=>e=.returned (.agg #[.int .i64 b.x,.int .i64 b.y,.int .i64 b.u,.int .i64 b.v])∧Below w.heap.size w w':=by
 subst hb;exact sinset_g _ _ _ _ _ _ w h hp hq
theorem sstuck_v (x room wish s t:Int) (lo hi:Bool) (w:World) (hx:-4000000000000000≤x∧x≤4000000000000000) (hr:0≤room∧room≤20000000000000) (hw:0≤wish∧wish≤1000000000000) (hs:stkS x room wish lo hi=(s,t)):Calls Tryz.prog 157 #[.int .i64 x,.int .i64 room,.int .i64 wish,.bool lo,.bool hi] w fun e w'=>e=.returned (.tuple #[.int .i64 s,.int .i64 t])∧w=w':=by
 have hm:=mn_spec wish room
 have m1:0≤mn wish room:=by omega
 have m2:mn wish room≤1000000000000:=by omega
 have m3:mn wish room≤room:=by omega
 clear hm;obtain ⟨hx0,hx1⟩:=hx;obtain ⟨hr0,hr1⟩:=hr
 cases lo <;> cases hi
 all_goals
  simp [stkS] at hs
  obtain ⟨rfl,rfl⟩:=hs
  go_enter Tryz.func157,Tryz.ntmps157
  go_wp2;refine bodyPost_ret (by simp only [results,Tryz.results157];go_simp) rfl ⟨rfl,rfl⟩
theorem NV.takeN {w:World} {g:Nat} {L:List Int} (h:NV w (some ⟨g,0,none⟩) L) (k:Nat):NV w (some ⟨g,0,none⟩) (L.take k):=by
 refine ⟨fun h0=>?_⟩;obtain ⟨b,off,e,hb,hp⟩:=h.cells (by rw [List.length_take] at h0;omega)
 cases e
 exact ⟨g,0,rfl,hb,fun i x hx=>hp i x (by rw [List.getElem?_take] at hx;split at hx;exact hx;cases hx)⟩
theorem NV.segN {w:World} {g:Nat} {L:List Int} (h:NV w (some ⟨g,0,none⟩) L) (a m:Nat):NV w (some ⟨g,a,none⟩) (segI L a m):=by
 refine ⟨fun h0=>?_⟩;obtain ⟨b,off,e,hb,hp⟩:=h.cells (by have:0<(segI L a m).length:=h0;rw [segI,List.length_take,List.length_drop] at this;omega)
 cases e
 refine ⟨g,a,rfl,hb,fun i x hx=>?_⟩;rw [segI,List.getElem?_take] at hx
 split at hx
 ·rw [List.getElem?_drop] at hx
  have:=hp (a+i) x hx
  rwa [Nat.zero_add] at this
 ·cases hx
def NRo (w:World) (v:Value) (n:Nat) (L:List Int):Prop:=∃ g c,v=.slice (some ⟨g,0,none⟩) n c∧n≤c∧NV w (some ⟨g,0,none⟩) L
theorem NRo.keep {w w':World} {v:Value} {n:Nat} {L:List Int} (h:NRo w v n L) (hb:Below w.heap.size w w'):NRo w' v n L:=let ⟨A,c,e,q,n⟩:=h;⟨A,c,e,q,n.keep hb⟩
theorem tot_z (g o n c:Nat) (L:List Int) (W:World) (h:NV W (some ⟨g,o,none⟩) L) (hn:n=L.length) (hM:Smal 1000000000000000 L) (h5:n≤5):∀ w',Below W.heap.size W w'→Calls Tryz.prog 142 #[.slice (some ⟨g,o,none⟩) n c] w' fun e w''=>e=.returned (.int .i64 (sumI L))∧Gr w' w'' :=
 fun w' hb=>total_b _ c n L w' (h.keep hb) hn (by omega) hM
theorem gridded_w (A1:Option Addr) (c1:Nat) (L1:List Ln) (A2:Option Addr) (c2:Nat) (L2:List Ln) (A3:Option Addr) (c3:Nat) (L3:List Ce) (ox oy u v:Int) (w:World) (h1:LnV w A1 L1) (h2:LnV w A2 L2) (h3:CeV w A3 L3) (gf:GW L1 L2 L3) (hu:rqW u v=true) (hox:-1000000000000000≤ox∧ox≤1000000000000000) (hoy:-1000000000000000≤oy∧oy≤1000000000000000) (q1:L1.length≤c1) (q2:L2.length≤c2) :
  Calls Tryz.prog 115 #[.agg #[.slice A1 L1.length c1,.slice A2 L2.length c2,.slice A3 L3.length c3],.agg #[.int .i64 (ox),.int .i64 (oy),.int .i64 (u),.int .i64 (v)]] w fun e w'=>(∃ x,e=.returned x∧ReR w' x (L3.map (cellT (sizedM L1 (L3.map acM) u) (sizedM L2 (L3.map dnM) v) ox oy))∧∀ k,x.ownBlock=some k→w.heap.size≤k)∧Below w.heap.size w w':=by
 obtain ⟨ti,tz,ti1,ti2,ti3,ti4,ti5⟩:=rect_infoN;obtain ⟨⟨u0,u1⟩,⟨v0,v1⟩⟩:=rqW_iff.1 hu;have hl8:=gf.hl8;have n1:=gf.n1;have n2:=gf.n2;have hz1:=SzB.of gf.v1 gf.s1 u0 u1;have hz2:=SzB.of gf.v2 gf.s2 v0 v1;have l1:=sizedM_lenW (room:=u) gf.v1 gf.s1 u0 u1;have l2:=sizedM_lenW (room:=v) gf.v2 gf.s2 v0 v1;have HF:=hD gf;have HFT:=hD (fit_ofW gf l1 l2);have HZ1:=hD hz1;have HZ2:=hD hz2;have HL1:=hD l1
 have HL2:=hD l2
 obtain ⟨S1,hS1⟩:∃ S,(sizedM L1 (L3.map acM) u)=S:=⟨_,rfl⟩
 obtain ⟨S2,hS2⟩:∃ S,(sizedM L2 (L3.map dnM) v)=S:=⟨_,rfl⟩
 have HLL1:=hD l1;have HLL2:=hD l2;rw [hS1] at HFT HZ1 HL1;rw [hS2] at HFT HZ2 HL2;rw [hS1,hS2];have HE1:=hD hS1;have HE2:=hD hS2;clear hS1 hS2;have hB0:Below w.heap.size w ((w.alloc (.cells #[.slice A1 L1.length c1,.slice A2 L2.length c2,.slice A3 L3.length c3] 123 (0,0))).alloc (.cells #[.int .i64 ox,.int .i64 oy,.int .i64 u,.int .i64 v] 45 (0,0))):=balloc (balloc (Below.refl _ _))
 have HX:=hD ((Below.heap_alloc (w.alloc (.cells #[.slice A1 L1.length c1,.slice A2 L2.length c2,.slice A3 L3.length c3] 123 (0,0))) (.cells #[.int .i64 ox,.int .i64 oy,.int .i64 u,.int .i64 v] 45 (0,0)) w.heap.size (by simp)).trans (newS w (.cells #[.slice A1 L1.length c1,.slice A2 L2.length c2,.slice A3 L3.length c3] 123 (0,0))))
 have hy:=newS (w.alloc (.cells #[.slice A1 L1.length c1,.slice A2 L2.length c2,.slice A3 L3.length c3] 123 (0,0))) (.cells #[.int .i64 ox,.int .i64 oy,.int .i64 u,.int .i64 v] 45 (0,0));rw [World.size_alloc] at hy;have HY:=hD hy;have HV1:=hD (h1.keep hB0);have HV2:=hD (h2.keep hB0);have HV3:=hD (h3.keep hB0);have HB:=hD hB0;clear hB0 h1 h2 h3 gf hu hy hz1 hz2 l1 l2
 go_enter Tryz.func115,Tryz.ntmps115
 go_upto_region 1 with (fail)
 refine wp_genGG (fun W=>W.heap[w.heap.size]?=some (.cells #[.slice A1 L1.length c1,.slice A2 L2.length c2,.slice A3 L3.length c3] 123 (0,0))∧W.heap[w.heap.size+1]?=some (.cells #[.int .i64 ox,.int .i64 oy,.int .i64 u,.int .i64 v] 45 (0,0))∧LnV W A1 L1∧LnV W A2 L2∧CeV W A3 L3∧Below w.heap.size w W) ⟨HX.out,HY.out,HV1.out,HV2.out,HV3.out,HB.out⟩ (fun w0 h0=>?_);clear HX HY HV1 HV2 HV3 HB
 obtain ⟨hx,hy,h1,h2,h3,hb0⟩:=h0;have HX:=hD hx;have HY:=hD hy;have HV1:=hD h1;have HV2:=hD h2;have HV3:=hD h3;have HB:=hD hb0;clear hx hy h1 h2 h3 hb0;have d0:=cellS HX.out 0;have d1:=cellS HX.out 1;have d2:=cellS HX.out 2;have y2:=cellS HY.out 2;have lx:=ltS HX.out;have ly:=ltS HY.out
 go_wp2_with fail
 refine wp_region_rx (XV (.pointer (some ⟨w.heap.size,0,none⟩)) :: XV (.slice A1 L1.length c1) :: XV (.pointer (some ⟨w.heap.size,0,none⟩)) :: XV (.slice A1 L1.length c1) :: XV (.agg #[.slice A1 L1.length c1,.slice A2 L2.length c2,.slice A3 L3.length c3]) :: (fun z9 w=>SpR w z9 (L3.map acM)) :: (fun z9 w=>NRz w z9 L1.length (wishM L1 (L3.map acM))) :: XV (.pointer (some ⟨w.heap.size+1,2,none⟩)) :: XV (.int .i64 u) :: (fun z9 w=>NRo w z9 L1.length (sizedM L1 (L3.map acM) u)) :: (fun z9 w=>NRo w z9 L1.length (sizedM L1 (L3.map acM) u)) :: []) (by kernel_rfl) (by kernel_rfl) ?hTs ?hops ?hfin
 case hTs =>
  intro T hT;simp only [List.mem_cons,List.not_mem_nil,or_false] at hT
  rcases hT with rfl | rfl | rfl | rfl | rfl | rfl | rfl | rfl | rfl | rfl | rfl <;> first | exact stay_V _ | exact stay_T | exact stay_of (fun v a b x g=>x.keep g) | exact stay_of (fun v a b x g=>x)
 case hops =>
  refine ⟨opOK_rx [(2,none)] (by kernel_rfl) rfl ?_,?_⟩
  ·intro act w' hw' h1;obtain ⟨hk,hf⟩:=evkf act;generalize act.eval=ρ at *;replace h1:ρ (.tmp 2)=.pointer (some ⟨w.heap.size,0,none⟩):=h1;refine gx_gen (fun K hK=>?_);obtain ⟨hc,hf'⟩:=bcell (bdrewn hw'.out);go_simp;exact hK _ _ ⟨rfl,Gr.refl _⟩
  refine ⟨opOK_rx [(16,some 0)] (by kernel_rfl) rfl ?_,?_⟩
  ·intro act w' hw' h1;obtain ⟨hk,hf⟩:=evkf act;generalize act.eval=ρ at *;replace h1:ρ (.tmp 16)=.pointer (some ⟨w.heap.size,0,none⟩):=h1;refine gx_gen (fun K hK=>?_);obtain ⟨hc,hf'⟩:=bcell (bdrewn hw'.out);go_simp;exact hK _ _ ⟨rfl,Gr.refl _⟩
  refine ⟨opOK_rx [(2,none)] (by kernel_rfl) rfl ?_,?_⟩
  ·intro act w' hw' h1;obtain ⟨hk,hf⟩:=evkf act;generalize act.eval=ρ at *;replace h1:ρ (.tmp 2)=.pointer (some ⟨w.heap.size,0,none⟩):=h1;refine gx_gen (fun K hK=>?_);obtain ⟨hc,hf'⟩:=bcell (bdrewn hw'.out);go_simp;exact hK _ _ ⟨rfl,Gr.refl _⟩
  refine ⟨opOK_rx [(18,some 2)] (by kernel_rfl) rfl ?_,?_⟩
  ·intro act w' hw' h1;obtain ⟨hk,hf⟩:=evkf act;generalize act.eval=ρ at *;replace h1:ρ (.tmp 18)=.pointer (some ⟨w.heap.size,0,none⟩):=h1;refine gx_gen (fun K hK=>?_);obtain ⟨hc,hf'⟩:=bcell (bdrewn hw'.out);go_simp;exact hK _ _ ⟨rfl,Gr.refl _⟩
  refine ⟨opOK_rx [(2,none)] (by kernel_rfl) rfl ?_,?_⟩
  ·intro act w' hw' h1;obtain ⟨hk,hf⟩:=evkf act;generalize act.eval=ρ at *;replace h1:ρ (.tmp 2)=.pointer (some ⟨w.heap.size,0,none⟩):=h1;refine gx_gen (fun K hK=>?_);obtain ⟨hc,hf'⟩:=bcell (bdrewn hw'.out);go_simp;exact hK _ _ ⟨rfl,Gr.refl _⟩
  refine ⟨opOK_rx [(20,some 4)] (by kernel_rfl) rfl ?_,?_⟩
  ·intro act w' hw' h1;obtain ⟨hk,hf⟩:=evkf act;generalize act.eval=ρ at *;replace h1:ρ (.tmp 20)=.agg #[.slice A1 L1.length c1,.slice A2 L2.length c2,.slice A3 L3.length c3]:=h1;refine gx_gen (fun K hK=>?_);obtain ⟨hc,hf'⟩:=bcell (bdrewn hw'.out);go_simp
   (with_reducible refine (colSpans_w A1 A2 A3 c1 L1.length c2 L2.length c3 L3 _ (HV3.out.keep (bdrewn hw'.out)) hl8 HF.out.hsm).mono ?_);rintro e w1 ⟨⟨z,rfl,hr1⟩,hb1⟩;exact ⟨_,rfl,hK _ _ ⟨hr1,hb1⟩⟩
  refine ⟨opOK_rx [(19,some 3),(21,some 5)] (by kernel_rfl) rfl ?_,?_⟩
  ·intro act w' hw' h1 h2;obtain ⟨hk,hf⟩:=evkf act;generalize act.eval=ρ at *;replace h1:ρ (.tmp 19)=.slice A1 L1.length c1:=h1;replace h2:(fun z9 w=>SpR w z9 (L3.map acM)) (ρ (.tmp 21)) w':=h2;refine gx_gen (fun K hK=>?_);obtain ⟨hc,hf'⟩:=bcell (bdrewn hw'.out);go_simp
   obtain ⟨A,c,e,hs⟩:=h2;rw [e];(with_reducible refine (wished_w A1 c1 L1 A c (L3.map acM) _ (HV1.out.keep (bdrewn hw'.out)) HF.out.v1 hs HF.out.s1 q1).mono ?_);rintro e w1 ⟨⟨g,cap,rfl,_,hr1⟩,hb1⟩;exact ⟨_,rfl,hK _ _ ⟨⟨_,_,rfl,hr1.nv⟩,hb1⟩⟩
  refine ⟨opOK_rx [(3,none)] (by kernel_rfl) rfl ?_,?_⟩
  ·intro act w' hw' h1;obtain ⟨hk,hf⟩:=evkf act;generalize act.eval=ρ at *;replace h1:ρ (.tmp 3)=.pointer (some ⟨w.heap.size+1,0,none⟩):=h1;refine gx_gen (fun K hK=>?_);obtain ⟨hc,hf'⟩:=bcell (bdrewn hw'.out);go_simp;exact hK _ _ ⟨rfl,Gr.refl _⟩
  refine ⟨opOK_rx [(23,some 7)] (by kernel_rfl) rfl ?_,?_⟩
  ·intro act w' hw' h1;obtain ⟨hk,hf⟩:=evkf act;generalize act.eval=ρ at *;replace h1:ρ (.tmp 23)=.pointer (some ⟨w.heap.size+1,2,none⟩):=h1;refine gx_gen (fun K hK=>?_);obtain ⟨hc,hf'⟩:=bcell (bdrewn hw'.out);go_simp;exact hK _ _ ⟨rfl,Gr.refl _⟩
  refine ⟨opOK_rx [(17,some 1),(22,some 6),(24,some 8)] (by kernel_rfl) rfl ?_,?_⟩
  ·intro act w' hw' h1 h2 h3;obtain ⟨hk,hf⟩:=evkf act;generalize act.eval=ρ at *;replace h1:ρ (.tmp 17)=.slice A1 L1.length c1:=h1;replace h2:(fun z9 w=>NRz w z9 L1.length (wishM L1 (L3.map acM))) (ρ (.tmp 22)) w':=h2;replace h3:ρ (.tmp 24)=.int .i64 u:=h3;refine gx_gen (fun K hK=>?_);obtain ⟨hc,hf'⟩:=bcell (bdrewn hw'.out);go_simp
   obtain ⟨A,c,e,hs⟩:=h2;rw [e];(with_reducible refine (sized_w A c L1.length _ A1 c1 L1 u _ hs (wish_okW HF.out.v1 HF.out.s1).2.1.symm (HV1.out.keep (bdrewn hw'.out)) HF.out.v1 (wish_okW HF.out.v1 HF.out.s1).1 (wish_okW HF.out.v1 HF.out.s1).2.2.1 (wish_okW HF.out.v1 HF.out.s1).2.2.2.1 (wish_okW HF.out.v1 HF.out.s1).2.2.2.2 u0 u1).mono ?_);rintro e w1 ⟨⟨g,cap,rfl,_,hr1⟩,hb1⟩;exact ⟨_,rfl,hK _ _ ⟨⟨g,cap,rfl,Nat.le_trans (Nat.le_of_eq HLL1.out.symm) hr1.1,hr1.nv⟩,hb1⟩⟩
  refine ⟨opOK_rx [(25,some 9)] (by kernel_rfl) rfl ?_,?_⟩
  ·intro act w' hw' h1;obtain ⟨hk,hf⟩:=evkf act;generalize act.eval=ρ at *;replace h1:(fun z9 w=>NRo w z9 L1.length (sizedM L1 (L3.map acM) u)) (ρ (.tmp 25)) w':=h1;refine gx_gen (fun K hK=>?_);obtain ⟨hc,hf'⟩:=bcell (bdrewn hw'.out);go_simp;exact hK _ _ ⟨h1,Gr.refl _⟩
  exact trivial
 case hfin =>
  intro w1 hg1;intro v16 t16;replace t16:v16=.pointer (some ⟨w.heap.size,0,none⟩):=t16;subst t16;intro v17 t17;replace t17:v17=.slice A1 L1.length c1:=t17;subst t17;intro v18 t18;replace t18:v18=.pointer (some ⟨w.heap.size,0,none⟩):=t18;subst t18;intro v19 t19;replace t19:v19=.slice A1 L1.length c1:=t19;subst t19;intro v20 t20
  replace t20:v20=.agg #[.slice A1 L1.length c1,.slice A2 L2.length c2,.slice A3 L3.length c3]:=t20;subst t20;intro v21 t21;replace t21:(fun z9 w=>SpR w z9 (L3.map acM)) v21 w1:=t21;intro v22 t22;replace t22:(fun z9 w=>NRz w z9 L1.length (wishM L1 (L3.map acM))) v22 w1:=t22;intro v23 t23;replace t23:v23=.pointer (some ⟨w.heap.size+1,2,none⟩):=t23;subst t23;intro v24 t24
  replace t24:v24=.int .i64 u:=t24;subst t24;intro v25 t25;replace t25:(fun z9 w=>NRo w z9 L1.length (sizedM L1 (L3.map acM) u)) v25 w1:=t25;intro v5 t5;replace t5:(fun z9 w=>NRo w z9 L1.length (sizedM L1 (L3.map acM) u)) v5 w1:=t5;have hb1:=bdrewn hg1.out;clear hg1;simp only [finP,Act.put,List.setIfInBounds_toArray,List.set_cons_succ,List.set_cons_zero];obtain ⟨g1,e1,rfl,he1,hn1⟩:=t5
  clear t21 t22 t25 d0 d1 d2 y2 lx ly;replace HX:=hbk hb1 HX;replace HY:=hbk hb1 HY;replace HV1:=hD (HV1.out.keep hb1);replace HV2:=hD (HV2.out.keep hb1);replace HV3:=hD (HV3.out.keep hb1);replace HB:=hD (bkeep2 HB.out hb1);clear hb1;have HN1:=hD hn1;clear hn1;have d0:=cellS HX.out 0;have d1:=cellS HX.out 1;have d2:=cellS HX.out 2;have y3:=cellS HY.out 3;have lx:=ltS HX.out;have ly:=ltS HY.out
  go_wp2_with fail
  refine wp_region_rx (XV (.pointer (some ⟨w.heap.size,1,none⟩)) :: XV (.slice A2 L2.length c2) :: XV (.pointer (some ⟨w.heap.size,1,none⟩)) :: XV (.slice A2 L2.length c2) :: XV (.agg #[.slice A1 L1.length c1,.slice A2 L2.length c2,.slice A3 L3.length c3]) :: (fun z9 w=>SpR w z9 (L3.map dnM)) :: (fun z9 w=>NRz w z9 L2.length (wishM L2 (L3.map dnM))) :: XV (.pointer (some ⟨w.heap.size+1,3,none⟩)) :: XV (.int .i64 v) :: (fun z9 w=>NRo w z9 L2.length (sizedM L2 (L3.map dnM) v)) :: (fun z9 w=>NRo w z9 L2.length (sizedM L2 (L3.map dnM) v)) :: []) (by kernel_rfl) (by kernel_rfl) ?hTs ?hops ?hfin
  case hTs =>
   intro T hT;simp only [List.mem_cons,List.not_mem_nil,or_false] at hT
   rcases hT with rfl | rfl | rfl | rfl | rfl | rfl | rfl | rfl | rfl | rfl | rfl <;> first | exact stay_V _ | exact stay_T | exact stay_of (fun v a b x g=>x.keep g) | exact stay_of (fun v a b x g=>x)
  case hops =>
   refine ⟨opOK_rx [(2,none)] (by kernel_rfl) rfl ?_,?_⟩
   ·intro act w' hw' h1;obtain ⟨hk,hf⟩:=evkf act;generalize act.eval=ρ at *;replace h1:ρ (.tmp 2)=.pointer (some ⟨w.heap.size,0,none⟩):=h1;refine gx_gen (fun K hK=>?_);obtain ⟨hc,hf'⟩:=bcell (bdrewn hw'.out);go_simp;exact hK _ _ ⟨rfl,Gr.refl _⟩
   refine ⟨opOK_rx [(26,some 0)] (by kernel_rfl) rfl ?_,?_⟩
   ·intro act w' hw' h1;obtain ⟨hk,hf⟩:=evkf act;generalize act.eval=ρ at *;replace h1:ρ (.tmp 26)=.pointer (some ⟨w.heap.size,1,none⟩):=h1;refine gx_gen (fun K hK=>?_);obtain ⟨hc,hf'⟩:=bcell (bdrewn hw'.out);go_simp;exact hK _ _ ⟨rfl,Gr.refl _⟩
   refine ⟨opOK_rx [(2,none)] (by kernel_rfl) rfl ?_,?_⟩
   ·intro act w' hw' h1;obtain ⟨hk,hf⟩:=evkf act;generalize act.eval=ρ at *;replace h1:ρ (.tmp 2)=.pointer (some ⟨w.heap.size,0,none⟩):=h1;refine gx_gen (fun K hK=>?_);obtain ⟨hc,hf'⟩:=bcell (bdrewn hw'.out);go_simp;exact hK _ _ ⟨rfl,Gr.refl _⟩
   refine ⟨opOK_rx [(28,some 2)] (by kernel_rfl) rfl ?_,?_⟩
   ·intro act w' hw' h1;obtain ⟨hk,hf⟩:=evkf act;generalize act.eval=ρ at *;replace h1:ρ (.tmp 28)=.pointer (some ⟨w.heap.size,1,none⟩):=h1;refine gx_gen (fun K hK=>?_);obtain ⟨hc,hf'⟩:=bcell (bdrewn hw'.out);go_simp;exact hK _ _ ⟨rfl,Gr.refl _⟩
   refine ⟨opOK_rx [(2,none)] (by kernel_rfl) rfl ?_,?_⟩
   ·intro act w' hw' h1;obtain ⟨hk,hf⟩:=evkf act;generalize act.eval=ρ at *;replace h1:ρ (.tmp 2)=.pointer (some ⟨w.heap.size,0,none⟩):=h1;refine gx_gen (fun K hK=>?_);obtain ⟨hc,hf'⟩:=bcell (bdrewn hw'.out);go_simp;exact hK _ _ ⟨rfl,Gr.refl _⟩
   refine ⟨opOK_rx [(30,some 4)] (by kernel_rfl) rfl ?_,?_⟩
   ·intro act w' hw' h1;obtain ⟨hk,hf⟩:=evkf act;generalize act.eval=ρ at *;replace h1:ρ (.tmp 30)=.agg #[.slice A1 L1.length c1,.slice A2 L2.length c2,.slice A3 L3.length c3]:=h1;refine gx_gen (fun K hK=>?_);obtain ⟨hc,hf'⟩:=bcell (bdrewn hw'.out);go_simp
    (with_reducible refine (rowSpans_w A1 A2 A3 c1 L1.length c2 L2.length c3 L3 _ (HV3.out.keep (bdrewn hw'.out)) hl8 HF.out.hsm).mono ?_);rintro e w1 ⟨⟨z,rfl,hr1⟩,hb1⟩;exact ⟨_,rfl,hK _ _ ⟨hr1,hb1⟩⟩
   refine ⟨opOK_rx [(29,some 3),(31,some 5)] (by kernel_rfl) rfl ?_,?_⟩
   ·intro act w' hw' h1 h2;obtain ⟨hk,hf⟩:=evkf act;generalize act.eval=ρ at *;replace h1:ρ (.tmp 29)=.slice A2 L2.length c2:=h1;replace h2:(fun z9 w=>SpR w z9 (L3.map dnM)) (ρ (.tmp 31)) w':=h2;refine gx_gen (fun K hK=>?_);obtain ⟨hc,hf'⟩:=bcell (bdrewn hw'.out);go_simp
    obtain ⟨A,c,e,hs⟩:=h2;rw [e];(with_reducible refine (wished_w A2 c2 L2 A c (L3.map dnM) _ (HV2.out.keep (bdrewn hw'.out)) HF.out.v2 hs HF.out.s2 q2).mono ?_);rintro e w1 ⟨⟨g,cap,rfl,_,hr1⟩,hb1⟩;exact ⟨_,rfl,hK _ _ ⟨⟨_,_,rfl,hr1.nv⟩,hb1⟩⟩
   refine ⟨opOK_rx [(3,none)] (by kernel_rfl) rfl ?_,?_⟩
   ·intro act w' hw' h1;obtain ⟨hk,hf⟩:=evkf act;generalize act.eval=ρ at *;replace h1:ρ (.tmp 3)=.pointer (some ⟨w.heap.size+1,0,none⟩):=h1;refine gx_gen (fun K hK=>?_);obtain ⟨hc,hf'⟩:=bcell (bdrewn hw'.out);go_simp;exact hK _ _ ⟨rfl,Gr.refl _⟩
   refine ⟨opOK_rx [(33,some 7)] (by kernel_rfl) rfl ?_,?_⟩
   ·intro act w' hw' h1;obtain ⟨hk,hf⟩:=evkf act;generalize act.eval=ρ at *;replace h1:ρ (.tmp 33)=.pointer (some ⟨w.heap.size+1,3,none⟩):=h1;refine gx_gen (fun K hK=>?_);obtain ⟨hc,hf'⟩:=bcell (bdrewn hw'.out);go_simp;exact hK _ _ ⟨rfl,Gr.refl _⟩
   refine ⟨opOK_rx [(27,some 1),(32,some 6),(34,some 8)] (by kernel_rfl) rfl ?_,?_⟩
   ·intro act w' hw' h1 h2 h3;obtain ⟨hk,hf⟩:=evkf act;generalize act.eval=ρ at *;replace h1:ρ (.tmp 27)=.slice A2 L2.length c2:=h1;replace h2:(fun z9 w=>NRz w z9 L2.length (wishM L2 (L3.map dnM))) (ρ (.tmp 32)) w':=h2;replace h3:ρ (.tmp 34)=.int .i64 v:=h3;refine gx_gen (fun K hK=>?_);obtain ⟨hc,hf'⟩:=bcell (bdrewn hw'.out);go_simp
    obtain ⟨A,c,e,hs⟩:=h2;rw [e];(with_reducible refine (sized_w A c L2.length _ A2 c2 L2 v _ hs (wish_okW HF.out.v2 HF.out.s2).2.1.symm (HV2.out.keep (bdrewn hw'.out)) HF.out.v2 (wish_okW HF.out.v2 HF.out.s2).1 (wish_okW HF.out.v2 HF.out.s2).2.2.1 (wish_okW HF.out.v2 HF.out.s2).2.2.2.1 (wish_okW HF.out.v2 HF.out.s2).2.2.2.2 v0 v1).mono ?_);rintro e w1 ⟨⟨g,cap,rfl,_,hr1⟩,hb1⟩;exact ⟨_,rfl,hK _ _ ⟨⟨g,cap,rfl,Nat.le_trans (Nat.le_of_eq HLL2.out.symm) hr1.1,hr1.nv⟩,hb1⟩⟩
   refine ⟨opOK_rx [(35,some 9)] (by kernel_rfl) rfl ?_,?_⟩
   ·intro act w' hw' h1;obtain ⟨hk,hf⟩:=evkf act;generalize act.eval=ρ at *;replace h1:(fun z9 w=>NRo w z9 L2.length (sizedM L2 (L3.map dnM) v)) (ρ (.tmp 35)) w':=h1;refine gx_gen (fun K hK=>?_);obtain ⟨hc,hf'⟩:=bcell (bdrewn hw'.out);go_simp;exact hK _ _ ⟨h1,Gr.refl _⟩
   exact trivial
  case hfin =>
   intro w2 hg2;intro v26 t26;replace t26:v26=.pointer (some ⟨w.heap.size,1,none⟩):=t26;subst t26;intro v27 t27;replace t27:v27=.slice A2 L2.length c2:=t27;subst t27;intro v28 t28;replace t28:v28=.pointer (some ⟨w.heap.size,1,none⟩):=t28;subst t28;intro v29 t29;replace t29:v29=.slice A2 L2.length c2:=t29;subst t29;intro v30 t30
   replace t30:v30=.agg #[.slice A1 L1.length c1,.slice A2 L2.length c2,.slice A3 L3.length c3]:=t30;subst t30;intro v31 t31;replace t31:(fun z9 w=>SpR w z9 (L3.map dnM)) v31 w2:=t31;intro v32 t32;replace t32:(fun z9 w=>NRz w z9 L2.length (wishM L2 (L3.map dnM))) v32 w2:=t32;intro v33 t33;replace t33:v33=.pointer (some ⟨w.heap.size+1,3,none⟩):=t33;subst t33;intro v34 t34
   replace t34:v34=.int .i64 v:=t34;subst t34;intro v35 t35;replace t35:(fun z9 w=>NRo w z9 L2.length (sizedM L2 (L3.map dnM) v)) v35 w2:=t35;intro v6 t6;replace t6:(fun z9 w=>NRo w z9 L2.length (sizedM L2 (L3.map dnM) v)) v6 w2:=t6;have hb2:=bdrewn hg2.out;clear hg2;simp only [finP,Act.put,List.setIfInBounds_toArray,List.set_cons_succ,List.set_cons_zero];obtain ⟨g2,e2,rfl,he2,hn2⟩:=t6
   clear t31 t32 t35 d0 d1 d2 y3 lx ly;replace HX:=hbk hb2 HX;replace HY:=hbk hb2 HY;replace HV1:=hD (HV1.out.keep hb2);replace HV2:=hD (HV2.out.keep hb2);replace HV3:=hD (HV3.out.keep hb2);replace HN1:=hD (HN1.out.keep hb2);replace HB:=hD (bkeep2 HB.out hb2);clear hb2;have HN2:=hD hn2;clear hn2
   have ho0:=World.ownsRow_lit (base:=w2.heap.size) (e:=45) (size:=4) w2 #[] 0 (Nat.le_refl _) (by decide) rfl;have HO:=hD (show (w2.alloc (.cells #[] 45 (0,0))).ownsRow w2.heap.size 45 4 (.slice (some ⟨w2.heap.size,0,none⟩) 0 0) 0 (revals []) from ho0);clear ho0;have hs2:=HB.out.size;have lx:=ltS HX.out;have ly:=ltS HY.out;replace HN1:=hD (show NV _ _ S1 by rw [<- HE1.out];exact HN1.out)
   replace HN2:=hD (show NV _ _ S2 by rw [<- HE2.out];exact HN2.out)
   go_wp2_with fail
   go_loopw [7,8] (fun out i wr=>∃ k:Nat,k≤L3.length∧i=.int .i64 k∧wr.ownsRow w2.heap.size 45 4 out k (revals ((L3.map (cellT S1 S2 ox oy)).take k))∧Below w2.heap.size w2 wr) (fun _ i _=>L3.length - (intOf i).toNat)
   case atStart=>exact ⟨0,by omega,rfl,HO.out,balloc (Below.refl _ _)⟩
   case round =>
    obtain ⟨k,hk,rfl,ho,hBr⟩:=hrel;clear HO;have hsr:=hBr.size;have xg:=(hBr.block _ lx).trans HX.out;have d2:=cellS xg 2
    by_cases hlt:k<L3.length
    ·have hd:decide ((k:Int)<(L3.length:Int))=true:=by simpa using hlt
     obtain ⟨b,off,rfl,hb,hp⟩:=(HV3.out.keep hBr).cells (by omega);have hget:L3[k]?=some L3[k]:=List.getElem?_eq_getElem hlt;have hft:fitC S1 S2 L3[k]:=HFT.out _ (List.getElem_mem hlt);have hcs:=hp k _ hget;have hts:=revals_succ (show (L3.map (cellT S1 S2 ox oy))[k]?=some (cellT S1 S2 ox oy L3[k]) by rw [List.getElem?_map,hget];rfl);generalize L3[k]=p at *;obtain ⟨co,ro,mc,mr,cw,ch,sk,px,py⟩:=p
     obtain ⟨⟨hcw,hch,hpx,hpy⟩,hsk,⟨h3,h4,h5,h6⟩,h7,h8⟩:=hft
     dsimp only at h3 h4 h5 h6 h7 h8 hcw hch hpx hpy hsk hcs
     obtain ⟨k1,rfl⟩:=Int.eq_ofNat_of_zero_le h3;obtain ⟨k2,rfl⟩:=Int.eq_ofNat_of_zero_le h4;obtain ⟨m1,rfl⟩:=Int.eq_ofNat_of_zero_le (show 0≤mc by omega);obtain ⟨m2,rfl⟩:=Int.eq_ofNat_of_zero_le (show 0≤mr by omega);obtain ⟨s0,s1,s2,s3,s4,s5,s6,s7,s8⟩:=hcs;have hob:=ho.lt;have HO:=hD ho;have HTS:=hD hts;have HBR:=hD hBr
     have h7':k1+m1≤S1.length:=by omega
     have h8':k2+m2≤S2.length:=by omega
     have HBD:=hD (area_bd HZ1.out HZ2.out ⟨k1,k2,m1,m2,cw,ch,sk,px,py⟩);clear ho hts hBr hp hget h7 h8 h3 h4
     go_upto_region 8 with (fail)
     refine wp_genGG (fun W=>W.heap[wr.heap.size]?=some (.cells #[.int .i64 k1,.int .i64 k2,.int .i64 m1,.int .i64 m2,.int .i64 cw,.int .i64 ch,.int .i64 sk,.int .i64 px,.int .i64 py] 80 (0,0))∧Below wr.heap.size wr W) ⟨newS _ _,balloc (Below.refl _ _)⟩ (fun W hW=>?_);clear s0 s1 s2 s3 s4 s5 s6 s7 s8 d2;obtain ⟨hc0,hbW⟩:=hW;have hsW:=hbW.size
     have hyW:=(hbW.block _ (by omega)).trans ((HBR.out.block _ ly).trans HY.out);have x0:=cellS hc0 0;have x1:=cellS hc0 1;have x2:=cellS hc0 2;have x3:=cellS hc0 3;have y0:=cellS hyW 0;have y1:=cellS hyW 1;have HB2:=hD (bkeep2 HBR.out hbW);have n1W:=HN1.out.keep HB2.out;have n2W:=HN2.out.keep HB2.out
     have g1l:S1.length≤e1:=by have:=HL1.out;omega
     have g2l:S2.length≤e2:=by have:=HL2.out;omega
     have T1:=hD (tot_z g1 0 k1 e1 (S1.take k1) W (n1W.takeN k1) (by rw [List.length_take];omega) (HZ1.out.takesmal k1) (by have:=HZ1.out.2.2;omega));have T2:=hD (tot_z g2 0 k2 e2 (S2.take k2) W (n2W.takeN k2) (by rw [List.length_take];omega) (HZ2.out.takesmal k2) (by have:=HZ2.out.2.2;omega))
     have T3:=hD (tot_z g1 k1 m1 (e1 - k1) (segI S1 k1 m1) W (n1W.segN k1 m1) (segI_len h7').symm (HZ1.out.segsmal k1 m1) (by have:=HZ1.out.2.2;omega));have T4:=hD (tot_z g2 k2 m2 (e2 - k2) (segI S2 k2 m2) W (n2W.segN k2 m2) (segI_len h8').symm (HZ2.out.segsmal k2 m2) (by have:=HZ2.out.2.2;omega));have z5:=HZ1.out.2.2;have z6:=HZ2.out.2.2
     have j1:k1≤e1:=by omega
     have j2:k2≤e2:=by omega
     have j3:k1+m1≤e1:=by omega
     have j4:k2+m2≤e2:=by omega
     have j5:(0:Int)≤(k1:Int)+(m1:Int):=by omega
     have j6:(k1:Int)+(m1:Int)≤(e1:Int):=by omega
     have j7:((k1:Int)+(m1:Int)).toNat=k1+m1:=by omega
     have j8:(0:Int)≤(k2:Int)+(m2:Int):=by omega
     have j9:(k2:Int)+(m2:Int)≤(e2:Int):=by omega
     have j10:((k2:Int)+(m2:Int)).toNat=k2+m2:=by omega
     have j11:¬ e1=k1:=by omega
     have j12:¬ e2=k2:=by omega
     have w1:IntKind.i64.wrap ((k1:Int)+(m1:Int))=(k1:Int)+(m1:Int):=IntWalk.i64_in _ (by omega);have w2:IntKind.i64.wrap ((k2:Int)+(m2:Int))=(k2:Int)+(m2:Int):=IntWalk.i64_in _ (by omega);have HR:=hD (show areaR S1 S2 ⟨k1,k2,m1,m2,cw,ch,sk,px,py⟩=⟨sumI (S1.take k1),sumI (S2.take k2),sumI (segI S1 k1 m1),sumI (segI S2 k2 m2)⟩ from by simp only [areaR,Int.toNat_natCast]);clear n1W n2W
     obtain ⟨l,hl⟩:∃ z,sumI (S1.take k1)=z:=⟨_,rfl⟩
     obtain ⟨t,ht⟩:∃ z,sumI (S2.take k2)=z:=⟨_,rfl⟩
     obtain ⟨r,hr⟩:∃ z,sumI (segI S1 k1 m1)=z:=⟨_,rfl⟩
     obtain ⟨q,hq⟩:∃ z,sumI (segI S2 k2 m2)=z:=⟨_,rfl⟩
     rw [hl] at T1 HR;rw [ht] at T2 HR;rw [hr] at T3 HR;rw [hq] at T4 HR;clear hl ht hr hq
     have p1:IntKind.i64.wrap (ox+l)=ox+l:=by exact IntWalk.i64_in _ (by have:=HBD.out;rw [HR.out] at this;have h:=this.1.1;dsimp only at h;omega)
     have p2:IntKind.i64.wrap (oy+t)=oy+t:=by exact IntWalk.i64_in _ (by have:=HBD.out;rw [HR.out] at this;have h:=this.1.2;dsimp only at h;omega)
     have lxW:=ltS hc0;have lyW:=ltS hyW
     go_wp2_with fail
     refine wp_named (fun W1 e1=>?_);replace e1:=hD e1;refine wp_region_grow 37 2 (·<38) (by kernel_rfl) (by kernel_rfl) rfl ?_
     iterate 37 (refine wpG_step (fun K hK=>?_);apply Exists.intro;refine ⟨.inl ⟨rfl,fun w' hw'=>?_⟩,?_⟩;(focus ((obtain ⟨hc,hf⟩:=bcell hw'.out);(have hcS:=bcellS hw'.out);go_simp <;> first | rfl | (go_at_call 142;with_reducible first | exact T1.out _ (bdrewn hw'.out) | exact T2.out _ (bdrewn hw'.out) | exact T3.out _ (bdrewn hw'.out) | exact T4.out _ (bdrewn hw'.out))));(go_simp;refine hK _ ?_;clear hK K))
     refine wpG_nil ?_;refine wpK_one (i:=37) (by kernel_rfl) rfl rfl (by kernel_rfl) (fun w1_0 h1_0=>?_);go_simp;refine ⟨Gr.alloc _ _,?_⟩;refine wpK_tail (by kernel_rfl) (fun w1_9 h1_9=>?_);obtain ⟨hc1_9,hf1_9⟩:=bcell h1_9.out;refine wpAny_one (i:=38) (by kernel_rfl) rfl rfl ?_;go_simp;refine wpAny_end (by kernel_rfl) ?_
     have s1_a:W1.heap.size≤w1_9.heap.size:=by rw [e1.out];exact Nat.le_trans h1_0.out.size (Nat.le_trans (by simp) h1_9.out.size)
     have s1_b:W1.heap.size≤w1_0.heap.size:=by rw [e1.out];exact h1_0.out.size
     have s1_c:w1_0.heap.size<w1_9.heap.size:=by have:=h1_9.out.size;simp at this;omega
     have b1_a:Below W1.heap.size W1 w1_9:=by rw [e1.out];exact bgrow (balloc (bgrow (Below.refl _ _).drew h1_0)) h1_9
     refine NoPan.gen (fun wf=>Below W1.heap.size W1 wf∧W1.heap.size≤w1_0.heap.size∧w1_0.heap.size<wf.heap.size∧wf.cell? ⟨w1_0.heap.size,0,none⟩=some (.int .i64 (ox+l))∧wf.frozen? ⟨w1_0.heap.size,0,none⟩=false∧wf.cell? ⟨w1_0.heap.size,1,none⟩=some (.int .i64 (oy+t))∧wf.frozen? ⟨w1_0.heap.size,1,none⟩=false∧wf.cell? ⟨w1_0.heap.size,2,none⟩=some (.int .i64 r)∧wf.frozen? ⟨w1_0.heap.size,2,none⟩=false∧wf.cell? ⟨w1_0.heap.size,3,none⟩=some (.int .i64 q)∧wf.frozen? ⟨w1_0.heap.size,3,none⟩=false) ?_ (fun wf1 hwf1=>?_)
     ·refine ⟨by repeat (first | exact b1_a | (refine bset ?_ ?_;rotate_left;((try dsimp only);omega))),?_⟩;refine ⟨s1_b,?_⟩;refine ⟨by simp;omega,?_⟩;go_simp
     generalize hgb1:w1_0.heap.size=b1 at *;have E:=e1.out;subst E;obtain ⟨hB1,hl1,hu1,c1_0,f1_0,c1_1,f1_1,c1_2,f1_2,c1_3,f1_3⟩:=hwf1
     try simp only [World.size_alloc] at hl1
     clear hgb1 e1 hc1_9 hf1_9 s1_a s1_b s1_c b1_a h1_9 w1_9 h1_0 w1_0;obtain ⟨hc1,hf1⟩:=bcell hB1;have hcB:=(hB1.block _ lxW).trans hc0;have HBf:=hD (bkeep2 HB2.out hB1);replace HO:=hD (own_belowN (own_belowN HO.out hbW) hB1);have hsf:=hB1.size;have x7:=cellS hcB 7;have x8:=cellS hcB 8;have lxf:=ltS hcB;have HCB:=hD hcB
     obtain ⟨b4,hb4⟩:∃ z,insR ⟨ox+l,oy+t,r,q⟩ px py=z:=⟨_,rfl⟩
     have hbd0:=HBD.out;rw [HR.out] at hbd0
     have hbd:BdM ⟨ox+l,oy+t,r,q⟩:=by
      obtain ⟨⟨a1,a2⟩,a3⟩:=hbd0
      dsimp only at a1 a2
      exact ⟨⟨by dsimp only;omega,by dsimp only;omega⟩,a3⟩
     have hb4b:((-4000000000000000≤b4.x∧b4.x≤4000000000000000)∧(-4000000000000000≤b4.y∧b4.y≤4000000000000000))∧((0≤b4.u∧b4.u≤20000000000000)∧(0≤b4.v∧b4.v≤20000000000000)):=by
      have hins:=ins_bdU (a:=⟨ox+l,oy+t,r,q⟩) hbd.2 hpx hpy;obtain ⟨⟨i1,i2⟩,i3,i4⟩:=hins;obtain ⟨⟨a1,a2⟩,a3,a4⟩:=hbd;rw [<- hb4];simp only [insR] at *;omega
     obtain ⟨⟨s1,t1⟩,hst1⟩:∃ z,stkS b4.x b4.u cw (sk % 2 == 1) (sk / 2 % 2 == 1)=z:=⟨_,rfl⟩
     obtain ⟨⟨s2,t2⟩,hst2⟩:∃ z,stkS b4.y b4.v ch (sk / 4 % 2 == 1) (sk / 8 == 1)=z:=⟨_,rfl⟩
     have hcr:cellT S1 S2 ox oy ⟨k1,k2,m1,m2,cw,ch,sk,px,py⟩=⟨s1,s2,t1,t2⟩:=by
      have e0:(⟨ox+l,oy+t,r,q⟩:Re)=(⟨l,t,r,q⟩:Re).at ox oy:=by simp only [Re.at,Re.mk.injEq,and_true];omega
      rw [e0,insR_at] at hb4;rw [<- hb4] at hst1 hst2;have e1:stkS ((insR ⟨l,t,r,q⟩ px py).x+ox) (insR ⟨l,t,r,q⟩ px py).u cw (decide (sk % 2=1)) (decide (sk / 2 % 2=1))=(s1,t1):=hst1;have e2:stkS ((insR ⟨l,t,r,q⟩ px py).y+oy) (insR ⟨l,t,r,q⟩ px py).v ch (decide (sk / 4 % 2=1)) (decide (sk / 8=1))=(s2,t2):=hst2;rw [stkS_at] at e1 e2;obtain ⟨f1,f2⟩:=Prod.mk.inj e1;obtain ⟨f3,f4⟩:=Prod.mk.inj e2
      unfold cellT cellR;rw [HR.out]
      dsimp only [Re.at]
      rw [f1,f2,f3,f4]
     rw [hcr] at HTS;have HBD4:=hD hbd;have HB4:=hD hb4;have HST1:=hD hst1;have HST2:=hD hst2;have HBB4:=hD hb4b;clear hcB hb4 hbd hb4b hst1 hst2 hcr p1 p2 w1 w2 j1 j2 j3 j4 j5 j6 j7 j8 j9 j10 j11 j12 T1 T2 T3 T4 x0 x1 x2 x3 y0 y1 hc0 hyW hbW hB1 HBD HB2 hc1 hf1 g1l g2l h7' h8' z5 z6 HBR
     go_wp2_with fail
     refine (sinset_r ⟨ox+l,oy+t,r,q⟩ b4 px py _ HBD4.out hpx hpy HB4.out).mono ?_;rintro e w5 ⟨rfl,hb5⟩;have HCB5:=hD ((hb5.block _ lxf).trans HCB.out);have HB5:=hD (bkeep2 HBf.out hb5);have HO5:=hD (own_belowN HO.out hb5);have hs5:=hb5.size;clear hb5 x7 x8 c1_0 c1_1 c1_2 c1_3 f1_0 f1_1 f1_2 f1_3 HCB HBf HO
     go_upto_region 10 with (fail)
     refine wp_genGG (fun W=>W.heap[wr.heap.size]?=some (.cells #[.int .i64 k1,.int .i64 k2,.int .i64 m1,.int .i64 m2,.int .i64 cw,.int .i64 ch,.int .i64 sk,.int .i64 px,.int .i64 py] 80 (0,0))∧W.heap[w5.heap.size]?=some (.cells #[.int .i64 b4.x,.int .i64 b4.y,.int .i64 b4.u,.int .i64 b4.v] 45 (0,0))∧W.ownsRow w2.heap.size 45 4 u7 k (revals ((L3.map (cellT S1 S2 ox oy)).take k))∧Below w2.heap.size w2 W∧wr.heap.size≤W.heap.size) ⟨(Below.heap_alloc _ _ _ (by omega)).trans HCB5.out,newS _ _,HO5.out.alloc _,balloc HB5.out,by simp;omega⟩ (fun W6 h6=>?_)
     clear HCB5 HB5 HO5;obtain ⟨hcx,hin,ho6,hb6,hs6⟩:=h6;have x4:=cellS hcx 4;have x5:=cellS hcx 5;have x6:=cellS hcx 6;have i0:=cellS hin 0;have i1:=cellS hin 1;have i2:=cellS hin 2;have i3:=cellS hin 3;have lxc:=ltS hcx;have lin:=ltS hin;obtain ⟨hsk0,hsk1⟩:=hsk;have hob6:=ho6.lt;have HO6:=hD ho6;have HB6:=hD hb6;clear hcx hin ho6 hb6 hob
     go_wp2_with fail
     refine (sstuck_v b4.x b4.u cw s1 t1 _ _ _ HBB4.out.1.1 HBB4.out.2.1 hcw HST1.out).mono ?_;rintro e w7 ⟨rfl,rfl⟩
     go_wp2_with fail
     refine (sstuck_v b4.y b4.v ch s2 t2 _ _ _ HBB4.out.1.2 HBB4.out.2.2 hch HST2.out).mono ?_;rintro e w7 ⟨rfl,rfl⟩;clear x4 x5 x6 i0 i1 i2 i3
     go_wp2_with (at_builtin;refine wpList_append_own _ rfl _ _ 26 rfl w2.heap.size 45 ti tz 4 32 Tryz.underlying26 ti1 ti2 ti3 ti4 ti5 (by decide) _ _ _ rfl (HO6.out.alloc _) ⟨W6.heap.size,0,none⟩ 1 1 (valsRe ⟨s1,s2,t1,t2⟩) rfl rfl (newRe4 _ ⟨s1,s2,t1,t2⟩ _) (valsRe_one _) (by simp only [maxLen];omega) (by omega) (by simp;omega) ?_)
     intro v5 w8 how5 hgr5 _;rw [HTS.out] at how5;replace HB6:=hD (below_own HB6.out hgr5 hob6 (Nat.le_refl _) (Nat.le_refl _));replace HO6:=hD how5;clear how5 hgr5 hob6;go_wp2
     go_roundw
     case rel=>exact ⟨k+1,by omega,by go_num,by simpa using HO6.out,HB6.out⟩
     case measure=>simp [intOf];omega
    ·have hd:decide ((k:Int)<(L3.length:Int))=false:=decide_eq_false (by omega)
     obtain rfl:k=L3.length:=by omega
     have he:(L3.map (cellT S1 S2 ox oy)).take L3.length=L3.map (cellT S1 S2 ox oy):=List.take_of_length_le (by simp);rw [he] at ho;have HR:=hD (ReR.own ho (by simp));have HF:=hD (fun k hk=>Nat.le_trans hs2 (ho.lt k hk).1);have HBR:=hD (HB.out.trans (hBr.mono hs2));clear ho hBr he xg;go_wp2;go_ret;exact ⟨⟨_,rfl,HR.out,HF.out⟩,HBR.out⟩
end
section
theorem rvals_get:∀ {M:List Rc} {i:Nat} {r:Rc},M[i]?=some r→∀ j,j<4→(rvals M)[i*4+j]?=(vals4 r)[j]?
 | [],i,r,h,_,_=>by simp at h
 | q :: t,0,r,h,j,hj=>by
  simp at h;subst h
  show (vals4 q ++ rvals t)[0*4+j]?=_
  rw [List.getElem?_append_left (by simp [vals4];omega)];simp
 | q :: t,i+1,r,h,j,hj=>by
  show (vals4 q ++ rvals t)[(i+1)*4+j]?=_
  rw [List.getElem?_append_right (by simp [vals4];omega)]
  have:=rvals_get (M:=t) (i:=i) (r:=r) (by simpa using h) j hj
  rw [<- this];congr 1;simp [vals4];omega
def RV (w:World) (v:Value) (M:List Rc):Prop:=∃ A c,v=.slice A M.length c∧(0<M.length→∃ b,A=some ⟨b,0,none⟩∧b<w.heap.size∧∀ i r,M[i]?=some r→Cells4 w b (i*4) r)
theorem Cells4.at {w w':World} {b o:Nat} {r:Rc} (h:Cells4 w b o r) (hb:w'.heap[b]?=w.heap[b]?):Cells4 w' b o r:=by
 have e:∀ i,w'.cell? ⟨b,i,none⟩=w.cell? ⟨b,i,none⟩:=fun i=>World.cell?_of_block hb
 obtain ⟨h0,h1,h2,h3⟩:=h;exact ⟨(e _).trans h0,(e _).trans h1,(e _).trans h2,(e _).trans h3⟩
theorem RV.keep {w w':World} {v:Value} {M:List Rc} (h:RV w v M) (hb:Below w.heap.size w w'):RV w' v M:=by
 obtain ⟨A,c,e,h⟩:=h;exact ⟨A,c,e,fun h0=>let ⟨b,e1,h1,h2⟩:=h h0;⟨b,e1,Nat.lt_of_lt_of_le h1 hb.size,fun i r hr=>(h2 i r hr).at (hb.block b h1)⟩⟩
theorem RV.nil (w:World):RV w (.slice none 0 0) []:=⟨none,0,rfl,fun h=>absurd h (by simp)⟩
theorem RV.own {w:World} {base n:Nat} {v:Value} {M:List Rc} {T:TypeId} (h:w.ownsRow base T 4 v n (rvals M)) (hn:n=M.length):RV w v M:=by
 subst hn;have hl:=h.lt
 have hc:=fun g hg=>h.cells (g:=g) hg
 rcases h.2 with ⟨rfl,h0⟩ | ⟨g,cap,cur,rfl,_⟩
 ·exact ⟨none,0,by rw [h0],fun h=>absurd h (by omega)⟩
 ·refine ⟨_,cap,rfl,fun _=>⟨g,rfl,(hl g rfl).2,fun i r hr=>?_⟩⟩
  have e:∀ j,j<4→∀ u,(vals4 r)[j]?=some u→w.cell? ⟨g,i*4+j,none⟩=some u:=fun j hj u hu=>by
   have h1:=hc g rfl (i*4+j) u ((rvals_get hr j hj).trans hu)
   have hadd:(⟨g,0,none⟩:Addr).add (i*4+j)=⟨g,i*4+j,none⟩:=by unfold Addr.add;split <;> simp_all
   rwa [hadd] at h1
  exact ⟨e 0 (by omega) _ rfl,e 1 (by omega) _ rfl,e 2 (by omega) _ rfl,e 3 (by omega) _ rfl⟩
theorem RV.blk {w:World} {g n:Nat} {M:List Rc} (h:Blk4 w g M) (hn:n=M.length) (m:Nat):RV w (.slice (some ⟨g,0,none⟩) n m) M:=by
 subst hn;obtain ⟨cs,hh,hs,hc⟩:=h;exact ⟨_,m,rfl,fun _=>⟨g,rfl,(gE hh).1,fun i r hr=>(hc i r hr).cells hh⟩⟩
end
section
theorem own_in4 {w:World} {base n:Nat} {v:Value} {M:List Rc} {T:TypeId} (h:w.ownsRow base T 4 v n (rvals M)) (hn:n=M.length) :
  (v=.slice none 0 0∧M=[]) ∨ ∃ g cap,∃ cs:Array Value,v=.slice (some ⟨g,0,none⟩) n cap∧base≤g∧n≤cap∧w.heap[g]?=some (.cells cs T (0,0))∧cs.size=cap*4∧∀ i r,M[i]?=some r→In4 cs (i*4) r:=by
 rcases h.2 with ⟨rfl,h0⟩ | ⟨g,cap,cur,rfl,hb,hg,hc,_,hs,ht⟩
 ·exact .inl ⟨rfl,List.length_eq_zero_iff.1 (by omega)⟩
 ·refine .inr ⟨g,cap,cur,rfl,hb,hc,hg,hs,fun i r hr j hj=>?_⟩;rw [<- rvals_get hr j hj,<- ht,List.getElem?_take]
  have:i<M.length:=(List.getElem?_eq_some_iff.1 hr).1
  rw [if_pos (by omega)];simp
end
end Go.Proofs.YtenckjdiggaonaaGreat
