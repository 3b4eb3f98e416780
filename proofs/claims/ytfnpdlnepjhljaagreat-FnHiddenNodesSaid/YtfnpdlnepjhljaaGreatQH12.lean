import Derived.Test.YtfnpdlnepjhljaaGreatQH11
set_option linter.unusedVariables false
set_option linter.unusedSimpArgs false
set_option maxRecDepth 100000
set_option maxHeartbeats 16000000
namespace Go.Proofs.YtfnpdlnepjhljaaGreat
open Go.RowKit
attribute [local go_sem] kZb kZp kZg
section
attribute [local go_sem 5000] kZk kZj
attribute [local go_sem] jZ0 jZ5 jZ2
def qZz:List Re→List Value
 | []=>[]
 | r :: t=>jZr r ++ qZz t
theorem eZm (A B:List Re):qZz (A ++ B)=qZz A ++ qZz B:=by
 induction A with
 | nil=>rfl
 | cons r t ih=>simp [qZz,ih]
theorem cZb {M:List Re} {k:Nat} {r:Re} (h:M[k]?=some r):qZz (M.take k) ++ jZr r=qZz (M.take (k+1)):=by
 rw [List.take_add_one,h,Option.toList,eZm];simp [qZz]
theorem cZ2:∀ {M:List Re} {i:Nat} {r:Re},M[i]?=some r→∀ j,j<4→(qZz M)[i*4+j]?=(jZr r)[j]?
 | [],i,r,h,_,_=>by simp at h
 | q :: t,0,r,h,j,hj=>by
  simp at h;subst h
  show (jZr q ++ qZz t)[0*4+j]?=_
  rw [List.getElem?_append_left (by simp [jZr];omega)];simp
 | q :: t,i+1,r,h,j,hj=>by
  show (jZr q ++ qZz t)[(i+1)*4+j]?=_
  rw [List.getElem?_append_right (by simp [jZr];omega)]
  have:=cZ2 (M:=t) (i:=i) (r:=r) (by simpa using h) j hj
  rw [<- this];congr 1;simp [jZr];omega
theorem ReR.own {w:World} {base n:Nat} {v:Value} {M:List Re} {T:TypeId} (h:w.ownsRow base T 4 v n (qZz M)) (hn:n=M.length):ReR w v M:=by
 subst hn;have hl:=h.lt
 have hc:=fun g hg=>h.cells (g:=g) hg
 rcases h.2 with ⟨rfl,h0⟩ | ⟨g,cap,cur,rfl,_⟩
 ·exact ⟨none,0,by rw [h0],⟨fun h=>absurd h (by omega)⟩⟩
 ·refine ⟨_,cap,rfl,⟨fun _=>⟨g,0,rfl,(hl g rfl).2,fun i r hr=>?_⟩⟩⟩
  have e:∀ j,j<4→∀ u,(jZr r)[j]?=some u→w.cell? ⟨g,0+i*4+j,none⟩=some u:=fun j hj u hu=>by
   have h1:=hc g rfl (i*4+j) u ((cZ2 hr j hj).trans hu)
   have hadd:(⟨g,0,none⟩:Addr).add (i*4+j)=⟨g,i*4+j,none⟩:=by unfold Addr.add;split <;> simp_all
   rw [hadd] at h1
   rwa [Nat.zero_add]
  exact ⟨e 0 (by omega) _ rfl,e 1 (by omega) _ rfl,e 2 (by omega) _ rfl,e 3 (by omega) _ rfl⟩
theorem cZw:∃ (i:TypeInfo) (z:Value),Tryz.prog.info? 32=some i∧i.zero=some z∧i.size=4∧i.bytes=32∧z.cells.size=4:=by
 have hinfo:(Tryz.prog.info? 32).map (fun i=>(i.zero,i.size,i.bytes))=some (some (.agg #[.int .i64 0,.int .i64 0,.int .i64 0,.int .i64 0]),4,32):=by kernel_rfl
 obtain ⟨i,hi,h1,h2,h3⟩:=info_parts hinfo;exact ⟨i,_,hi,h1,h2,h3,rfl⟩
theorem newRe4 (W:World) (r:Re) (T:TypeId):∀ (j:Nat) (u:Value),(jZr r)[j]?=some u→(W.alloc (.cells #[.int .i64 r.x,.int .i64 r.y,.int .i64 r.u,.int .i64 r.v] T)).cell? ((⟨W.heap.size,0,none⟩:Addr).add j)=some u:=fun j u h=>by
 have hadd:(⟨W.heap.size,0,none⟩:Addr).add j=⟨W.heap.size,j,none⟩:=by unfold Addr.add;split <;> simp_all
 rw [hadd];exact (jZc (newS W _) j).trans (by simpa [jZr] using h)
theorem vZa (r:Re):∀ u∈jZr r,u.oneCell'=true:=by intro u hu;simp [jZr] at hu;rcases hu with rfl | rfl | rfl | rfl <;> rfl
theorem sinset_g (x y u v p q:Int) (w:World) (h:((-2000000000000000≤x∧x≤2000000000000000)∧(-2000000000000000≤y∧y≤2000000000000000))∧((0≤u∧u≤20000000000000)∧(0≤v∧v≤20000000000000))) (hp:0≤p∧p≤10) (hq:0≤q∧q≤10):Calls Tryz.prog 172 #[.agg #[.int .i64 (x),.int .i64 (y),.int .i64 (u),.int .i64 (v)],.int .i64 p,.int .i64 q] w fun e w'=>e=.returned (.agg #[.int .i64 (x+mn p (u / 2)),.int .i64 (y+mn q (v / 2)),.int .i64 (mx (u-2*p) 0),.int .i64 (mx (v-2*q) 0)])∧Below w.heap.size w w':=by
 have hbd:=ins_bdU (a:=⟨x,y,u,v⟩) h.2 hp hq
 dsimp only at hbd
 obtain ⟨⟨⟨m1,m2⟩,m3,m4⟩,⟨m5,m6⟩,m7,m8⟩:=hbd;obtain ⟨⟨⟨a1,a2⟩,⟨a3,a4⟩⟩,⟨a5,a6⟩,⟨a7,a8⟩⟩:=h;obtain ⟨b1,b2⟩:=hp;obtain ⟨b3,b4⟩:=hq;rw [vZp (u-2*p) 0,vZp (v-2*q) 0] at *
 go_enter Tryz.func172,Tryz.ntmps172
 go_wp2
 exact bodyPost_ret (v:=.agg #[.int .i64 (x+mn p (u / 2)),.int .i64 (y+mn q (v / 2)),.int .i64 (mx 0 (u-2*p)),.int .i64 (mx 0 (v-2*q))]) (by simp only [results,Tryz.results172];go_simp) rfl ⟨rfl,(by repeat (first | with_reducible exact Below.refl _ _ | with_reducible assumption | with_reducible refine jZd ?_|(with_reducible refine bset ?_ ?_;rotate_left;((try dsimp only);omega)) | refine jZa ?_ (by assumption) | with_reducible refine Below.drew ?_))⟩
theorem sinset_r (a b:Re) (p q:Int) (w:World) (h:BdM a) (hp:0≤p∧p≤10) (hq:0≤q∧q≤10) (hb:insR a p q=b):Calls Tryz.prog 172 #[.agg #[.int .i64 a.x,.int .i64 a.y,.int .i64 a.u,.int .i64 a.v],.int .i64 p,.int .i64 q] w fun e w'=>e=.returned (.agg #[.int .i64 b.x,.int .i64 b.y,.int .i64 b.u,.int .i64 b.v])∧Below w.heap.size w w':=by
 subst hb;exact sinset_g _ _ _ _ _ _ w h hp hq
theorem sstuck_v (x room wish s t:Int) (lo hi:Bool) (w:World) (hx:-4000000000000000≤x∧x≤4000000000000000) (hr:0≤room∧room≤20000000000000) (hw:0≤wish∧wish≤1000000000000) (hs:stkS x room wish lo hi=(s,t)):Calls Tryz.prog 173 #[.int .i64 x,.int .i64 room,.int .i64 wish,.bool lo,.bool hi] w fun e w'=>e=.returned (.tuple #[.int .i64 s,.int .i64 t])∧w=w':=by
 have hm:=jZz wish room
 have m1:0≤mn wish room:=by omega
 have m2:mn wish room≤1000000000000:=by omega
 have m3:mn wish room≤room:=by omega
 clear hm;obtain ⟨hx0,hx1⟩:=hx;obtain ⟨hr0,hr1⟩:=hr
 cases lo <;> cases hi
 all_goals
  simp [stkS] at hs
  obtain ⟨rfl,rfl⟩:=hs
  go_enter Tryz.func173,Tryz.ntmps173
  go_wp2;refine bodyPost_ret (by simp only [results,Tryz.results173];go_simp) rfl ⟨rfl,rfl⟩
theorem NV.takeN {w:World} {g:Nat} {L:List Int} (h:NV w (some ⟨g,0,none⟩) L) (k:Nat):NV w (some ⟨g,0,none⟩) (L.take k):=by
 refine ⟨fun h0=>?_⟩;obtain ⟨b,off,e,hb,hp⟩:=h.cells (by rw [List.length_take] at h0;omega)
 cases e
 exact ⟨g,0,rfl,hb,fun i x hx=>hp i x (by rw [List.getElem?_take] at hx;split at hx;exact hx;cases hx)⟩
theorem NV.segN {w:World} {g:Nat} {L:List Int} (h:NV w (some ⟨g,0,none⟩) L) (a m:Nat):NV w (some ⟨g,a,none⟩) (segI L a m):=by
 refine ⟨fun h0=>?_⟩;obtain ⟨b,off,e,hb,hp⟩:=h.cells (by have:0<(segI L a m).length:=h0;rw [segI,List.length_take,List.length_drop] at this;omega)
 cases e
 refine ⟨g,a,rfl,hb,fun i x hx=>?_⟩;rw [segI,List.getElem?_take] at hx
 split at hx
 ·rw [List.getElem?_drop] at hx
  have:=hp (a+i) x hx
  rwa [Nat.zero_add] at this
 ·cases hx
def NRo (w:World) (v:Value) (n:Nat) (L:List Int):Prop:=∃ g c,v=.slice (some ⟨g,0,none⟩) n c∧n≤c∧NV w (some ⟨g,0,none⟩) L
theorem NRo.keep {w w':World} {v:Value} {n:Nat} {L:List Int} (h:NRo w v n L) (hb:Below w.heap.size w w'):NRo w' v n L:=let ⟨A,c,e,q,n⟩:=h;⟨A,c,e,q,n.keep hb⟩
theorem tot_z (g o n c:Nat) (L:List Int) (W:World) (h:NV W (some ⟨g,o,none⟩) L) (hn:n=L.length) (hM:Smal 1000000000000000 L) (h5:n≤5):∀ w',Below W.heap.size W w'→Calls Tryz.prog 151 #[.slice (some ⟨g,o,none⟩) n c] w' fun e w''=>e=.returned (.int .i64 (sumI L))∧Gr w' w'' :=
 fun w' hb=>eZh _ c n L w' (h.keep hb) hn (by omega) hM
theorem gridded_w (A1:Option Addr) (c1:Nat) (L1:List Ln) (A2:Option Addr) (c2:Nat) (L2:List Ln) (A3:Option Addr) (c3:Nat) (L3:List Ce) (ox oy u v:Int) (w:World) (h1:LnV w A1 L1) (h2:LnV w A2 L2) (h3:CeV w A3 L3) (gf:GW L1 L2 L3) (hu:rqW u v=true) (hox:-1000000000000000≤ox∧ox≤1000000000000000) (hoy:-1000000000000000≤oy∧oy≤1000000000000000) (q1:L1.length≤c1) (q2:L2.length≤c2) :
  Calls Tryz.prog 141 #[.agg #[.slice A1 L1.length c1,.slice A2 L2.length c2,.slice A3 L3.length c3],.agg #[.int .i64 (ox),.int .i64 (oy),.int .i64 (u),.int .i64 (v)]] w fun e w'=>(∃ x,e=.returned x∧ReR w' x (L3.map (cZr (kZa L1 (L3.map acM) u) (kZa L2 (L3.map dnM) v) ox oy))∧∀ k,x.ownBlock=some k→w.heap.size≤k)∧Below w.heap.size w w':=by
 obtain ⟨ti,tz,ti1,ti2,ti3,ti4,ti5⟩:=cZw;obtain ⟨⟨u0,u1⟩,⟨v0,v1⟩⟩:=pZu.1 hu;have hl8:=gf.hl8;have n1:=gf.n1;have n2:=gf.n2;have hz1:=SzB.of gf.v1 gf.s1 u0 u1;have hz2:=SzB.of gf.v2 gf.s2 v0 v1;have l1:=qZ4 (room:=u) gf.v1 gf.s1 u0 u1;have l2:=qZ4 (room:=v) gf.v2 gf.s2 v0 v1;have HF:=hD gf;have HFT:=hD (fit_ofW gf l1 l2);have HZ1:=hD hz1;have HZ2:=hD hz2;have HL1:=hD l1
 have HL2:=hD l2
 obtain ⟨S1,hS1⟩:∃ S,(kZa L1 (L3.map acM) u)=S:=⟨_,rfl⟩
 obtain ⟨S2,hS2⟩:∃ S,(kZa L2 (L3.map dnM) v)=S:=⟨_,rfl⟩
 have HLL1:=hD l1;have HLL2:=hD l2;rw [hS1] at HFT HZ1 HL1;rw [hS2] at HFT HZ2 HL2;rw [hS1,hS2];have HE1:=hD hS1;have HE2:=hD hS2;clear hS1 hS2;have hB0:Below w.heap.size w ((w.alloc (.cells #[.slice A1 L1.length c1,.slice A2 L2.length c2,.slice A3 L3.length c3] 128 (0,0))).alloc (.cells #[.int .i64 ox,.int .i64 oy,.int .i64 u,.int .i64 v] 32 (0,0))):=jZd (jZd (Below.refl _ _))
 have HX:=hD ((Below.heap_alloc (w.alloc (.cells #[.slice A1 L1.length c1,.slice A2 L2.length c2,.slice A3 L3.length c3] 128 (0,0))) (.cells #[.int .i64 ox,.int .i64 oy,.int .i64 u,.int .i64 v] 32 (0,0)) w.heap.size (by simp)).trans (newS w (.cells #[.slice A1 L1.length c1,.slice A2 L2.length c2,.slice A3 L3.length c3] 128 (0,0))))
 have hy:=newS (w.alloc (.cells #[.slice A1 L1.length c1,.slice A2 L2.length c2,.slice A3 L3.length c3] 128 (0,0))) (.cells #[.int .i64 ox,.int .i64 oy,.int .i64 u,.int .i64 v] 32 (0,0));rw [World.size_alloc] at hy;have HY:=hD hy;have HV1:=hD (h1.keep hB0);have HV2:=hD (h2.keep hB0);have HV3:=hD (h3.keep hB0);have HB:=hD hB0;clear hB0 h1 h2 h3 gf hu hy hz1 hz2 l1 l2
 go_enter Tryz.func141,Tryz.ntmps141
 go_upto_region 1 with (fail)
 refine kZf (fun W=>W.heap[w.heap.size]?=some (.cells #[.slice A1 L1.length c1,.slice A2 L2.length c2,.slice A3 L3.length c3] 128 (0,0))∧W.heap[w.heap.size+1]?=some (.cells #[.int .i64 ox,.int .i64 oy,.int .i64 u,.int .i64 v] 32 (0,0))∧LnV W A1 L1∧LnV W A2 L2∧CeV W A3 L3∧Below w.heap.size w W) ⟨HX.out,HY.out,HV1.out,HV2.out,HV3.out,HB.out⟩ (fun w0 h0=>?_);clear HX HY HV1 HV2 HV3 HB
 obtain ⟨hx,hy,h1,h2,h3,hb0⟩:=h0;have HX:=hD hx;have HY:=hD hy;have HV1:=hD h1;have HV2:=hD h2;have HV3:=hD h3;have HB:=hD hb0;clear hx hy h1 h2 h3 hb0;have d0:=jZc HX.out 0;have d1:=jZc HX.out 1;have d2:=jZc HX.out 2;have y2:=jZc HY.out 2;have lx:=ltS HX.out;have ly:=ltS HY.out
 go_wp2_with fail
 refine kZ8 (XV (.pointer (some ⟨w.heap.size,0,none⟩)) :: XV (.slice A1 L1.length c1) :: XV (.pointer (some ⟨w.heap.size,0,none⟩)) :: XV (.slice A1 L1.length c1) :: XV (.agg #[.slice A1 L1.length c1,.slice A2 L2.length c2,.slice A3 L3.length c3]) :: (fun z9 w=>SpR w z9 (L3.map acM)) :: (fun z9 w=>NRz w z9 L1.length (kZl L1 (L3.map acM))) :: XV (.pointer (some ⟨w.heap.size+1,2,none⟩)) :: XV (.int .i64 u) :: (fun z9 w=>NRo w z9 L1.length (kZa L1 (L3.map acM) u)) :: (fun z9 w=>NRo w z9 L1.length (kZa L1 (L3.map acM) u)) :: []) (by kernel_rfl) (by kernel_rfl) ?hTs ?hops ?hfin
 case hTs =>
  intro T hT;simp only [List.mem_cons,List.not_mem_nil,or_false] at hT
  rcases hT with rfl | rfl | rfl | rfl | rfl | rfl | rfl | rfl | rfl | rfl | rfl <;> first | exact qZn _ | exact qZo | exact kZh (fun v a b x g=>x.keep g) | exact kZh (fun v a b x g=>x)
 case hops =>
  refine ⟨jZb [(2,none)] (by kernel_rfl) rfl ?_,?_⟩
  ·intro act w' hw' h1;obtain ⟨hk,hf⟩:=evkf act;generalize act.eval=ρ at *;replace h1:ρ (.tmp 2)=.pointer (some ⟨w.heap.size,0,none⟩):=h1
   refine gxB hw' fun K hK hc hf'=>?_
   go_simp;exact hK _ _ ⟨rfl,Gr.refl _⟩
  refine ⟨jZb [(16,some 0)] (by kernel_rfl) rfl ?_,?_⟩
  ·intro act w' hw' h1;obtain ⟨hk,hf⟩:=evkf act;generalize act.eval=ρ at *;replace h1:ρ (.tmp 16)=.pointer (some ⟨w.heap.size,0,none⟩):=h1
   refine gxB hw' fun K hK hc hf'=>?_
   go_simp;exact hK _ _ ⟨rfl,Gr.refl _⟩
  refine ⟨jZb [(2,none)] (by kernel_rfl) rfl ?_,?_⟩
  ·intro act w' hw' h1;obtain ⟨hk,hf⟩:=evkf act;generalize act.eval=ρ at *;replace h1:ρ (.tmp 2)=.pointer (some ⟨w.heap.size,0,none⟩):=h1
   refine gxB hw' fun K hK hc hf'=>?_
   go_simp;exact hK _ _ ⟨rfl,Gr.refl _⟩
  refine ⟨jZb [(18,some 2)] (by kernel_rfl) rfl ?_,?_⟩
  ·intro act w' hw' h1;obtain ⟨hk,hf⟩:=evkf act;generalize act.eval=ρ at *;replace h1:ρ (.tmp 18)=.pointer (some ⟨w.heap.size,0,none⟩):=h1
   refine gxB hw' fun K hK hc hf'=>?_
   go_simp;exact hK _ _ ⟨rfl,Gr.refl _⟩
  refine ⟨jZb [(2,none)] (by kernel_rfl) rfl ?_,?_⟩
  ·intro act w' hw' h1;obtain ⟨hk,hf⟩:=evkf act;generalize act.eval=ρ at *;replace h1:ρ (.tmp 2)=.pointer (some ⟨w.heap.size,0,none⟩):=h1
   refine gxB hw' fun K hK hc hf'=>?_
   go_simp;exact hK _ _ ⟨rfl,Gr.refl _⟩
  refine ⟨jZb [(20,some 4)] (by kernel_rfl) rfl ?_,?_⟩
  ·intro act w' hw' h1;obtain ⟨hk,hf⟩:=evkf act;generalize act.eval=ρ at *;replace h1:ρ (.tmp 20)=.agg #[.slice A1 L1.length c1,.slice A2 L2.length c2,.slice A3 L3.length c3]:=h1
   refine gxB hw' fun K hK hc hf'=>?_
   go_simp
   (with_reducible refine (dZn A1 A2 A3 c1 L1.length c2 L2.length c3 L3 _ (HV3.out.keep (jZs hw'.out)) hl8 HF.out.hsm).mono ?_);rintro e w1 ⟨⟨z,rfl,hr1⟩,hb1⟩;exact ⟨_,rfl,hK _ _ ⟨hr1,hb1⟩⟩
  refine ⟨jZb [(19,some 3),(21,some 5)] (by kernel_rfl) rfl ?_,?_⟩
  ·intro act w' hw' h1 h2;obtain ⟨hk,hf⟩:=evkf act;generalize act.eval=ρ at *;replace h1:ρ (.tmp 19)=.slice A1 L1.length c1:=h1;replace h2:(fun z9 w=>SpR w z9 (L3.map acM)) (ρ (.tmp 21)) w':=h2
   refine gxB hw' fun K hK hc hf'=>?_
   go_simp;obtain ⟨A,c,e,hs⟩:=h2;rw [e];(with_reducible refine (bZa A1 c1 L1 A c (L3.map acM) _ (HV1.out.keep (jZs hw'.out)) HF.out.v1 hs HF.out.s1 q1).mono ?_);rintro e w1 ⟨⟨g,cap,rfl,_,hr1⟩,hb1⟩;exact ⟨_,rfl,hK _ _ ⟨⟨_,_,rfl,hr1.nv⟩,hb1⟩⟩
  refine ⟨jZb [(3,none)] (by kernel_rfl) rfl ?_,?_⟩
  ·intro act w' hw' h1;obtain ⟨hk,hf⟩:=evkf act;generalize act.eval=ρ at *;replace h1:ρ (.tmp 3)=.pointer (some ⟨w.heap.size+1,0,none⟩):=h1
   refine gxB hw' fun K hK hc hf'=>?_
   go_simp;exact hK _ _ ⟨rfl,Gr.refl _⟩
  refine ⟨jZb [(23,some 7)] (by kernel_rfl) rfl ?_,?_⟩
  ·intro act w' hw' h1;obtain ⟨hk,hf⟩:=evkf act;generalize act.eval=ρ at *;replace h1:ρ (.tmp 23)=.pointer (some ⟨w.heap.size+1,2,none⟩):=h1
   refine gxB hw' fun K hK hc hf'=>?_
   go_simp;exact hK _ _ ⟨rfl,Gr.refl _⟩
  refine ⟨jZb [(17,some 1),(22,some 6),(24,some 8)] (by kernel_rfl) rfl ?_,?_⟩
  ·intro act w' hw' h1 h2 h3;obtain ⟨hk,hf⟩:=evkf act;generalize act.eval=ρ at *;replace h1:ρ (.tmp 17)=.slice A1 L1.length c1:=h1;replace h2:(fun z9 w=>NRz w z9 L1.length (kZl L1 (L3.map acM))) (ρ (.tmp 22)) w':=h2;replace h3:ρ (.tmp 24)=.int .i64 u:=h3
   refine gxB hw' fun K hK hc hf'=>?_
   go_simp
   obtain ⟨A,c,e,hs⟩:=h2;rw [e];(with_reducible refine (sized_w A c L1.length _ A1 c1 L1 u _ hs (pZ1 HF.out.v1 HF.out.s1).2.1.symm (HV1.out.keep (jZs hw'.out)) HF.out.v1 (pZ1 HF.out.v1 HF.out.s1).1 (pZ1 HF.out.v1 HF.out.s1).2.2.1 (pZ1 HF.out.v1 HF.out.s1).2.2.2.1 (pZ1 HF.out.v1 HF.out.s1).2.2.2.2 u0 u1).mono ?_);rintro e w1 ⟨⟨g,cap,rfl,_,hr1⟩,hb1⟩;exact ⟨_,rfl,hK _ _ ⟨⟨g,cap,rfl,Nat.le_trans (Nat.le_of_eq HLL1.out.symm) hr1.1,hr1.nv⟩,hb1⟩⟩
  refine ⟨jZb [(25,some 9)] (by kernel_rfl) rfl ?_,?_⟩
  ·intro act w' hw' h1;obtain ⟨hk,hf⟩:=evkf act;generalize act.eval=ρ at *;replace h1:(fun z9 w=>NRo w z9 L1.length (kZa L1 (L3.map acM) u)) (ρ (.tmp 25)) w':=h1
   refine gxB hw' fun K hK hc hf'=>?_
   go_simp;exact hK _ _ ⟨h1,Gr.refl _⟩
  exact trivial
 case hfin =>
  intro w1 hg1;intro v16 t16;replace t16:v16=.pointer (some ⟨w.heap.size,0,none⟩):=t16;subst t16;intro v17 t17;replace t17:v17=.slice A1 L1.length c1:=t17;subst t17;intro v18 t18;replace t18:v18=.pointer (some ⟨w.heap.size,0,none⟩):=t18;subst t18;intro v19 t19;replace t19:v19=.slice A1 L1.length c1:=t19;subst t19;intro v20 t20
  replace t20:v20=.agg #[.slice A1 L1.length c1,.slice A2 L2.length c2,.slice A3 L3.length c3]:=t20;subst t20;intro v21 t21;replace t21:(fun z9 w=>SpR w z9 (L3.map acM)) v21 w1:=t21;intro v22 t22;replace t22:(fun z9 w=>NRz w z9 L1.length (kZl L1 (L3.map acM))) v22 w1:=t22;intro v23 t23;replace t23:v23=.pointer (some ⟨w.heap.size+1,2,none⟩):=t23;subst t23;intro v24 t24
  replace t24:v24=.int .i64 u:=t24;subst t24;intro v25 t25;replace t25:(fun z9 w=>NRo w z9 L1.length (kZa L1 (L3.map acM) u)) v25 w1:=t25;intro v5 t5;replace t5:(fun z9 w=>NRo w z9 L1.length (kZa L1 (L3.map acM) u)) v5 w1:=t5;have hb1:=jZs hg1.out;clear hg1;simp only [finP,Act.put,List.setIfInBounds_toArray,List.set_cons_succ,List.set_cons_zero];obtain ⟨g1,e1,rfl,he1,hn1⟩:=t5
  clear t21 t22 t25 d0 d1 d2 y2 lx ly;replace HX:=hbk hb1 HX;replace HY:=hbk hb1 HY;replace HV1:=hD (HV1.out.keep hb1);replace HV2:=hD (HV2.out.keep hb1);replace HV3:=hD (HV3.out.keep hb1);replace HB:=hD (jZa HB.out hb1);clear hb1;have HN1:=hD hn1;clear hn1;have d0:=jZc HX.out 0;have d1:=jZc HX.out 1;have d2:=jZc HX.out 2;have y3:=jZc HY.out 3;have lx:=ltS HX.out;have ly:=ltS HY.out
  go_wp2_with fail
  refine kZ8 (XV (.pointer (some ⟨w.heap.size,1,none⟩)) :: XV (.slice A2 L2.length c2) :: XV (.pointer (some ⟨w.heap.size,1,none⟩)) :: XV (.slice A2 L2.length c2) :: XV (.agg #[.slice A1 L1.length c1,.slice A2 L2.length c2,.slice A3 L3.length c3]) :: (fun z9 w=>SpR w z9 (L3.map dnM)) :: (fun z9 w=>NRz w z9 L2.length (kZl L2 (L3.map dnM))) :: XV (.pointer (some ⟨w.heap.size+1,3,none⟩)) :: XV (.int .i64 v) :: (fun z9 w=>NRo w z9 L2.length (kZa L2 (L3.map dnM) v)) :: (fun z9 w=>NRo w z9 L2.length (kZa L2 (L3.map dnM) v)) :: []) (by kernel_rfl) (by kernel_rfl) ?hTs ?hops ?hfin
  case hTs =>
   intro T hT;simp only [List.mem_cons,List.not_mem_nil,or_false] at hT
   rcases hT with rfl | rfl | rfl | rfl | rfl | rfl | rfl | rfl | rfl | rfl | rfl <;> first | exact qZn _ | exact qZo | exact kZh (fun v a b x g=>x.keep g) | exact kZh (fun v a b x g=>x)
  case hops =>
   refine ⟨jZb [(2,none)] (by kernel_rfl) rfl ?_,?_⟩
   ·intro act w' hw' h1;obtain ⟨hk,hf⟩:=evkf act;generalize act.eval=ρ at *;replace h1:ρ (.tmp 2)=.pointer (some ⟨w.heap.size,0,none⟩):=h1
    refine gxB hw' fun K hK hc hf'=>?_
    go_simp;exact hK _ _ ⟨rfl,Gr.refl _⟩
   refine ⟨jZb [(26,some 0)] (by kernel_rfl) rfl ?_,?_⟩
   ·intro act w' hw' h1;obtain ⟨hk,hf⟩:=evkf act;generalize act.eval=ρ at *;replace h1:ρ (.tmp 26)=.pointer (some ⟨w.heap.size,1,none⟩):=h1
    refine gxB hw' fun K hK hc hf'=>?_
    go_simp;exact hK _ _ ⟨rfl,Gr.refl _⟩
   refine ⟨jZb [(2,none)] (by kernel_rfl) rfl ?_,?_⟩
   ·intro act w' hw' h1;obtain ⟨hk,hf⟩:=evkf act;generalize act.eval=ρ at *;replace h1:ρ (.tmp 2)=.pointer (some ⟨w.heap.size,0,none⟩):=h1
    refine gxB hw' fun K hK hc hf'=>?_
    go_simp;exact hK _ _ ⟨rfl,Gr.refl _⟩
   refine ⟨jZb [(28,some 2)] (by kernel_rfl) rfl ?_,?_⟩
   ·intro act w' hw' h1;obtain ⟨hk,hf⟩:=evkf act;generalize act.eval=ρ at *;replace h1:ρ (.tmp 28)=.pointer (some ⟨w.heap.size,1,none⟩):=h1
    refine gxB hw' fun K hK hc hf'=>?_
    go_simp;exact hK _ _ ⟨rfl,Gr.refl _⟩
   refine ⟨jZb [(2,none)] (by kernel_rfl) rfl ?_,?_⟩
   ·intro act w' hw' h1;obtain ⟨hk,hf⟩:=evkf act;generalize act.eval=ρ at *;replace h1:ρ (.tmp 2)=.pointer (some ⟨w.heap.size,0,none⟩):=h1
    refine gxB hw' fun K hK hc hf'=>?_
    go_simp;exact hK _ _ ⟨rfl,Gr.refl _⟩
   refine ⟨jZb [(30,some 4)] (by kernel_rfl) rfl ?_,?_⟩
   ·intro act w' hw' h1;obtain ⟨hk,hf⟩:=evkf act;generalize act.eval=ρ at *;replace h1:ρ (.tmp 30)=.agg #[.slice A1 L1.length c1,.slice A2 L2.length c2,.slice A3 L3.length c3]:=h1
    refine gxB hw' fun K hK hc hf'=>?_
    go_simp
    (with_reducible refine (dZo A1 A2 A3 c1 L1.length c2 L2.length c3 L3 _ (HV3.out.keep (jZs hw'.out)) hl8 HF.out.hsm).mono ?_);rintro e w1 ⟨⟨z,rfl,hr1⟩,hb1⟩;exact ⟨_,rfl,hK _ _ ⟨hr1,hb1⟩⟩
   refine ⟨jZb [(29,some 3),(31,some 5)] (by kernel_rfl) rfl ?_,?_⟩
   ·intro act w' hw' h1 h2;obtain ⟨hk,hf⟩:=evkf act;generalize act.eval=ρ at *;replace h1:ρ (.tmp 29)=.slice A2 L2.length c2:=h1;replace h2:(fun z9 w=>SpR w z9 (L3.map dnM)) (ρ (.tmp 31)) w':=h2
    refine gxB hw' fun K hK hc hf'=>?_
    go_simp;obtain ⟨A,c,e,hs⟩:=h2;rw [e];(with_reducible refine (bZa A2 c2 L2 A c (L3.map dnM) _ (HV2.out.keep (jZs hw'.out)) HF.out.v2 hs HF.out.s2 q2).mono ?_);rintro e w1 ⟨⟨g,cap,rfl,_,hr1⟩,hb1⟩;exact ⟨_,rfl,hK _ _ ⟨⟨_,_,rfl,hr1.nv⟩,hb1⟩⟩
   refine ⟨jZb [(3,none)] (by kernel_rfl) rfl ?_,?_⟩
   ·intro act w' hw' h1;obtain ⟨hk,hf⟩:=evkf act;generalize act.eval=ρ at *;replace h1:ρ (.tmp 3)=.pointer (some ⟨w.heap.size+1,0,none⟩):=h1
    refine gxB hw' fun K hK hc hf'=>?_
    go_simp;exact hK _ _ ⟨rfl,Gr.refl _⟩
   refine ⟨jZb [(33,some 7)] (by kernel_rfl) rfl ?_,?_⟩
   ·intro act w' hw' h1;obtain ⟨hk,hf⟩:=evkf act;generalize act.eval=ρ at *;replace h1:ρ (.tmp 33)=.pointer (some ⟨w.heap.size+1,3,none⟩):=h1
    refine gxB hw' fun K hK hc hf'=>?_
    go_simp;exact hK _ _ ⟨rfl,Gr.refl _⟩
   refine ⟨jZb [(27,some 1),(32,some 6),(34,some 8)] (by kernel_rfl) rfl ?_,?_⟩
   ·intro act w' hw' h1 h2 h3;obtain ⟨hk,hf⟩:=evkf act;generalize act.eval=ρ at *;replace h1:ρ (.tmp 27)=.slice A2 L2.length c2:=h1;replace h2:(fun z9 w=>NRz w z9 L2.length (kZl L2 (L3.map dnM))) (ρ (.tmp 32)) w':=h2;replace h3:ρ (.tmp 34)=.int .i64 v:=h3
    refine gxB hw' fun K hK hc hf'=>?_
    go_simp
    obtain ⟨A,c,e,hs⟩:=h2;rw [e];(with_reducible refine (sized_w A c L2.length _ A2 c2 L2 v _ hs (pZ1 HF.out.v2 HF.out.s2).2.1.symm (HV2.out.keep (jZs hw'.out)) HF.out.v2 (pZ1 HF.out.v2 HF.out.s2).1 (pZ1 HF.out.v2 HF.out.s2).2.2.1 (pZ1 HF.out.v2 HF.out.s2).2.2.2.1 (pZ1 HF.out.v2 HF.out.s2).2.2.2.2 v0 v1).mono ?_);rintro e w1 ⟨⟨g,cap,rfl,_,hr1⟩,hb1⟩;exact ⟨_,rfl,hK _ _ ⟨⟨g,cap,rfl,Nat.le_trans (Nat.le_of_eq HLL2.out.symm) hr1.1,hr1.nv⟩,hb1⟩⟩
   refine ⟨jZb [(35,some 9)] (by kernel_rfl) rfl ?_,?_⟩
   ·intro act w' hw' h1;obtain ⟨hk,hf⟩:=evkf act;generalize act.eval=ρ at *;replace h1:(fun z9 w=>NRo w z9 L2.length (kZa L2 (L3.map dnM) v)) (ρ (.tmp 35)) w':=h1
    refine gxB hw' fun K hK hc hf'=>?_
    go_simp;exact hK _ _ ⟨h1,Gr.refl _⟩
   exact trivial
  case hfin =>
   intro w2 hg2;intro v26 t26;replace t26:v26=.pointer (some ⟨w.heap.size,1,none⟩):=t26;subst t26;intro v27 t27;replace t27:v27=.slice A2 L2.length c2:=t27;subst t27;intro v28 t28;replace t28:v28=.pointer (some ⟨w.heap.size,1,none⟩):=t28;subst t28;intro v29 t29;replace t29:v29=.slice A2 L2.length c2:=t29;subst t29;intro v30 t30
   replace t30:v30=.agg #[.slice A1 L1.length c1,.slice A2 L2.length c2,.slice A3 L3.length c3]:=t30;subst t30;intro v31 t31;replace t31:(fun z9 w=>SpR w z9 (L3.map dnM)) v31 w2:=t31;intro v32 t32;replace t32:(fun z9 w=>NRz w z9 L2.length (kZl L2 (L3.map dnM))) v32 w2:=t32;intro v33 t33;replace t33:v33=.pointer (some ⟨w.heap.size+1,3,none⟩):=t33;subst t33;intro v34 t34
   replace t34:v34=.int .i64 v:=t34;subst t34;intro v35 t35;replace t35:(fun z9 w=>NRo w z9 L2.length (kZa L2 (L3.map dnM) v)) v35 w2:=t35;intro v6 t6;replace t6:(fun z9 w=>NRo w z9 L2.length (kZa L2 (L3.map dnM) v)) v6 w2:=t6;have hb2:=jZs hg2.out;clear hg2;simp only [finP,Act.put,List.setIfInBounds_toArray,List.set_cons_succ,List.set_cons_zero];obtain ⟨g2,e2,rfl,he2,hn2⟩:=t6
   clear t31 t32 t35 d0 d1 d2 y3 lx ly;replace HX:=hbk hb2 HX;replace HY:=hbk hb2 HY;replace HV1:=hD (HV1.out.keep hb2);replace HV2:=hD (HV2.out.keep hb2);replace HV3:=hD (HV3.out.keep hb2);replace HN1:=hD (HN1.out.keep hb2);replace HB:=hD (jZa HB.out hb2);clear hb2;have HN2:=hD hn2;clear hn2
   have ho0:=World.ownsRow_lit (base:=w2.heap.size) (e:=32) (size:=4) w2 #[] 0 (Nat.le_refl _) (by decide) rfl;have HO:=hD (show (w2.alloc (.cells #[] 32 (0,0))).ownsRow w2.heap.size 32 4 (.slice (some ⟨w2.heap.size,0,none⟩) 0 0) 0 (qZz []) from ho0);clear ho0;have hs2:=HB.out.size;have lx:=ltS HX.out;have ly:=ltS HY.out;replace HN1:=hD (show NV _ _ S1 by rw [<- HE1.out];exact HN1.out)
   replace HN2:=hD (show NV _ _ S2 by rw [<- HE2.out];exact HN2.out)
   go_wp2_with fail
   go_loopw [7,8] (fun out i wr=>∃ k:Nat,k≤L3.length∧i=.int .i64 k∧wr.ownsRow w2.heap.size 32 4 out k (qZz ((L3.map (cZr S1 S2 ox oy)).take k))∧Below w2.heap.size w2 wr) (fun _ i _=>L3.length-(intOf i).toNat)
   case atStart=>exact ⟨0,by omega,rfl,HO.out,jZd (Below.refl _ _)⟩
   case round =>
    obtain ⟨k,hk,rfl,ho,hBr⟩:=hrel;clear HO;have hsr:=hBr.size;have xg:=(hBr.block _ lx).trans HX.out;have d2:=jZc xg 2
    by_cases hlt:k<L3.length
    ·have hd:decide ((k:Int)<(L3.length:Int))=true:=by simpa using hlt
     obtain ⟨b,off,rfl,hb,hp⟩:=(HV3.out.keep hBr).cells (by omega);have hget:L3[k]?=some L3[k]:=List.getElem?_eq_getElem hlt;have hft:fitC S1 S2 L3[k]:=HFT.out _ (List.getElem_mem hlt);have hcs:=hp k _ hget;have hts:=cZb (show (L3.map (cZr S1 S2 ox oy))[k]?=some (cZr S1 S2 ox oy L3[k]) by rw [List.getElem?_map,hget];rfl);generalize L3[k]=p at *;obtain ⟨co,ro,mc,mr,cw,ch,sk,px,py⟩:=p
     obtain ⟨⟨hcw,hch,hpx,hpy⟩,hsk,⟨h3,h4,h5,h6⟩,h7,h8⟩:=hft
     dsimp only at h3 h4 h5 h6 h7 h8 hcw hch hpx hpy hsk hcs
     obtain ⟨k1,rfl⟩:=Int.eq_ofNat_of_zero_le h3;obtain ⟨k2,rfl⟩:=Int.eq_ofNat_of_zero_le h4;obtain ⟨m1,rfl⟩:=Int.eq_ofNat_of_zero_le (show 0≤mc by omega);obtain ⟨m2,rfl⟩:=Int.eq_ofNat_of_zero_le (show 0≤mr by omega);obtain ⟨s0,s1,s2,s3,s4,s5,s6,s7,s8⟩:=hcs;have hob:=ho.lt;have HO:=hD ho;have HTS:=hD hts;have HBR:=hD hBr
     have h7':k1+m1≤S1.length:=by omega
     have h8':k2+m2≤S2.length:=by omega
     have HBD:=hD (area_bd HZ1.out HZ2.out ⟨k1,k2,m1,m2,cw,ch,sk,px,py⟩);clear ho hts hBr hp hget h7 h8 h3 h4
     go_upto_region 8 with (fail)
     refine kZf (fun W=>W.heap[wr.heap.size]?=some (.cells #[.int .i64 k1,.int .i64 k2,.int .i64 m1,.int .i64 m2,.int .i64 cw,.int .i64 ch,.int .i64 sk,.int .i64 px,.int .i64 py] 39 (0,0))∧Below wr.heap.size wr W) ⟨newS _ _,jZd (Below.refl _ _)⟩ (fun W hW=>?_);clear s0 s1 s2 s3 s4 s5 s6 s7 s8 d2;obtain ⟨hc0,hbW⟩:=hW;have hsW:=hbW.size
     have hyW:=(hbW.block _ (by omega)).trans ((HBR.out.block _ ly).trans HY.out);have x0:=jZc hc0 0;have x1:=jZc hc0 1;have x2:=jZc hc0 2;have x3:=jZc hc0 3;have y0:=jZc hyW 0;have y1:=jZc hyW 1;have HB2:=hD (jZa HBR.out hbW);have n1W:=HN1.out.keep HB2.out;have n2W:=HN2.out.keep HB2.out
     have g1l:S1.length≤e1:=by have:=HL1.out;omega
     have g2l:S2.length≤e2:=by have:=HL2.out;omega
     have T1:=hD (tot_z g1 0 k1 e1 (S1.take k1) W (n1W.takeN k1) (by rw [List.length_take];omega) (HZ1.out.takesmal k1) (by have:=HZ1.out.2.2;omega));have T2:=hD (tot_z g2 0 k2 e2 (S2.take k2) W (n2W.takeN k2) (by rw [List.length_take];omega) (HZ2.out.takesmal k2) (by have:=HZ2.out.2.2;omega))
     have T3:=hD (tot_z g1 k1 m1 (e1-k1) (segI S1 k1 m1) W (n1W.segN k1 m1) (qZw h7').symm (HZ1.out.segsmal k1 m1) (by have:=HZ1.out.2.2;omega));have T4:=hD (tot_z g2 k2 m2 (e2-k2) (segI S2 k2 m2) W (n2W.segN k2 m2) (qZw h8').symm (HZ2.out.segsmal k2 m2) (by have:=HZ2.out.2.2;omega));have z5:=HZ1.out.2.2;have z6:=HZ2.out.2.2
     have j1:k1≤e1:=by omega
     have j2:k2≤e2:=by omega
     have j3:k1+m1≤e1:=by omega
     have j4:k2+m2≤e2:=by omega
     have j5:(0:Int)≤(k1:Int)+(m1:Int):=by omega
     have j6:(k1:Int)+(m1:Int)≤(e1:Int):=by omega
     have j7:((k1:Int)+(m1:Int)).toNat=k1+m1:=by omega
     have j8:(0:Int)≤(k2:Int)+(m2:Int):=by omega
     have j9:(k2:Int)+(m2:Int)≤(e2:Int):=by omega
     have j10:((k2:Int)+(m2:Int)).toNat=k2+m2:=by omega
     have j11:¬ e1=k1:=by omega
     have j12:¬ e2=k2:=by omega
     have w1:IntKind.i64.wrap ((k1:Int)+(m1:Int))=(k1:Int)+(m1:Int):=IntWalk.i64_in _ (by omega);have w2:IntKind.i64.wrap ((k2:Int)+(m2:Int))=(k2:Int)+(m2:Int):=IntWalk.i64_in _ (by omega);have HR:=hD (show pZm S1 S2 ⟨k1,k2,m1,m2,cw,ch,sk,px,py⟩=⟨sumI (S1.take k1),sumI (S2.take k2),sumI (segI S1 k1 m1),sumI (segI S2 k2 m2)⟩ from by simp only [pZm,Int.toNat_natCast]);clear n1W n2W
     obtain ⟨l,hl⟩:∃ z,sumI (S1.take k1)=z:=⟨_,rfl⟩
     obtain ⟨t,ht⟩:∃ z,sumI (S2.take k2)=z:=⟨_,rfl⟩
     obtain ⟨r,hr⟩:∃ z,sumI (segI S1 k1 m1)=z:=⟨_,rfl⟩
     obtain ⟨q,hq⟩:∃ z,sumI (segI S2 k2 m2)=z:=⟨_,rfl⟩
     rw [hl] at T1 HR;rw [ht] at T2 HR;rw [hr] at T3 HR;rw [hq] at T4 HR;clear hl ht hr hq
     have p1:IntKind.i64.wrap (ox+l)=ox+l:=by exact IntWalk.i64_in _ (by have:=HBD.out;rw [HR.out] at this;have h:=this.1.1;dsimp only at h;omega)
     have p2:IntKind.i64.wrap (oy+t)=oy+t:=by exact IntWalk.i64_in _ (by have:=HBD.out;rw [HR.out] at this;have h:=this.1.2;dsimp only at h;omega)
     have lxW:=ltS hc0;have lyW:=ltS hyW
     go_wp2_with fail
     refine bZm (fun W1 e1=>?_);replace e1:=hD e1;refine jZg 37 2 (·<38) (by kernel_rfl) (by kernel_rfl) rfl ?_
     iterate 37 (refine jZ3 (fun K hK=>?_);apply Exists.intro;refine ⟨.inl ⟨rfl,fun w' hw'=>?_⟩,?_⟩;(focus ((obtain ⟨hc,hf⟩:=kZi hw'.out);(have hcS:=kZq hw'.out);go_simp <;> first | rfl|(go_at_call 151;with_reducible first | exact T1.out _ (jZs hw'.out) | exact T2.out _ (jZs hw'.out) | exact T3.out _ (jZs hw'.out) | exact T4.out _ (jZs hw'.out))));(go_simp;refine hK _ ?_;clear hK K))
     refine jZ9 ?_;refine sZ1 (i:=37) (by kernel_rfl) rfl rfl (by kernel_rfl) (fun w1_0 h1_0=>?_);go_simp;refine ⟨Gr.alloc _ _,?_⟩;refine jZ1 (by kernel_rfl) (fun w1_9 h1_9=>?_);obtain ⟨hc1_9,hf1_9⟩:=kZi h1_9.out;refine jZn (i:=38) (by kernel_rfl) rfl rfl ?_;go_simp;refine jZq (by kernel_rfl) ?_
     have s1_a:W1.heap.size≤w1_9.heap.size:=by rw [e1.out];exact Nat.le_trans h1_0.out.size (Nat.le_trans (by simp) h1_9.out.size)
     have s1_b:W1.heap.size≤w1_0.heap.size:=by rw [e1.out];exact h1_0.out.size
     have s1_c:w1_0.heap.size<w1_9.heap.size:=by have:=h1_9.out.size;simp at this;omega
     have b1_a:Below W1.heap.size W1 w1_9:=by rw [e1.out];exact sZz (jZd (sZz (Below.refl _ _).drew h1_0)) h1_9
     refine kZ0.gen (fun wf=>Below W1.heap.size W1 wf∧W1.heap.size≤w1_0.heap.size∧w1_0.heap.size<wf.heap.size∧wf.cell? ⟨w1_0.heap.size,0,none⟩=some (.int .i64 (ox+l))∧wf.frozen? ⟨w1_0.heap.size,0,none⟩=false∧wf.cell? ⟨w1_0.heap.size,1,none⟩=some (.int .i64 (oy+t))∧wf.frozen? ⟨w1_0.heap.size,1,none⟩=false∧wf.cell? ⟨w1_0.heap.size,2,none⟩=some (.int .i64 r)∧wf.frozen? ⟨w1_0.heap.size,2,none⟩=false∧wf.cell? ⟨w1_0.heap.size,3,none⟩=some (.int .i64 q)∧wf.frozen? ⟨w1_0.heap.size,3,none⟩=false) ?_ (fun wf1 hwf1=>?_)
     ·refine ⟨by repeat (first | exact b1_a|(refine bset ?_ ?_;rotate_left;((try dsimp only);omega))),?_⟩;refine ⟨s1_b,?_⟩;refine ⟨by simp;omega,?_⟩;go_simp
     generalize hgb1:w1_0.heap.size=b1 at *;have E:=e1.out;subst E;obtain ⟨hB1,hl1,hu1,c1_0,f1_0,c1_1,f1_1,c1_2,f1_2,c1_3,f1_3⟩:=hwf1
     try simp only [World.size_alloc] at hl1
     clear hgb1 e1 hc1_9 hf1_9 s1_a s1_b s1_c b1_a h1_9 w1_9 h1_0 w1_0;obtain ⟨hc1,hf1⟩:=kZi hB1;have hcB:=(hB1.block _ lxW).trans hc0;have HBf:=hD (jZa HB2.out hB1);replace HO:=hD (rZh (rZh HO.out hbW) hB1);have hsf:=hB1.size;have x7:=jZc hcB 7;have x8:=jZc hcB 8;have lxf:=ltS hcB;have HCB:=hD hcB
     obtain ⟨b4,hb4⟩:∃ z,insR ⟨ox+l,oy+t,r,q⟩ px py=z:=⟨_,rfl⟩
     have hbd0:=HBD.out;rw [HR.out] at hbd0
     have hbd:BdM ⟨ox+l,oy+t,r,q⟩:=by
      obtain ⟨⟨a1,a2⟩,a3⟩:=hbd0
      dsimp only at a1 a2
      exact ⟨⟨by dsimp only;omega,by dsimp only;omega⟩,a3⟩
     have hb4b:((-4000000000000000≤b4.x∧b4.x≤4000000000000000)∧(-4000000000000000≤b4.y∧b4.y≤4000000000000000))∧((0≤b4.u∧b4.u≤20000000000000)∧(0≤b4.v∧b4.v≤20000000000000)):=by
      have hins:=ins_bdU (a:=⟨ox+l,oy+t,r,q⟩) hbd.2 hpx hpy;obtain ⟨⟨i1,i2⟩,i3,i4⟩:=hins;obtain ⟨⟨a1,a2⟩,a3,a4⟩:=hbd;rw [<- hb4];simp only [insR] at *;omega
     obtain ⟨⟨s1,t1⟩,hst1⟩:∃ z,stkS b4.x b4.u cw (sk % 2 == 1) (sk / 2 % 2 == 1)=z:=⟨_,rfl⟩
     obtain ⟨⟨s2,t2⟩,hst2⟩:∃ z,stkS b4.y b4.v ch (sk / 4 % 2 == 1) (sk / 8 == 1)=z:=⟨_,rfl⟩
     have hcr:cZr S1 S2 ox oy ⟨k1,k2,m1,m2,cw,ch,sk,px,py⟩=⟨s1,s2,t1,t2⟩:=by
      have e0:(⟨ox+l,oy+t,r,q⟩:Re)=(⟨l,t,r,q⟩:Re).at ox oy:=by simp only [Re.at,Re.mk.injEq,and_true];omega
      rw [e0,insR_at] at hb4;rw [<- hb4] at hst1 hst2;have e1:stkS ((insR ⟨l,t,r,q⟩ px py).x+ox) (insR ⟨l,t,r,q⟩ px py).u cw (decide (sk % 2=1)) (decide (sk / 2 % 2=1))=(s1,t1):=hst1;have e2:stkS ((insR ⟨l,t,r,q⟩ px py).y+oy) (insR ⟨l,t,r,q⟩ px py).v ch (decide (sk / 4 % 2=1)) (decide (sk / 8=1))=(s2,t2):=hst2;rw [stkS_at] at e1 e2;obtain ⟨f1,f2⟩:=Prod.mk.inj e1;obtain ⟨f3,f4⟩:=Prod.mk.inj e2
      unfold cZr qZf;rw [HR.out]
      dsimp only [Re.at]
      rw [f1,f2,f3,f4]
     rw [hcr] at HTS;have HBD4:=hD hbd;have HB4:=hD hb4;have HST1:=hD hst1;have HST2:=hD hst2;have HBB4:=hD hb4b;clear hcB hb4 hbd hb4b hst1 hst2 hcr p1 p2 w1 w2 j1 j2 j3 j4 j5 j6 j7 j8 j9 j10 j11 j12 T1 T2 T3 T4 x0 x1 x2 x3 y0 y1 hc0 hyW hbW hB1 HBD HB2 hc1 hf1 g1l g2l h7' h8' z5 z6 HBR
     go_wp2_with fail
     refine (sinset_r ⟨ox+l,oy+t,r,q⟩ b4 px py _ HBD4.out hpx hpy HB4.out).mono ?_;rintro e w5 ⟨rfl,hb5⟩;have HCB5:=hD ((hb5.block _ lxf).trans HCB.out);have HB5:=hD (jZa HBf.out hb5);have HO5:=hD (rZh HO.out hb5);have hs5:=hb5.size;clear hb5 x7 x8 c1_0 c1_1 c1_2 c1_3 f1_0 f1_1 f1_2 f1_3 HCB HBf HO
     go_upto_region 10 with (fail)
     refine kZf (fun W=>W.heap[wr.heap.size]?=some (.cells #[.int .i64 k1,.int .i64 k2,.int .i64 m1,.int .i64 m2,.int .i64 cw,.int .i64 ch,.int .i64 sk,.int .i64 px,.int .i64 py] 39 (0,0))∧W.heap[w5.heap.size]?=some (.cells #[.int .i64 b4.x,.int .i64 b4.y,.int .i64 b4.u,.int .i64 b4.v] 32 (0,0))∧W.ownsRow w2.heap.size 32 4 u7 k (qZz ((L3.map (cZr S1 S2 ox oy)).take k))∧Below w2.heap.size w2 W∧wr.heap.size≤W.heap.size) ⟨(Below.heap_alloc _ _ _ (by omega)).trans HCB5.out,newS _ _,HO5.out.alloc _,jZd HB5.out,by simp;omega⟩ (fun W6 h6=>?_)
     clear HCB5 HB5 HO5;obtain ⟨hcx,hin,ho6,hb6,hs6⟩:=h6;have x4:=jZc hcx 4;have x5:=jZc hcx 5;have x6:=jZc hcx 6;have i0:=jZc hin 0;have i1:=jZc hin 1;have i2:=jZc hin 2;have i3:=jZc hin 3;have lxc:=ltS hcx;have lin:=ltS hin;obtain ⟨hsk0,hsk1⟩:=hsk;have hob6:=ho6.lt;have HO6:=hD ho6;have HB6:=hD hb6;clear hcx hin ho6 hb6 hob
     go_wp2_with fail
     refine (sstuck_v b4.x b4.u cw s1 t1 _ _ _ HBB4.out.1.1 HBB4.out.2.1 hcw HST1.out).mono ?_;rintro e w7 ⟨rfl,rfl⟩
     go_wp2_with fail
     refine (sstuck_v b4.y b4.v ch s2 t2 _ _ _ HBB4.out.1.2 HBB4.out.2.2 hch HST2.out).mono ?_;rintro e w7 ⟨rfl,rfl⟩;clear x4 x5 x6 i0 i1 i2 i3
     go_wp2_with (at_builtin;refine wpList_append_own _ rfl _ _ 28 rfl w2.heap.size 32 ti tz 4 32 Tryz.underlying28 ti1 ti2 ti3 ti4 ti5 (by decide) _ _ _ rfl (HO6.out.alloc _) ⟨W6.heap.size,0,none⟩ 1 1 (jZr ⟨s1,s2,t1,t2⟩) rfl rfl (newRe4 _ ⟨s1,s2,t1,t2⟩ _) (vZa _) (by simp only [maxLen];omega) (by omega) (by simp;omega) ?_)
     intro v5 w8 how5 hgr5 _;rw [HTS.out] at how5;replace HB6:=hD (qZr HB6.out hgr5 hob6 (Nat.le_refl _) (Nat.le_refl _));replace HO6:=hD how5;clear how5 hgr5 hob6;go_wp2
     go_roundw
     case rel=>exact ⟨k+1,by omega,by go_num,by simpa using HO6.out,HB6.out⟩
     case measure=>simp [intOf];omega
    ·have hd:decide ((k:Int)<(L3.length:Int))=false:=decide_eq_false (by omega)
     obtain rfl:k=L3.length:=by omega
     have he:(L3.map (cZr S1 S2 ox oy)).take L3.length=L3.map (cZr S1 S2 ox oy):=List.take_of_length_le (by simp);rw [he] at ho;have HR:=hD (ReR.own ho (by simp));have HF:=hD (fun k hk=>Nat.le_trans hs2 (ho.lt k hk).1);have HBR:=hD (HB.out.trans (hBr.mono hs2));clear ho hBr he xg;go_wp2;go_ret;exact ⟨⟨_,rfl,HR.out,HF.out⟩,HBR.out⟩
end
theorem fZp:∀ {M:List Rc} {i:Nat} {r:Rc},M[i]?=some r→∀ j,j<4→(tZr M)[i*4+j]?=(rZy r)[j]?
 | [],i,r,h,_,_=>by simp at h
 | q :: t,0,r,h,j,hj=>by
  simp at h;subst h
  show (rZy q ++ tZr t)[0*4+j]?=_
  rw [List.getElem?_append_left (by simp [rZy];omega)];simp
 | q :: t,i+1,r,h,j,hj=>by
  show (rZy q ++ tZr t)[(i+1)*4+j]?=_
  rw [List.getElem?_append_right (by simp [rZy];omega)]
  have:=fZp (M:=t) (i:=i) (r:=r) (by simpa using h) j hj
  rw [<- this];congr 1;simp [rZy];omega
def RV (w:World) (v:Value) (M:List Rc):Prop:=∃ A c,v=.slice A M.length c∧(0<M.length→∃ b,A=some ⟨b,0,none⟩∧b<w.heap.size∧∀ i r,M[i]?=some r→Cells4 w b (i*4) r)
theorem RV.nil (w:World):RV w (.slice none 0 0) []:=⟨none,0,rfl,fun h=>absurd h (by simp)⟩
theorem own_in4 {w:World} {base n:Nat} {v:Value} {M:List Rc} {T:TypeId} (h:w.ownsRow base T 4 v n (tZr M)) (hn:n=M.length) :
  (v=.slice none 0 0∧M=[])∨∃ g cap,∃ cs:Array Value,v=.slice (some ⟨g,0,none⟩) n cap∧base≤g∧n≤cap∧w.heap[g]?=some (.cells cs T (0,0))∧cs.size=cap*4∧∀ i r,M[i]?=some r→In4 cs (i*4) r:=by
 rcases h.2 with ⟨rfl,h0⟩ | ⟨g,cap,cur,rfl,hb,hg,hc,_,hs,ht⟩
 ·exact .inl ⟨rfl,List.length_eq_zero_iff.1 (by omega)⟩
 ·refine .inr ⟨g,cap,cur,rfl,hb,hc,hg,hs,fun i r hr j hj=>?_⟩;rw [<- fZp hr j hj,<- ht,List.getElem?_take]
  have:i<M.length:=(List.getElem?_eq_some_iff.1 hr).1
  rw [if_pos (by omega)];simp
section
attribute [local go_sem 5000] kZk kZj
theorem sinset_W (p:Pk) (r:Rc) (w:World) (h:p.big) (hr:r.okW):Calls Tryz.prog 172 #[.agg #[.int .i64 (r.x),.int .i64 (r.y),.int .i64 (r.u),.int .i64 (r.v)],.int .i64 p.px,.int .i64 p.py] w fun e w'=>e=.returned (.agg #[.int .i64 ((insP r p.px p.py).x),.int .i64 ((insP r p.px p.py).y),.int .i64 ((insP r p.px p.py).u),.int .i64 ((insP r p.px p.py).v)])∧Below w.heap.size w w':=by
 obtain ⟨⟨m1,m2⟩,⟨m3,m4⟩,⟨m5,m6⟩,⟨m7,m8⟩⟩:=dZ1 h hr;obtain ⟨⟨⟨a1,a2⟩,a3,a4⟩,⟨a5,a6⟩,a7,a8⟩:=hr;obtain ⟨_,_,_,_,⟨b1,b2⟩,⟨b3,b4⟩⟩:=h
 have x1:r.x≤1000000000000000:=by omega
 have x2:r.y≤1000000000000000:=by omega
 unfold insP
 dsimp only
 rw [vZp (r.u-2*p.px) 0,vZp (r.v-2*p.py) 0] at *
 go_enter Tryz.func172,Tryz.ntmps172
 go_wp2
 exact bodyPost_ret (v:=.agg #[.int .i64 (r.x+mn p.px (r.u / 2)),.int .i64 (r.y+mn p.py (r.v / 2)),.int .i64 (mx 0 (r.u-2*p.px)),.int .i64 (mx 0 (r.v-2*p.py))]) (by simp only [results,Tryz.results172];go_simp) rfl ⟨rfl,(by repeat (first | with_reducible exact Below.refl _ _ | with_reducible assumption | with_reducible refine jZd ?_|(with_reducible refine bset ?_ ?_;rotate_left;((try dsimp only);omega)) | refine jZa ?_ (by assumption) | with_reducible refine Below.drew ?_))⟩
theorem eZ1 (x y u v p q k:Int) (w:World) (hx:-1000000000000000≤x∧x≤1000000000000020) (hy:-1000000000000000≤y∧y≤1000000000000020) (hu:0≤u∧u≤20000000000000) (hv:0≤v∧v≤20000000000000) (hp:0≤p∧p≤20000000000000) (hq:0≤q∧q≤20000000000000) (hk:0≤k∧k≤8):Calls Tryz.prog 182 #[.agg #[.int .i64 (x),.int .i64 (y),.int .i64 (u),.int .i64 (v)],.int .i64 p,.int .i64 q,.int .i64 k] w fun e w'=>e=.returned (.agg #[.int .i64 (x+(u-mn p u)*(k % 3) / 2),.int .i64 (y+(v-mn q v)*(k / 3) / 2),.int .i64 (mn p u),.int .i64 (mn q v)])∧Below w.heap.size w w':=by
 have g1:=jZz p u;have g2:=jZz q v;obtain ⟨a1,a2⟩:=hx;obtain ⟨a3,a4⟩:=hy;obtain ⟨a5,a6⟩:=hu;obtain ⟨a7,a8⟩:=hv;obtain ⟨b1,b2⟩:=hp;obtain ⟨b3,b4⟩:=hq;obtain ⟨b5,b6⟩:=hk;obtain ⟨m9,m10⟩:=vZ5 (a:=u-mn p u) (k:=k % 3) (by omega) (by omega) (by omega) (by omega);obtain ⟨m11,m12⟩:=vZ5 (a:=v-mn q v) (k:=k / 3) (by omega) (by omega) (by omega) (by omega)
 have m1:0≤mn p u:=by omega
 have m2:mn p u≤u:=by omega
 have m3:0≤mn q v:=by omega
 have m4:mn q v≤v:=by omega
 have m5:0≤k % 3:=by omega
 have m6:k % 3≤2:=by omega
 have m7:0≤k / 3:=by omega
 have m8:k / 3≤2:=by omega
 clear g1 g2
 go_enter Tryz.func182,Tryz.ntmps182
 go_wp2
 exact bodyPost_ret (v:=.agg #[.int .i64 (x+(u-mn p u)*(k % 3) / 2),.int .i64 (y+(v-mn q v)*(k / 3) / 2),.int .i64 (mn p u),.int .i64 (mn q v)]) (by simp only [results,Tryz.results182];go_simp) rfl ⟨rfl,(by repeat (first | with_reducible exact Below.refl _ _ | with_reducible assumption | with_reducible refine jZd ?_|(with_reducible refine bset ?_ ?_;rotate_left;((try dsimp only);omega)) | refine jZa ?_ (by assumption) | with_reducible refine Below.drew ?_))⟩
theorem sZh (p:Pk) (r q:Rc) (a b:Int) (w:World) (h:p.big) (hr:r.okW) (hq:q=insP r p.px p.py) (ha:a=p.w∨a=(insP r p.px p.py).u) (hb:b=p.h∨b=(insP r p.px p.py).v) (S:Rc) (hS:ancP (insP r p.px p.py) a b p.an=S) :
  Calls Tryz.prog 182 #[.agg #[.int .i64 (q.x),.int .i64 (q.y),.int .i64 (q.u),.int .i64 (q.v)],.int .i64 a,.int .i64 b,.int .i64 p.an] w fun e w'=>e=.returned (.agg #[.int .i64 (S.x),.int .i64 (S.y),.int .i64 (S.u),.int .i64 (S.v)])∧Below w.heap.size w w':=by
 subst hq hS;have hi:=dZ1 h hr;obtain ⟨⟨⟨a1,a2⟩,a3,a4⟩,⟨a5,a6⟩,a7,a8⟩:=hr;obtain ⟨h1,h2,_,h4,h5,h6⟩:=h
 have ea:0≤a∧a≤20000000000000:=by rcases ha with rfl | rfl <;> (try simp only [insP]) <;> omega
 have eb:0≤b∧b≤20000000000000:=by rcases hb with rfl | rfl <;> (try simp only [insP]) <;> omega
 exact eZ1 _ _ _ _ _ _ _ _ (by simp only [insP];omega) (by simp only [insP];omega) (by simp only [insP];omega) (by simp only [insP];omega) ea eb h4
theorem psettled_w (p:Pk) (r:Rc) (w:World) (h:p.big) (hr:r.okW):Calls Tryz.prog 170 #[.agg #[.int .i64 p.w,.int .i64 p.h,.int .i64 p.s,.bool p.fx,.bool p.fy,.bool p.ex,.int .i64 p.an,.int .i64 p.px,.int .i64 p.py],.agg #[.int .i64 (r.x),.int .i64 (r.y),.int .i64 (r.u),.int .i64 (r.v)]] w fun e w'=>e=.returned (.agg #[.int .i64 ((setP p r).x),.int .i64 ((setP p r).y),.int .i64 ((setP p r).u),.int .i64 ((setP p r).v)])∧Below w.heap.size w w':=by
 obtain ⟨S,hS⟩:∃ S,setP p r=S:=⟨_,rfl⟩
 rw [hS];have HS:=hD hS;clear hS
 go_enter Tryz.func170,Tryz.ntmps170
 go_wp2_with fail
 with_reducible refine (sinset_W p r _ h hr).mono ?_
 rintro e w1 ⟨rfl,hb1⟩
 have hP1:=(hb1.block w.heap.size (by simp;omega)).trans ((Below.heap_alloc _ (.cells #[.int .i64 0,.int .i64 0,.int .i64 0,.int .i64 0] 32 (0,0)) _ (by simp;omega)).trans ((Below.heap_alloc _ (.cells #[.int .i64 r.x,.int .i64 r.y,.int .i64 r.u,.int .i64 r.v] 32 (0,0)) _ (by simp)).trans (pZo w (.cells #[.int .i64 p.w,.int .i64 p.h,.int .i64 p.s,.bool p.fx,.bool p.fy,.bool p.ex,.int .i64 p.an,.int .i64 p.px,.int .i64 p.py] 37 (0,0)))))
 have hI1:=(hb1.block (w.heap.size+1+1) (by simp)).trans (by have e:=pZo ((w.alloc (.cells #[.int .i64 p.w,.int .i64 p.h,.int .i64 p.s,.bool p.fx,.bool p.fy,.bool p.ex,.int .i64 p.an,.int .i64 p.px,.int .i64 p.py] 37 (0,0))).alloc (.cells #[.int .i64 r.x,.int .i64 r.y,.int .i64 r.u,.int .i64 r.v] 32 (0,0))) (.cells #[.int .i64 0,.int .i64 0,.int .i64 0,.int .i64 0] 32 (0,0));simpa only [World.size_alloc] using e)
 have hB1:Below w.heap.size w w1:=jZa (jZd (jZd (jZd (Below.refl _ _)))) hb1;have hls:w.heap.size+1+1<w1.heap.size:=(gE hI1).1
 obtain ⟨I,hI⟩:∃ I,insP r p.px p.py=I:=⟨_,rfl⟩
 rw [hI];have c0:=qZi hP1 0;have c1:=qZi hP1 1;have c3:=qZi hP1 3;have c4:=qZi hP1 4;have c6:=qZi hP1 6;simp only [List.getElem?_toArray,List.getElem?_cons_zero,List.getElem?_cons_succ] at c0 c1 c3 c4 c6;have HB:=hD hB1;have HX:=hD hI1
 have hl0:w.heap.size<w1.heap.size:=by omega
 have hn0:¬ w.heap.size=w1.heap.size:=by omega
 have HI:=hD hI;clear hP1 hI1 hb1 hB1 hI
 cases hfx:p.fx <;> cases hfy:p.fy
 ·rw [hfx] at c3;rw [hfy] at c4
  go_wp2_with fail
  refine (sZh p r I p.w p.h _ h hr HI.out.symm (by rw [HI.out];simp) (by rw [HI.out];simp) S (by rw [<- HS.out];unfold setP wP hP;simp [hfx,hfy,HI.out])).mono ?_;rintro e w2 ⟨rfl,hb2⟩;replace HX:=hD ((hb2.block _ (by simp;omega)).trans ((Below.heap_alloc _ _ _ hls).trans HX.out));replace HB:=hD (jZa (jZd HB.out) hb2);clear hb2 c0 c1 c3 c4 c6 hl0 hn0 hls
  obtain ⟨i0,i1,i2,i3⟩:=kZo HX.out;have g0:=jZl HX.out 0;have g1:=jZl HX.out 1;have g2:=jZl HX.out 2;have g3:=jZl HX.out 3;go_wp2
  refine rZ2 (fun W=>W.heap[w.heap.size+1+1]?=some (.cells #[.int .i64 S.x,.int .i64 S.y,.int .i64 S.u,.int .i64 S.v] 32 (0,0))∧Below w.heap.size w W)
   ⟨qZb HX.out _ _ _ _,pZ0 HB.out (by omega) _ _ _ _ _ _ _ _⟩ ?_
  clear HX HB i0 i1 i2 i3 g0 g1 g2 g3;rintro W ⟨hW,hB2⟩;obtain ⟨r0,r1,r2,r3⟩:=kZo hW;exact bodyPost_ret (v:=.agg #[.int .i64 (S.x),.int .i64 (S.y),.int .i64 (S.u),.int .i64 (S.v)]) (by simp only [results,Tryz.results170];go_simp) rfl ⟨rfl,hB2⟩
 ·rw [hfx] at c3;rw [hfy] at c4
  go_wp2_with fail
  refine (sZh p r I p.w I.v _ h hr HI.out.symm (by rw [HI.out];simp) (by rw [HI.out];simp) S (by rw [<- HS.out];unfold setP wP hP;simp [hfx,hfy,HI.out])).mono ?_;rintro e w2 ⟨rfl,hb2⟩;replace HX:=hD ((hb2.block _ (by simp;omega)).trans ((Below.heap_alloc _ _ _ hls).trans HX.out));replace HB:=hD (jZa (jZd HB.out) hb2);clear hb2 c0 c1 c3 c4 c6 hl0 hn0 hls
  obtain ⟨i0,i1,i2,i3⟩:=kZo HX.out;have g0:=jZl HX.out 0;have g1:=jZl HX.out 1;have g2:=jZl HX.out 2;have g3:=jZl HX.out 3;go_wp2
  refine rZ2 (fun W=>W.heap[w.heap.size+1+1]?=some (.cells #[.int .i64 S.x,.int .i64 S.y,.int .i64 S.u,.int .i64 S.v] 32 (0,0))∧Below w.heap.size w W)
   ⟨qZb HX.out _ _ _ _,pZ0 HB.out (by omega) _ _ _ _ _ _ _ _⟩ ?_
  clear HX HB i0 i1 i2 i3 g0 g1 g2 g3;rintro W ⟨hW,hB2⟩;obtain ⟨r0,r1,r2,r3⟩:=kZo hW;exact bodyPost_ret (v:=.agg #[.int .i64 (S.x),.int .i64 (S.y),.int .i64 (S.u),.int .i64 (S.v)]) (by simp only [results,Tryz.results170];go_simp) rfl ⟨rfl,hB2⟩
 ·rw [hfx] at c3;rw [hfy] at c4
  go_wp2_with fail
  refine (sZh p r I I.u p.h _ h hr HI.out.symm (by rw [HI.out];simp) (by rw [HI.out];simp) S (by rw [<- HS.out];unfold setP wP hP;simp [hfx,hfy,HI.out])).mono ?_;rintro e w2 ⟨rfl,hb2⟩;replace HX:=hD ((hb2.block _ (by simp;omega)).trans ((Below.heap_alloc _ _ _ hls).trans HX.out));replace HB:=hD (jZa (jZd HB.out) hb2);clear hb2 c0 c1 c3 c4 c6 hl0 hn0 hls
  obtain ⟨i0,i1,i2,i3⟩:=kZo HX.out;have g0:=jZl HX.out 0;have g1:=jZl HX.out 1;have g2:=jZl HX.out 2;have g3:=jZl HX.out 3;go_wp2
  refine rZ2 (fun W=>W.heap[w.heap.size+1+1]?=some (.cells #[.int .i64 S.x,.int .i64 S.y,.int .i64 S.u,.int .i64 S.v] 32 (0,0))∧Below w.heap.size w W)
   ⟨qZb HX.out _ _ _ _,pZ0 HB.out (by omega) _ _ _ _ _ _ _ _⟩ ?_
  clear HX HB i0 i1 i2 i3 g0 g1 g2 g3;rintro W ⟨hW,hB2⟩;obtain ⟨r0,r1,r2,r3⟩:=kZo hW;exact bodyPost_ret (v:=.agg #[.int .i64 (S.x),.int .i64 (S.y),.int .i64 (S.u),.int .i64 (S.v)]) (by simp only [results,Tryz.results170];go_simp) rfl ⟨rfl,hB2⟩
 ·rw [hfx] at c3;rw [hfy] at c4
  go_wp2_with fail
  refine (sZh p r I I.u I.v _ h hr HI.out.symm (by rw [HI.out];simp) (by rw [HI.out];simp) S (by rw [<- HS.out];unfold setP wP hP;simp [hfx,hfy,HI.out])).mono ?_;rintro e w2 ⟨rfl,hb2⟩;replace HX:=hD ((hb2.block _ (by simp;omega)).trans ((Below.heap_alloc _ _ _ hls).trans HX.out));replace HB:=hD (jZa (jZd HB.out) hb2);clear hb2 c0 c1 c3 c4 c6 hl0 hn0 hls
  obtain ⟨i0,i1,i2,i3⟩:=kZo HX.out;have g0:=jZl HX.out 0;have g1:=jZl HX.out 1;have g2:=jZl HX.out 2;have g3:=jZl HX.out 3;go_wp2
  refine rZ2 (fun W=>W.heap[w.heap.size+1+1]?=some (.cells #[.int .i64 S.x,.int .i64 S.y,.int .i64 S.u,.int .i64 S.v] 32 (0,0))∧Below w.heap.size w W)
   ⟨qZb HX.out _ _ _ _,pZ0 HB.out (by omega) _ _ _ _ _ _ _ _⟩ ?_
  clear HX HB i0 i1 i2 i3 g0 g1 g2 g3;rintro W ⟨hW,hB2⟩;obtain ⟨r0,r1,r2,r3⟩:=kZo hW;exact bodyPost_ret (v:=.agg #[.int .i64 (S.x),.int .i64 (S.y),.int .i64 (S.u),.int .i64 (S.v)]) (by simp only [results,Tryz.results170];go_simp) rfl ⟨rfl,hB2⟩
end
section
attribute [local go_sem 5000] kZk kZj
theorem half_w (r n:Int) (w:World) (h1:-100000000000000≤r) (h2:r≤100000000000000) (h3:1≤n) (h4:n≤1000):Calls Tryz.prog 185 #[.int .i64 r,.int .i64 n] w fun e w'=>e=.returned (.int .i64 (mx r 0 / n))∧w=w':=by
 rw [<- halfI_eq]
 by_cases h:r<0
 ·go_enter Tryz.func185,Tryz.ntmps185
  go_wp2;go_ret;exact ⟨sZv (by unfold halfI;rw [if_pos h]),rfl⟩
 ·have hd:decide (r<0)=false:=by simpa using h
  have h0:0≤r:=by omega
  have hn:¬ n=0:=by omega
  go_enter Tryz.func185,Tryz.ntmps185
  go_wp2;go_ret;exact ⟨sZv (by unfold halfI;rw [if_neg (by omega)]),rfl⟩
theorem dZl (p:Pk) (w:World):Calls Tryz.prog 150 #[.int .i64 p.s] w fun e w'=>e=.returned (.bool p.down)∧w=w':=eZ7 p.s w
theorem mx_posW {a:Int} (h:0≤a):mx a 0=a:=by have:=kZc a 0;omega
theorem share_w (A:Option Addr) (c:Nat) (L:List Pk) (room:Int) (d:Bool) (w:World) (h:PV w A L) (hL:bgL L) (p0:Pk) (r0:List Pk) (hp0:L=p0 :: r0) (hd0:p0.down=d) (hx0:p0.ex=true) (hr:0≤room) (hr':room≤20000000000000) :
  Calls Tryz.prog 180 #[.slice A L.length c,.int .i64 room,.bool d] w fun e w'=>e=.returned (.int .i64 (kZ1 L d room room 0))∧Below w.heap.size w w':=by
 obtain ⟨hok,h7⟩:=id hL;have H0:=hD (And.intro hp0 (And.intro hd0 hx0));have HL:=hD hok;clear hp0 hd0 hx0 hok hL
 obtain ⟨R,hR⟩:∃ R,kZ1 L d room room 0=R:=⟨_,rfl⟩
 rw [hR];have HR:=hD hR;clear hR
 go_enter Tryz.func180,Tryz.ntmps180
 go_wp2_with fail
 go_loopw [1,7,8,9] (fun rm sh n i wr=>∃ (k:Nat) (a b q:Int),k≤L.length∧rm=.int .i64 a∧sh=.int .i64 b∧n=.int .i64 q∧i=.int .i64 k∧kZ1 (L.drop k) d b a q=R∧(-(1000000000020*(k:Int))≤a∧a≤20000000000000)∧(0≤b∧b≤20000000000000)∧(0≤q∧q≤k)∧(1≤k→1≤q)∧Below w.heap.size w wr) (fun _ _ _ i _=>L.length-(intOf i).toNat)
 case atStart=>exact ⟨0,room,room,0,by omega,rfl,rfl,rfl,rfl,HR.out,by omega,by omega,by omega,by omega,Below.refl _ _⟩
 case round =>
  obtain ⟨k,a,b,q,hk,rfl,rfl,rfl,rfl,hS,⟨ha1,ha2⟩,⟨hb1,hb2⟩,⟨hq1,hq2⟩,hkq,hB⟩:=hrel;have HBB:=hD hB;have HS:=hD hS;clear HR hB hS
  by_cases hlt:k<L.length
  ·have hd:decide ((k:Int)<(L.length:Int))=true:=by simpa using hlt
   obtain ⟨g,off,rfl,hg,hp⟩:=(h.keep HBB.out).cells (by omega);obtain ⟨c0,c1,c2,c3,c4,c5,c6,c7,c8⟩:=hp k _ (List.getElem?_eq_getElem hlt);have hget:L[k]?=some L[k]:=List.getElem?_eq_getElem hlt;generalize hx:L[k]=p at *;have hpk:p.big:=HL.out p (List.mem_of_getElem? hget);have nb:=Pk.need_bdW hpk d
   have hfst:k=0→p.down=d∧p.ex=true:=by
    rintro rfl;obtain ⟨e1,e2,e3⟩:=H0.out
    have e4:p=p0:=by rw [e1] at hget;simpa using hget.symm
    rw [e4];exact ⟨e2,e3⟩
   have HG:=hD hget;have HX:=hD hx;have HP:=hD hp;have HPK:=hD hpk;clear hget hx hp hpk
   by_cases hdn:p.down=d
   ·have heq:(p.down == d)=true:=by simp [hdn]
    have HDN:=hD hdn;have HF:=hD hfst;clear hdn hfst
    cases hex:p.ex
    all_goals
     have HEX:=hD hex;have HC5:=hD c5;clear hex
     go_wp2_with fail
     refine (eZ4 p _ HPK.out).mono ?_;rintro e w1 ⟨rfl,hbb⟩;obtain ⟨d0,d1,d2,d3,d4,d5,d6,d7,d8⟩:=(HP.out k p HG.out).keep (hbb.block g hg);rw [HEX.out] at d5;replace HBB:=hD (HBB.out.trans (hbb.mono HBB.out.size));clear hbb c0 c1 c2 c3 c4 c5 c6 c7 c8
     cases d
     all_goals
      go_wp2_with fail
      refine (dZl p _).mono ?_;rintro e w2 ⟨rfl,rfl⟩;go_wp2
      go_roundw
    case rel=>exact ⟨k+1,_,_,_,by omega,rfl,rfl,rfl,by go_num,by rw [<- HS.out,pZw HG.out,sZq HDN.out HEX.out],by omega,by omega,by omega,fun _=>hkq (by
     rcases Nat.eq_zero_or_pos k with e | e
     ·have h9:=(HF.out e).2;rw [HEX.out] at h9
      cases h9
     ·exact e),HBB.out⟩
    case measure=>simp [intOf];omega
    case rel=>exact ⟨k+1,_,_,_,by omega,rfl,rfl,rfl,by go_num,by rw [<- HS.out,pZw HG.out,sZq HDN.out HEX.out],by omega,by omega,by omega,fun _=>hkq (by
     rcases Nat.eq_zero_or_pos k with e | e
     ·have h9:=(HF.out e).2;rw [HEX.out] at h9
      cases h9
     ·exact e),HBB.out⟩
    case measure=>simp [intOf];omega
    case rel=>exact ⟨k+1,_,_,_,by omega,rfl,rfl,rfl,by go_num,by rw [<- HS.out,pZw HG.out,rZ0 HDN.out HEX.out],by omega,by omega,by omega,by omega,HBB.out⟩
    case measure=>simp [intOf];omega
    case rel=>exact ⟨k+1,_,_,_,by omega,rfl,rfl,rfl,by go_num,by rw [<- HS.out,pZw HG.out,rZ0 HDN.out HEX.out],by omega,by omega,by omega,by omega,HBB.out⟩
    case measure=>simp [intOf];omega
   ·have heq:(p.down == d)=false:=by simpa using hdn
    have hk1:1≤k:=by
     rcases Nat.eq_zero_or_pos k with e | e
     ·exact absurd (hfst e).1 hdn
     ·exact e
    have hq3:1≤q:=hkq hk1;have HDN:=hD hdn;have pb:=tZi (r:=a-p.need d) (n:=q) (by omega) hq3;have nb2:=jZz b (mx (a-p.need d) 0 / q)
    have hq0:decide (0<q)=true:=by simp;omega
    clear hdn hfst hkq
    go_wp2_with fail
    refine (eZ4 p _ HPK.out).mono ?_;rintro e w1 ⟨rfl,hbb⟩;obtain ⟨d0,d1,d2,d3,d4,d5,d6,d7,d8⟩:=(HP.out k p HG.out).keep (hbb.block g hg);replace HBB:=hD (HBB.out.trans (hbb.mono HBB.out.size));clear hbb c0 c1 c2 c3 c4 c5 c6 c7 c8
    cases d
    all_goals
     go_wp2_with fail
     refine (dZl p _).mono ?_;rintro e w2 ⟨rfl,rfl⟩
     go_wp2_with fail
     first | refine (half_w (a-p.need false) q _ (by omega) (by omega) hq3 (by omega)).mono ?_ | refine (half_w (a-p.need true) q _ (by omega) (by omega) hq3 (by omega)).mono ?_
     rintro e w3 ⟨rfl,rfl⟩;go_wp2
     go_roundw
     case rel=>exact ⟨k+1,_,_,_,by omega,rfl,rfl,rfl,by go_num,by rw [<- HS.out,pZw HG.out,uZr HDN.out],by omega,by omega,by omega,by omega,HBB.out⟩
     case measure=>simp [intOf];omega
  ·have hd:decide ((k:Int)<(L.length:Int))=false:=by simp;omega
   obtain rfl:k=L.length:=by omega
   have hk1:1≤L.length:=by rw [H0.out.1];simp
   have hq3:1≤q:=hkq hk1;have hSS:=HS.out;rw [List.drop_length] at hSS;have HS2:=hD hSS;have pb:=tZi (r:=a) (n:=q) (by omega) hq3;have nb2:=jZz b (mx a 0 / q)
   have hq0:decide (0<q)=true:=by simp;omega
   have hmx:mx (mn b (mx a 0 / q)) 0=mn b (mx a 0 / q):=mx_posW (by omega);have HMX:=hD hmx;clear hSS HS hkq hmx
   go_wp2_with fail
   refine (half_w a q _ (by omega) (by omega) hq3 (by omega)).mono ?_;rintro e w3 ⟨rfl,rfl⟩;go_wp2;go_ret;exact ⟨sZv (by rw [HMX.out,<- HS2.out];rfl),HBB.out⟩
end
section
attribute [local go_sem 5000] kZk kZj
theorem scut0_w (x y u v n:Int) (w:World) (h1:vrW x y u v=true) (h2:0≤n) :
  Calls Tryz.prog 181 #[.agg #[.int .i64 (x),.int .i64 (y),.int .i64 (u),.int .i64 (v)],.int .i64 0,.int .i64 n] w fun e w'=>e=.returned (.tuple #[.agg #[.int .i64 (x),.int .i64 (y),.int .i64 (u),.int .i64 (mn n v)],.agg #[.int .i64 (x),.int .i64 (y+mn n v),.int .i64 (u),.int .i64 (v-mn n v)]])∧Below w.heap.size w w':=by
 obtain ⟨a1,a2,a3,a4,a5,a6,a7,a8⟩:=rZ3.1 h1;have g:=jZz n v
 have g1:0≤mn n v:=by omega
 have g2:mn n v≤v:=by omega
 clear g
 go_enter Tryz.func181,Tryz.ntmps181
 go_wp2_with fail
 refine dZd (fun W0=>Below w.heap.size w W0∧W0.cell? ⟨w.heap.size+1,0,none⟩=some (.int .i64 0)∧W0.frozen? ⟨w.heap.size+1,0,none⟩=false∧W0.cell? ⟨w.heap.size+1,1,none⟩=some (.int .i64 0)∧W0.frozen? ⟨w.heap.size+1,1,none⟩=false∧W0.cell? ⟨w.heap.size+1,2,none⟩=some (.int .i64 0)∧W0.frozen? ⟨w.heap.size+1,2,none⟩=false∧W0.cell? ⟨w.heap.size+1,3,none⟩=some (.int .i64 0)∧W0.frozen? ⟨w.heap.size+1,3,none⟩=false∧W0.cell? ⟨w.heap.size+1+1,0,none⟩=some (.int .i64 0)∧W0.frozen? ⟨w.heap.size+1+1,0,none⟩=false∧W0.cell? ⟨w.heap.size+1+1,1,none⟩=some (.int .i64 0)∧W0.frozen? ⟨w.heap.size+1+1,1,none⟩=false∧W0.cell? ⟨w.heap.size+1+1,2,none⟩=some (.int .i64 0)∧W0.frozen? ⟨w.heap.size+1+1,2,none⟩=false∧W0.cell? ⟨w.heap.size+1+1,3,none⟩=some (.int .i64 0)∧W0.frozen? ⟨w.heap.size+1+1,3,none⟩=false∧W0.cell? ⟨w.heap.size+1+1+1,0,none⟩=some (.int .i64 (x))∧W0.cell? ⟨w.heap.size+1+1+1,1,none⟩=some (.int .i64 (y))∧W0.cell? ⟨w.heap.size+1+1+1,2,none⟩=some (.int .i64 (u))∧W0.cell? ⟨w.heap.size+1+1+1,3,none⟩=some (.int .i64 (mn n v))∧W0.cell? ⟨w.heap.size+1+1+1+1,0,none⟩=some (.int .i64 (x))∧W0.cell? ⟨w.heap.size+1+1+1+1,1,none⟩=some (.int .i64 (y+mn n v))∧W0.cell? ⟨w.heap.size+1+1+1+1,2,none⟩=some (.int .i64 (u))∧W0.cell? ⟨w.heap.size+1+1+1+1,3,none⟩=some (.int .i64 (v-mn n v))) ⟨(by repeat (first | with_reducible exact Below.refl _ _ | with_reducible assumption | with_reducible refine jZd ?_|(with_reducible refine bset ?_ ?_;rotate_left;((try dsimp only);omega)) | refine jZa ?_ (by assumption) | with_reducible refine Below.drew ?_)),?_⟩ (fun W0 hW0=>?_)
 ·go_simp
 obtain ⟨hBW,p0,pf0,p1,pf1,p2,pf2,p3,pf3,q0,qf0,q1,qf1,q2,qf2,q3,qf3,r0,r1,r2,r3,s0,s1,s2,s3⟩:=hW0
 go_region
 all_goals go_wp2
 all_goals
  have XA:=box4 (w:=W0) (b:=w.heap.size+1) (.int .i64 (x)) (.int .i64 (y)) (.int .i64 (u)) (.int .i64 (mn n v)) p0 p1 p2 p3
  have XB:=box4 (b:=w.heap.size+1+1) (.int .i64 (x)) (.int .i64 (y+mn n v)) (.int .i64 (u)) (.int .i64 (v-mn n v)) ((XA.2.2.2.2 (w.heap.size+1+1) 0 (by omega)).trans q0) ((XA.2.2.2.2 (w.heap.size+1+1) 1 (by omega)).trans q1) ((XA.2.2.2.2 (w.heap.size+1+1) 2 (by omega)).trans q2) ((XA.2.2.2.2 (w.heap.size+1+1) 3 (by omega)).trans q3)
  refine tZp (fun wf=>Below w.heap.size w wf∧wf.cell? ⟨w.heap.size+1,0,none⟩=some (.int .i64 (x))∧wf.cell? ⟨w.heap.size+1,1,none⟩=some (.int .i64 (y))∧wf.cell? ⟨w.heap.size+1,2,none⟩=some (.int .i64 (u))∧wf.cell? ⟨w.heap.size+1,3,none⟩=some (.int .i64 (mn n v))∧wf.cell? ⟨w.heap.size+1+1,0,none⟩=some (.int .i64 (x))∧wf.cell? ⟨w.heap.size+1+1,1,none⟩=some (.int .i64 (y+mn n v))∧wf.cell? ⟨w.heap.size+1+1,2,none⟩=some (.int .i64 (u))∧wf.cell? ⟨w.heap.size+1+1,3,none⟩=some (.int .i64 (v-mn n v))) ⟨(by with_reducible refine Below.drew ?_;exact (by repeat (first | with_reducible exact Below.refl _ _ | with_reducible assumption | with_reducible refine jZd ?_|(with_reducible refine bset ?_ ?_;rotate_left;((try dsimp only);omega)) | refine jZa ?_ (by assumption) | with_reducible refine Below.drew ?_))),pZc ((XB.2.2.2.2 (w.heap.size+1) 0 (by omega)).trans XA.1),pZc ((XB.2.2.2.2 (w.heap.size+1) 1 (by omega)).trans XA.2.1),pZc ((XB.2.2.2.2 (w.heap.size+1) 2 (by omega)).trans XA.2.2.1),pZc ((XB.2.2.2.2 (w.heap.size+1) 3 (by omega)).trans XA.2.2.2.1),pZc XB.1,pZc XB.2.1,pZc XB.2.2.1,pZc XB.2.2.2.1⟩ (fun wf hwf=>?_)
  clear XA XB;obtain ⟨hBf,z0,z1,z2,z3,z4,z5,z6,z7⟩:=hwf
  exact bodyPost_ret (v:=.tuple #[.agg #[.int .i64 (x),.int .i64 (y),.int .i64 (u),.int .i64 (mn n v)],.agg #[.int .i64 (x),.int .i64 (y+mn n v),.int .i64 (u),.int .i64 (v-mn n v)]]) (by simp only [results,Tryz.results181];go_simp) rfl ⟨rfl,(by repeat (first | with_reducible exact Below.refl _ _ | with_reducible assumption | with_reducible refine jZd ?_|(with_reducible refine bset ?_ ?_;rotate_left;((try dsimp only);omega)) | refine jZa ?_ (by assumption) | with_reducible refine Below.drew ?_))⟩
theorem scut1_w (x y u v n:Int) (w:World) (h1:vrW x y u v=true) (h2:0≤n) :
  Calls Tryz.prog 181 #[.agg #[.int .i64 (x),.int .i64 (y),.int .i64 (u),.int .i64 (v)],.int .i64 1,.int .i64 n] w fun e w'=>e=.returned (.tuple #[.agg #[.int .i64 (x),.int .i64 (y+(v-mn n v)),.int .i64 (u),.int .i64 (mn n v)],.agg #[.int .i64 (x),.int .i64 (y),.int .i64 (u),.int .i64 (v-mn n v)]])∧Below w.heap.size w w':=by
 obtain ⟨a1,a2,a3,a4,a5,a6,a7,a8⟩:=rZ3.1 h1;have g:=jZz n v
 have g1:0≤mn n v:=by omega
 have g2:mn n v≤v:=by omega
 clear g
 go_enter Tryz.func181,Tryz.ntmps181
 go_wp2_with fail
 refine dZd (fun W0=>Below w.heap.size w W0∧W0.cell? ⟨w.heap.size+1,0,none⟩=some (.int .i64 0)∧W0.frozen? ⟨w.heap.size+1,0,none⟩=false∧W0.cell? ⟨w.heap.size+1,1,none⟩=some (.int .i64 0)∧W0.frozen? ⟨w.heap.size+1,1,none⟩=false∧W0.cell? ⟨w.heap.size+1,2,none⟩=some (.int .i64 0)∧W0.frozen? ⟨w.heap.size+1,2,none⟩=false∧W0.cell? ⟨w.heap.size+1,3,none⟩=some (.int .i64 0)∧W0.frozen? ⟨w.heap.size+1,3,none⟩=false∧W0.cell? ⟨w.heap.size+1+1,0,none⟩=some (.int .i64 0)∧W0.frozen? ⟨w.heap.size+1+1,0,none⟩=false∧W0.cell? ⟨w.heap.size+1+1,1,none⟩=some (.int .i64 0)∧W0.frozen? ⟨w.heap.size+1+1,1,none⟩=false∧W0.cell? ⟨w.heap.size+1+1,2,none⟩=some (.int .i64 0)∧W0.frozen? ⟨w.heap.size+1+1,2,none⟩=false∧W0.cell? ⟨w.heap.size+1+1,3,none⟩=some (.int .i64 0)∧W0.frozen? ⟨w.heap.size+1+1,3,none⟩=false∧W0.cell? ⟨w.heap.size+1+1+1,0,none⟩=some (.int .i64 (x))∧W0.cell? ⟨w.heap.size+1+1+1,1,none⟩=some (.int .i64 (y+(v-mn n v)))∧W0.cell? ⟨w.heap.size+1+1+1,2,none⟩=some (.int .i64 (u))∧W0.cell? ⟨w.heap.size+1+1+1,3,none⟩=some (.int .i64 (mn n v))∧W0.cell? ⟨w.heap.size+1+1+1+1,0,none⟩=some (.int .i64 (x))∧W0.cell? ⟨w.heap.size+1+1+1+1,1,none⟩=some (.int .i64 (y))∧W0.cell? ⟨w.heap.size+1+1+1+1,2,none⟩=some (.int .i64 (u))∧W0.cell? ⟨w.heap.size+1+1+1+1,3,none⟩=some (.int .i64 (v-mn n v))) ⟨(by repeat (first | with_reducible exact Below.refl _ _ | with_reducible assumption | with_reducible refine jZd ?_|(with_reducible refine bset ?_ ?_;rotate_left;((try dsimp only);omega)) | refine jZa ?_ (by assumption) | with_reducible refine Below.drew ?_)),?_⟩ (fun W0 hW0=>?_)
 ·go_simp
 obtain ⟨hBW,p0,pf0,p1,pf1,p2,pf2,p3,pf3,q0,qf0,q1,qf1,q2,qf2,q3,qf3,r0,r1,r2,r3,s0,s1,s2,s3⟩:=hW0
 go_region
 all_goals go_wp2
 all_goals
  have XA:=box4 (w:=W0) (b:=w.heap.size+1) (.int .i64 (x)) (.int .i64 (y+(v-mn n v))) (.int .i64 (u)) (.int .i64 (mn n v)) p0 p1 p2 p3
  have XB:=box4 (b:=w.heap.size+1+1) (.int .i64 (x)) (.int .i64 (y)) (.int .i64 (u)) (.int .i64 (v-mn n v)) ((XA.2.2.2.2 (w.heap.size+1+1) 0 (by omega)).trans q0) ((XA.2.2.2.2 (w.heap.size+1+1) 1 (by omega)).trans q1) ((XA.2.2.2.2 (w.heap.size+1+1) 2 (by omega)).trans q2) ((XA.2.2.2.2 (w.heap.size+1+1) 3 (by omega)).trans q3)
  refine tZp (fun wf=>Below w.heap.size w wf∧wf.cell? ⟨w.heap.size+1,0,none⟩=some (.int .i64 (x))∧wf.cell? ⟨w.heap.size+1,1,none⟩=some (.int .i64 (y+(v-mn n v)))∧wf.cell? ⟨w.heap.size+1,2,none⟩=some (.int .i64 (u))∧wf.cell? ⟨w.heap.size+1,3,none⟩=some (.int .i64 (mn n v))∧wf.cell? ⟨w.heap.size+1+1,0,none⟩=some (.int .i64 (x))∧wf.cell? ⟨w.heap.size+1+1,1,none⟩=some (.int .i64 (y))∧wf.cell? ⟨w.heap.size+1+1,2,none⟩=some (.int .i64 (u))∧wf.cell? ⟨w.heap.size+1+1,3,none⟩=some (.int .i64 (v-mn n v))) ⟨(by with_reducible refine Below.drew ?_;exact (by repeat (first | with_reducible exact Below.refl _ _ | with_reducible assumption | with_reducible refine jZd ?_|(with_reducible refine bset ?_ ?_;rotate_left;((try dsimp only);omega)) | refine jZa ?_ (by assumption) | with_reducible refine Below.drew ?_))),pZc ((XB.2.2.2.2 (w.heap.size+1) 0 (by omega)).trans XA.1),pZc ((XB.2.2.2.2 (w.heap.size+1) 1 (by omega)).trans XA.2.1),pZc ((XB.2.2.2.2 (w.heap.size+1) 2 (by omega)).trans XA.2.2.1),pZc ((XB.2.2.2.2 (w.heap.size+1) 3 (by omega)).trans XA.2.2.2.1),pZc XB.1,pZc XB.2.1,pZc XB.2.2.1,pZc XB.2.2.2.1⟩ (fun wf hwf=>?_)
  clear XA XB;obtain ⟨hBf,z0,z1,z2,z3,z4,z5,z6,z7⟩:=hwf
  exact bodyPost_ret (v:=.tuple #[.agg #[.int .i64 (x),.int .i64 (y+(v-mn n v)),.int .i64 (u),.int .i64 (mn n v)],.agg #[.int .i64 (x),.int .i64 (y),.int .i64 (u),.int .i64 (v-mn n v)]]) (by simp only [results,Tryz.results181];go_simp) rfl ⟨rfl,(by repeat (first | with_reducible exact Below.refl _ _ | with_reducible assumption | with_reducible refine jZd ?_|(with_reducible refine bset ?_ ?_;rotate_left;((try dsimp only);omega)) | refine jZa ?_ (by assumption) | with_reducible refine Below.drew ?_))⟩
theorem scut2_w (x y u v n:Int) (w:World) (h1:vrW x y u v=true) (h2:0≤n) :
  Calls Tryz.prog 181 #[.agg #[.int .i64 (x),.int .i64 (y),.int .i64 (u),.int .i64 (v)],.int .i64 2,.int .i64 n] w fun e w'=>e=.returned (.tuple #[.agg #[.int .i64 (x),.int .i64 (y),.int .i64 (mn n u),.int .i64 (v)],.agg #[.int .i64 (x+mn n u),.int .i64 (y),.int .i64 (u-mn n u),.int .i64 (v)]])∧Below w.heap.size w w':=by
 obtain ⟨a1,a2,a3,a4,a5,a6,a7,a8⟩:=rZ3.1 h1;have g:=jZz n u
 have g1:0≤mn n u:=by omega
 have g2:mn n u≤u:=by omega
 clear g
 go_enter Tryz.func181,Tryz.ntmps181
 go_wp2_with fail
 refine dZd (fun W0=>Below w.heap.size w W0∧W0.cell? ⟨w.heap.size+1,0,none⟩=some (.int .i64 0)∧W0.frozen? ⟨w.heap.size+1,0,none⟩=false∧W0.cell? ⟨w.heap.size+1,1,none⟩=some (.int .i64 0)∧W0.frozen? ⟨w.heap.size+1,1,none⟩=false∧W0.cell? ⟨w.heap.size+1,2,none⟩=some (.int .i64 0)∧W0.frozen? ⟨w.heap.size+1,2,none⟩=false∧W0.cell? ⟨w.heap.size+1,3,none⟩=some (.int .i64 0)∧W0.frozen? ⟨w.heap.size+1,3,none⟩=false∧W0.cell? ⟨w.heap.size+1+1,0,none⟩=some (.int .i64 0)∧W0.frozen? ⟨w.heap.size+1+1,0,none⟩=false∧W0.cell? ⟨w.heap.size+1+1,1,none⟩=some (.int .i64 0)∧W0.frozen? ⟨w.heap.size+1+1,1,none⟩=false∧W0.cell? ⟨w.heap.size+1+1,2,none⟩=some (.int .i64 0)∧W0.frozen? ⟨w.heap.size+1+1,2,none⟩=false∧W0.cell? ⟨w.heap.size+1+1,3,none⟩=some (.int .i64 0)∧W0.frozen? ⟨w.heap.size+1+1,3,none⟩=false∧W0.cell? ⟨w.heap.size+1+1+1,0,none⟩=some (.int .i64 (x))∧W0.cell? ⟨w.heap.size+1+1+1,1,none⟩=some (.int .i64 (y))∧W0.cell? ⟨w.heap.size+1+1+1,2,none⟩=some (.int .i64 (mn n u))∧W0.cell? ⟨w.heap.size+1+1+1,3,none⟩=some (.int .i64 (v))∧W0.cell? ⟨w.heap.size+1+1+1+1,0,none⟩=some (.int .i64 (x+mn n u))∧W0.cell? ⟨w.heap.size+1+1+1+1,1,none⟩=some (.int .i64 (y))∧W0.cell? ⟨w.heap.size+1+1+1+1,2,none⟩=some (.int .i64 (u-mn n u))∧W0.cell? ⟨w.heap.size+1+1+1+1,3,none⟩=some (.int .i64 (v))) ⟨(by repeat (first | with_reducible exact Below.refl _ _ | with_reducible assumption | with_reducible refine jZd ?_|(with_reducible refine bset ?_ ?_;rotate_left;((try dsimp only);omega)) | refine jZa ?_ (by assumption) | with_reducible refine Below.drew ?_)),?_⟩ (fun W0 hW0=>?_)
 ·go_simp
 obtain ⟨hBW,p0,pf0,p1,pf1,p2,pf2,p3,pf3,q0,qf0,q1,qf1,q2,qf2,q3,qf3,r0,r1,r2,r3,s0,s1,s2,s3⟩:=hW0
 go_region
 all_goals go_wp2
 all_goals
  have XA:=box4 (w:=W0) (b:=w.heap.size+1) (.int .i64 (x)) (.int .i64 (y)) (.int .i64 (mn n u)) (.int .i64 (v)) p0 p1 p2 p3
  have XB:=box4 (b:=w.heap.size+1+1) (.int .i64 (x+mn n u)) (.int .i64 (y)) (.int .i64 (u-mn n u)) (.int .i64 (v)) ((XA.2.2.2.2 (w.heap.size+1+1) 0 (by omega)).trans q0) ((XA.2.2.2.2 (w.heap.size+1+1) 1 (by omega)).trans q1) ((XA.2.2.2.2 (w.heap.size+1+1) 2 (by omega)).trans q2) ((XA.2.2.2.2 (w.heap.size+1+1) 3 (by omega)).trans q3)
  refine tZp (fun wf=>Below w.heap.size w wf∧wf.cell? ⟨w.heap.size+1,0,none⟩=some (.int .i64 (x))∧wf.cell? ⟨w.heap.size+1,1,none⟩=some (.int .i64 (y))∧wf.cell? ⟨w.heap.size+1,2,none⟩=some (.int .i64 (mn n u))∧wf.cell? ⟨w.heap.size+1,3,none⟩=some (.int .i64 (v))∧wf.cell? ⟨w.heap.size+1+1,0,none⟩=some (.int .i64 (x+mn n u))∧wf.cell? ⟨w.heap.size+1+1,1,none⟩=some (.int .i64 (y))∧wf.cell? ⟨w.heap.size+1+1,2,none⟩=some (.int .i64 (u-mn n u))∧wf.cell? ⟨w.heap.size+1+1,3,none⟩=some (.int .i64 (v))) ⟨(by with_reducible refine Below.drew ?_;exact (by repeat (first | with_reducible exact Below.refl _ _ | with_reducible assumption | with_reducible refine jZd ?_|(with_reducible refine bset ?_ ?_;rotate_left;((try dsimp only);omega)) | refine jZa ?_ (by assumption) | with_reducible refine Below.drew ?_))),pZc ((XB.2.2.2.2 (w.heap.size+1) 0 (by omega)).trans XA.1),pZc ((XB.2.2.2.2 (w.heap.size+1) 1 (by omega)).trans XA.2.1),pZc ((XB.2.2.2.2 (w.heap.size+1) 2 (by omega)).trans XA.2.2.1),pZc ((XB.2.2.2.2 (w.heap.size+1) 3 (by omega)).trans XA.2.2.2.1),pZc XB.1,pZc XB.2.1,pZc XB.2.2.1,pZc XB.2.2.2.1⟩ (fun wf hwf=>?_)
  clear XA XB;obtain ⟨hBf,z0,z1,z2,z3,z4,z5,z6,z7⟩:=hwf
  exact bodyPost_ret (v:=.tuple #[.agg #[.int .i64 (x),.int .i64 (y),.int .i64 (mn n u),.int .i64 (v)],.agg #[.int .i64 (x+mn n u),.int .i64 (y),.int .i64 (u-mn n u),.int .i64 (v)]]) (by simp only [results,Tryz.results181];go_simp) rfl ⟨rfl,(by repeat (first | with_reducible exact Below.refl _ _ | with_reducible assumption | with_reducible refine jZd ?_|(with_reducible refine bset ?_ ?_;rotate_left;((try dsimp only);omega)) | refine jZa ?_ (by assumption) | with_reducible refine Below.drew ?_))⟩
theorem scut3_w (x y u v n:Int) (w:World) (h1:vrW x y u v=true) (h2:0≤n) :
  Calls Tryz.prog 181 #[.agg #[.int .i64 (x),.int .i64 (y),.int .i64 (u),.int .i64 (v)],.int .i64 3,.int .i64 n] w fun e w'=>e=.returned (.tuple #[.agg #[.int .i64 (x+(u-mn n u)),.int .i64 (y),.int .i64 (mn n u),.int .i64 (v)],.agg #[.int .i64 (x),.int .i64 (y),.int .i64 (u-mn n u),.int .i64 (v)]])∧Below w.heap.size w w':=by
 obtain ⟨a1,a2,a3,a4,a5,a6,a7,a8⟩:=rZ3.1 h1;have g:=jZz n u
 have g1:0≤mn n u:=by omega
 have g2:mn n u≤u:=by omega
 clear g
 go_enter Tryz.func181,Tryz.ntmps181
 go_wp2_with fail
 refine dZd (fun W0=>Below w.heap.size w W0∧W0.cell? ⟨w.heap.size+1,0,none⟩=some (.int .i64 0)∧W0.frozen? ⟨w.heap.size+1,0,none⟩=false∧W0.cell? ⟨w.heap.size+1,1,none⟩=some (.int .i64 0)∧W0.frozen? ⟨w.heap.size+1,1,none⟩=false∧W0.cell? ⟨w.heap.size+1,2,none⟩=some (.int .i64 0)∧W0.frozen? ⟨w.heap.size+1,2,none⟩=false∧W0.cell? ⟨w.heap.size+1,3,none⟩=some (.int .i64 0)∧W0.frozen? ⟨w.heap.size+1,3,none⟩=false∧W0.cell? ⟨w.heap.size+1+1,0,none⟩=some (.int .i64 0)∧W0.frozen? ⟨w.heap.size+1+1,0,none⟩=false∧W0.cell? ⟨w.heap.size+1+1,1,none⟩=some (.int .i64 0)∧W0.frozen? ⟨w.heap.size+1+1,1,none⟩=false∧W0.cell? ⟨w.heap.size+1+1,2,none⟩=some (.int .i64 0)∧W0.frozen? ⟨w.heap.size+1+1,2,none⟩=false∧W0.cell? ⟨w.heap.size+1+1,3,none⟩=some (.int .i64 0)∧W0.frozen? ⟨w.heap.size+1+1,3,none⟩=false∧W0.cell? ⟨w.heap.size+1+1+1,0,none⟩=some (.int .i64 (x+(u-mn n u)))∧W0.cell? ⟨w.heap.size+1+1+1,1,none⟩=some (.int .i64 (y))∧W0.cell? ⟨w.heap.size+1+1+1,2,none⟩=some (.int .i64 (mn n u))∧W0.cell? ⟨w.heap.size+1+1+1,3,none⟩=some (.int .i64 (v))∧W0.cell? ⟨w.heap.size+1+1+1+1,0,none⟩=some (.int .i64 (x))∧W0.cell? ⟨w.heap.size+1+1+1+1,1,none⟩=some (.int .i64 (y))∧W0.cell? ⟨w.heap.size+1+1+1+1,2,none⟩=some (.int .i64 (u-mn n u))∧W0.cell? ⟨w.heap.size+1+1+1+1,3,none⟩=some (.int .i64 (v))) ⟨(by repeat (first | with_reducible exact Below.refl _ _ | with_reducible assumption | with_reducible refine jZd ?_|(with_reducible refine bset ?_ ?_;rotate_left;((try dsimp only);omega)) | refine jZa ?_ (by assumption) | with_reducible refine Below.drew ?_)),?_⟩ (fun W0 hW0=>?_)
 ·go_simp
 obtain ⟨hBW,p0,pf0,p1,pf1,p2,pf2,p3,pf3,q0,qf0,q1,qf1,q2,qf2,q3,qf3,r0,r1,r2,r3,s0,s1,s2,s3⟩:=hW0
 go_region
 all_goals go_wp2
 all_goals
  have XA:=box4 (w:=W0) (b:=w.heap.size+1) (.int .i64 (x+(u-mn n u))) (.int .i64 (y)) (.int .i64 (mn n u)) (.int .i64 (v)) p0 p1 p2 p3
  have XB:=box4 (b:=w.heap.size+1+1) (.int .i64 (x)) (.int .i64 (y)) (.int .i64 (u-mn n u)) (.int .i64 (v)) ((XA.2.2.2.2 (w.heap.size+1+1) 0 (by omega)).trans q0) ((XA.2.2.2.2 (w.heap.size+1+1) 1 (by omega)).trans q1) ((XA.2.2.2.2 (w.heap.size+1+1) 2 (by omega)).trans q2) ((XA.2.2.2.2 (w.heap.size+1+1) 3 (by omega)).trans q3)
  refine tZp (fun wf=>Below w.heap.size w wf∧wf.cell? ⟨w.heap.size+1,0,none⟩=some (.int .i64 (x+(u-mn n u)))∧wf.cell? ⟨w.heap.size+1,1,none⟩=some (.int .i64 (y))∧wf.cell? ⟨w.heap.size+1,2,none⟩=some (.int .i64 (mn n u))∧wf.cell? ⟨w.heap.size+1,3,none⟩=some (.int .i64 (v))∧wf.cell? ⟨w.heap.size+1+1,0,none⟩=some (.int .i64 (x))∧wf.cell? ⟨w.heap.size+1+1,1,none⟩=some (.int .i64 (y))∧wf.cell? ⟨w.heap.size+1+1,2,none⟩=some (.int .i64 (u-mn n u))∧wf.cell? ⟨w.heap.size+1+1,3,none⟩=some (.int .i64 (v))) ⟨(by with_reducible refine Below.drew ?_;exact (by repeat (first | with_reducible exact Below.refl _ _ | with_reducible assumption | with_reducible refine jZd ?_|(with_reducible refine bset ?_ ?_;rotate_left;((try dsimp only);omega)) | refine jZa ?_ (by assumption) | with_reducible refine Below.drew ?_))),pZc ((XB.2.2.2.2 (w.heap.size+1) 0 (by omega)).trans XA.1),pZc ((XB.2.2.2.2 (w.heap.size+1) 1 (by omega)).trans XA.2.1),pZc ((XB.2.2.2.2 (w.heap.size+1) 2 (by omega)).trans XA.2.2.1),pZc ((XB.2.2.2.2 (w.heap.size+1) 3 (by omega)).trans XA.2.2.2.1),pZc XB.1,pZc XB.2.1,pZc XB.2.2.1,pZc XB.2.2.2.1⟩ (fun wf hwf=>?_)
  clear XA XB;obtain ⟨hBf,z0,z1,z2,z3,z4,z5,z6,z7⟩:=hwf
  exact bodyPost_ret (v:=.tuple #[.agg #[.int .i64 (x+(u-mn n u)),.int .i64 (y),.int .i64 (mn n u),.int .i64 (v)],.agg #[.int .i64 (x),.int .i64 (y),.int .i64 (u-mn n u),.int .i64 (v)]]) (by simp only [results,Tryz.results181];go_simp) rfl ⟨rfl,(by repeat (first | with_reducible exact Below.refl _ _ | with_reducible assumption | with_reducible refine jZd ?_|(with_reducible refine bset ?_ ?_;rotate_left;((try dsimp only);omega)) | refine jZa ?_ (by assumption) | with_reducible refine Below.drew ?_))⟩
end
section
attribute [local go_sem 5000] kZk kZj
theorem scut_w (z:Rc) (s n:Int) (w:World) (hz:z.okW) (hs:0≤s) (hs':s≤3) (hn:0≤n) :
  Calls Tryz.prog 181 #[.agg #[.int .i64 (z.x),.int .i64 (z.y),.int .i64 (z.u),.int .i64 (z.v)],.int .i64 s,.int .i64 n] w fun e w'=>e=.returned (.tuple #[.agg #[.int .i64 ((cutP z s n).1.x),.int .i64 ((cutP z s n).1.y),.int .i64 ((cutP z s n).1.u),.int .i64 ((cutP z s n).1.v)],.agg #[.int .i64 ((cutP z s n).2.x),.int .i64 ((cutP z s n).2.y),.int .i64 ((cutP z s n).2.u),.int .i64 ((cutP z s n).2.v)]])∧Below w.heap.size w w':=by
 have h:s=0∨s=1∨s=2∨s=3:=by omega
 rcases h with rfl | rfl | rfl | rfl
 ·exact scut0_w z.x z.y z.u z.v n w (Rc.okW_vr hz) hn
 ·exact scut1_w z.x z.y z.u z.v n w (Rc.okW_vr hz) hn
 ·exact scut2_w z.x z.y z.u z.v n w (Rc.okW_vr hz) hn
 ·exact scut3_w z.x z.y z.u z.v n w (Rc.okW_vr hz) hn
theorem share_nW (A:Option Addr) (c n:Nat) (L:List Pk) (room:Int) (d:Bool) (w:World) (hn:n=L.length) (h:PV w A L) (hL:bgL L) (p0:Pk) (r0:List Pk) (hp0:L=p0 :: r0) (hd0:p0.down=d) (hx0:p0.ex=true) (hr:0≤room) (hr':room≤20000000000000) :
  Calls Tryz.prog 180 #[.slice A n c,.int .i64 room,.bool d] w fun e w'=>e=.returned (.int .i64 (kZ1 L d room room 0))∧Below w.heap.size w w':=by
 subst hn;exact share_w A c L room d w h hL p0 r0 hp0 hd0 hx0 hr hr'
theorem parcels_w (A:Option Addr) (c:Nat) (L:List Pk) (z0:Rc) (w:World) (h:PV w A L) (hcap:L.length≤c) (hL:bgL L) (hz0:z0.okW) (M:List Rc) (Z:Rc) (hM:qZh L z0=(M,Z)) :
  Calls Tryz.prog 169 #[.slice A L.length c,.agg #[.int .i64 (z0.x),.int .i64 (z0.y),.int .i64 (z0.u),.int .i64 (z0.v)]] w fun e w'=>(∃ v,e=.returned (.tuple #[v,.agg #[.int .i64 (Z.x),.int .i64 (Z.y),.int .i64 (Z.u),.int .i64 (Z.v)]])∧w'.ownsRow w.heap.size 32 4 v M.length (tZr M))∧Below w.heap.size w w':=by
 obtain ⟨hok,h7⟩:=id hL
 have hML:M.length=L.length:=by have:=sZe (L:=L) (z:=z0);rw [hM] at this;exact this
 have HOK:=hD hok;have HML:=hD hML;have HVL:=hD hL;have HM:=hD hM;clear hok hML hL hM;obtain ⟨ti,tz,ti1,ti2,ti3,ti4,ti5⟩:=rect_info
 go_enter Tryz.func169,Tryz.ntmps169
 go_wp2_with fail
 go_loopw [6,7] (fun out i wr=>∃ k:Nat,k≤L.length∧i=.int .i64 k∧wr.ownsRow (w.heap.size+1+1) 32 4 out k (tZr (M.take k)) ∧
  (∃ z:Rc,wr.heap[w.heap.size]?=some (.cells #[.int .i64 z.x,.int .i64 z.y,.int .i64 z.u,.int .i64 z.v] 32 (0,0))∧z.okW∧qZh (L.drop k) z=(M.drop k,Z)) ∧
  wr.heap[w.heap.size+1]?=some (.cells #[.int .i64 0,.int .i64 0,.int .i64 0,.int .i64 0] 32 (0,0))∧Below w.heap.size w wr) (fun _ i _=>L.length-(intOf i).toNat)
 case atStart =>
  refine ⟨0,by omega,rfl,?_,⟨z0,?_,hz0,HM.out⟩,?_,jZd (jZd (jZd (Below.refl _ _)))⟩
  ·have e:=World.ownsRow_lit (base:=w.heap.size+1+1) (e:=32) (size:=4) ((w.alloc (.cells #[.int .i64 z0.x,.int .i64 z0.y,.int .i64 z0.u,.int .i64 z0.v] 32)).alloc (.cells #[.int .i64 0,.int .i64 0,.int .i64 0,.int .i64 0] 32)) #[] 0 (by simp) (by decide) rfl
   simpa only [World.size_alloc,List.take_zero,tZr] using e
  ·rw [Below.heap_alloc _ _ _ (by simp;omega),Below.heap_alloc _ _ _ (by simp)];exact pZo _ _
  ·rw [Below.heap_alloc _ _ _ (by simp)];have e:=pZo (w.alloc (.cells #[.int .i64 z0.x,.int .i64 z0.y,.int .i64 z0.u,.int .i64 z0.v] 32)) (.cells #[.int .i64 0,.int .i64 0,.int .i64 0,.int .i64 0] 32)
   simpa only [World.size_alloc] using e
 case round =>
  obtain ⟨k,hk,rfl,how,⟨z,hl,hz,hp⟩,hr,hB⟩:=hrel;clear HM
  by_cases hlt:k<L.length
  ·have hd:decide ((k:Int)<(L.length:Int))=true:=by simpa using hlt
   obtain ⟨b,off,rfl,hb,hps⟩:=(h.keep hB).cells (by omega);have hget:L[k]?=some L[k]:=List.getElem?_eq_getElem hlt;generalize hx:L[k]=p at *;obtain ⟨c0,c1,c2,c3,c4,c5,c6,c7,c8⟩:=hps k _ hget;have hpk:p.big:=HOK.out p (List.mem_of_getElem? hget);have hdrop:=pZw hget
   obtain ⟨tk1,tk2⟩:=tZd (p:=p) (r:=L.drop (k+1)) (z:=z) (fun q hq=>HOK.out q (List.mem_of_mem_drop (by rw [hdrop];exact hq:q∈L.drop k))) hz;obtain ⟨mo1,mo2⟩:=dZk (p:=p) (r:=L.drop (k+1)) (z:=z) (fun q hq=>HOK.out q (List.mem_of_mem_drop (by rw [hdrop];exact hq:q∈L.drop k))) hz
   obtain ⟨b1,b2,⟨b3,b4⟩,b5⟩:=(show ((0≤p.w∧p.w≤1000000000000)∧(0≤p.h∧p.h≤1000000000000)∧(0≤p.s∧p.s≤3)∧(0≤p.an∧p.an≤8)∧(0≤p.px∧p.px≤10)∧(0≤p.py∧p.py≤10)) from hpk)
   have hdl:L.length-k=(L.drop k).length:=by rw [List.length_drop]
   obtain ⟨sb1,sb2⟩:=Rc.size_bdW hz p.down;have nbf:=Pk.need_bdW hpk false;have nbt:=Pk.need_bdW hpk true;have HG:=hD hget;have HX:=hD hx;have HOW:=hD how;have HL:=hD hl;have HZ:=hD hz;have HP:=hD hp;have HR:=hD hr;have HBB:=hD hB;have HPS:=hD hps;have HPK:=hD hpk;have HD:=hD hdrop;have HDL:=hD hdl;have hll:=(gE hl).1;have hln:=Nat.ne_of_lt hll
   have hkL:k≤L.length:=by omega
   have hLk:¬ L.length=k:=by omega
   have hck:¬ c=k:=by omega
   clear hget hx how hl hz hp hr hB hps hpk hdrop hdl b1 b2 b5
   go_wp2_with fail
   refine (eZ4 p _ HPK.out).mono ?_;rintro e w1 ⟨rfl,hb1⟩;replace HL:=hD ((hb1.block _ hll).trans HL.out);replace HR:=hbk hb1 HR;have hc9:=(HPS.out k p HG.out).keep (hb1.block b hb);have HC9:=hD hc9;obtain ⟨d0,d1,d2,d3,d4,d5,d6,d7,d8⟩:=hc9;obtain ⟨l0,l1,l2,l3⟩:=kZo HL.out;have HB1:=hD hb1;replace HOW:=hD (rZp HOW.out hb1);have hs0:=HBB.out.size;have hs1:=hb1.size;have hob:=HOW.out.lt
   replace HBB:=hD (HBB.out.trans (hb1.mono HBB.out.size))
   have hll1:w.heap.size<w1.heap.size:=by omega
   have hne1:=Nat.ne_of_lt hll1
   obtain ⟨T,hT⟩:∃ T,pZt p (L.drop (k+1)) z=T:=⟨_,rfl⟩
   clear hb1 c0 c1 c2 c3 c4 c5 c6 c7 c8
   cases hdn:p.down
   ·go_wp2_with fail
    refine (uZu p _).mono ?_;rintro e w2 ⟨rfl,rfl⟩;rw [hdn]
    cases hex:p.ex
    ·rw [hex] at d5
     have hT2:p.need false=T:=by rw [<- hT];unfold pZt;simp [rZt,hex,hdn]
     go_wp2_with fail
     refine jZg 11 4 (fun i=>decide (i<13)&&i != 10) (by kernel_rfl) (by kernel_rfl) rfl ?_
     iterate 11 (refine jZ3 (fun K hK=>?_);apply Exists.intro;refine ⟨.inl ⟨rfl,fun w' hw'=>?_⟩,?_⟩;(focus ((obtain ⟨hc,hf⟩:=kZi hw'.out);(have hcS:=kZq hw'.out);go_simp <;> first | rfl|(go_at_call 181;exact scut_w z p.s T _ HZ.out b3 b4 (by omega))));(go_simp;refine hK _ ?_;clear hK K))
     refine jZ9 ?_
     refine tZe (i:=11) (j:=12) (Oi:=(.cells #[.int .i64 0,.int .i64 0,.int .i64 0,.int .i64 0] 32 (0,0))) (Oj:=(.cells #[.int .i64 0,.int .i64 0,.int .i64 0,.int .i64 0] 32 (0,0))) (by kernel_rfl) (by kernel_rfl) (by kernel_rfl) rfl rfl rfl rfl (by kernel_rfl) (by kernel_rfl) (by kernel_rfl) (by decide) (by intro d h1 h2;cases h1;cases h2) (fun a' w' K hK=>?_) (fun a' w' K hK=>?_) (fun bx by_ w2 hg2 hxy hxl hyl hx hy=>?_)
     ·go_simp;exact hK
     ·go_simp;exact hK
     refine jZ1 (by kernel_rfl) (fun w3 hg3=>?_);have hB3:Below w1.heap.size w1 w3:=(sZz (Below.drew (Below.refl _ _)) hg2).trans (hg3.out.mono hg2.out.size);replace hx:=(hg3.out.block _ (gE hx).1).trans hx;replace hy:=(hg3.out.block _ (gE hy).1).trans hy;have hxl2:w1.heap.size≤bx:=hxl;have hyl2:w1.heap.size≤by_:=hyl;clear hg3 hg2 hxl hyl;obtain ⟨x0,x1,x2,x3⟩:=kZo hx
     obtain ⟨y0,y1,y2,y3⟩:=kZo hy;have g0:=jZl hx 0;have g1:=jZl hx 1;have g2:=jZl hx 2;have g3:=jZl hx 3;have k0:=jZl hy 0;have k1:=jZl hy 1;have k2:=jZl hy 2;have k3:=jZl hy 3;have hyx:by_≠bx:=Ne.symm hxy
     obtain ⟨P,hP⟩:∃ P,cutP z p.s T=P:=⟨_,rfl⟩
     obtain ⟨hst1,hst2⟩:=sZd HG.out HP.out;have hok2:=sZi (s:=p.s) (n:=pZt p (L.drop (k+1)) z) HZ.out tk1;rw [hT,hP] at hst1 hst2 hok2;rw [hP];refine jZn (i:=13) (by kernel_rfl) rfl rfl ?_;go_simp;refine jZn (i:=14) (by kernel_rfl) rfl rfl ?_;go_simp;refine jZq (by kernel_rfl) ?_
     have F1:=(qZ6 (b:=by_) (b':=bx) hxy 0 1 2 3 (.int .i64 P.2.x) (.int .i64 P.2.y) (.int .i64 P.2.u) (.int .i64 P.2.v)).trans (qZb hx (.int .i64 P.1.x) (.int .i64 P.1.y) (.int .i64 P.1.u) (.int .i64 P.1.v))
     have F2:=qZb ((qZ6 (b:=bx) (b':=by_) hyx 0 1 2 3 (.int .i64 P.1.x) (.int .i64 P.1.y) (.int .i64 P.1.u) (.int .i64 P.1.v)).trans hy) (.int .i64 P.2.x) (.int .i64 P.2.y) (.int .i64 P.2.u) (.int .i64 P.2.v)
     have F3:=pZ0 (pZ0 hB3 hxl2 0 1 2 3 (.int .i64 P.1.x) (.int .i64 P.1.y) (.int .i64 P.1.u) (.int .i64 P.1.v)) hyl2 0 1 2 3 (.int .i64 P.2.x) (.int .i64 P.2.y) (.int .i64 P.2.u) (.int .i64 P.2.v)
     refine kZ0.gen (fun W=>W.heap[bx]?=some (.cells #[.int .i64 P.1.x,.int .i64 P.1.y,.int .i64 P.1.u,.int .i64 P.1.v] 32 (0,0))∧W.heap[by_]?=some (.cells #[.int .i64 P.2.x,.int .i64 P.2.y,.int .i64 P.2.u,.int .i64 P.2.v] 32 (0,0))∧Below w1.heap.size w1 W) ⟨F1,F2,F3⟩ ?_;clear F1 F2 F3 hB3 hx hy x0 x1 x2 x3 y0 y1 y2 y3 g0 g1 g2 g3 k0 k1 k2 k3;rintro W ⟨hx,hy,hBW⟩;obtain ⟨x0,x1,x2,x3⟩:=kZo hx
     have hwr1:w.heap.size+1<w1.heap.size:=(gE HR.out).1;have hsW:=hBW.size;replace HOW:=hD (rZp HOW.out hBW);replace HL:=hD ((hBW.block _ hll1).trans HL.out);replace HR:=hD ((hBW.block _ hwr1).trans HR.out);replace HBB:=hD (HBB.out.trans (hBW.mono (by omega)))
     have hW0:w.heap.size<W.heap.size:=by omega
     have hWx:bx<W.heap.size:=(gE hx).1;have hWy:by_<W.heap.size:=(gE hy).1;have HX1:=hD hx;have HY1:=hD hy;have HPP:=hD hP;clear hx hy hBW hP d0 d1 d2 d3 d4 d5 d6 d7 d8 l0 l1 l2 l3
     go_wp2_with (at_builtin;refine wpList_append_own _ rfl _ _ 28 rfl (w.heap.size+1+1) 32 ti tz 4 32 Tryz.underlying28 ti1 ti2 ti3 ti4 ti5 (by decide) _ _ _ rfl (HOW.out.alloc _) ⟨W.heap.size,0,none⟩ 1 1 (rZy P.1) rfl rfl (new4 _ _ _) (uZv _) (by simp only [maxLen];omega) (by omega) (by simp;omega) ?_)
     intro v5 w5 how5 hgr5 _;obtain ⟨hst,hbl⟩:=uZo hgr5 hob;have hs5:=hgr5.size;simp only [World.size_alloc] at hs5;have HL5:=hD ((hst _ hW0 (by omega)).trans HL.out);have HR5:=hD ((hst _ (by omega) (by omega)).trans HR.out);have hy5:=(hst _ hWy (by omega)).trans HY1.out;have HB5:=hD (hbl _ _ HBB.out (by omega) (by omega));clear HL HR HBB HX1 HY1 hst hbl hgr5 hob x0 x1 x2 x3
     rw [tZk hst1] at how5;have HOW5:=hD how5;obtain ⟨y0,y1,y2,y3⟩:=kZo hy5;obtain ⟨l0,l1,l2,l3⟩:=kZo HL5.out;have g0:=jZl HL5.out 0;have g1:=jZl HL5.out 1;have g2:=jZl HL5.out 2;have g3:=jZl HL5.out 3;have E1:=hD (uZb HOW5.out (b:=w.heap.size) (by omega) 0 1 2 3 (.int .i64 P.2.x) (.int .i64 P.2.y) (.int .i64 P.2.u) (.int .i64 P.2.v))
     have E2:=hD (qZb HL5.out (.int .i64 P.2.x) (.int .i64 P.2.y) (.int .i64 P.2.u) (.int .i64 P.2.v));have E3:=hD ((qZ6 (b:=w.heap.size) (b':=w.heap.size+1) (by omega) 0 1 2 3 (.int .i64 P.2.x) (.int .i64 P.2.y) (.int .i64 P.2.u) (.int .i64 P.2.v)).trans HR5.out)
     have E4:=hD (pZ0 HB5.out (b:=w.heap.size) (by omega) 0 1 2 3 (.int .i64 P.2.x) (.int .i64 P.2.y) (.int .i64 P.2.u) (.int .i64 P.2.v));clear how5 hy5;go_wp2
     go_roundw
     case rel=>exact ⟨k+1,by omega,by go_num,E1.out,⟨P.2,E2.out,hok2.2,hst2⟩,E3.out,E4.out⟩
     case measure=>simp [intOf];omega
    ·rw [hex] at d5
     have hT2:IntKind.i64.wrap (p.need false+kZ1 (L.drop k) false z.u z.u 0)=T:=by
      have e:p.need false+kZ1 (L.drop k) false z.u z.u 0=T:=by rw [HD.out,<- hT];unfold pZt;simp [rZt,hex,hdn,Rc.size]
      rw [IntWalk.i64_in _ (by rw [e,<- hT];omega)];exact e
     have hzb:0≤z.u∧z.u≤20000000000000:=by have:=Rc.size_bdW HZ.out false;simpa [Rc.size] using this
     go_wp2_with fail
     refine (share_nW (some ⟨b,off+k*9,none⟩) (c-k) (L.length-k) (L.drop k) z.u false w1 HDL.out ((PV.drop HPS.out hb).keep HB1.out) (eZ3 HVL.out k) p (L.drop (k+1)) HD.out hdn hex hzb.1 hzb.2).mono ?_;rintro e w1 ⟨rfl,hb2⟩;replace HOW:=hD (rZp HOW.out hb2);have hsr:=HB1.out.size;have hs2:=hb2.size;have hc9:=HC9.out.keep (hb2.block b (by omega))
     replace HL:=hD ((hb2.block _ hll1).trans HL.out);replace HR:=hbk hb2 HR;replace HBB:=hD (HBB.out.trans (hb2.mono HBB.out.size));replace hob:=HOW.out.lt
     replace hll1:w.heap.size<w1.heap.size:=by omega
     clear d0 d1 d2 d3 d4 d5 d6 d7 d8 l0 l1 l2 l3 hne1 HC9 HB1 hb2;replace hne1:=Nat.ne_of_lt hll1;obtain ⟨d0,d1,d2,d3,d4,d5,d6,d7,d8⟩:=hc9;obtain ⟨l0,l1,l2,l3⟩:=kZo HL.out;rw [hex] at d5
     go_wp2_with fail
     refine jZg 11 4 (fun i=>decide (i<13)&&i != 10) (by kernel_rfl) (by kernel_rfl) rfl ?_
     iterate 11 (refine jZ3 (fun K hK=>?_);apply Exists.intro;refine ⟨.inl ⟨rfl,fun w' hw'=>?_⟩,?_⟩;(focus ((obtain ⟨hc,hf⟩:=kZi hw'.out);(have hcS:=kZq hw'.out);go_simp <;> first | rfl|(go_at_call 181;exact scut_w z p.s T _ HZ.out b3 b4 (by omega))));(go_simp;refine hK _ ?_;clear hK K))
     refine jZ9 ?_
     refine tZe (i:=11) (j:=12) (Oi:=(.cells #[.int .i64 0,.int .i64 0,.int .i64 0,.int .i64 0] 32 (0,0))) (Oj:=(.cells #[.int .i64 0,.int .i64 0,.int .i64 0,.int .i64 0] 32 (0,0))) (by kernel_rfl) (by kernel_rfl) (by kernel_rfl) rfl rfl rfl rfl (by kernel_rfl) (by kernel_rfl) (by kernel_rfl) (by decide) (by intro d h1 h2;cases h1;cases h2) (fun a' w' K hK=>?_) (fun a' w' K hK=>?_) (fun bx by_ w2 hg2 hxy hxl hyl hx hy=>?_)
     ·go_simp;exact hK
     ·go_simp;exact hK
     refine jZ1 (by kernel_rfl) (fun w3 hg3=>?_);have hB3:Below w1.heap.size w1 w3:=(sZz (Below.drew (Below.refl _ _)) hg2).trans (hg3.out.mono hg2.out.size);replace hx:=(hg3.out.block _ (gE hx).1).trans hx;replace hy:=(hg3.out.block _ (gE hy).1).trans hy;have hxl2:w1.heap.size≤bx:=hxl;have hyl2:w1.heap.size≤by_:=hyl;clear hg3 hg2 hxl hyl;obtain ⟨x0,x1,x2,x3⟩:=kZo hx
     obtain ⟨y0,y1,y2,y3⟩:=kZo hy;have g0:=jZl hx 0;have g1:=jZl hx 1;have g2:=jZl hx 2;have g3:=jZl hx 3;have k0:=jZl hy 0;have k1:=jZl hy 1;have k2:=jZl hy 2;have k3:=jZl hy 3;have hyx:by_≠bx:=Ne.symm hxy
     obtain ⟨P,hP⟩:∃ P,cutP z p.s T=P:=⟨_,rfl⟩
     obtain ⟨hst1,hst2⟩:=sZd HG.out HP.out;have hok2:=sZi (s:=p.s) (n:=pZt p (L.drop (k+1)) z) HZ.out tk1;rw [hT,hP] at hst1 hst2 hok2;rw [hP];refine jZn (i:=13) (by kernel_rfl) rfl rfl ?_;go_simp;refine jZn (i:=14) (by kernel_rfl) rfl rfl ?_;go_simp;refine jZq (by kernel_rfl) ?_
     have F1:=(qZ6 (b:=by_) (b':=bx) hxy 0 1 2 3 (.int .i64 P.2.x) (.int .i64 P.2.y) (.int .i64 P.2.u) (.int .i64 P.2.v)).trans (qZb hx (.int .i64 P.1.x) (.int .i64 P.1.y) (.int .i64 P.1.u) (.int .i64 P.1.v))
     have F2:=qZb ((qZ6 (b:=bx) (b':=by_) hyx 0 1 2 3 (.int .i64 P.1.x) (.int .i64 P.1.y) (.int .i64 P.1.u) (.int .i64 P.1.v)).trans hy) (.int .i64 P.2.x) (.int .i64 P.2.y) (.int .i64 P.2.u) (.int .i64 P.2.v)
     have F3:=pZ0 (pZ0 hB3 hxl2 0 1 2 3 (.int .i64 P.1.x) (.int .i64 P.1.y) (.int .i64 P.1.u) (.int .i64 P.1.v)) hyl2 0 1 2 3 (.int .i64 P.2.x) (.int .i64 P.2.y) (.int .i64 P.2.u) (.int .i64 P.2.v)
     refine kZ0.gen (fun W=>W.heap[bx]?=some (.cells #[.int .i64 P.1.x,.int .i64 P.1.y,.int .i64 P.1.u,.int .i64 P.1.v] 32 (0,0))∧W.heap[by_]?=some (.cells #[.int .i64 P.2.x,.int .i64 P.2.y,.int .i64 P.2.u,.int .i64 P.2.v] 32 (0,0))∧Below w1.heap.size w1 W) ⟨F1,F2,F3⟩ ?_;clear F1 F2 F3 hB3 hx hy x0 x1 x2 x3 y0 y1 y2 y3 g0 g1 g2 g3 k0 k1 k2 k3;rintro W ⟨hx,hy,hBW⟩;obtain ⟨x0,x1,x2,x3⟩:=kZo hx
     have hwr1:w.heap.size+1<w1.heap.size:=(gE HR.out).1;have hsW:=hBW.size;replace HOW:=hD (rZp HOW.out hBW);replace HL:=hD ((hBW.block _ hll1).trans HL.out);replace HR:=hD ((hBW.block _ hwr1).trans HR.out);replace HBB:=hD (HBB.out.trans (hBW.mono (by omega)))
     have hW0:w.heap.size<W.heap.size:=by omega
     have hWx:bx<W.heap.size:=(gE hx).1;have hWy:by_<W.heap.size:=(gE hy).1;have HX1:=hD hx;have HY1:=hD hy;have HPP:=hD hP;clear hx hy hBW hP d0 d1 d2 d3 d4 d5 d6 d7 d8 l0 l1 l2 l3
     go_wp2_with (at_builtin;refine wpList_append_own _ rfl _ _ 28 rfl (w.heap.size+1+1) 32 ti tz 4 32 Tryz.underlying28 ti1 ti2 ti3 ti4 ti5 (by decide) _ _ _ rfl (HOW.out.alloc _) ⟨W.heap.size,0,none⟩ 1 1 (rZy P.1) rfl rfl (new4 _ _ _) (uZv _) (by simp only [maxLen];omega) (by omega) (by simp;omega) ?_)
     intro v5 w5 how5 hgr5 _;obtain ⟨hst,hbl⟩:=uZo hgr5 hob;have hs5:=hgr5.size;simp only [World.size_alloc] at hs5;have HL5:=hD ((hst _ hW0 (by omega)).trans HL.out);have HR5:=hD ((hst _ (by omega) (by omega)).trans HR.out);have hy5:=(hst _ hWy (by omega)).trans HY1.out;have HB5:=hD (hbl _ _ HBB.out (by omega) (by omega));clear HL HR HBB HX1 HY1 hst hbl hgr5 hob x0 x1 x2 x3
     rw [tZk hst1] at how5;have HOW5:=hD how5;obtain ⟨y0,y1,y2,y3⟩:=kZo hy5;obtain ⟨l0,l1,l2,l3⟩:=kZo HL5.out;have g0:=jZl HL5.out 0;have g1:=jZl HL5.out 1;have g2:=jZl HL5.out 2;have g3:=jZl HL5.out 3;have E1:=hD (uZb HOW5.out (b:=w.heap.size) (by omega) 0 1 2 3 (.int .i64 P.2.x) (.int .i64 P.2.y) (.int .i64 P.2.u) (.int .i64 P.2.v))
     have E2:=hD (qZb HL5.out (.int .i64 P.2.x) (.int .i64 P.2.y) (.int .i64 P.2.u) (.int .i64 P.2.v));have E3:=hD ((qZ6 (b:=w.heap.size) (b':=w.heap.size+1) (by omega) 0 1 2 3 (.int .i64 P.2.x) (.int .i64 P.2.y) (.int .i64 P.2.u) (.int .i64 P.2.v)).trans HR5.out)
     have E4:=hD (pZ0 HB5.out (b:=w.heap.size) (by omega) 0 1 2 3 (.int .i64 P.2.x) (.int .i64 P.2.y) (.int .i64 P.2.u) (.int .i64 P.2.v));clear how5 hy5;go_wp2
     go_roundw
     case rel=>exact ⟨k+1,by omega,by go_num,E1.out,⟨P.2,E2.out,hok2.2,hst2⟩,E3.out,E4.out⟩
     case measure=>simp [intOf];omega
   ·go_wp2_with fail
    refine (uZu p _).mono ?_;rintro e w2 ⟨rfl,rfl⟩;rw [hdn]
    cases hex:p.ex
    ·rw [hex] at d5
     have hT2:p.need true=T:=by rw [<- hT];unfold pZt;simp [rZt,hex,hdn]
     go_wp2_with fail
     refine jZg 11 4 (fun i=>decide (i<13)&&i != 10) (by kernel_rfl) (by kernel_rfl) rfl ?_
     iterate 11 (refine jZ3 (fun K hK=>?_);apply Exists.intro;refine ⟨.inl ⟨rfl,fun w' hw'=>?_⟩,?_⟩;(focus ((obtain ⟨hc,hf⟩:=kZi hw'.out);(have hcS:=kZq hw'.out);go_simp <;> first | rfl|(go_at_call 181;exact scut_w z p.s T _ HZ.out b3 b4 (by omega))));(go_simp;refine hK _ ?_;clear hK K))
     refine jZ9 ?_
     refine tZe (i:=11) (j:=12) (Oi:=(.cells #[.int .i64 0,.int .i64 0,.int .i64 0,.int .i64 0] 32 (0,0))) (Oj:=(.cells #[.int .i64 0,.int .i64 0,.int .i64 0,.int .i64 0] 32 (0,0))) (by kernel_rfl) (by kernel_rfl) (by kernel_rfl) rfl rfl rfl rfl (by kernel_rfl) (by kernel_rfl) (by kernel_rfl) (by decide) (by intro d h1 h2;cases h1;cases h2) (fun a' w' K hK=>?_) (fun a' w' K hK=>?_) (fun bx by_ w2 hg2 hxy hxl hyl hx hy=>?_)
     ·go_simp;exact hK
     ·go_simp;exact hK
     refine jZ1 (by kernel_rfl) (fun w3 hg3=>?_);have hB3:Below w1.heap.size w1 w3:=(sZz (Below.drew (Below.refl _ _)) hg2).trans (hg3.out.mono hg2.out.size);replace hx:=(hg3.out.block _ (gE hx).1).trans hx;replace hy:=(hg3.out.block _ (gE hy).1).trans hy;have hxl2:w1.heap.size≤bx:=hxl;have hyl2:w1.heap.size≤by_:=hyl;clear hg3 hg2 hxl hyl;obtain ⟨x0,x1,x2,x3⟩:=kZo hx
     obtain ⟨y0,y1,y2,y3⟩:=kZo hy;have g0:=jZl hx 0;have g1:=jZl hx 1;have g2:=jZl hx 2;have g3:=jZl hx 3;have k0:=jZl hy 0;have k1:=jZl hy 1;have k2:=jZl hy 2;have k3:=jZl hy 3;have hyx:by_≠bx:=Ne.symm hxy
     obtain ⟨P,hP⟩:∃ P,cutP z p.s T=P:=⟨_,rfl⟩
     obtain ⟨hst1,hst2⟩:=sZd HG.out HP.out;have hok2:=sZi (s:=p.s) (n:=pZt p (L.drop (k+1)) z) HZ.out tk1;rw [hT,hP] at hst1 hst2 hok2;rw [hP];refine jZn (i:=13) (by kernel_rfl) rfl rfl ?_;go_simp;refine jZn (i:=14) (by kernel_rfl) rfl rfl ?_;go_simp;refine jZq (by kernel_rfl) ?_
     have F1:=(qZ6 (b:=by_) (b':=bx) hxy 0 1 2 3 (.int .i64 P.2.x) (.int .i64 P.2.y) (.int .i64 P.2.u) (.int .i64 P.2.v)).trans (qZb hx (.int .i64 P.1.x) (.int .i64 P.1.y) (.int .i64 P.1.u) (.int .i64 P.1.v))
     have F2:=qZb ((qZ6 (b:=bx) (b':=by_) hyx 0 1 2 3 (.int .i64 P.1.x) (.int .i64 P.1.y) (.int .i64 P.1.u) (.int .i64 P.1.v)).trans hy) (.int .i64 P.2.x) (.int .i64 P.2.y) (.int .i64 P.2.u) (.int .i64 P.2.v)
     have F3:=pZ0 (pZ0 hB3 hxl2 0 1 2 3 (.int .i64 P.1.x) (.int .i64 P.1.y) (.int .i64 P.1.u) (.int .i64 P.1.v)) hyl2 0 1 2 3 (.int .i64 P.2.x) (.int .i64 P.2.y) (.int .i64 P.2.u) (.int .i64 P.2.v)
     refine kZ0.gen (fun W=>W.heap[bx]?=some (.cells #[.int .i64 P.1.x,.int .i64 P.1.y,.int .i64 P.1.u,.int .i64 P.1.v] 32 (0,0))∧W.heap[by_]?=some (.cells #[.int .i64 P.2.x,.int .i64 P.2.y,.int .i64 P.2.u,.int .i64 P.2.v] 32 (0,0))∧Below w1.heap.size w1 W) ⟨F1,F2,F3⟩ ?_;clear F1 F2 F3 hB3 hx hy x0 x1 x2 x3 y0 y1 y2 y3 g0 g1 g2 g3 k0 k1 k2 k3;rintro W ⟨hx,hy,hBW⟩;obtain ⟨x0,x1,x2,x3⟩:=kZo hx
     have hwr1:w.heap.size+1<w1.heap.size:=(gE HR.out).1;have hsW:=hBW.size;replace HOW:=hD (rZp HOW.out hBW);replace HL:=hD ((hBW.block _ hll1).trans HL.out);replace HR:=hD ((hBW.block _ hwr1).trans HR.out);replace HBB:=hD (HBB.out.trans (hBW.mono (by omega)))
     have hW0:w.heap.size<W.heap.size:=by omega
     have hWx:bx<W.heap.size:=(gE hx).1;have hWy:by_<W.heap.size:=(gE hy).1;have HX1:=hD hx;have HY1:=hD hy;have HPP:=hD hP;clear hx hy hBW hP d0 d1 d2 d3 d4 d5 d6 d7 d8 l0 l1 l2 l3
     go_wp2_with (at_builtin;refine wpList_append_own _ rfl _ _ 28 rfl (w.heap.size+1+1) 32 ti tz 4 32 Tryz.underlying28 ti1 ti2 ti3 ti4 ti5 (by decide) _ _ _ rfl (HOW.out.alloc _) ⟨W.heap.size,0,none⟩ 1 1 (rZy P.1) rfl rfl (new4 _ _ _) (uZv _) (by simp only [maxLen];omega) (by omega) (by simp;omega) ?_)
     intro v5 w5 how5 hgr5 _;obtain ⟨hst,hbl⟩:=uZo hgr5 hob;have hs5:=hgr5.size;simp only [World.size_alloc] at hs5;have HL5:=hD ((hst _ hW0 (by omega)).trans HL.out);have HR5:=hD ((hst _ (by omega) (by omega)).trans HR.out);have hy5:=(hst _ hWy (by omega)).trans HY1.out;have HB5:=hD (hbl _ _ HBB.out (by omega) (by omega));clear HL HR HBB HX1 HY1 hst hbl hgr5 hob x0 x1 x2 x3
     rw [tZk hst1] at how5;have HOW5:=hD how5;obtain ⟨y0,y1,y2,y3⟩:=kZo hy5;obtain ⟨l0,l1,l2,l3⟩:=kZo HL5.out;have g0:=jZl HL5.out 0;have g1:=jZl HL5.out 1;have g2:=jZl HL5.out 2;have g3:=jZl HL5.out 3;have E1:=hD (uZb HOW5.out (b:=w.heap.size) (by omega) 0 1 2 3 (.int .i64 P.2.x) (.int .i64 P.2.y) (.int .i64 P.2.u) (.int .i64 P.2.v))
     have E2:=hD (qZb HL5.out (.int .i64 P.2.x) (.int .i64 P.2.y) (.int .i64 P.2.u) (.int .i64 P.2.v));have E3:=hD ((qZ6 (b:=w.heap.size) (b':=w.heap.size+1) (by omega) 0 1 2 3 (.int .i64 P.2.x) (.int .i64 P.2.y) (.int .i64 P.2.u) (.int .i64 P.2.v)).trans HR5.out)
     have E4:=hD (pZ0 HB5.out (b:=w.heap.size) (by omega) 0 1 2 3 (.int .i64 P.2.x) (.int .i64 P.2.y) (.int .i64 P.2.u) (.int .i64 P.2.v));clear how5 hy5;go_wp2
     go_roundw
     case rel=>exact ⟨k+1,by omega,by go_num,E1.out,⟨P.2,E2.out,hok2.2,hst2⟩,E3.out,E4.out⟩
     case measure=>simp [intOf];omega
    ·rw [hex] at d5
     have hT2:IntKind.i64.wrap (p.need true+kZ1 (L.drop k) true z.v z.v 0)=T:=by
      have e:p.need true+kZ1 (L.drop k) true z.v z.v 0=T:=by rw [HD.out,<- hT];unfold pZt;simp [rZt,hex,hdn,Rc.size]
      rw [IntWalk.i64_in _ (by rw [e,<- hT];omega)];exact e
     have hzb:0≤z.v∧z.v≤20000000000000:=by have:=Rc.size_bdW HZ.out true;simpa [Rc.size] using this
     go_wp2_with fail
     refine (share_nW (some ⟨b,off+k*9,none⟩) (c-k) (L.length-k) (L.drop k) z.v true w1 HDL.out ((PV.drop HPS.out hb).keep HB1.out) (eZ3 HVL.out k) p (L.drop (k+1)) HD.out hdn hex hzb.1 hzb.2).mono ?_;rintro e w1 ⟨rfl,hb2⟩;replace HOW:=hD (rZp HOW.out hb2);have hsr:=HB1.out.size;have hs2:=hb2.size;have hc9:=HC9.out.keep (hb2.block b (by omega))
     replace HL:=hD ((hb2.block _ hll1).trans HL.out);replace HR:=hbk hb2 HR;replace HBB:=hD (HBB.out.trans (hb2.mono HBB.out.size));replace hob:=HOW.out.lt
     replace hll1:w.heap.size<w1.heap.size:=by omega
     clear d0 d1 d2 d3 d4 d5 d6 d7 d8 l0 l1 l2 l3 hne1 HC9 HB1 hb2;replace hne1:=Nat.ne_of_lt hll1;obtain ⟨d0,d1,d2,d3,d4,d5,d6,d7,d8⟩:=hc9;obtain ⟨l0,l1,l2,l3⟩:=kZo HL.out;rw [hex] at d5
     go_wp2_with fail
     refine jZg 11 4 (fun i=>decide (i<13)&&i != 10) (by kernel_rfl) (by kernel_rfl) rfl ?_
     iterate 11 (refine jZ3 (fun K hK=>?_);apply Exists.intro;refine ⟨.inl ⟨rfl,fun w' hw'=>?_⟩,?_⟩;(focus ((obtain ⟨hc,hf⟩:=kZi hw'.out);(have hcS:=kZq hw'.out);go_simp <;> first | rfl|(go_at_call 181;exact scut_w z p.s T _ HZ.out b3 b4 (by omega))));(go_simp;refine hK _ ?_;clear hK K))
     refine jZ9 ?_
     refine tZe (i:=11) (j:=12) (Oi:=(.cells #[.int .i64 0,.int .i64 0,.int .i64 0,.int .i64 0] 32 (0,0))) (Oj:=(.cells #[.int .i64 0,.int .i64 0,.int .i64 0,.int .i64 0] 32 (0,0))) (by kernel_rfl) (by kernel_rfl) (by kernel_rfl) rfl rfl rfl rfl (by kernel_rfl) (by kernel_rfl) (by kernel_rfl) (by decide) (by intro d h1 h2;cases h1;cases h2) (fun a' w' K hK=>?_) (fun a' w' K hK=>?_) (fun bx by_ w2 hg2 hxy hxl hyl hx hy=>?_)
     ·go_simp;exact hK
     ·go_simp;exact hK
     refine jZ1 (by kernel_rfl) (fun w3 hg3=>?_);have hB3:Below w1.heap.size w1 w3:=(sZz (Below.drew (Below.refl _ _)) hg2).trans (hg3.out.mono hg2.out.size);replace hx:=(hg3.out.block _ (gE hx).1).trans hx;replace hy:=(hg3.out.block _ (gE hy).1).trans hy;have hxl2:w1.heap.size≤bx:=hxl;have hyl2:w1.heap.size≤by_:=hyl;clear hg3 hg2 hxl hyl;obtain ⟨x0,x1,x2,x3⟩:=kZo hx
     obtain ⟨y0,y1,y2,y3⟩:=kZo hy;have g0:=jZl hx 0;have g1:=jZl hx 1;have g2:=jZl hx 2;have g3:=jZl hx 3;have k0:=jZl hy 0;have k1:=jZl hy 1;have k2:=jZl hy 2;have k3:=jZl hy 3;have hyx:by_≠bx:=Ne.symm hxy
     obtain ⟨P,hP⟩:∃ P,cutP z p.s T=P:=⟨_,rfl⟩
     obtain ⟨hst1,hst2⟩:=sZd HG.out HP.out;have hok2:=sZi (s:=p.s) (n:=pZt p (L.drop (k+1)) z) HZ.out tk1;rw [hT,hP] at hst1 hst2 hok2;rw [hP];refine jZn (i:=13) (by kernel_rfl) rfl rfl ?_;go_simp;refine jZn (i:=14) (by kernel_rfl) rfl rfl ?_;go_simp;refine jZq (by kernel_rfl) ?_
     have F1:=(qZ6 (b:=by_) (b':=bx) hxy 0 1 2 3 (.int .i64 P.2.x) (.int .i64 P.2.y) (.int .i64 P.2.u) (.int .i64 P.2.v)).trans (qZb hx (.int .i64 P.1.x) (.int .i64 P.1.y) (.int .i64 P.1.u) (.int .i64 P.1.v))
     have F2:=qZb ((qZ6 (b:=bx) (b':=by_) hyx 0 1 2 3 (.int .i64 P.1.x) (.int .i64 P.1.y) (.int .i64 P.1.u) (.int .i64 P.1.v)).trans hy) (.int .i64 P.2.x) (.int .i64 P.2.y) (.int .i64 P.2.u) (.int .i64 P.2.v)
     have F3:=pZ0 (pZ0 hB3 hxl2 0 1 2 3 (.int .i64 P.1.x) (.int .i64 P.1.y) (.int .i64 P.1.u) (.int .i64 P.1.v)) hyl2 0 1 2 3 (.int .i64 P.2.x) (.int .i64 P.2.y) (.int .i64 P.2.u) (.int .i64 P.2.v)
     refine kZ0.gen (fun W=>W.heap[bx]?=some (.cells #[.int .i64 P.1.x,.int .i64 P.1.y,.int .i64 P.1.u,.int .i64 P.1.v] 32 (0,0))∧W.heap[by_]?=some (.cells #[.int .i64 P.2.x,.int .i64 P.2.y,.int .i64 P.2.u,.int .i64 P.2.v] 32 (0,0))∧Below w1.heap.size w1 W) ⟨F1,F2,F3⟩ ?_;clear F1 F2 F3 hB3 hx hy x0 x1 x2 x3 y0 y1 y2 y3 g0 g1 g2 g3 k0 k1 k2 k3;rintro W ⟨hx,hy,hBW⟩;obtain ⟨x0,x1,x2,x3⟩:=kZo hx
     have hwr1:w.heap.size+1<w1.heap.size:=(gE HR.out).1;have hsW:=hBW.size;replace HOW:=hD (rZp HOW.out hBW);replace HL:=hD ((hBW.block _ hll1).trans HL.out);replace HR:=hD ((hBW.block _ hwr1).trans HR.out);replace HBB:=hD (HBB.out.trans (hBW.mono (by omega)))
     have hW0:w.heap.size<W.heap.size:=by omega
     have hWx:bx<W.heap.size:=(gE hx).1;have hWy:by_<W.heap.size:=(gE hy).1;have HX1:=hD hx;have HY1:=hD hy;have HPP:=hD hP;clear hx hy hBW hP d0 d1 d2 d3 d4 d5 d6 d7 d8 l0 l1 l2 l3
     go_wp2_with (at_builtin;refine wpList_append_own _ rfl _ _ 28 rfl (w.heap.size+1+1) 32 ti tz 4 32 Tryz.underlying28 ti1 ti2 ti3 ti4 ti5 (by decide) _ _ _ rfl (HOW.out.alloc _) ⟨W.heap.size,0,none⟩ 1 1 (rZy P.1) rfl rfl (new4 _ _ _) (uZv _) (by simp only [maxLen];omega) (by omega) (by simp;omega) ?_)
     intro v5 w5 how5 hgr5 _;obtain ⟨hst,hbl⟩:=uZo hgr5 hob;have hs5:=hgr5.size;simp only [World.size_alloc] at hs5;have HL5:=hD ((hst _ hW0 (by omega)).trans HL.out);have HR5:=hD ((hst _ (by omega) (by omega)).trans HR.out);have hy5:=(hst _ hWy (by omega)).trans HY1.out;have HB5:=hD (hbl _ _ HBB.out (by omega) (by omega));clear HL HR HBB HX1 HY1 hst hbl hgr5 hob x0 x1 x2 x3
     rw [tZk hst1] at how5;have HOW5:=hD how5;obtain ⟨y0,y1,y2,y3⟩:=kZo hy5;obtain ⟨l0,l1,l2,l3⟩:=kZo HL5.out;have g0:=jZl HL5.out 0;have g1:=jZl HL5.out 1;have g2:=jZl HL5.out 2;have g3:=jZl HL5.out 3;have E1:=hD (uZb HOW5.out (b:=w.heap.size) (by omega) 0 1 2 3 (.int .i64 P.2.x) (.int .i64 P.2.y) (.int .i64 P.2.u) (.int .i64 P.2.v))
     have E2:=hD (qZb HL5.out (.int .i64 P.2.x) (.int .i64 P.2.y) (.int .i64 P.2.u) (.int .i64 P.2.v));have E3:=hD ((qZ6 (b:=w.heap.size) (b':=w.heap.size+1) (by omega) 0 1 2 3 (.int .i64 P.2.x) (.int .i64 P.2.y) (.int .i64 P.2.u) (.int .i64 P.2.v)).trans HR5.out)
     have E4:=hD (pZ0 HB5.out (b:=w.heap.size) (by omega) 0 1 2 3 (.int .i64 P.2.x) (.int .i64 P.2.y) (.int .i64 P.2.u) (.int .i64 P.2.v));clear how5 hy5;go_wp2
     go_roundw
     case rel=>exact ⟨k+1,by omega,by go_num,E1.out,⟨P.2,E2.out,hok2.2,hst2⟩,E3.out,E4.out⟩
     case measure=>simp [intOf];omega
  ·have hd:decide ((k:Int)<(L.length:Int))=false:=by simp;omega
   obtain rfl:k=L.length:=by omega
   rw [List.drop_length] at hp
   have hpz:z=Z:=by simp only [qZh,Prod.mk.injEq] at hp;exact hp.2
   subst hpz;rw [<- HML.out,List.take_length] at how;have HOW:=hD how;have HL:=hD hl;have HR:=hD hr;have HBB:=hD hB;obtain ⟨l0,l1,l2,l3⟩:=kZo hl;clear how hl hp hr hB;obtain ⟨r0,r1,r2,r3⟩:=kZo HR.out;have g0:=jZl HR.out 0;have g1:=jZl HR.out 1;have g2:=jZl HR.out 2;have g3:=jZl HR.out 3
   go_wp2_with fail
   go_region
   go_wp2
   refine rZ2 (fun W=>W.heap[w.heap.size+1]?=some (.cells #[.int .i64 z.x,.int .i64 z.y,.int .i64 z.u,.int .i64 z.v] 32 (0,0))∧W.ownsRow w.heap.size 32 4 _ M.length (tZr M)∧Below w.heap.size w W)
    ⟨qZb HR.out _ _ _ _,own_mono (uZb HOW.out (b:=w.heap.size+1) (by omega) _ _ _ _ _ _ _ _) (by omega),Below.drew (pZ0 HBB.out (by omega) _ _ _ _ _ _ _ _)⟩ ?_
   clear HR HL HBB HOW l0 l1 l2 l3 r0 r1 r2 r3 g0 g1 g2 g3;rintro W ⟨hW,hk2,hB2⟩;obtain ⟨r0,r1,r2,r3⟩:=kZo hW;exact bodyPost_ret (v:=.tuple #[_,.agg #[.int .i64 (z.x),.int .i64 (z.y),.int .i64 (z.u),.int .i64 (z.v)]]) (by simp only [results,Tryz.results169];go_simp) rfl ⟨⟨_,rfl,hk2⟩,hB2⟩
end
theorem packed_w (A:Option Addr) (c:Nat) (L:List Pk) (z0:Rc) (w:World) (h:PV w A L) (hcap:L.length≤c) (hL:bgL L) (hz0:z0.okW) (M:List Rc) (Z:Rc) (hM:qZh L z0=(M,Z)) :
  Calls Tryz.prog 140 #[.slice A L.length c,.agg #[.int .i64 (z0.x),.int .i64 (z0.y),.int .i64 (z0.u),.int .i64 (z0.v)]] w fun e w'=>(∃ v,e=.returned v∧RV w' v (setL L M)∧∀ k,v.ownBlock=some k→w.heap.size≤k)∧Below w.heap.size w w':=by
 obtain ⟨hok,h7⟩:=id hL
 have hML:M.length=L.length:=by have:=sZe (L:=L) (z:=z0);rw [hM] at this;exact this
 have hMok:∀ r∈M,r.okW:=by have:=bZs (L:=L) (z:=z0) hok hz0;rw [hM] at this;exact this
 have HOK:=hD hok;have HML:=hD hML;have HMK:=hD hMok;have HM:=hD hM;clear hok hML hM hMok
 go_enter Tryz.func140,Tryz.ntmps140
 go_wp2_with fail
 refine (parcels_w A c L z0 _ (h.keep (jZd (Below.refl _ _))) hcap hL hz0 M Z HM.out).mono ?_;rintro e w1 ⟨⟨v,rfl,ho⟩,hb⟩;have HB0:=hD (jZa (jZd (Below.refl _ _)) hb);clear hb
 rcases own_in4 ho rfl with ⟨rfl,hM0⟩ | ⟨g,cap,cs0,rfl,hg,hnc,hh0,hs0,hc0⟩
 ·have hL0:setL L M=[]:=by rw [hM0];simp [setL]
  have hlz:M.length=0:=by rw [hM0];rfl
  have HL0:=hD hL0;clear hM0 ho hL0
  go_wp2_with fail
  go_loopw [7] (fun i wr=>i=.int .i64 0∧Below w.heap.size w wr) (fun i _=>0)
  case atStart=>exact ⟨rfl,jZd HB0.out⟩
  case round =>
   obtain ⟨rfl,hB⟩:=hrel;have HBB:=hD hB;clear hB;go_wp2;go_ret;exact ⟨⟨_,rfl,by rw [HL0.out];exact RV.nil _,fun k hk=>by cases hk⟩,HBB.out⟩
 ·replace hg:w.heap.size≤g:=by simp only [World.size_alloc] at hg;omega
  have HK0:=hD (And.intro hh0 (And.intro hs0 hc0));have hML:M.length=L.length:=HML.out;clear hh0 hs0 hc0 ho;rw [hML] at hnc;rw [hML]
  go_wp2_with fail
  go_loopw [7] (fun i wr=>∃ k:Nat,k≤L.length∧i=.int .i64 k∧(∃ cs:Array Value,wr.heap[g]?=some (.cells cs 32 (0,0))∧cs.size=cap*4∧(∀ i r,i<k→(setL L M)[i]?=some r→In4 cs (i*4) r)∧(∀ i r,k≤i→M[i]?=some r→In4 cs (i*4) r))∧Below w.heap.size w wr) (fun i _=>L.length-(intOf i).toNat)
  case atStart =>
   obtain ⟨hh,hs,hc⟩:=HK0.out;have hgw:g<w1.heap.size:=(gE hh).1;exact ⟨0,by omega,rfl,⟨cs0,(Below.heap_alloc _ _ _ hgw).trans hh,hs,fun i r hi=>absurd hi (by omega),fun i r _ hr=>hc i r hr⟩,jZd HB0.out⟩
  case round =>
   obtain ⟨k,hk,rfl,⟨cs,hh,hs,hc,hc'⟩,hB⟩:=hrel;clear HK0 HB0 HM
   by_cases hlt:k<L.length
   ·have hd:decide ((k:Int)<(L.length:Int))=true:=by simpa using hlt
    obtain ⟨b,off,rfl,hb,hps⟩:=(h.keep hB).cells (by omega);have hget:L[k]?=some L[k]:=List.getElem?_eq_getElem hlt;obtain ⟨c0,c1,c2,c3,c4,c5,c6,c7,c8⟩:=hps k _ hget;generalize hx:L[k]=p at *
    have hkM:k<M.length:=by rw [HML.out];exact hlt
    have hgetM:M[k]?=some M[k]:=List.getElem?_eq_getElem hkM;obtain ⟨r0,r1,r2,r3⟩:=(hc' k _ (by omega) hgetM).cells hh;generalize hy:M[k]=r at *;have HR:=hD (HMK.out r (List.mem_of_getElem? hgetM));have HP:=hD (HOK.out p (List.mem_of_getElem? hget));have HG:=hD (hZy hget hgetM);have HH:=hD hh;have HS:=hD hs;have HC:=hD hc;have HC':=hD hc';have HBB:=hD hB;have hgl:g<wr.heap.size:=(gE hh).1
    have hgn:¬ g=wr.heap.size:=by omega
    clear hget hx hgetM hy hh hs hc hc' hB hps
    go_wp2_with fail
    refine jZg 12 1 (·<12) (by kernel_rfl) (by kernel_rfl) rfl ?_
    iterate 12 (refine jZ3 (fun K hK=>?_);apply Exists.intro;refine ⟨.inl ⟨rfl,fun w' hw'=>?_⟩,?_⟩;(focus ((obtain ⟨hc,hf⟩:=kZi hw'.out);(have hcS:=kZq hw'.out);go_simp <;> first | rfl|(go_at_call 170;exact psettled_w p r _ HP.out HR.out)));(go_simp;refine hK _ ?_;clear hK K))
    refine jZ9 ?_;refine jZ1 (by kernel_rfl) (fun w2 hg2=>?_);have hB2:Below wr.heap.size wr w2:=sZz (Below.drew (Below.refl _ _)) hg2;replace HH:=hD ((hB2.block _ hgl).trans HH.out);replace HBB:=hD (HBB.out.trans (hB2.mono HBB.out.size));clear hg2 hB2 c0 c1 c2 c3 c4 c5 c6 c7 c8 r0 r1 r2 r3 hgl hgn
    have hsz:k*4+4≤cs.size:=by rw [HS.out];omega
    obtain ⟨y0,d0⟩:=vZ1 HH.out (i:=k*4) (by omega);obtain ⟨y1,d1⟩:=vZ1 HH.out (i:=k*4+1) (by omega);obtain ⟨y2,d2⟩:=vZ1 HH.out (i:=k*4+2) (by omega);obtain ⟨y3,d3⟩:=vZ1 HH.out (i:=k*4+3) (by omega);have f0:=jZl HH.out (k*4);have f1:=jZl HH.out (k*4+1);have f2:=jZl HH.out (k*4+2);have f3:=jZl HH.out (k*4+3)
    obtain ⟨S,hS⟩:∃ S,setP p r=S:=⟨_,rfl⟩
    rw [hS];replace HG:Hid ((setL L M)[k]?=some S):=hD (by rw [<- hS];exact HG.out);have E1:=hD (pput4 HH.out (k*4) S);have E2:=hD (pZ0 HBB.out hg (k*4) (k*4+1) (k*4+2) (k*4+3) (.int .i64 S.x) (.int .i64 S.y) (.int .i64 S.u) (.int .i64 S.v));clear hS HH HBB;refine jZn (i:=12) (by kernel_rfl) rfl rfl ?_;go_simp;refine jZq (by kernel_rfl) ?_;refine qZp ?_;go_wp2
    go_roundw
    case rel=>exact ⟨k+1,by omega,by go_num,⟨_,E1.out,(rZ1 _ _ _).trans HS.out,fun i q hi hq=>by
     by_cases e:i=k
     ·subst e
      obtain rfl:S=q:=by have:=HG.out;rw [this] at hq;exact Option.some.inj hq
      exact In4.write S hsz
     ·exact (HC.out i q (by omega) hq).keep (.inl (by omega)),fun i q hi hq=>(HC'.out i q (by omega) hq).keep (.inr (by omega))⟩,E2.out⟩
    case measure=>simp [intOf];omega
   ·have hd:decide ((k:Int)<(L.length:Int))=false:=by simp;omega
    obtain rfl:k=L.length:=by omega
    have HK:=hD (show RV wr (.slice (some ⟨g,0,none⟩) L.length cap) (setL L M) from ⟨_,cap,by rw [uZy HML.out],fun _=>⟨g,rfl,(gE hh).1,fun i r hr=>(hc i r (by have:=(List.getElem?_eq_some_iff.1 hr).1;rwa [uZy HML.out] at this) hr).cells hh⟩⟩);have HBB:=hD hB;clear hh hs hc hc' hB;go_wp2;go_ret;exact ⟨⟨_,rfl,HK.out,fun k hk=>by cases hk;exact hg⟩,HBB.out⟩
end Go.Proofs.YtfnpdlnepjhljaaGreat
