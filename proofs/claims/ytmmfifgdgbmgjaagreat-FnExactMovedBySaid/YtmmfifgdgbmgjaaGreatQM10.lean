import Derived.Test.YtmmfifgdgbmgjaaGreatQM09
set_option linter.unusedVariables false
set_option linter.unusedSimpArgs false
set_option maxRecDepth 100000
set_option maxHeartbeats 16000000
namespace Go.Proofs.YtmmfifgdgbmgjaaGreat
open Go.RowKit
attribute [local go_sem] growUpon_value growUpon_skip growUpon_enter
theorem reB_blk {w:World} {g:Nat} {M:List Rc} (h:Blk4 w g M):ReB w g (M.map rcRe):=by
 obtain ⟨cs,hh,hs,hc⟩:=h;refine ⟨cs,hh,by rw [hs,List.length_map],fun i p hp=>?_⟩;rw [List.getElem?_map] at hp;obtain ⟨r,hr,rfl⟩:=Option.map_eq_some_iff.1 hp;intro j u hj;have hj4:j<4:=(List.getElem?_eq_some_iff.1 hj).1;rw [hc i r hr j hj4];exact hj
theorem reB_rbk {w:World} {g:Nat} {M:List Re} (h:RbK 4 w g 38 (M.map valsRe)):ReB w g M:=by
 obtain ⟨cs,hh,hs,hc⟩:=h;rw [List.length_map] at hs;exact ⟨cs,hh,hs,fun i p hp=>hc i (valsRe p) (by rw [List.length_map];exact (List.getElem?_eq_some_iff.1 hp).1) (by rw [List.getElem?_map,hp];rfl)⟩
theorem pkRects_v (A:Option Addr) (c n:Nat) (L:List Pk) (u v:Int) (w:World) (h:PV w A L) (hn:n=L.length) (hcap:L.length≤c) (hL:bgL L) (hq:rqW u v=true) :
  Calls Tryz.prog 203 #[.slice A n c,.int .i64 u,.int .i64 v] w fun e w'=>(∃ g,e=.returned (.slice (some ⟨g,0,none⟩) n n)∧w.heap.size≤g∧ReB w' g ((setL L (parcM L ⟨0,0,u,v⟩).1).map rcRe))∧Below w.heap.size w w':=by
 subst hn;obtain ⟨q1,q2⟩:=rqW_iff.1 hq
 have hz:(⟨0,0,u,v⟩:Rc).okW:=by unfold Rc.okW;dsimp only;omega
 obtain ⟨M,Z,hM⟩:∃ M Z,parcM L ⟨0,0,u,v⟩=(M,Z):=⟨_,_,rfl⟩
 rw [show (parcM L ⟨0,0,u,v⟩).1=M from by rw [hM]];have HP:=hD (packRects_w A c L ⟨0,0,u,v⟩ w h hcap hL hz M Z hM);clear h hcap hL hq hz hM q1 q2
 go_enter Tryz.func203,Tryz.ntmps203
 go_wp2_with fail
 refine HP.out.mono ?_;rintro e w1 ⟨⟨g,rfl,hg,hk⟩,hb⟩;have HK:=hD (reB_blk hk);have HB:=hD hb;clear hk hb;go_wp2;go_ret;exact ⟨⟨g,rfl,hg,HK.out⟩,HB.out⟩
theorem grRects_v (A1:Option Addr) (c1:Nat) (L1:List Ln) (A2:Option Addr) (c2:Nat) (L2:List Ln) (A3:Option Addr) (c3 n3:Nat) (L3:List Ce) (u v:Int) (w:World) (h1:LnV w A1 L1) (h2:LnV w A2 L2) (h3:CeV w A3 L3) (hn:n3=L3.length) (gf:GW L1 L2 L3) (hq:rqW u v=true) :
  Calls Tryz.prog 173 #[.agg #[.slice A1 L1.length c1,.slice A2 L2.length c2,.slice A3 n3 c3],.int .i64 u,.int .i64 v] w fun e w'=>(∃ g,e=.returned (.slice (some ⟨g,0,none⟩) n3 n3)∧w.heap.size≤g∧ReB w' g (L3.map (cellR (sizedM L1 (L3.map acM) u) (sizedM L2 (L3.map dnM) v))))∧Below w.heap.size w w':=by
 subst hn;have hB0:Below w.heap.size w (w.alloc (.cells #[.slice A1 L1.length c1,.slice A2 L2.length c2,.slice A3 L3.length c3] 142 (0,0))):=balloc (Below.refl _ _);have HG:=hD (gridRects_w A1 c1 L1 A2 c2 L2 A3 c3 L3 u v _ (h1.keep hB0) (h2.keep hB0) (h3.keep hB0) gf hq);have HX:=hD (newS w (.cells #[.slice A1 L1.length c1,.slice A2 L2.length c2,.slice A3 L3.length c3] 142 (0,0)))
 have d0:=cellS HX.out 0;have d1:=cellS HX.out 1;have d2:=cellS HX.out 2;clear hB0 h1 h2 h3 gf hq
 go_enter Tryz.func173,Tryz.ntmps173
 go_wp2_with fail
 refine HG.out.mono ?_;rintro e w1 ⟨⟨g,rfl,hg,hr⟩,hb⟩;have HB:=hD (bkeep2 (balloc (Below.refl w.heap.size w)) hb);have HR:=hD hr
 have hg2:w.heap.size≤g:=by simp only [World.size_alloc] at hg;omega
 clear hr hb d0 d1 d2 HX HG;go_wp2;go_ret;exact ⟨⟨g,rfl,hg2,HR.out⟩,HB.out⟩
theorem plr1_v (p:Plc) (u v:Int) (b1 b2:Nat) (w:World) (hp:plB p=true) (hq:rqW u v=true) (h1:w.cell? ⟨b1,0,none⟩=some (.int .i64 u)) (h2:w.cell? ⟨b2,0,none⟩=some (.int .i64 v)) (l1:b1<w.heap.size) (l2:b2<w.heap.size) :
  Calls Tryz.prog 198 #[.agg #[.int .i64 p.x,.int .i64 p.y,.int .i64 p.rx,.int .i64 p.ry,.int .i64 p.ww,.int .i64 p.hh,.int .i64 p.qw,.int .i64 p.qh,.int .i64 p.an],.pointer (some ⟨b1,0,none⟩),.pointer (some ⟨b2,0,none⟩)] w fun e w'=>e=.returned (.agg #[.int .i64 (xM p u),.int .i64 (yM p v),.int .i64 (wM p u),.int .i64 (hM p v)])∧Below w.heap.size w w':=by
 have HPR:=hD (fun W=>placeRect_w p u v W hp hq);have HC:=hD (And.intro h1 h2);clear hp hq h1 h2
 go_enter Tryz.func198,Tryz.ntmps198
 go_upto_region 1 with (fail)
 refine wp_genGG (fun W=>W.heap[w.heap.size]?=some (.cells #[.int .i64 p.x,.int .i64 p.y,.int .i64 p.rx,.int .i64 p.ry,.int .i64 p.ww,.int .i64 p.hh,.int .i64 p.qw,.int .i64 p.qh,.int .i64 p.an] 88 (0,0))∧W.heap[w.heap.size+1]?=some (.cells #[.int .i64 0,.int .i64 0,.int .i64 0,.int .i64 0] 38 (0,0))∧Below w.heap.size w W) ⟨(Below.heap_alloc _ _ w.heap.size (by simp)).trans (newS w _),newS1T w _ _,balloc (balloc (Below.refl _ _))⟩ (fun W0 h0=>?_)
 obtain ⟨hx,hz,hB⟩:=h0;obtain ⟨c0,c1,c2,c3,c4,c5,c6,c7,c8⟩:=c9_q hx;have d1:=(hB.cell (p:=⟨b1,0,none⟩) l1).trans HC.out.1;have d2:=(hB.cell (p:=⟨b2,0,none⟩) l2).trans HC.out.2;have lx:=ltS hx;have HZ:=hD hz;have HB:=hD hB;have k1:b1<W0.heap.size:=Nat.lt_of_lt_of_le l1 hB.size;have k2:b2<W0.heap.size:=Nat.lt_of_lt_of_le l2 hB.size;clear hx hz hB
 go_wp2_with fail
 refine (HPR.out _).mono ?_;rintro e w1 ⟨rfl,hb1⟩;clear c0 c1 c2 c3 c4 c5 c6 c7 c8 d1 d2 lx k1 k2;replace HZ:=hbk hb1 HZ;replace HB:=hD (bkeep2 HB.out hb1);clear hb1;have z0:=cellS HZ.out 0;have z1:=cellS HZ.out 1;have z2:=cellS HZ.out 2;have z3:=cellS HZ.out 3;have f0:=frozenS HZ.out 0;have f1:=frozenS HZ.out 1;have f2:=frozenS HZ.out 2;have f3:=frozenS HZ.out 3;have lz:=ltS HZ.out
 obtain ⟨x0,e0⟩:∃ z,xM p u=z:=⟨_,rfl⟩
 obtain ⟨y0,e1⟩:∃ z,yM p v=z:=⟨_,rfl⟩
 obtain ⟨u0,e2⟩:∃ z,wM p u=z:=⟨_,rfl⟩
 obtain ⟨v0,e3⟩:∃ z,hM p v=z:=⟨_,rfl⟩
 rw [e0,e1,e2,e3];have HE:=hD (And.intro e0 (And.intro e1 (And.intro e2 e3)));clear e0 e1 e2 e3;go_wp2;refine bp_genG (fun W=>W.heap[w.heap.size+1]?=some (.cells #[.int .i64 x0,.int .i64 y0,.int .i64 u0,.int .i64 v0] 38 (0,0))∧Below w.heap.size w W) ⟨put4g HZ.out _ _ _ _,put4gb HB.out (by omega) _ _ _ _⟩ ?_;clear z0 z1 z2 z3 f0 f1 f2 f3 lz;rintro W ⟨hp,hbW⟩;have z0:=cellS hp 0;have z1:=cellS hp 1
 have z2:=cellS hp 2;have z3:=cellS hp 3;exact bodyPost_ret (v:=.agg #[.int .i64 x0,.int .i64 y0,.int .i64 u0,.int .i64 v0]) (by simp only [results,Tryz.results198];go_simp) rfl ⟨by rw [HE.out.1,HE.out.2.1,HE.out.2.2.1,HE.out.2.2.2],hbW⟩
def iV (v:Value):Int:=intOf v
def plOf (vs:List Value):Plc:=⟨iV (gd vs 0),iV (gd vs 1),iV (gd vs 2),iV (gd vs 3),iV (gd vs 4),iV (gd vs 5),iV (gd vs 6),iV (gd vs 7),iV (gd vs 8)⟩
theorem valsRe_one2 (r:Re):one (valsRe r):=by
 intro v hv;simp only [valsRe,List.mem_cons,List.not_mem_nil,or_false] at hv
 rcases hv with rfl | rfl | rfl | rfl <;> rfl
theorem each_prL (A:Option Addr) (c n:Nat) (L:List Plc) (u v:Int) (b1 b2:Nat) (w:World) (h:RvK 9 w A (L.map valsPl)) (hn:n=L.length) (hl:n≤1048576) (hp:∀ p∈L,plB p=true) (hq:rqW u v=true) (h1:w.cell? ⟨b1,0,none⟩=some (.int .i64 u)) (h2:w.cell? ⟨b2,0,none⟩=some (.int .i64 v)) (l1:b1<w.heap.size) (l2:b2<w.heap.size) :
  Calls Tryz.prog 197 #[.slice A n c,.func (.func 198) #[] #[.pointer (some ⟨b1,0,none⟩),.pointer (some ⟨b2,0,none⟩)]] w fun e w'=>e=.returned (.slice (some ⟨w.heap.size,0,none⟩) n n)∧ReB w' w.heap.size (L.map (plR u v))∧Below w.heap.size w w':=by
 have e:(L.map valsPl).length=n:=by simp [hn]
 rw [<- e]
 refine (each_pr A c (L.map valsPl) (fun vs=>valsRe (plR u v (plOf vs))) #[.pointer (some ⟨b1,0,none⟩),.pointer (some ⟨b2,0,none⟩)] w h (fun vs hv=>by obtain ⟨p,_,rfl⟩:=List.mem_map.1 hv;exact ⟨rfl,valsPl_one p⟩) (by rw [e];exact hl) (fun vs hv=>⟨rfl,valsRe_one2 _⟩) (fun vs hv W hW=>by
  obtain ⟨p,hm,rfl⟩:=List.mem_map.1 hv
  exact plr1_v p u v b1 b2 W (hp p hm) hq ((hW.cell (p:=⟨b1,0,none⟩) l1).trans h1) ((hW.cell (p:=⟨b2,0,none⟩) l2).trans h2) (Nat.lt_of_lt_of_le l1 hW.size) (Nat.lt_of_lt_of_le l2 hW.size))).mono ?_
 rintro e w1 ⟨rfl,hr,hb⟩;rw [List.map_map] at hr;refine ⟨rfl,reB_rbk ?_,hb⟩;rw [List.map_map];exact hr
theorem plRects_v (A:Option Addr) (c n:Nat) (L:List Plc) (u v:Int) (w:World) (h:RvK 9 w A (L.map valsPl)) (hn:n=L.length) (hl:n≤1048576) (hp:∀ p∈L,plB p=true) (hq:rqW u v=true) :
  Calls Tryz.prog 195 #[.slice A n c,.int .i64 u,.int .i64 v] w fun e w'=>(∃ g,e=.returned (.slice (some ⟨g,0,none⟩) n n)∧w.heap.size≤g∧ReB w' g (L.map (plR u v)))∧Below w.heap.size w w':=by
 have HE:=hD (fun (W:World) b1 b2 (hW:Below w.heap.size w W)=>each_prL A c n L u v b1 b2 W (h.keep hW) hn hl hp hq);clear h hn hp hq
 go_enter Tryz.func195,Tryz.ntmps195
 go_upto_region 1 with (fail)
 refine wp_genGG (fun W=>W.heap[w.heap.size]?=some (.cells #[.int .i64 u] 3 (0,0))∧W.heap[w.heap.size+1]?=some (.cells #[.int .i64 v] 3 (0,0))∧Below w.heap.size w W) ⟨(Below.heap_alloc _ _ w.heap.size (by simp)).trans (newS w _),newS1T w _ _,balloc (balloc (Below.refl _ _))⟩ (fun W0 h0=>?_);obtain ⟨hx,hz,hB⟩:=h0;have HC:=hD (HE.out W0 _ _ hB (cellS hx 0) (cellS hz 0) (ltS hx) (ltS hz))
 have HB:=hD hB;clear hx hz hB HE
 go_wp2_with fail
 refine HC.out.mono ?_;rintro e w1 ⟨rfl,hr,hb⟩;have hs:=HB.out.size;have HR:=hD hr;clear hr HC;replace HB:=hD (bkeep2 HB.out hb);clear hb;go_wp2;go_ret;exact ⟨⟨_,rfl,hs,HR.out⟩,HB.out⟩
theorem ncr_pk (v:Value) (w:World):(nilAhead (Tryz.prog.types.size+Made.depth) 148 v "loop.example/widgetroom/impl.rects").run Tryz.prog w=.ok (some false) w:=by kernel_rfl
theorem ncr_gr (v:Value) (w:World):(nilAhead (Tryz.prog.types.size+Made.depth) 142 v "loop.example/widgetroom/impl.rects").run Tryz.prog w=.ok (some false) w:=by kernel_rfl
theorem ncr_pl (v:Value) (w:World):(nilAhead (Tryz.prog.types.size+Made.depth) 144 v "loop.example/widgetroom/impl.rects").run Tryz.prog w=.ok (some false) w:=by kernel_rfl
theorem cmr_pk (v a b:Value) (w:World):(callMethod (.iface 148 v) "loop.example/widgetroom/impl.rects" #[a,b]).run Tryz.prog w=.ok (.enter 203 #[v,a,b]) w:=by kernel_rfl
theorem cmr_gr (v a b:Value) (w:World):(callMethod (.iface 142 v) "loop.example/widgetroom/impl.rects" #[a,b]).run Tryz.prog w=.ok (.enter 173 #[v,a,b]) w:=by kernel_rfl
theorem cmr_pl (v a b:Value) (w:World):(callMethod (.iface 144 v) "loop.example/widgetroom/impl.rects" #[a,b]).run Tryz.prog w=.ok (.enter 195 #[v,a,b]) w:=by kernel_rfl
theorem run_inv2 {P:Program} {ρ:Operand→Value} {o:Oper} {w:World} {T:TypeId} {v u1 u2:Value} {x y z:Operand} {name:String} {ts:Array TypeId} {F:FuncId} (ho:o.op=.call { callee:=.invoke x name,args:=#[y,z],argTypes:=ts }) (hx:ρ x=.iface T v) (hy:ρ y=u1) (hz:ρ z=u2) (hc:(callMethod (.iface T v) name #[u1,u2]).run P w=.ok (.enter F #[v,u1,u2]) w):(execOp ρ o).run P w=.ok (.enter F #[v,u1,u2]) w:=by
 unfold execOp;simp only [ho,resolve,List.map_toArray,List.map_cons,List.map_nil,hx,hy,hz,Sem.run_bind,Sem.run_pure,Result.andThen_ok,invoke]
 simpa using hc
def arM (n:Nd) (Y:List Wd) (a b:Int):List Re :=
 if n.ki=1 then (Y.map ceW).map (cellR (sizedM n.cs ((Y.map ceW).map acM) a) (sizedM n.rs ((Y.map ceW).map dnM) b))
 else if n.ki=2 then (Y.map fun y=>y.p.n.pl).map (plR a b)
 else (setL (Y.map pkW) (parcM (Y.map pkW) ⟨0,0,a,b⟩).1).map rcRe
theorem arRects {v:Value} {x:Wd} {p:Nr} {Y:List Wd} {w:World} {a b:Int} (h:ArV w v x Y) (hx:x.p=p) (hr:RdN w p) (hl:Y.length≤10) (hq:rqW a b=true)
  (c0:p.n.ki≠1→p.n.ki≠2→bgL (Y.map pkW)) (c1:p.n.ki=1→GW p.n.cs p.n.rs (Y.map ceW)) (c2:∀ y∈Y,plB y.p.n.pl=true) :
  ∃ T u F,v=.iface T u∧(nilAhead (Tryz.prog.types.size+Made.depth) T u "loop.example/widgetroom/impl.rects").run Tryz.prog w=.ok (some false) w ∧
   (∀ y z w,(callMethod (.iface T u) "loop.example/widgetroom/impl.rects" #[y,z]).run Tryz.prog w=.ok (.enter F #[u,y,z]) w) ∧
   Calls Tryz.prog F #[u,.int .i64 a,.int .i64 b] w fun e w'=>(∃ g,e=.returned (.slice (some ⟨g,0,none⟩) Y.length Y.length)∧w.heap.size≤g∧ReB w' g (arM p.n Y a b))∧Below w.heap.size w w':=by
 subst hx;obtain ⟨g,hg,⟨k1,rfl,hv⟩ | ⟨k1,rfl,hv⟩ | ⟨k1,k2,rfl,hv⟩⟩:=h
 ·refine ⟨_,_,_,rfl,ncr_gr _ _,fun _ _ _=>cmr_gr _ _ _ _,?_⟩;unfold arM;rw [if_pos k1];exact grRects_v _ _ _ _ _ _ _ _ _ (Y.map ceW) a b w hr.c hr.r (cev_of (by rw [List.map_map];exact hv)) (by rw [List.length_map]) (c1 k1) hq
 ·refine ⟨_,_,_,rfl,ncr_pl _ _,fun _ _ _=>cmr_pl _ _ _ _,?_⟩;unfold arM;rw [if_neg (by omega),if_pos k1];exact plRects_v _ _ _ (Y.map fun y=>y.p.n.pl) a b w (by rw [List.map_map];exact hv) (by rw [List.length_map]) (by omega) (fun q hq=>by obtain ⟨y,hy,rfl⟩:=List.mem_map.1 hq;exact c2 y hy) hq
 ·refine ⟨_,_,_,rfl,ncr_pk _ _,fun _ _ _=>cmr_pk _ _ _ _,?_⟩;unfold arM;rw [if_neg k1,if_neg k2];exact pkRects_v _ _ _ (Y.map pkW) a b w (pv_of (by rw [List.map_map];exact hv)) (by rw [List.length_map]) (by rw [List.length_map];exact Nat.le_refl _) (c0 k1 k2) hq
def MrV (w:World) (v:Value) (x:Wd) (Y:List Wd):Prop:=∃ u,v=.func (.method "loop.example/widgetroom/impl.rects") #[u] #[]∧ArV w u x Y
theorem MrV.keep {w w':World} {v:Value} {x:Wd} {Y:List Wd} (h:MrV w v x Y) (hb:Below w.heap.size w w'):MrV w' v x Y:=let ⟨u,e,k⟩:=h;⟨u,e,k.keep hb⟩
theorem pick_pl {R:List Nr} {X:List Wd}:∀ {ks:List Nat},(∀ k∈ks,∃ y p,X[k]?=some y∧R[k]?=some p∧y.p=p)→(pickW X ks).map (fun y=>y.p.n.pl)=plsF (R.map Nr.n) ks
 | [],_=>rfl
 | k :: t,h=>by
  obtain ⟨y,p,h1,h2,h3⟩:=h k (List.mem_cons_self ..)
  have ih:=pick_pl (X:=X) (R:=R) (ks:=t) fun k hk=>h k (List.mem_cons_of_mem _ hk)
  have e:(R.map Nr.n)[k]?=some p.n:=by rw [List.getElem?_map,h2];rfl
  unfold pickW at ih ⊢;unfold plsF at ih ⊢;rw [List.filterMap_cons_some (b:=y) h1,List.filterMap_cons_some (b:=p.n.pl) (by rw [e];rfl),List.map_cons,ih,h3]
theorem arM_eq {L:List Nd} {i:Nat} {n:Nd} {Y:List Wd} (a b:Int) (h1:Y.map pkW=pksF L (szM L) (kidD L i)) (h2:Y.map ceW=cesF L (szM L) (kidD L i)) (h3:Y.map (fun y=>y.p.n.pl)=plsF L (kidD L i)):arM n Y a b=kidR0 L i n a b:=by
 unfold arM kidR0;rw [h1,h2,h3]
def QrV (lo:Nat) (w:World) (v:Value) (n:Nat) (M:List Re):Prop:=∃ g,v=.slice (some ⟨g,0,none⟩) n n∧lo≤g∧ReB w g M
theorem QrV.keep {lo:Nat} {w w':World} {v:Value} {n:Nat} {M:List Re} (h:QrV lo w v n M) (hb:Below w.heap.size w w'):QrV lo w' v n M:=let ⟨g,e,hl,k⟩:=h;⟨g,e,hl,k.keep hb⟩
section
attribute [local go_sem 5000] run_mx run_mn
attribute [local go_sem] Oper.semAt_some
theorem ldNI {F:Fence} {n:Nat} {P:Program} {ops:Array Oper} {rest:List Oper} {op:Oper} {a:Act} {w:World} {Q:Exit→Act→World→Prop} (T:TypeId) (x:Operand) (vs:List Value) (b o:Nat) {d:TypeDesc} (hgd:op.guard=none) (ho:op.op=.load T x) (hx:a.eval x=.pointer (some ⟨b,o,none⟩))
  (hc:w.rangeAt b o vs) (hu:P.underlying T=some d) (hd:d.isRow=true) (hi:(P.info? T).map (·.size)=some vs.length)
  (h:wpListIn F n P ops Q rest (a.put op.dst (.agg vs.toArray)) w):wpListIn F n P ops Q (op :: rest) a w:=by
 refine wpListIn_plain hgd fun K hK=>⟨fun f hf=>?_,?_⟩
 ·simp [Oper.about,ho] at hf
 ·rw [Oper.semAt_eq _ _ _ (fun c e=>by rw [ho] at e;cases e)];unfold execOp;simp only [ho,hx,Instr.loadAt,Instr.sureAddr,Sem.run_bind,Sem.run_pure,Result.andThen_ok,run_loadVar_mid w b o T vs d hc hu hd hi];exact hK _ _ h
theorem backwardN_in (F:Fence) (n:Nat) (hF:F.fn 91) (hro:F.round=none) (a:Option Addr) (len cap:Nat) (w:World) :
  CallsIn F n Tryz.prog 91 #[.slice a len cap] w fun e w'=>e=.returned (.func (.func 128) #[] #[.pointer (some ⟨w.heap.size,0,none⟩)])∧w'=w.alloc (.cells #[.slice a len cap] 28):=by
 refine callsIn_of_wp Tryz.func91 rfl hF ?_ hro;simp only [Tryz.ntmps91,List.size_toArray,List.length_cons,List.length_nil,Nat.reduceAdd,Nat.reduceSub,Array.replicate_succ,Array.replicate_zero,List.push_toArray,List.append_toArray,List.nil_append,List.cons_append]
 gi_wp2
 go_ret;exact ⟨rfl,rfl⟩
end
def KeepsC (B:Nat) (W W':World):Prop:=Below B W W'∧∀ (k:Nat) (o:Obj),W.heap[k]?=some o→o.isCells=true→W'.heap[k]?=some o
theorem keepsC_alloc {B:Nat} {W:World} (o:Obj) (h:B≤W.heap.size):KeepsC B W (W.alloc o) :=
 ⟨(Below.refl _ _).alloc h o,fun k o' hk _=>(Below.heap_alloc _ _ _ (gE hk).1).trans hk⟩
theorem keepsC_put {w W:World} {l:Nat} {o o':Obj} (hl:w.heap.size≤l) (h:W.heap[l]?=some o) (hc:o.isCells=false) (hw:o.isWalk=false):KeepsC w.heap.size W (W.putObj l o') :=
 ⟨belowK_b (w:=w) (Nat.le_refl _) W l o o' hl h hc hw,fun k o2 hk h2=>by
  by_cases e:k=l
  ·subst e;rw [h] at hk;obtain rfl:=Option.some.inj hk;rw [hc] at h2
   cases h2
  ·exact (World.putObj_heap_other e).trans hk⟩
theorem KeepsC.cells {B k:Nat} {W W':World} {cs:Array Value} {T:TypeId} {fz:Nat × Nat} (h:KeepsC B W W') (hk:W.heap[k]?=some (.cells cs T fz)):W'.heap[k]?=some (.cells cs T fz):=h.2 k _ hk rfl
theorem KeepsC.block {B k:Nat} {W W':World} {cs:Array Value} {T:TypeId} {fz:Nat × Nat} (h:KeepsC B W W') (hk:W.heap[k]?=some (.cells cs T fz)):W'.heap[k]?=W.heap[k]?:=(h.cells hk).trans hk.symm
def SeqCnt (F:Fence) (n:Nat) (P:Program) (g:Nat) (lb:Array Value) (enc:Nat→Array Value) (Nd:World→Prop) (N:Nat):Prop :=
 ∀ (l:Nat) (J:Nat→World→Prop) (W:World),
  (∀ k W1,k<N→J k W1→YieldAt F (n-1) P l (enc k) W1 fun e W'=>e=.returned (.bool true)∧J (k+1) W') →
  (∀ k W1,J k W1→Nd W1)→J 0 W→CallsIn F n P g (#[.func (.yield l) #[] #[]] ++ lb) W fun e W'=>(∃ v,e=.returned v)∧J N W'
theorem wpIn_rangeFunc_cnt {F:Fence} {n:Nat} {P:Program} {g:Operand} {ps:Array Tmp} {assign body:Code} {Q:Exit→Act→World→Prop} {a:Act} {w:World}
  (hro:F.round=none) (h1:1≤n) {gf:Nat} {lb:Array Value} (hg:a.eval g=.func (.func gf) #[] lb) (hFg:F.fn gf) (eg:∀ args w,(callFunc gf args).run P w=.ok (.enter gf args) w)
  {enc:Nat→Array Value} {Nd:World→Prop} {N:Nat} (hseq:SeqCnt F (n-1) P gf lb enc Nd N) (hps:∀ k,(enc k).size=ps.size)
  (I:Nat→World→Prop) (hI:∀ k W W',I k W→KeepsC w.heap.size W W'→I k W') (hN:∀ k W,I k W→Nd W) (h0:I 0 w)
  (Ax:Nat→Act→World→Prop) (hAx:∀ k a' W W',Ax k a' W→KeepsC w.heap.size W W'→Ax k a' W')
  (hassign:∀ (l k:Nat) (W:World) (K:Act→World→Prop),k<N→I k W→(∀ a' W',KeepsFrom w.heap.size W W'→I k W'→Ax k a' W'→K a' W') →
   assign.wpIn (F.inRound l) (n-1-1) P (Exit.then K (fun _ _ _=>False)) { tmps:=(ps.zip (enc k)).foldl (fun t (p,v)=>t.setIfInBounds p v) a.tmps,defers:=[] } W)
  (hbody:∀ (l k:Nat) (a':Act) (W:World),k<N→I k W→Ax k a' W→body.wpIn (F.inRound l) (n-1-1) P (fun e _ W'=>e=.normal∧KeepsFrom w.heap.size W W'∧I (k+1) W') a' W)
  (hdone:∀ (D:Nat) (W:World),w.heap.size≤D→I N W→W.heap[D]?=some (.deferred (some []))→Q .normal { a with defers:={ target:=.collected D,args:=#[] } :: a.defers } W) :
  (Code.rangeFunc g ps assign body).wpIn F n P Q a w:=by
 refine wpIn_rangeFunc fun fn hfn=>?_
 rw [hro]
 obtain ⟨mk,hmk⟩:∃ mk:LoopState→Loop,∀ st,mk st={ state:=st,pending:=none,fn,tmps:=a.tmps,params:=ps,assign,body,defers:=w.heap.size }:=⟨_,fun _=>rfl⟩
 obtain ⟨Bk,hBk⟩:∃ Bk:LoopState→World→Prop,∀ st W,Bk st W↔W.heap[w.heap.size+1]?=some (.loop (mk st))∧W.heap[w.heap.size]?=some (.deferred (some [])):=⟨_,fun _ _=>Iff.rfl⟩
 have keep:∀ st W W',Bk st W→KeepsFrom w.heap.size W W'→Bk st W':=fun st W W' hb hk=>by
  rw [hBk] at hb ⊢;exact ⟨hk.same _ _ (by omega) hb.1 rfl,hk.same _ _ (Nat.le_refl _) hb.2 rfl⟩
 have turn:∀ st st' W,Bk st W→Bk st' (W.putObj (w.heap.size+1) (.loop (mk st')))∧KeepsC w.heap.size W (W.putObj (w.heap.size+1) (.loop (mk st'))):=fun st st' W hb=>by
  rw [hBk] at hb ⊢;exact ⟨⟨World.putObj_heap_same (gE hb.1).1,(World.putObj_heap_other (by omega)).trans hb.2⟩,keepsC_put (by omega) hb.1 rfl rfl⟩
 obtain ⟨W1,hW1⟩:∃ W1,(w.alloc (.deferred (some []))).alloc (.loop (mk .ready))=W1:=⟨_,rfl⟩
 have b1:Bk .ready W1:=by
  rw [hBk,<- hW1];refine ⟨?_,(Below.heap_alloc _ _ _ (by simp)).trans (World.alloc_heap_new w _)⟩
  have:=World.alloc_heap_new (w.alloc (.deferred (some []))) (.loop (mk .ready))
  rwa [World.size_alloc] at this
 have i1:I 0 W1:=by
  rw [<- hW1];exact hI _ _ _ (hI _ _ _ h0 (keepsC_alloc _ (Nat.le_refl _))) (keepsC_alloc _ (by simp))
 refine ⟨w.heap.size+1,[{ target:=.collected w.heap.size,args:=#[] }],W1,{ target:=.fn (.func gf) lb,args:=#[.func (.yield (w.heap.size+1)) #[] #[]] },W1,gf,
  #[.func (.yield (w.heap.size+1)) #[] #[]] ++ lb,W1,?_,?_,?_,?_,fun _=>h1,?_⟩
 ·rw [<- hW1,hmk];exact run_enterLoop_outer _ _ _ _ _
 ·simp only [resolve,hg]
  simp [go_sem]
 ·intro f' hf'
  simp [Target.leads] at hf'
  subst hf';exact hFg
 ·simp [invoke,go_sem,eg]
 ·refine (hseq (w.heap.size+1) (fun k W=>I k W∧Bk .ready W) W1 ?_ (fun k W h=>hN k W h.1) ⟨i1,b1⟩).mono ?_
  ·rintro k W hk ⟨hi,hb⟩;have hl:=((hBk _ _).1 hb).1;have hy:=run_yield (P:=P) (args:=enc k) hl (by rw [hmk];exact hps k);rw [hmk] at hy;refine ⟨fn,_,assign,body,hy,roundIn_of_wpIn hfn (hassign _ k W _ hk hi ?_)⟩;intro a' Wa hka hia hax;have hba:=keep _ _ _ hb hka;have hla:=((hBk _ _).1 hba).1;have hbr:=run_beginRound (P:=P) hla (by rw [hmk])
   rw [show ({ mk .ready with state:=.busy }:Loop)=mk .busy by rw [hmk,hmk]] at hbr;obtain ⟨hbb,hcb⟩:=turn _ .busy _ hba;refine ⟨_,hbr,wpIn_mono (hbody _ k a' _ hk (hI _ _ _ hia hcb) (hAx _ _ _ _ hax hcb)) ?_⟩;rintro e a3 W3 ⟨rfl,hk3,hi3⟩;have hb3:=keep _ _ _ hbb hk3;have her:=run_endRound (P:=P) none ((hBk _ _).1 hb3).1
   rw [show ({ mk .busy with state:=if (none:Option Code).isNone then .ready else .done,pending:=none }:Loop)=mk .ready by rw [hmk,hmk];rfl] at her;obtain ⟨hb4,hc4⟩:=turn _ .ready _ hb3;exact ⟨_,_,her,rfl,hI _ _ _ hi3 hc4,hb4⟩
  ·rintro e W2 ⟨⟨v,rfl⟩,hi,hb⟩;have hl:=((hBk _ _).1 hb).1;have hel:=run_endLoop (P:=P) hl (by rw [hmk];simp);rw [show (mk .ready).pending=none by rw [hmk]] at hel;exact ⟨none,_,hel,hdone _ _ (Nat.le_refl _) (hI _ _ _ hi (keepsC_put (by omega) hl rfl rfl)) ((World.putObj_heap_other (by omega)).trans ((hBk _ _).1 hb).2)⟩
section
attribute [local go_sem] Oper.semAt_some
def zeroNr:Nr:=⟨⟨0,0,0,false,0,[],[],⟨0,0,0,false,false,false,0,0,0⟩,⟨0,0,0,0,0,0,0,0,0⟩,⟨0,0,0,0,0,0,0,0,0⟩⟩,none,0,none,0⟩
def nrAt (R:List Nr) (i:Nat):Nr:=(R[i]?).getD zeroNr
theorem nrAt_get {R:List Nr} {i:Nat} {p:Nr} (h:R[i]?=some p):nrAt R i=p:=by unfold nrAt;rw [h];rfl
def encR (R:List Nr) (k:Nat):Array Value:=#[.int .i64 ((R.length-1-k:Nat):Int),.agg (valsNr (nrAt R (R.length-1-k))).toArray]
theorem encR_at {R:List Nr} {j:Nat} {p:Nr} (h:R[j]?=some p):encR R (R.length-(j+1))=#[.int .i64 (j:Int),.agg (valsNr p).toArray]:=by
 have hj:=(List.getElem?_eq_some_iff.1 h).1;unfold encR;rw [show R.length-1-(R.length-(j+1))=j by omega,nrAt_get h]
theorem bkc_in (F:Fence) (n:Nat) (hF:F.fn 128) (hro:F.round=none) (hn:1≤n) (Bs:Nat) (A:Option Addr) (c:Nat) (R:List Nr) (hL:R.length≤1048576) :
  SeqCnt F n Tryz.prog 128 #[.pointer (some ⟨Bs,0,none⟩)] (encR R) (fun W=>W.cell? ⟨Bs,0,none⟩=some (.slice A R.length c)∧NrV W A R) R.length:=by
 intro l J W hY hJN h0;have hcs:=(hJN _ _ h0).1;refine callsIn_of_wp Tryz.func128 rfl hF ?_ hro;simp only [Tryz.ntmps128,List.size_toArray,List.length_cons,List.length_nil,Nat.reduceAdd,Nat.reduceSub,Array.replicate_succ,Array.replicate_zero,List.push_toArray,List.append_toArray,List.nil_append,List.cons_append]
 gi_wp2
 clear hcs
 gi_loopw [3] (fun i wr=>∃ k:Nat,k≤R.length∧i=.int .i64 ((k:Int)-1)∧J (R.length-k) wr)
  (fun i _=>(intOf i+1).toNat)
 case atStart=>exact ⟨R.length,Nat.le_refl _,rfl,by rw [Nat.sub_self];exact h0⟩
 case round =>
  obtain ⟨k,hk,rfl,hJs⟩:=hrel
  rcases k with _ | j
  ·have hd:decide (((0:Nat):Int)-1≥0)=false:=by simp
   gi_wp2
   go_end0
   exact ⟨⟨_,rfl⟩,hJs⟩
  ·have e1:((j+1:Nat):Int)-1=(j:Int):=by omega
   rw [e1]
   have hlt:j<R.length:=by omega
   have hd:decide ((j:Int)≥0)=true:=by simp
   have hd2:decide ((0:Int)≤(j:Int))=true:=by simp
   obtain ⟨hcs,hp⟩:=hJN _ _ hJs;obtain ⟨b,off,rfl,hb,hps⟩:=hp.cells (by omega);have hget:R[j]?=some R[j]:=List.getElem?_eq_getElem hlt;have hc:=hps j _ hget;have he:=encR_at hget;generalize hx:R[j]=p at *;obtain ⟨fn,tmps,assign,body,hy,hR⟩:=hY (R.length-(j+1)) wr (by omega) hJs;rw [he] at hy;have HC:=hD hc;have HE:Hid (R.length-(j+1)+1=R.length-j):=hD (by omega);clear hc hget hx hps e1 hp he
   have hjs:IntKind.i64.wrap ((j:Int)-1)=(j:Int)-1:=IntWalk.i64_in _ (by omega)
   gi_wp2_with (refine ldNI 90 _ (valsNr p) b (off+j*34) rfl rfl rfl HC.out Tryz.underlying90 rfl (by rw [valsNr_len];kernel_rfl) ?_)
   refine hR.mono ?_;rintro e W3 ⟨rfl,hJ3⟩;rw [HE.out] at hJ3
   gi_wp2
   go_roundw
   case rel=>exact ⟨j,by omega,by go_num,hJ3⟩
   case measure=>simp [intOf]
end
def NodS (w:World) (g:Nat) (S:List Nr):Prop:=∃ cs:Array Value,w.heap[g]?=some (.cells cs 90 (0,0))∧cs.size=S.length*34∧∀ i q,S[i]?=some q→cs[i*34+5]?=some (.slice q.ca q.n.cs.length q.cc)∧cs[i*34+6]?=some (.slice q.ra q.n.rs.length q.rc)
theorem NodS.of {w:World} {g:Nat} {S:List Nr} (h:NrB w g S):NodS w g S:=by
 obtain ⟨cs,hh,hs,hc⟩:=h;exact ⟨cs,hh,hs,fun i q hq=>⟨hc i q hq 5 _ rfl,hc i q hq 6 _ rfl⟩⟩
theorem NodS.lt {w:World} {g:Nat} {S:List Nr} (h:NodS w g S):g<w.heap.size:=by obtain ⟨cs,hh,_⟩:=h;exact ltS hh
theorem NodS.keep {w w':World} {g:Nat} {S:List Nr} (h:NodS w g S) (hb:w'.heap[g]?=w.heap[g]?):NodS w' g S:=by
 obtain ⟨cs,hh,r⟩:=h;exact ⟨cs,hb.trans hh,r⟩
theorem NodS.put {w:World} {g:Nat} {S:List Nr} (h:NodS w g S) (k j:Nat) (hj:j<34) (h5:j≠5) (h6:j≠6) (v:Value):NodS (w.setCell ⟨g,k*34+j,none⟩ v) g S:=by
 obtain ⟨cs,hh,hs,hc⟩:=h;refine ⟨_,putS hh v,by simpa using hs,fun i q hq=>?_⟩;obtain ⟨e5,e6⟩:=hc i q hq;rw [Array.getElem?_setIfInBounds_ne (by omega),Array.getElem?_setIfInBounds_ne (by omega)];exact ⟨e5,e6⟩
theorem NodS.cell {w:World} {g:Nat} {S:List Nr} (h:NodS w g S) {k j:Nat} (hk:k<S.length) (hj:j<34):∃ v,w.cell? ⟨g,k*34+j,none⟩=some v:=by
 obtain ⟨cs,hh,hs,_⟩:=h;exact thereS hh (by omega)
theorem NodS.cell0 {w:World} {g:Nat} {S:List Nr} (h:NodS w g S) {k:Nat} (hk:k<S.length):∃ v,w.cell? ⟨g,k*34,none⟩=some v:=by
 have:=h.cell hk (j:=0) (by omega)
 simpa only [Nat.add_zero] using this
theorem NodS.frz {w:World} {g:Nat} {S:List Nr} (h:NodS w g S) (i:Nat):w.frozen? ⟨g,i,none⟩=false:=by
 obtain ⟨cs,hh,_⟩:=h;exact frozenS hh i
theorem NodS.sl {w:World} {g:Nat} {S:List Nr} (h:NodS w g S) {k:Nat} {q:Nr} (hq:S[k]?=some q):w.cell? ⟨g,k*34+5,none⟩=some (.slice q.ca q.n.cs.length q.cc)∧w.cell? ⟨g,k*34+6,none⟩=some (.slice q.ra q.n.rs.length q.rc):=by
 obtain ⟨cs,hh,_,hc⟩:=h;exact ⟨(cellS hh _).trans (hc k q hq).1,(cellS hh _).trans (hc k q hq).2⟩
def LnsS (w:World) (g hi k:Nat) (S:List Nr):Prop:=∀ i q,k≤i→S[i]?=some q→∃ g1 g2,q.ca=some ⟨g1,0,none⟩∧q.cc=q.n.cs.length∧q.ra=some ⟨g2,0,none⟩∧q.rc=q.n.rs.length∧g<g1∧g1<g2∧g2<hi∧LnB w g1 q.n.cs∧LnB w g2 q.n.rs
def ApS (S:List Nr):Prop:=∀ (i j:Nat) (q r:Nr),i<j→S[i]?=some q→S[j]?=some r→∀ a b:Addr,(q.ca=some a∨q.ra=some a)→(r.ca=some b∨r.ra=some b)→a.block<b.block
theorem LnsS.of {g hi:Nat} {w:World} {R S:List Nr} (h:CpR (g+1) w R S) (hs:w.heap.size≤hi):LnsS w g hi 0 S:=fun i q _ hq=>by
 have hi':=(List.getElem?_eq_some_iff.1 hq).1;rw [h.len] at hi';obtain ⟨g1,g2,rfl,h1,h2,h3,h4⟩:=h.each i _ q (List.getElem?_eq_getElem hi') hq;have l4:=h4.lt;exact ⟨g1,g2,rfl,rfl,rfl,rfl,by omega,h2,by omega,h3,h4⟩
theorem LnsS.put {w:World} {g hi k:Nat} {S:List Nr} (h:LnsS w g hi k S) (o:Nat) (v:Value):LnsS (w.setCell ⟨g,o,none⟩ v) g hi k S:=fun i q hk hq=>by
 obtain ⟨g1,g2,e1,e2,e3,e4,h1,h2,h3,h4,h5⟩:=h i q hk hq;exact ⟨g1,g2,e1,e2,e3,e4,h1,h2,h3,h4.but (gsetS (greflS w g) o v) (by omega),h5.but (gsetS (greflS w g) o v) (by omega)⟩
theorem LnsS.mark {w w':World} {g hi k:Nat} {S:List Nr} {q:Nr} {a:Addr} (h:LnsS w g hi k S) (ha:ApS S) (hq:S[k]?=some q) (hqa:q.ca=some a∨q.ra=some a) (hg:w.grownBy w' (some a.block)):LnsS w' g hi (k+1) S:=fun i r hk hr=>by
 obtain ⟨g1,g2,e1,e2,e3,e4,h1,h2,h3,h4,h5⟩:=h i r (by omega) hr;have b1:=ha k i q r (by omega) hq hr a _ hqa (.inl e1);have b2:=ha k i q r (by omega) hq hr a _ hqa (.inr e3)
 dsimp only at b1 b2
 exact ⟨g1,g2,e1,e2,e3,e4,h1,h2,h3,h4.but hg (by omega),h5.but hg (by omega)⟩
theorem mkS_bd (R:List Nr):mkS R≤32*R.length+2*szL R:=by
 induction R with
 | nil=>simp [mkS,szL]
 | cons p t ih=>simp only [mkS,mkW,szL,List.length_cons];omega
structure FmN (t:Array Value) (g n c k:Nat) (z:Int):Prop where
 size:t.size=286
 t0:t[0]?=some (.slice (some ⟨g,0,none⟩) n c)
 t1:t[1]?=some (.int .i64 z)
 t5:t[5]?=some (.int .i64 k)
theorem FmN.all {t:Array Value} {g n c k:Nat} {z:Int} (h:FmN t g n c k z):(∃ l:0<t.size,t[0]=.slice (some ⟨g,0,none⟩) n c)∧(∃ l:1<t.size,t[1]=.int .i64 z)∧(∃ l:5<t.size,t[5]=.int .i64 k)∧t.size=286∧t[0]?=some (.slice (some ⟨g,0,none⟩) n c)∧t[1]?=some (.int .i64 z)∧t[5]?=some (.int .i64 k) :=
 ⟨gE h.t0,gE h.t1,gE h.t5,h.size,h.t0,h.t1,h.t5⟩
structure StN (w W:World) (g hi k j:Nat) (S:List Nr) (q:Nr) (g1 g2:Nat) (b1 b2:Bool):Prop where
 s:NodS W g S
 l:LnsS W g hi j S
 i:Wi g hi w W
 c:b1=true→LnB W g1 q.n.cs
 r:b2=true→LnB W g2 q.n.rs
theorem StN.put {w W:World} {g hi k j':Nat} {S:List Nr} {q:Nr} {g1 g2:Nat} {b1 b2:Bool} (h:StN w W g hi k j' S q g1 g2 b1 b2) (hg:g<g1∧g1<g2∧g2<hi) (j:Nat) (hj:j<34) (h5:j≠5) (h6:j≠6) (v:Value):StN w (W.setCell ⟨g,k*34+j,none⟩ v) g hi k j' S q g1 g2 b1 b2 :=
 ⟨h.s.put k j hj h5 h6 v,h.l.put _ _,h.i.set ⟨Nat.le_refl _,by omega⟩ _,fun e=>(h.c e).but (gsetS (greflS _ g) _ _) (by omega),fun e=>(h.r e).but (gsetS (greflS _ g) _ _) (by omega)⟩
theorem StN.put0 {w W:World} {g hi k j':Nat} {S:List Nr} {q:Nr} {g1 g2:Nat} {b1 b2:Bool} (h:StN w W g hi k j' S q g1 g2 b1 b2) (hg:g<g1∧g1<g2∧g2<hi) (v:Value):StN w (W.setCell ⟨g,k*34,none⟩ v) g hi k j' S q g1 g2 b1 b2:=by
 have:=h.put hg 0 (by omega) (by omega) (by omega) v
 simpa only [Nat.add_zero] using this
theorem markNodeS_v (g hi n c:Nat) (S:List Nr) (z:Int) (w:World) (hn:n=S.length) (hs:NodS w g S) (hl:LnsS w g hi 0 S) (ha:ApS S) (hgh:g<hi) (hL:S.length≤1048576) (hz:S.length+szL S≤1048576) (h1:1≤z) (h2:z≤1000) :
  Calls Tryz.prog 37 #[.slice (some ⟨g,0,none⟩) n c,.int .i64 z] w fun e w'=>e=.returned (.int .i64 (z+mkS S))∧Wi g hi w w':=by
 subst hn;have HA:=hD ha;have HZ:=hD hz;clear ha hz;refine calls_abs Tryz.func37 rfl 286 (by simp only [Tryz.ntmps37]) (by simp) (fun tm hsz hargs=>?_);have h0:tm[0]?=some (.slice (some ⟨g,0,none⟩) S.length c):=get_of (by omega) (hargs 0 _ rfl);have h1':tm[1]?=some (.int .i64 z):=get_of (by omega) (hargs 1 _ rfl);clear hargs
 refine wp_seq_h fun K hK=>?_
 apply wp_region_lit
 repeat go_step
 refine hK.out _ _ ?_;clear hK K
 refine wp_seq_h fun KE hKE=>?_
 refine wp_seq_h fun K hK=>?_
 apply wp_region_lit
 repeat go_step
 refine hK.out _ _ ?_;clear hK K;apply wp_block;refine wp_loop (fun a W=>∃ (t:Array Value) (k:Nat),a=⟨t,[]⟩∧k≤S.length∧FmN t g S.length c k (z+mkS (S.take k))∧NodS W g S∧LnsS W g hi k S∧Wi g hi w W) (fun a _=>S.length-(intOf (a.tmps.getD 5 undef)).toNat) ?_ ?_
 ·exact ⟨_,0,rfl,by omega,⟨by simp [hsz],by simp [h0],by simp [h1',mkS],by simp [hsz]⟩,hs,hl,Wi.refl _ _ _⟩
 clear tm hsz h0 h1' hs hl;rintro a W ⟨t,k,rfl,hk,hF,hs,hl,hW⟩;have HS:=hD hs;have HL:=hD hl;have HW:=hD hW;clear hs hl hW
 have hmu:intOf (t.getD 5 undef)=(k:Int):=by rw [Array.getD_eq_getD_getElem?,hF.t5];rfl
 dsimp only
 rw [hmu];clear hmu
 by_cases hlt:k<S.length
 ·have hd:decide ((k:Int)<(S.length:Int))=true:=by simpa using hlt
  have hget:S[k]?=some S[k]:=List.getElem?_eq_getElem hlt;have hst:=mkS_take hget;have hle:=mkS_le S (k+1);have hbd:=mkS_bd S;have hnn:=mkS_nn (S.take k);have hml:=szL_mem (List.mem_of_getElem? hget);obtain ⟨g1,g2,e1,e2,e3,e4,gl1,gl2,gl3,hb1,hb2⟩:=HL.out k _ (Nat.le_refl _) hget;generalize S[k]=q at *;have HG:=hD hget;have hzz:=HZ.out
  have hk1:q.n.cs.length≤1048576:=by omega
  have hk2:q.n.rs.length≤1048576:=by omega
  obtain ⟨Z0,hZ0⟩:∃ x,z+mkS (S.take k)=x:=⟨_,rfl⟩
  rw [hZ0] at hF
  have b0:1≤Z0:=by omega
  have b0':Z0+mkW q≤50000000:=by unfold mkW at *;omega
  have HZ0:=hD hZ0;have HST:=hD hst;have HE:=hD (And.intro e1 (And.intro e2 (And.intro e3 e4)));have HGL:=hD (And.intro gl1 (And.intro gl2 gl3));have HT:=hD (show StN w W g hi k k S q g1 g2 true true from ⟨HS.out,HL.out,HW.out,fun _=>hb1,fun _=>hb2⟩);clear hget hst hle hbd hnn hml e1 e2 e3 e4 hzz hZ0 hb1 hb2 gl1 gl2 gl3 HS HL HW
  have hW1:0≤mkW q:=by unfold mkW;omega
  obtain ⟨MW,hMW⟩:∃ x,mkW q=x:=⟨_,rfl⟩
  rw [hMW] at b0' hW1;have HMW:=hD hMW;clear hMW;obtain ⟨⟨l0,e0⟩,⟨l1,e1⟩,⟨l5,e5⟩,hsz,f0,f1,f5⟩:=hF.all
  refine wp_seq_h fun K1 hK1=>?_
  refine wp_seq_h fun K hK=>?_
  apply wp_region_lit
  repeat go_step
  refine hK.out _ _ ?_;clear hK K;refine wp_cond_true (by simp [Act.eval,hsz]) ?_;apply wp_skip;simp only [Exit.then];refine hK1.out _ _ ?_;clear hK1 K1;refine wp_abw (fun t' W'=>FmN t' g S.length c k Z0∧W'=W) ⟨⟨by simp [hsz],by simp [f0],by simp [f1],by simp [f5]⟩,rfl⟩ ?_;clear hF l0 l1 l5 e0 e1 e5 hsz f0 f1 f5 t hd;rintro t _ ⟨hF,rfl⟩
  refine wp_seq_h fun KB hKB=>?_
  apply wp_block;obtain ⟨⟨l0,e0⟩,⟨l1,e1⟩,⟨l5,e5⟩,hsz,f0,f1,f5⟩:=hF.all;obtain ⟨y,hy⟩:=HT.out.s.cell0 hlt;have hf:=HT.out.s.frz (k*34);have lg:=HT.out.s.lt
  refine wp_seq_h fun K hK=>?_
  apply wp_region_lit
  repeat go_step
  refine hK.out _ _ ?_;clear hK K;refine wp_abw (fun t' W'=>FmN t' g S.length c k Z0∧StN w W' g hi k k S q g1 g2 true true) ⟨⟨by simp [hsz],by simp [f0],by simp [f1],by simp [f5]⟩,HT.out.put0 HGL.out _⟩ ?_;clear hF l0 l1 l5 e0 e1 e5 hsz f0 f1 f5 t hy hf lg y HT;rintro t W' ⟨hF,hT⟩;have HT:=hD hT;clear hT;obtain ⟨⟨l0,e0⟩,⟨l1,e1⟩,⟨l5,e5⟩,hsz,f0,f1,f5⟩:=hF.all
  refine wp_seq_h fun K hK=>?_
  apply wp_region_lit
  repeat go_step
  obtain ⟨Z1,hz1⟩:∃ x,Z0+1=x:=⟨_,rfl⟩
  refine hK.out _ _ ?_;clear hK K;refine wp_abw (fun t' W1=>FmN t' g S.length c k Z1∧W1=W') ⟨⟨by simp [hsz],by simp [f0],by simp [hsz,hz1],by simp [f5]⟩,rfl⟩ ?_;clear hF l0 l1 l5 e0 e1 e5 hsz f0 f1 f5 t;rintro t _ ⟨hF,rfl⟩
  have b1:1≤Z1∧Z1≤63000000:=by omega
  have HZ1:=hD hz1;clear hz1;obtain ⟨⟨l0,e0⟩,⟨l1,e1⟩,⟨l5,e5⟩,hsz,f0,f1,f5⟩:=hF.all;obtain ⟨y,hy⟩:=HT.out.s.cell (j:=1) hlt (by omega);have hf:=HT.out.s.frz (k*34+1);have lg:=HT.out.s.lt
  refine wp_seq_h fun K hK=>?_
  apply wp_region_lit
  repeat go_step
  refine hK.out _ _ ?_;clear hK K;refine wp_abw (fun t' W'=>FmN t' g S.length c k Z1∧StN w W' g hi k k S q g1 g2 true true) ⟨⟨by simp [hsz],by simp [f0],by simp [f1],by simp [f5]⟩,HT.out.put HGL.out 1 (by omega) (by omega) (by omega) _⟩ ?_;clear hF l0 l1 l5 e0 e1 e5 hsz f0 f1 f5 t hy hf lg y HT;rintro t W' ⟨hF,hT⟩;have HT:=hD hT;clear hT;obtain ⟨⟨l0,e0⟩,⟨l1,e1⟩,⟨l5,e5⟩,hsz,f0,f1,f5⟩:=hF.all
  refine wp_seq_h fun K hK=>?_
  apply wp_region_lit
  repeat go_step
  obtain ⟨Z2,hz1⟩:∃ x,Z1+1=x:=⟨_,rfl⟩
  refine hK.out _ _ ?_;clear hK K;refine wp_abw (fun t' W1=>FmN t' g S.length c k Z2∧W1=W') ⟨⟨by simp [hsz],by simp [f0],by simp [hsz,hz1],by simp [f5]⟩,rfl⟩ ?_;clear hF l0 l1 l5 e0 e1 e5 hsz f0 f1 f5 t;rintro t _ ⟨hF,rfl⟩
  have b2:1≤Z2∧Z2≤66000000:=by omega
  have HZ2:=hD hz1;clear hz1 b1;obtain ⟨⟨l0,e0⟩,⟨l1,e1⟩,⟨l5,e5⟩,hsz,f0,f1,f5⟩:=hF.all;obtain ⟨y,hy⟩:=HT.out.s.cell (j:=2) hlt (by omega);have hf:=HT.out.s.frz (k*34+2);have lg:=HT.out.s.lt
  refine wp_seq_h fun K hK=>?_
  apply wp_region_lit
  repeat go_step
  refine hK.out _ _ ?_;clear hK K;refine wp_abw (fun t' W'=>FmN t' g S.length c k Z2∧StN w W' g hi k k S q g1 g2 true true) ⟨⟨by simp [hsz],by simp [f0],by simp [f1],by simp [f5]⟩,HT.out.put HGL.out 2 (by omega) (by omega) (by omega) _⟩ ?_;clear hF l0 l1 l5 e0 e1 e5 hsz f0 f1 f5 t hy hf lg y HT;rintro t W' ⟨hF,hT⟩;have HT:=hD hT;clear hT;obtain ⟨⟨l0,e0⟩,⟨l1,e1⟩,⟨l5,e5⟩,hsz,f0,f1,f5⟩:=hF.all
  refine wp_seq_h fun K hK=>?_
  apply wp_region_lit
  repeat go_step
  obtain ⟨Z3,hz1⟩:∃ x,Z2+1=x:=⟨_,rfl⟩
  refine hK.out _ _ ?_;clear hK K;refine wp_abw (fun t' W1=>FmN t' g S.length c k Z3∧W1=W') ⟨⟨by simp [hsz],by simp [f0],by simp [hsz,hz1],by simp [f5]⟩,rfl⟩ ?_;clear hF l0 l1 l5 e0 e1 e5 hsz f0 f1 f5 t;rintro t _ ⟨hF,rfl⟩
  have b3:1≤Z3∧Z3≤69000000:=by omega
  have HZ3:=hD hz1;clear hz1 b2;obtain ⟨⟨l0,e0⟩,⟨l1,e1⟩,⟨l5,e5⟩,hsz,f0,f1,f5⟩:=hF.all;obtain ⟨y,hy⟩:=HT.out.s.cell (j:=3) hlt (by omega);have hf:=HT.out.s.frz (k*34+3);have lg:=HT.out.s.lt
  refine wp_seq_h fun K hK=>?_
  apply wp_region_lit
  repeat go_step
  refine hK.out _ _ ?_;clear hK K;refine wp_abw (fun t' W'=>FmN t' g S.length c k Z3∧StN w W' g hi k k S q g1 g2 true true) ⟨⟨by simp [hsz],by simp [f0],by simp [f1],by simp [f5]⟩,HT.out.put HGL.out 3 (by omega) (by omega) (by omega) _⟩ ?_;clear hF l0 l1 l5 e0 e1 e5 hsz f0 f1 f5 t hy hf lg y HT;rintro t W' ⟨hF,hT⟩;have HT:=hD hT;clear hT;obtain ⟨⟨l0,e0⟩,⟨l1,e1⟩,⟨l5,e5⟩,hsz,f0,f1,f5⟩:=hF.all
  refine wp_seq_h fun K hK=>?_
  apply wp_region_lit
  repeat go_step
  obtain ⟨Z4,hz1⟩:∃ x,Z3+1=x:=⟨_,rfl⟩
  refine hK.out _ _ ?_;clear hK K;refine wp_abw (fun t' W1=>FmN t' g S.length c k Z4∧W1=W') ⟨⟨by simp [hsz],by simp [f0],by simp [hsz,hz1],by simp [f5]⟩,rfl⟩ ?_;clear hF l0 l1 l5 e0 e1 e5 hsz f0 f1 f5 t;rintro t _ ⟨hF,rfl⟩
  have b4:1≤Z4∧Z4≤72000000:=by omega
  have HZ4:=hD hz1;clear hz1 b3;obtain ⟨⟨l0,e0⟩,⟨l1,e1⟩,⟨l5,e5⟩,hsz,f0,f1,f5⟩:=hF.all;obtain ⟨y,hy⟩:=HT.out.s.cell (j:=4) hlt (by omega);have hf:=HT.out.s.frz (k*34+4);have lg:=HT.out.s.lt
  refine wp_seq_h fun K hK=>?_
  apply wp_region_lit
  repeat go_step
  refine hK.out _ _ ?_;clear hK K;refine wp_abw (fun t' W'=>FmN t' g S.length c k Z4∧StN w W' g hi k k S q g1 g2 true true) ⟨⟨by simp [hsz],by simp [f0],by simp [f1],by simp [f5]⟩,HT.out.put HGL.out 4 (by omega) (by omega) (by omega) _⟩ ?_;clear hF l0 l1 l5 e0 e1 e5 hsz f0 f1 f5 t hy hf lg y HT;rintro t W' ⟨hF,hT⟩;have HT:=hD hT;clear hT;obtain ⟨⟨l0,e0⟩,⟨l1,e1⟩,⟨l5,e5⟩,hsz,f0,f1,f5⟩:=hF.all
  refine wp_seq_h fun K hK=>?_
  apply wp_region_lit
  repeat go_step
  obtain ⟨Z5,hz1⟩:∃ x,Z4+1=x:=⟨_,rfl⟩
  refine hK.out _ _ ?_;clear hK K;refine wp_abw (fun t' W1=>FmN t' g S.length c k Z5∧W1=W') ⟨⟨by simp [hsz],by simp [f0],by simp [hsz,hz1],by simp [f5]⟩,rfl⟩ ?_;clear hF l0 l1 l5 e0 e1 e5 hsz f0 f1 f5 t;rintro t _ ⟨hF,rfl⟩
  have b5:1≤Z5∧Z5≤75000000:=by omega
  have HZ5:=hD hz1;clear hz1 b4;obtain ⟨⟨l0,e0⟩,⟨l1,e1⟩,⟨l5,e5⟩,hsz,f0,f1,f5⟩:=hF.all;have hsl:=HT.out.s.sl HG.out;have hc5:=hsl.1;rw [HE.out.1,HE.out.2.1] at hc5;clear hsl;have lg:=HT.out.s.lt
  refine wp_seq_h fun K hK=>?_
  apply wp_region_lit
  repeat go_step
  refine (markLnS_v g1 q.n.cs.length Z5 q.n.cs _ (HT.out.c rfl) rfl hk1 (by omega) (by omega)).mono ?_;rintro e W1 ⟨rfl,hgr⟩
  dsimp only
  obtain ⟨Z6,hz1⟩:∃ x,(q.n.cs.length:Int)*2+Z5=x:=⟨_,rfl⟩
  have HT':StN w W1 g hi k (k+1) S q g1 g2 false true:=⟨HT.out.s.keep (hgr.block g HT.out.s.lt (by have:=HGL.out;simp;omega)),HT.out.l.mark HA.out HG.out (.inl HE.out.1) hgr,HT.out.i.grown hgr (.inl (by have:=HGL.out;omega)),(fun e=>by cases e),fun _=>(HT.out.r rfl).but hgr (by have:=HGL.out;omega)⟩
  replace HT:=hD HT';clear HT' hgr hc5 lg
  repeat go_step
  refine hK.out _ _ ?_;clear hK K;refine wp_abw (fun t' W2=>FmN t' g S.length c k Z6∧W2=W1) ⟨⟨by simp [hsz],by simp [f0],by simp [hsz,hz1],by simp [f5]⟩,rfl⟩ ?_;clear hF l0 l1 l5 e0 e1 e5 hsz f0 f1 f5 t;rintro t _ ⟨hF,rfl⟩
  have b6:1≤Z6∧Z6≤78000000:=by omega
  have HZ6:=hD hz1;clear hz1 b5;obtain ⟨⟨l0,e0⟩,⟨l1,e1⟩,⟨l5,e5⟩,hsz,f0,f1,f5⟩:=hF.all;have hsl:=HT.out.s.sl HG.out;have hc6:=hsl.2;rw [HE.out.2.2.1,HE.out.2.2.2] at hc6;clear hsl;have lg:=HT.out.s.lt
  refine wp_seq_h fun K hK=>?_
  apply wp_region_lit
  repeat go_step
  refine (markLnS_v g2 q.n.rs.length Z6 q.n.rs _ (HT.out.r rfl) rfl hk2 (by omega) (by omega)).mono ?_;rintro e W1 ⟨rfl,hgr⟩
  dsimp only
  obtain ⟨Z7,hz1⟩:∃ x,(q.n.rs.length:Int)*2+Z6=x:=⟨_,rfl⟩
  have HL':LnsS W1 g hi (k+1) S:=fun i r hk hr=>by
   obtain ⟨g1',g2',x1,x2,x3,x4,x5,x6,x7,x8,x9⟩:=HT.out.l i r hk hr;have b1:=HA.out k i q r (by omega) HG.out hr _ _ (.inr HE.out.2.2.1) (.inl x1);have b2:=HA.out k i q r (by omega) HG.out hr _ _ (.inr HE.out.2.2.1) (.inr x3)
   dsimp only at b1 b2
   exact ⟨g1',g2',x1,x2,x3,x4,x5,x6,x7,x8.but hgr (by omega),x9.but hgr (by omega)⟩
  have HT':StN w W1 g hi k (k+1) S q g1 g2 false false:=⟨HT.out.s.keep (hgr.block g HT.out.s.lt (by have:=HGL.out;simp;omega)),HL',HT.out.i.grown hgr (.inl (by have:=HGL.out;omega)),(fun e=>by cases e),(fun e=>by cases e)⟩
  clear HL';replace HT:=hD HT';clear HT' hgr hc6 lg
  repeat go_step
  refine hK.out _ _ ?_;clear hK K;refine wp_abw (fun t' W2=>FmN t' g S.length c k Z7∧W2=W1) ⟨⟨by simp [hsz],by simp [f0],by simp [hsz,hz1],by simp [f5]⟩,rfl⟩ ?_;clear hF l0 l1 l5 e0 e1 e5 hsz f0 f1 f5 t;rintro t _ ⟨hF,rfl⟩
  have b7:1≤Z7∧Z7≤81000000:=by omega
  have HZ7:=hD hz1;clear hz1 b6;obtain ⟨⟨l0,e0⟩,⟨l1,e1⟩,⟨l5,e5⟩,hsz,f0,f1,f5⟩:=hF.all;obtain ⟨y,hy⟩:=HT.out.s.cell (j:=7) hlt (by omega);have hf:=HT.out.s.frz (k*34+7);have lg:=HT.out.s.lt
  refine wp_seq_h fun K hK=>?_
  apply wp_region_lit
  repeat go_step
  refine hK.out _ _ ?_;clear hK K;refine wp_abw (fun t' W'=>FmN t' g S.length c k Z7∧StN w W' g hi k (k+1) S q g1 g2 false false) ⟨⟨by simp [hsz],by simp [f0],by simp [f1],by simp [f5]⟩,HT.out.put HGL.out 7 (by omega) (by omega) (by omega) _⟩ ?_;clear hF l0 l1 l5 e0 e1 e5 hsz f0 f1 f5 t hy hf lg y HT;rintro t W' ⟨hF,hT⟩;have HT:=hD hT;clear hT;obtain ⟨⟨l0,e0⟩,⟨l1,e1⟩,⟨l5,e5⟩,hsz,f0,f1,f5⟩:=hF.all
  refine wp_seq_h fun K hK=>?_
  apply wp_region_lit
  repeat go_step
  obtain ⟨Z8,hz1⟩:∃ x,Z7+1=x:=⟨_,rfl⟩
  refine hK.out _ _ ?_;clear hK K;refine wp_abw (fun t' W1=>FmN t' g S.length c k Z8∧W1=W') ⟨⟨by simp [hsz],by simp [f0],by simp [hsz,hz1],by simp [f5]⟩,rfl⟩ ?_;clear hF l0 l1 l5 e0 e1 e5 hsz f0 f1 f5 t;rintro t _ ⟨hF,rfl⟩
  have b8:1≤Z8∧Z8≤84000000:=by omega
  have HZ8:=hD hz1;clear hz1 b7;obtain ⟨⟨l0,e0⟩,⟨l1,e1⟩,⟨l5,e5⟩,hsz,f0,f1,f5⟩:=hF.all;obtain ⟨y,hy⟩:=HT.out.s.cell (j:=8) hlt (by omega);have hf:=HT.out.s.frz (k*34+8);have lg:=HT.out.s.lt
  refine wp_seq_h fun K hK=>?_
  apply wp_region_lit
  repeat go_step
  refine hK.out _ _ ?_;clear hK K;refine wp_abw (fun t' W'=>FmN t' g S.length c k Z8∧StN w W' g hi k (k+1) S q g1 g2 false false) ⟨⟨by simp [hsz],by simp [f0],by simp [f1],by simp [f5]⟩,HT.out.put HGL.out 8 (by omega) (by omega) (by omega) _⟩ ?_;clear hF l0 l1 l5 e0 e1 e5 hsz f0 f1 f5 t hy hf lg y HT;rintro t W' ⟨hF,hT⟩;have HT:=hD hT;clear hT;obtain ⟨⟨l0,e0⟩,⟨l1,e1⟩,⟨l5,e5⟩,hsz,f0,f1,f5⟩:=hF.all
  refine wp_seq_h fun K hK=>?_
  apply wp_region_lit
  repeat go_step
  obtain ⟨Z9,hz1⟩:∃ x,Z8+1=x:=⟨_,rfl⟩
  refine hK.out _ _ ?_;clear hK K;refine wp_abw (fun t' W1=>FmN t' g S.length c k Z9∧W1=W') ⟨⟨by simp [hsz],by simp [f0],by simp [hsz,hz1],by simp [f5]⟩,rfl⟩ ?_;clear hF l0 l1 l5 e0 e1 e5 hsz f0 f1 f5 t;rintro t _ ⟨hF,rfl⟩
  have b9:1≤Z9∧Z9≤87000000:=by omega
  have HZ9:=hD hz1;clear hz1 b8;obtain ⟨⟨l0,e0⟩,⟨l1,e1⟩,⟨l5,e5⟩,hsz,f0,f1,f5⟩:=hF.all;obtain ⟨y,hy⟩:=HT.out.s.cell (j:=9) hlt (by omega);have hf:=HT.out.s.frz (k*34+9);have lg:=HT.out.s.lt
  refine wp_seq_h fun K hK=>?_
  apply wp_region_lit
  repeat go_step
  refine hK.out _ _ ?_;clear hK K;refine wp_abw (fun t' W'=>FmN t' g S.length c k Z9∧StN w W' g hi k (k+1) S q g1 g2 false false) ⟨⟨by simp [hsz],by simp [f0],by simp [f1],by simp [f5]⟩,HT.out.put HGL.out 9 (by omega) (by omega) (by omega) _⟩ ?_;clear hF l0 l1 l5 e0 e1 e5 hsz f0 f1 f5 t hy hf lg y HT;rintro t W' ⟨hF,hT⟩;have HT:=hD hT;clear hT;obtain ⟨⟨l0,e0⟩,⟨l1,e1⟩,⟨l5,e5⟩,hsz,f0,f1,f5⟩:=hF.all
  refine wp_seq_h fun K hK=>?_
  apply wp_region_lit
  repeat go_step
  obtain ⟨Z10,hz1⟩:∃ x,Z9+1=x:=⟨_,rfl⟩
  refine hK.out _ _ ?_;clear hK K;refine wp_abw (fun t' W1=>FmN t' g S.length c k Z10∧W1=W') ⟨⟨by simp [hsz],by simp [f0],by simp [hsz,hz1],by simp [f5]⟩,rfl⟩ ?_;clear hF l0 l1 l5 e0 e1 e5 hsz f0 f1 f5 t;rintro t _ ⟨hF,rfl⟩
  have b10:1≤Z10∧Z10≤90000000:=by omega
  have HZ10:=hD hz1;clear hz1 b9;obtain ⟨⟨l0,e0⟩,⟨l1,e1⟩,⟨l5,e5⟩,hsz,f0,f1,f5⟩:=hF.all;obtain ⟨y,hy⟩:=HT.out.s.cell (j:=10) hlt (by omega);have hf:=HT.out.s.frz (k*34+10);have lg:=HT.out.s.lt
  refine wp_seq_h fun K hK=>?_
  apply wp_region_lit
  repeat go_step
  refine hK.out _ _ ?_;clear hK K;refine wp_abw (fun t' W'=>FmN t' g S.length c k Z10∧StN w W' g hi k (k+1) S q g1 g2 false false) ⟨⟨by simp [hsz],by simp [f0],by simp [f1],by simp [f5]⟩,HT.out.put HGL.out 10 (by omega) (by omega) (by omega) _⟩ ?_;clear hF l0 l1 l5 e0 e1 e5 hsz f0 f1 f5 t hy hf lg y HT;rintro t W' ⟨hF,hT⟩;have HT:=hD hT;clear hT
  obtain ⟨⟨l0,e0⟩,⟨l1,e1⟩,⟨l5,e5⟩,hsz,f0,f1,f5⟩:=hF.all
  refine wp_seq_h fun K hK=>?_
  apply wp_region_lit
  repeat go_step
  obtain ⟨Z11,hz1⟩:∃ x,Z10+1=x:=⟨_,rfl⟩
  refine hK.out _ _ ?_;clear hK K;refine wp_abw (fun t' W1=>FmN t' g S.length c k Z11∧W1=W') ⟨⟨by simp [hsz],by simp [f0],by simp [hsz,hz1],by simp [f5]⟩,rfl⟩ ?_;clear hF l0 l1 l5 e0 e1 e5 hsz f0 f1 f5 t;rintro t _ ⟨hF,rfl⟩
  have b11:1≤Z11∧Z11≤93000000:=by omega
  have HZ11:=hD hz1;clear hz1 b10;obtain ⟨⟨l0,e0⟩,⟨l1,e1⟩,⟨l5,e5⟩,hsz,f0,f1,f5⟩:=hF.all;obtain ⟨y,hy⟩:=HT.out.s.cell (j:=11) hlt (by omega);have hf:=HT.out.s.frz (k*34+11);have lg:=HT.out.s.lt
  refine wp_seq_h fun K hK=>?_
  apply wp_region_lit
  repeat go_step
  refine hK.out _ _ ?_;clear hK K;refine wp_abw (fun t' W'=>FmN t' g S.length c k Z11∧StN w W' g hi k (k+1) S q g1 g2 false false) ⟨⟨by simp [hsz],by simp [f0],by simp [f1],by simp [f5]⟩,HT.out.put HGL.out 11 (by omega) (by omega) (by omega) _⟩ ?_;clear hF l0 l1 l5 e0 e1 e5 hsz f0 f1 f5 t hy hf lg y HT;rintro t W' ⟨hF,hT⟩;have HT:=hD hT;clear hT
  obtain ⟨⟨l0,e0⟩,⟨l1,e1⟩,⟨l5,e5⟩,hsz,f0,f1,f5⟩:=hF.all
  refine wp_seq_h fun K hK=>?_
  apply wp_region_lit
  repeat go_step
  obtain ⟨Z12,hz1⟩:∃ x,Z11+1=x:=⟨_,rfl⟩
  refine hK.out _ _ ?_;clear hK K;refine wp_abw (fun t' W1=>FmN t' g S.length c k Z12∧W1=W') ⟨⟨by simp [hsz],by simp [f0],by simp [hsz,hz1],by simp [f5]⟩,rfl⟩ ?_;clear hF l0 l1 l5 e0 e1 e5 hsz f0 f1 f5 t;rintro t _ ⟨hF,rfl⟩
  have b12:1≤Z12∧Z12≤96000000:=by omega
  have HZ12:=hD hz1;clear hz1 b11;obtain ⟨⟨l0,e0⟩,⟨l1,e1⟩,⟨l5,e5⟩,hsz,f0,f1,f5⟩:=hF.all;obtain ⟨y,hy⟩:=HT.out.s.cell (j:=12) hlt (by omega);have hf:=HT.out.s.frz (k*34+12);have lg:=HT.out.s.lt
  refine wp_seq_h fun K hK=>?_
  apply wp_region_lit
  repeat go_step
  refine hK.out _ _ ?_;clear hK K;refine wp_abw (fun t' W'=>FmN t' g S.length c k Z12∧StN w W' g hi k (k+1) S q g1 g2 false false) ⟨⟨by simp [hsz],by simp [f0],by simp [f1],by simp [f5]⟩,HT.out.put HGL.out 12 (by omega) (by omega) (by omega) _⟩ ?_;clear hF l0 l1 l5 e0 e1 e5 hsz f0 f1 f5 t hy hf lg y HT;rintro t W' ⟨hF,hT⟩;have HT:=hD hT;clear hT
  obtain ⟨⟨l0,e0⟩,⟨l1,e1⟩,⟨l5,e5⟩,hsz,f0,f1,f5⟩:=hF.all
  refine wp_seq_h fun K hK=>?_
  apply wp_region_lit
  repeat go_step
  obtain ⟨Z13,hz1⟩:∃ x,Z12+1=x:=⟨_,rfl⟩
  refine hK.out _ _ ?_;clear hK K;refine wp_abw (fun t' W1=>FmN t' g S.length c k Z13∧W1=W') ⟨⟨by simp [hsz],by simp [f0],by simp [hsz,hz1],by simp [f5]⟩,rfl⟩ ?_;clear hF l0 l1 l5 e0 e1 e5 hsz f0 f1 f5 t;rintro t _ ⟨hF,rfl⟩
  have b13:1≤Z13∧Z13≤99000000:=by omega
  have HZ13:=hD hz1;clear hz1 b12;obtain ⟨⟨l0,e0⟩,⟨l1,e1⟩,⟨l5,e5⟩,hsz,f0,f1,f5⟩:=hF.all;obtain ⟨y,hy⟩:=HT.out.s.cell (j:=13) hlt (by omega);have hf:=HT.out.s.frz (k*34+13);have lg:=HT.out.s.lt
  refine wp_seq_h fun K hK=>?_
  apply wp_region_lit
  repeat go_step
  refine hK.out _ _ ?_;clear hK K;refine wp_abw (fun t' W'=>FmN t' g S.length c k Z13∧StN w W' g hi k (k+1) S q g1 g2 false false) ⟨⟨by simp [hsz],by simp [f0],by simp [f1],by simp [f5]⟩,HT.out.put HGL.out 13 (by omega) (by omega) (by omega) _⟩ ?_;clear hF l0 l1 l5 e0 e1 e5 hsz f0 f1 f5 t hy hf lg y HT;rintro t W' ⟨hF,hT⟩;have HT:=hD hT;clear hT
  obtain ⟨⟨l0,e0⟩,⟨l1,e1⟩,⟨l5,e5⟩,hsz,f0,f1,f5⟩:=hF.all
  refine wp_seq_h fun K hK=>?_
  apply wp_region_lit
  repeat go_step
  obtain ⟨Z14,hz1⟩:∃ x,Z13+1=x:=⟨_,rfl⟩
  refine hK.out _ _ ?_;clear hK K;refine wp_abw (fun t' W1=>FmN t' g S.length c k Z14∧W1=W') ⟨⟨by simp [hsz],by simp [f0],by simp [hsz,hz1],by simp [f5]⟩,rfl⟩ ?_;clear hF l0 l1 l5 e0 e1 e5 hsz f0 f1 f5 t;rintro t _ ⟨hF,rfl⟩
  have b14:1≤Z14∧Z14≤102000000:=by omega
  have HZ14:=hD hz1;clear hz1 b13;obtain ⟨⟨l0,e0⟩,⟨l1,e1⟩,⟨l5,e5⟩,hsz,f0,f1,f5⟩:=hF.all;obtain ⟨y,hy⟩:=HT.out.s.cell (j:=14) hlt (by omega);have hf:=HT.out.s.frz (k*34+14);have lg:=HT.out.s.lt
  refine wp_seq_h fun K hK=>?_
  apply wp_region_lit
  repeat go_step
  refine hK.out _ _ ?_;clear hK K;refine wp_abw (fun t' W'=>FmN t' g S.length c k Z14∧StN w W' g hi k (k+1) S q g1 g2 false false) ⟨⟨by simp [hsz],by simp [f0],by simp [f1],by simp [f5]⟩,HT.out.put HGL.out 14 (by omega) (by omega) (by omega) _⟩ ?_;clear hF l0 l1 l5 e0 e1 e5 hsz f0 f1 f5 t hy hf lg y HT;rintro t W' ⟨hF,hT⟩;have HT:=hD hT;clear hT
  obtain ⟨⟨l0,e0⟩,⟨l1,e1⟩,⟨l5,e5⟩,hsz,f0,f1,f5⟩:=hF.all
  refine wp_seq_h fun K hK=>?_
  apply wp_region_lit
  repeat go_step
  obtain ⟨Z15,hz1⟩:∃ x,Z14+1=x:=⟨_,rfl⟩
  refine hK.out _ _ ?_;clear hK K;refine wp_abw (fun t' W1=>FmN t' g S.length c k Z15∧W1=W') ⟨⟨by simp [hsz],by simp [f0],by simp [hsz,hz1],by simp [f5]⟩,rfl⟩ ?_;clear hF l0 l1 l5 e0 e1 e5 hsz f0 f1 f5 t;rintro t _ ⟨hF,rfl⟩
  have b15:1≤Z15∧Z15≤105000000:=by omega
  have HZ15:=hD hz1;clear hz1 b14;obtain ⟨⟨l0,e0⟩,⟨l1,e1⟩,⟨l5,e5⟩,hsz,f0,f1,f5⟩:=hF.all;obtain ⟨y,hy⟩:=HT.out.s.cell (j:=15) hlt (by omega);have hf:=HT.out.s.frz (k*34+15);have lg:=HT.out.s.lt
  refine wp_seq_h fun K hK=>?_
  apply wp_region_lit
  repeat go_step
  refine hK.out _ _ ?_;clear hK K;refine wp_abw (fun t' W'=>FmN t' g S.length c k Z15∧StN w W' g hi k (k+1) S q g1 g2 false false) ⟨⟨by simp [hsz],by simp [f0],by simp [f1],by simp [f5]⟩,HT.out.put HGL.out 15 (by omega) (by omega) (by omega) _⟩ ?_;clear hF l0 l1 l5 e0 e1 e5 hsz f0 f1 f5 t hy hf lg y HT;rintro t W' ⟨hF,hT⟩;have HT:=hD hT;clear hT
  obtain ⟨⟨l0,e0⟩,⟨l1,e1⟩,⟨l5,e5⟩,hsz,f0,f1,f5⟩:=hF.all
  refine wp_seq_h fun K hK=>?_
  apply wp_region_lit
  repeat go_step
  obtain ⟨Z16,hz1⟩:∃ x,Z15+1=x:=⟨_,rfl⟩
  refine hK.out _ _ ?_;clear hK K;refine wp_abw (fun t' W1=>FmN t' g S.length c k Z16∧W1=W') ⟨⟨by simp [hsz],by simp [f0],by simp [hsz,hz1],by simp [f5]⟩,rfl⟩ ?_;clear hF l0 l1 l5 e0 e1 e5 hsz f0 f1 f5 t;rintro t _ ⟨hF,rfl⟩
  have b16:1≤Z16∧Z16≤108000000:=by omega
  have HZ16:=hD hz1;clear hz1 b15;obtain ⟨⟨l0,e0⟩,⟨l1,e1⟩,⟨l5,e5⟩,hsz,f0,f1,f5⟩:=hF.all;obtain ⟨y,hy⟩:=HT.out.s.cell (j:=16) hlt (by omega);have hf:=HT.out.s.frz (k*34+16);have lg:=HT.out.s.lt
  refine wp_seq_h fun K hK=>?_
  apply wp_region_lit
  repeat go_step
  refine hK.out _ _ ?_;clear hK K;refine wp_abw (fun t' W'=>FmN t' g S.length c k Z16∧StN w W' g hi k (k+1) S q g1 g2 false false) ⟨⟨by simp [hsz],by simp [f0],by simp [f1],by simp [f5]⟩,HT.out.put HGL.out 16 (by omega) (by omega) (by omega) _⟩ ?_;clear hF l0 l1 l5 e0 e1 e5 hsz f0 f1 f5 t hy hf lg y HT;rintro t W' ⟨hF,hT⟩;have HT:=hD hT;clear hT
  obtain ⟨⟨l0,e0⟩,⟨l1,e1⟩,⟨l5,e5⟩,hsz,f0,f1,f5⟩:=hF.all
  refine wp_seq_h fun K hK=>?_
  apply wp_region_lit
  repeat go_step
  obtain ⟨Z17,hz1⟩:∃ x,Z16+1=x:=⟨_,rfl⟩
  refine hK.out _ _ ?_;clear hK K;refine wp_abw (fun t' W1=>FmN t' g S.length c k Z17∧W1=W') ⟨⟨by simp [hsz],by simp [f0],by simp [hsz,hz1],by simp [f5]⟩,rfl⟩ ?_;clear hF l0 l1 l5 e0 e1 e5 hsz f0 f1 f5 t;rintro t _ ⟨hF,rfl⟩
  have b17:1≤Z17∧Z17≤111000000:=by omega
  have HZ17:=hD hz1;clear hz1 b16;obtain ⟨⟨l0,e0⟩,⟨l1,e1⟩,⟨l5,e5⟩,hsz,f0,f1,f5⟩:=hF.all;obtain ⟨y,hy⟩:=HT.out.s.cell (j:=17) hlt (by omega);have hf:=HT.out.s.frz (k*34+17);have lg:=HT.out.s.lt
  refine wp_seq_h fun K hK=>?_
  apply wp_region_lit
  repeat go_step
  refine hK.out _ _ ?_;clear hK K;refine wp_abw (fun t' W'=>FmN t' g S.length c k Z17∧StN w W' g hi k (k+1) S q g1 g2 false false) ⟨⟨by simp [hsz],by simp [f0],by simp [f1],by simp [f5]⟩,HT.out.put HGL.out 17 (by omega) (by omega) (by omega) _⟩ ?_;clear hF l0 l1 l5 e0 e1 e5 hsz f0 f1 f5 t hy hf lg y HT;rintro t W' ⟨hF,hT⟩;have HT:=hD hT;clear hT
  obtain ⟨⟨l0,e0⟩,⟨l1,e1⟩,⟨l5,e5⟩,hsz,f0,f1,f5⟩:=hF.all
  refine wp_seq_h fun K hK=>?_
  apply wp_region_lit
  repeat go_step
  obtain ⟨Z18,hz1⟩:∃ x,Z17+1=x:=⟨_,rfl⟩
  refine hK.out _ _ ?_;clear hK K;refine wp_abw (fun t' W1=>FmN t' g S.length c k Z18∧W1=W') ⟨⟨by simp [hsz],by simp [f0],by simp [hsz,hz1],by simp [f5]⟩,rfl⟩ ?_;clear hF l0 l1 l5 e0 e1 e5 hsz f0 f1 f5 t;rintro t _ ⟨hF,rfl⟩
  have b18:1≤Z18∧Z18≤114000000:=by omega
  have HZ18:=hD hz1;clear hz1 b17;obtain ⟨⟨l0,e0⟩,⟨l1,e1⟩,⟨l5,e5⟩,hsz,f0,f1,f5⟩:=hF.all;obtain ⟨y,hy⟩:=HT.out.s.cell (j:=18) hlt (by omega);have hf:=HT.out.s.frz (k*34+18);have lg:=HT.out.s.lt
  refine wp_seq_h fun K hK=>?_
  apply wp_region_lit
  repeat go_step
  refine hK.out _ _ ?_;clear hK K;refine wp_abw (fun t' W'=>FmN t' g S.length c k Z18∧StN w W' g hi k (k+1) S q g1 g2 false false) ⟨⟨by simp [hsz],by simp [f0],by simp [f1],by simp [f5]⟩,HT.out.put HGL.out 18 (by omega) (by omega) (by omega) _⟩ ?_;clear hF l0 l1 l5 e0 e1 e5 hsz f0 f1 f5 t hy hf lg y HT;rintro t W' ⟨hF,hT⟩;have HT:=hD hT;clear hT
  obtain ⟨⟨l0,e0⟩,⟨l1,e1⟩,⟨l5,e5⟩,hsz,f0,f1,f5⟩:=hF.all
  refine wp_seq_h fun K hK=>?_
  apply wp_region_lit
  repeat go_step
  obtain ⟨Z19,hz1⟩:∃ x,Z18+1=x:=⟨_,rfl⟩
  refine hK.out _ _ ?_;clear hK K;refine wp_abw (fun t' W1=>FmN t' g S.length c k Z19∧W1=W') ⟨⟨by simp [hsz],by simp [f0],by simp [hsz,hz1],by simp [f5]⟩,rfl⟩ ?_;clear hF l0 l1 l5 e0 e1 e5 hsz f0 f1 f5 t;rintro t _ ⟨hF,rfl⟩
  have b19:1≤Z19∧Z19≤117000000:=by omega
  have HZ19:=hD hz1;clear hz1 b18;obtain ⟨⟨l0,e0⟩,⟨l1,e1⟩,⟨l5,e5⟩,hsz,f0,f1,f5⟩:=hF.all;obtain ⟨y,hy⟩:=HT.out.s.cell (j:=19) hlt (by omega);have hf:=HT.out.s.frz (k*34+19);have lg:=HT.out.s.lt
  refine wp_seq_h fun K hK=>?_
  apply wp_region_lit
  repeat go_step
  refine hK.out _ _ ?_;clear hK K;refine wp_abw (fun t' W'=>FmN t' g S.length c k Z19∧StN w W' g hi k (k+1) S q g1 g2 false false) ⟨⟨by simp [hsz],by simp [f0],by simp [f1],by simp [f5]⟩,HT.out.put HGL.out 19 (by omega) (by omega) (by omega) _⟩ ?_;clear hF l0 l1 l5 e0 e1 e5 hsz f0 f1 f5 t hy hf lg y HT;rintro t W' ⟨hF,hT⟩;have HT:=hD hT;clear hT
  obtain ⟨⟨l0,e0⟩,⟨l1,e1⟩,⟨l5,e5⟩,hsz,f0,f1,f5⟩:=hF.all
  refine wp_seq_h fun K hK=>?_
  apply wp_region_lit
  repeat go_step
  obtain ⟨Z20,hz1⟩:∃ x,Z19+1=x:=⟨_,rfl⟩
  refine hK.out _ _ ?_;clear hK K;refine wp_abw (fun t' W1=>FmN t' g S.length c k Z20∧W1=W') ⟨⟨by simp [hsz],by simp [f0],by simp [hsz,hz1],by simp [f5]⟩,rfl⟩ ?_;clear hF l0 l1 l5 e0 e1 e5 hsz f0 f1 f5 t;rintro t _ ⟨hF,rfl⟩
  have b20:1≤Z20∧Z20≤120000000:=by omega
  have HZ20:=hD hz1;clear hz1 b19;obtain ⟨⟨l0,e0⟩,⟨l1,e1⟩,⟨l5,e5⟩,hsz,f0,f1,f5⟩:=hF.all;obtain ⟨y,hy⟩:=HT.out.s.cell (j:=20) hlt (by omega);have hf:=HT.out.s.frz (k*34+20);have lg:=HT.out.s.lt
  refine wp_seq_h fun K hK=>?_
  apply wp_region_lit
  repeat go_step
  refine hK.out _ _ ?_;clear hK K;refine wp_abw (fun t' W'=>FmN t' g S.length c k Z20∧StN w W' g hi k (k+1) S q g1 g2 false false) ⟨⟨by simp [hsz],by simp [f0],by simp [f1],by simp [f5]⟩,HT.out.put HGL.out 20 (by omega) (by omega) (by omega) _⟩ ?_;clear hF l0 l1 l5 e0 e1 e5 hsz f0 f1 f5 t hy hf lg y HT;rintro t W' ⟨hF,hT⟩;have HT:=hD hT;clear hT
  obtain ⟨⟨l0,e0⟩,⟨l1,e1⟩,⟨l5,e5⟩,hsz,f0,f1,f5⟩:=hF.all
  refine wp_seq_h fun K hK=>?_
  apply wp_region_lit
  repeat go_step
  obtain ⟨Z21,hz1⟩:∃ x,Z20+1=x:=⟨_,rfl⟩
  refine hK.out _ _ ?_;clear hK K;refine wp_abw (fun t' W1=>FmN t' g S.length c k Z21∧W1=W') ⟨⟨by simp [hsz],by simp [f0],by simp [hsz,hz1],by simp [f5]⟩,rfl⟩ ?_;clear hF l0 l1 l5 e0 e1 e5 hsz f0 f1 f5 t;rintro t _ ⟨hF,rfl⟩
  have b21:1≤Z21∧Z21≤123000000:=by omega
  have HZ21:=hD hz1;clear hz1 b20;obtain ⟨⟨l0,e0⟩,⟨l1,e1⟩,⟨l5,e5⟩,hsz,f0,f1,f5⟩:=hF.all;obtain ⟨y,hy⟩:=HT.out.s.cell (j:=21) hlt (by omega);have hf:=HT.out.s.frz (k*34+21);have lg:=HT.out.s.lt
  refine wp_seq_h fun K hK=>?_
  apply wp_region_lit
  repeat go_step
  refine hK.out _ _ ?_;clear hK K;refine wp_abw (fun t' W'=>FmN t' g S.length c k Z21∧StN w W' g hi k (k+1) S q g1 g2 false false) ⟨⟨by simp [hsz],by simp [f0],by simp [f1],by simp [f5]⟩,HT.out.put HGL.out 21 (by omega) (by omega) (by omega) _⟩ ?_;clear hF l0 l1 l5 e0 e1 e5 hsz f0 f1 f5 t hy hf lg y HT;rintro t W' ⟨hF,hT⟩;have HT:=hD hT;clear hT
  obtain ⟨⟨l0,e0⟩,⟨l1,e1⟩,⟨l5,e5⟩,hsz,f0,f1,f5⟩:=hF.all
  refine wp_seq_h fun K hK=>?_
  apply wp_region_lit
  repeat go_step
  obtain ⟨Z22,hz1⟩:∃ x,Z21+1=x:=⟨_,rfl⟩
  refine hK.out _ _ ?_;clear hK K;refine wp_abw (fun t' W1=>FmN t' g S.length c k Z22∧W1=W') ⟨⟨by simp [hsz],by simp [f0],by simp [hsz,hz1],by simp [f5]⟩,rfl⟩ ?_;clear hF l0 l1 l5 e0 e1 e5 hsz f0 f1 f5 t;rintro t _ ⟨hF,rfl⟩
  have b22:1≤Z22∧Z22≤126000000:=by omega
  have HZ22:=hD hz1;clear hz1 b21;obtain ⟨⟨l0,e0⟩,⟨l1,e1⟩,⟨l5,e5⟩,hsz,f0,f1,f5⟩:=hF.all;obtain ⟨y,hy⟩:=HT.out.s.cell (j:=22) hlt (by omega);have hf:=HT.out.s.frz (k*34+22);have lg:=HT.out.s.lt
  refine wp_seq_h fun K hK=>?_
  apply wp_region_lit
  repeat go_step
  refine hK.out _ _ ?_;clear hK K;refine wp_abw (fun t' W'=>FmN t' g S.length c k Z22∧StN w W' g hi k (k+1) S q g1 g2 false false) ⟨⟨by simp [hsz],by simp [f0],by simp [f1],by simp [f5]⟩,HT.out.put HGL.out 22 (by omega) (by omega) (by omega) _⟩ ?_;clear hF l0 l1 l5 e0 e1 e5 hsz f0 f1 f5 t hy hf lg y HT;rintro t W' ⟨hF,hT⟩;have HT:=hD hT;clear hT
  obtain ⟨⟨l0,e0⟩,⟨l1,e1⟩,⟨l5,e5⟩,hsz,f0,f1,f5⟩:=hF.all
  refine wp_seq_h fun K hK=>?_
  apply wp_region_lit
  repeat go_step
  obtain ⟨Z23,hz1⟩:∃ x,Z22+1=x:=⟨_,rfl⟩
  refine hK.out _ _ ?_;clear hK K;refine wp_abw (fun t' W1=>FmN t' g S.length c k Z23∧W1=W') ⟨⟨by simp [hsz],by simp [f0],by simp [hsz,hz1],by simp [f5]⟩,rfl⟩ ?_;clear hF l0 l1 l5 e0 e1 e5 hsz f0 f1 f5 t;rintro t _ ⟨hF,rfl⟩
  have b23:1≤Z23∧Z23≤129000000:=by omega
  have HZ23:=hD hz1;clear hz1 b22;obtain ⟨⟨l0,e0⟩,⟨l1,e1⟩,⟨l5,e5⟩,hsz,f0,f1,f5⟩:=hF.all;obtain ⟨y,hy⟩:=HT.out.s.cell (j:=23) hlt (by omega);have hf:=HT.out.s.frz (k*34+23);have lg:=HT.out.s.lt
  refine wp_seq_h fun K hK=>?_
  apply wp_region_lit
  repeat go_step
  refine hK.out _ _ ?_;clear hK K;refine wp_abw (fun t' W'=>FmN t' g S.length c k Z23∧StN w W' g hi k (k+1) S q g1 g2 false false) ⟨⟨by simp [hsz],by simp [f0],by simp [f1],by simp [f5]⟩,HT.out.put HGL.out 23 (by omega) (by omega) (by omega) _⟩ ?_;clear hF l0 l1 l5 e0 e1 e5 hsz f0 f1 f5 t hy hf lg y HT;rintro t W' ⟨hF,hT⟩;have HT:=hD hT;clear hT
  obtain ⟨⟨l0,e0⟩,⟨l1,e1⟩,⟨l5,e5⟩,hsz,f0,f1,f5⟩:=hF.all
  refine wp_seq_h fun K hK=>?_
  apply wp_region_lit
  repeat go_step
  obtain ⟨Z24,hz1⟩:∃ x,Z23+1=x:=⟨_,rfl⟩
  refine hK.out _ _ ?_;clear hK K;refine wp_abw (fun t' W1=>FmN t' g S.length c k Z24∧W1=W') ⟨⟨by simp [hsz],by simp [f0],by simp [hsz,hz1],by simp [f5]⟩,rfl⟩ ?_;clear hF l0 l1 l5 e0 e1 e5 hsz f0 f1 f5 t;rintro t _ ⟨hF,rfl⟩
  have b24:1≤Z24∧Z24≤132000000:=by omega
  have HZ24:=hD hz1;clear hz1 b23;obtain ⟨⟨l0,e0⟩,⟨l1,e1⟩,⟨l5,e5⟩,hsz,f0,f1,f5⟩:=hF.all;obtain ⟨y,hy⟩:=HT.out.s.cell (j:=24) hlt (by omega);have hf:=HT.out.s.frz (k*34+24);have lg:=HT.out.s.lt
  refine wp_seq_h fun K hK=>?_
  apply wp_region_lit
  repeat go_step
  refine hK.out _ _ ?_;clear hK K;refine wp_abw (fun t' W'=>FmN t' g S.length c k Z24∧StN w W' g hi k (k+1) S q g1 g2 false false) ⟨⟨by simp [hsz],by simp [f0],by simp [f1],by simp [f5]⟩,HT.out.put HGL.out 24 (by omega) (by omega) (by omega) _⟩ ?_;clear hF l0 l1 l5 e0 e1 e5 hsz f0 f1 f5 t hy hf lg y HT;rintro t W' ⟨hF,hT⟩;have HT:=hD hT;clear hT
  obtain ⟨⟨l0,e0⟩,⟨l1,e1⟩,⟨l5,e5⟩,hsz,f0,f1,f5⟩:=hF.all
  refine wp_seq_h fun K hK=>?_
  apply wp_region_lit
  repeat go_step
  obtain ⟨Z25,hz1⟩:∃ x,Z24+1=x:=⟨_,rfl⟩
  refine hK.out _ _ ?_;clear hK K;refine wp_abw (fun t' W1=>FmN t' g S.length c k Z25∧W1=W') ⟨⟨by simp [hsz],by simp [f0],by simp [hsz,hz1],by simp [f5]⟩,rfl⟩ ?_;clear hF l0 l1 l5 e0 e1 e5 hsz f0 f1 f5 t;rintro t _ ⟨hF,rfl⟩
  have b25:1≤Z25∧Z25≤135000000:=by omega
  have HZ25:=hD hz1;clear hz1 b24;obtain ⟨⟨l0,e0⟩,⟨l1,e1⟩,⟨l5,e5⟩,hsz,f0,f1,f5⟩:=hF.all;obtain ⟨y,hy⟩:=HT.out.s.cell (j:=25) hlt (by omega);have hf:=HT.out.s.frz (k*34+25);have lg:=HT.out.s.lt
  refine wp_seq_h fun K hK=>?_
  apply wp_region_lit
  repeat go_step
  refine hK.out _ _ ?_;clear hK K;refine wp_abw (fun t' W'=>FmN t' g S.length c k Z25∧StN w W' g hi k (k+1) S q g1 g2 false false) ⟨⟨by simp [hsz],by simp [f0],by simp [f1],by simp [f5]⟩,HT.out.put HGL.out 25 (by omega) (by omega) (by omega) _⟩ ?_;clear hF l0 l1 l5 e0 e1 e5 hsz f0 f1 f5 t hy hf lg y HT;rintro t W' ⟨hF,hT⟩;have HT:=hD hT;clear hT
  obtain ⟨⟨l0,e0⟩,⟨l1,e1⟩,⟨l5,e5⟩,hsz,f0,f1,f5⟩:=hF.all
  refine wp_seq_h fun K hK=>?_
  apply wp_region_lit
  repeat go_step
  obtain ⟨Z26,hz1⟩:∃ x,Z25+1=x:=⟨_,rfl⟩
  refine hK.out _ _ ?_;clear hK K;refine wp_abw (fun t' W1=>FmN t' g S.length c k Z26∧W1=W') ⟨⟨by simp [hsz],by simp [f0],by simp [hsz,hz1],by simp [f5]⟩,rfl⟩ ?_;clear hF l0 l1 l5 e0 e1 e5 hsz f0 f1 f5 t;rintro t _ ⟨hF,rfl⟩
  have b26:1≤Z26∧Z26≤138000000:=by omega
  have HZ26:=hD hz1;clear hz1 b25;obtain ⟨⟨l0,e0⟩,⟨l1,e1⟩,⟨l5,e5⟩,hsz,f0,f1,f5⟩:=hF.all;obtain ⟨y,hy⟩:=HT.out.s.cell (j:=26) hlt (by omega);have hf:=HT.out.s.frz (k*34+26);have lg:=HT.out.s.lt
  refine wp_seq_h fun K hK=>?_
  apply wp_region_lit
  repeat go_step
  refine hK.out _ _ ?_;clear hK K;refine wp_abw (fun t' W'=>FmN t' g S.length c k Z26∧StN w W' g hi k (k+1) S q g1 g2 false false) ⟨⟨by simp [hsz],by simp [f0],by simp [f1],by simp [f5]⟩,HT.out.put HGL.out 26 (by omega) (by omega) (by omega) _⟩ ?_;clear hF l0 l1 l5 e0 e1 e5 hsz f0 f1 f5 t hy hf lg y HT;rintro t W' ⟨hF,hT⟩;have HT:=hD hT;clear hT
  obtain ⟨⟨l0,e0⟩,⟨l1,e1⟩,⟨l5,e5⟩,hsz,f0,f1,f5⟩:=hF.all
  refine wp_seq_h fun K hK=>?_
  apply wp_region_lit
  repeat go_step
  obtain ⟨Z27,hz1⟩:∃ x,Z26+1=x:=⟨_,rfl⟩
  refine hK.out _ _ ?_;clear hK K;refine wp_abw (fun t' W1=>FmN t' g S.length c k Z27∧W1=W') ⟨⟨by simp [hsz],by simp [f0],by simp [hsz,hz1],by simp [f5]⟩,rfl⟩ ?_;clear hF l0 l1 l5 e0 e1 e5 hsz f0 f1 f5 t;rintro t _ ⟨hF,rfl⟩
  have b27:1≤Z27∧Z27≤141000000:=by omega
  have HZ27:=hD hz1;clear hz1 b26;obtain ⟨⟨l0,e0⟩,⟨l1,e1⟩,⟨l5,e5⟩,hsz,f0,f1,f5⟩:=hF.all;obtain ⟨y,hy⟩:=HT.out.s.cell (j:=27) hlt (by omega);have hf:=HT.out.s.frz (k*34+27);have lg:=HT.out.s.lt
  refine wp_seq_h fun K hK=>?_
  apply wp_region_lit
  repeat go_step
  refine hK.out _ _ ?_;clear hK K;refine wp_abw (fun t' W'=>FmN t' g S.length c k Z27∧StN w W' g hi k (k+1) S q g1 g2 false false) ⟨⟨by simp [hsz],by simp [f0],by simp [f1],by simp [f5]⟩,HT.out.put HGL.out 27 (by omega) (by omega) (by omega) _⟩ ?_;clear hF l0 l1 l5 e0 e1 e5 hsz f0 f1 f5 t hy hf lg y HT;rintro t W' ⟨hF,hT⟩;have HT:=hD hT;clear hT
  obtain ⟨⟨l0,e0⟩,⟨l1,e1⟩,⟨l5,e5⟩,hsz,f0,f1,f5⟩:=hF.all
  refine wp_seq_h fun K hK=>?_
  apply wp_region_lit
  repeat go_step
  obtain ⟨Z28,hz1⟩:∃ x,Z27+1=x:=⟨_,rfl⟩
  refine hK.out _ _ ?_;clear hK K;refine wp_abw (fun t' W1=>FmN t' g S.length c k Z28∧W1=W') ⟨⟨by simp [hsz],by simp [f0],by simp [hsz,hz1],by simp [f5]⟩,rfl⟩ ?_;clear hF l0 l1 l5 e0 e1 e5 hsz f0 f1 f5 t;rintro t _ ⟨hF,rfl⟩
  have b28:1≤Z28∧Z28≤144000000:=by omega
  have HZ28:=hD hz1;clear hz1 b27;obtain ⟨⟨l0,e0⟩,⟨l1,e1⟩,⟨l5,e5⟩,hsz,f0,f1,f5⟩:=hF.all;obtain ⟨y,hy⟩:=HT.out.s.cell (j:=28) hlt (by omega);have hf:=HT.out.s.frz (k*34+28);have lg:=HT.out.s.lt
  refine wp_seq_h fun K hK=>?_
  apply wp_region_lit
  repeat go_step
  refine hK.out _ _ ?_;clear hK K;refine wp_abw (fun t' W'=>FmN t' g S.length c k Z28∧StN w W' g hi k (k+1) S q g1 g2 false false) ⟨⟨by simp [hsz],by simp [f0],by simp [f1],by simp [f5]⟩,HT.out.put HGL.out 28 (by omega) (by omega) (by omega) _⟩ ?_;clear hF l0 l1 l5 e0 e1 e5 hsz f0 f1 f5 t hy hf lg y HT;rintro t W' ⟨hF,hT⟩;have HT:=hD hT;clear hT
  obtain ⟨⟨l0,e0⟩,⟨l1,e1⟩,⟨l5,e5⟩,hsz,f0,f1,f5⟩:=hF.all
  refine wp_seq_h fun K hK=>?_
  apply wp_region_lit
  repeat go_step
  obtain ⟨Z29,hz1⟩:∃ x,Z28+1=x:=⟨_,rfl⟩
  refine hK.out _ _ ?_;clear hK K;refine wp_abw (fun t' W1=>FmN t' g S.length c k Z29∧W1=W') ⟨⟨by simp [hsz],by simp [f0],by simp [hsz,hz1],by simp [f5]⟩,rfl⟩ ?_;clear hF l0 l1 l5 e0 e1 e5 hsz f0 f1 f5 t;rintro t _ ⟨hF,rfl⟩
  have b29:1≤Z29∧Z29≤147000000:=by omega
  have HZ29:=hD hz1;clear hz1 b28;obtain ⟨⟨l0,e0⟩,⟨l1,e1⟩,⟨l5,e5⟩,hsz,f0,f1,f5⟩:=hF.all;obtain ⟨y,hy⟩:=HT.out.s.cell (j:=29) hlt (by omega);have hf:=HT.out.s.frz (k*34+29);have lg:=HT.out.s.lt
  refine wp_seq_h fun K hK=>?_
  apply wp_region_lit
  repeat go_step
  refine hK.out _ _ ?_;clear hK K;refine wp_abw (fun t' W'=>FmN t' g S.length c k Z29∧StN w W' g hi k (k+1) S q g1 g2 false false) ⟨⟨by simp [hsz],by simp [f0],by simp [f1],by simp [f5]⟩,HT.out.put HGL.out 29 (by omega) (by omega) (by omega) _⟩ ?_;clear hF l0 l1 l5 e0 e1 e5 hsz f0 f1 f5 t hy hf lg y HT;rintro t W' ⟨hF,hT⟩;have HT:=hD hT;clear hT
  obtain ⟨⟨l0,e0⟩,⟨l1,e1⟩,⟨l5,e5⟩,hsz,f0,f1,f5⟩:=hF.all
  refine wp_seq_h fun K hK=>?_
  apply wp_region_lit
  repeat go_step
  obtain ⟨Z30,hz1⟩:∃ x,Z29+1=x:=⟨_,rfl⟩
  refine hK.out _ _ ?_;clear hK K;refine wp_abw (fun t' W1=>FmN t' g S.length c k Z30∧W1=W') ⟨⟨by simp [hsz],by simp [f0],by simp [hsz,hz1],by simp [f5]⟩,rfl⟩ ?_;clear hF l0 l1 l5 e0 e1 e5 hsz f0 f1 f5 t;rintro t _ ⟨hF,rfl⟩
  have b30:1≤Z30∧Z30≤150000000:=by omega
  have HZ30:=hD hz1;clear hz1 b29;obtain ⟨⟨l0,e0⟩,⟨l1,e1⟩,⟨l5,e5⟩,hsz,f0,f1,f5⟩:=hF.all;obtain ⟨y,hy⟩:=HT.out.s.cell (j:=30) hlt (by omega);have hf:=HT.out.s.frz (k*34+30);have lg:=HT.out.s.lt
  refine wp_seq_h fun K hK=>?_
  apply wp_region_lit
  repeat go_step
  refine hK.out _ _ ?_;clear hK K;refine wp_abw (fun t' W'=>FmN t' g S.length c k Z30∧StN w W' g hi k (k+1) S q g1 g2 false false) ⟨⟨by simp [hsz],by simp [f0],by simp [f1],by simp [f5]⟩,HT.out.put HGL.out 30 (by omega) (by omega) (by omega) _⟩ ?_;clear hF l0 l1 l5 e0 e1 e5 hsz f0 f1 f5 t hy hf lg y HT;rintro t W' ⟨hF,hT⟩;have HT:=hD hT;clear hT
  obtain ⟨⟨l0,e0⟩,⟨l1,e1⟩,⟨l5,e5⟩,hsz,f0,f1,f5⟩:=hF.all
  refine wp_seq_h fun K hK=>?_
  apply wp_region_lit
  repeat go_step
  obtain ⟨Z31,hz1⟩:∃ x,Z30+1=x:=⟨_,rfl⟩
  refine hK.out _ _ ?_;clear hK K;refine wp_abw (fun t' W1=>FmN t' g S.length c k Z31∧W1=W') ⟨⟨by simp [hsz],by simp [f0],by simp [hsz,hz1],by simp [f5]⟩,rfl⟩ ?_;clear hF l0 l1 l5 e0 e1 e5 hsz f0 f1 f5 t;rintro t _ ⟨hF,rfl⟩
  have b31:1≤Z31∧Z31≤153000000:=by omega
  have HZ31:=hD hz1;clear hz1 b30;obtain ⟨⟨l0,e0⟩,⟨l1,e1⟩,⟨l5,e5⟩,hsz,f0,f1,f5⟩:=hF.all;obtain ⟨y,hy⟩:=HT.out.s.cell (j:=31) hlt (by omega);have hf:=HT.out.s.frz (k*34+31);have lg:=HT.out.s.lt
  refine wp_seq_h fun K hK=>?_
  apply wp_region_lit
  repeat go_step
  refine hK.out _ _ ?_;clear hK K;refine wp_abw (fun t' W'=>FmN t' g S.length c k Z31∧StN w W' g hi k (k+1) S q g1 g2 false false) ⟨⟨by simp [hsz],by simp [f0],by simp [f1],by simp [f5]⟩,HT.out.put HGL.out 31 (by omega) (by omega) (by omega) _⟩ ?_;clear hF l0 l1 l5 e0 e1 e5 hsz f0 f1 f5 t hy hf lg y HT;rintro t W' ⟨hF,hT⟩;have HT:=hD hT;clear hT
  obtain ⟨⟨l0,e0⟩,⟨l1,e1⟩,⟨l5,e5⟩,hsz,f0,f1,f5⟩:=hF.all
  refine wp_seq_h fun K hK=>?_
  apply wp_region_lit
  repeat go_step
  obtain ⟨Z32,hz1⟩:∃ x,Z31+1=x:=⟨_,rfl⟩
  refine hK.out _ _ ?_;clear hK K;refine wp_abw (fun t' W1=>FmN t' g S.length c k Z32∧W1=W') ⟨⟨by simp [hsz],by simp [f0],by simp [hsz,hz1],by simp [f5]⟩,rfl⟩ ?_;clear hF l0 l1 l5 e0 e1 e5 hsz f0 f1 f5 t;rintro t _ ⟨hF,rfl⟩
  have b32:1≤Z32∧Z32≤156000000:=by omega
  have HZ32:=hD hz1;clear hz1 b31;obtain ⟨⟨l0,e0⟩,⟨l1,e1⟩,⟨l5,e5⟩,hsz,f0,f1,f5⟩:=hF.all;obtain ⟨y,hy⟩:=HT.out.s.cell (j:=32) hlt (by omega);have hf:=HT.out.s.frz (k*34+32);have lg:=HT.out.s.lt
  refine wp_seq_h fun K hK=>?_
  apply wp_region_lit
  repeat go_step
  refine hK.out _ _ ?_;clear hK K;refine wp_abw (fun t' W'=>FmN t' g S.length c k Z32∧StN w W' g hi k (k+1) S q g1 g2 false false) ⟨⟨by simp [hsz],by simp [f0],by simp [f1],by simp [f5]⟩,HT.out.put HGL.out 32 (by omega) (by omega) (by omega) _⟩ ?_;clear hF l0 l1 l5 e0 e1 e5 hsz f0 f1 f5 t hy hf lg y HT;rintro t W' ⟨hF,hT⟩;have HT:=hD hT;clear hT
  obtain ⟨⟨l0,e0⟩,⟨l1,e1⟩,⟨l5,e5⟩,hsz,f0,f1,f5⟩:=hF.all
  refine wp_seq_h fun K hK=>?_
  apply wp_region_lit
  repeat go_step
  obtain ⟨Z33,hz1⟩:∃ x,Z32+1=x:=⟨_,rfl⟩
  refine hK.out _ _ ?_;clear hK K;refine wp_abw (fun t' W1=>FmN t' g S.length c k Z33∧W1=W') ⟨⟨by simp [hsz],by simp [f0],by simp [hsz,hz1],by simp [f5]⟩,rfl⟩ ?_;clear hF l0 l1 l5 e0 e1 e5 hsz f0 f1 f5 t;rintro t _ ⟨hF,rfl⟩
  have b33:1≤Z33∧Z33≤159000000:=by omega
  have HZ33:=hD hz1;clear hz1 b32;obtain ⟨⟨l0,e0⟩,⟨l1,e1⟩,⟨l5,e5⟩,hsz,f0,f1,f5⟩:=hF.all;obtain ⟨y,hy⟩:=HT.out.s.cell (j:=33) hlt (by omega);have hf:=HT.out.s.frz (k*34+33);have lg:=HT.out.s.lt
  refine wp_seq_h fun K hK=>?_
  apply wp_region_lit
  repeat go_step
  refine hK.out _ _ ?_;clear hK K;refine wp_abw (fun t' W'=>FmN t' g S.length c k Z33∧StN w W' g hi k (k+1) S q g1 g2 false false) ⟨⟨by simp [hsz],by simp [f0],by simp [f1],by simp [f5]⟩,HT.out.put HGL.out 33 (by omega) (by omega) (by omega) _⟩ ?_;clear hF l0 l1 l5 e0 e1 e5 hsz f0 f1 f5 t hy hf lg y HT;rintro t W' ⟨hF,hT⟩;have HT:=hD hT;clear hT
  obtain ⟨⟨l0,e0⟩,⟨l1,e1⟩,⟨l5,e5⟩,hsz,f0,f1,f5⟩:=hF.all;apply wp_region_lit
  repeat go_step
  obtain ⟨Z34,hz1⟩:∃ x,Z33+1=x:=⟨_,rfl⟩
  try simp only [Exit.inBlock]
  refine hKB.out _ _ ?_;clear hKB KB;refine wp_abw (fun t' W1=>FmN t' g S.length c k Z34∧W1=W') ⟨⟨by simp [hsz],by simp [f0],by simp [hsz,hz1],by simp [f5]⟩,rfl⟩ ?_;clear hF l0 l1 l5 e0 e1 e5 hsz f0 f1 f5 t;rintro t _ ⟨hF,rfl⟩;have HZ34:=hD hz1;clear hz1;obtain ⟨⟨l0,e0⟩,⟨l1,e1⟩,⟨l5,e5⟩,hsz,f0,f1,f5⟩:=hF.all;apply wp_region_lit
  repeat go_step
  try simp only [Exit.then]
  refine ⟨⟨_,k+1,rfl,by omega,⟨by simp [hsz],by simp [f0],?_,by simp [hsz]⟩,HT.out.s,HT.out.l,HT.out.i⟩,?_⟩
  ·rw [HST.out]
   have:=HZ0.out
   have:=HMW.out
   have q1:=HZ1.out;have q2:=HZ2.out;have q3:=HZ3.out;have q4:=HZ4.out;have q5:=HZ5.out;have q6:=HZ6.out;have q7:=HZ7.out;have q8:=HZ8.out;have q9:=HZ9.out;have q10:=HZ10.out;have q11:=HZ11.out;have q12:=HZ12.out;have q13:=HZ13.out;have q14:=HZ14.out;have q15:=HZ15.out;have q16:=HZ16.out;have q17:=HZ17.out;have q18:=HZ18.out;have q19:=HZ19.out;have q20:=HZ20.out;have q21:=HZ21.out
   have q22:=HZ22.out;have q23:=HZ23.out;have q24:=HZ24.out;have q25:=HZ25.out;have q26:=HZ26.out;have q27:=HZ27.out;have q28:=HZ28.out;have q29:=HZ29.out;have q30:=HZ30.out;have q31:=HZ31.out;have q32:=HZ32.out;have q33:=HZ33.out;have q34:=HZ34.out
   have hv:Z34=z+(mkS (S.take k)+mkW q):=by unfold mkW at *;omega
   simp [f1,hv]
  ·simp [hsz,intOf]
   omega
 ·have hd:decide ((k:Int)<(S.length:Int))=false:=decide_eq_false (by omega)
  obtain rfl:k=S.length:=by omega
  rw [List.take_length] at hF;obtain ⟨⟨l0,e0⟩,⟨l1,e1⟩,⟨l5,e5⟩,hsz,f0,f1,f5⟩:=hF.all
  refine wp_seq_h fun K1 hK1=>?_
  refine wp_seq_h fun K hK=>?_
  apply wp_region_lit
  repeat go_step
  refine hK.out _ _ ?_;clear hK K;refine wp_cond_false (by simp [Act.eval,hsz]) ?_;apply wp_exit;simp only [Exit.then,Exit.inBlock,if_true];refine hKE.out _ _ ?_
  repeat go_step
  refine bodyPost_ret (results_tmp rfl _ _ _) rfl ?_;exact ⟨by simp [hsz],HW.out⟩
theorem OB.sameL {w w':World} {g cap:Nat} {L:List Int} (h:OB w g cap L) (e:w'.heap[g]?=w.heap[g]?):OB w' g cap L:=by
 obtain ⟨hl,cs,hh,hs,hc⟩:=h;exact ⟨hl,cs,e.trans hh,hs,hc⟩
theorem OB.nr {w:World} {g cap n:Nat} {L:List Int} (h:OB w g cap L) (hn:n=L.length) (m:Nat):NR w (.slice (some ⟨g,0,none⟩) n m) L:=⟨_,m,by rw [hn],h.nv⟩
def MKo (k:Int) (n:Nat):List Int:=(List.range n).map (fun i:Nat=>(i:Int)+k)
theorem MKo_len (k:Int) (n:Nat):(MKo k n).length=n:=by simp [MKo]
theorem MKo_get {k:Int} {n i:Nat} (h:i<n):(MKo k n)[i]?=some ((i:Int)+k):=by simp [MKo,h]
theorem drop_consO {L:List Int} {k:Nat} {x:Int} (h:L[k]?=some x):L.drop k=x :: L.drop (k+1):=by
 obtain ⟨hk,e⟩:=List.getElem?_eq_some_iff.1 h;rw [List.drop_eq_getElem_cons hk,e]
theorem set_hereO {A B:List Int} {n:Nat} {y x:Int} (h:A.length=n):(A ++ y :: B).set n x=A ++ x :: B:=by
 subst h;simp
theorem markO (g cap n:Nat) (k:Int) (M:List Int) (w:World) (h:OB w g cap M) (hn:n=M.length) (hL:n≤1048576) (hk0:0≤k) (hk1:k≤10000000) :
  Calls Tryz.prog 15 #[.slice (some ⟨g,0,none⟩) n cap,.int .i64 k] w fun e w'=>e=.returned (.int .i64 (k+(n:Int)))∧OB w' g cap (MKo k n)∧w.grownBy w' (some g):=by
 subst hn;have HI:=hD h;clear h
 go_enter Tryz.func15,Tryz.ntmps15
 go_wp2_with fail
 go_loopw [1,5] (fun kv i wr=>∃ j:Nat,j≤M.length∧i=.int .i64 j∧kv=.int .i64 (k+(j:Int))∧OB wr g cap ((MKo k M.length).take j ++ M.drop j)∧w.grownBy wr (some g)) (fun _ i _=>M.length-(intOf i).toNat)
 case atStart=>exact ⟨0,by omega,rfl,by simp,by simpa using HI.out,greflI _ _⟩
 case round =>
  obtain ⟨j,hj,rfl,rfl,hI,hgr⟩:=hrel;clear HI
  by_cases hlt:j<M.length
  ·have hd:decide ((j:Int)<(M.length:Int))=true:=by simpa using hlt
   have hget:M[j]?=some M[j]:=List.getElem?_eq_getElem hlt;have hdr:=drop_consO hget;rw [hdr] at hI
   have hlk:((MKo k M.length).take j).length=j:=by rw [List.length_take,MKo_len];omega
   have d0:=hI.cell (i:=j) (x:=M[j]) (by rw [List.getElem?_append_right (by omega),hlk,Nat.sub_self];rfl);have f0:=hI.frozen j;have hI2:=hI.set j (k+(j:Int)) (by rw [List.length_append,hlk,List.length_cons];omega);rw [set_hereO hlk] at hI2
   have e3:(MKo k M.length).take j ++ (k+(j:Int)) :: M.drop (j+1)=(MKo k M.length).take (j+1) ++ M.drop (j+1):=by
    have h1:=MKo_get (k:=k) hlt;obtain ⟨h2,h3⟩:=List.getElem?_eq_some_iff.1 h1;rw [List.take_succ_eq_append_getElem h2,h3];simp [Int.add_comm]
   rw [e3] at hI2;have HI2:=hD hI2;have HG2:=hD (gsetI hgr j (.int .i64 (k+(j:Int))));generalize M[j]=x at *;clear hI hI2 hgr hget hdr hlk e3;go_wp2
   go_roundw
   case rel=>exact ⟨j+1,by omega,by go_num,by go_num,HI2.out,HG2.out⟩
   case measure=>simp [intOf];omega
  ·have hd:decide ((j:Int)<(M.length:Int))=false:=by simp;omega
   obtain rfl:j=M.length:=by omega
   have e1:(MKo k M.length).take M.length=MKo k M.length:=List.take_of_length_le (by rw [MKo_len];omega);rw [e1,List.drop_length,List.append_nil] at hI;have HI2:=hD hI;have HG2:=hD hgr;clear hI hgr e1;go_wp2;go_ret;exact ⟨rfl,HI2.out,HG2.out⟩
theorem markO_nil (k:Int) (w:World):Calls Tryz.prog 15 #[.slice none 0 0,.int .i64 k] w fun e w'=>e=.returned (.int .i64 k)∧w'=w:=by
 go_enter Tryz.func15,Tryz.ntmps15
 go_wp2_with fail
 go_loop [1,5] (fun kv i=>kv=.int .i64 k∧i=.int .i64 0) (fun _ _=>0)
 case atStart=>exact ⟨rfl,rfl⟩
 case round =>
  obtain ⟨rfl,rfl⟩:=hrel;go_wp2;go_ret;exact ⟨rfl,rfl⟩
theorem heldO (g cap n:Nat) (k:Int) (w:World) (h:OB w g cap (MKo k n)) (hL:n≤1048576) (hk0:0≤k) (hk1:k≤10000000) :
  Calls Tryz.prog 16 #[.slice (some ⟨g,0,none⟩) n cap,.int .i64 k] w fun e w'=>e=.returned (.int .i64 (k+(n:Int)))∧w'=w:=by
 go_enter Tryz.func16,Tryz.ntmps16
 go_wp2_with fail
 go_loop [1,5] (fun kv i=>∃ j:Nat,j≤n∧i=.int .i64 j∧kv=.int .i64 (k+(j:Int))) (fun _ i=>n-(intOf i).toNat)
 case atStart=>exact ⟨0,by omega,rfl,by simp⟩
 case round =>
  obtain ⟨j,hj,rfl,rfl⟩:=hrel
  by_cases hlt:j<n
  ·have hd:decide ((j:Int)<(n:Int))=true:=by simpa using hlt
   have d0:=h.cell (MKo_get hlt);rw [Int.add_comm] at d0;go_wp2
   go_round
   case rel=>exact ⟨j+1,by omega,by go_num,by go_num⟩
   case measure=>simp [intOf];omega
  ·have hd:decide ((j:Int)<(n:Int))=false:=by simp;omega
   obtain rfl:j=n:=by omega
   go_wp2;go_ret;exact ⟨rfl,rfl⟩
theorem heldO_nil (k:Int) (w:World):Calls Tryz.prog 16 #[.slice none 0 0,.int .i64 k] w fun e w'=>e=.returned (.int .i64 k)∧w'=w:=by
 go_enter Tryz.func16,Tryz.ntmps16
 go_wp2_with fail
 go_loop [1,5] (fun kv i=>kv=.int .i64 k∧i=.int .i64 0) (fun _ _=>0)
 case atStart=>exact ⟨rfl,rfl⟩
 case round =>
  obtain ⟨rfl,rfl⟩:=hrel;go_wp2;go_ret;exact ⟨rfl,rfl⟩
structure TM (g hi:Nat) (S:List Nr) (w:World):Prop where
 s:NodS w g S
 l:LnsS w g hi 0 S
 a:ApS S
 lt:g<hi
theorem TM.of {g:Nat} {w:World} {R S:List Nr} (h:NrB w g S) (hc:CpR (g+1) w R S):TM g w.heap.size S w:=⟨NodS.of h,LnsS.of hc (Nat.le_refl _),hc.apart,h.lt⟩
theorem TM.keep {g hi:Nat} {S:List Nr} {w w':World} (h:TM g hi S w) (hb:Below w.heap.size w w'):TM g hi S w' :=
 ⟨h.s.keep (hb.block g h.s.lt),fun i q hk hq=>by
  obtain ⟨g1,g2,e1,e2,e3,e4,l1,l2,l3,b1,b2⟩:=h.l i q hk hq
  exact ⟨g1,g2,e1,e2,e3,e4,l1,l2,l3,b1.keep hb,b2.keep hb⟩,h.a,h.lt⟩
theorem Wi.pre {lo hi:Nat} {w w':World} {o:Obj} (h:Wi lo hi (w.alloc o) w'):Wi lo hi w w' :=
 ⟨h.os.trans rfl,h.tape.trans rfl,h.output.trans rfl,by have:=h.size;rw [World.size_alloc] at this;omega,fun k hk hn=>(h.block k (by rw [World.size_alloc];omega) hn).trans (Below.heap_alloc _ _ _ hk)⟩
theorem markTree_v (g hi k c:Nat) (S:List Nr) (w:World) (hk:k=S.length) (h:TM g hi S w) (hL:S.length≤1048576) (hz:S.length+szL S≤1048576) :
  Calls Tryz.prog 14 #[.agg #[.slice (some ⟨g,0,none⟩) k c],.int .i64 1] w fun e w'=>e=.returned (.int .i64 (1+mkS S))∧Wi g hi w w':=by
 subst hk;have HM:=hD (h.keep (balloc (o:=.cells #[.slice (some ⟨g,0,none⟩) S.length c] 30 (0,0)) (Below.refl w.heap.size w)));have hx:=newS w (.cells #[.slice (some ⟨g,0,none⟩) S.length c] 30 (0,0));have x0:=cellS hx 0;clear h hx
 go_enter Tryz.func14,Tryz.ntmps14
 go_wp2_with fail
 with_reducible refine (markNodeS_v g hi _ c S 1 _ rfl HM.out.s HM.out.l HM.out.a HM.out.lt hL hz (by omega) (by omega)).mono ?_
 rintro e w1 ⟨rfl,hw⟩;have HW:=hD hw.pre;clear hw x0;go_wp2;go_ret;exact ⟨rfl,HW.out⟩
def GO (lo:Nat) (w:World) (v:Value) (M:List Int):Prop:=(v=.slice none 0 0∧M=[])∨∃ g cap n,v=.slice (some ⟨g,0,none⟩) n cap∧n=M.length∧lo≤g∧OB w g cap M
theorem GO.of {lo n:Nat} {w:World} {v:Value} {M:List Int} (h:w.ownsRow lo 3 1 v n (nvalsW M)) (hn:n=M.length):GO lo w v M :=
 (own_inW h hn).imp id fun ⟨g,cap,h1,h2,h3⟩=>⟨g,cap,n,h1,hn,h2,h3⟩
theorem GO.nr {lo:Nat} {w:World} {v:Value} {L:List Int} (h:GO lo w v L):NR w v L:=by
 rcases h with ⟨rfl,rfl⟩ | ⟨g,cap,n,rfl,hn,_,hk⟩
 ·exact ⟨none,0,rfl,NV.nil _ _⟩
 ·exact hk.nr hn cap
theorem GO.keep {lo:Nat} {w w':World} {v:Value} {L:List Int} (h:GO lo w v L) (hb:Below w.heap.size w w'):GO lo w' v L:=h.imp id fun ⟨g,cap,n,h1,h2,h3,hk⟩=>⟨g,cap,n,h1,h2,h3,hk.keep hb⟩
theorem GO.wi {lo a b:Nat} {w w':World} {v:Value} {L:List Int} (h:GO lo w v L) (hw:Wi a b w w') (hl:b≤lo):GO lo w' v L:=h.imp id fun ⟨g,cap,n,h1,h2,h3,hk⟩=>⟨g,cap,n,h1,h2,h3,hk.sameL (hw.block g hk.lt (by omega))⟩
theorem GO.mono {lo lo':Nat} {w:World} {v:Value} {L:List Int} (h:GO lo w v L) (hl:lo'≤lo):GO lo' w v L:=h.imp id fun ⟨g,cap,n,h1,h2,h3,hk⟩=>⟨g,cap,n,h1,h2,Nat.le_trans hl h3,hk⟩
def GOM (w:World) (v:Value) (n:Nat):Prop:=(v=.slice none 0 0∧n=0)∨∃ g cap,v=.slice (some ⟨g,0,none⟩) n cap∧OB w g cap (MKo 1 n)
theorem GOM.keep {w w':World} {v:Value} {n:Nat} (h:GOM w v n) (hb:Below w.heap.size w w'):GOM w' v n:=h.imp id fun ⟨g,cap,h1,hk⟩=>⟨g,cap,h1,hk.keep hb⟩
theorem markGO (lo:Nat) (w:World) (v:Value) (M:List Int) (h:GO lo w v M) (hM:M.length≤1048576) (hlo:lo≤w.heap.size) :
  Calls Tryz.prog 15 #[v,.int .i64 1] w fun e w'=>e=.returned (.int .i64 (1+(M.length:Int)))∧GOM w' v M.length∧Below lo w w':=by
 rcases h with ⟨rfl,rfl⟩ | ⟨g,cap,n,rfl,rfl,hlg,hk⟩
 ·refine (markO_nil 1 w).mono ?_;rintro e w' ⟨rfl,rfl⟩;exact ⟨rfl,.inl ⟨rfl,rfl⟩,Below.refl _ _⟩
 ·refine (markO g cap M.length 1 M w hk rfl hM (by omega) (by omega)).mono ?_;rintro e w' ⟨rfl,hk',hg⟩;exact ⟨rfl,.inr ⟨g,cap,rfl,hk'⟩,below_grownI hg (fun q e=>by cases e;exact hlg) hlo⟩
theorem heldGO (w:World) (v:Value) (n:Nat) (h:GOM w v n) (hn:n≤1048576) :
  Calls Tryz.prog 16 #[v,.int .i64 1] w fun e w'=>e=.returned (.int .i64 (1+(n:Int)))∧w'=w:=by
 rcases h with ⟨rfl,rfl⟩ | ⟨g,cap,rfl,hk⟩
 ·exact heldO_nil 1 w
 ·exact heldO g cap n 1 w hk hn (by omega) (by omega)
theorem indicesF_v (n:Nat) (f:Nat→Bool) (caps:Array Value) (w:World) (hn:n≤1048576)
  (hf:∀ k,k<n→∀ W,Below w.heap.size w W→Calls Tryz.prog 75 (#[.int .i64 (k:Int)] ++ caps) W fun e W'=>e=.returned (.bool (f k))∧Below W.heap.size W W') :
  Calls Tryz.prog 48 #[.int .i64 (n:Int),.func (.func 75) #[] caps] w fun e w'=>(∃ v,e=.returned v∧GO w.heap.size w' v (idsM f n))∧Below w.heap.size w w' :=
 (indicesG_v 75 (enters_of Tryz.func75 (by kernel_rfl) rfl) n f caps w hn hf).mono fun e w' ⟨⟨v,h1,h2⟩,h3⟩=>⟨⟨v,h1,GO.of h2 rfl⟩,h3⟩
theorem kidsOf_f (A:Option Addr) (c:Nat) (R:List Nr) (i:Int) (w:World) (h:NrV w A R) (hL:R.length≤1048576) :
  Calls Tryz.prog 54 #[.agg #[.slice A R.length c],.int .i64 i] w fun e w'=>(∃ v,e=.returned v∧GO w.heap.size w' v (kidsM R i))∧Below w.heap.size w w':=by
 have hB0:Below w.heap.size w ((w.alloc (.cells #[.slice A R.length c] 30 (0,0))).alloc (.cells #[.int .i64 i] 3 (0,0))):=(balloc (Below.refl _ _)).trans ((balloc (Below.refl _ _)).mono (by simp))
 have H1:=hD (show ((w.alloc (.cells #[.slice A R.length c] 30 (0,0))).alloc (.cells #[.int .i64 i] 3 (0,0))).heap[w.heap.size]?=some (.cells #[.slice A R.length c] 30 (0,0)) from (Below.heap_alloc _ _ _ (by simp)).trans (newS _ _))
 have H2:=hD (show ((w.alloc (.cells #[.slice A R.length c] 30 (0,0))).alloc (.cells #[.int .i64 i] 3 (0,0))).heap[w.heap.size+1]?=some (.cells #[.int .i64 i] 3 (0,0)) from by have:=newS (w.alloc (.cells #[.slice A R.length c] 30 (0,0))) (.cells #[.int .i64 i] 3 (0,0));simpa using this);have HV:=hD (h.keep hB0);have HB:=hD hB0;clear hB0 h
 go_enter Tryz.func54,Tryz.ntmps54
 go_wp2_with fail
 refine (indicesF_v R.length (isKid R i) #[.pointer (some ⟨w.heap.size,0,none⟩),.pointer (some ⟨w.heap.size+1,0,none⟩)] _ hL (fun k hk W hW=>kid1_v A c R i k _ _ W (HV.out.keep hW) hk ((cellS ((hW.block _ (ltS H1.out)).trans H1.out) 0)) ((cellS ((hW.block _ (ltS H2.out)).trans H2.out) 0)) (Nat.lt_of_lt_of_le (ltS H1.out) hW.size) (Nat.lt_of_lt_of_le (ltS H2.out) hW.size) hL)).mono ?_
 rintro e w1 ⟨⟨v,rfl,hv⟩,hb1⟩;have HK:Hid (GO w.heap.size w1 v (kidsM R i)):=hD (hv.mono (by simp <;> omega));replace HB:=hD (bkeep2 HB.out hb1);clear hv hb1 H1 H2 HV;go_wp2;go_ret;exact ⟨⟨v,rfl,HK.out⟩,HB.out⟩
end Go.Proofs.YtmmfifgdgbmgjaaGreat
