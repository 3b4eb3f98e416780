import Derived.Test.YtmmfifgdgbmgjaaGreatQS09
set_option linter.unusedVariables false
set_option linter.unusedSimpArgs false
set_option maxRecDepth 100000
set_option maxHeartbeats 16000000
namespace Go.Proofs.YtmmfifgdgbmgjaaGreat
open Go.RowKit
attribute [local go_sem] growUpon_value growUpon_skip growUpon_enter
def reqName:String:="loop.example/widgetroom/impl.request"
theorem nc_pk (v:Value) (w:World):(nilAhead (Tryz.prog.types.size+Made.depth) 148 v "loop.example/widgetroom/impl.request").run Tryz.prog w=.ok (some false) w:=by kernel_rfl
theorem nc_gr (v:Value) (w:World):(nilAhead (Tryz.prog.types.size+Made.depth) 142 v "loop.example/widgetroom/impl.request").run Tryz.prog w=.ok (some false) w:=by kernel_rfl
theorem nc_pl (v:Value) (w:World):(nilAhead (Tryz.prog.types.size+Made.depth) 144 v "loop.example/widgetroom/impl.request").run Tryz.prog w=.ok (some false) w:=by kernel_rfl
theorem cm_pk (v u:Value) (w:World):(callMethod (.iface 148 v) "loop.example/widgetroom/impl.request" #[u]).run Tryz.prog w=.ok (.enter 204 #[v,u]) w:=by kernel_rfl
theorem cm_gr (v u:Value) (w:World):(callMethod (.iface 142 v) "loop.example/widgetroom/impl.request" #[u]).run Tryz.prog w=.ok (.enter 174 #[v,u]) w:=by kernel_rfl
theorem cm_pl (v u:Value) (w:World):(callMethod (.iface 144 v) "loop.example/widgetroom/impl.request" #[u]).run Tryz.prog w=.ok (.enter 196 #[v,u]) w:=by kernel_rfl
theorem run_inv {P:Program} {ρ:Operand→Value} {o:Oper} {w:World} {T:TypeId} {v u:Value} {x y:Operand} {name:String} {ts:Array TypeId} {F:FuncId} (ho:o.op=.call { callee:=.invoke x name,args:=#[y],argTypes:=ts }) (hx:ρ x=.iface T v) (hy:ρ y=u) (hc:(callMethod (.iface T v) name #[u]).run P w=.ok (.enter F #[v,u]) w):(execOp ρ o).run P w=.ok (.enter F #[v,u]) w:=by
 unfold execOp;simp only [ho,resolve,List.map_toArray,List.map_cons,List.map_nil,hx,hy,Sem.run_bind,Sem.run_pure,Result.andThen_ok,invoke]
 simpa using hc
theorem run_mf {P:Program} {ρ:Operand→Value} {o:Oper} {w:World} {x:Operand} {name:String} (ho:o.op=.makeFunc (.method name) #[x] #[]):(execOp ρ o).run P w=.ok (.value (.func (.method name) #[ρ x] #[])) w:=by
 unfold execOp;simp only [ho]
 simp [Instr.makeFunc,Sem.run_pure]
theorem run_nc {P:Program} {ρ:Operand→Value} {o:Oper} {w:World} {T:TypeId} {v:Value} {x:Operand} {name:String} (ho:o.op=.nilCheck x) (hx:ρ x=.func (.method name) #[.iface T v] #[]) (hn:(nilAhead (P.types.size+Made.depth) T v name).run P w=.ok (some false) w):(execOp ρ o).run P w=.ok (.value (ρ x)) w:=by
 unfold execOp;simp only [ho,hx]
 simp [Sem.run_bind,hn]
theorem arReq {v:Value} {x:Wd} {p:Nr} {Y:List Wd} {w:World} {ww hh:Int} {q:Int × Int} (h:ArV w v x Y) (hx:x.p=p) (hr:RdN w p) (hl:Y.length≤10)
  (c0:p.n.ki≠1→p.n.ki≠2→(∀ r∈Y.map pkW,r.big)∧reqM (Y.map pkW)=q)
  (c1:p.n.ki=1→(linesB p.n.cs=true∧linesB p.n.rs=true)∧((∀ r∈Y.map ceW,smW r)∧spansW p.n.cs.length ((Y.map ceW).map acM)∧spansW p.n.rs.length ((Y.map ceW).map dnM))∧gridM p.n.cs p.n.rs (Y.map ceW)=q)
  (c2:p.n.ki=2→(ww,hh)=q) :
  ∃ T u F,v=.iface T u∧(nilAhead (Tryz.prog.types.size+Made.depth) T u "loop.example/widgetroom/impl.request").run Tryz.prog w=.ok (some false) w ∧
   (∀ z w,(callMethod (.iface T u) "loop.example/widgetroom/impl.request" #[z]).run Tryz.prog w=.ok (.enter F #[u,z]) w) ∧
   Calls Tryz.prog F #[u,.agg (valsWi (ww,hh)).toArray] w fun e w'=>e=.returned (.agg (valsWi q).toArray)∧Below w.heap.size w w':=by
 subst hx;obtain ⟨g,hg,⟨k1,rfl,hv⟩ | ⟨k1,rfl,hv⟩ | ⟨k1,k2,rfl,hv⟩⟩:=h
 ·obtain ⟨⟨l1,l2⟩,⟨s1,s2,s3⟩,rfl⟩:=c1 k1;refine ⟨_,_,_,rfl,nc_gr _ _,fun _ _=>cm_gr _ _ _,?_⟩;exact gridReq_v _ _ _ _ _ _ _ _ _ (Y.map ceW) ww hh w hr.c hr.r (cev_of (by rw [List.map_map];exact hv)) (by rw [List.length_map]) l1 l2 (by rw [List.length_map];exact hl) s1 s2 s3
 ·obtain rfl:=c2 k1;exact ⟨_,_,_,rfl,nc_pl _ _,fun _ _=>cm_pl _ _ _,placeReq_v _ ww hh w⟩
 ·obtain ⟨b1,rfl⟩:=c0 k1 k2;refine ⟨_,_,_,rfl,nc_pk _ _,fun _ _=>cm_pk _ _ _,?_⟩;exact packReq_v _ _ _ (Y.map pkW) ww hh w (pv_of (by rw [List.map_map];exact hv)) (by rw [List.length_map]) b1 (by rw [List.length_map];exact hl)
def MfV (w:World) (v:Value) (x:Wd) (Y:List Wd):Prop:=∃ u,v=.func (.method "loop.example/widgetroom/impl.request") #[u] #[]∧ArV w u x Y
theorem MfV.keep {w w':World} {v:Value} {x:Wd} {Y:List Wd} (h:MfV w v x Y) (hb:Below w.heap.size w w'):MfV w' v x Y:=let ⟨u,e,k⟩:=h;⟨u,e,k.keep hb⟩
theorem pick_pk {R:List Nr} {X:List Wd} {f:Nat→Int × Int}:∀ {ks:List Nat},(∀ k∈ks,∃ y p,X[k]?=some y∧R[k]?=some p∧y.p=p∧(y.sw,y.sh)=f k)→(pickW X ks).map pkW=pksF (R.map Nr.n) f ks∧(pickW X ks).map ceW=cesF (R.map Nr.n) f ks
 | [],_=>⟨rfl,rfl⟩
 | k :: t,h=>by
  obtain ⟨y,p,h1,h2,h3,h4⟩:=h k (List.mem_cons_self ..)
  obtain ⟨i1,i2⟩:=pick_pk (X:=X) (R:=R) (f:=f) (ks:=t) fun k hk=>h k (List.mem_cons_of_mem _ hk)
  have e:(R.map Nr.n)[k]?=some p.n:=by rw [List.getElem?_map,h2];rfl
  unfold pickW at i1 i2 ⊢;unfold pksF at i1 ⊢;unfold cesF at i2 ⊢;rw [List.filterMap_cons_some (b:=y) h1,List.filterMap_cons_some (b:=pkOf p.n (f k)) (by rw [e];rfl),List.filterMap_cons_some (b:=ceOf p.n (f k)) (by rw [e];rfl)];rw [List.map_cons,List.map_cons,i1,i2];refine ⟨?_,?_⟩
  ·congr 1
   unfold pkW pkOf;rw [h3,<- h4]
  ·congr 1
   unfold ceW ceOf;rw [h3,<- h4]
theorem reB_blk {w:World} {g:Nat} {M:List Rc} (h:Blk4 w g M):ReB w g (M.map rcRe):=by
 obtain ⟨cs,hh,hs,hc⟩:=h;refine ⟨cs,hh,by rw [hs,List.length_map],fun i p hp=>?_⟩;rw [List.getElem?_map] at hp;obtain ⟨r,hr,rfl⟩:=Option.map_eq_some_iff.1 hp;intro j u hj;have hj4:j<4:=(List.getElem?_eq_some_iff.1 hj).1;rw [hc i r hr j hj4];exact hj
theorem reB_rbk {w:World} {g:Nat} {M:List Re} (h:RbK 4 w g 38 (M.map valsRe)):ReB w g M:=by
 obtain ⟨cs,hh,hs,hc⟩:=h;rw [List.length_map] at hs;exact ⟨cs,hh,hs,fun i p hp=>hc i (valsRe p) (by rw [List.length_map];exact (List.getElem?_eq_some_iff.1 hp).1) (by rw [List.getElem?_map,hp];rfl)⟩
theorem pkRects_v (A:Option Addr) (c n:Nat) (L:List Pk) (u v:Int) (w:World) (h:PV w A L) (hn:n=L.length) (hcap:L.length≤c) (hL:bgL L) (hq:rqW u v=true) :
  Calls Tryz.prog 203 #[.slice A n c,.int .i64 u,.int .i64 v] w fun e w'=>(∃ g,e=.returned (.slice (some ⟨g,0,none⟩) n n)∧w.heap.size≤g∧ReB w' g ((setL L (parcM L ⟨0,0,u,v⟩).1).map rcRe))∧Below w.heap.size w w':=by
 subst hn;obtain ⟨q1,q2⟩:=rqW_iff.1 hq
 have hz:(⟨0,0,u,v⟩:Rc).okW:=by unfold Rc.okW;dsimp only;omega
 obtain ⟨M,Z,hM⟩:∃ M Z,parcM L ⟨0,0,u,v⟩=(M,Z):=⟨_,_,rfl⟩
 rw [show (parcM L ⟨0,0,u,v⟩).1=M from by rw [hM]];have HP:=hD (packRects_w A c L ⟨0,0,u,v⟩ w h hcap hL hz M Z hM);clear h hcap hL hq hz hM q1 q2
 go_enter Tryz.func203,Tryz.ntmps203
 go_wp2_with fail
 refine HP.out.mono ?_;rintro e w1 ⟨⟨g,rfl,hg,hk⟩,hb⟩;have HK:=hD (reB_blk hk);have HB:=hD hb;clear hk hb;go_wp2;go_ret;exact ⟨⟨g,rfl,hg,HK.out⟩,HB.out⟩
theorem grRects_v (A1:Option Addr) (c1:Nat) (L1:List Ln) (A2:Option Addr) (c2:Nat) (L2:List Ln) (A3:Option Addr) (c3 n3:Nat) (L3:List Ce) (u v:Int) (w:World) (h1:LnV w A1 L1) (h2:LnV w A2 L2) (h3:CeV w A3 L3) (hn:n3=L3.length) (gf:GW L1 L2 L3) (hq:rqW u v=true) :
  Calls Tryz.prog 173 #[.agg #[.slice A1 L1.length c1,.slice A2 L2.length c2,.slice A3 n3 c3],.int .i64 u,.int .i64 v] w fun e w'=>(∃ g,e=.returned (.slice (some ⟨g,0,none⟩) n3 n3)∧w.heap.size≤g∧ReB w' g (L3.map (cellR (sizedM L1 (L3.map acM) u) (sizedM L2 (L3.map dnM) v))))∧Below w.heap.size w w':=by
 subst hn;have hB0:Below w.heap.size w (w.alloc (.cells #[.slice A1 L1.length c1,.slice A2 L2.length c2,.slice A3 L3.length c3] 142 (0,0))):=balloc (Below.refl _ _);have HG:=hD (gridRects_w A1 c1 L1 A2 c2 L2 A3 c3 L3 u v _ (h1.keep hB0) (h2.keep hB0) (h3.keep hB0) gf hq);have HX:=hD (newS w (.cells #[.slice A1 L1.length c1,.slice A2 L2.length c2,.slice A3 L3.length c3] 142 (0,0)))
 have d0:=cellS HX.out 0;have d1:=cellS HX.out 1;have d2:=cellS HX.out 2;clear hB0 h1 h2 h3 gf hq
 go_enter Tryz.func173,Tryz.ntmps173
 go_wp2_with fail
 refine HG.out.mono ?_;rintro e w1 ⟨⟨g,rfl,hg,hr⟩,hb⟩;have HB:=hD (bkeep2 (balloc (Below.refl w.heap.size w)) hb);have HR:=hD hr
 have hg2:w.heap.size≤g:=by simp only [World.size_alloc] at hg;omega
 clear hr hb d0 d1 d2 HX HG;go_wp2;go_ret;exact ⟨⟨g,rfl,hg2,HR.out⟩,HB.out⟩
theorem plr1_v (p:Plc) (u v:Int) (b1 b2:Nat) (w:World) (hp:plB p=true) (hq:rqW u v=true) (h1:w.cell? ⟨b1,0,none⟩=some (.int .i64 u)) (h2:w.cell? ⟨b2,0,none⟩=some (.int .i64 v)) (l1:b1<w.heap.size) (l2:b2<w.heap.size) :
  Calls Tryz.prog 198 #[.agg #[.int .i64 p.x,.int .i64 p.y,.int .i64 p.rx,.int .i64 p.ry,.int .i64 p.ww,.int .i64 p.hh,.int .i64 p.qw,.int .i64 p.qh,.int .i64 p.an],.pointer (some ⟨b1,0,none⟩),.pointer (some ⟨b2,0,none⟩)] w fun e w'=>e=.returned (.agg #[.int .i64 (xM p u),.int .i64 (yM p v),.int .i64 (wM p u),.int .i64 (hM p v)])∧Below w.heap.size w w':=by
 have HPR:=hD (fun W=>placeRect_w p u v W hp hq);have HC:=hD (And.intro h1 h2);clear hp hq h1 h2
 go_enter Tryz.func198,Tryz.ntmps198
 go_upto_region 1 with (fail)
 refine wp_genGG (fun W=>W.heap[w.heap.size]?=some (.cells #[.int .i64 p.x,.int .i64 p.y,.int .i64 p.rx,.int .i64 p.ry,.int .i64 p.ww,.int .i64 p.hh,.int .i64 p.qw,.int .i64 p.qh,.int .i64 p.an] 88 (0,0))∧W.heap[w.heap.size+1]?=some (.cells #[.int .i64 0,.int .i64 0,.int .i64 0,.int .i64 0] 38 (0,0))∧Below w.heap.size w W) ⟨(Below.heap_alloc _ _ w.heap.size (by simp)).trans (newS w _),newS1T w _ _,balloc (balloc (Below.refl _ _))⟩ (fun W0 h0=>?_)
 obtain ⟨hx,hz,hB⟩:=h0;obtain ⟨c0,c1,c2,c3,c4,c5,c6,c7,c8⟩:=c9_q hx;have d1:=(hB.cell (p:=⟨b1,0,none⟩) l1).trans HC.out.1;have d2:=(hB.cell (p:=⟨b2,0,none⟩) l2).trans HC.out.2;have lx:=ltS hx;have HZ:=hD hz;have HB:=hD hB;have k1:b1<W0.heap.size:=Nat.lt_of_lt_of_le l1 hB.size;have k2:b2<W0.heap.size:=Nat.lt_of_lt_of_le l2 hB.size;clear hx hz hB
 go_wp2_with fail
 refine (HPR.out _).mono ?_;rintro e w1 ⟨rfl,hb1⟩;clear c0 c1 c2 c3 c4 c5 c6 c7 c8 d1 d2 lx k1 k2;replace HZ:=hbk hb1 HZ;replace HB:=hD (bkeep2 HB.out hb1);clear hb1;have z0:=cellS HZ.out 0;have z1:=cellS HZ.out 1;have z2:=cellS HZ.out 2;have z3:=cellS HZ.out 3;have f0:=frozenS HZ.out 0;have f1:=frozenS HZ.out 1;have f2:=frozenS HZ.out 2;have f3:=frozenS HZ.out 3;have lz:=ltS HZ.out
 obtain ⟨x0,e0⟩:∃ z,xM p u=z:=⟨_,rfl⟩
 obtain ⟨y0,e1⟩:∃ z,yM p v=z:=⟨_,rfl⟩
 obtain ⟨u0,e2⟩:∃ z,wM p u=z:=⟨_,rfl⟩
 obtain ⟨v0,e3⟩:∃ z,hM p v=z:=⟨_,rfl⟩
 rw [e0,e1,e2,e3];have HE:=hD (And.intro e0 (And.intro e1 (And.intro e2 e3)));clear e0 e1 e2 e3;go_wp2;refine bp_genG (fun W=>W.heap[w.heap.size+1]?=some (.cells #[.int .i64 x0,.int .i64 y0,.int .i64 u0,.int .i64 v0] 38 (0,0))∧Below w.heap.size w W) ⟨put4g HZ.out _ _ _ _,put4gb HB.out (by omega) _ _ _ _⟩ ?_;clear z0 z1 z2 z3 f0 f1 f2 f3 lz;rintro W ⟨hp,hbW⟩;have z0:=cellS hp 0;have z1:=cellS hp 1
 have z2:=cellS hp 2;have z3:=cellS hp 3;exact bodyPost_ret (v:=.agg #[.int .i64 x0,.int .i64 y0,.int .i64 u0,.int .i64 v0]) (by simp only [results,Tryz.results198];go_simp) rfl ⟨by rw [HE.out.1,HE.out.2.1,HE.out.2.2.1,HE.out.2.2.2],hbW⟩
def iV (v:Value):Int:=intOf v
def plOf (vs:List Value):Plc:=⟨iV (gd vs 0),iV (gd vs 1),iV (gd vs 2),iV (gd vs 3),iV (gd vs 4),iV (gd vs 5),iV (gd vs 6),iV (gd vs 7),iV (gd vs 8)⟩
theorem valsRe_one2 (r:Re):one (valsRe r):=by
 intro v hv;simp only [valsRe,List.mem_cons,List.not_mem_nil,or_false] at hv
 rcases hv with rfl | rfl | rfl | rfl <;> rfl
theorem each_prL (A:Option Addr) (c n:Nat) (L:List Plc) (u v:Int) (b1 b2:Nat) (w:World) (h:RvK 9 w A (L.map valsPl)) (hn:n=L.length) (hl:n≤1048576) (hp:∀ p∈L,plB p=true) (hq:rqW u v=true) (h1:w.cell? ⟨b1,0,none⟩=some (.int .i64 u)) (h2:w.cell? ⟨b2,0,none⟩=some (.int .i64 v)) (l1:b1<w.heap.size) (l2:b2<w.heap.size) :
  Calls Tryz.prog 197 #[.slice A n c,.func (.func 198) #[] #[.pointer (some ⟨b1,0,none⟩),.pointer (some ⟨b2,0,none⟩)]] w fun e w'=>e=.returned (.slice (some ⟨w.heap.size,0,none⟩) n n)∧ReB w' w.heap.size (L.map (plR u v))∧Below w.heap.size w w':=by
 have e:(L.map valsPl).length=n:=by simp [hn]
 rw [<- e]
 refine (each_pr A c (L.map valsPl) (fun vs=>valsRe (plR u v (plOf vs))) #[.pointer (some ⟨b1,0,none⟩),.pointer (some ⟨b2,0,none⟩)] w h (fun vs hv=>by obtain ⟨p,_,rfl⟩:=List.mem_map.1 hv;exact ⟨rfl,valsPl_one p⟩) (by rw [e];exact hl) (fun vs hv=>⟨rfl,valsRe_one2 _⟩) (fun vs hv W hW=>by
  obtain ⟨p,hm,rfl⟩:=List.mem_map.1 hv
  exact plr1_v p u v b1 b2 W (hp p hm) hq ((hW.cell (p:=⟨b1,0,none⟩) l1).trans h1) ((hW.cell (p:=⟨b2,0,none⟩) l2).trans h2) (Nat.lt_of_lt_of_le l1 hW.size) (Nat.lt_of_lt_of_le l2 hW.size))).mono ?_
 rintro e w1 ⟨rfl,hr,hb⟩;rw [List.map_map] at hr;refine ⟨rfl,reB_rbk ?_,hb⟩;rw [List.map_map];exact hr
theorem plRects_v (A:Option Addr) (c n:Nat) (L:List Plc) (u v:Int) (w:World) (h:RvK 9 w A (L.map valsPl)) (hn:n=L.length) (hl:n≤1048576) (hp:∀ p∈L,plB p=true) (hq:rqW u v=true) :
  Calls Tryz.prog 195 #[.slice A n c,.int .i64 u,.int .i64 v] w fun e w'=>(∃ g,e=.returned (.slice (some ⟨g,0,none⟩) n n)∧w.heap.size≤g∧ReB w' g (L.map (plR u v)))∧Below w.heap.size w w':=by
 have HE:=hD (fun (W:World) b1 b2 (hW:Below w.heap.size w W)=>each_prL A c n L u v b1 b2 W (h.keep hW) hn hl hp hq);clear h hn hp hq
 go_enter Tryz.func195,Tryz.ntmps195
 go_upto_region 1 with (fail)
 refine wp_genGG (fun W=>W.heap[w.heap.size]?=some (.cells #[.int .i64 u] 3 (0,0))∧W.heap[w.heap.size+1]?=some (.cells #[.int .i64 v] 3 (0,0))∧Below w.heap.size w W) ⟨(Below.heap_alloc _ _ w.heap.size (by simp)).trans (newS w _),newS1T w _ _,balloc (balloc (Below.refl _ _))⟩ (fun W0 h0=>?_);obtain ⟨hx,hz,hB⟩:=h0;have HC:=hD (HE.out W0 _ _ hB (cellS hx 0) (cellS hz 0) (ltS hx) (ltS hz))
 have HB:=hD hB;clear hx hz hB HE
 go_wp2_with fail
 refine HC.out.mono ?_;rintro e w1 ⟨rfl,hr,hb⟩;have hs:=HB.out.size;have HR:=hD hr;clear hr HC;replace HB:=hD (bkeep2 HB.out hb);clear hb;go_wp2;go_ret;exact ⟨⟨_,rfl,hs,HR.out⟩,HB.out⟩
theorem ncr_pk (v:Value) (w:World):(nilAhead (Tryz.prog.types.size+Made.depth) 148 v "loop.example/widgetroom/impl.rects").run Tryz.prog w=.ok (some false) w:=by kernel_rfl
theorem ncr_gr (v:Value) (w:World):(nilAhead (Tryz.prog.types.size+Made.depth) 142 v "loop.example/widgetroom/impl.rects").run Tryz.prog w=.ok (some false) w:=by kernel_rfl
theorem ncr_pl (v:Value) (w:World):(nilAhead (Tryz.prog.types.size+Made.depth) 144 v "loop.example/widgetroom/impl.rects").run Tryz.prog w=.ok (some false) w:=by kernel_rfl
theorem cmr_pk (v a b:Value) (w:World):(callMethod (.iface 148 v) "loop.example/widgetroom/impl.rects" #[a,b]).run Tryz.prog w=.ok (.enter 203 #[v,a,b]) w:=by kernel_rfl
theorem cmr_gr (v a b:Value) (w:World):(callMethod (.iface 142 v) "loop.example/widgetroom/impl.rects" #[a,b]).run Tryz.prog w=.ok (.enter 173 #[v,a,b]) w:=by kernel_rfl
theorem cmr_pl (v a b:Value) (w:World):(callMethod (.iface 144 v) "loop.example/widgetroom/impl.rects" #[a,b]).run Tryz.prog w=.ok (.enter 195 #[v,a,b]) w:=by kernel_rfl
theorem run_inv2 {P:Program} {ρ:Operand→Value} {o:Oper} {w:World} {T:TypeId} {v u1 u2:Value} {x y z:Operand} {name:String} {ts:Array TypeId} {F:FuncId} (ho:o.op=.call { callee:=.invoke x name,args:=#[y,z],argTypes:=ts }) (hx:ρ x=.iface T v) (hy:ρ y=u1) (hz:ρ z=u2) (hc:(callMethod (.iface T v) name #[u1,u2]).run P w=.ok (.enter F #[v,u1,u2]) w):(execOp ρ o).run P w=.ok (.enter F #[v,u1,u2]) w:=by
 unfold execOp;simp only [ho,resolve,List.map_toArray,List.map_cons,List.map_nil,hx,hy,hz,Sem.run_bind,Sem.run_pure,Result.andThen_ok,invoke]
 simpa using hc
def arM (n:Nd) (Y:List Wd) (a b:Int):List Re :=
 if n.ki=1 then (Y.map ceW).map (cellR (sizedM n.cs ((Y.map ceW).map acM) a) (sizedM n.rs ((Y.map ceW).map dnM) b))
 else if n.ki=2 then (Y.map fun y=>y.p.n.pl).map (plR a b)
 else (setL (Y.map pkW) (parcM (Y.map pkW) ⟨0,0,a,b⟩).1).map rcRe
theorem arRects {v:Value} {x:Wd} {p:Nr} {Y:List Wd} {w:World} {a b:Int} (h:ArV w v x Y) (hx:x.p=p) (hr:RdN w p) (hl:Y.length≤10) (hq:rqW a b=true)
  (c0:p.n.ki≠1→p.n.ki≠2→bgL (Y.map pkW)) (c1:p.n.ki=1→GW p.n.cs p.n.rs (Y.map ceW)) (c2:∀ y∈Y,plB y.p.n.pl=true) :
  ∃ T u F,v=.iface T u∧(nilAhead (Tryz.prog.types.size+Made.depth) T u "loop.example/widgetroom/impl.rects").run Tryz.prog w=.ok (some false) w ∧
   (∀ y z w,(callMethod (.iface T u) "loop.example/widgetroom/impl.rects" #[y,z]).run Tryz.prog w=.ok (.enter F #[u,y,z]) w) ∧
   Calls Tryz.prog F #[u,.int .i64 a,.int .i64 b] w fun e w'=>(∃ g,e=.returned (.slice (some ⟨g,0,none⟩) Y.length Y.length)∧w.heap.size≤g∧ReB w' g (arM p.n Y a b))∧Below w.heap.size w w':=by
 subst hx;obtain ⟨g,hg,⟨k1,rfl,hv⟩ | ⟨k1,rfl,hv⟩ | ⟨k1,k2,rfl,hv⟩⟩:=h
 ·refine ⟨_,_,_,rfl,ncr_gr _ _,fun _ _ _=>cmr_gr _ _ _ _,?_⟩;unfold arM;rw [if_pos k1];exact grRects_v _ _ _ _ _ _ _ _ _ (Y.map ceW) a b w hr.c hr.r (cev_of (by rw [List.map_map];exact hv)) (by rw [List.length_map]) (c1 k1) hq
 ·refine ⟨_,_,_,rfl,ncr_pl _ _,fun _ _ _=>cmr_pl _ _ _ _,?_⟩;unfold arM;rw [if_neg (by omega),if_pos k1];exact plRects_v _ _ _ (Y.map fun y=>y.p.n.pl) a b w (by rw [List.map_map];exact hv) (by rw [List.length_map]) (by omega) (fun q hq=>by obtain ⟨y,hy,rfl⟩:=List.mem_map.1 hq;exact c2 y hy) hq
 ·refine ⟨_,_,_,rfl,ncr_pk _ _,fun _ _ _=>cmr_pk _ _ _ _,?_⟩;unfold arM;rw [if_neg k1,if_neg k2];exact pkRects_v _ _ _ (Y.map pkW) a b w (pv_of (by rw [List.map_map];exact hv)) (by rw [List.length_map]) (by rw [List.length_map];exact Nat.le_refl _) (c0 k1 k2) hq
def MrV (w:World) (v:Value) (x:Wd) (Y:List Wd):Prop:=∃ u,v=.func (.method "loop.example/widgetroom/impl.rects") #[u] #[]∧ArV w u x Y
theorem MrV.keep {w w':World} {v:Value} {x:Wd} {Y:List Wd} (h:MrV w v x Y) (hb:Below w.heap.size w w'):MrV w' v x Y:=let ⟨u,e,k⟩:=h;⟨u,e,k.keep hb⟩
theorem pick_pl {R:List Nr} {X:List Wd}:∀ {ks:List Nat},(∀ k∈ks,∃ y p,X[k]?=some y∧R[k]?=some p∧y.p=p)→(pickW X ks).map (fun y=>y.p.n.pl)=plsF (R.map Nr.n) ks
 | [],_=>rfl
 | k :: t,h=>by
  obtain ⟨y,p,h1,h2,h3⟩:=h k (List.mem_cons_self ..)
  have ih:=pick_pl (X:=X) (R:=R) (ks:=t) fun k hk=>h k (List.mem_cons_of_mem _ hk)
  have e:(R.map Nr.n)[k]?=some p.n:=by rw [List.getElem?_map,h2];rfl
  unfold pickW at ih ⊢;unfold plsF at ih ⊢;rw [List.filterMap_cons_some (b:=y) h1,List.filterMap_cons_some (b:=p.n.pl) (by rw [e];rfl),List.map_cons,ih,h3]
theorem arM_eq {L:List Nd} {i:Nat} {n:Nd} {Y:List Wd} (a b:Int) (h1:Y.map pkW=pksF L (szM L) (kidD L i)) (h2:Y.map ceW=cesF L (szM L) (kidD L i)) (h3:Y.map (fun y=>y.p.n.pl)=plsF L (kidD L i)):arM n Y a b=kidR0 L i n a b:=by
 unfold arM kidR0;rw [h1,h2,h3]
def QrV (lo:Nat) (w:World) (v:Value) (n:Nat) (M:List Re):Prop:=∃ g,v=.slice (some ⟨g,0,none⟩) n n∧lo≤g∧ReB w g M
theorem QrV.keep {lo:Nat} {w w':World} {v:Value} {n:Nat} {M:List Re} (h:QrV lo w v n M) (hb:Below w.heap.size w w'):QrV lo w' v n M:=let ⟨g,e,hl,k⟩:=h;⟨g,e,hl,k.keep hb⟩
section
attribute [local go_sem 5000] run_mx run_mn
attribute [local go_sem] Oper.semAt_some
theorem ldNI {F:Fence} {n:Nat} {P:Program} {ops:Array Oper} {rest:List Oper} {op:Oper} {a:Act} {w:World} {Q:Exit→Act→World→Prop} (T:TypeId) (x:Operand) (vs:List Value) (b o:Nat) {d:TypeDesc} (hgd:op.guard=none) (ho:op.op=.load T x) (hx:a.eval x=.pointer (some ⟨b,o,none⟩))
  (hc:w.rangeAt b o vs) (hu:P.underlying T=some d) (hd:d.isRow=true) (hi:(P.info? T).map (·.size)=some vs.length)
  (h:wpListIn F n P ops Q rest (a.put op.dst (.agg vs.toArray)) w):wpListIn F n P ops Q (op :: rest) a w:=by
 refine wpListIn_plain hgd fun K hK=>⟨fun f hf=>?_,?_⟩
 ·simp [Oper.about,ho] at hf
 ·rw [Oper.semAt_eq _ _ _ (fun c e=>by rw [ho] at e;cases e)];unfold execOp;simp only [ho,hx,Instr.loadAt,Instr.sureAddr,Sem.run_bind,Sem.run_pure,Result.andThen_ok,run_loadVar_mid w b o T vs d hc hu hd hi];exact hK _ _ h
structure BkN where
 i:Nat
 p:Nr
def encN (x:BkN):Array Value:=#[.int .i64 (x.i:Int),.agg (valsNr x.p).toArray]
def NrVn (n0:Nat) (W:World) (A:Option Addr) (R:List Nr):Prop:=0<R.length→∃ b off,A=some ⟨b,off,none⟩∧b<n0∧∀ i p,R[i]?=some p→W.rangeAt b (off+i*34) (valsNr p)
theorem NrVn.below {n0:Nat} {W W':World} {A:Option Addr} {R:List Nr} (h:NrVn n0 W A R) (hb:Below n0 W W'):NrVn n0 W' A R:=fun h0 =>
 let ⟨b,off,e,hl,hp⟩:=h h0;⟨b,off,e,hl,fun i p hi=>rangeB (hp i p hi) (hb.block b hl)⟩
def BkS (R:List Nr) (k:Nat) (ys:List BkN):Prop:=ys.length=R.length-k∧∀ (m:Nat) (y:BkN),ys[m]?=some y→y.i=R.length-1-m∧R[y.i]?=some y.p
theorem BkS.snoc {R:List Nr} {j:Nat} {ys:List BkN} {p:Nr} (h:BkS R (j+1) ys) (hp:R[j]?=some p):BkS R j (ys ++ [⟨j,p⟩]):=by
 have hj:=(List.getElem?_eq_some_iff.1 hp).1;refine ⟨by rw [List.length_append,h.1];simp;omega,fun m y hy=>?_⟩
 by_cases e:m<ys.length
 ·rw [List.getElem?_append_left e] at hy;exact h.2 m y hy
 ·rw [List.getElem?_append_right (by omega)] at hy;have hm:=(List.getElem?_eq_some_iff.1 hy).1
  simp at hm
  have:m=ys.length:=by omega
  subst this
  simp at hy
  subst hy;exact ⟨by rw [h.1];dsimp only;omega,hp⟩
theorem backwardN_in (F:Fence) (n:Nat) (hF:F.fn 91) (hro:F.round=none) (a:Option Addr) (len cap:Nat) (w:World) :
  CallsIn F n Tryz.prog 91 #[.slice a len cap] w fun e w'=>e=.returned (.func (.func 128) #[] #[.pointer (some ⟨w.heap.size,0,none⟩)])∧w'=w.alloc (.cells #[.slice a len cap] 28):=by
 refine callsIn_of_wp Tryz.func91 rfl hF ?_ hro;simp only [Tryz.ntmps91,List.size_toArray,List.length_cons,List.length_nil,Nat.reduceAdd,Nat.reduceSub,Array.replicate_succ,Array.replicate_zero,List.push_toArray,List.append_toArray,List.nil_append,List.cons_append]
 gi_wp2
 go_ret;exact ⟨rfl,rfl⟩
end
def KeepsC (B:Nat) (W W':World):Prop:=Below B W W'∧∀ (k:Nat) (o:Obj),W.heap[k]?=some o→o.isCells=true→W'.heap[k]?=some o
theorem keepsC_alloc {B:Nat} {W:World} (o:Obj) (h:B≤W.heap.size):KeepsC B W (W.alloc o) :=
 ⟨(Below.refl _ _).alloc h o,fun k o' hk _=>(Below.heap_alloc _ _ _ (gE hk).1).trans hk⟩
theorem keepsC_put {w W:World} {l:Nat} {o o':Obj} (hl:w.heap.size≤l) (h:W.heap[l]?=some o) (hc:o.isCells=false) (hw:o.isWalk=false):KeepsC w.heap.size W (W.putObj l o') :=
 ⟨belowK_b (w:=w) (Nat.le_refl _) W l o o' hl h hc hw,fun k o2 hk h2=>by
  by_cases e:k=l
  ·subst e;rw [h] at hk;obtain rfl:=Option.some.inj hk;rw [hc] at h2
   cases h2
  ·exact (World.putObj_heap_other e).trans hk⟩
theorem KeepsC.trans {B:Nat} {W1 W2 W3:World} (h:KeepsC B W1 W2) (k:KeepsC B W2 W3):KeepsC B W1 W3:=⟨h.1.trans k.1,fun i o hi hc=>k.2 i o (h.2 i o hi hc) hc⟩
theorem KeepsC.cells {B k:Nat} {W W':World} {cs:Array Value} {T:TypeId} {fz:Nat × Nat} (h:KeepsC B W W') (hk:W.heap[k]?=some (.cells cs T fz)):W'.heap[k]?=some (.cells cs T fz):=h.2 k _ hk rfl
theorem KeepsC.block {B k:Nat} {W W':World} {cs:Array Value} {T:TypeId} {fz:Nat × Nat} (h:KeepsC B W W') (hk:W.heap[k]?=some (.cells cs T fz)):W'.heap[k]?=W.heap[k]?:=(h.cells hk).trans hk.symm
def SeqCnt (F:Fence) (n:Nat) (P:Program) (g:Nat) (lb:Array Value) (enc:Nat→Array Value) (Nd:World→Prop) (N:Nat):Prop :=
 ∀ (l:Nat) (J:Nat→World→Prop) (W:World),
  (∀ k W1,k<N→J k W1→YieldAt F (n-1) P l (enc k) W1 fun e W'=>e=.returned (.bool true)∧J (k+1) W') →
  (∀ k W1,J k W1→Nd W1)→J 0 W→CallsIn F n P g (#[.func (.yield l) #[] #[]] ++ lb) W fun e W'=>(∃ v,e=.returned v)∧J N W'
theorem wpIn_rangeFunc_cnt {F:Fence} {n:Nat} {P:Program} {g:Operand} {ps:Array Tmp} {assign body:Code} {Q:Exit→Act→World→Prop} {a:Act} {w:World}
  (hro:F.round=none) (h1:1≤n) {gf:Nat} {lb:Array Value} (hg:a.eval g=.func (.func gf) #[] lb) (hFg:F.fn gf) (eg:∀ args w,(callFunc gf args).run P w=.ok (.enter gf args) w)
  {enc:Nat→Array Value} {Nd:World→Prop} {N:Nat} (hseq:SeqCnt F (n-1) P gf lb enc Nd N) (hps:∀ k,(enc k).size=ps.size)
  (I:Nat→World→Prop) (hI:∀ k W W',I k W→KeepsC w.heap.size W W'→I k W') (hN:∀ k W,I k W→Nd W) (h0:I 0 w)
  (Ax:Nat→Act→World→Prop) (hAx:∀ k a' W W',Ax k a' W→KeepsC w.heap.size W W'→Ax k a' W')
  (hassign:∀ (l k:Nat) (W:World) (K:Act→World→Prop),k<N→I k W→(∀ a' W',KeepsFrom w.heap.size W W'→I k W'→Ax k a' W'→K a' W') →
   assign.wpIn (F.inRound l) (n-1-1) P (Exit.then K (fun _ _ _=>False)) { tmps:=(ps.zip (enc k)).foldl (fun t (p,v)=>t.setIfInBounds p v) a.tmps,defers:=[] } W)
  (hbody:∀ (l k:Nat) (a':Act) (W:World),k<N→I k W→Ax k a' W→body.wpIn (F.inRound l) (n-1-1) P (fun e _ W'=>e=.normal∧KeepsFrom w.heap.size W W'∧I (k+1) W') a' W)
  (hdone:∀ (D:Nat) (W:World),w.heap.size≤D→I N W→W.heap[D]?=some (.deferred (some []))→Q .normal { a with defers:={ target:=.collected D,args:=#[] } :: a.defers } W) :
  (Code.rangeFunc g ps assign body).wpIn F n P Q a w:=by
 refine wpIn_rangeFunc fun fn hfn=>?_
 rw [hro]
 obtain ⟨mk,hmk⟩:∃ mk:LoopState→Loop,∀ st,mk st={ state:=st,pending:=none,fn,tmps:=a.tmps,params:=ps,assign,body,defers:=w.heap.size }:=⟨_,fun _=>rfl⟩
 obtain ⟨Bk,hBk⟩:∃ Bk:LoopState→World→Prop,∀ st W,Bk st W↔W.heap[w.heap.size+1]?=some (.loop (mk st))∧W.heap[w.heap.size]?=some (.deferred (some [])):=⟨_,fun _ _=>Iff.rfl⟩
 have keep:∀ st W W',Bk st W→KeepsFrom w.heap.size W W'→Bk st W':=fun st W W' hb hk=>by
  rw [hBk] at hb ⊢;exact ⟨hk.same _ _ (by omega) hb.1 rfl,hk.same _ _ (Nat.le_refl _) hb.2 rfl⟩
 have turn:∀ st st' W,Bk st W→Bk st' (W.putObj (w.heap.size+1) (.loop (mk st')))∧KeepsC w.heap.size W (W.putObj (w.heap.size+1) (.loop (mk st'))):=fun st st' W hb=>by
  rw [hBk] at hb ⊢;exact ⟨⟨World.putObj_heap_same (gE hb.1).1,(World.putObj_heap_other (by omega)).trans hb.2⟩,keepsC_put (by omega) hb.1 rfl rfl⟩
 obtain ⟨W1,hW1⟩:∃ W1,(w.alloc (.deferred (some []))).alloc (.loop (mk .ready))=W1:=⟨_,rfl⟩
 have b1:Bk .ready W1:=by
  rw [hBk,<- hW1];refine ⟨?_,(Below.heap_alloc _ _ _ (by simp)).trans (World.alloc_heap_new w _)⟩
  have:=World.alloc_heap_new (w.alloc (.deferred (some []))) (.loop (mk .ready))
  rwa [World.size_alloc] at this
 have i1:I 0 W1:=by
  rw [<- hW1];exact hI _ _ _ (hI _ _ _ h0 (keepsC_alloc _ (Nat.le_refl _))) (keepsC_alloc _ (by simp))
 refine ⟨w.heap.size+1,[{ target:=.collected w.heap.size,args:=#[] }],W1,{ target:=.fn (.func gf) lb,args:=#[.func (.yield (w.heap.size+1)) #[] #[]] },W1,gf,
  #[.func (.yield (w.heap.size+1)) #[] #[]] ++ lb,W1,?_,?_,?_,?_,fun _=>h1,?_⟩
 ·rw [<- hW1,hmk];exact run_enterLoop_outer _ _ _ _ _
 ·simp only [resolve,hg]
  simp [go_sem]
 ·intro f' hf'
  simp [Target.leads] at hf'
  subst hf';exact hFg
 ·simp [invoke,go_sem,eg]
 ·refine (hseq (w.heap.size+1) (fun k W=>I k W∧Bk .ready W) W1 ?_ (fun k W h=>hN k W h.1) ⟨i1,b1⟩).mono ?_
  ·rintro k W hk ⟨hi,hb⟩;have hl:=((hBk _ _).1 hb).1;have hy:=run_yield (P:=P) (args:=enc k) hl (by rw [hmk];exact hps k);rw [hmk] at hy;refine ⟨fn,_,assign,body,hy,roundIn_of_wpIn hfn (hassign _ k W _ hk hi ?_)⟩;intro a' Wa hka hia hax;have hba:=keep _ _ _ hb hka;have hla:=((hBk _ _).1 hba).1;have hbr:=run_beginRound (P:=P) hla (by rw [hmk])
   rw [show ({ mk .ready with state:=.busy }:Loop)=mk .busy by rw [hmk,hmk]] at hbr;obtain ⟨hbb,hcb⟩:=turn _ .busy _ hba;refine ⟨_,hbr,wpIn_mono (hbody _ k a' _ hk (hI _ _ _ hia hcb) (hAx _ _ _ _ hax hcb)) ?_⟩;rintro e a3 W3 ⟨rfl,hk3,hi3⟩;have hb3:=keep _ _ _ hbb hk3;have her:=run_endRound (P:=P) none ((hBk _ _).1 hb3).1
   rw [show ({ mk .busy with state:=if (none:Option Code).isNone then .ready else .done,pending:=none }:Loop)=mk .ready by rw [hmk,hmk];rfl] at her;obtain ⟨hb4,hc4⟩:=turn _ .ready _ hb3;exact ⟨_,_,her,rfl,hI _ _ _ hi3 hc4,hb4⟩
  ·rintro e W2 ⟨⟨v,rfl⟩,hi,hb⟩;have hl:=((hBk _ _).1 hb).1;have hel:=run_endLoop (P:=P) hl (by rw [hmk];simp);rw [show (mk .ready).pending=none by rw [hmk]] at hel;exact ⟨none,_,hel,hdone _ _ (Nat.le_refl _) (hI _ _ _ hi (keepsC_put (by omega) hl rfl rfl)) ((World.putObj_heap_other (by omega)).trans ((hBk _ _).1 hb).2)⟩
section
attribute [local go_sem] Oper.semAt_some
def zeroNr:Nr:=⟨⟨0,0,0,false,0,[],[],⟨0,0,0,false,false,false,0,0,0⟩,⟨0,0,0,0,0,0,0,0,0⟩,⟨0,0,0,0,0,0,0,0,0⟩⟩,none,0,none,0⟩
def nrAt (R:List Nr) (i:Nat):Nr:=(R[i]?).getD zeroNr
theorem nrAt_get {R:List Nr} {i:Nat} {p:Nr} (h:R[i]?=some p):nrAt R i=p:=by unfold nrAt;rw [h];rfl
def encR (R:List Nr) (k:Nat):Array Value:=#[.int .i64 ((R.length-1-k:Nat):Int),.agg (valsNr (nrAt R (R.length-1-k))).toArray]
theorem encR_at {R:List Nr} {j:Nat} {p:Nr} (h:R[j]?=some p):encR R (R.length-(j+1))=#[.int .i64 (j:Int),.agg (valsNr p).toArray]:=by
 have hj:=(List.getElem?_eq_some_iff.1 h).1;unfold encR;rw [show R.length-1-(R.length-(j+1))=j by omega,nrAt_get h]
theorem bkc_in (F:Fence) (n:Nat) (hF:F.fn 128) (hro:F.round=none) (hn:1≤n) (Bs:Nat) (A:Option Addr) (c:Nat) (R:List Nr) (hL:R.length≤1048576) :
  SeqCnt F n Tryz.prog 128 #[.pointer (some ⟨Bs,0,none⟩)] (encR R) (fun W=>W.cell? ⟨Bs,0,none⟩=some (.slice A R.length c)∧NrV W A R) R.length:=by
 intro l J W hY hJN h0;have hcs:=(hJN _ _ h0).1;refine callsIn_of_wp Tryz.func128 rfl hF ?_ hro;simp only [Tryz.ntmps128,List.size_toArray,List.length_cons,List.length_nil,Nat.reduceAdd,Nat.reduceSub,Array.replicate_succ,Array.replicate_zero,List.push_toArray,List.append_toArray,List.nil_append,List.cons_append]
 gi_wp2
 clear hcs
 gi_loopw [3] (fun i wr=>∃ k:Nat,k≤R.length∧i=.int .i64 ((k:Int)-1)∧J (R.length-k) wr)
  (fun i _=>(intOf i+1).toNat)
 case atStart=>exact ⟨R.length,Nat.le_refl _,rfl,by rw [Nat.sub_self];exact h0⟩
 case round =>
  obtain ⟨k,hk,rfl,hJs⟩:=hrel
  rcases k with _ | j
  ·have hd:decide (((0:Nat):Int)-1≥0)=false:=by simp
   gi_wp2
   go_end0
   exact ⟨⟨_,rfl⟩,hJs⟩
  ·have e1:((j+1:Nat):Int)-1=(j:Int):=by omega
   rw [e1]
   have hlt:j<R.length:=by omega
   have hd:decide ((j:Int)≥0)=true:=by simp
   have hd2:decide ((0:Int)≤(j:Int))=true:=by simp
   obtain ⟨hcs,hp⟩:=hJN _ _ hJs;obtain ⟨b,off,rfl,hb,hps⟩:=hp.cells (by omega);have hget:R[j]?=some R[j]:=List.getElem?_eq_getElem hlt;have hc:=hps j _ hget;have he:=encR_at hget;generalize hx:R[j]=p at *;obtain ⟨fn,tmps,assign,body,hy,hR⟩:=hY (R.length-(j+1)) wr (by omega) hJs;rw [he] at hy;have HC:=hD hc;have HE:Hid (R.length-(j+1)+1=R.length-j):=hD (by omega);clear hc hget hx hps e1 hp he
   have hjs:IntKind.i64.wrap ((j:Int)-1)=(j:Int)-1:=IntWalk.i64_in _ (by omega)
   gi_wp2_with (refine ldNI 90 _ (valsNr p) b (off+j*34) rfl rfl rfl HC.out Tryz.underlying90 rfl (by rw [valsNr_len];kernel_rfl) ?_)
   refine hR.mono ?_;rintro e W3 ⟨rfl,hJ3⟩;rw [HE.out] at hJ3
   gi_wp2
   go_roundw
   case rel=>exact ⟨j,by omega,by go_num,hJ3⟩
   case measure=>simp [intOf]
end
def NodS (w:World) (g:Nat) (S:List Nr):Prop:=∃ cs:Array Value,w.heap[g]?=some (.cells cs 90 (0,0))∧cs.size=S.length*34∧∀ i q,S[i]?=some q→cs[i*34+5]?=some (.slice q.ca q.n.cs.length q.cc)∧cs[i*34+6]?=some (.slice q.ra q.n.rs.length q.rc)
theorem NodS.of {w:World} {g:Nat} {S:List Nr} (h:NrB w g S):NodS w g S:=by
 obtain ⟨cs,hh,hs,hc⟩:=h;exact ⟨cs,hh,hs,fun i q hq=>⟨hc i q hq 5 _ rfl,hc i q hq 6 _ rfl⟩⟩
theorem NodS.lt {w:World} {g:Nat} {S:List Nr} (h:NodS w g S):g<w.heap.size:=by obtain ⟨cs,hh,_⟩:=h;exact ltS hh
theorem NodS.keep {w w':World} {g:Nat} {S:List Nr} (h:NodS w g S) (hb:w'.heap[g]?=w.heap[g]?):NodS w' g S:=by
 obtain ⟨cs,hh,r⟩:=h;exact ⟨cs,hb.trans hh,r⟩
theorem NodS.put {w:World} {g:Nat} {S:List Nr} (h:NodS w g S) (k j:Nat) (hj:j<34) (h5:j≠5) (h6:j≠6) (v:Value):NodS (w.setCell ⟨g,k*34+j,none⟩ v) g S:=by
 obtain ⟨cs,hh,hs,hc⟩:=h;refine ⟨_,putS hh v,by simpa using hs,fun i q hq=>?_⟩;obtain ⟨e5,e6⟩:=hc i q hq;rw [Array.getElem?_setIfInBounds_ne (by omega),Array.getElem?_setIfInBounds_ne (by omega)];exact ⟨e5,e6⟩
theorem NodS.cell {w:World} {g:Nat} {S:List Nr} (h:NodS w g S) {k j:Nat} (hk:k<S.length) (hj:j<34):∃ v,w.cell? ⟨g,k*34+j,none⟩=some v:=by
 obtain ⟨cs,hh,hs,_⟩:=h;exact thereS hh (by omega)
theorem NodS.frz {w:World} {g:Nat} {S:List Nr} (h:NodS w g S) (i:Nat):w.frozen? ⟨g,i,none⟩=false:=by
 obtain ⟨cs,hh,_⟩:=h;exact frozenS hh i
theorem NodS.sl {w:World} {g:Nat} {S:List Nr} (h:NodS w g S) {k:Nat} {q:Nr} (hq:S[k]?=some q):w.cell? ⟨g,k*34+5,none⟩=some (.slice q.ca q.n.cs.length q.cc)∧w.cell? ⟨g,k*34+6,none⟩=some (.slice q.ra q.n.rs.length q.rc):=by
 obtain ⟨cs,hh,_,hc⟩:=h;exact ⟨(cellS hh _).trans (hc k q hq).1,(cellS hh _).trans (hc k q hq).2⟩
def LnsS (w:World) (g hi k:Nat) (S:List Nr):Prop:=∀ i q,k≤i→S[i]?=some q→∃ g1 g2,q.ca=some ⟨g1,0,none⟩∧q.cc=q.n.cs.length∧q.ra=some ⟨g2,0,none⟩∧q.rc=q.n.rs.length∧g<g1∧g1<g2∧g2<hi∧LnB w g1 q.n.cs∧LnB w g2 q.n.rs
def ApS (S:List Nr):Prop:=∀ (i j:Nat) (q r:Nr),i<j→S[i]?=some q→S[j]?=some r→∀ a b:Addr,(q.ca=some a∨q.ra=some a)→(r.ca=some b∨r.ra=some b)→a.block<b.block
theorem LnsS.of {g hi:Nat} {w:World} {R S:List Nr} (h:CpR (g+1) w R S) (hs:w.heap.size≤hi):LnsS w g hi 0 S:=fun i q _ hq=>by
 have hi':=(List.getElem?_eq_some_iff.1 hq).1;rw [h.len] at hi';obtain ⟨g1,g2,rfl,h1,h2,h3,h4⟩:=h.each i _ q (List.getElem?_eq_getElem hi') hq;have l4:=h4.lt;exact ⟨g1,g2,rfl,rfl,rfl,rfl,by omega,h2,by omega,h3,h4⟩
theorem LnsS.put {w:World} {g hi k:Nat} {S:List Nr} (h:LnsS w g hi k S) (o:Nat) (v:Value):LnsS (w.setCell ⟨g,o,none⟩ v) g hi k S:=fun i q hk hq=>by
 obtain ⟨g1,g2,e1,e2,e3,e4,h1,h2,h3,h4,h5⟩:=h i q hk hq;exact ⟨g1,g2,e1,e2,e3,e4,h1,h2,h3,h4.but (gsetS (greflS w g) o v) (by omega),h5.but (gsetS (greflS w g) o v) (by omega)⟩
structure FmN (t:Array Value) (g n c k:Nat) (z:Int):Prop where
 size:t.size=286
 t0:t[0]?=some (.slice (some ⟨g,0,none⟩) n c)
 t1:t[1]?=some (.int .i64 z)
 t5:t[5]?=some (.int .i64 k)
theorem FmN.all {t:Array Value} {g n c k:Nat} {z:Int} (h:FmN t g n c k z):(∃ l:0<t.size,t[0]=.slice (some ⟨g,0,none⟩) n c)∧(∃ l:1<t.size,t[1]=.int .i64 z)∧(∃ l:5<t.size,t[5]=.int .i64 k)∧t.size=286∧t[0]?=some (.slice (some ⟨g,0,none⟩) n c)∧t[1]?=some (.int .i64 z)∧t[5]?=some (.int .i64 k) :=
 ⟨gE h.t0,gE h.t1,gE h.t5,h.size,h.t0,h.t1,h.t5⟩
structure StN (w W:World) (g hi k j:Nat) (S:List Nr) (q:Nr) (g1 g2:Nat) (b1 b2:Bool):Prop where
 s:NodS W g S
 l:LnsS W g hi j S
 i:Wi g hi w W
 c:b1=true→LnB W g1 q.n.cs
 r:b2=true→LnB W g2 q.n.rs
theorem StN.put {w W:World} {g hi k j':Nat} {S:List Nr} {q:Nr} {g1 g2:Nat} {b1 b2:Bool} (h:StN w W g hi k j' S q g1 g2 b1 b2) (hg:g<g1∧g1<g2∧g2<hi) (j:Nat) (hj:j<34) (h5:j≠5) (h6:j≠6) (v:Value):StN w (W.setCell ⟨g,k*34+j,none⟩ v) g hi k j' S q g1 g2 b1 b2 :=
 ⟨h.s.put k j hj h5 h6 v,h.l.put _ _,h.i.set ⟨Nat.le_refl _,by omega⟩ _,fun e=>(h.c e).but (gsetS (greflS _ g) _ _) (by omega),fun e=>(h.r e).but (gsetS (greflS _ g) _ _) (by omega)⟩
theorem OB.sameL {w w':World} {g cap:Nat} {L:List Int} (h:OB w g cap L) (e:w'.heap[g]?=w.heap[g]?):OB w' g cap L:=by
 obtain ⟨hl,cs,hh,hs,hc⟩:=h;exact ⟨hl,cs,e.trans hh,hs,hc⟩
def MKo (k:Int) (n:Nat):List Int:=(List.range n).map (fun i:Nat=>(i:Int)+k)
structure TM (g hi:Nat) (S:List Nr) (w:World):Prop where
 s:NodS w g S
 l:LnsS w g hi 0 S
 a:ApS S
 lt:g<hi
theorem TM.of {g:Nat} {w:World} {R S:List Nr} (h:NrB w g S) (hc:CpR (g+1) w R S):TM g w.heap.size S w:=⟨NodS.of h,LnsS.of hc (Nat.le_refl _),hc.apart,h.lt⟩
theorem TM.keep {g hi:Nat} {S:List Nr} {w w':World} (h:TM g hi S w) (hb:Below w.heap.size w w'):TM g hi S w' :=
 ⟨h.s.keep (hb.block g h.s.lt),fun i q hk hq=>by
  obtain ⟨g1,g2,e1,e2,e3,e4,l1,l2,l3,b1,b2⟩:=h.l i q hk hq
  exact ⟨g1,g2,e1,e2,e3,e4,l1,l2,l3,b1.keep hb,b2.keep hb⟩,h.a,h.lt⟩
theorem Wi.pre {lo hi:Nat} {w w':World} {o:Obj} (h:Wi lo hi (w.alloc o) w'):Wi lo hi w w' :=
 ⟨h.os.trans rfl,h.tape.trans rfl,h.output.trans rfl,by have:=h.size;rw [World.size_alloc] at this;omega,fun k hk hn=>(h.block k (by rw [World.size_alloc];omega) hn).trans (Below.heap_alloc _ _ _ hk)⟩
def GO (lo:Nat) (w:World) (v:Value) (M:List Int):Prop:=(v=.slice none 0 0∧M=[])∨∃ g cap n,v=.slice (some ⟨g,0,none⟩) n cap∧n=M.length∧lo≤g∧OB w g cap M
theorem GO.of {lo n:Nat} {w:World} {v:Value} {M:List Int} (h:w.ownsRow lo 3 1 v n (nvalsW M)) (hn:n=M.length):GO lo w v M :=
 (own_inW h hn).imp id fun ⟨g,cap,h1,h2,h3⟩=>⟨g,cap,n,h1,hn,h2,h3⟩
theorem GO.keep {lo:Nat} {w w':World} {v:Value} {L:List Int} (h:GO lo w v L) (hb:Below w.heap.size w w'):GO lo w' v L:=h.imp id fun ⟨g,cap,n,h1,h2,h3,hk⟩=>⟨g,cap,n,h1,h2,h3,hk.keep hb⟩
theorem GO.mono {lo lo':Nat} {w:World} {v:Value} {L:List Int} (h:GO lo w v L) (hl:lo'≤lo):GO lo' w v L:=h.imp id fun ⟨g,cap,n,h1,h2,h3,hk⟩=>⟨g,cap,n,h1,h2,Nat.le_trans hl h3,hk⟩
def GOM (w:World) (v:Value) (n:Nat):Prop:=(v=.slice none 0 0∧n=0)∨∃ g cap,v=.slice (some ⟨g,0,none⟩) n cap∧OB w g cap (MKo 1 n)
theorem GOM.keep {w w':World} {v:Value} {n:Nat} (h:GOM w v n) (hb:Below w.heap.size w w'):GOM w' v n:=h.imp id fun ⟨g,cap,h1,hk⟩=>⟨g,cap,h1,hk.keep hb⟩
theorem indicesF_v (n:Nat) (f:Nat→Bool) (caps:Array Value) (w:World) (hn:n≤1048576)
  (hf:∀ k,k<n→∀ W,Below w.heap.size w W→Calls Tryz.prog 75 (#[.int .i64 (k:Int)] ++ caps) W fun e W'=>e=.returned (.bool (f k))∧Below W.heap.size W W') :
  Calls Tryz.prog 48 #[.int .i64 (n:Int),.func (.func 75) #[] caps] w fun e w'=>(∃ v,e=.returned v∧GO w.heap.size w' v (idsM f n))∧Below w.heap.size w w' :=
 (indicesG_v 75 (enters_of Tryz.func75 (by kernel_rfl) rfl) n f caps w hn hf).mono fun e w' ⟨⟨v,h1,h2⟩,h3⟩=>⟨⟨v,h1,GO.of h2 rfl⟩,h3⟩
theorem kidsOf_f (A:Option Addr) (c:Nat) (R:List Nr) (i:Int) (w:World) (h:NrV w A R) (hL:R.length≤1048576) :
  Calls Tryz.prog 54 #[.agg #[.slice A R.length c],.int .i64 i] w fun e w'=>(∃ v,e=.returned v∧GO w.heap.size w' v (kidsM R i))∧Below w.heap.size w w':=by
 have hB0:Below w.heap.size w ((w.alloc (.cells #[.slice A R.length c] 30 (0,0))).alloc (.cells #[.int .i64 i] 3 (0,0))):=(balloc (Below.refl _ _)).trans ((balloc (Below.refl _ _)).mono (by simp))
 have H1:=hD (show ((w.alloc (.cells #[.slice A R.length c] 30 (0,0))).alloc (.cells #[.int .i64 i] 3 (0,0))).heap[w.heap.size]?=some (.cells #[.slice A R.length c] 30 (0,0)) from (Below.heap_alloc _ _ _ (by simp)).trans (newS _ _))
 have H2:=hD (show ((w.alloc (.cells #[.slice A R.length c] 30 (0,0))).alloc (.cells #[.int .i64 i] 3 (0,0))).heap[w.heap.size+1]?=some (.cells #[.int .i64 i] 3 (0,0)) from by have:=newS (w.alloc (.cells #[.slice A R.length c] 30 (0,0))) (.cells #[.int .i64 i] 3 (0,0));simpa using this);have HV:=hD (h.keep hB0);have HB:=hD hB0;clear hB0 h
 go_enter Tryz.func54,Tryz.ntmps54
 go_wp2_with fail
 refine (indicesF_v R.length (isKid R i) #[.pointer (some ⟨w.heap.size,0,none⟩),.pointer (some ⟨w.heap.size+1,0,none⟩)] _ hL (fun k hk W hW=>kid1_v A c R i k _ _ W (HV.out.keep hW) hk ((cellS ((hW.block _ (ltS H1.out)).trans H1.out) 0)) ((cellS ((hW.block _ (ltS H2.out)).trans H2.out) 0)) (Nat.lt_of_lt_of_le (ltS H1.out) hW.size) (Nat.lt_of_lt_of_le (ltS H2.out) hW.size) hL)).mono ?_
 rintro e w1 ⟨⟨v,rfl,hv⟩,hb1⟩;have HK:Hid (GO w.heap.size w1 v (kidsM R i)):=hD (hv.mono (by simp <;> omega));replace HB:=hD (bkeep2 HB.out hb1);clear hv hb1 H1 H2 HV;go_wp2;go_ret;exact ⟨⟨v,rfl,HK.out⟩,HB.out⟩
section
attribute [local go_sem] Oper.semAt_some
attribute [local go_sem] givesUpon_value givesUpon_skip givesUpon_enter
def zeroNrA:Array Value:=(valsNr zeroNr).toArray
def zeroWd:Wd:=⟨zeroNr,0,0,none,0,0⟩
theorem made_zero:∃ f:Nat→Array Value,(∀ n,(f n).size=n*37)∧(∀ n i,i<n→InS (f n) (i*37) (valsWd zeroWd))∧∀ (n:Nat) (w:World),n≤1048576→(Instr.makeSlice 93 (.int .i64 (n:Int)) (.int .i64 (n:Int))).run Tryz.prog w=.ok (.slice (some ⟨w.heap.size,0,none⟩) n n) (w.alloc (.cells (f n) 98)):=by
 obtain ⟨i,z,hi,h1,h2,h3,h4⟩:∃ (i:TypeInfo) (z:Value),Tryz.prog.info? 98=some i∧i.zero=some z∧i.size=37∧i.bytes≤512∧z.cells=(valsWd zeroWd).toArray:=by
  have h:(Tryz.prog.info? 98).map (fun i=>(i.size,decide (i.bytes≤512),i.zero.map Value.cells))=some (37,true,some (valsWd zeroWd).toArray):=by kernel_rfl
  cases hq:Tryz.prog.info? 98 with
  | none=>rw [hq] at h;cases h
  | some i =>
   rw [hq] at h;simp only [Option.map_some,Option.some.injEq,Prod.mk.injEq] at h;obtain ⟨e1,e2,e3⟩:=h
   cases hz:i.zero with
   | none=>rw [hz] at e3;cases e3
   | some z=>rw [hz] at e3;exact ⟨i,z,rfl,hz,e1,by simpa using e2,by simpa using e3⟩
 refine ⟨fun n=>madeCells z.cells (n*37),fun n=>size_madeCells _ _,fun n k hk j u hj=>?_,fun n w hn=>?_⟩
 ·have hj37:j<37:=by have:=(List.getElem?_eq_some_iff.1 hj).1;rwa [valsWd_len] at this
  have hlt:k*37+j<n*37:=by
   have:(k+1)*37≤n*37:=Nat.mul_le_mul_right 37 hk
   omega
  have hm:(k*37+j) % 37=j:=by omega
  have hs:z.cells.size=37:=by rw [h4];rfl
  have hq:z.cells[j]?=some u:=by rw [h4];simpa only [List.getElem?_toArray] using hj
  obtain ⟨hlt2,he⟩:=gE hq;clear hj h4;unfold madeCells;rw [Array.getElem?_map,Array.getElem?_range,if_pos hlt,Option.map_some,hs,hm,getElem!_pos z.cells j hlt2,he]
 ·have e:((i.bytes*n:Nat):Int)≤((512*1048576:Nat):Int):=Int.ofNat_le.2 (Nat.mul_le_mul h3 hn);rw [Int.natCast_mul] at e;have hr:=run_make (P:=Tryz.prog) w 93 98 i _ Tryz.underlying93 hi h1 .i64 .i64 n n (by omega) (Int.le_refl _) (Int.le_trans e (by decide)) (by omega);rw [h2] at hr
  simpa using hr
def KidA (lo:Nat) (w:World) (A:Option Addr) (M:List Int):Prop:=(A=none∧M=[])∨∃ g cap,A=some ⟨g,0,none⟩∧lo≤g∧OB w g cap M
theorem KidA.nv {lo:Nat} {w:World} {A:Option Addr} {M:List Int} (h:KidA lo w A M):NV w A M:=by
 rcases h with ⟨rfl,rfl⟩ | ⟨g,cap,rfl,_,h⟩
 ·exact NV.nil _ _
 ·exact h.nv
theorem KidA.same {lo:Nat} {w w':World} {A:Option Addr} {M:List Int} (h:KidA lo w A M) (hs:∀ (g:Nat),lo≤g→∀ cs:Array Value,w.heap[g]?=some (.cells cs 3 (0,0))→w'.heap[g]?=w.heap[g]?):KidA lo w' A M:=by
 rcases h with ⟨rfl,rfl⟩ | ⟨g,cap,rfl,hl,h⟩
 ·exact .inl ⟨rfl,rfl⟩
 ·obtain ⟨_,cs,hh,_⟩:=id h;exact .inr ⟨g,cap,rfl,hl,h.sameL (hs g hl cs hh)⟩
theorem KidA.keep {lo:Nat} {w w':World} {A:Option Addr} {M:List Int} (h:KidA lo w A M) (hb:Below w.heap.size w w'):KidA lo w' A M:=h.same fun g _ cs hg=>hb.block g (ltS hg)
def KdA (lo:Nat) (w:World) (v:Value) (M:List Int):Prop:=∃ A c,v=.slice A M.length c∧KidA lo w A M
theorem KdA.keep {lo:Nat} {w w':World} {v:Value} {M:List Int} (h:KdA lo w v M) (hb:Below w.heap.size w w'):KdA lo w' v M:=let ⟨A,c,e,k⟩:=h;⟨A,c,e,k.keep hb⟩
theorem KdA.of {lo lo':Nat} {w:World} {v:Value} {M:List Int} (h:GO lo' w v M) (hl:lo≤lo'):KdA lo w v M:=by
 rcases h with ⟨rfl,rfl⟩ | ⟨g,cap,n,rfl,rfl,h1,h2⟩
 ·exact ⟨none,0,rfl,.inl ⟨rfl,rfl⟩⟩
 ·exact ⟨_,cap,rfl,.inr ⟨g,cap,rfl,by omega,h2⟩⟩
def IsWd (lo:Nat) (w:World) (x:Wd) (p:Nr) (q:Int × Int) (M:List Int):Prop:=x.p=p∧(x.sw,x.sh)=q∧x.kn=M.length∧KidA lo w x.ka M
theorem IsWd.keep {lo:Nat} {w w':World} {x:Wd} {p:Nr} {q:Int × Int} {M:List Int} (h:IsWd lo w x p q M) (hb:Below w.heap.size w w'):IsWd lo w' x p q M:=⟨h.1,h.2.1,h.2.2.1,h.2.2.2.keep hb⟩
def WdV (lo:Nat) (w:World) (v:Value) (p:Nr) (q:Int × Int) (M:List Int):Prop:=∃ x:Wd,v=.agg (valsWd x).toArray∧IsWd lo w x p q M
theorem WdV.keep {lo:Nat} {w w':World} {v:Value} {p:Nr} {q:Int × Int} {M:List Int} (h:WdV lo w v p q M) (hb:Below w.heap.size w w'):WdV lo w' v p q M:=let ⟨x,e,k⟩:=h;⟨x,e,k.keep hb⟩
theorem run_bW (p:Nr) (a b:Int) (A:Option Addr) (n c:Nat) (w:World):(Instr.build 98 #[(0,.agg (valsNr p).toArray),(1,.agg #[.int .i64 a,.int .i64 b]),(2,.slice A n c)]).run Tryz.prog w=.ok (.agg (valsWd ⟨p,a,b,A,n,c⟩).toArray) w:=by kernel_rfl
def WdK (lo:Nat) (w:World) (R:List Nr) (i:Nat) (x:Wd):Prop:=∃ p,R[i]?=some p∧IsWd lo w x p (szM (R.map Nr.n) i) ((kidD (R.map Nr.n) i).map fun (k:Nat)=>(k:Int))
structure StW (w:World) (A:Option Addr) (c:Nat) (R:List Nr) (k:Nat) (W:World):Prop where
 t:W.heap[w.heap.size]?=some (.cells #[.slice A R.length c] 30 (0,0))
 s:W.heap[w.heap.size+1+1]?=some (.cells #[.slice (some ⟨w.heap.size+1,0,none⟩) R.length R.length] 93 (0,0))
 b:W.heap[w.heap.size+1+1+1]?=some (.cells #[.slice A R.length c] 28 (0,0))
 x:∃ X:List Wd,X.length=R.length∧RbK 37 W (w.heap.size+1) 98 (X.map valsWd)∧∀ i x,X[i]?=some x→R.length≤i+k→WdK (w.heap.size+4) W R i x
 l:Below w.heap.size w W
 z:w.heap.size+4≤W.heap.size
theorem StW.same {w W W':World} {A:Option Addr} {c:Nat} {R:List Nr} {k:Nat} (h:StW w A c R k W) (hb:Below w.heap.size W W') (hc:∀ (g:Nat) (cs:Array Value) (T:TypeId),W.heap[g]?=some (.cells cs T (0,0))→W'.heap[g]?=W.heap[g]?):StW w A c R k W':=by
 obtain ⟨t,s,b,⟨X,x1,x2,x3⟩,l,z⟩:=h;have x2':=x2;obtain ⟨cs,hh,_⟩:=x2';refine ⟨(hc _ _ _ t).trans t,(hc _ _ _ s).trans s,(hc _ _ _ b).trans b,⟨X,x1,x2.keep' (hc _ _ _ hh),fun i x hx hi=>?_⟩,l.trans hb,Nat.le_trans z hb.size⟩;obtain ⟨p,hp,k1,k2,k3,k4⟩:=x3 i x hx hi;exact ⟨p,hp,k1,k2,k3,k4.same fun g _ cs hg=>hc g cs _ hg⟩
theorem StW.below {w W W':World} {A:Option Addr} {c:Nat} {R:List Nr} {k:Nat} (h:StW w A c R k W) (hb:Below W.heap.size W W'):StW w A c R k W':=h.same (hb.mono (by have:=h.z;omega)) fun g cs T hg=>hb.block g (ltS hg)
theorem InS_append {cs:Array Value} {o:Nat} {A B:List Value}:InS cs o (A ++ B)↔InS cs o A∧InS cs (o+A.length) B:=by
 constructor
 ·intro h;refine ⟨fun j u hj=>h j u ?_,fun j u hj=>?_⟩
  ·rw [List.getElem?_append_left (List.getElem?_eq_some_iff.1 hj).1];exact hj
  ·rw [Nat.add_assoc];refine h (A.length+j) u ?_;rw [List.getElem?_append_right (by omega)]
   simpa using hj
 ·rintro ⟨h1,h2⟩ j u hj
  by_cases hl:j<A.length
  ·rw [List.getElem?_append_left hl] at hj;exact h1 j u hj
  ·rw [List.getElem?_append_right (by omega)] at hj
   have:=h2 _ u hj
   rwa [show o+A.length+(j-A.length)=o+j by omega] at this
theorem RbK.set {k:Nat} {w:World} {g:Nat} {T:TypeId} {R:List (List Value)} (h:RbK k w g T R) (hR:∀ vs∈R,vs.length=k) {j:Nat} {vs:List Value} (hv:vs.length=k) (hj:j<R.length):RbK k (w.setCells g (j*k) vs) g T (R.set j vs):=by
 obtain ⟨cs,hh,hs,hc⟩:=h;have e:(j+1)*k≤R.length*k:=Nat.mul_le_mul_right k hj;rw [Nat.add_mul,Nat.one_mul] at e;refine ⟨_,heap_setCells vs (j*k) _ _ hh,by rw [wrAt_size,hs,List.length_set],fun i us hi hu=>?_⟩
 by_cases ei:i=j
 ·subst ei;rw [List.getElem?_set_self (by simpa using hj)] at hu;obtain rfl:=Option.some.inj hu;exact InS.write (by rw [hv,hs];omega)
 ·rw [List.getElem?_set_ne (fun e=>ei e.symm)] at hu;have hil:=(List.getElem?_eq_some_iff.1 hu).1;refine (hc i us hil hu).keepS ?_;rw [hR us (List.mem_of_getElem? hu),hv]
  rcases Nat.lt_or_gt_of_ne ei with hlt | hlt
  ·left
   have e2:(i+1)*k≤j*k:=Nat.mul_le_mul_right k hlt;rw [Nat.add_mul,Nat.one_mul] at e2;omega
  ·right
   have e2:(j+1)*k≤i*k:=Nat.mul_le_mul_right k hlt;rw [Nat.add_mul,Nat.one_mul] at e2;omega
theorem RbK.wish {w:World} {g:Nat} {T:TypeId} {X:List Wd} (h:RbK 37 w g T (X.map valsWd)) {j:Nat} {x:Wd} (hx:X[j]?=some x) (a b:Int):RbK 37 (w.setCells g (j*37+34) (valsWi (a,b))) g T ((X.set j { x with sw:=a,sh:=b }).map valsWd):=by
 obtain ⟨cs,hh,hs,hc⟩:=h;have hj:=(List.getElem?_eq_some_iff.1 hx).1;rw [List.length_map] at hs;have e:(j+1)*37≤X.length*37:=Nat.mul_le_mul_right 37 hj;refine ⟨_,heap_setCells _ (j*37+34) _ _ hh,by rw [wrAt_size,hs,List.length_map,List.length_set],fun i us hi hu=>?_⟩;rw [List.getElem?_map] at hu
 by_cases ei:i=j
 ·subst ei;rw [List.getElem?_set_self hj] at hu;obtain rfl:=Option.some.inj hu;have h0:=hc i (valsWd x) (by rw [List.length_map];exact hj) (by rw [List.getElem?_map,hx];rfl);unfold valsWd at h0 ⊢;rw [show ([.int .i64 x.sw,.int .i64 x.sh,.slice x.ka x.kn x.kc]:List Value)=valsWi (x.sw,x.sh) ++ [.slice x.ka x.kn x.kc] from rfl,InS_append,InS_append] at h0
  rw [show ([.int .i64 a,.int .i64 b,.slice x.ka x.kn x.kc]:List Value)=valsWi (a,b) ++ [.slice x.ka x.kn x.kc] from rfl,InS_append,InS_append];refine ⟨h0.1.keepS (.inl (by rw [valsNr_len];omega)),InS.write (by rw [hs];show _+34+2≤_;omega),h0.2.2.keepS (.inr ?_)⟩
  show i*37+34+2≤i*37+34+2
  omega
 ·rw [List.getElem?_set_ne (fun e=>ei e.symm)] at hu
  cases hxi:X[i]? with
  | none=>rw [hxi] at hu;cases hu
  | some y =>
   rw [hxi] at hu;obtain rfl:=Option.some.inj hu;have hil:=(List.getElem?_eq_some_iff.1 hxi).1;refine (hc i (valsWd y) (by rw [List.length_map];exact hil) (by rw [List.getElem?_map,hxi];rfl)).keepS ?_;rw [valsWd_len]
   show _∨j*37+34+2≤_
   omega
theorem KidA.sets {lo g o:Nat} {w:World} {A:Option Addr} {M:List Int} (h:KidA lo w A M) (hg:g<lo) (vs:List Value):KidA lo (w.setCells g o vs) A M:=h.same fun b hb cs _=>heap_setCells_ne (by omega) vs o w
structure StM (w:World) (A:Option Addr) (c:Nat) (R:List Nr) (j:Nat) (x:Wd) (W:World):Prop where
 t:W.heap[w.heap.size]?=some (.cells #[.slice A R.length c] 30 (0,0))
 s:W.heap[w.heap.size+1+1]?=some (.cells #[.slice (some ⟨w.heap.size+1,0,none⟩) R.length R.length] 93 (0,0))
 b:W.heap[w.heap.size+1+1+1]?=some (.cells #[.slice A R.length c] 28 (0,0))
 x:∃ X:List Wd,X.length=R.length∧RbK 37 W (w.heap.size+1) 98 (X.map valsWd)∧X[j]?=some x∧∀ i x,X[i]?=some x→j<i→WdK (w.heap.size+4) W R i x
 l:Below w.heap.size w W
 z:w.heap.size+4≤W.heap.size
theorem WdK.sets {lo g o i:Nat} {w:World} {R:List Nr} {x:Wd} (h:WdK lo w R i x) (hg:g<lo) (vs:List Value):WdK lo (w.setCells g o vs) R i x:=let ⟨p,hp,a,b,c,d⟩:=h;⟨p,hp,a,b,c,d.sets hg vs⟩
theorem WdK.keep {lo i:Nat} {w w':World} {R:List Nr} {x:Wd} (h:WdK lo w R i x) (hb:Below w.heap.size w w'):WdK lo w' R i x:=let ⟨p,hp,a⟩:=h;⟨p,hp,a.keep hb⟩
theorem StM.keep {w W W':World} {A:Option Addr} {c:Nat} {R:List Nr} {j:Nat} {x:Wd} (h:StM w A c R j x W) (hb:Below W.heap.size W W'):StM w A c R j x W':=by
 obtain ⟨t,s,b,⟨X,x1,x2,x3,x4⟩,l,z⟩:=h;exact ⟨(hb.block _ (ltS t)).trans t,(hb.block _ (ltS s)).trans s,(hb.block _ (ltS b)).trans b,⟨X,x1,x2.keep hb,x3,fun i x hx hi=>(x4 i x hx hi).keep hb⟩,bkeep2 l hb,Nat.le_trans z hb.size⟩
theorem StM.wish {w W:World} {A:Option Addr} {c:Nat} {R:List Nr} {j:Nat} {x:Wd} (h:StM w A c R j x W) (a b:Int):StM w A c R j { x with sw:=a,sh:=b } (W.setCells (w.heap.size+1) (j*37+34) (valsWi (a,b))):=by
 obtain ⟨t,s,b',⟨X,x1,x2,x3,x4⟩,l,z⟩:=h;refine ⟨(heap_setCells_ne (by omega) _ _ _).trans t,(heap_setCells_ne (by omega) _ _ _).trans s,(heap_setCells_ne (by omega) _ _ _).trans b',⟨_,by rw [List.length_set,x1],x2.wish x3 a b,List.getElem?_set_self (List.getElem?_eq_some_iff.1 x3).1,fun i y hy hi=>?_⟩,below_setCells (by omega) _ _ _ l,by rw [size_setCellsT];exact z⟩
 rw [List.getElem?_set_ne (by omega)] at hy;exact (x4 i y hy hi).sets (by omega) _
theorem StM.done {w W:World} {A:Option Addr} {c:Nat} {R:List Nr} {j k:Nat} {x:Wd} (h:StM w A c R j x W) (hx:WdK (w.heap.size+4) W R j x) (hj:j+(k+1)=R.length):StW w A c R (k+1) W:=by
 obtain ⟨t,s,b,⟨X,x1,x2,x3,x4⟩,l,z⟩:=h;refine ⟨t,s,b,⟨X,x1,x2,fun i y hy hi=>?_⟩,l,z⟩
 by_cases e:i=j
 ·subst e;rw [x3] at hy;obtain rfl:=Option.some.inj hy;exact hx
 ·exact x4 i y hy (by omega)
theorem StW.put {w W:World} {A:Option Addr} {c:Nat} {R:List Nr} {j k:Nat} (h:StW w A c R k W) (hj:R.length≤j+(k+1)) (hj2:j+k<R.length) (x:Wd):StM w A c R j x (W.setCells (w.heap.size+1) (j*37) (valsWd x)):=by
 obtain ⟨t,s,b',⟨X,x1,x2,x4⟩,l,z⟩:=h;refine ⟨(heap_setCells_ne (by omega) _ _ _).trans t,(heap_setCells_ne (by omega) _ _ _).trans s,(heap_setCells_ne (by omega) _ _ _).trans b',⟨X.set j x,by rw [List.length_set,x1],?_,List.getElem?_set_self (by omega),fun i y hy hi=>?_⟩,below_setCells (by omega) _ _ _ l,by rw [size_setCellsT];exact z⟩
 ·rw [List.map_set];exact x2.set (fun vs hv=>by obtain ⟨y,_,rfl⟩:=List.mem_map.1 hv;exact valsWd_len y) (valsWd_len x) (by rw [List.length_map];omega)
 ·rw [List.getElem?_set_ne (by omega)] at hy;exact (x4 i y hy (by omega)).sets (by omega) _
theorem keepsFrom_setCells {B g:Nat}:∀ (vs:List Value) (o:Nat) (w:World),KeepsFrom B w (w.setCells g o vs)
 | [],o,w=>KeepsFrom.refl B w
 | v :: r,o,w=>((KeepsOthers.setCell w ⟨g,o,none⟩ v).from B).trans (keepsFrom_setCells r (o+1) (w.setCell ⟨g,o,none⟩ v))
theorem KidA.any {lo:Nat} {w:World} {A:Option Addr} {M:List Int} (h:KidA lo w A M):KidA 0 w A M:=by
 rcases h with h | ⟨g,cap,e,_,h⟩
 ·exact .inl h
 ·exact .inr ⟨g,cap,e,Nat.zero_le _,h⟩
def SetV (lo:Nat) (w:World) (R:List Nr) (v:Value):Prop:=∃ (g:Nat) (X:List Wd),v=.slice (some ⟨g,0,none⟩) R.length R.length∧lo≤g∧X.length=R.length∧RbK 37 w g 98 (X.map valsWd)∧∀ i x,X[i]?=some x→WdK 0 w R i x
theorem SetV.keep {lo:Nat} {w w':World} {R:List Nr} {v:Value} (h:SetV lo w R v) (hb:Below w.heap.size w w'):SetV lo w' R v:=let ⟨g,X,e,hl,h1,h2,h3⟩:=h;⟨g,X,e,hl,h1,h2.keep hb,fun i x hx=>(h3 i x hx).keep hb⟩
theorem StW.all {w W:World} {A:Option Addr} {c:Nat} {R:List Nr} (h:StW w A c R R.length W):SetV w.heap.size W R (.slice (some ⟨w.heap.size+1,0,none⟩) R.length R.length):=by
 obtain ⟨t,s,b,⟨X,x1,x2,x3⟩,l,z⟩:=h;exact ⟨_,X,rfl,by omega,x1,x2,fun i x hx=>let ⟨p,hp,a1,a2,a3,a4⟩:=x3 i x hx (by omega);⟨p,hp,a1,a2,a3,a4.any⟩⟩
theorem four (w:World) (o1 o2 o3 o4:Obj):∃ W,(((w.alloc o1).alloc o2).alloc o3).alloc o4=W∧W.heap[w.heap.size]?=some o1∧W.heap[w.heap.size+1]?=some o2∧W.heap[w.heap.size+1+1]?=some o3∧W.heap[w.heap.size+1+1+1]?=some o4∧W.heap.size=w.heap.size+4∧Below w.heap.size w W:=by
 have n1:=World.alloc_heap_new w o1;have n2:=World.alloc_heap_new (w.alloc o1) o2;have n3:=World.alloc_heap_new ((w.alloc o1).alloc o2) o3;have n4:=World.alloc_heap_new (((w.alloc o1).alloc o2).alloc o3) o4;simp only [World.size_alloc] at n1 n2 n3 n4;refine ⟨_,rfl,?_,?_,?_,n4,by simp,?_⟩
 ·exact (Below.heap_alloc _ _ _ (by simp;omega)).trans ((Below.heap_alloc _ _ _ (by simp;omega)).trans ((Below.heap_alloc _ _ _ (by simp)).trans n1))
 ·exact (Below.heap_alloc _ _ _ (by simp)).trans ((Below.heap_alloc _ _ _ (by simp)).trans n2)
 ·exact (Below.heap_alloc _ _ _ (by simp)).trans n3
 ·exact ((((Below.refl _ w).alloc (Nat.le_refl _) _).alloc (by simp) _).alloc (by simp;omega) _).alloc (by simp;omega) _
theorem stNI {l n:Nat} {P:Program} {ops:Array Oper} {rest:List Oper} {op:Oper} {a:Act} {w:World} {Q:Exit→Act→World→Prop} (T:TypeId) (x y:Operand) (vs:List Value) (b o:Nat) (hgd:op.guard=none) (ho:op.op=.store T x y) (hx:a.eval x=.pointer (some ⟨b,o,none⟩)) (hy:a.eval y=.agg vs.toArray)
  (ht:w.there b o vs.length) (hi:(P.info? T).map (·.size)=some vs.length) (h1:one vs)
  (h:wpListIn (Fence.wide.inRound l) n P ops Q rest (a.put op.dst undef) (w.setCells b o vs)):wpListIn (Fence.wide.inRound l) n P ops Q (op :: rest) a w :=
 wpListIn_plain hgd fun K hK=>opLift (Q0:=fun _ _ _=>False) (by unfold noDef;rw [ho]) (fun _ _ _ _ h=>h) (fun _ _ h=>h) (wp_store_mid T x y ho b o vs.toArray hx hy (by simpa using ht) (by simpa using hi) (all_oneCell_toArray h1) (hK _ _ (by simpa using h)))
theorem settled_v (A:Option Addr) (c:Nat) (R:List Nr) (hT:TrOK (R.map Nr.n)) (w:World) (h:NrV w A R) (hr:RdR w R) (hL:R.length≤10) :
  Calls Tryz.prog 63 #[.agg #[.slice A R.length c]] w fun e w'=>(∃ v,e=.returned v∧SetV w.heap.size w' R v)∧Below w.heap.size w w':=by
 obtain ⟨fm,hfm,hfz,hmk0⟩:=made_zero
 have hmk:=fun w=>hmk0 R.length w (by omega)
 have HFM:=Lib.hid hfm;have HFZ:=Lib.hid hfz;have HNV:=Lib.hid h;have HRD:=Lib.hid hr;clear hmk0 hfm hfz h hr;refine (callsIn_wide (n:=6)).1 ?_;refine callsIn_of_wp_marks Tryz.func63 rfl trivial ?_ rfl
 simp only [Tryz.ntmps63,List.size_toArray,List.length_cons,List.length_nil,Nat.reduceAdd,Nat.reduceSub,Array.replicate_succ,Array.replicate_zero,List.push_toArray,List.append_toArray,List.nil_append,List.cons_append]
 gi_wp2_with (refine ⟨trivial,?_⟩;gi_at_call 91;refine (backwardN_in Fence.wide _ trivial rfl _ _ _ _).mono ?_;rintro e w' ⟨rfl,rfl⟩)
 clear hmk;obtain ⟨W0,hW0,n1,n2,n3,n4,hz,hb0⟩:=four w (.cells #[.slice A R.length c] 30) (.cells (fm R.length) 98) (.cells #[.slice (some ⟨w.heap.size+1,0,none⟩) R.length R.length] 93) (.cells #[.slice A R.length c] 28);rw [hW0];clear hW0
 have hst:StW w A c R 0 W0:=⟨n1,n3,n4,⟨List.replicate R.length zeroWd,by simp,⟨_,n2,by rw [HFM.out];simp,fun i vs hi hv=>by
   simp at hi
   simp only [List.map_replicate,List.getElem?_replicate,if_pos hi,Option.some.injEq] at hv;subst hv
   exact HFZ.out _ _ hi⟩,fun i x hx hi=>by have:=(List.getElem?_eq_some_iff.1 hx).1;simp at this;omega⟩,hb0,by omega⟩
 clear n1 n2 n3 n4 hb0
 refine wpIn_rangeFunc_cnt rfl (by omega) (gf:=128) (lb:=#[.pointer (some ⟨w.heap.size+1+1+1,0,none⟩)]) rfl trivial (enters_of Tryz.func128 (by kernel_rfl) rfl)
  (bkc_in Fence.wide _ trivial rfl (by omega) (w.heap.size+1+1+1) A c R (by omega)) (fun _=>rfl)
  (StW w A c R) (fun k W W' h hk=>h.same (hk.1.mono (by omega)) fun g cs T hg=>hk.block hg) (fun k W h=>⟨cellS h.b 0,HNV.out.keep h.l⟩) hst
  (fun k a' W=>∃ nb,w.heap.size+4≤nb∧W.heap[nb]?=some (.cells (valsNr (nrAt R (R.length-1-k))).toArray 90 (0,0))∧a'={ tmps:=#[.agg #[.slice A R.length c],.pointer (some ⟨w.heap.size,0,none⟩),.slice none 0 0,.pointer (some ⟨w.heap.size+1+1,0,none⟩),.int .i64 ((R.length-1-k:Nat):Int),.pointer (some ⟨nb,0,none⟩),.pointer (some ⟨w.heap.size,0,none⟩),.slice A R.length c,.int .i64 (R.length:Int),.slice (some ⟨w.heap.size+1,0,none⟩) R.length R.length,.pointer (some ⟨w.heap.size,0,none⟩),.slice A R.length c,.func (.func 128) #[] #[.pointer (some ⟨w.heap.size+1+1+1,0,none⟩)],.int .i64 ((R.length-1-k:Nat):Int),.agg (valsNr (nrAt R (R.length-1-k))).toArray,undef,undef,undef,undef,undef,undef,undef,undef,undef,undef,undef,undef,undef,undef,undef,undef,undef,undef,undef,undef,undef,undef,undef,undef,undef,undef,undef,undef,undef,undef,undef,undef,undef,undef,undef,undef,undef,undef,undef,undef,undef,undef],defers:=[] })
  (fun k a' W W' h hk=>let ⟨nb,h1,h2,h3⟩:=h;⟨nb,h1,hk.cells h2,h3⟩)
  ?assign ?body ?done
 case assign =>
  rintro l k W K hk hI hK;simp only [encR]
  gi_wp2_with (refine stNI 90 (.tmp 5) (.tmp 14) (valsNr (nrAt R (R.length-1-k))) W.heap.size 0 rfl rfl rfl rfl (thereB (newS _ _) (by show (0+34:Nat)≤34;omega)) (by rw [valsNr_len];kernel_rfl) (valsNr_one _) ?_)
  have hbN:Below W.heap.size W ((W.alloc (.cells zeroNrA 90)).setCells W.heap.size 0 (valsNr (nrAt R (R.length-1-k)))):=below_setCells (Nat.le_refl _) _ _ _ (balloc (Below.refl _ _));exact hK _ _ (keepsFrom_below hbN) (hI.below hbN) ⟨W.heap.size,hI.z,new_fullW _ rfl rfl,rfl⟩
 case body =>
  rintro l k a' W hk hI ⟨nb,hnb,hn,rfl⟩
  obtain ⟨j,hj⟩:∃ j,R.length-1-k=j:=⟨_,rfl⟩
  rw [hj] at hn ⊢
  have hjl:j<R.length:=by omega
  have hget:R[j]?=some R[j]:=List.getElem?_eq_getElem hjl;rw [nrAt_get hget] at hn ⊢
  have hmg:(R.map Nr.n)[j]?=some R[j].n:=by rw [List.getElem?_map,hget];rfl
  generalize hp0:R[j]=p at *;have HI:=Lib.hid hI;have HN:=Lib.hid hn;have HG:=Lib.hid hget;have HMG:=Lib.hid hmg;have HJ:=Lib.hid hj;have ln:=ltS hn;have lt:=ltS hI.t;have ls:=ltS hI.s;have x1:W.cell? ⟨nb,1,none⟩=some (.int .i64 p.n.ww):=cellS hn 1;have x2:W.cell? ⟨nb,2,none⟩=some (.int .i64 p.n.hh):=cellS hn 2;have xt:=cellS hI.t 0;have xs:=cellS hI.s 0
  have hdj:(j:Int)<(R.length:Int):=by omega
  have hV:=HNV.out.keep hI.l
  obtain ⟨ks,hks⟩:∃ ks,(kidD (R.map Nr.n) j).map (fun (k:Nat)=>(k:Int))=ks:=⟨_,rfl⟩
  have HKS:=Lib.hid hks;have hge:w.heap.size+4≤W.heap.size:=hI.z;clear hI hn hget hmg hp0 hks hj;refine wpIn_block ?_
  refine wpIn_seq_k fun K1 hK1=>?_
  refine wpIn_region_liftAny (by kernel_rfl) (by kernel_rfl) ?_
  refine wpAny_rxp 13 1 #[true,true,true,true,true,true,true,true,true,true,true,true,true,false] (by kernel_rfl) (by kernel_rfl) (XV (.slice (some ⟨w.heap.size+1,0,none⟩) R.length R.length) :: XV (.int .i64 (j:Int)) :: XV (.agg (valsNr p).toArray) :: XV (.pointer (some ⟨nb,1,none⟩)) :: XV (.int .i64 p.n.ww) :: XV (.pointer (some ⟨nb,2,none⟩)) :: XV (.int .i64 p.n.hh) :: XV (.agg #[.int .i64 p.n.ww,.int .i64 p.n.hh]) :: XV (.agg #[.slice A R.length c]) :: XV (.int .i64 (j:Int)) :: (fun v z=>KdA (w.heap.size+4) z v ks) :: (fun v z=>WdV (w.heap.size+4) z v p (p.n.ww,p.n.hh) ks) :: XV (.pointer (some ⟨w.heap.size+1,j*37,none⟩)) :: []) (by kernel_rfl) (by kernel_rfl) ?hTs ?hops ?hfin
  case hTs =>
   intro T hT;simp only [List.mem_cons,List.not_mem_nil,or_false] at hT
   rcases hT with rfl | rfl | rfl | rfl | rfl | rfl | rfl | rfl | rfl | rfl | rfl | rfl | rfl <;> first | exact stay_V _ | exact stay_T | exact stay_of (fun v a b x g=>x.keep g) | exact stay_of (fun v a b x g=>x)
  case hops =>
   refine ⟨opOK_rx [(3,none)] (by kernel_rfl) rfl ?_,?_⟩
   ·intro act w' hw' h1;obtain ⟨hk,hf⟩:=evkf act;generalize act.eval=ρ at *;replace h1:ρ (.tmp 3)=.pointer (some ⟨w.heap.size+1+1,0,none⟩):=h1
    refine gxB hw' fun K hK hc hf'=>?_
    go_simp;exact hK _ _ ⟨rfl,Gr.refl _⟩
   refine ⟨opOK_rx [(4,none)] (by kernel_rfl) rfl ?_,?_⟩
   ·intro act w' hw' h1;obtain ⟨hk,hf⟩:=evkf act;generalize act.eval=ρ at *;replace h1:ρ (.tmp 4)=.int .i64 (j:Int):=h1
    refine gxB hw' fun K hK hc hf'=>?_
    go_simp;exact hK _ _ ⟨rfl,Gr.refl _⟩
   refine ⟨opOK_rx [(5,none)] (by kernel_rfl) rfl ?_,?_⟩
   ·intro act w' hw' h1;obtain ⟨hk,hf⟩:=evkf act;generalize act.eval=ρ at *;replace h1:ρ (.tmp 5)=.pointer (some ⟨nb,0,none⟩):=h1;refine gx_gen (fun K hK=>?_)
    simp only [execOp,h1,Instr.loadAt,Instr.sureAddr,Sem.run_bind,Sem.run_pure,Result.andThen_ok,run_loadVar_mid w' nb 0 90 (valsNr p) _ (rangeB (nodeAt HN.out) ((bdrewn hw'.out).block nb ln)) Tryz.underlying90 rfl (by rw [valsNr_len];kernel_rfl)];exact hK _ _ ⟨rfl,Gr.refl _⟩
   refine ⟨opOK_rx [(5,none)] (by kernel_rfl) rfl ?_,?_⟩
   ·intro act w' hw' h1;obtain ⟨hk,hf⟩:=evkf act;generalize act.eval=ρ at *;replace h1:ρ (.tmp 5)=.pointer (some ⟨nb,0,none⟩):=h1
    refine gxB hw' fun K hK hc hf'=>?_
    go_simp;exact hK _ _ ⟨rfl,Gr.refl _⟩
   refine ⟨opOK_rx [(18,some 3)] (by kernel_rfl) rfl ?_,?_⟩
   ·intro act w' hw' h1;obtain ⟨hk,hf⟩:=evkf act;generalize act.eval=ρ at *;replace h1:ρ (.tmp 18)=.pointer (some ⟨nb,1,none⟩):=h1
    refine gxB hw' fun K hK hc hf'=>?_
    go_simp;exact hK _ _ ⟨rfl,Gr.refl _⟩
   refine ⟨opOK_rx [(5,none)] (by kernel_rfl) rfl ?_,?_⟩
   ·intro act w' hw' h1;obtain ⟨hk,hf⟩:=evkf act;generalize act.eval=ρ at *;replace h1:ρ (.tmp 5)=.pointer (some ⟨nb,0,none⟩):=h1
    refine gxB hw' fun K hK hc hf'=>?_
    go_simp;exact hK _ _ ⟨rfl,Gr.refl _⟩
   refine ⟨opOK_rx [(20,some 5)] (by kernel_rfl) rfl ?_,?_⟩
   ·intro act w' hw' h1;obtain ⟨hk,hf⟩:=evkf act;generalize act.eval=ρ at *;replace h1:ρ (.tmp 20)=.pointer (some ⟨nb,2,none⟩):=h1
    refine gxB hw' fun K hK hc hf'=>?_
    go_simp;exact hK _ _ ⟨rfl,Gr.refl _⟩
   refine ⟨opOK_rx [(19,some 4),(21,some 6)] (by kernel_rfl) rfl ?_,?_⟩
   ·intro act w' hw' h1 h2;obtain ⟨hk,hf⟩:=evkf act;generalize act.eval=ρ at *;replace h1:ρ (.tmp 19)=.int .i64 p.n.ww:=h1;replace h2:ρ (.tmp 21)=.int .i64 p.n.hh:=h2
    refine gxB hw' fun K hK hc hf'=>?_
    go_simp;exact hK _ _ ⟨rfl,Gr.refl _⟩
   refine ⟨opOK_rx [(1,none)] (by kernel_rfl) rfl ?_,?_⟩
   ·intro act w' hw' h1;obtain ⟨hk,hf⟩:=evkf act;generalize act.eval=ρ at *;replace h1:ρ (.tmp 1)=.pointer (some ⟨w.heap.size,0,none⟩):=h1
    refine gxB hw' fun K hK hc hf'=>?_
    go_simp;exact hK _ _ ⟨rfl,Gr.refl _⟩
   refine ⟨opOK_rx [(4,none)] (by kernel_rfl) rfl ?_,?_⟩
   ·intro act w' hw' h1;obtain ⟨hk,hf⟩:=evkf act;generalize act.eval=ρ at *;replace h1:ρ (.tmp 4)=.int .i64 (j:Int):=h1
    refine gxB hw' fun K hK hc hf'=>?_
    go_simp;exact hK _ _ ⟨rfl,Gr.refl _⟩
   refine ⟨opOK_rx [(23,some 8),(24,some 9)] (by kernel_rfl) rfl ?_,?_⟩
   ·intro act w' hw' h1 h2;obtain ⟨hk,hf⟩:=evkf act;generalize act.eval=ρ at *;replace h1:ρ (.tmp 23)=.agg #[.slice A R.length c]:=h1;replace h2:ρ (.tmp 24)=.int .i64 (j:Int):=h2
    refine gxB hw' fun K hK hc hf'=>?_
    go_simp
    (refine (kidsOf_f A c R (j:Int) _ (hV.keep (bdrewn hw'.out)) (by omega)).mono ?_);rintro e w1 ⟨⟨v,rfl,hv⟩,hb1⟩;rw [kidsM_eq,HKS.out] at hv;exact ⟨_,rfl,hK _ _ ⟨KdA.of hv (Nat.le_trans hge (bdrewn hw'.out).size),hb1⟩⟩
   refine ⟨opOK_rx [(17,some 2),(22,some 7),(25,some 10)] (by kernel_rfl) rfl ?_,?_⟩
   ·intro act w' hw' h1 h2 h3;obtain ⟨hk,hf⟩:=evkf act;generalize act.eval=ρ at *;replace h1:ρ (.tmp 17)=.agg (valsNr p).toArray:=h1;replace h2:ρ (.tmp 22)=.agg #[.int .i64 p.n.ww,.int .i64 p.n.hh]:=h2;replace h3:(fun v z=>KdA (w.heap.size+4) z v ks) (ρ (.tmp 25)) w':=h3;refine gx_gen (fun K hK=>?_)
    obtain ⟨kA,kc,e3,hk3⟩:=h3;simp only [execOp,List.map_toArray,List.map_cons,List.map_nil,h1,h2,e3,Sem.run_bind,Sem.run_pure,run_bW,Result.andThen_ok];exact hK _ _ ⟨⟨_,rfl,rfl,rfl,rfl,hk3⟩,Gr.refl _⟩
   refine ⟨opOK_rx [(15,some 0),(16,some 1)] (by kernel_rfl) rfl ?_,?_⟩
   ·intro act w' hw' h1 h2;obtain ⟨hk,hf⟩:=evkf act;generalize act.eval=ρ at *;replace h1:ρ (.tmp 15)=.slice (some ⟨w.heap.size+1,0,none⟩) R.length R.length:=h1;replace h2:ρ (.tmp 16)=.int .i64 (j:Int):=h2
    refine gxB hw' fun K hK hc hf'=>?_
    go_simp;exact hK _ _ ⟨rfl,Gr.refl _⟩
   exact trivial
  case hfin =>
   intro w5 hg5;intro v15 t15;replace t15:v15=.slice (some ⟨w.heap.size+1,0,none⟩) R.length R.length:=t15;subst t15;intro v16 t16;replace t16:v16=.int .i64 (j:Int):=t16;subst t16;intro v17 t17;replace t17:v17=.agg (valsNr p).toArray:=t17;subst t17;intro v18 t18;replace t18:v18=.pointer (some ⟨nb,1,none⟩):=t18;subst t18;intro v19 t19;replace t19:v19=.int .i64 p.n.ww:=t19;subst t19;intro v20 t20
   replace t20:v20=.pointer (some ⟨nb,2,none⟩):=t20;subst t20;intro v21 t21;replace t21:v21=.int .i64 p.n.hh:=t21;subst t21;intro v22 t22;replace t22:v22=.agg #[.int .i64 p.n.ww,.int .i64 p.n.hh]:=t22;subst t22;intro v23 t23;replace t23:v23=.agg #[.slice A R.length c]:=t23;subst t23;intro v24 t24;replace t24:v24=.int .i64 (j:Int):=t24;subst t24;intro v25 t25
   replace t25:(fun v z=>KdA (w.heap.size+4) z v ks) v25 w5:=t25;intro v26 t26;replace t26:(fun v z=>WdV (w.heap.size+4) z v p (p.n.ww,p.n.hh) ks) v26 w5:=t26;intro v27 t27;replace t27:v27=.pointer (some ⟨w.heap.size+1,j*37,none⟩):=t27;subst t27;have hb5:=bdrewn hg5.out;clear hg5
   simp only [finP,List.take_succ_cons,List.take_zero,Act.put,List.setIfInBounds_toArray,List.set_cons_succ,List.set_cons_zero];obtain ⟨x,rfl,hx1,hx2,hx3,hx4⟩:=t26
   have hjk:j+(k+1)=R.length:=by have:=HJ.out;omega
   have hI5:=HI.out.below hb5;have hM:=hI5.put (j:=j) (by omega) (by omega) x;obtain ⟨X,X1,X2,-⟩:=hI5.x;refine wpAny_store 13 98 (.tmp 27) (.tmp 26) (w.heap.size+1) (j*37) (valsWd x) (by kernel_rfl) (by kernel_rfl) (by kernel_rfl) rfl rfl (by rw [valsWd_len];exact RpK.there X2 (by rw [List.length_map];omega)) (by rw [valsWd_len];kernel_rfl) (valsWd_one _) ?_;simp only [Exit.then];refine hK1 _ _ ?_
   clear hK1 K1;have hKF:KeepsFrom W0.heap.size W (w5.setCells (w.heap.size+1) (j*37) (valsWd x)):=(keepsFrom_below hb5).trans (keepsFrom_setCells _ _ _);have hN6:(w5.setCells (w.heap.size+1) (j*37) (valsWd x)).heap[nb]?=some (.cells (valsNr p).toArray 90 (0,0)):=(heap_setCells_ne (by omega) _ _ _).trans ((hb5.block nb ln).trans HN.out)
   have hx6:KidA (w.heap.size+4) (w5.setCells (w.heap.size+1) (j*37) (valsWd x)) x.ka ks:=hx4.sets (by omega) _;clear hI5 X1 X2 hb5 t25 X hx4 x1 x2 xt xs ls lt ln hge hV HI
   revert hKF hN6 hx6 hM
   generalize w5.setCells (w.heap.size+1) (j*37) (valsWd x)=W6;intro hM hKF hN6 hx6;clear w5;have HM:=Lib.hid hM;have HK:=Lib.hid hKF;have HN:=Lib.hid hN6;have HX6:=Lib.hid hx6;have HX1:=Lib.hid hx1;have HX2:=Lib.hid hx2;have HX3:=Lib.hid hx3;have HJK:=Lib.hid hjk;have ln:=ltS hN6;have ls:=ltS hM.s;have y3:W6.cell? ⟨nb,3,none⟩=some (.bool p.n.ke):=cellS hN6 3;have xs:=cellS hM.s 0
   obtain ⟨X,X1,X2,X3,X4⟩:=hM.x;obtain ⟨cs,hcs,hss,hcc⟩:=X2;have hi6:InS cs (j*37) (valsWd x):=hcc j (valsWd x) (by rw [List.length_map];omega) (by rw [List.getElem?_map,X3];rfl)
   have x36:W6.cell? ⟨w.heap.size+1,j*37+36,none⟩=some (.slice x.ka ks.length x.kc):=by rw [cellS hcs,hi6 36 _ rfl];show some (Value.slice x.ka x.kn x.kc)=_;rw [hx3]
   have lw:=ltS hcs;clear X1 X3 X4 X hcs hss hcc hi6 cs hM hKF hN6 hx6 hx1 hx2 hx3 hjk
   refine wpIn_seq_k fun K2 hK2=>?_
   refine wpIn_region_lift (by kernel_rfl) ?_
   cases hke:p.n.ke
   ·by_cases hnil:ks=[]
    ·rw [hke] at y3
     have hl0:decide ((ks.length:Int)>0)=false:=by simp [hnil]
     have hl1:decide ((0:Int)<(ks.length:Int))=false:=by simp [hnil]
     go_wp2;refine wpIn_cond_false rfl ?_;refine wpIn_skip ?_;simp only [Exit.inBlock];refine ⟨by first | rfl | trivial,HK.out,HM.out.done ⟨p,HG.out,HX1.out,?_,by rw [HKS.out];exact HX3.out,by rw [HKS.out];exact HX6.out⟩ HJK.out⟩;rw [HX2.out,szM_eq hT HMG.out];exact (askN_own (.inr (.inl (List.map_eq_nil_iff.1 (HKS.out.trans hnil))))).symm
    ·rw [hke] at y3;have hlp:=List.length_pos_iff.2 hnil
     have hl0:decide ((ks.length:Int)>0)=true:=by simp;omega
     have hl1:decide ((0:Int)<(ks.length:Int))=true:=by simp;omega
     go_wp2;refine wpIn_cond_true rfl ?_
     obtain ⟨q,hq⟩:∃ q,szM (R.map Nr.n) j=q:=⟨_,rfl⟩
     have hkd:kidD (R.map Nr.n) j≠[]:=fun e=>hnil (by rw [<- HKS.out,e];rfl)
     have hkl:∀ k∈kidD (R.map Nr.n) j,k<R.length:=fun k hk=>by have:=kidD_lt hk;rwa [List.length_map] at this
     have hk10:(kidD (R.map Nr.n) j).length≤10:=Nat.le_trans (kidD_len _ _) (by rw [List.length_map];exact hL);obtain ⟨X,X1,X2,X3,X4⟩:=HM.out.x
     obtain ⟨hp1,hp2⟩:=pick_pk (R:=R) (X:=X) (f:=szM (R.map Nr.n)) (ks:=kidD (R.map Nr.n) j) fun k hk=>by
      have hgt:=kid_gt hT hk;have hlt:=hkl k hk;have hy:X[k]?=some X[k]:=List.getElem?_eq_getElem (by omega);obtain ⟨r,hr,e1,e2,_⟩:=X4 k _ hy hgt;exact ⟨_,r,hy,hr,e1,e2⟩
     have hYl:(pickW X (kidD (R.map Nr.n) j)).length≤10:=by rw [pickW_len (fun k hk=>by have:=hkl k hk;omega)];exact hk10
     have hM1:=szM_eq hT HMG.out;rw [hq] at hM1
     have C0:=Lib.hid (show p.n.ki≠1→p.n.ki≠2→(∀ r∈(pickW X (kidD (R.map Nr.n) j)).map pkW,r.big)∧reqM ((pickW X (kidD (R.map Nr.n) j)).map pkW)=q from fun a1 a2=>by
      rw [hp1]
      exact ⟨pks_big hT _,(hM1.trans (askN_pk rfl hke hkd (by have:=(hT.sz j _ HMG.out).2.2;omega))).symm⟩)
     have C1:=Lib.hid (show p.n.ki=1→(linesB p.n.cs=true∧linesB p.n.rs=true)∧((∀ r∈(pickW X (kidD (R.map Nr.n) j)).map ceW,smW r)∧spansW p.n.cs.length (((pickW X (kidD (R.map Nr.n) j)).map ceW).map acM)∧spansW p.n.rs.length (((pickW X (kidD (R.map Nr.n) j)).map ceW).map dnM))∧gridM p.n.cs p.n.rs ((pickW X (kidD (R.map Nr.n) j)).map ceW)=q from fun a1=>by
      rw [hp2];obtain ⟨z1,z2,z3,_⟩:=ces_w hT HMG.out a1
      exact ⟨hT.li j _ HMG.out a1,⟨z1,z2,z3⟩,(hM1.trans (askN_gr rfl hke hkd a1)).symm⟩)
     have C2:=Lib.hid (show p.n.ki=2→(p.n.ww,p.n.hh)=q from fun a1=>(hM1.trans (askN_own (.inr (.inr a1)))).symm)
     have HAR:=Lib.hid (show ∀ W',Below W6.heap.size W6 W'→Calls Tryz.prog 64 #[.slice (some ⟨w.heap.size+1,0,none⟩) R.length R.length,.int .i64 (j:Int)] W' (fun e w'=>(∃ v,e=.returned v∧ArV w' v x (pickW X (kidD (R.map Nr.n) j)))∧Below W'.heap.size W' w') from fun W' hW'=>by
      have:=arranged_v (some ⟨w.heap.size+1,0,none⟩) R.length j X x (kidD (R.map Nr.n) j) W' (X2.v.keep hW') X3 (by omega) (fun k hk=>by have:=hkl k hk;omega) (by rw [HKS.out];exact HX6.out.nv.keep hW') (by rw [HX3.out,<- HKS.out,List.length_map]) (by rw [HX3.out,<- HKS.out,List.length_map];omega)
      rw [X1] at this
      exact this)
     have HRW:=Lib.hid (show W6.rangeAt (w.heap.size+1) (j*37+34) (valsWi (p.n.ww,p.n.hh)) from by
      obtain ⟨cs,hcs,hss,hcc⟩:=X2;have hi6:InS cs (j*37) (valsWd x):=hcc j (valsWd x) (by rw [List.length_map];omega) (by rw [List.getElem?_map,X3];rfl);unfold valsWd at hi6;rw [show ([.int .i64 x.sw,.int .i64 x.sh,.slice x.ka x.kn x.kc]:List Value)=valsWi (x.sw,x.sh) ++ [.slice x.ka x.kn x.kc] from rfl,InS_append,InS_append,HX2.out] at hi6
      exact fun m v hm=>(cellS hcs _).trans (hi6.2.1 m v hm))
     have HR1:=Lib.hid ((HRD.out.keep HM.out.l) p (List.mem_of_getElem? HG.out));have HQ:=Lib.hid hq;have HY:=Lib.hid hYl;have HWT:=Lib.hid (show W6.there (w.heap.size+1) (j*37) 37 from RpK.there X2 (by rw [List.length_map];omega));clear hq hkd hkl hk10 X1 X2 X3 X4 hp1 hp2 hYl hM1 hlp hl0 hl1 y3 x36 hke hnil ln;refine wpIn_region_liftAny (by kernel_rfl) (by kernel_rfl) ?_
     refine wpAny_rxp 16 1 #[true,true,true,true,true,true,true,true,true,true,true,true,true,true,true,true,false] (by kernel_rfl) (by kernel_rfl) (XV (.slice (some ⟨w.heap.size+1,0,none⟩) R.length R.length) :: XV (.int .i64 (j:Int)) :: XV (.slice (some ⟨w.heap.size+1,0,none⟩) R.length R.length) :: XV (.int .i64 (j:Int)) :: (fun v z=>ArV z v x (pickW X (kidD (R.map Nr.n) j))) :: XV (.slice (some ⟨w.heap.size+1,0,none⟩) R.length R.length) :: XV (.int .i64 (j:Int)) :: XV (.pointer (some ⟨w.heap.size+1,j*37,none⟩)) :: XV (.pointer (some ⟨w.heap.size+1,j*37+34,none⟩)) :: XV (.agg (valsWi (p.n.ww,p.n.hh)).toArray) :: (fun v z=>MfV z v x (pickW X (kidD (R.map Nr.n) j))) :: (fun v z=>MfV z v x (pickW X (kidD (R.map Nr.n) j))) :: (fun v z=>ArV z v x (pickW X (kidD (R.map Nr.n) j))) :: XV (.agg (valsWi q).toArray) :: XV (.pointer (some ⟨w.heap.size+1,j*37,none⟩)) :: XV (.pointer (some ⟨w.heap.size+1,j*37+34,none⟩)) :: []) (by kernel_rfl) (by kernel_rfl) ?hTs ?hops ?hfin
     case hTs =>
      intro T hT;simp only [List.mem_cons,List.not_mem_nil,or_false] at hT
      rcases hT with rfl | rfl | rfl | rfl | rfl | rfl | rfl | rfl | rfl | rfl | rfl | rfl | rfl | rfl | rfl | rfl <;> first | exact stay_V _ | exact stay_T | exact stay_of (fun v a b x g=>x.keep g) | exact stay_of (fun v a b x g=>x)
     case hops =>
      refine ⟨opOK_rx [(3,none)] (by kernel_rfl) rfl ?_,?_⟩
      ·intro act w' hw' h1;obtain ⟨hk,hf⟩:=evkf act;generalize act.eval=ρ at *;replace h1:ρ (.tmp 3)=.pointer (some ⟨w.heap.size+1+1,0,none⟩):=h1
       refine gxB hw' fun K hK hc hf'=>?_
       go_simp;exact hK _ _ ⟨rfl,Gr.refl _⟩
      refine ⟨opOK_rx [(4,none)] (by kernel_rfl) rfl ?_,?_⟩
      ·intro act w' hw' h1;obtain ⟨hk,hf⟩:=evkf act;generalize act.eval=ρ at *;replace h1:ρ (.tmp 4)=.int .i64 (j:Int):=h1
       refine gxB hw' fun K hK hc hf'=>?_
       go_simp;exact hK _ _ ⟨rfl,Gr.refl _⟩
      refine ⟨opOK_rx [(3,none)] (by kernel_rfl) rfl ?_,?_⟩
      ·intro act w' hw' h1;obtain ⟨hk,hf⟩:=evkf act;generalize act.eval=ρ at *;replace h1:ρ (.tmp 3)=.pointer (some ⟨w.heap.size+1+1,0,none⟩):=h1
       refine gxB hw' fun K hK hc hf'=>?_
       go_simp;exact hK _ _ ⟨rfl,Gr.refl _⟩
      refine ⟨opOK_rx [(4,none)] (by kernel_rfl) rfl ?_,?_⟩
      ·intro act w' hw' h1;obtain ⟨hk,hf⟩:=evkf act;generalize act.eval=ρ at *;replace h1:ρ (.tmp 4)=.int .i64 (j:Int):=h1
       refine gxB hw' fun K hK hc hf'=>?_
       go_simp;exact hK _ _ ⟨rfl,Gr.refl _⟩
      refine ⟨opOK_rx [(42,some 2),(43,some 3)] (by kernel_rfl) rfl ?_,?_⟩
      ·intro act w' hw' h1 h2;obtain ⟨hk,hf⟩:=evkf act;generalize act.eval=ρ at *;replace h1:ρ (.tmp 42)=.slice (some ⟨w.heap.size+1,0,none⟩) R.length R.length:=h1;replace h2:ρ (.tmp 43)=.int .i64 (j:Int):=h2
       refine gxB hw' fun K hK hc hf'=>?_
       go_simp
       (refine (HAR.out _ (bdrewn hw'.out)).mono ?_);rintro e w1 ⟨⟨v,rfl,hv⟩,hb1⟩;exact ⟨_,rfl,hK _ _ ⟨hv,hb1⟩⟩
      refine ⟨opOK_rx [(3,none)] (by kernel_rfl) rfl ?_,?_⟩
      ·intro act w' hw' h1;obtain ⟨hk,hf⟩:=evkf act;generalize act.eval=ρ at *;replace h1:ρ (.tmp 3)=.pointer (some ⟨w.heap.size+1+1,0,none⟩):=h1
       refine gxB hw' fun K hK hc hf'=>?_
       go_simp;exact hK _ _ ⟨rfl,Gr.refl _⟩
      refine ⟨opOK_rx [(4,none)] (by kernel_rfl) rfl ?_,?_⟩
      ·intro act w' hw' h1;obtain ⟨hk,hf⟩:=evkf act;generalize act.eval=ρ at *;replace h1:ρ (.tmp 4)=.int .i64 (j:Int):=h1
       refine gxB hw' fun K hK hc hf'=>?_
       go_simp;exact hK _ _ ⟨rfl,Gr.refl _⟩
      refine ⟨opOK_rx [(45,some 5),(46,some 6)] (by kernel_rfl) rfl ?_,?_⟩
      ·intro act w' hw' h1 h2;obtain ⟨hk,hf⟩:=evkf act;generalize act.eval=ρ at *;replace h1:ρ (.tmp 45)=.slice (some ⟨w.heap.size+1,0,none⟩) R.length R.length:=h1;replace h2:ρ (.tmp 46)=.int .i64 (j:Int):=h2
       refine gxB hw' fun K hK hc hf'=>?_
       go_simp;exact hK _ _ ⟨rfl,Gr.refl _⟩
      refine ⟨opOK_rx [(47,some 7)] (by kernel_rfl) rfl ?_,?_⟩
      ·intro act w' hw' h1;obtain ⟨hk,hf⟩:=evkf act;generalize act.eval=ρ at *;replace h1:ρ (.tmp 47)=.pointer (some ⟨w.heap.size+1,j*37,none⟩):=h1
       refine gxB hw' fun K hK hc hf'=>?_
       go_simp;exact hK _ _ ⟨rfl,Gr.refl _⟩
      refine ⟨opOK_rx [(48,some 8)] (by kernel_rfl) rfl ?_,?_⟩
      ·intro act w' hw' h1;obtain ⟨hk,hf⟩:=evkf act;generalize act.eval=ρ at *;replace h1:ρ (.tmp 48)=.pointer (some ⟨w.heap.size+1,j*37+34,none⟩):=h1;refine gx_gen (fun K hK=>?_)
       simp only [execOp,h1,Instr.loadAt,Instr.sureAddr,Sem.run_bind,Sem.run_pure,Result.andThen_ok,run_loadVar_mid w' (w.heap.size+1) (j*37+34) 96 (valsWi (p.n.ww,p.n.hh)) _ (rangeB HRW.out ((bdrewn hw'.out).block _ lw)) Tryz.underlying96 rfl (by kernel_rfl)];exact hK _ _ ⟨rfl,Gr.refl _⟩
      refine ⟨opOK_rx [(44,some 4)] (by kernel_rfl) rfl ?_,?_⟩
      ·intro act w' hw' h1;obtain ⟨hk,hf⟩:=evkf act;generalize act.eval=ρ at *;replace h1:(fun v z=>ArV z v x (pickW X (kidD (R.map Nr.n) j))) (ρ (.tmp 44)) w':=h1;refine gx_gen (fun K hK=>?_);rw [run_mf rfl];exact hK _ _ ⟨⟨_,rfl,h1⟩,Gr.refl _⟩
      refine ⟨opOK_rx [(50,some 10)] (by kernel_rfl) rfl ?_,?_⟩
      ·intro act w' hw' h1;obtain ⟨hk,hf⟩:=evkf act;generalize act.eval=ρ at *;replace h1:(fun v z=>MfV z v x (pickW X (kidD (R.map Nr.n) j))) (ρ (.tmp 50)) w':=h1;refine gx_gen (fun K hK=>?_)
       obtain ⟨u,e,hu⟩:=h1;obtain ⟨T,u2,F,rfl,hn,hc,hcall⟩:=arReq (ww:=p.n.ww) (hh:=p.n.hh) hu HX1.out (HR1.out.keep (bdrewn hw'.out)) HY.out C0.out C1.out C2.out;rw [run_nc rfl e hn];exact hK _ _ ⟨⟨_,e,hu⟩,Gr.refl _⟩
      refine ⟨opOK_rx [(44,some 4)] (by kernel_rfl) rfl ?_,?_⟩
      ·intro act w' hw' h1;obtain ⟨hk,hf⟩:=evkf act;generalize act.eval=ρ at *;replace h1:(fun v z=>ArV z v x (pickW X (kidD (R.map Nr.n) j))) (ρ (.tmp 44)) w':=h1
       refine gxB hw' fun K hK hc hf'=>?_
       go_simp;exact hK _ _ ⟨h1,Gr.refl _⟩
      refine ⟨opOK_rx [(52,some 12),(49,some 9)] (by kernel_rfl) rfl ?_,?_⟩
      ·intro act w' hw' h1 h2;obtain ⟨hk,hf⟩:=evkf act;generalize act.eval=ρ at *;replace h1:(fun v z=>ArV z v x (pickW X (kidD (R.map Nr.n) j))) (ρ (.tmp 52)) w':=h1;replace h2:ρ (.tmp 49)=.agg (valsWi (p.n.ww,p.n.hh)).toArray:=h2;refine gx_gen (fun K hK=>?_)
       obtain ⟨T,u,F,e,hn,hc,hcall⟩:=arReq (ww:=p.n.ww) (hh:=p.n.hh) h1 HX1.out (HR1.out.keep (bdrewn hw'.out)) HY.out C0.out C1.out C2.out;rw [run_inv rfl e h2 (hc _ _)];refine hcall.mono ?_;rintro e' w1 ⟨rfl,hb1⟩;exact ⟨_,rfl,hK _ _ ⟨rfl,hb1⟩⟩
      refine ⟨opOK_rx [(40,some 0),(41,some 1)] (by kernel_rfl) rfl ?_,?_⟩
      ·intro act w' hw' h1 h2;obtain ⟨hk,hf⟩:=evkf act;generalize act.eval=ρ at *;replace h1:ρ (.tmp 40)=.slice (some ⟨w.heap.size+1,0,none⟩) R.length R.length:=h1;replace h2:ρ (.tmp 41)=.int .i64 (j:Int):=h2
       refine gxB hw' fun K hK hc hf'=>?_
       go_simp;exact hK _ _ ⟨rfl,Gr.refl _⟩
      refine ⟨opOK_rx [(54,some 14)] (by kernel_rfl) rfl ?_,?_⟩
      ·intro act w' hw' h1;obtain ⟨hk,hf⟩:=evkf act;generalize act.eval=ρ at *;replace h1:ρ (.tmp 54)=.pointer (some ⟨w.heap.size+1,j*37,none⟩):=h1
       refine gxB hw' fun K hK hc hf'=>?_
       go_simp;exact hK _ _ ⟨rfl,Gr.refl _⟩
      exact trivial
     case hfin =>
      intro w7 hg7;intro v40 t40;replace t40:v40=.slice (some ⟨w.heap.size+1,0,none⟩) R.length R.length:=t40;subst t40;intro v41 t41;replace t41:v41=.int .i64 (j:Int):=t41;subst t41;intro v42 t42;replace t42:v42=.slice (some ⟨w.heap.size+1,0,none⟩) R.length R.length:=t42;subst t42;intro v43 t43;replace t43:v43=.int .i64 (j:Int):=t43;subst t43;intro v44 t44
      replace t44:(fun v z=>ArV z v x (pickW X (kidD (R.map Nr.n) j))) v44 w7:=t44;intro v45 t45;replace t45:v45=.slice (some ⟨w.heap.size+1,0,none⟩) R.length R.length:=t45;subst t45;intro v46 t46;replace t46:v46=.int .i64 (j:Int):=t46;subst t46;intro v47 t47;replace t47:v47=.pointer (some ⟨w.heap.size+1,j*37,none⟩):=t47;subst t47;intro v48 t48
      replace t48:v48=.pointer (some ⟨w.heap.size+1,j*37+34,none⟩):=t48;subst t48;intro v49 t49;replace t49:v49=.agg (valsWi (p.n.ww,p.n.hh)).toArray:=t49;subst t49;intro v50 t50;replace t50:(fun v z=>MfV z v x (pickW X (kidD (R.map Nr.n) j))) v50 w7:=t50;intro v51 t51;replace t51:(fun v z=>MfV z v x (pickW X (kidD (R.map Nr.n) j))) v51 w7:=t51;intro v52 t52
      replace t52:(fun v z=>ArV z v x (pickW X (kidD (R.map Nr.n) j))) v52 w7:=t52;intro v53 t53;replace t53:v53=.agg (valsWi q).toArray:=t53;subst t53;intro v54 t54;replace t54:v54=.pointer (some ⟨w.heap.size+1,j*37,none⟩):=t54;subst t54;intro v55 t55;replace t55:v55=.pointer (some ⟨w.heap.size+1,j*37+34,none⟩):=t55;subst t55;have hb7:=bdrewn hg7.out;clear hg7
      simp only [finP,List.take_succ_cons,List.take_zero,Act.put,List.setIfInBounds_toArray,List.set_cons_succ,List.set_cons_zero]
      have hth:w7.there (w.heap.size+1) (j*37+34) (valsWi q).length:=by
       obtain ⟨X',Y1,Y2,Y3,Y4⟩:=(HM.out.keep hb7).x;obtain ⟨cs,hcs,hss,_⟩:=Y2;exact thereB hcs (by rw [hss,List.length_map,Y1];show j*37+34+2≤_;omega)
      refine wpAny_store 16 96 (.tmp 55) (.tmp 53) (w.heap.size+1) (j*37+34) (valsWi q) (by kernel_rfl) (by kernel_rfl) (by kernel_rfl) rfl rfl hth (by kernel_rfl) (valsWi_one _) ?_;simp only [Exit.then,Exit.inBlock]
      refine ⟨by first | rfl | trivial,HK.out.trans ((keepsFrom_below hb7).trans (keepsFrom_setCells _ _ _)),StM.done ((HM.out.keep hb7).wish q.1 q.2) ⟨p,HG.out,HX1.out,?_,by rw [HKS.out];exact HX3.out,by rw [HKS.out];exact (HX6.out.keep hb7).sets (by omega) _⟩ HJK.out⟩;rw [HQ.out]
   ·rw [hke] at y3;go_wp2;refine wpIn_cond_false rfl ?_;refine wpIn_skip ?_;simp only [Exit.inBlock];refine ⟨by first | rfl | trivial,HK.out,HM.out.done ⟨p,HG.out,HX1.out,?_,by rw [HKS.out];exact HX3.out,by rw [HKS.out];exact HX6.out⟩ HJK.out⟩;rw [HX2.out,szM_eq hT HMG.out];exact (askN_own (.inl hke)).symm
 case done =>
  rintro D W hD hI hK;have xs:=cellS hI.s 0
  gi_wp2
  have hkc:KeepsC W0.heap.size W (W.putObj D (.deferred none)):=keepsC_put hD hK rfl rfl;refine ⟨by simp,.inl ⟨_,_,rfl,run_takeDeferred hK,?_⟩⟩
  have hf:=StW.same hI (hkc.1.mono (by omega)) fun g cs T hg=>hkc.block hg
  refine ⟨_,results_tmp rfl _ _ _,⟨_,rfl,?_⟩,hf.l⟩;exact hf.all
end
theorem moved_w (x y u v p q:Int) (w:World) (h1:-1000000000000000≤x∧x≤1000000000000000) (h2:-1000000000000000≤y∧y≤1000000000000000) (h3:-1000000000000000≤p∧p≤1000000000000000) (h4:-1000000000000000≤q∧q≤1000000000000000):Calls Tryz.prog 65 #[.agg #[.int .i64 (x),.int .i64 (y),.int .i64 (u),.int .i64 (v)],.int .i64 p,.int .i64 q] w fun e w'=>e=.returned (.agg #[.int .i64 (x+p),.int .i64 (y+q),.int .i64 (u),.int .i64 (v)])∧Below w.heap.size w w':=by
 have e1:IntKind.i64.wrap (x+p)=x+p:=IntWalk.i64_in _ (by omega);have e2:IntKind.i64.wrap (y+q)=y+q:=IntWalk.i64_in _ (by omega);obtain ⟨a1,a2⟩:=h1;obtain ⟨a3,a4⟩:=h2;obtain ⟨b1,b2⟩:=h3;obtain ⟨b3,b4⟩:=h4
 go_enter Tryz.func65,Tryz.ntmps65
 go_wp2
 exact bodyPost_ret (v:=.agg #[.int .i64 (x+p),.int .i64 (y+q),.int .i64 (u),.int .i64 (v)]) (by simp only [results,Tryz.results65];go_simp) rfl ⟨rfl,(by repeat (first | with_reducible exact Below.refl _ _ | with_reducible assumption | with_reducible refine balloc ?_|(with_reducible refine bset ?_ ?_;rotate_left;((try dsimp only);omega)) | refine bkeep2 ?_ (by assumption) | with_reducible refine Below.drew ?_))⟩
section
section
variable {P:Program}
def cloX (l:List Oper) (n:Nat) (X:Nat→Bool):Bool:=decide (n≤l.length)&&(List.range l.length).all fun i=>decide (i<n) || (List.range n).all fun j=>X j || reachB l l.length i j
theorem wpAny_rgpX {l:List Oper} {Q:Exit→Act→World→Prop} {a0:Act} {w:World} (T:Nat→Value→World→Prop) (R:World→World→Prop) (I:Nat→World→Prop)
  (n1:Nat) (hB:rgC l a0.tmps.size=true) (X:Nat→Bool) (hC:cloX l n1 X=true) (hRr:∀ a,R a a) (hRt:∀ a b c,R a b→R b c→R a c) (hTs:∀ k v a b,T k v a→R a b→T k v b) (hI0:I 0 w.drew)
  (hops:opsOK P l T R I a0 w.drew (l.take n1) 0) (hfin:∀ w',R w.drew w'→I n1 w'→finP T w' (fun a'=>wpAny P .any l.toArray Q (l.length-n1) (listedTo n1 0 (Array.replicate l.toArray.size false)) a' w') (l.take n1) 0 a0) :
  ∀ (fuel m:Nat) (listed:Array Bool) (a:Act) (w':World),cntF (fun i=>listed.getD i true) l.length=fuel→listed.size=l.length→fuel+m=l.length→(∀ i,n1≤i→i<l.length→listed.getD i false=false)→(∀ j,X j=true→listed.getD j false=true)→DC l listed→RJ l T R I a0 w.drew m listed a w' →
   wpAny P .any l.toArray Q fuel listed a w':=by
 simp only [rgC,Bool.and_eq_true] at hB;obtain ⟨hns,hB⟩:=hB
 have hB':∀ (i:Nat) (o:Oper),l[i]?=some o→(∀ e∈o.after,Region.binds .any e=true→e.on<i)∧(∀ d,o.dst=some d→d<a0.tmps.size∧dstIdx d l 0=some i)∧(∀ t∈o.looksAt l.toArray,∀ j,dstIdx t l 0=some j→∃ e∈o.after,e.on=j∧Region.binds .any e=true):=by
  intro i o ho;have hlt:=(List.getElem?_eq_some_iff.1 ho).1;have h1:=List.all_eq_true.1 hB i (List.mem_range.2 hlt);simp only [ho,Bool.and_eq_true] at h1;obtain ⟨⟨h1,h2⟩,h3⟩:=h1;refine ⟨fun e he hb=>by have:=List.all_eq_true.1 h1 e (by simpa using he);simpa [hb] using this,fun d hd=>?_,fun t ht j hj=>?_⟩
  ·rw [hd] at h2;simp only [Option.all_some,Bool.and_eq_true,decide_eq_true_eq,beq_iff_eq] at h2;exact h2
  ·have h4:=List.all_eq_true.1 h3 t ht;rw [hj] at h4;obtain ⟨e,he,h5⟩:=List.any_eq_true.1 h4;simp only [Bool.and_eq_true,beq_iff_eq] at h5;exact ⟨e,by simpa using he,h5⟩
 have hdist:∀ (i:Nat) (o:Oper) (j:Nat) (p:Oper),l[i]?=some o→l[j]?=some p→i≠j→∀ d,o.dst=some d→p.dst≠some d:=by
  intro i o j p ho hp hij d hd hpd;have h1:=((hB' i o ho).2.1 d hd).2;rw [((hB' j p hp).2.1 d hpd).2] at h1
  injection h1 with h1
  exact hij h1.symm
 obtain ⟨hle1,hcl⟩:n1≤l.length∧∀ i,n1≤i→i<l.length→∀ j,j<n1→X j=false→reachB l l.length i j=true:=by
  simp only [cloX,Bool.and_eq_true,decide_eq_true_eq,List.all_eq_true,List.mem_range,Bool.or_eq_true] at hC;refine ⟨hC.1,fun i hi hil j hj hX=>?_⟩
  rcases hC.2 i hil with h | h
  ·omega
  ·rcases h j hj with h | h
   ·rw [hX] at h;cases h
   ·exact h
 intro fuel
 have hdone:∀ (m:Nat) (listed:Array Bool) (a:Act) (w':World),cntF (fun i=>listed.getD i true) l.length=l.length-m→listed.size=l.length→m≤l.length→(∀ i,n1≤i→i<l.length→listed.getD i false=false)→(∀ i,i<n1→listed.getD i false=true)→RJ l T R I a0 w.drew m listed a w'→wpAny P .any l.toArray Q (l.length-m) listed a w':=by
  rintro m listed a w' hc hls hml hlow hall ⟨hR,hI,hd,hs,ht,hT⟩
  have hm1:m=n1:=by
   have h1:cntF (fun i=>listed.getD i true) l.length=cntF (fun i=>decide (i<n1)) l.length:=cntF_same (fun i hi=>by
    by_cases h:i<n1
    ·have:=hall i h
     rw [Array.getD_eq_getD_getElem?,Array.getElem?_eq_getElem (by omega)] at *
     simpa [h] using this
    ·have:=hlow i (by omega) hi
     rw [Array.getD_eq_getD_getElem?,Array.getElem?_eq_getElem (by omega)] at *
     simpa [h] using this)
   rw [h1,cntF_lt] at hc;omega
  subst hm1
  have he:listed=listedTo m 0 (Array.replicate l.toArray.size false):=by
   apply Array.ext
   ·rw [listedTo_size];simp [hls]
   ·intro i h1 h2
    have e1:listed[i]=listed.getD i false:=by rw [Array.getD_eq_getD_getElem?,Array.getElem?_eq_getElem h1];rfl
    have e2:(listedTo m 0 (Array.replicate l.toArray.size false))[i]=(listedTo m 0 (Array.replicate l.toArray.size false)).getD i false:=by rw [Array.getD_eq_getD_getElem?,Array.getElem?_eq_getElem h2];rfl
    rw [e1,e2,listedTo_getD (by simpa using (by omega:0+m≤l.length))]
    by_cases h:i<m
    ·rw [hall i h,if_pos (by omega)]
    ·rw [hlow i (by omega) (by omega),if_neg (by omega),Array.getD_eq_getD_getElem?,Array.getElem?_replicate]
     split <;> rfl
  have hlm:∀ (j:Nat) (o:Oper),l[j]?=some o→listed.getD j false=true→j<m:=fun j o ho hl=>by
   by_cases h:j<m
   ·exact h
   ·exfalso
    have:=hlow j (by omega) (List.getElem?_eq_some_iff.1 ho).1
    rw [hl] at this
    cases this
  rw [he];refine finP_to (T:=T) (w:=w') (F:=fun a'=>wpAny P .any l.toArray Q (l.length-m) (listedTo m 0 (Array.replicate l.toArray.size false)) a' w') (l:=l.take m) (k:=0) (b:=a0) hd.symm hs.symm (fun t h=>?_) (fun j o ho hn=>?_) (hfin w' hR hI)
  ·exact (ht t fun j o ho hl=>h o (by
    have hj:=hlm j o ho hl
    exact List.mem_of_getElem? (i:=j) (by rw [List.getElem?_take,if_pos hj];exact ho))).symm
  ·rw [Nat.zero_add];rw [List.getElem?_take] at ho
   split at ho
   ·rename_i hj
    exact hT j o ho (hall j hj) hn
   ·cases ho
 induction fuel with
 | zero =>
  intro m listed a w' hc hls hm' hlow hx hdc hJ
  have hall:∀ i,i<l.length→listed.getD i false=true:=fun i hi=>by
   have:=cntF_zero hc i hi
   rw [Array.getD_eq_getD_getElem?,Array.getElem?_eq_getElem (by omega)] at *
   simpa using this
  have h:=hdone m listed a w' (by rw [hc];omega) hls (by omega) hlow (fun i hi=>hall i (by omega)) hJ
  rwa [show l.length-m=0 by omega] at h
 | succ fuel ih =>
  intro m listed a w' hc hls hm' hlow hx hdc hJ
  by_cases hph:∀ i,i<n1→listed.getD i false=true
  ·have h:=hdone m listed a w' (by rw [hc];omega) hls (by omega) hlow hph hJ
   rwa [show l.length-m=fuel+1 by omega] at h
  have hlt1:∀ (i:Nat) (o:Oper),l[i]?=some o→listed.getD i false=false→(∀ e∈o.after,Region.binds .any e=true→listed.getD e.on false=true)→i<n1:=fun i o ho h0 hall=>by
   by_cases h:i<n1
   ·exact h
   ·exfalso
    apply hph;intro j hj
    by_cases hX:X j=true
    ·exact hx j hX
    have hr:=hcl i (by omega) (List.getElem?_eq_some_iff.1 ho).1 j hj (by simpa using hX)
    have hpos:l.length=(l.length-1)+1:=by have:=(List.getElem?_eq_some_iff.1 ho).1;omega
    rw [hpos] at hr;simp only [reachB,ho,List.any_eq_true,Bool.and_eq_true,Bool.or_eq_true,beq_iff_eq] at hr;obtain ⟨e,he,hb,hr⟩:=hr;have hl:=hall e (by simpa using he) hb
    rcases hr with rfl | hr
    ·exact hl
    ·exact DC.reach hdc _ hl hr
  refine ⟨fun hr=>?_,fun i hi=>?_⟩
  ·exfalso
   apply hph;intro i
   induction i using Nat.strongRecOn with
   | ind i ih' =>
    intro hi
    by_cases hl:listed.getD i false=true
    ·exact hl
    ·exfalso
     have hil:i<l.length:=by omega
     have ho:l[i]?=some l[i]:=List.getElem?_eq_getElem hil
     have hmem:i∈Region.ready .any l.toArray listed:=mem_ready.2 ⟨by
      rw [Array.getD_eq_getD_getElem?,Array.getElem?_eq_getElem (by omega)] at *;simp only [Option.getD_some,Bool.not_eq_true] at *
      exact hl,l[i],by simp,fun e he hb=>ih' e.on ((hB' i _ ho).1 e he hb) (by have:=(hB' i _ ho).1 e he hb;omega)⟩
     rw [hr] at hmem
     cases hmem
  ·obtain ⟨h0,o,ho',hall⟩:=mem_ready.1 hi
   have ho:l[i]?=some o:=by simpa using ho'
   have hlt:i<l.length:=(List.getElem?_eq_some_iff.1 ho).1
   have h0':listed.getD i false=false:=by
    rw [Array.getD_eq_getD_getElem?,Array.getElem?_eq_getElem (by omega)] at *
    simpa using h0
   have hi1:i<n1:=hlt1 i o ho h0' hall
   have hot:(l.take n1)[i]?=some o:=by rw [List.getElem?_take,if_pos hi1];exact ho
   obtain ⟨hR,hI,hd,hs,ht,hT⟩:=hJ;obtain ⟨b1,b2,b3⟩:=hB' i o ho
   have hlook:∀ t∈o.looksAt l.toArray,match dstIdx t l 0 with | some j=>T j (tv a t) w' | none=>tv a t=tv a0 t:=by
    intro t htm
    cases hj:dstIdx t l 0 with
    | none =>
     refine tv_of (ht t fun j p hp _=>dstIdx_none hj p (List.mem_of_getElem? hp))
    | some j =>
     obtain ⟨e,he,rfl,hb⟩:=b3 t htm j hj;obtain ⟨_,p,hp,hpd⟩:=dstIdx_some hj
     have:=hT e.on p (by simpa using hp) (hall e he hb) (by rw [hpd];simp)
     rw [hpd] at this;exact this
   have hop:=look_of hlook (opsOK_at hops hot m a w' (by omega) hR hI);rw [Nat.zero_add] at hop
   have hget:∀ d,(listed.setIfInBounds i true).getD i d=true:=fun d=>by
    rw [Array.getD_eq_getD_getElem?,Array.getElem?_setIfInBounds_self_of_lt (by omega)];rfl
   have next:∀ v w1,T i v w1→R w' w1→I (m+1) w1→wpAny P .any l.toArray Q fuel (listed.setIfInBounds i true) (a.put o.dst v) w1:=by
    intro v w1 hTv hR1 hI1;refine ih (m+1) _ _ _ ?_ (by simpa using hls) (by omega) (fun k hk hkl=>?_) ?_ (hdc.set ho hall) ⟨hRt _ _ _ hR hR1,hI1,(put_defers' _ _ _).trans hd,(put_size _ _ _).trans hs,fun t h=>?_,fun j p hp hl hn=>?_⟩
    ·have:=cntF_set (f:=fun i=>listed.getD i true) (g:=fun j=>(listed.setIfInBounds i true).getD j true) (i:=i) h0 (hget true) (fun j hj=>getD_set_ne true (Ne.symm hj)) hlt
     omega
    ·rw [getD_set_ne false (by omega)];exact hlow k hk hkl
    ·exact fun k hk=>getD_set_true (hx k hk)
    ·have hne:o.dst≠some t:=h i o ho (hget false);rw [put_ne _ _ _ hne]
     exact ht t fun j p hp hl=>h j p hp (getD_set_true hl)
    ·by_cases e:i=j
     ·subst e;rw [ho] at hp;obtain rfl:=Option.some.inj hp
      cases hod:o.dst with
      | none=>exact absurd hod hn
      | some d =>
       have:tv (a.put (some d) v) d=v:=by
        unfold tv;rw [Array.getD_eq_getD_getElem?,put_same _ _ _ (by rw [hs];exact (b2 d hod).1)]
        rfl
       simp only [vof];rw [this];exact hTv
     ·rw [getD_set_ne false e] at hl;have h2:=hTs j _ w' w1 (hT j p hp hl hn) hR1
      cases hpd:p.dst with
      | none=>exact absurd hpd hn
      | some d =>
       rw [hpd] at h2;simp only [vof] at h2 ⊢;rw [show tv (a.put o.dst v) d=tv a d from tv_of (put_ne _ _ _ (fun hod=>hdist i o j p ho hp e d hod hpd))];exact h2
   unfold wpOp;simp only [ho']
   cases hg:o.guard with
   | none =>
    rw [hg] at hop;rw [if_pos (by simp [Region.wanted,hg])];exact .inl (wp_of_gives hop fun v w1 ⟨h1,h2,h3⟩=>next v w1 h1 h2 h3)
   | some g =>
    rw [hg] at hop;obtain ⟨g1,g2⟩:=hop
    split
    ·rename_i hw
     exact .inl (wp_of_gives (g1 hw) fun v w1 ⟨h1,h2,h3⟩=>next v w1 h1 h2 h3)
    ·rename_i hw
     obtain ⟨h1,h2⟩:=g2 (by simpa using hw);exact next undef w' h1 (hRr _) h2
theorem rj_step {l:List Oper} {T:Nat→Value→World→Prop} {R:World→World→Prop} {I:Nat→World→Prop} {a0 a:Act} {w0 w w1:World} {m i:Nat} {listed:Array Bool} {o:Oper} {v:Value}
  (hRt:∀ a b c,R a b→R b c→R a c) (hTs:∀ k v a b,T k v a→R a b→T k v b) (hB:rgC l a0.tmps.size=true) (hls:listed.size=l.length) (ho:l[i]?=some o) (hTv:T i v w1) (hR1:R w w1) (hI1:I (m+1) w1) (hJ:RJ l T R I a0 w0 m listed a w) :
  RJ l T R I a0 w0 (m+1) (listed.setIfInBounds i true) (a.put o.dst v) w1:=by
 obtain ⟨hR,hI,hd,hs,ht,hT⟩:=hJ;simp only [rgC,Bool.and_eq_true] at hB;obtain ⟨hns,hB⟩:=hB
 have hB':∀ (i:Nat) (o:Oper),l[i]?=some o→∀ d,o.dst=some d→d<a0.tmps.size∧dstIdx d l 0=some i:=by
  intro i o ho d hd;have hlt:=(List.getElem?_eq_some_iff.1 ho).1;have h1:=List.all_eq_true.1 hB i (List.mem_range.2 hlt);simp only [ho,Bool.and_eq_true] at h1;obtain ⟨⟨h1,h2⟩,h3⟩:=h1;rw [hd] at h2
  simpa using h2
 have hlt:i<l.length:=(List.getElem?_eq_some_iff.1 ho).1
 have hget:∀ d,(listed.setIfInBounds i true).getD i d=true:=fun d=>by
  rw [Array.getD_eq_getD_getElem?,Array.getElem?_setIfInBounds_self_of_lt (by omega)];rfl
 refine ⟨hRt _ _ _ hR hR1,hI1,(put_defers' _ _ _).trans hd,(put_size _ _ _).trans hs,fun t h=>?_,fun j p hp hl hn=>?_⟩
 ·have hne:o.dst≠some t:=h i o ho (hget false);rw [put_ne _ _ _ hne]
  exact ht t fun j p hp hl=>h j p hp (getD_set_true hl)
 ·by_cases e:i=j
  ·subst e;rw [ho] at hp;obtain rfl:=Option.some.inj hp
   cases hod:o.dst with
   | none=>exact absurd hod hn
   | some d =>
    have:tv (a.put (some d) v) d=v:=by
     unfold tv;rw [Array.getD_eq_getD_getElem?,put_same _ _ _ (by rw [hs];exact (hB' i o ho d hod).1)]
     rfl
    simp only [vof];rw [this];exact hTv
  ·rw [getD_set_ne false e] at hl;have h2:=hTs j _ w w1 (hT j p hp hl hn) hR1
   cases hpd:p.dst with
   | none=>exact absurd hpd hn
   | some d =>
    rw [hpd] at h2;simp only [vof] at h2 ⊢
    rw [show tv (a.put o.dst v) d=tv a d from tv_of (put_ne _ _ _ (fun hod=>by
     have e1:=(hB' i o ho d hod).2;rw [(hB' j p hp d hpd).2] at e1
     exact e (Option.some.inj e1).symm))]
    exact h2
def lonesB (l:List Oper):List (Nat × Nat × Nat)→Array Bool→Bool
 | [],_=>true
 | (x,d,s) :: r,listed=>(match l[x]? with
  | some o=>o.guard.isNone&&(match o.op,o.dst with | .move (.tmp s'),some d'=>s' == s&&d' == d | _,_=>false)&&(o.after.toList.all fun e=>!Region.binds .any e)&&Region.free .any l.toArray listed x&&(Region.ready .any l.toArray listed).contains x&&(dstIdx s l 0).isNone&&!(listed.getD x true)
  | none=>false)&&lonesB l r (listed.setIfInBounds x true)
theorem wpAny_lones {l:List Oper} {Q:Exit→Act→World→Prop} {a0:Act} {w:World} (n1:Nat) (X:Nat→Bool) (tl:List (Value→World→Prop)) (hB:rgC l a0.tmps.size=true) (hC:cloX l n1 X=true) (hTs:∀ T∈tl,Stay T)
  (hops:opsOK P l (fun k=>tl.getD k XT) Gr GIx a0 w.drew (l.take n1) 0) (hfin:∀ w',Gr w.drew w'→finP (fun k=>tl.getD k XT) w' (fun a'=>wpAny P .any l.toArray (NoPan Q) (l.length-n1) (listedTo n1 0 (Array.replicate l.toArray.size false)) a' w') (l.take n1) 0 a0) :
  ∀ (xs:List (Nat × Nat × Nat)) (fuel m:Nat) (listed:Array Bool) (a:Act),lonesB l xs listed=true→(∀ x d s,(x,d,s)∈xs→x<n1∧(tl.getD x XT) (a0.eval (.tmp s)) w.drew) →
   cntF (fun i=>listed.getD i true) l.length=fuel→listed.size=l.length→fuel+m=l.length→(∀ i,n1≤i→i<l.length→listed.getD i false=false)→(∀ j,X j=true→listed.getD j false=true∨∃ d s,(j,d,s)∈xs)→DC l listed→RJ l (fun k=>tl.getD k XT) Gr GIx a0 w.drew m listed a w.drew →
   wpAny P .any l.toArray (NoPan Q) fuel listed a w.drew
 | [],fuel,m,listed,a,_,_,hc,hls,hm,hlow,hX,hdc,hJ =>
  wpAny_rgpX (w:=w) (a0:=a0) (fun k=>tl.getD k XT) Gr GIx n1 hB X hC Gr.refl (fun _ _ _ h k=>h.trans k) (stay_list hTs) trivial hops (fun w' h _=>hfin w' h) fuel m listed a w.drew hc hls hm hlow (fun j hj=>by rcases hX j hj with h | ⟨d,s,h⟩;exact h;simp at h) hdc hJ
 | (x,d,s) :: r,fuel,m,listed,a,hl,hT,hc,hls,hm,hlow,hX,hdc,hJ=>by
  simp only [lonesB,Bool.and_eq_true] at hl;obtain ⟨hl,hlr⟩:=hl
  cases ho:l[x]? with
  | none=>rw [ho] at hl;cases hl
  | some o =>
   rw [ho] at hl;simp only [Bool.and_eq_true,List.all_eq_true,Bool.not_eq_true',Option.isNone_iff_eq_none] at hl;obtain ⟨⟨⟨⟨⟨⟨hg,h2⟩,haf⟩,hfr⟩,hr⟩,hds⟩,hxl⟩:=hl
   obtain ⟨hop,hd⟩:o.op=.move (.tmp s)∧o.dst=some d:=by
    revert h2
    cases hop:o.op <;> cases hd:o.dst <;> simp
    try
     rename_i y z
     cases y <;> simp
     try
      intro a b
      simp [a,b]
   have hlt:x<l.length:=(List.getElem?_eq_some_iff.1 ho).1;have hB2:=hB;simp only [rgC,Bool.and_eq_true] at hB2;obtain ⟨hxn,hTx⟩:=hT x d s List.mem_cons_self
   have hev:a.eval (.tmp s)=a0.eval (.tmp s):=by
    have:=hJ.2.2.2.2.1 s (fun j o' ho' _=>dstIdx_none hds o' (List.mem_of_getElem? ho'))
    exact tv_of this
   have hset:=cntF_set (f:=fun i=>listed.getD i true) (g:=fun j=>(listed.setIfInBounds x true).getD j true) (i:=x) hxl (by
    show (listed.setIfInBounds x true).getD x true=true
    rw [Array.getD_eq_getD_getElem?,Array.getElem?_setIfInBounds_self_of_lt (by omega)];rfl) (fun j hj=>getD_set_ne true (Ne.symm hj)) hlt
   have ho':l.toArray[x]?=some o:=by simpa using ho
   have hpos:fuel=(fuel-1)+1:=by omega
   rw [hpos];refine wpAny_first (i:=x) (oi:=o) (v:=a.eval (.tmp s)) ho' (Region.noSelect_spec hB2.1) (fun c a w h=>(h:False).elim) (fuel-1) _ a w.drew (Region.free_spec ho' hfr) (by simpa using hr) (.inl ⟨?_,?_⟩) ?_
   ·simp [Region.wanted,hg]
   ·intro w';obtain ⟨dst,op,type,pos,after,guard⟩:=o;simp only at hop;subst hop
    rfl
   refine wpAny_lones n1 X tl hB hC hTs hops hfin r (fuel-1) (m+1) _ _ hlr (fun x' d' s' h=>hT x' d' s' (List.mem_cons_of_mem _ h)) (by omega) (by simpa using hls) (by omega) (fun i hi hil=>?_) (fun j hj=>?_) ?_ ?_
   ·rw [getD_set_ne false (by omega)];exact hlow i hi hil
   ·by_cases e:j=x
    ·subst e
     left
     rw [Array.getD_eq_getD_getElem?,Array.getElem?_setIfInBounds_self_of_lt (by omega)];rfl
    ·rcases hX j hj with h | ⟨d',s',h⟩
     ·exact .inl (getD_set_true h)
     ·rcases List.mem_cons.1 h with h | h
      ·cases h;exact absurd rfl e
      ·exact .inr ⟨d',s',h⟩
   ·exact hdc.set ho (fun e he hb=>by rw [haf e (by simpa using he)] at hb;cases hb)
   ·exact rj_step (fun _ _ _ h k=>h.trans k) (stay_list hTs) hB hls ho (by rw [hev];exact hTx) (Gr.refl _) trivial hJ
theorem wp_region_rxl {id:Nat} {l:List Oper} {Q:Exit→Act→World→Prop} {a0:Act} {w:World} (n1 m:Nat) (xs:List (Nat × Nat × Nat)) (listed:Array Bool) (hf:P.follows .mixedOrders=true) (hm:l.length-n1=m) (hls:listedTo n1 0 (Array.replicate l.toArray.size false)=listed) (tl:List (Value→World→Prop)) (hB:rgC l a0.tmps.size=true) (hC:cloX l n1 (fun j=>xs.any fun p=>p.1 == j)=true) (hl:lonesB l xs (Array.replicate l.length false)=true) (hTs:∀ T∈tl,Stay T) (hT:∀ x d s,(x,d,s)∈xs→x<n1∧(tl.getD x XT) (a0.eval (.tmp s)) w.drew)
  (hops:opsOK P l (fun k=>tl.getD k XT) Gr GIx a0 w.drew (l.take n1) 0) (hfin:∀ w',Gr w.drew w'→finP (fun k=>tl.getD k XT) w' (fun a'=>wpAny P .any l.toArray (NoPan Q) m listed a' w') (l.take n1) 0 a0):(Code.region id l.toArray true).wp P Q a0 w:=by
 subst hm hls;refine Code.wp_mono NoPan.imp (wp_region_any hf ?_)
 have hsz':l.toArray.size=l.length:=by simp
 rw [show Array.replicate l.toArray.size false=Array.replicate l.length false from by rw [hsz'],hsz']
 have hrep:∀ j,(Array.replicate l.length false).getD j false=false:=fun j=>by
  rw [Array.getD_eq_getD_getElem?,Array.getElem?_replicate];split <;> rfl
 refine wpAny_lones n1 _ tl hB hC hTs hops hfin xs l.length 0 _ a0 hl hT ?_ (by simp) (by omega) (fun i _ _=>hrep i) (fun j hj=>?_) (fun i o hi hl'=>by rw [hrep] at hl';cases hl') ⟨Gr.refl _,trivial,rfl,rfl,fun t _=>rfl,fun j p hp hl'=>by rw [hrep] at hl';cases hl'⟩
 ·have:∀ n,n≤l.length→cntF (fun i=>(Array.replicate l.length false).getD i true) n=n:=by
   intro n
   induction n with
   | zero=>intro _;rfl
   | succ n ihn =>
    intro hn;simp only [cntF];rw [ihn (by omega)]
    have:(Array.replicate l.length false).getD n true=false:=by
     rw [Array.getD_eq_getD_getElem?,Array.getElem?_replicate,if_pos (by omega)];rfl
    rw [if_neg (by rw [this];decide)]
  exact this l.length (Nat.le_refl _)
 ·obtain ⟨p,hp,he⟩:=List.any_eq_true.1 hj;obtain ⟨x,d,s⟩:=p
  obtain rfl:x=j:=by simpa using he
  exact .inr ⟨d,s,hp⟩
end
end
end Go.Proofs.YtmmfifgdgbmgjaaGreat
