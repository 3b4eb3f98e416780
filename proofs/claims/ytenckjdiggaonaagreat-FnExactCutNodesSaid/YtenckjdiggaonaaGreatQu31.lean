import Derived.Test.YtenckjdiggaonaaGreatQu30
set_option linter.unusedVariables false
set_option linter.unusedSimpArgs false
set_option maxRecDepth 100000
set_option maxHeartbeats 16000000
namespace Go.Proofs.YtenckjdiggaonaaGreat
open Go.RowKit
attribute [local go_sem] growUpon_value growUpon_skip growUpon_enter
section
attribute [local go_sem 5000] run_mx run_mn run_eqlR run_neqR
theorem sinset_W (p:Pk) (r:Rc) (w:World) (h:p.big) (hr:r.okW):Calls Tryz.prog 156 #[.agg #[.int .i64 (r.x),.int .i64 (r.y),.int .i64 (r.u),.int .i64 (r.v)],.int .i64 p.px,.int .i64 p.py] w fun e w'=>e=.returned (.agg #[.int .i64 ((insP r p.px p.py).x),.int .i64 ((insP r p.px p.py).y),.int .i64 ((insP r p.px p.py).u),.int .i64 ((insP r p.px p.py).v)])∧Below w.heap.size w w':=by
 obtain ⟨⟨m1,m2⟩,⟨m3,m4⟩,⟨m5,m6⟩,⟨m7,m8⟩⟩:=ins_bdW h hr;obtain ⟨⟨⟨a1,a2⟩,a3,a4⟩,⟨a5,a6⟩,a7,a8⟩:=hr;obtain ⟨_,_,_,_,⟨b1,b2⟩,⟨b3,b4⟩⟩:=h
 have x1:r.x≤1000000000000000:=by omega
 have x2:r.y≤1000000000000000:=by omega
 unfold insP
 dsimp only
 rw [mx_comm (r.u - 2*p.px) 0,mx_comm (r.v - 2*p.py) 0] at *
 go_enter Tryz.func156,Tryz.ntmps156
 go_wp2
 exact bodyPost_ret (v:=.agg #[.int .i64 (r.x+mn p.px (r.u / 2)),.int .i64 (r.y+mn p.py (r.v / 2)),.int .i64 (mx 0 (r.u - 2*p.px)),.int .i64 (mx 0 (r.v - 2*p.py))]) (by simp only [results,Tryz.results156];go_simp) rfl ⟨rfl,(by repeat (first | with_reducible exact Below.refl _ _ | with_reducible assumption | with_reducible refine balloc ?_ | (with_reducible refine bset ?_ ?_;rotate_left;((try dsimp only);omega)) | refine bkeep2 ?_ (by assumption) | with_reducible refine Below.drew ?_))⟩
theorem sanchored_big (x y u v p q k:Int) (w:World) (hx:-1000000000000000≤x∧x≤1000000000000020) (hy:-1000000000000000≤y∧y≤1000000000000020) (hu:0≤u∧u≤20000000000000) (hv:0≤v∧v≤20000000000000) (hp:0≤p∧p≤20000000000000) (hq:0≤q∧q≤20000000000000) (hk:0≤k∧k≤8):Calls Tryz.prog 174 #[.agg #[.int .i64 (x),.int .i64 (y),.int .i64 (u),.int .i64 (v)],.int .i64 p,.int .i64 q,.int .i64 k] w fun e w'=>e=.returned (.agg #[.int .i64 (x+(u - mn p u)*(k % 3) / 2),.int .i64 (y+(v - mn q v)*(k / 3) / 2),.int .i64 (mn p u),.int .i64 (mn q v)])∧Below w.heap.size w w':=by
 have g1:=mn_spec p u;have g2:=mn_spec q v;obtain ⟨a1,a2⟩:=hx;obtain ⟨a3,a4⟩:=hy;obtain ⟨a5,a6⟩:=hu;obtain ⟨a7,a8⟩:=hv;obtain ⟨b1,b2⟩:=hp;obtain ⟨b3,b4⟩:=hq;obtain ⟨b5,b6⟩:=hk;obtain ⟨m9,m10⟩:=prod_bdW (a:=u - mn p u) (k:=k % 3) (by omega) (by omega) (by omega) (by omega);obtain ⟨m11,m12⟩:=prod_bdW (a:=v - mn q v) (k:=k / 3) (by omega) (by omega) (by omega) (by omega)
 have m1:0≤mn p u:=by omega
 have m2:mn p u≤u:=by omega
 have m3:0≤mn q v:=by omega
 have m4:mn q v≤v:=by omega
 have m5:0≤k % 3:=by omega
 have m6:k % 3≤2:=by omega
 have m7:0≤k / 3:=by omega
 have m8:k / 3≤2:=by omega
 clear g1 g2
 go_enter Tryz.func174,Tryz.ntmps174
 go_wp2
 exact bodyPost_ret (v:=.agg #[.int .i64 (x+(u - mn p u)*(k % 3) / 2),.int .i64 (y+(v - mn q v)*(k / 3) / 2),.int .i64 (mn p u),.int .i64 (mn q v)]) (by simp only [results,Tryz.results174];go_simp) rfl ⟨rfl,(by repeat (first | with_reducible exact Below.refl _ _ | with_reducible assumption | with_reducible refine balloc ?_ | (with_reducible refine bset ?_ ?_;rotate_left;((try dsimp only);omega)) | refine bkeep2 ?_ (by assumption) | with_reducible refine Below.drew ?_))⟩
theorem sanchored_W (p:Pk) (r q:Rc) (a b:Int) (w:World) (h:p.big) (hr:r.okW) (hq:q=insP r p.px p.py) (ha:a=p.w ∨ a=(insP r p.px p.py).u) (hb:b=p.h ∨ b=(insP r p.px p.py).v) (S:Rc) (hS:ancP (insP r p.px p.py) a b p.an=S) :
  Calls Tryz.prog 174 #[.agg #[.int .i64 (q.x),.int .i64 (q.y),.int .i64 (q.u),.int .i64 (q.v)],.int .i64 a,.int .i64 b,.int .i64 p.an] w fun e w'=>e=.returned (.agg #[.int .i64 (S.x),.int .i64 (S.y),.int .i64 (S.u),.int .i64 (S.v)])∧Below w.heap.size w w':=by
 subst hq hS;have hi:=ins_bdW h hr;obtain ⟨⟨⟨a1,a2⟩,a3,a4⟩,⟨a5,a6⟩,a7,a8⟩:=hr;obtain ⟨h1,h2,_,h4,h5,h6⟩:=h
 have ea:0≤a∧a≤20000000000000:=by rcases ha with rfl | rfl <;> (try simp only [insP]) <;> omega
 have eb:0≤b∧b≤20000000000000:=by rcases hb with rfl | rfl <;> (try simp only [insP]) <;> omega
 exact sanchored_big _ _ _ _ _ _ _ _ (by simp only [insP];omega) (by simp only [insP];omega) (by simp only [insP];omega) (by simp only [insP];omega) ea eb h4
theorem psettled_w (p:Pk) (r:Rc) (w:World) (h:p.big) (hr:r.okW):Calls Tryz.prog 154 #[.agg #[.int .i64 p.w,.int .i64 p.h,.int .i64 p.s,.bool p.fx,.bool p.fy,.bool p.ex,.int .i64 p.an,.int .i64 p.px,.int .i64 p.py],.agg #[.int .i64 (r.x),.int .i64 (r.y),.int .i64 (r.u),.int .i64 (r.v)]] w fun e w'=>e=.returned (.agg #[.int .i64 ((setP p r).x),.int .i64 ((setP p r).y),.int .i64 ((setP p r).u),.int .i64 ((setP p r).v)])∧Below w.heap.size w w':=by
 obtain ⟨S,hS⟩:∃ S,setP p r=S:=⟨_,rfl⟩
 rw [hS];have HS:=hD hS;clear hS
 go_enter Tryz.func154,Tryz.ntmps154
 go_wp2_with fail
 with_reducible refine (sinset_W p r _ h hr).mono ?_
 rintro e w1 ⟨rfl,hb1⟩
 have hP1:=(hb1.block w.heap.size (by simp;omega)).trans ((Below.heap_alloc _ (.cells #[.int .i64 0,.int .i64 0,.int .i64 0,.int .i64 0] 45 (0,0)) _ (by simp;omega)).trans ((Below.heap_alloc _ (.cells #[.int .i64 r.x,.int .i64 r.y,.int .i64 r.u,.int .i64 r.v] 45 (0,0)) _ (by simp)).trans (heap_new w (.cells #[.int .i64 p.w,.int .i64 p.h,.int .i64 p.s,.bool p.fx,.bool p.fy,.bool p.ex,.int .i64 p.an,.int .i64 p.px,.int .i64 p.py] 78 (0,0)))))
 have hI1:=(hb1.block (w.heap.size+1+1) (by simp)).trans (by have e:=heap_new ((w.alloc (.cells #[.int .i64 p.w,.int .i64 p.h,.int .i64 p.s,.bool p.fx,.bool p.fy,.bool p.ex,.int .i64 p.an,.int .i64 p.px,.int .i64 p.py] 78 (0,0))).alloc (.cells #[.int .i64 r.x,.int .i64 r.y,.int .i64 r.u,.int .i64 r.v] 45 (0,0))) (.cells #[.int .i64 0,.int .i64 0,.int .i64 0,.int .i64 0] 45 (0,0));simpa only [World.size_alloc] using e)
 have hB1:Below w.heap.size w w1:=bkeep2 (balloc (balloc (balloc (Below.refl _ _)))) hb1;have hls:w.heap.size+1+1<w1.heap.size:=(gE hI1).1
 obtain ⟨I,hI⟩:∃ I,insP r p.px p.py=I:=⟨_,rfl⟩
 rw [hI];have c0:=cellH hP1 0;have c1:=cellH hP1 1;have c3:=cellH hP1 3;have c4:=cellH hP1 4;have c6:=cellH hP1 6;simp only [List.getElem?_toArray,List.getElem?_cons_zero,List.getElem?_cons_succ] at c0 c1 c3 c4 c6;have HB:=hD hB1;have HX:=hD hI1
 have hl0:w.heap.size<w1.heap.size:=by omega
 have hn0:¬ w.heap.size=w1.heap.size:=by omega
 have HI:=hD hI;clear hP1 hI1 hb1 hB1 hI
 cases hfx:p.fx <;> cases hfy:p.fy
 ·rw [hfx] at c3;rw [hfy] at c4
  go_wp2_with fail
  refine (sanchored_W p r I p.w p.h _ h hr HI.out.symm (by rw [HI.out];simp) (by rw [HI.out];simp) S (by rw [<- HS.out];unfold setP wP hP;simp [hfx,hfy,HI.out])).mono ?_;rintro e w2 ⟨rfl,hb2⟩;replace HX:=hD ((hb2.block _ (by simp;omega)).trans ((Below.heap_alloc _ _ _ hls).trans HX.out));replace HB:=hD (bkeep2 (balloc HB.out) hb2);clear hb2 c0 c1 c3 c4 c6 hl0 hn0 hls
  obtain ⟨i0,i1,i2,i3⟩:=cells4 HX.out;have g0:=frozenH HX.out 0;have g1:=frozenH HX.out 1;have g2:=frozenH HX.out 2;have g3:=frozenH HX.out 3;go_wp2
  refine bp_genP (fun W=>W.heap[w.heap.size+1+1]?=some (.cells #[.int .i64 S.x,.int .i64 S.y,.int .i64 S.u,.int .i64 S.v] 45 (0,0))∧Below w.heap.size w W)
   ⟨pput4z HX.out _ _ _ _,pput4b HB.out (by omega) _ _ _ _ _ _ _ _⟩ ?_
  clear HX HB i0 i1 i2 i3 g0 g1 g2 g3;rintro W ⟨hW,hB2⟩;obtain ⟨r0,r1,r2,r3⟩:=cells4 hW;exact bodyPost_ret (v:=.agg #[.int .i64 (S.x),.int .i64 (S.y),.int .i64 (S.u),.int .i64 (S.v)]) (by simp only [results,Tryz.results154];go_simp) rfl ⟨rfl,hB2⟩
 ·rw [hfx] at c3;rw [hfy] at c4
  go_wp2_with fail
  refine (sanchored_W p r I p.w I.v _ h hr HI.out.symm (by rw [HI.out];simp) (by rw [HI.out];simp) S (by rw [<- HS.out];unfold setP wP hP;simp [hfx,hfy,HI.out])).mono ?_;rintro e w2 ⟨rfl,hb2⟩;replace HX:=hD ((hb2.block _ (by simp;omega)).trans ((Below.heap_alloc _ _ _ hls).trans HX.out));replace HB:=hD (bkeep2 (balloc HB.out) hb2);clear hb2 c0 c1 c3 c4 c6 hl0 hn0 hls
  obtain ⟨i0,i1,i2,i3⟩:=cells4 HX.out;have g0:=frozenH HX.out 0;have g1:=frozenH HX.out 1;have g2:=frozenH HX.out 2;have g3:=frozenH HX.out 3;go_wp2
  refine bp_genP (fun W=>W.heap[w.heap.size+1+1]?=some (.cells #[.int .i64 S.x,.int .i64 S.y,.int .i64 S.u,.int .i64 S.v] 45 (0,0))∧Below w.heap.size w W)
   ⟨pput4z HX.out _ _ _ _,pput4b HB.out (by omega) _ _ _ _ _ _ _ _⟩ ?_
  clear HX HB i0 i1 i2 i3 g0 g1 g2 g3;rintro W ⟨hW,hB2⟩;obtain ⟨r0,r1,r2,r3⟩:=cells4 hW;exact bodyPost_ret (v:=.agg #[.int .i64 (S.x),.int .i64 (S.y),.int .i64 (S.u),.int .i64 (S.v)]) (by simp only [results,Tryz.results154];go_simp) rfl ⟨rfl,hB2⟩
 ·rw [hfx] at c3;rw [hfy] at c4
  go_wp2_with fail
  refine (sanchored_W p r I I.u p.h _ h hr HI.out.symm (by rw [HI.out];simp) (by rw [HI.out];simp) S (by rw [<- HS.out];unfold setP wP hP;simp [hfx,hfy,HI.out])).mono ?_;rintro e w2 ⟨rfl,hb2⟩;replace HX:=hD ((hb2.block _ (by simp;omega)).trans ((Below.heap_alloc _ _ _ hls).trans HX.out));replace HB:=hD (bkeep2 (balloc HB.out) hb2);clear hb2 c0 c1 c3 c4 c6 hl0 hn0 hls
  obtain ⟨i0,i1,i2,i3⟩:=cells4 HX.out;have g0:=frozenH HX.out 0;have g1:=frozenH HX.out 1;have g2:=frozenH HX.out 2;have g3:=frozenH HX.out 3;go_wp2
  refine bp_genP (fun W=>W.heap[w.heap.size+1+1]?=some (.cells #[.int .i64 S.x,.int .i64 S.y,.int .i64 S.u,.int .i64 S.v] 45 (0,0))∧Below w.heap.size w W)
   ⟨pput4z HX.out _ _ _ _,pput4b HB.out (by omega) _ _ _ _ _ _ _ _⟩ ?_
  clear HX HB i0 i1 i2 i3 g0 g1 g2 g3;rintro W ⟨hW,hB2⟩;obtain ⟨r0,r1,r2,r3⟩:=cells4 hW;exact bodyPost_ret (v:=.agg #[.int .i64 (S.x),.int .i64 (S.y),.int .i64 (S.u),.int .i64 (S.v)]) (by simp only [results,Tryz.results154];go_simp) rfl ⟨rfl,hB2⟩
 ·rw [hfx] at c3;rw [hfy] at c4
  go_wp2_with fail
  refine (sanchored_W p r I I.u I.v _ h hr HI.out.symm (by rw [HI.out];simp) (by rw [HI.out];simp) S (by rw [<- HS.out];unfold setP wP hP;simp [hfx,hfy,HI.out])).mono ?_;rintro e w2 ⟨rfl,hb2⟩;replace HX:=hD ((hb2.block _ (by simp;omega)).trans ((Below.heap_alloc _ _ _ hls).trans HX.out));replace HB:=hD (bkeep2 (balloc HB.out) hb2);clear hb2 c0 c1 c3 c4 c6 hl0 hn0 hls
  obtain ⟨i0,i1,i2,i3⟩:=cells4 HX.out;have g0:=frozenH HX.out 0;have g1:=frozenH HX.out 1;have g2:=frozenH HX.out 2;have g3:=frozenH HX.out 3;go_wp2
  refine bp_genP (fun W=>W.heap[w.heap.size+1+1]?=some (.cells #[.int .i64 S.x,.int .i64 S.y,.int .i64 S.u,.int .i64 S.v] 45 (0,0))∧Below w.heap.size w W)
   ⟨pput4z HX.out _ _ _ _,pput4b HB.out (by omega) _ _ _ _ _ _ _ _⟩ ?_
  clear HX HB i0 i1 i2 i3 g0 g1 g2 g3;rintro W ⟨hW,hB2⟩;obtain ⟨r0,r1,r2,r3⟩:=cells4 hW;exact bodyPost_ret (v:=.agg #[.int .i64 (S.x),.int .i64 (S.y),.int .i64 (S.u),.int .i64 (S.v)]) (by simp only [results,Tryz.results154];go_simp) rfl ⟨rfl,hB2⟩
end
section
attribute [local go_sem 5000] run_mx run_mn
theorem half_w (r n:Int) (w:World) (h1:-100000000000000≤r) (h2:r≤100000000000000) (h3:1≤n) (h4:n≤1000):Calls Tryz.prog 178 #[.int .i64 r,.int .i64 n] w fun e w'=>e=.returned (.int .i64 (mx r 0 / n))∧w=w':=by
 rw [<- halfI_eq]
 by_cases h:r<0
 ·go_enter Tryz.func178,Tryz.ntmps178
  go_wp2;go_ret;exact ⟨ret_int (by unfold halfI;rw [if_pos h]),rfl⟩
 ·have hd:decide (r<0)=false:=by simpa using h
  have h0:0≤r:=by omega
  have hn:¬ n=0:=by omega
  go_enter Tryz.func178,Tryz.ntmps178
  go_wp2;go_ret;exact ⟨ret_int (by unfold halfI;rw [if_neg (by omega)]),rfl⟩
theorem upright_pW (p:Pk) (w:World):Calls Tryz.prog 141 #[.int .i64 p.s] w fun e w'=>e=.returned (.bool p.down)∧w=w':=upright_v p.s w
theorem mx_posW {a:Int} (h:0≤a):mx a 0=a:=by have:=mx_spec a 0;omega
theorem share_w (A:Option Addr) (c:Nat) (L:List Pk) (room:Int) (d:Bool) (w:World) (h:PV w A L) (hL:bgL L) (p0:Pk) (r0:List Pk) (hp0:L=p0 :: r0) (hd0:p0.down=d) (hx0:p0.ex=true) (hr:0≤room) (hr':room≤20000000000000) :
  Calls Tryz.prog 172 #[.slice A L.length c,.int .i64 room,.bool d] w fun e w'=>e=.returned (.int .i64 (shareGo L d room room 0))∧Below w.heap.size w w':=by
 obtain ⟨hok,h7⟩:=id hL;have H0:=hD (And.intro hp0 (And.intro hd0 hx0));have HL:=hD hok;clear hp0 hd0 hx0 hok hL
 obtain ⟨R,hR⟩:∃ R,shareGo L d room room 0=R:=⟨_,rfl⟩
 rw [hR];have HR:=hD hR;clear hR
 go_enter Tryz.func172,Tryz.ntmps172
 go_wp2_with fail
 go_loopw [1,7,8,9] (fun rm sh n i wr=>∃ (k:Nat) (a b q:Int),k≤L.length∧rm=.int .i64 a∧sh=.int .i64 b∧n=.int .i64 q∧i=.int .i64 k∧shareGo (L.drop k) d b a q=R∧(-(1000000000020*(k:Int))≤a∧a≤20000000000000)∧(0≤b∧b≤20000000000000)∧(0≤q∧q≤k)∧(1≤k→1≤q)∧Below w.heap.size w wr) (fun _ _ _ i _=>L.length - (intOf i).toNat)
 case atStart=>exact ⟨0,room,room,0,by omega,rfl,rfl,rfl,rfl,HR.out,by omega,by omega,by omega,by omega,Below.refl _ _⟩
 case round =>
  obtain ⟨k,a,b,q,hk,rfl,rfl,rfl,rfl,hS,⟨ha1,ha2⟩,⟨hb1,hb2⟩,⟨hq1,hq2⟩,hkq,hB⟩:=hrel;have HBB:=hD hB;have HS:=hD hS;clear HR hB hS
  by_cases hlt:k<L.length
  ·have hd:decide ((k:Int)<(L.length:Int))=true:=by simpa using hlt
   obtain ⟨g,off,rfl,hg,hp⟩:=(h.keep HBB.out).cells (by omega);obtain ⟨c0,c1,c2,c3,c4,c5,c6,c7,c8⟩:=hp k _ (List.getElem?_eq_getElem hlt);have hget:L[k]?=some L[k]:=List.getElem?_eq_getElem hlt;generalize hx:L[k]=p at *;have hpk:p.big:=HL.out p (List.mem_of_getElem? hget);have nb:=Pk.need_bdW hpk d
   have hfst:k=0→p.down=d∧p.ex=true:=by
    rintro rfl;obtain ⟨e1,e2,e3⟩:=H0.out
    have e4:p=p0:=by rw [e1] at hget;simpa using hget.symm
    rw [e4];exact ⟨e2,e3⟩
   have HG:=hD hget;have HX:=hD hx;have HP:=hD hp;have HPK:=hD hpk;clear hget hx hp hpk
   by_cases hdn:p.down=d
   ·have heq:(p.down == d)=true:=by simp [hdn]
    have HDN:=hD hdn;have HF:=hD hfst;clear hdn hfst
    cases hex:p.ex
    all_goals
     have HEX:=hD hex;have HC5:=hD c5;clear hex
     go_wp2_with fail
     refine (outer_w p _ HPK.out).mono ?_;rintro e w1 ⟨rfl,hbb⟩;obtain ⟨d0,d1,d2,d3,d4,d5,d6,d7,d8⟩:=(HP.out k p HG.out).keep (hbb.block g hg);rw [HEX.out] at d5;replace HBB:=hD (HBB.out.trans (hbb.mono HBB.out.size));clear hbb c0 c1 c2 c3 c4 c5 c6 c7 c8
     cases d
     all_goals
      go_wp2_with fail
      refine (upright_pW p _).mono ?_;rintro e w2 ⟨rfl,rfl⟩;go_wp2
      go_roundw
    case rel=>exact ⟨k+1,_,_,_,by omega,rfl,rfl,rfl,by go_num,by rw [<- HS.out,drop_cons HG.out,shareGo_plain HDN.out HEX.out],by omega,by omega,by omega,fun _=>hkq (by
     rcases Nat.eq_zero_or_pos k with e | e
     ·have h9:=(HF.out e).2;rw [HEX.out] at h9
      cases h9
     ·exact e),HBB.out⟩
    case measure=>simp [intOf];omega
    case rel=>exact ⟨k+1,_,_,_,by omega,rfl,rfl,rfl,by go_num,by rw [<- HS.out,drop_cons HG.out,shareGo_plain HDN.out HEX.out],by omega,by omega,by omega,fun _=>hkq (by
     rcases Nat.eq_zero_or_pos k with e | e
     ·have h9:=(HF.out e).2;rw [HEX.out] at h9
      cases h9
     ·exact e),HBB.out⟩
    case measure=>simp [intOf];omega
    case rel=>exact ⟨k+1,_,_,_,by omega,rfl,rfl,rfl,by go_num,by rw [<- HS.out,drop_cons HG.out,shareGo_same HDN.out HEX.out],by omega,by omega,by omega,by omega,HBB.out⟩
    case measure=>simp [intOf];omega
    case rel=>exact ⟨k+1,_,_,_,by omega,rfl,rfl,rfl,by go_num,by rw [<- HS.out,drop_cons HG.out,shareGo_same HDN.out HEX.out],by omega,by omega,by omega,by omega,HBB.out⟩
    case measure=>simp [intOf];omega
   ·have heq:(p.down == d)=false:=by simpa using hdn
    have hk1:1≤k:=by
     rcases Nat.eq_zero_or_pos k with e | e
     ·exact absurd (hfst e).1 hdn
     ·exact e
    have hq3:1≤q:=hkq hk1;have HDN:=hD hdn;have pb:=part_bdW (r:=a - p.need d) (n:=q) (by omega) hq3;have nb2:=mn_spec b (mx (a - p.need d) 0 / q)
    have hq0:decide (0<q)=true:=by simp;omega
    clear hdn hfst hkq
    go_wp2_with fail
    refine (outer_w p _ HPK.out).mono ?_;rintro e w1 ⟨rfl,hbb⟩;obtain ⟨d0,d1,d2,d3,d4,d5,d6,d7,d8⟩:=(HP.out k p HG.out).keep (hbb.block g hg);replace HBB:=hD (HBB.out.trans (hbb.mono HBB.out.size));clear hbb c0 c1 c2 c3 c4 c5 c6 c7 c8
    cases d
    all_goals
     go_wp2_with fail
     refine (upright_pW p _).mono ?_;rintro e w2 ⟨rfl,rfl⟩
     go_wp2_with fail
     first | refine (half_w (a - p.need false) q _ (by omega) (by omega) hq3 (by omega)).mono ?_ | refine (half_w (a - p.need true) q _ (by omega) (by omega) hq3 (by omega)).mono ?_
     rintro e w3 ⟨rfl,rfl⟩;go_wp2
     go_roundw
     case rel=>exact ⟨k+1,_,_,_,by omega,rfl,rfl,rfl,by go_num,by rw [<- HS.out,drop_cons HG.out,shareGo_other HDN.out],by omega,by omega,by omega,by omega,HBB.out⟩
     case measure=>simp [intOf];omega
  ·have hd:decide ((k:Int)<(L.length:Int))=false:=by simp;omega
   obtain rfl:k=L.length:=by omega
   have hk1:1≤L.length:=by rw [H0.out.1];simp
   have hq3:1≤q:=hkq hk1;have hSS:=HS.out;rw [List.drop_length] at hSS;have HS2:=hD hSS;have pb:=part_bdW (r:=a) (n:=q) (by omega) hq3;have nb2:=mn_spec b (mx a 0 / q)
   have hq0:decide (0<q)=true:=by simp;omega
   have hmx:mx (mn b (mx a 0 / q)) 0=mn b (mx a 0 / q):=mx_posW (by omega);have HMX:=hD hmx;clear hSS HS hkq hmx
   go_wp2_with fail
   refine (half_w a q _ (by omega) (by omega) hq3 (by omega)).mono ?_;rintro e w3 ⟨rfl,rfl⟩;go_wp2;go_ret;exact ⟨ret_int (by rw [HMX.out,<- HS2.out];rfl),HBB.out⟩
end
section
attribute [local go_sem 5000] run_mx run_mn run_eqlR run_neqR
theorem scut0_w (x y u v n:Int) (w:World) (h1:vrW x y u v=true) (h2:0≤n) :
  Calls Tryz.prog 173 #[.agg #[.int .i64 (x),.int .i64 (y),.int .i64 (u),.int .i64 (v)],.int .i64 0,.int .i64 n] w fun e w'=>e=.returned (.tuple #[.agg #[.int .i64 (x),.int .i64 (y),.int .i64 (u),.int .i64 (mn n v)],.agg #[.int .i64 (x),.int .i64 (y+mn n v),.int .i64 (u),.int .i64 (v - mn n v)]])∧Below w.heap.size w w':=by
 obtain ⟨a1,a2,a3,a4,a5,a6,a7,a8⟩:=vrW_iff.1 h1;have g:=mn_spec n v
 have g1:0≤mn n v:=by omega
 have g2:mn n v≤v:=by omega
 clear g
 go_enter Tryz.func173,Tryz.ntmps173
 go_wp2_with fail
 refine wp_gen (fun W0=>Below w.heap.size w W0∧W0.cell? ⟨w.heap.size+1,0,none⟩=some (.int .i64 0)∧W0.frozen? ⟨w.heap.size+1,0,none⟩=false∧W0.cell? ⟨w.heap.size+1,1,none⟩=some (.int .i64 0)∧W0.frozen? ⟨w.heap.size+1,1,none⟩=false∧W0.cell? ⟨w.heap.size+1,2,none⟩=some (.int .i64 0)∧W0.frozen? ⟨w.heap.size+1,2,none⟩=false∧W0.cell? ⟨w.heap.size+1,3,none⟩=some (.int .i64 0)∧W0.frozen? ⟨w.heap.size+1,3,none⟩=false∧W0.cell? ⟨w.heap.size+1+1,0,none⟩=some (.int .i64 0)∧W0.frozen? ⟨w.heap.size+1+1,0,none⟩=false∧W0.cell? ⟨w.heap.size+1+1,1,none⟩=some (.int .i64 0)∧W0.frozen? ⟨w.heap.size+1+1,1,none⟩=false∧W0.cell? ⟨w.heap.size+1+1,2,none⟩=some (.int .i64 0)∧W0.frozen? ⟨w.heap.size+1+1,2,none⟩=false∧W0.cell? ⟨w.heap.size+1+1,3,none⟩=some (.int .i64 0)∧W0.frozen? ⟨w.heap.size+1+1,3,none⟩=false∧W0.cell? ⟨w.heap.size+1+1+1,0,none⟩=some (.int .i64 (x))∧W0.cell? ⟨w.heap.size+1+1+1,1,none⟩=some (.int .i64 (y))∧W0.cell? ⟨w.heap.size+1+1+1,2,none⟩=some (.int .i64 (u))∧W0.cell? ⟨w.heap.size+1+1+1,3,none⟩=some (.int .i64 (mn n v))∧W0.cell? ⟨w.heap.size+1+1+1+1,0,none⟩=some (.int .i64 (x))∧W0.cell? ⟨w.heap.size+1+1+1+1,1,none⟩=some (.int .i64 (y+mn n v))∧W0.cell? ⟨w.heap.size+1+1+1+1,2,none⟩=some (.int .i64 (u))∧W0.cell? ⟨w.heap.size+1+1+1+1,3,none⟩=some (.int .i64 (v - mn n v))) ⟨(by repeat (first | with_reducible exact Below.refl _ _ | with_reducible assumption | with_reducible refine balloc ?_ | (with_reducible refine bset ?_ ?_;rotate_left;((try dsimp only);omega)) | refine bkeep2 ?_ (by assumption) | with_reducible refine Below.drew ?_)),?_⟩ (fun W0 hW0=>?_)
 ·go_simp
 obtain ⟨hBW,p0,pf0,p1,pf1,p2,pf2,p3,pf3,q0,qf0,q1,qf1,q2,qf2,q3,qf3,r0,r1,r2,r3,s0,s1,s2,s3⟩:=hW0
 go_region
 all_goals go_wp2
 all_goals
  have XA:=box4 (w:=W0) (b:=w.heap.size+1) (.int .i64 (x)) (.int .i64 (y)) (.int .i64 (u)) (.int .i64 (mn n v)) p0 p1 p2 p3
  have XB:=box4 (b:=w.heap.size+1+1) (.int .i64 (x)) (.int .i64 (y+mn n v)) (.int .i64 (u)) (.int .i64 (v - mn n v)) ((XA.2.2.2.2 (w.heap.size+1+1) 0 (by omega)).trans q0) ((XA.2.2.2.2 (w.heap.size+1+1) 1 (by omega)).trans q1) ((XA.2.2.2.2 (w.heap.size+1+1) 2 (by omega)).trans q2) ((XA.2.2.2.2 (w.heap.size+1+1) 3 (by omega)).trans q3)
  refine gen_post (fun wf=>Below w.heap.size w wf∧wf.cell? ⟨w.heap.size+1,0,none⟩=some (.int .i64 (x))∧wf.cell? ⟨w.heap.size+1,1,none⟩=some (.int .i64 (y))∧wf.cell? ⟨w.heap.size+1,2,none⟩=some (.int .i64 (u))∧wf.cell? ⟨w.heap.size+1,3,none⟩=some (.int .i64 (mn n v))∧wf.cell? ⟨w.heap.size+1+1,0,none⟩=some (.int .i64 (x))∧wf.cell? ⟨w.heap.size+1+1,1,none⟩=some (.int .i64 (y+mn n v))∧wf.cell? ⟨w.heap.size+1+1,2,none⟩=some (.int .i64 (u))∧wf.cell? ⟨w.heap.size+1+1,3,none⟩=some (.int .i64 (v - mn n v))) ⟨(by with_reducible refine Below.drew ?_;exact (by repeat (first | with_reducible exact Below.refl _ _ | with_reducible assumption | with_reducible refine balloc ?_ | (with_reducible refine bset ?_ ?_;rotate_left;((try dsimp only);omega)) | refine bkeep2 ?_ (by assumption) | with_reducible refine Below.drew ?_))),celld ((XB.2.2.2.2 (w.heap.size+1) 0 (by omega)).trans XA.1),celld ((XB.2.2.2.2 (w.heap.size+1) 1 (by omega)).trans XA.2.1),celld ((XB.2.2.2.2 (w.heap.size+1) 2 (by omega)).trans XA.2.2.1),celld ((XB.2.2.2.2 (w.heap.size+1) 3 (by omega)).trans XA.2.2.2.1),celld XB.1,celld XB.2.1,celld XB.2.2.1,celld XB.2.2.2.1⟩ (fun wf hwf=>?_)
  clear XA XB;obtain ⟨hBf,z0,z1,z2,z3,z4,z5,z6,z7⟩:=hwf
  exact bodyPost_ret (v:=.tuple #[.agg #[.int .i64 (x),.int .i64 (y),.int .i64 (u),.int .i64 (mn n v)],.agg #[.int .i64 (x),.int .i64 (y+mn n v),.int .i64 (u),.int .i64 (v - mn n v)]]) (by simp only [results,Tryz.results173];go_simp) rfl ⟨rfl,(by repeat (first | with_reducible exact Below.refl _ _ | with_reducible assumption | with_reducible refine balloc ?_ | (with_reducible refine bset ?_ ?_;rotate_left;((try dsimp only);omega)) | refine bkeep2 ?_ (by assumption) | with_reducible refine Below.drew ?_))⟩
theorem scut1_w (x y u v n:Int) (w:World) (h1:vrW x y u v=true) (h2:0≤n) :
  Calls Tryz.prog 173 #[.agg #[.int .i64 (x),.int .i64 (y),.int .i64 (u),.int .i64 (v)],.int .i64 1,.int .i64 n] w fun e w'=>e=.returned (.tuple #[.agg #[.int .i64 (x),.int .i64 (y+(v - mn n v)),.int .i64 (u),.int .i64 (mn n v)],.agg #[.int .i64 (x),.int .i64 (y),.int .i64 (u),.int .i64 (v - mn n v)]])∧Below w.heap.size w w':=by
 obtain ⟨a1,a2,a3,a4,a5,a6,a7,a8⟩:=vrW_iff.1 h1;have g:=mn_spec n v
 have g1:0≤mn n v:=by omega
 have g2:mn n v≤v:=by omega
 clear g
 go_enter Tryz.func173,Tryz.ntmps173
 go_wp2_with fail
 refine wp_gen (fun W0=>Below w.heap.size w W0∧W0.cell? ⟨w.heap.size+1,0,none⟩=some (.int .i64 0)∧W0.frozen? ⟨w.heap.size+1,0,none⟩=false∧W0.cell? ⟨w.heap.size+1,1,none⟩=some (.int .i64 0)∧W0.frozen? ⟨w.heap.size+1,1,none⟩=false∧W0.cell? ⟨w.heap.size+1,2,none⟩=some (.int .i64 0)∧W0.frozen? ⟨w.heap.size+1,2,none⟩=false∧W0.cell? ⟨w.heap.size+1,3,none⟩=some (.int .i64 0)∧W0.frozen? ⟨w.heap.size+1,3,none⟩=false∧W0.cell? ⟨w.heap.size+1+1,0,none⟩=some (.int .i64 0)∧W0.frozen? ⟨w.heap.size+1+1,0,none⟩=false∧W0.cell? ⟨w.heap.size+1+1,1,none⟩=some (.int .i64 0)∧W0.frozen? ⟨w.heap.size+1+1,1,none⟩=false∧W0.cell? ⟨w.heap.size+1+1,2,none⟩=some (.int .i64 0)∧W0.frozen? ⟨w.heap.size+1+1,2,none⟩=false∧W0.cell? ⟨w.heap.size+1+1,3,none⟩=some (.int .i64 0)∧W0.frozen? ⟨w.heap.size+1+1,3,none⟩=false∧W0.cell? ⟨w.heap.size+1+1+1,0,none⟩=some (.int .i64 (x))∧W0.cell? ⟨w.heap.size+1+1+1,1,none⟩=some (.int .i64 (y+(v - mn n v)))∧W0.cell? ⟨w.heap.size+1+1+1,2,none⟩=some (.int .i64 (u))∧W0.cell? ⟨w.heap.size+1+1+1,3,none⟩=some (.int .i64 (mn n v))∧W0.cell? ⟨w.heap.size+1+1+1+1,0,none⟩=some (.int .i64 (x))∧W0.cell? ⟨w.heap.size+1+1+1+1,1,none⟩=some (.int .i64 (y))∧W0.cell? ⟨w.heap.size+1+1+1+1,2,none⟩=some (.int .i64 (u))∧W0.cell? ⟨w.heap.size+1+1+1+1,3,none⟩=some (.int .i64 (v - mn n v))) ⟨(by repeat (first | with_reducible exact Below.refl _ _ | with_reducible assumption | with_reducible refine balloc ?_ | (with_reducible refine bset ?_ ?_;rotate_left;((try dsimp only);omega)) | refine bkeep2 ?_ (by assumption) | with_reducible refine Below.drew ?_)),?_⟩ (fun W0 hW0=>?_)
 ·go_simp
 obtain ⟨hBW,p0,pf0,p1,pf1,p2,pf2,p3,pf3,q0,qf0,q1,qf1,q2,qf2,q3,qf3,r0,r1,r2,r3,s0,s1,s2,s3⟩:=hW0
 go_region
 all_goals go_wp2
 all_goals
  have XA:=box4 (w:=W0) (b:=w.heap.size+1) (.int .i64 (x)) (.int .i64 (y+(v - mn n v))) (.int .i64 (u)) (.int .i64 (mn n v)) p0 p1 p2 p3
  have XB:=box4 (b:=w.heap.size+1+1) (.int .i64 (x)) (.int .i64 (y)) (.int .i64 (u)) (.int .i64 (v - mn n v)) ((XA.2.2.2.2 (w.heap.size+1+1) 0 (by omega)).trans q0) ((XA.2.2.2.2 (w.heap.size+1+1) 1 (by omega)).trans q1) ((XA.2.2.2.2 (w.heap.size+1+1) 2 (by omega)).trans q2) ((XA.2.2.2.2 (w.heap.size+1+1) 3 (by omega)).trans q3)
  refine gen_post (fun wf=>Below w.heap.size w wf∧wf.cell? ⟨w.heap.size+1,0,none⟩=some (.int .i64 (x))∧wf.cell? ⟨w.heap.size+1,1,none⟩=some (.int .i64 (y+(v - mn n v)))∧wf.cell? ⟨w.heap.size+1,2,none⟩=some (.int .i64 (u))∧wf.cell? ⟨w.heap.size+1,3,none⟩=some (.int .i64 (mn n v))∧wf.cell? ⟨w.heap.size+1+1,0,none⟩=some (.int .i64 (x))∧wf.cell? ⟨w.heap.size+1+1,1,none⟩=some (.int .i64 (y))∧wf.cell? ⟨w.heap.size+1+1,2,none⟩=some (.int .i64 (u))∧wf.cell? ⟨w.heap.size+1+1,3,none⟩=some (.int .i64 (v - mn n v))) ⟨(by with_reducible refine Below.drew ?_;exact (by repeat (first | with_reducible exact Below.refl _ _ | with_reducible assumption | with_reducible refine balloc ?_ | (with_reducible refine bset ?_ ?_;rotate_left;((try dsimp only);omega)) | refine bkeep2 ?_ (by assumption) | with_reducible refine Below.drew ?_))),celld ((XB.2.2.2.2 (w.heap.size+1) 0 (by omega)).trans XA.1),celld ((XB.2.2.2.2 (w.heap.size+1) 1 (by omega)).trans XA.2.1),celld ((XB.2.2.2.2 (w.heap.size+1) 2 (by omega)).trans XA.2.2.1),celld ((XB.2.2.2.2 (w.heap.size+1) 3 (by omega)).trans XA.2.2.2.1),celld XB.1,celld XB.2.1,celld XB.2.2.1,celld XB.2.2.2.1⟩ (fun wf hwf=>?_)
  clear XA XB;obtain ⟨hBf,z0,z1,z2,z3,z4,z5,z6,z7⟩:=hwf
  exact bodyPost_ret (v:=.tuple #[.agg #[.int .i64 (x),.int .i64 (y+(v - mn n v)),.int .i64 (u),.int .i64 (mn n v)],.agg #[.int .i64 (x),.int .i64 (y),.int .i64 (u),.int .i64 (v - mn n v)]]) (by simp only [results,Tryz.results173];go_simp) rfl ⟨rfl,(by repeat (first | with_reducible exact Below.refl _ _ | with_reducible assumption | with_reducible refine balloc ?_ | (with_reducible refine bset ?_ ?_;rotate_left;((try dsimp only);omega)) | refine bkeep2 ?_ (by assumption) | with_reducible refine Below.drew ?_))⟩
theorem scut2_w (x y u v n:Int) (w:World) (h1:vrW x y u v=true) (h2:0≤n) :
  Calls Tryz.prog 173 #[.agg #[.int .i64 (x),.int .i64 (y),.int .i64 (u),.int .i64 (v)],.int .i64 2,.int .i64 n] w fun e w'=>e=.returned (.tuple #[.agg #[.int .i64 (x),.int .i64 (y),.int .i64 (mn n u),.int .i64 (v)],.agg #[.int .i64 (x+mn n u),.int .i64 (y),.int .i64 (u - mn n u),.int .i64 (v)]])∧Below w.heap.size w w':=by
 obtain ⟨a1,a2,a3,a4,a5,a6,a7,a8⟩:=vrW_iff.1 h1;have g:=mn_spec n u
 have g1:0≤mn n u:=by omega
 have g2:mn n u≤u:=by omega
 clear g
 go_enter Tryz.func173,Tryz.ntmps173
 go_wp2_with fail
 refine wp_gen (fun W0=>Below w.heap.size w W0∧W0.cell? ⟨w.heap.size+1,0,none⟩=some (.int .i64 0)∧W0.frozen? ⟨w.heap.size+1,0,none⟩=false∧W0.cell? ⟨w.heap.size+1,1,none⟩=some (.int .i64 0)∧W0.frozen? ⟨w.heap.size+1,1,none⟩=false∧W0.cell? ⟨w.heap.size+1,2,none⟩=some (.int .i64 0)∧W0.frozen? ⟨w.heap.size+1,2,none⟩=false∧W0.cell? ⟨w.heap.size+1,3,none⟩=some (.int .i64 0)∧W0.frozen? ⟨w.heap.size+1,3,none⟩=false∧W0.cell? ⟨w.heap.size+1+1,0,none⟩=some (.int .i64 0)∧W0.frozen? ⟨w.heap.size+1+1,0,none⟩=false∧W0.cell? ⟨w.heap.size+1+1,1,none⟩=some (.int .i64 0)∧W0.frozen? ⟨w.heap.size+1+1,1,none⟩=false∧W0.cell? ⟨w.heap.size+1+1,2,none⟩=some (.int .i64 0)∧W0.frozen? ⟨w.heap.size+1+1,2,none⟩=false∧W0.cell? ⟨w.heap.size+1+1,3,none⟩=some (.int .i64 0)∧W0.frozen? ⟨w.heap.size+1+1,3,none⟩=false∧W0.cell? ⟨w.heap.size+1+1+1,0,none⟩=some (.int .i64 (x))∧W0.cell? ⟨w.heap.size+1+1+1,1,none⟩=some (.int .i64 (y))∧W0.cell? ⟨w.heap.size+1+1+1,2,none⟩=some (.int .i64 (mn n u))∧W0.cell? ⟨w.heap.size+1+1+1,3,none⟩=some (.int .i64 (v))∧W0.cell? ⟨w.heap.size+1+1+1+1,0,none⟩=some (.int .i64 (x+mn n u))∧W0.cell? ⟨w.heap.size+1+1+1+1,1,none⟩=some (.int .i64 (y))∧W0.cell? ⟨w.heap.size+1+1+1+1,2,none⟩=some (.int .i64 (u - mn n u))∧W0.cell? ⟨w.heap.size+1+1+1+1,3,none⟩=some (.int .i64 (v))) ⟨(by repeat (first | with_reducible exact Below.refl _ _ | with_reducible assumption | with_reducible refine balloc ?_ | (with_reducible refine bset ?_ ?_;rotate_left;((try dsimp only);omega)) | refine bkeep2 ?_ (by assumption) | with_reducible refine Below.drew ?_)),?_⟩ (fun W0 hW0=>?_)
 ·go_simp
 obtain ⟨hBW,p0,pf0,p1,pf1,p2,pf2,p3,pf3,q0,qf0,q1,qf1,q2,qf2,q3,qf3,r0,r1,r2,r3,s0,s1,s2,s3⟩:=hW0
 go_region
 all_goals go_wp2
 all_goals
  have XA:=box4 (w:=W0) (b:=w.heap.size+1) (.int .i64 (x)) (.int .i64 (y)) (.int .i64 (mn n u)) (.int .i64 (v)) p0 p1 p2 p3
  have XB:=box4 (b:=w.heap.size+1+1) (.int .i64 (x+mn n u)) (.int .i64 (y)) (.int .i64 (u - mn n u)) (.int .i64 (v)) ((XA.2.2.2.2 (w.heap.size+1+1) 0 (by omega)).trans q0) ((XA.2.2.2.2 (w.heap.size+1+1) 1 (by omega)).trans q1) ((XA.2.2.2.2 (w.heap.size+1+1) 2 (by omega)).trans q2) ((XA.2.2.2.2 (w.heap.size+1+1) 3 (by omega)).trans q3)
  refine gen_post (fun wf=>Below w.heap.size w wf∧wf.cell? ⟨w.heap.size+1,0,none⟩=some (.int .i64 (x))∧wf.cell? ⟨w.heap.size+1,1,none⟩=some (.int .i64 (y))∧wf.cell? ⟨w.heap.size+1,2,none⟩=some (.int .i64 (mn n u))∧wf.cell? ⟨w.heap.size+1,3,none⟩=some (.int .i64 (v))∧wf.cell? ⟨w.heap.size+1+1,0,none⟩=some (.int .i64 (x+mn n u))∧wf.cell? ⟨w.heap.size+1+1,1,none⟩=some (.int .i64 (y))∧wf.cell? ⟨w.heap.size+1+1,2,none⟩=some (.int .i64 (u - mn n u))∧wf.cell? ⟨w.heap.size+1+1,3,none⟩=some (.int .i64 (v))) ⟨(by with_reducible refine Below.drew ?_;exact (by repeat (first | with_reducible exact Below.refl _ _ | with_reducible assumption | with_reducible refine balloc ?_ | (with_reducible refine bset ?_ ?_;rotate_left;((try dsimp only);omega)) | refine bkeep2 ?_ (by assumption) | with_reducible refine Below.drew ?_))),celld ((XB.2.2.2.2 (w.heap.size+1) 0 (by omega)).trans XA.1),celld ((XB.2.2.2.2 (w.heap.size+1) 1 (by omega)).trans XA.2.1),celld ((XB.2.2.2.2 (w.heap.size+1) 2 (by omega)).trans XA.2.2.1),celld ((XB.2.2.2.2 (w.heap.size+1) 3 (by omega)).trans XA.2.2.2.1),celld XB.1,celld XB.2.1,celld XB.2.2.1,celld XB.2.2.2.1⟩ (fun wf hwf=>?_)
  clear XA XB;obtain ⟨hBf,z0,z1,z2,z3,z4,z5,z6,z7⟩:=hwf
  exact bodyPost_ret (v:=.tuple #[.agg #[.int .i64 (x),.int .i64 (y),.int .i64 (mn n u),.int .i64 (v)],.agg #[.int .i64 (x+mn n u),.int .i64 (y),.int .i64 (u - mn n u),.int .i64 (v)]]) (by simp only [results,Tryz.results173];go_simp) rfl ⟨rfl,(by repeat (first | with_reducible exact Below.refl _ _ | with_reducible assumption | with_reducible refine balloc ?_ | (with_reducible refine bset ?_ ?_;rotate_left;((try dsimp only);omega)) | refine bkeep2 ?_ (by assumption) | with_reducible refine Below.drew ?_))⟩
theorem scut3_w (x y u v n:Int) (w:World) (h1:vrW x y u v=true) (h2:0≤n) :
  Calls Tryz.prog 173 #[.agg #[.int .i64 (x),.int .i64 (y),.int .i64 (u),.int .i64 (v)],.int .i64 3,.int .i64 n] w fun e w'=>e=.returned (.tuple #[.agg #[.int .i64 (x+(u - mn n u)),.int .i64 (y),.int .i64 (mn n u),.int .i64 (v)],.agg #[.int .i64 (x),.int .i64 (y),.int .i64 (u - mn n u),.int .i64 (v)]])∧Below w.heap.size w w':=by
 obtain ⟨a1,a2,a3,a4,a5,a6,a7,a8⟩:=vrW_iff.1 h1;have g:=mn_spec n u
 have g1:0≤mn n u:=by omega
 have g2:mn n u≤u:=by omega
 clear g
 go_enter Tryz.func173,Tryz.ntmps173
 go_wp2_with fail
 refine wp_gen (fun W0=>Below w.heap.size w W0∧W0.cell? ⟨w.heap.size+1,0,none⟩=some (.int .i64 0)∧W0.frozen? ⟨w.heap.size+1,0,none⟩=false∧W0.cell? ⟨w.heap.size+1,1,none⟩=some (.int .i64 0)∧W0.frozen? ⟨w.heap.size+1,1,none⟩=false∧W0.cell? ⟨w.heap.size+1,2,none⟩=some (.int .i64 0)∧W0.frozen? ⟨w.heap.size+1,2,none⟩=false∧W0.cell? ⟨w.heap.size+1,3,none⟩=some (.int .i64 0)∧W0.frozen? ⟨w.heap.size+1,3,none⟩=false∧W0.cell? ⟨w.heap.size+1+1,0,none⟩=some (.int .i64 0)∧W0.frozen? ⟨w.heap.size+1+1,0,none⟩=false∧W0.cell? ⟨w.heap.size+1+1,1,none⟩=some (.int .i64 0)∧W0.frozen? ⟨w.heap.size+1+1,1,none⟩=false∧W0.cell? ⟨w.heap.size+1+1,2,none⟩=some (.int .i64 0)∧W0.frozen? ⟨w.heap.size+1+1,2,none⟩=false∧W0.cell? ⟨w.heap.size+1+1,3,none⟩=some (.int .i64 0)∧W0.frozen? ⟨w.heap.size+1+1,3,none⟩=false∧W0.cell? ⟨w.heap.size+1+1+1,0,none⟩=some (.int .i64 (x+(u - mn n u)))∧W0.cell? ⟨w.heap.size+1+1+1,1,none⟩=some (.int .i64 (y))∧W0.cell? ⟨w.heap.size+1+1+1,2,none⟩=some (.int .i64 (mn n u))∧W0.cell? ⟨w.heap.size+1+1+1,3,none⟩=some (.int .i64 (v))∧W0.cell? ⟨w.heap.size+1+1+1+1,0,none⟩=some (.int .i64 (x))∧W0.cell? ⟨w.heap.size+1+1+1+1,1,none⟩=some (.int .i64 (y))∧W0.cell? ⟨w.heap.size+1+1+1+1,2,none⟩=some (.int .i64 (u - mn n u))∧W0.cell? ⟨w.heap.size+1+1+1+1,3,none⟩=some (.int .i64 (v))) ⟨(by repeat (first | with_reducible exact Below.refl _ _ | with_reducible assumption | with_reducible refine balloc ?_ | (with_reducible refine bset ?_ ?_;rotate_left;((try dsimp only);omega)) | refine bkeep2 ?_ (by assumption) | with_reducible refine Below.drew ?_)),?_⟩ (fun W0 hW0=>?_)
 ·go_simp
 obtain ⟨hBW,p0,pf0,p1,pf1,p2,pf2,p3,pf3,q0,qf0,q1,qf1,q2,qf2,q3,qf3,r0,r1,r2,r3,s0,s1,s2,s3⟩:=hW0
 go_region
 all_goals go_wp2
 all_goals
  have XA:=box4 (w:=W0) (b:=w.heap.size+1) (.int .i64 (x+(u - mn n u))) (.int .i64 (y)) (.int .i64 (mn n u)) (.int .i64 (v)) p0 p1 p2 p3
  have XB:=box4 (b:=w.heap.size+1+1) (.int .i64 (x)) (.int .i64 (y)) (.int .i64 (u - mn n u)) (.int .i64 (v)) ((XA.2.2.2.2 (w.heap.size+1+1) 0 (by omega)).trans q0) ((XA.2.2.2.2 (w.heap.size+1+1) 1 (by omega)).trans q1) ((XA.2.2.2.2 (w.heap.size+1+1) 2 (by omega)).trans q2) ((XA.2.2.2.2 (w.heap.size+1+1) 3 (by omega)).trans q3)
  refine gen_post (fun wf=>Below w.heap.size w wf∧wf.cell? ⟨w.heap.size+1,0,none⟩=some (.int .i64 (x+(u - mn n u)))∧wf.cell? ⟨w.heap.size+1,1,none⟩=some (.int .i64 (y))∧wf.cell? ⟨w.heap.size+1,2,none⟩=some (.int .i64 (mn n u))∧wf.cell? ⟨w.heap.size+1,3,none⟩=some (.int .i64 (v))∧wf.cell? ⟨w.heap.size+1+1,0,none⟩=some (.int .i64 (x))∧wf.cell? ⟨w.heap.size+1+1,1,none⟩=some (.int .i64 (y))∧wf.cell? ⟨w.heap.size+1+1,2,none⟩=some (.int .i64 (u - mn n u))∧wf.cell? ⟨w.heap.size+1+1,3,none⟩=some (.int .i64 (v))) ⟨(by with_reducible refine Below.drew ?_;exact (by repeat (first | with_reducible exact Below.refl _ _ | with_reducible assumption | with_reducible refine balloc ?_ | (with_reducible refine bset ?_ ?_;rotate_left;((try dsimp only);omega)) | refine bkeep2 ?_ (by assumption) | with_reducible refine Below.drew ?_))),celld ((XB.2.2.2.2 (w.heap.size+1) 0 (by omega)).trans XA.1),celld ((XB.2.2.2.2 (w.heap.size+1) 1 (by omega)).trans XA.2.1),celld ((XB.2.2.2.2 (w.heap.size+1) 2 (by omega)).trans XA.2.2.1),celld ((XB.2.2.2.2 (w.heap.size+1) 3 (by omega)).trans XA.2.2.2.1),celld XB.1,celld XB.2.1,celld XB.2.2.1,celld XB.2.2.2.1⟩ (fun wf hwf=>?_)
  clear XA XB;obtain ⟨hBf,z0,z1,z2,z3,z4,z5,z6,z7⟩:=hwf
  exact bodyPost_ret (v:=.tuple #[.agg #[.int .i64 (x+(u - mn n u)),.int .i64 (y),.int .i64 (mn n u),.int .i64 (v)],.agg #[.int .i64 (x),.int .i64 (y),.int .i64 (u - mn n u),.int .i64 (v)]]) (by simp only [results,Tryz.results173];go_simp) rfl ⟨rfl,(by repeat (first | with_reducible exact Below.refl _ _ | with_reducible assumption | with_reducible refine balloc ?_ | (with_reducible refine bset ?_ ?_;rotate_left;((try dsimp only);omega)) | refine bkeep2 ?_ (by assumption) | with_reducible refine Below.drew ?_))⟩
end
end Go.Proofs.YtenckjdiggaonaaGreat
