import Derived.Test.YtfnpdlnepjhljaaGreatQH09
set_option linter.unusedVariables false
set_option linter.unusedSimpArgs false
set_option maxRecDepth 100000
set_option maxHeartbeats 16000000
namespace Go.Proofs.YtfnpdlnepjhljaaGreat
open Go.RowKit
attribute [local go_sem] kZb kZp kZg
section
attribute [local go_sem 5000] kZk kZj
theorem dZ1 {p:Pk} {r:Rc} (h:p.big) (hr:r.okW):(0≤mn p.px (r.u / 2)∧mn p.px (r.u / 2)≤10)∧(0≤mn p.py (r.v / 2)∧mn p.py (r.v / 2)≤10)∧(0≤mx (r.u-2*p.px) 0∧mx (r.u-2*p.px) 0≤20000000000000)∧(0≤mx (r.v-2*p.py) 0∧mx (r.v-2*p.py) 0≤20000000000000):=by
 obtain ⟨⟨⟨a1,a2⟩,a3,a4⟩,⟨a5,a6⟩,a7,a8⟩:=hr;obtain ⟨_,_,_,_,h5,h6⟩:=h;have m1:=jZz p.px (r.u / 2);have m2:=jZz p.py (r.v / 2);have m3:=kZc (r.u-2*p.px) 0;have m4:=kZc (r.v-2*p.py) 0;omega
theorem inset_W (p:Pk) (r:Rc) (w:World) (h:p.big) (hr:r.okW):Calls Tryz.prog 217 #[.agg #[.int .i64 (r.x),.int .i64 (r.y),.int .i64 (r.u),.int .i64 (r.v)],.int .i64 p.px,.int .i64 p.py] w fun e w'=>e=.returned (.agg #[.int .i64 ((insP r p.px p.py).x),.int .i64 ((insP r p.px p.py).y),.int .i64 ((insP r p.px p.py).u),.int .i64 ((insP r p.px p.py).v)])∧Below w.heap.size w w':=by
 obtain ⟨⟨m1,m2⟩,⟨m3,m4⟩,⟨m5,m6⟩,⟨m7,m8⟩⟩:=dZ1 h hr;obtain ⟨⟨⟨a1,a2⟩,a3,a4⟩,⟨a5,a6⟩,a7,a8⟩:=hr;obtain ⟨_,_,_,_,⟨b1,b2⟩,⟨b3,b4⟩⟩:=h
 have x1:r.x≤1000000000000000:=by omega
 have x2:r.y≤1000000000000000:=by omega
 unfold insP
 dsimp only
 go_enter Tryz.func217,Tryz.ntmps217
 go_wp2
 exact bodyPost_ret (v:=.agg #[.int .i64 (r.x+mn p.px (r.u / 2)),.int .i64 (r.y+mn p.py (r.v / 2)),.int .i64 (mx (r.u-2*p.px) 0),.int .i64 (mx (r.v-2*p.py) 0)]) (by simp only [results,Tryz.results217];go_simp) rfl ⟨rfl,(by repeat (first | with_reducible exact Below.refl _ _ | with_reducible assumption | with_reducible refine jZd ?_|(with_reducible refine bset ?_ ?_;rotate_left;((try dsimp only);omega)) | refine jZa ?_ (by assumption) | with_reducible refine Below.drew ?_))⟩
theorem vZ5 {a k:Int} (h1:0≤a) (h2:a≤20000000000000) (h3:0≤k) (h4:k≤2):0≤a*k∧a*k≤40000000000000:=by
 have e1:=Int.mul_nonneg h1 h3;have e2:a*k≤a*2:=Int.mul_le_mul_of_nonneg_left h4 h1;omega
theorem fZw (x y u v p q k:Int) (w:World) (hx:-1000000000000000≤x∧x≤1000000000000020) (hy:-1000000000000000≤y∧y≤1000000000000020) (hu:0≤u∧u≤20000000000000) (hv:0≤v∧v≤20000000000000) (hp:0≤p∧p≤20000000000000) (hq:0≤q∧q≤20000000000000) (hk:0≤k∧k≤8):Calls Tryz.prog 219 #[.agg #[.int .i64 (x),.int .i64 (y),.int .i64 (u),.int .i64 (v)],.int .i64 p,.int .i64 q,.int .i64 k] w fun e w'=>e=.returned (.agg #[.int .i64 (x+(u-mn p u)*(k % 3) / 2),.int .i64 (y+(v-mn q v)*(k / 3) / 2),.int .i64 (mn p u),.int .i64 (mn q v)])∧Below w.heap.size w w':=by
 have g1:=jZz p u;have g2:=jZz q v;obtain ⟨a1,a2⟩:=hx;obtain ⟨a3,a4⟩:=hy;obtain ⟨a5,a6⟩:=hu;obtain ⟨a7,a8⟩:=hv;obtain ⟨b1,b2⟩:=hp;obtain ⟨b3,b4⟩:=hq;obtain ⟨b5,b6⟩:=hk;obtain ⟨m9,m10⟩:=vZ5 (a:=u-mn p u) (k:=k % 3) (by omega) (by omega) (by omega) (by omega);obtain ⟨m11,m12⟩:=vZ5 (a:=v-mn q v) (k:=k / 3) (by omega) (by omega) (by omega) (by omega)
 have m1:0≤mn p u:=by omega
 have m2:mn p u≤u:=by omega
 have m3:0≤mn q v:=by omega
 have m4:mn q v≤v:=by omega
 have m5:0≤k % 3:=by omega
 have m6:k % 3≤2:=by omega
 have m7:0≤k / 3:=by omega
 have m8:k / 3≤2:=by omega
 clear g1 g2
 go_enter Tryz.func219,Tryz.ntmps219
 go_wp2_with fail
 go_quiet (fail)
 go_wp2
 exact bodyPost_ret (v:=.agg #[.int .i64 (x+(u-mn p u)*(k % 3) / 2),.int .i64 (y+(v-mn q v)*(k / 3) / 2),.int .i64 (mn p u),.int .i64 (mn q v)]) (by simp only [results,Tryz.results219];go_simp) rfl ⟨rfl,(by repeat (first | with_reducible exact Below.refl _ _ | with_reducible assumption | with_reducible refine jZd ?_|(with_reducible refine bset ?_ ?_;rotate_left;((try dsimp only);omega)) | refine jZa ?_ (by assumption) | with_reducible refine Below.drew ?_ | refine belowN ?_ _))⟩
theorem tZa (p:Pk) (r q:Rc) (a b:Int) (w:World) (h:p.big) (hr:r.okW) (hq:q=insP r p.px p.py) (ha:a=p.w∨a=(insP r p.px p.py).u) (hb:b=p.h∨b=(insP r p.px p.py).v) (S:Rc) (hS:ancP (insP r p.px p.py) a b p.an=S) :
  Calls Tryz.prog 219 #[.agg #[.int .i64 (q.x),.int .i64 (q.y),.int .i64 (q.u),.int .i64 (q.v)],.int .i64 a,.int .i64 b,.int .i64 p.an] w fun e w'=>e=.returned (.agg #[.int .i64 (S.x),.int .i64 (S.y),.int .i64 (S.u),.int .i64 (S.v)])∧Below w.heap.size w w':=by
 subst hq hS;have hi:=dZ1 h hr;obtain ⟨⟨⟨a1,a2⟩,a3,a4⟩,⟨a5,a6⟩,a7,a8⟩:=hr;obtain ⟨h1,h2,_,h4,h5,h6⟩:=h
 have ea:0≤a∧a≤20000000000000:=by rcases ha with rfl | rfl <;> (try simp only [insP]) <;> omega
 have eb:0≤b∧b≤20000000000000:=by rcases hb with rfl | rfl <;> (try simp only [insP]) <;> omega
 exact fZw _ _ _ _ _ _ _ _ (by simp only [insP];omega) (by simp only [insP];omega) (by simp only [insP];omega) (by simp only [insP];omega) ea eb h4
theorem inParcel_w (p:Pk) (r:Rc) (w:World) (h:p.big) (hr:r.okW):Calls Tryz.prog 239 #[.agg #[.int .i64 p.w,.int .i64 p.h,.int .i64 p.s,.bool p.fx,.bool p.fy,.bool p.ex,.int .i64 p.an,.int .i64 p.px,.int .i64 p.py],.agg #[.int .i64 (r.x),.int .i64 (r.y),.int .i64 (r.u),.int .i64 (r.v)]] w fun e w'=>e=.returned (.agg #[.int .i64 ((setP p r).x),.int .i64 ((setP p r).y),.int .i64 ((setP p r).u),.int .i64 ((setP p r).v)])∧Below w.heap.size w w':=by
 obtain ⟨S,hS⟩:∃ S,setP p r=S:=⟨_,rfl⟩
 rw [hS];have HS:=hD hS;clear hS
 go_enter Tryz.func239,Tryz.ntmps239
 go_wp2_with fail
 with_reducible refine (inset_W p r _ h hr).mono ?_
 rintro e w1 ⟨rfl,hb1⟩
 have hP1:=(hb1.block w.heap.size (by simp;omega)).trans ((Below.heap_alloc _ (.cells #[.int .i64 0,.int .i64 0,.int .i64 0,.int .i64 0] 32 (0,0)) _ (by simp;omega)).trans ((Below.heap_alloc _ (.cells #[.int .i64 r.x,.int .i64 r.y,.int .i64 r.u,.int .i64 r.v] 32 (0,0)) _ (by simp)).trans (pZo w (.cells #[.int .i64 p.w,.int .i64 p.h,.int .i64 p.s,.bool p.fx,.bool p.fy,.bool p.ex,.int .i64 p.an,.int .i64 p.px,.int .i64 p.py] 37 (0,0)))))
 have hI1:=(hb1.block (w.heap.size+1+1) (by simp)).trans (by have e:=pZo ((w.alloc (.cells #[.int .i64 p.w,.int .i64 p.h,.int .i64 p.s,.bool p.fx,.bool p.fy,.bool p.ex,.int .i64 p.an,.int .i64 p.px,.int .i64 p.py] 37 (0,0))).alloc (.cells #[.int .i64 r.x,.int .i64 r.y,.int .i64 r.u,.int .i64 r.v] 32 (0,0))) (.cells #[.int .i64 0,.int .i64 0,.int .i64 0,.int .i64 0] 32 (0,0));simpa only [World.size_alloc] using e)
 have hB1:Below w.heap.size w w1:=jZa (jZd (jZd (jZd (Below.refl _ _)))) hb1;have hls:w.heap.size+1+1<w1.heap.size:=(gE hI1).1
 obtain ⟨I,hI⟩:∃ I,insP r p.px p.py=I:=⟨_,rfl⟩
 rw [hI];have c0:=qZi hP1 0;have c1:=qZi hP1 1;have c3:=qZi hP1 3;have c4:=qZi hP1 4;have c6:=qZi hP1 6;simp only [List.getElem?_toArray,List.getElem?_cons_zero,List.getElem?_cons_succ] at c0 c1 c3 c4 c6;have HB:=hD hB1;have HX:=hD hI1
 have hl0:w.heap.size<w1.heap.size:=by omega
 have hn0:¬ w.heap.size=w1.heap.size:=by omega
 have HI:=hD hI;clear hP1 hI1 hb1 hB1 hI
 cases hfx:p.fx <;> cases hfy:p.fy
 ·rw [hfx] at c3;rw [hfy] at c4
  go_wp2_with fail
  go_region
  go_wp2_with fail
  refine (tZa p r I p.w p.h _ h hr HI.out.symm (by rw [HI.out];simp) (by rw [HI.out];simp) S (by rw [<- HS.out];unfold setP wP hP;simp [hfx,hfy,HI.out])).mono ?_;rintro e w2 ⟨rfl,hb2⟩;replace HX:=hD ((hb2.block _ (by simp;omega)).trans ((Below.heap_alloc _ _ _ hls).trans HX.out));replace HB:=hD (jZa (Below.drew (jZd HB.out)) hb2);clear hb2 c0 c1 c3 c4 c6 hl0 hn0 hls
  obtain ⟨i0,i1,i2,i3⟩:=kZo HX.out;have g0:=jZl HX.out 0;have g1:=jZl HX.out 1;have g2:=jZl HX.out 2;have g3:=jZl HX.out 3;go_wp2
  refine rZ2 (fun W=>W.heap[w.heap.size+1+1]?=some (.cells #[.int .i64 S.x,.int .i64 S.y,.int .i64 S.u,.int .i64 S.v] 32 (0,0))∧Below w.heap.size w W)
   ⟨qZb HX.out _ _ _ _,pZ0 HB.out (by omega) _ _ _ _ _ _ _ _⟩ ?_
  clear HX HB i0 i1 i2 i3 g0 g1 g2 g3;rintro W ⟨hW,hB2⟩;obtain ⟨r0,r1,r2,r3⟩:=kZo hW;exact bodyPost_ret (v:=.agg #[.int .i64 (S.x),.int .i64 (S.y),.int .i64 (S.u),.int .i64 (S.v)]) (by simp only [results,Tryz.results239];go_simp) rfl ⟨rfl,hB2⟩
 ·rw [hfx] at c3;rw [hfy] at c4
  go_wp2_with fail
  go_region
  go_wp2_with fail
  refine (tZa p r I p.w I.v _ h hr HI.out.symm (by rw [HI.out];simp) (by rw [HI.out];simp) S (by rw [<- HS.out];unfold setP wP hP;simp [hfx,hfy,HI.out])).mono ?_;rintro e w2 ⟨rfl,hb2⟩;replace HX:=hD ((hb2.block _ (by simp;omega)).trans ((Below.heap_alloc _ _ _ hls).trans HX.out));replace HB:=hD (jZa (Below.drew (jZd HB.out)) hb2);clear hb2 c0 c1 c3 c4 c6 hl0 hn0 hls
  obtain ⟨i0,i1,i2,i3⟩:=kZo HX.out;have g0:=jZl HX.out 0;have g1:=jZl HX.out 1;have g2:=jZl HX.out 2;have g3:=jZl HX.out 3;go_wp2
  refine rZ2 (fun W=>W.heap[w.heap.size+1+1]?=some (.cells #[.int .i64 S.x,.int .i64 S.y,.int .i64 S.u,.int .i64 S.v] 32 (0,0))∧Below w.heap.size w W)
   ⟨qZb HX.out _ _ _ _,pZ0 HB.out (by omega) _ _ _ _ _ _ _ _⟩ ?_
  clear HX HB i0 i1 i2 i3 g0 g1 g2 g3;rintro W ⟨hW,hB2⟩;obtain ⟨r0,r1,r2,r3⟩:=kZo hW;exact bodyPost_ret (v:=.agg #[.int .i64 (S.x),.int .i64 (S.y),.int .i64 (S.u),.int .i64 (S.v)]) (by simp only [results,Tryz.results239];go_simp) rfl ⟨rfl,hB2⟩
 ·rw [hfx] at c3;rw [hfy] at c4
  go_wp2_with fail
  go_region
  go_wp2_with fail
  refine (tZa p r I I.u p.h _ h hr HI.out.symm (by rw [HI.out];simp) (by rw [HI.out];simp) S (by rw [<- HS.out];unfold setP wP hP;simp [hfx,hfy,HI.out])).mono ?_;rintro e w2 ⟨rfl,hb2⟩;replace HX:=hD ((hb2.block _ (by simp;omega)).trans ((Below.heap_alloc _ _ _ hls).trans HX.out));replace HB:=hD (jZa (Below.drew (jZd HB.out)) hb2);clear hb2 c0 c1 c3 c4 c6 hl0 hn0 hls
  obtain ⟨i0,i1,i2,i3⟩:=kZo HX.out;have g0:=jZl HX.out 0;have g1:=jZl HX.out 1;have g2:=jZl HX.out 2;have g3:=jZl HX.out 3;go_wp2
  refine rZ2 (fun W=>W.heap[w.heap.size+1+1]?=some (.cells #[.int .i64 S.x,.int .i64 S.y,.int .i64 S.u,.int .i64 S.v] 32 (0,0))∧Below w.heap.size w W)
   ⟨qZb HX.out _ _ _ _,pZ0 HB.out (by omega) _ _ _ _ _ _ _ _⟩ ?_
  clear HX HB i0 i1 i2 i3 g0 g1 g2 g3;rintro W ⟨hW,hB2⟩;obtain ⟨r0,r1,r2,r3⟩:=kZo hW;exact bodyPost_ret (v:=.agg #[.int .i64 (S.x),.int .i64 (S.y),.int .i64 (S.u),.int .i64 (S.v)]) (by simp only [results,Tryz.results239];go_simp) rfl ⟨rfl,hB2⟩
 ·rw [hfx] at c3;rw [hfy] at c4
  go_wp2_with fail
  go_region
  go_wp2_with fail
  refine (tZa p r I I.u I.v _ h hr HI.out.symm (by rw [HI.out];simp) (by rw [HI.out];simp) S (by rw [<- HS.out];unfold setP wP hP;simp [hfx,hfy,HI.out])).mono ?_;rintro e w2 ⟨rfl,hb2⟩;replace HX:=hD ((hb2.block _ (by simp;omega)).trans ((Below.heap_alloc _ _ _ hls).trans HX.out));replace HB:=hD (jZa (Below.drew (jZd HB.out)) hb2);clear hb2 c0 c1 c3 c4 c6 hl0 hn0 hls
  obtain ⟨i0,i1,i2,i3⟩:=kZo HX.out;have g0:=jZl HX.out 0;have g1:=jZl HX.out 1;have g2:=jZl HX.out 2;have g3:=jZl HX.out 3;go_wp2
  refine rZ2 (fun W=>W.heap[w.heap.size+1+1]?=some (.cells #[.int .i64 S.x,.int .i64 S.y,.int .i64 S.u,.int .i64 S.v] 32 (0,0))∧Below w.heap.size w W)
   ⟨qZb HX.out _ _ _ _,pZ0 HB.out (by omega) _ _ _ _ _ _ _ _⟩ ?_
  clear HX HB i0 i1 i2 i3 g0 g1 g2 g3;rintro W ⟨hW,hB2⟩;obtain ⟨r0,r1,r2,r3⟩:=kZo hW;exact bodyPost_ret (v:=.agg #[.int .i64 (S.x),.int .i64 (S.y),.int .i64 (S.u),.int .i64 (S.v)]) (by simp only [results,Tryz.results239];go_simp) rfl ⟨rfl,hB2⟩
end
section
attribute [local go_sem 5000] kZk kZj
theorem eZz (A:Option Addr) (c:Nat) (L:List Pk) (room:Int) (d:Bool) (w:World) (h:PV w A L) (hL:bgL L) (p0:Pk) (r0:List Pk) (hp0:L=p0 :: r0) (hd0:p0.down=d) (hx0:p0.ex=true) (hr:0≤room) (hr':room≤20000000000000) :
  Calls Tryz.prog 243 #[.slice A L.length c,.int .i64 room,.bool d] w fun e w'=>e=.returned (.int .i64 (kZ1 L d room room 0))∧Below w.heap.size w w':=by
 obtain ⟨hok,h7⟩:=id hL;have H0:=hD (And.intro hp0 (And.intro hd0 hx0));have HL:=hD hok;clear hp0 hd0 hx0 hok hL
 obtain ⟨R,hR⟩:∃ R,kZ1 L d room room 0=R:=⟨_,rfl⟩
 rw [hR];have HR:=hD hR;clear hR
 go_enter Tryz.func243,Tryz.ntmps243
 go_wp2_with fail
 go_loopw [1,7,8,14] (fun rm sh n i wr=>∃ (k:Nat) (a b q:Int),k≤L.length∧rm=.int .i64 a∧sh=.int .i64 b∧n=.int .i64 q∧i=.int .i64 k∧kZ1 (L.drop k) d b a q=R∧(-(1000000000020*(k:Int))≤a∧a≤20000000000000)∧(0≤b∧b≤20000000000000)∧(0≤q∧q≤k)∧(1≤k→1≤q)∧Below w.heap.size w wr) (fun _ _ _ i _=>L.length-(intOf i).toNat)
 case atStart=>exact ⟨0,room,room,0,by omega,rfl,rfl,rfl,rfl,HR.out,by omega,by omega,by omega,by omega,Below.refl _ _⟩
 case round =>
  obtain ⟨k,a,b,q,hk,rfl,rfl,rfl,rfl,hS,⟨ha1,ha2⟩,⟨hb1,hb2⟩,⟨hq1,hq2⟩,hkq,hB⟩:=hrel;have HBB:=hD hB;have HS:=hD hS;clear HR hB hS
  by_cases hlt:k<L.length
  ·have hd:decide ((k:Int)<(L.length:Int))=true:=by simpa using hlt
   obtain ⟨g,off,rfl,hg,hp⟩:=(h.keep HBB.out).cells (by omega);obtain ⟨c0,c1,c2,c3,c4,c5,c6,c7,c8⟩:=hp k _ (List.getElem?_eq_getElem hlt);have hget:L[k]?=some L[k]:=List.getElem?_eq_getElem hlt;generalize hx:L[k]=p at *;have hpk:p.big:=HL.out p (List.mem_of_getElem? hget);have nb:=Pk.need_bdW hpk d
   have hfst:k=0→p.down=d∧p.ex=true:=by
    rintro rfl;obtain ⟨e1,e2,e3⟩:=H0.out
    have e4:p=p0:=by rw [e1] at hget;simpa using hget.symm
    rw [e4];exact ⟨e2,e3⟩
   have HG:=hD hget;have HX:=hD hx;have HP:=hD hp;have HPK:=hD hpk;clear hget hx hp hpk
   by_cases hdn:p.down=d
   ·have hne:(p.down != d)=false:=by simp [hdn]
    have heq:(p.down == d)=true:=by simp [hdn]
    have HDN:=hD hdn;have HF:=hD hfst;clear hdn hfst
    cases hex:p.ex
    all_goals
     have HEX:=hD hex;rw [hex] at c5;clear hex
     go_wp2_with fail
     rw [<- HEX.out];refine (eZd p _).mono ?_;rintro e w1 ⟨rfl,hbb⟩;have hv:=(hbb.block wr.heap.size (by simp)).trans (pZo wr _);replace HBB:=hD (HBB.out.trans ((Below.refl wr.heap.size wr).alloc (Nat.le_refl _) _ |>.trans (hbb.mono (by simp)) |>.mono HBB.out.size));have HV:=hD hv;obtain ⟨v0,v1,v2,v3,v4,v5,v6,v7,v8⟩:=b9c hv;clear hbb hv c0 c1 c2 c3 c4 c5 c6 c7 c8
     go_wp2_with fail
     refine (cZc p d _ HPK.out).mono ?_;rintro e w2 ⟨rfl,hbb⟩;have hv:=(hbb.block wr.heap.size (gE HV.out).1).trans HV.out;replace HBB:=hD (HBB.out.trans (hbb.mono HBB.out.size));clear v0 v1 v2 v3 v4 v5 v6 v7 v8;obtain ⟨v0,v1,v2,v3,v4,v5,v6,v7,v8⟩:=b9c hv;rw [HEX.out] at v5;clear hbb hv HV;go_wp2
     go_roundw
    case rel=>exact ⟨k+1,_,_,_,by omega,rfl,rfl,rfl,by go_num,by rw [<- HS.out,pZw HG.out,sZq HDN.out HEX.out],by omega,by omega,by omega,fun _=>hkq (by
     rcases Nat.eq_zero_or_pos k with e | e
     ·have h9:=(HF.out e).2;rw [HEX.out] at h9
      cases h9
     ·exact e),HBB.out⟩
    case measure=>simp [intOf];omega
    case rel=>exact ⟨k+1,_,_,_,by omega,rfl,rfl,rfl,by go_num,by rw [<- HS.out,pZw HG.out,rZ0 HDN.out HEX.out],by omega,by omega,by omega,by omega,HBB.out⟩
    case measure=>simp [intOf];omega
   ·have hne:(p.down != d)=true:=by simpa using hdn
    have heq:(p.down == d)=false:=by simpa using hdn
    have hk1:1≤k:=by
     rcases Nat.eq_zero_or_pos k with e | e
     ·exact absurd (hfst e).1 hdn
     ·exact e
    have hq3:1≤q:=hkq hk1;have HDN:=hD hdn;have pb:=tZi (r:=a-p.need d) (n:=q) (by omega) hq3;have mb:=kZc (a-p.need d) 0
    have m0:0≤mx (a-p.need d) 0:=by omega
    have nb2:=jZz b (mx (a-p.need d) 0 / q)
    have hq0:¬ q=0:=by omega
    clear hdn hfst hkq
    go_wp2_with fail
    refine (eZd p _).mono ?_;rintro e w1 ⟨rfl,hbb⟩;have hv:=(hbb.block wr.heap.size (by simp)).trans (pZo wr _);replace HBB:=hD (HBB.out.trans ((Below.refl wr.heap.size wr).alloc (Nat.le_refl _) _ |>.trans (hbb.mono (by simp)) |>.mono HBB.out.size));have HV:=hD hv;obtain ⟨v0,v1,v2,v3,v4,v5,v6,v7,v8⟩:=b9c hv;clear hbb hv c0 c1 c2 c3 c4 c5 c6 c7 c8
    go_wp2_with fail
    refine (cZc p d _ HPK.out).mono ?_;rintro e w2 ⟨rfl,hbb⟩;replace HBB:=hD (HBB.out.trans (hbb.mono HBB.out.size));clear v0 v1 v2 v3 v4 v5 v6 v7 v8 hbb HV;go_wp2
    go_roundw
    case rel=>exact ⟨k+1,_,_,_,by omega,rfl,rfl,rfl,by go_num,by rw [<- HS.out,pZw HG.out,uZr HDN.out],by omega,by omega,by omega,by omega,HBB.out⟩
    case measure=>simp [intOf];omega
  ·have hd:decide ((k:Int)<(L.length:Int))=false:=by simp;omega
   obtain rfl:k=L.length:=by omega
   have hk1:1≤L.length:=by rw [H0.out.1];simp
   have hq3:1≤q:=hkq hk1;have hSS:=HS.out;rw [List.drop_length] at hSS;have HS2:=hD hSS;have pb:=tZi (r:=a) (n:=q) (by omega) hq3;have mb:=kZc a 0
   have m0:0≤mx a 0:=by omega
   have hq0:¬ q=0:=by omega
   clear hSS HS hkq;go_wp2;go_ret;exact ⟨sZv (by rw [<- HS2.out];rfl),HBB.out⟩
end
section
attribute [local go_sem 5000] kZk kZj
theorem cut_w (z:Rc) (s n:Int) (w:World) (hz:z.okW) (hs:0≤s) (hs':s≤3) (hn:0≤n) :
  Calls Tryz.prog 245 #[.agg #[.int .i64 (z.x),.int .i64 (z.y),.int .i64 (z.u),.int .i64 (z.v)],.int .i64 s,.int .i64 n] w fun e w'=>e=.returned (.tuple #[.agg #[.int .i64 ((cutP z s n).1.x),.int .i64 ((cutP z s n).1.y),.int .i64 ((cutP z s n).1.u),.int .i64 ((cutP z s n).1.v)],.agg #[.int .i64 ((cutP z s n).2.x),.int .i64 ((cutP z s n).2.y),.int .i64 ((cutP z s n).2.u),.int .i64 ((cutP z s n).2.v)]])∧Below w.heap.size w w':=by
 have h:s=0∨s=1∨s=2∨s=3:=by omega
 rcases h with rfl | rfl | rfl | rfl
 ·exact cut0_w z.x z.y z.u z.v n w (Rc.okW_vr hz) hn
 ·exact cut1_w z.x z.y z.u z.v n w (Rc.okW_vr hz) hn
 ·exact cut2_w z.x z.y z.u z.v n w (Rc.okW_vr hz) hn
 ·exact cut3_w z.x z.y z.u z.v n w (Rc.okW_vr hz) hn
theorem share1_w (b off c lf:Nat) (L:List Pk) (p:Pk) (r:List Pk) (z:Rc) (w:World) (e0:L=p :: r) (h:PV w (some ⟨b,off,none⟩) L) (hL:bgL L) (hz:z.okW)
  (hl:w.heap[lf]?=some (.cells #[.int .i64 z.x,.int .i64 z.y,.int .i64 z.u,.int .i64 z.v] 32 (0,0))) :
  Calls Tryz.prog 242 #[.slice (some ⟨b,off,none⟩) L.length c,.pointer (some ⟨lf,0,none⟩)] w fun e w'=>e=.returned (.int .i64 (rZt L z))∧Below w.heap.size w w':=by
 obtain ⟨b',off',eA,hb,hc⟩:=gZv h e0
 injection eA with eA
 injection eA with e1 e2
 subst e1 e2;have hlf:=(gE hl).1;obtain ⟨sb1,sb2⟩:=Rc.size_bdW hz p.down;have HL:=hD hl;have HV:=hD hL
 have hlp:0<L.length:=by rw [e0];simp
 have HE:=hD e0;have HH:=hD h;obtain ⟨l0,l1,l2,l3⟩:=kZo hl;have hne:=Nat.ne_of_lt hlf;obtain ⟨c0,c1,c2,c3,c4,c5,c6,c7,c8⟩:=hc;clear hl h hL e0
 cases hx:p.ex
 ·have HM:=hD (moreOf_no (z:=z) HE.out hx);rw [hx] at c5;clear hx
  go_enter Tryz.func242,Tryz.ntmps242
  go_wp2;go_ret;exact ⟨sZv HM.out.symm,jZd (Below.refl _ _)⟩
 ·have HM:=hD (moreOf_yes (z:=z) HE.out hx);have HX:=hD hx;rw [hx] at c5;clear hx
  go_enter Tryz.func242,Tryz.ntmps242
  go_wp2_with fail
  refine jZg 8 1 (·<8) (by kernel_rfl) (by kernel_rfl) rfl ?_
  iterate 8 (refine jZ3 (fun K hK=>?_);apply Exists.intro;refine ⟨.inl ⟨rfl,fun w' hw'=>?_⟩,?_⟩;(focus ((obtain ⟨hc,hf⟩:=kZi hw'.out);(have hcS:=kZq hw'.out);go_simp <;> first | rfl|(go_at_call 201;exact dZ5 p _ _)|(go_at_call 244;exact size_v z _ _)|(go_at_call 243;exact eZz _ c L _ _ _ (HH.out.keep (jZa (Below.drew (jZd (Below.refl _ _))) hw'.out)) HV.out p r HE.out rfl HX.out sb1 sb2)));(go_simp;refine hK _ ?_;clear hK K))
  refine jZ9 ?_;refine jZ1 (by kernel_rfl) (fun w1 hg1=>?_);refine jZn (i:=8) (by kernel_rfl) rfl rfl ?_;go_simp;refine jZq (by kernel_rfl) ?_;refine kZ0.thn ?_;have HB:=hD (jZa (Below.drew (jZd (Below.refl _ _))) hg1.out);clear hg1 c0 c1 c2 c3 c4 c5 c6 c7 c8 l0 l1 l2 l3;go_wp2;go_ret;exact ⟨sZv HM.out.symm,HB.out⟩
theorem share1_nW (b off c lf n:Nat) (L:List Pk) (p:Pk) (r:List Pk) (z:Rc) (w:World) (hn:n=L.length) (e0:L=p :: r) (h:PV w (some ⟨b,off,none⟩) L) (hL:bgL L) (hz:z.okW)
  (hl:w.heap[lf]?=some (.cells #[.int .i64 z.x,.int .i64 z.y,.int .i64 z.u,.int .i64 z.v] 32 (0,0))) :
  Calls Tryz.prog 242 #[.slice (some ⟨b,off,none⟩) n c,.pointer (some ⟨lf,0,none⟩)] w fun e w'=>e=.returned (.int .i64 (rZt L z))∧Below w.heap.size w w':=by
 subst hn;exact share1_w b off c lf L p r z w e0 h hL hz hl
end
section
attribute [local go_sem 5000] kZk kZj
theorem eZ3 {L:List Pk} (h:bgL L) (k:Nat):bgL (L.drop k):=⟨fun p hp=>h.1 p (List.mem_of_mem_drop hp),by have:=h.2;rw [List.length_drop];omega⟩
theorem eZr (A:Option Addr) (c:Nat) (L:List Pk) (z0:Rc) (w:World) (h:PV w A L) (hcap:L.length≤c) (hL:bgL L) (hz0:z0.okW) (M:List Rc) (Z:Rc) (hM:qZh L z0=(M,Z)) :
  Calls Tryz.prog 238 #[.slice A L.length c,.agg #[.int .i64 (z0.x),.int .i64 (z0.y),.int .i64 (z0.u),.int .i64 (z0.v)]] w fun e w'=>(∃ g,e=.returned (.tuple #[.slice (some ⟨g,0,none⟩) L.length L.length,.agg #[.int .i64 (Z.x),.int .i64 (Z.y),.int .i64 (Z.u),.int .i64 (Z.v)]])∧w.heap.size≤g∧Blk4 w' g M)∧Below w.heap.size w w':=by
 obtain ⟨hok,h7⟩:=id hL
 have hML:M.length=L.length:=by have:=sZe (L:=L) (z:=z0);rw [hM] at this;exact this
 obtain ⟨f,hf,hmk0⟩:=made4
 have hmk:∀ w:World,(Instr.makeSlice 28 (.int .i64 (L.length:Int)) (.int .i64 (L.length:Int))).run Tryz.prog w=.ok (.slice (some ⟨w.heap.size,0,none⟩) L.length L.length) (w.alloc (.cells (f L.length) 32)):=fun w=>hmk0 L.length w (by omega)
 have HOK:=hD hok;have HML:=hD hML;have HVL:=hD hL;have HM:=hD hM;clear hok hML hL hM hmk0
 go_enter Tryz.func238,Tryz.ntmps238
 go_wp2_with fail
 have H0:∀ (i:Nat) (r:Rc),i<0→M[i]?=some r→In4 (f L.length) (i*4) r:=fun i r hi=>absurd hi (by omega)
 have HF:=hD (And.intro (hf L.length) H0);clear H0 hf hmk
 go_loopw [17] (fun i wr=>∃ k:Nat,k≤L.length∧i=.int .i64 k∧(∃ cs:Array Value,wr.heap[w.heap.size+1+1]?=some (.cells cs 32 (0,0))∧cs.size=L.length*4∧∀ i r,i<k→M[i]?=some r→In4 cs (i*4) r) ∧
  (∃ z:Rc,wr.heap[w.heap.size]?=some (.cells #[.int .i64 z.x,.int .i64 z.y,.int .i64 z.u,.int .i64 z.v] 32 (0,0))∧z.okW∧qZh (L.drop k) z=(M.drop k,Z)) ∧
  wr.heap[w.heap.size+1]?=some (.cells #[.int .i64 0,.int .i64 0,.int .i64 0,.int .i64 0] 32 (0,0))∧Below w.heap.size w wr) (fun i _=>L.length-(intOf i).toNat)
 case atStart =>
  refine ⟨0,by omega,rfl,⟨_,?_,HF.out.1,HF.out.2⟩,⟨z0,?_,hz0,HM.out⟩,?_,jZd (jZd (jZd (Below.refl _ _)))⟩
  ·have e:=pZo ((w.alloc (.cells #[.int .i64 z0.x,.int .i64 z0.y,.int .i64 z0.u,.int .i64 z0.v] 32)).alloc (.cells #[.int .i64 0,.int .i64 0,.int .i64 0,.int .i64 0] 32)) (.cells (f L.length) 32)
   simpa only [World.size_alloc] using e
  ·rw [Below.heap_alloc _ _ _ (by simp;omega),Below.heap_alloc _ _ _ (by simp)];exact pZo _ _
  ·rw [Below.heap_alloc _ _ _ (by simp)];have e:=pZo (w.alloc (.cells #[.int .i64 z0.x,.int .i64 z0.y,.int .i64 z0.u,.int .i64 z0.v] 32)) (.cells #[.int .i64 0,.int .i64 0,.int .i64 0,.int .i64 0] 32)
   simpa only [World.size_alloc] using e
 case round =>
  obtain ⟨k,hk,rfl,⟨cs,hh,hs,hc⟩,⟨z,hl,hz,hp⟩,hr,hB⟩:=hrel;clear HF HM
  by_cases hlt:k<L.length
  ·have hd:decide ((k:Int)<(L.length:Int))=true:=by simpa using hlt
   obtain ⟨b,off,rfl,hb,hps⟩:=(h.keep hB).cells (by omega);obtain ⟨c0,c1,c2,c3,c4,c5,c6,c7,c8⟩:=hps k _ (List.getElem?_eq_getElem hlt);have hget:L[k]?=some L[k]:=List.getElem?_eq_getElem hlt;generalize hx:L[k]=p at *;have hpk:p.big:=HOK.out p (List.mem_of_getElem? hget);have hdrop:=pZw hget
   obtain ⟨tk1,tk2⟩:=tZd (p:=p) (r:=L.drop (k+1)) (z:=z) (fun q hq=>HOK.out q (List.mem_of_mem_drop (by rw [hdrop];exact hq:q∈L.drop k))) hz
   have hw6:IntKind.i64.wrap (p.need p.down+rZt (L.drop k) z)=pZt p (L.drop (k+1)) z:=by
    rw [hdrop];exact IntWalk.i64_in _ (by unfold pZt at tk1 tk2;omega)
   obtain ⟨b1,b2,⟨b3,b4⟩,b5⟩:=(show ((0≤p.w∧p.w≤1000000000000)∧(0≤p.h∧p.h≤1000000000000)∧(0≤p.s∧p.s≤3)∧(0≤p.an∧p.an≤8)∧(0≤p.px∧p.px≤10)∧(0≤p.py∧p.py≤10)) from hpk)
   have hdl:L.length-k=(L.drop k).length:=by rw [List.length_drop]
   have HG:=hD hget;have HX:=hD hx;have HH:=hD hh;have HS:=hD hs;have HC:=hD hc;have HL:=hD hl;have HZ:=hD hz;have HP:=hD hp;have HR:=hD hr;have HBB:=hD hB;have HPS:=hD hps;have HPK:=hD hpk;have HD:=hD hdrop;have HDL:=hD hdl;obtain ⟨l0,l1,l2,l3⟩:=kZo hl;have hll:=(gE hl).1;have hln:=Nat.ne_of_lt hll;clear hget hx hh hs hc hl hz hp hr hB hps hpk hdrop hdl b1 b2 b5
   go_wp2_with fail
   have hkL:k≤L.length:=by omega
   have hLk:¬ L.length=k:=by omega
   refine jZg 14 1 (·<14) (by kernel_rfl) (by kernel_rfl) rfl ?_
   iterate 14 (refine jZ3 (fun K hK=>?_);apply Exists.intro;refine ⟨.inl ⟨rfl,fun w' hw'=>?_⟩,?_⟩;(focus ((obtain ⟨hc,hf⟩:=kZi hw'.out);(have hcS:=kZq hw'.out);go_simp <;> first | rfl|(go_at_call 201;exact dZ5 p _ _)|(go_at_call 241;exact cZc p _ _ HPK.out)|(go_at_call 242;exact share1_nW _ _ _ _ _ (L.drop k) p _ z _ HDL.out HD.out ((PV.drop HPS.out hb).keep (jZa (Below.drew (jZd (Below.refl _ _))) hw'.out)) (eZ3 HVL.out k) HZ.out (((jZa (Below.drew (jZd (Below.refl _ _))) hw'.out).block _ hll).trans HL.out))));(go_simp;refine hK _ ?_;clear hK K))
   refine jZ9 ?_;refine jZ1 (by kernel_rfl) (fun w1 hg1=>?_);refine jZn (i:=14) (by kernel_rfl) rfl rfl ?_;go_simp;refine jZq (by kernel_rfl) ?_;refine kZ0.thn ?_;have hgl:=hg1.out;have hB1:Below wr.heap.size wr w1:=jZa (Below.drew (jZd (Below.refl _ _))) hgl
   have hv1:=(hgl.block wr.heap.size (by simp)).trans (pZo wr (.cells #[.int .i64 p.w,.int .i64 p.h,.int .i64 p.s,.bool p.fx,.bool p.fy,.bool p.ex,.int .i64 p.an,.int .i64 p.px,.int .i64 p.py] 37));have HV:=hD hv1;have HB1:=hD hB1;replace HL:=hD ((hB1.block _ hll).trans HL.out);have hgg:w.heap.size+1+1<wr.heap.size:=(gE HH.out).1
   have hrr:w.heap.size+1<wr.heap.size:=by omega
   replace HH:=hD ((hB1.block _ hgg).trans HH.out);replace HR:=hD ((hB1.block _ hrr).trans HR.out);obtain ⟨m0,m1,m2,m3⟩:=kZo HL.out;have m4:w1.cell? ⟨wr.heap.size,2,none⟩=some (.int .i64 p.s):=qZi hv1 2;clear hgl hB1 hv1 hg1 c0 c1 c2 c3 c4 c5 c6 c7 c8 l0 l1 l2 l3 hw6
   go_wp2_with fail
   with_reducible refine (cut_w z p.s (pZt p (L.drop (k+1)) z) _ HZ.out b3 b4 tk1).mono ?_
   rintro e w2 ⟨rfl,hb2⟩;clear m0 m1 m2 m3 m4 HV
   obtain ⟨P,hP⟩:∃ P,cutP z p.s (pZt p (L.drop (k+1)) z)=P:=⟨_,rfl⟩
   rw [hP];have hok2:=sZi (s:=p.s) (n:=pZt p (L.drop (k+1)) z) HZ.out tk1;obtain ⟨hst1,hst2⟩:=sZd HG.out HP.out;rw [hP] at hst1 hst2 hok2;have HST1:=hD hst1;have HST2:=hD hst2;have HOK2:=hD hok2.2;have hs1:=HB1.out.size;replace HL:=hD ((hb2.block _ (by omega)).trans HL.out);replace HH:=hD ((hb2.block _ (by omega)).trans HH.out);replace HR:=hD ((hb2.block _ (by omega)).trans HR.out)
   replace HBB:=hD ((HBB.out.trans (HB1.out.mono HBB.out.size)).trans (hb2.mono (by have:=HBB.out.size;omega)));clear hP hst1 hst2 hok2 hb2 HB1 hs1 hgg hrr hll hln
   have hsz:k*4+4≤cs.size:=by rw [HS.out];omega
   obtain ⟨y0,d0⟩:=vZ1 HH.out (i:=k*4) (by omega);obtain ⟨y1,d1⟩:=vZ1 HH.out (i:=k*4+1) (by omega);obtain ⟨y2,d2⟩:=vZ1 HH.out (i:=k*4+2) (by omega);obtain ⟨y3,d3⟩:=vZ1 HH.out (i:=k*4+3) (by omega);have f0:=jZl HH.out (k*4);have f1:=jZl HH.out (k*4+1);have f2:=jZl HH.out (k*4+2);have f3:=jZl HH.out (k*4+3);obtain ⟨l0,l1,l2,l3⟩:=kZo HL.out;have g0:=jZl HL.out 0
   have g1:=jZl HL.out 1;have g2:=jZl HL.out 2;have g3:=jZl HL.out 3
   have n1:¬ w.heap.size+1+1=w.heap.size:=by omega
   have n2:¬ w.heap.size=w.heap.size+1+1:=by omega
   have E1:=hD ((qZ6 (b:=w.heap.size) (b':=w.heap.size+1+1) n1 0 1 2 3 (.int .i64 P.2.x) (.int .i64 P.2.y) (.int .i64 P.2.u) (.int .i64 P.2.v)).trans (pput4 HH.out (k*4) P.1))
   have E2:=hD (qZb ((qZ6 (b:=w.heap.size+1+1) (b':=w.heap.size) n2 (k*4) (k*4+1) (k*4+2) (k*4+3) (.int .i64 P.1.x) (.int .i64 P.1.y) (.int .i64 P.1.u) (.int .i64 P.1.v)).trans HL.out) (.int .i64 P.2.x) (.int .i64 P.2.y) (.int .i64 P.2.u) (.int .i64 P.2.v))
   have E3:=hD ((qZ6 (b:=w.heap.size) (b':=w.heap.size+1) (by omega) 0 1 2 3 (.int .i64 P.2.x) (.int .i64 P.2.y) (.int .i64 P.2.u) (.int .i64 P.2.v)).trans ((qZ6 (b:=w.heap.size+1+1) (b':=w.heap.size+1) (by omega) (k*4) (k*4+1) (k*4+2) (k*4+3) (.int .i64 P.1.x) (.int .i64 P.1.y) (.int .i64 P.1.u) (.int .i64 P.1.v)).trans HR.out))
   have E4:=hD (pZ0 (pZ0 HBB.out (b:=w.heap.size+1+1) (by omega) (k*4) (k*4+1) (k*4+2) (k*4+3) (.int .i64 P.1.x) (.int .i64 P.1.y) (.int .i64 P.1.u) (.int .i64 P.1.v)) (b:=w.heap.size) (by omega) 0 1 2 3 (.int .i64 P.2.x) (.int .i64 P.2.y) (.int .i64 P.2.u) (.int .i64 P.2.v));go_wp2
   go_roundw
   case rel=>exact ⟨k+1,by omega,by go_num,⟨_,E1.out,(rZ1 _ _ _).trans HS.out,fun i q hi hq=>by
    by_cases e:i=k
    ·subst e
     obtain rfl:P.1=q:=by have:=HST1.out;rw [this] at hq;exact Option.some.inj hq
     exact In4.write P.1 hsz
    ·exact (HC.out i q (by omega) hq).keep (.inl (by omega))⟩,⟨P.2,E2.out,HOK2.out,HST2.out⟩,E3.out,E4.out⟩
   case measure=>simp [intOf];omega
  ·have hd:decide ((k:Int)<(L.length:Int))=false:=by simp;omega
   obtain rfl:k=L.length:=by omega
   rw [List.drop_length] at hp
   have hpz:z=Z:=by simp only [qZh,Prod.mk.injEq] at hp;exact hp.2
   subst hpz;have HBK:=hD (show Blk4 wr (w.heap.size+1+1) M from ⟨cs,hh,by rw [hs,HML.out],fun i r hi=>hc i r (by have:=(List.getElem?_eq_some_iff.1 hi).1;rw [HML.out] at this;exact this) hi⟩);have HL:=hD hl;have HR:=hD hr;have HBB:=hD hB;obtain ⟨l0,l1,l2,l3⟩:=kZo hl;clear hh hs hc hl hp hr hB;obtain ⟨r0,r1,r2,r3⟩:=kZo HR.out;have g0:=jZl HR.out 0;have g1:=jZl HR.out 1
   have g2:=jZl HR.out 2;have g3:=jZl HR.out 3
   go_wp2_with fail
   go_region
   go_wp2
   refine rZ2 (fun W=>W.heap[w.heap.size+1]?=some (.cells #[.int .i64 z.x,.int .i64 z.y,.int .i64 z.u,.int .i64 z.v] 32 (0,0))∧Blk4 W (w.heap.size+1+1) M∧Below w.heap.size w W)
    ⟨qZb HR.out _ _ _ _,HBK.out.far (by omega) _ _ _ _ _ _ _ _,Below.drew (pZ0 HBB.out (by omega) _ _ _ _ _ _ _ _)⟩ ?_
   clear HR HL HBB HBK l0 l1 l2 l3 r0 r1 r2 r3 g0 g1 g2 g3;rintro W ⟨hW,hk2,hB2⟩;obtain ⟨r0,r1,r2,r3⟩:=kZo hW;exact bodyPost_ret (v:=.tuple #[.slice (some ⟨w.heap.size+1+1,0,none⟩) L.length L.length,.agg #[.int .i64 (z.x),.int .i64 (z.y),.int .i64 (z.u),.int .i64 (z.v)]]) (by simp only [results,Tryz.results238];go_simp) rfl ⟨⟨_,rfl,by omega,hk2⟩,hB2⟩
end
theorem bZs:∀ {L:List Pk} {z:Rc},(∀ p∈L,p.big)→z.okW→∀ r∈(qZh L z).1,r.okW
 | [],z,_,_,r,hr=>by simp [qZh] at hr
 | p :: t,z,hL,hz,r,hr=>by
  have tk:=tZd hL hz;have hc:=sZi (s:=p.s) (n:=pZt p t z) hz tk.1;simp only [qZh,List.mem_cons] at hr
  rcases hr with rfl | hr
  ·exact hc.1
  ·exact bZs (fun q hq=>hL q (List.mem_cons_of_mem _ hq)) hc.2 r hr
theorem gZ3 (A:Option Addr) (c:Nat) (L:List Pk) (z0:Rc) (w:World) (h:PV w A L) (hcap:L.length≤c) (hL:bgL L) (hz0:z0.okW) (M:List Rc) (Z:Rc) (hM:qZh L z0=(M,Z)) :
  Calls Tryz.prog 236 #[.slice A L.length c,.agg #[.int .i64 (z0.x),.int .i64 (z0.y),.int .i64 (z0.u),.int .i64 (z0.v)]] w fun e w'=>(∃ g,e=.returned (.slice (some ⟨g,0,none⟩) L.length L.length)∧w.heap.size≤g∧Blk4 w' g (setL L M))∧Below w.heap.size w w':=by
 obtain ⟨hok,h7⟩:=id hL
 have hML:M.length=L.length:=by have:=sZe (L:=L) (z:=z0);rw [hM] at this;exact this
 have hMok:∀ r∈M,r.okW:=by have:=bZs (L:=L) (z:=z0) hok hz0;rw [hM] at this;exact this
 have HOK:=hD hok;have HML:=hD hML;have HMK:=hD hMok;have HM:=hD hM;clear hok hML hM hMok
 go_enter Tryz.func236,Tryz.ntmps236
 go_wp2_with fail
 refine (eZr A c L z0 _ (h.keep (jZd (Below.refl _ _))) hcap hL hz0 M Z HM.out).mono ?_;rintro e w1 ⟨⟨g,rfl,hg,hk⟩,hb⟩;have HB0:=hD (jZa (jZd (Below.refl _ _)) hb)
 replace hg:w.heap.size≤g:=by simp only [World.size_alloc] at hg;omega
 have HK0:=hD hk;clear hb hk
 go_wp2_with fail
 go_loopw [17] (fun i wr=>∃ k:Nat,k≤L.length∧i=.int .i64 k∧(∃ cs:Array Value,wr.heap[g]?=some (.cells cs 32 (0,0))∧cs.size=L.length*4∧(∀ i r,i<k→(setL L M)[i]?=some r→In4 cs (i*4) r)∧(∀ i r,k≤i→M[i]?=some r→In4 cs (i*4) r))∧Below w.heap.size w wr) (fun i _=>L.length-(intOf i).toNat)
 case atStart =>
  obtain ⟨cs,hh,hs,hc⟩:=HK0.out.keep (jZd (Below.refl _ _));exact ⟨0,by omega,rfl,⟨cs,hh,by rw [hs,HML.out],fun i r hi=>absurd hi (by omega),fun i r _ hr=>hc i r hr⟩,jZd HB0.out⟩
 case round =>
  obtain ⟨k,hk,rfl,⟨cs,hh,hs,hc,hc'⟩,hB⟩:=hrel;clear HK0 HB0 HM
  by_cases hlt:k<L.length
  ·have hd:decide ((k:Int)<(L.length:Int))=true:=by simpa using hlt
   obtain ⟨b,off,rfl,hb,hps⟩:=(h.keep hB).cells (by omega);have hget:L[k]?=some L[k]:=List.getElem?_eq_getElem hlt;obtain ⟨c0,c1,c2,c3,c4,c5,c6,c7,c8⟩:=hps k _ hget;generalize hx:L[k]=p at *
   have hkM:k<M.length:=by rw [HML.out];exact hlt
   have hgetM:M[k]?=some M[k]:=List.getElem?_eq_getElem hkM;obtain ⟨r0,r1,r2,r3⟩:=(hc' k _ (by omega) hgetM).cells hh;generalize hy:M[k]=r at *;have HR:=hD (HMK.out r (List.mem_of_getElem? hgetM));have HP:=hD (HOK.out p (List.mem_of_getElem? hget));have HG:=hD (hZy hget hgetM);have HH:=hD hh;have HS:=hD hs;have HC:=hD hc;have HC':=hD hc';have HBB:=hD hB;have hgl:g<wr.heap.size:=(gE hh).1
   have hgn:¬ g=wr.heap.size:=by omega
   clear hget hx hgetM hy hh hs hc hc' hB hps
   go_wp2_with fail
   refine jZg 9 1 (·<9) (by kernel_rfl) (by kernel_rfl) rfl ?_
   iterate 9 (refine jZ3 (fun K hK=>?_);apply Exists.intro;refine ⟨.inl ⟨rfl,fun w' hw'=>?_⟩,?_⟩;(focus ((obtain ⟨hc,hf⟩:=kZi hw'.out);(have hcS:=kZq hw'.out);go_simp <;> first | rfl|(go_at_call 239;exact inParcel_w p r _ HP.out HR.out)));(go_simp;refine hK _ ?_;clear hK K))
   refine jZ9 ?_;refine jZ1 (by kernel_rfl) (fun w2 hg2=>?_);have hB2:Below wr.heap.size wr w2:=sZz (Below.drew (jZd (Below.refl _ _))) hg2;replace HH:=hD ((hB2.block _ hgl).trans HH.out);replace HBB:=hD (HBB.out.trans (hB2.mono HBB.out.size));clear hg2 hB2 c0 c1 c2 c3 c4 c5 c6 c7 c8 r0 r1 r2 r3 hgl hgn
   have hsz:k*4+4≤cs.size:=by rw [HS.out];omega
   obtain ⟨y0,d0⟩:=vZ1 HH.out (i:=k*4) (by omega);obtain ⟨y1,d1⟩:=vZ1 HH.out (i:=k*4+1) (by omega);obtain ⟨y2,d2⟩:=vZ1 HH.out (i:=k*4+2) (by omega);obtain ⟨y3,d3⟩:=vZ1 HH.out (i:=k*4+3) (by omega);have f0:=jZl HH.out (k*4);have f1:=jZl HH.out (k*4+1);have f2:=jZl HH.out (k*4+2);have f3:=jZl HH.out (k*4+3)
   obtain ⟨S,hS⟩:∃ S,setP p r=S:=⟨_,rfl⟩
   rw [hS];replace HG:Hid ((setL L M)[k]?=some S):=hD (by rw [<- hS];exact HG.out);have E1:=hD (pput4 HH.out (k*4) S);have E2:=hD (pZ0 HBB.out hg (k*4) (k*4+1) (k*4+2) (k*4+3) (.int .i64 S.x) (.int .i64 S.y) (.int .i64 S.u) (.int .i64 S.v));clear hS HH HBB;refine jZn (i:=9) (by kernel_rfl) rfl rfl ?_;go_simp;refine jZq (by kernel_rfl) ?_;refine qZp ?_;go_wp2
   go_roundw
   case rel=>exact ⟨k+1,by omega,by go_num,⟨_,E1.out,(rZ1 _ _ _).trans HS.out,fun i q hi hq=>by
    by_cases e:i=k
    ·subst e
     obtain rfl:S=q:=by have:=HG.out;rw [this] at hq;exact Option.some.inj hq
     exact In4.write S hsz
    ·exact (HC.out i q (by omega) hq).keep (.inl (by omega)),fun i q hi hq=>(HC'.out i q (by omega) hq).keep (.inr (by omega))⟩,E2.out⟩
   case measure=>simp [intOf];omega
  ·have hd:decide ((k:Int)<(L.length:Int))=false:=by simp;omega
   obtain rfl:k=L.length:=by omega
   have HK:=hD (show Blk4 wr g (setL L M) from ⟨cs,hh,by rw [hs,uZy HML.out],fun i r hr=>hc i r (by have:=(List.getElem?_eq_some_iff.1 hr).1;rwa [uZy HML.out] at this) hr⟩);have HBB:=hD hB;clear hh hs hc hc' hB;go_wp2;go_ret;exact ⟨⟨_,rfl,hg,HK.out⟩,HBB.out⟩
def edP (S:List Int) (k:Nat):List Int:=(List.range (S.length+1)).map fun i=>if i≤k then sumI (S.take i) else 0
def edL (S:List Int):List Int:=(List.range (S.length+1)).map fun i=>sumI (S.take i)
theorem edP_len (S:List Int) (k:Nat):(edP S k).length=S.length+1:=by simp [edP]
theorem gZw (S:List Int):(edL S).length=S.length+1:=by simp [edL]
theorem edP_zero (S:List Int):List.replicate (S.length+1) 0=edP S 0:=by
 apply List.ext_getElem
 ·simp [edP]
 ·intro i h1 h2;simp only [edP,List.getElem_map,List.getElem_range,List.getElem_replicate]
  split
  ·rename_i h
   obtain rfl:i=0:=by omega
   simp [sumI]
  ·rfl
theorem edP_end (S:List Int):edP S S.length=edL S:=by
 apply List.ext_getElem
 ·simp [edP,edL]
 ·intro i h1 h2;simp only [edP,edL,List.getElem_map,List.getElem_range];rw [if_pos]
  simp [edP] at h1
  omega
theorem edP_get {S:List Int} {k i:Nat} (hi:i≤S.length):(edP S k)[i]?=some (if i≤k then sumI (S.take i) else 0):=by
 rw [List.getElem?_eq_getElem (by rw [edP_len];omega)]
 simp [edP]
theorem dZ2 {S:List Int} {i:Nat} (hi:i≤S.length):(edL S)[i]?=some (sumI (S.take i)):=by
 rw [List.getElem?_eq_getElem (by rw [gZw];omega)]
 simp [edL]
theorem edP_set {S:List Int} {k:Nat} (hk:k<S.length):(edP S k).set (k+1) (sumI (S.take (k+1)))=edP S (k+1):=by
 apply List.ext_getElem
 ·simp [edP]
 ·intro i h1 h2;rw [List.getElem_set];simp only [edP,List.getElem_map,List.getElem_range]
  split
  ·rename_i h
   subst h;rw [if_pos (Nat.le_refl _)]
  ·rename_i h
   by_cases h3:i≤k
   ·rw [if_pos h3,if_pos (by omega)]
   ·rw [if_neg h3,if_neg (by omega)]
theorem eZs {Q:Exit→Act→World→Prop} {a:Act} {w:World} (h:Q .normal a w):kZ0 Q .normal a w:=h
theorem gZo (A:Option Addr) (c n:Nat) (S:List Int) (w:World) (h:NV w A S) (hn:n=S.length) (h5:S.length≤8) (hM:Smal 1000000000000000 S) :
  Calls Tryz.prog 214 #[.slice A n c] w fun e w'=>e=.returned (.slice (some ⟨w.heap.size,0,none⟩) (n+1) (n+1))∧IB w' w.heap.size (edL S)∧Below w.heap.size w w':=by
 have hmk:∀ w:World,(Instr.makeSlice 47 (.int .i64 ((n:Int)+1)) (.int .i64 ((n:Int)+1))).run Tryz.prog w=.ok (.slice (some ⟨w.heap.size,0,none⟩) (n+1) (n+1)) (w.alloc (.cells (pZn (List.replicate (n+1) 0)) 3)):=fun w=>gZ2 (n+1) w (by omega)
 have HM:=hD hM;subst hn
 have hi0:IB (w.alloc (.cells (pZn (List.replicate (S.length+1) 0)) 3)) w.heap.size (edP S 0):=by rw [<- edP_zero];exact vZe _ w
 have HI:=hD hi0;have HB:=hD (jZd (o:=(.cells (pZn (List.replicate (S.length+1) 0)) 3)) (Below.refl w.heap.size w));have HH:=hD h;clear hM hi0 h
 obtain ⟨n,hn⟩:∃ n,S.length=n:=⟨_,rfl⟩
 rw [hn] at hmk h5;have HN:=hD hn;rw [show S.length=n from hn]
 go_enter Tryz.func214,Tryz.ntmps214
 go_wp2_with fail
 go_loopw [11] (fun i wr=>∃ k:Nat,k≤n∧i=.int .i64 k∧IB wr w.heap.size (edP S k)∧Below w.heap.size w wr) (fun i _=>n-(intOf i).toNat)
 case atStart=>exact ⟨0,by omega,rfl,by rw [<- HN.out];exact HI.out,by rw [<- HN.out];exact HB.out⟩
 case round =>
  obtain ⟨k,hk,rfl,hi,hB⟩:=hrel;clear HI HB
  by_cases hlt:k<n
  ·have hd:decide ((k:Int)<(n:Int))=true:=by simpa using hlt
   have hlS:k<S.length:=by omega
   obtain ⟨b,off,rfl,hb,hp⟩:=(HH.out.keep hB).cells (by omega);have hget:S[k]?=some S[k]:=List.getElem?_eq_getElem hlS;have c0:=hp k _ hget;have hs:=uZn hget;have b1:=HM.out k;have b2:=HM.out (k+1);rw [hs] at b2;have hset:=hi.set (k+1) (sumI (S.take (k+1)));rw [edP_set hlS,hs] at hset;generalize S[k]=x at *;have d0:=hi.cell (edP_get (S:=S) (k:=k) (i:=k) (by omega))
   rw [if_pos (Nat.le_refl _)] at d0;have d1:=hi.cell (edP_get (S:=S) (k:=k) (i:=k+1) (by omega));rw [if_neg (by omega)] at d1;have f1:=hi.frozen (k+1)
   obtain ⟨t,ht⟩:∃ t,sumI (S.take k)=t:=⟨_,rfl⟩
   rw [ht] at d0 b1 b2 hset;have hlg:=hi.lt
   have i1:(k:Int)<(n:Int)+1:=by omega
   have i2:(k:Int)+1<(n:Int)+1:=by omega
   have i3:(0:Int)≤(k:Int)+1:=by omega
   have i4:((k:Int)+1).toNat=k+1:=by omega
   have m1:IntKind.i64.wrap ((k:Int)+1)=(k:Int)+1:=IntWalk.i64_in _ (by omega);have m2:IntKind.i64.wrap (t+x)=t+x:=IntWalk.i64_in _ (by omega);have HI:=hD hi;have HB:=hD hB;have HT:=hD (And.intro ht hs);clear hi hB hp hget ht hs hset hn
   go_wp2_with fail
   refine jZg 13 1 (·<13) (by kernel_rfl) (by kernel_rfl) rfl ?_
   iterate 13 (refine jZ3 (fun K hK=>?_);first|(refine kZr rfl ?_;go_simp;refine hK _ ?_;clear hK K)|(apply Exists.intro;refine ⟨.inl ⟨rfl,fun w' hw'=>?_⟩,?_⟩;(focus ((obtain ⟨hc,hf⟩:=kZi hw'.out);(have hcS:=kZq hw'.out);go_simp <;> first | rfl | fail));(go_simp;refine hK _ ?_;clear hK K)))
   refine jZ9 ?_;refine jZ1 (by kernel_rfl) (fun w8 hg8=>?_);have hb8:=jZs hg8.out;obtain ⟨hc8,hf8⟩:=kZi hb8;refine jZn (i:=13) (by kernel_rfl) rfl rfl ?_;go_simp;refine jZq (by kernel_rfl) ?_;refine eZs ?_;clear hc8 hf8;clear hg8;have hi2:=(HI.out.keep hb8).set (k+1) (t+x);have e2:=edP_set hlS;rw [HT.out.2,HT.out.1] at e2;rw [e2] at hi2;replace HI:=hD hi2
   replace HB:=hD ((jZa HB.out hb8).setCell (p:=⟨w.heap.size,k+1,none⟩) (Nat.le_refl _) (.int .i64 (t+x)));clear hi2 e2 hb8 c0 d0 d1 f1;go_wp2
   go_roundw
   case rel=>exact ⟨k+1,by omega,by go_num,HI.out,HB.out⟩
   case measure=>simp [intOf];omega
  ·have hd:decide ((k:Int)<(n:Int))=false:=decide_eq_false (by omega)
   obtain rfl:k=n:=by omega
   rw [<- HN.out,edP_end] at hi;have HI:=hD hi;have HB:=hD hB;clear hi hB hn;go_wp2;go_ret;exact ⟨rfl,HI.out,HB.out⟩
structure Re where
 x:Int
 y:Int
 u:Int
 v:Int
def jZr (p:Re):List Value:=[.int .i64 p.x,.int .i64 p.y,.int .i64 p.u,.int .i64 p.v]
structure ReV (w:World) (A:Option Addr) (L:List Re):Prop where
 cells:0<L.length→∃ b off,A=some ⟨b,off,none⟩∧b<w.heap.size∧∀ i p,L[i]?=some p→w.cell? ⟨b,off+i*4,none⟩=some (.int .i64 p.x)∧w.cell? ⟨b,off+i*4+1,none⟩=some (.int .i64 p.y)∧w.cell? ⟨b,off+i*4+2,none⟩=some (.int .i64 p.u)∧w.cell? ⟨b,off+i*4+3,none⟩=some (.int .i64 p.v)
theorem ReV.keep {w w':World} {A:Option Addr} {L:List Re} (h:ReV w A L) (hb:Below w.heap.size w w'):ReV w' A L :=
 ⟨fun h0=>let ⟨b,off,e,hl,hp⟩:=h.cells h0;⟨b,off,e,Nat.lt_of_lt_of_le hl hb.size,fun i p hi=>by
  obtain ⟨c0,c1,c2,c3⟩:=hp i p hi
  exact ⟨(hb.cell (p:=⟨b,off+i*4,none⟩) hl).trans c0,(hb.cell (p:=⟨b,off+i*4+1,none⟩) hl).trans c1,(hb.cell (p:=⟨b,off+i*4+2,none⟩) hl).trans c2,(hb.cell (p:=⟨b,off+i*4+3,none⟩) hl).trans c3⟩⟩⟩
def ReB (w:World) (g:Nat) (L:List Re):Prop:=∃ cs:Array Value,w.heap[g]?=some (.cells cs 32 (0,0))∧cs.size=L.length*4∧∀ i p,L[i]?=some p→InS cs (i*4) (jZr p)
theorem ReB.v {w:World} {g:Nat} {L:List Re} (h:ReB w g L):ReV w (some ⟨g,0,none⟩) L:=by
 obtain ⟨cs,hh,hs,hc⟩:=h;refine ⟨fun _=>⟨g,0,rfl,ltS hh,fun i p hp=>?_⟩⟩;have hi:=hc i p hp;simp only [Nat.zero_add];exact ⟨(jZc hh _).trans (hi 0 _ rfl),(jZc hh _).trans (hi 1 _ rfl),(jZc hh _).trans (hi 2 _ rfl),(jZc hh _).trans (hi 3 _ rfl)⟩
theorem ReB.lt {w:World} {g:Nat} {L:List Re} (h:ReB w g L):g<w.heap.size:=by obtain ⟨cs,hh,_⟩:=h;exact ltS hh
theorem ReB.keep {w w':World} {g:Nat} {L:List Re} (h:ReB w g L) (hb:Below w.heap.size w w'):ReB w' g L:=by
 obtain ⟨cs,hh,hs,hc⟩:=h;exact ⟨cs,(hb.block g (ltS hh)).trans hh,hs,hc⟩
theorem madeRe:∃ f:Nat→Array Value,(∀ n,(f n).size=n*4)∧∀ (n:Nat) (w:World),n≤1048576→(Instr.makeSlice 28 (.int .i64 (n:Int)) (.int .i64 (n:Int))).run Tryz.prog w=.ok (.slice (some ⟨w.heap.size,0,none⟩) n n) (w.alloc (.cells (f n) 32)):=by
 have hinfo:(Tryz.prog.info? 32).map (fun i=>(i.zero,i.size,i.bytes))=some (some (.agg #[.int .i64 0,.int .i64 0,.int .i64 0,.int .i64 0]),4,32):=by kernel_rfl
 obtain ⟨i,hi,h1,h2,h3⟩:=info_parts hinfo;refine ⟨fun n=>madeCells (Value.agg #[.int .i64 0,.int .i64 0,.int .i64 0,.int .i64 0]).cells (n*4),fun n=>size_madeCells _ _,fun n w hn=>?_⟩;have hr:=run_make (P:=Tryz.prog) w 28 32 i _ Tryz.underlying28 hi h1 .i64 .i64 n n (by omega) (Int.le_refl _) (by rw [h3];omega) (by omega);rw [h2] at hr
 simpa using hr
theorem putRe {w:World} {b:Nat} {cs:Array Value} {T:TypeId} {fz:Nat × Nat} (h:w.heap[b]?=some (.cells cs T fz)) (o:Nat) (p:Re) :
  (((((w.setCell ⟨b,o,none⟩ (.int .i64 p.x)).setCell ⟨b,o+1,none⟩ (.int .i64 p.y)).setCell ⟨b,o+2,none⟩ (.int .i64 p.u)).setCell ⟨b,o+3,none⟩ (.int .i64 p.v))).heap[b]?=some (.cells (wrAt cs o (jZr p)) T fz) :=
 putS (putS (putS (putS h _) _) _) _
theorem putReb {B b:Nat} {a w:World} (h:Below B a w) (hb:B≤b) (o:Nat) (p:Re):Below B a (((((w.setCell ⟨b,o,none⟩ (.int .i64 p.x)).setCell ⟨b,o+1,none⟩ (.int .i64 p.y)).setCell ⟨b,o+2,none⟩ (.int .i64 p.u)).setCell ⟨b,o+3,none⟩ (.int .i64 p.v))) :=
 ((((h).setCell hb _).setCell hb _).setCell hb _).setCell hb _
theorem takZ_at:∀ {L:List Ln} {O P:List Int} {i:Nat} {l:Ln} {o p:Int},L[i]?=some l→O[i]?=some o→P[i]?=some p→(takZ L O P)[i]?=some (o-mn p (o-l.mi))
 | l' :: L,o' :: O,p' :: P,0,l,o,p,hl,ho,hp=>by
  simp only [List.getElem?_cons_zero,Option.some.injEq] at hl ho hp;subst hl ho hp
  simp [takZ]
 | l' :: L,o' :: O,p' :: P,i+1,l,o,p,hl,ho,hp=>by
  simp only [List.getElem?_cons_succ] at hl ho hp;simp only [takZ,List.getElem?_cons_succ];exact takZ_at hl ho hp
 | [],_,_,i,l,o,p,hl,_,_=>by simp at hl
 | _ :: _,[],_,i,l,o,p,_,ho,_=>by simp at ho
 | _ :: _,_ :: _,[],i,l,o,p,_,_,hp=>by simp at hp
theorem takZ_sum:∀ (L:List Ln) (O P:List Int),sumI (takZ L O P)=sumI O-tknZ L O P
 | l :: L,o :: O,p :: P=>by simp only [takZ,tknZ,sumI,takZ_sum L O P];omega
 | [],O,P=>by simp [takZ,tknZ]
 | l :: L,[],P=>by simp [takZ,tknZ]
 | l :: L,o :: O,[]=>by simp [takZ,tknZ]
theorem shr_all {L:List Ln} (hL:kZd L=true):∀ (f:Nat) (n:Int) (O:List Int),n.toNat≤f→0≤n→SOK L O →
  SOK L (shrZ L n O)∧(∀ (i:Nat) (l:Ln) (o r:Int),L[i]?=some l→O[i]?=some o→(shrZ L n O)[i]?=some r→r≤o∧(l.wt=0→r=o))∧sumI (shrZ L n O)≤sumI O∧sumI O-n≤sumI (shrZ L n O)∧(sumI (shrZ L n O)=sumI O-n∨sumI (wtZ L (shrZ L n O))=0)
 | 0,n,O,hf,hn,h=>by
  obtain rfl:n=0:=by omega
  rw [uZ9 (.inl (by omega))];exact ⟨h,fun i l o r _ h1 h2=>by rw [h1] at h2;obtain rfl:=Option.some.inj h2;exact ⟨Int.le_refl _,fun _=>rfl⟩,Int.le_refl _,by omega,.inl (by omega)⟩
 | f+1,n,O,hf,hn,h=>by
  by_cases h0:0<n∧sumI (wtZ L O)≠0
  ·obtain ⟨hp0,hs⟩:=h0;obtain ⟨hp,ht0,htn,hk⟩:=bZj hL h hp0 hs;rw [shr_go hL h hp0 hs];have hw:=wtZ_ok hL h
   have hs0:0<sumI (wtZ L O):=by have:=hw.sum;omega
   have hsum:=takZ_sum L O (jZt n (wtZ L O));obtain ⟨a1,a2,a3,a4,a5⟩:=shr_all hL f (n-tknZ L O (jZt n (wtZ L O))) (takZ L O (jZt n (wtZ L O))) (by omega) (by omega) hk;refine ⟨a1,fun i l o r h1 h2 h3=>?_,by omega,by omega,?_⟩
   ·obtain ⟨y,e1,y0,y1,e2⟩:=rZ6 (n:=n) (by omega) hw (cZk h1 h2)
    have:=takZ_at h1 h2 e1
    have hr:=a2 i l _ r h1 this h3;have hmi:=(h.get h1 h2).1;have hm:=jZz y (o-l.mi);refine ⟨by omega,fun hw0=>?_⟩;have h4:=(e2 hs0).1 (by rw [hw0];simp)
    have:=hr.2 hw0
    subst h4;omega
   ·rcases a5 with a5 | a5
    ·exact .inl (by omega)
    ·exact .inr a5
  ·have he:shrZ L n O=O:=uZ9 (by omega);rw [he];refine ⟨h,fun i l o r _ h1 h2=>by rw [h1] at h2;obtain rfl:=Option.some.inj h2;exact ⟨Int.le_refl _,fun _=>rfl⟩,Int.le_refl _,by omega,?_⟩
   by_cases hp0:0<n
   ·exact .inr (by omega)
   ·exact .inl (by omega)
theorem linesB_get {L:List Ln} (hL:kZd L=true) {l:Ln} (hl:l∈L):(0≤l.wt∧l.wt≤5)∧(0≤l.mi∧l.mi≤30):=by
 obtain ⟨h1,h2⟩:=tZw hL;refine ⟨h2.1 _ (List.mem_map_of_mem hl),?_⟩;simp only [kZd,Bool.and_eq_true,List.all_eq_true] at hL
 have:=hL.2 l hl
 simp only [tZs,Bool.and_eq_true,pZa] at this;exact this.2
theorem sZ3 {L:List Ln} {S:List Sp} {room:Int} (hL:kZd L=true) (hS:pZ7 L.length S) (hr0:0≤room) (hr1:room≤20000000000000) :
  SOK L (kZa L S room)∧(kZa L S room).length=L.length∧(∀ x∈kZa L S room,0≤x∧x≤100000000000000)∧(sumI (kZa L S room)≤room∨sumI (kZa L S room)≤sumI (kZl L S)):=by
 obtain ⟨k1,k2,k3,k4,k5⟩:=pZ1 hL hS
 have key:SOK L (kZa L S room)∧(sumI (kZa L S room)≤room∨sumI (kZa L S room)≤sumI (kZl L S)):=by
  unfold kZa
  split
  ·obtain ⟨a1,a2,a3,a4,a5⟩:=shr_all hL _ (-(room-sumI (kZl L S))) (kZl L S) (Nat.le_refl _) (by omega) k1;exact ⟨a1,.inr a3⟩
  ·split
   ·exact ⟨k1,.inr (Int.le_refl _)⟩
   ·obtain ⟨hO,hW⟩:=tZw hL
    have hn:0≤room-sumI (kZl L S):=by omega
    have hsum:=tZj hn hW;have hnn:=uZw hn hW
    have hlen:(jZt (room-sumI (kZl L S)) (L.map Ln.wt)).length=L.length:=by rw [kZ5,List.length_map]
    have hs:=fZ2 (O:=kZl L S) (P:=jZt (room-sumI (kZl L S)) (L.map Ln.wt)) (k:=0) (by omega);have hmi:MI L (qZg (kZl L S) 0 (jZt (room-sumI (kZl L S)) (L.map Ln.wt))):=MI.add (fun i l o h1 h2=>(k1.get h1 h2).1) hnn;have hx0:=nn_addAt (k:=0) (fun x hx=>(k3 x hx).1) hnn;have hx1:=qZq hx0
    refine ⟨SOK.of (by rw [uZ6];exact k2) hmi (fun x hx=>by have:=hx1 x hx;omega),.inl (by omega)⟩
 refine ⟨key.1,key.1.len,fun x hx=>?_,key.2⟩;obtain ⟨i,hi,e⟩:=List.mem_iff_getElem.1 hx
 have hl:i<L.length:=by rw [<- key.1.len];exact hi
 have:=key.1.get (List.getElem?_eq_getElem hl) (by rw [List.getElem?_eq_getElem hi,e])
 have:=(linesB_get hL (List.getElem_mem hl)).2
 omega
theorem bZx {L:List Ln} {S:List Sp} {room:Int} (hL:kZd L=true) (hS:pZ7 L.length S) (hr0:0≤room) (hr1:room≤20000000000000):Smal 1000000000000000 (kZa L S room)∧(kZa L S room).length≤5:=by
 obtain ⟨-,hl,hx,-⟩:=sZ3 hL hS hr0 hr1;have h5:=(kZz hL).2;refine ⟨tZ2 (b:=100000000000000) (fun x h=>⟨by have:=(hx x h).1;omega,(hx x h).2⟩) (by omega) ?_,by omega⟩;rw [hl];omega
theorem uZc (S:List Int) (a m:Nat):sumI (S.take (a+m))=sumI (S.take a)+sumI (segI S a m):=by
  rw [segI,List.take_add,qZc]
theorem pZ2 {S:List Int} (h:∀ x∈S,0≤x) (k:Nat):0≤sumI (S.take k)∧sumI (S.take k)≤sumI S:=by
  have h1:=kZ9 (L:=S.take k) (fun x hx=>h x (List.mem_of_mem_take hx))
  have h2:=kZ9 (L:=S.drop k) (fun x hx=>h x (List.mem_of_mem_drop hx))
  have h3:=qZc (S.take k) (S.drop k)
  rw [List.take_append_drop] at h3
  omega
def insR (a:Re) (p q:Int):Re:=⟨a.x+mn p (a.u / 2),a.y+mn q (a.v / 2),mx (a.u-2*p) 0,mx (a.v-2*q) 0⟩
def stkI (wish room k:Int):Int × Int:=if k=1 then (wish,0) else if k=2 then (wish,2) else if k=3 then (room,0) else (wish,1)
def ancR (a:Re) (p q k:Int):Re:=⟨a.x+(a.u-mn p a.u)*(k % 3) / 2,a.y+(a.v-mn q a.v)*(k / 3) / 2,mn p a.u,mn q a.v⟩
def stkS (at_ room wish:Int) (lo hi:Bool):Int × Int :=
  if lo&&hi then (at_,room) else if lo then (at_,mn wish room) else if hi then (at_+room-mn wish room,mn wish room) else (at_+(room-mn wish room) / 2,mn wish room)
def pZm (S1 S2:List Int) (c:Ce):Re:=⟨sumI (S1.take c.co.toNat),sumI (S2.take c.ro.toNat),sumI (segI S1 c.co.toNat c.mc.toNat),sumI (segI S2 c.ro.toNat c.mr.toNat)⟩
def qZf (S1 S2:List Int) (c:Ce):Re :=
  ⟨(stkS (insR (pZm S1 S2 c) c.px c.py).x (insR (pZm S1 S2 c) c.px c.py).u c.cw (decide (c.sk % 2=1)) (decide (c.sk / 2 % 2=1))).1,
   (stkS (insR (pZm S1 S2 c) c.px c.py).y (insR (pZm S1 S2 c) c.px c.py).v c.ch (decide (c.sk / 4 % 2=1)) (decide (c.sk / 8=1))).1,
   (stkS (insR (pZm S1 S2 c) c.px c.py).x (insR (pZm S1 S2 c) c.px c.py).u c.cw (decide (c.sk % 2=1)) (decide (c.sk / 2 % 2=1))).2,
   (stkS (insR (pZm S1 S2 c) c.px c.py).y (insR (pZm S1 S2 c) c.px c.py).v c.ch (decide (c.sk / 4 % 2=1)) (decide (c.sk / 8=1))).2⟩
def BdR (a:Re):Prop:=((0≤a.x∧a.x≤20000000000000)∧(0≤a.y∧a.y≤20000000000000))∧((0≤a.u∧a.u≤20000000000000)∧(0≤a.v∧a.v≤20000000000000))
theorem ins_bd {a:Re} {p q:Int} (h:BdR a) (hp:0≤p∧p≤10) (hq:0≤q∧q≤10) :
    ((0≤mn p (a.u / 2)∧mn p (a.u / 2)≤10)∧(0≤mn q (a.v / 2)∧mn q (a.v / 2)≤10))∧((0≤mx (a.u-2*p) 0∧mx (a.u-2*p) 0≤20000000000000)∧(0≤mx (a.v-2*q) 0∧mx (a.v-2*q) 0≤20000000000000)):=by
  obtain ⟨⟨h1,h2⟩,h3,h4⟩:=h
  have:=jZz p (a.u / 2);have:=jZz q (a.v / 2);have:=kZc (a.u-2*p) 0;have:=kZc (a.v-2*q) 0
  omega
theorem mul3_bd {a b:Int} (h1:0≤a) (h2:a≤20000000000000) (h3:0≤b) (h4:b≤2):0≤a*b∧a*b≤40000000000000 :=
  ⟨Int.mul_nonneg h1 h3,Int.le_trans (Int.mul_le_mul h2 h4 h3 (by omega)) (by omega)⟩
theorem anc_bd {u v p q k:Int} (hu:0≤u∧u≤20000000000000) (hv:0≤v∧v≤20000000000000) (hp:0≤p∧p≤20000000000000) (hq:0≤q∧q≤20000000000000) (hk:0≤k∧k≤8) :
    0≤mn p u∧mn p u≤u∧0≤mn q v∧mn q v≤v∧0≤k % 3∧k % 3≤2∧0≤k / 3∧k / 3≤2∧0≤(u-mn p u)*(k % 3)∧(u-mn p u)*(k % 3)≤40000000000000∧0≤(v-mn q v)*(k / 3)∧(v-mn q v)*(k / 3)≤40000000000000:=by
  have g1:=jZz p u;have g2:=jZz q v
  have e1:=mul3_bd (a:=u-mn p u) (b:=k % 3) (by omega) (by omega) (by omega) (by omega)
  have e2:=mul3_bd (a:=v-mn q v) (b:=k / 3) (by omega) (by omega) (by omega) (by omega)
  omega
theorem dZ7 {wish room k:Int} (h1:0≤wish∧wish≤1000000000000) (h2:0≤room∧room≤20000000000000):(0≤(stkI wish room k).1∧(stkI wish room k).1≤20000000000000)∧(0≤(stkI wish room k).2∧(stkI wish room k).2≤2):=by
  unfold stkI
  split
  · simp only;omega
  · split
    · simp only;omega
    · split <;> (simp only;omega)
theorem stk_one (x room wish k:Int) (lo hi:Bool) (hr:0≤room) (hlo:lo=decide (k % 2=1)) (hhi:hi=decide (k / 2=1)) (hk:0≤k∧k≤3) :
    x+(room-mn (stkI wish room k).1 room)*(stkI wish room k).2 / 2=(stkS x room wish lo hi).1∧mn (stkI wish room k).1 room=(stkS x room wish lo hi).2:=by
  have hk4:k=0∨k=1∨k=2∨k=3:=by omega
  have hm:=jZz wish room
  rcases hk4 with rfl | rfl | rfl | rfl
  · subst hlo hhi
    simp [stkI,stkS]
  · subst hlo hhi
    simp [stkI,stkS]
  · subst hlo hhi
    simp [stkI,stkS]
    omega
  · subst hlo hhi
    have:=jZz room room
    simp [stkI,stkS]
    omega
def celI (a:Re) (c:Ce):Re:=ancR (insR a c.px c.py) (stkI c.cw (insR a c.px c.py).u (c.sk % 4)).1 (stkI c.ch (insR a c.px c.py).v (c.sk / 4)).1 ((stkI c.cw (insR a c.px c.py).u (c.sk % 4)).2+3*(stkI c.ch (insR a c.px c.py).v (c.sk / 4)).2)
theorem celI_eq {S1 S2:List Int} {c:Ce} (hs:0≤c.sk∧c.sk≤15) (hw:0≤c.cw∧c.cw≤1000000000000) (hh:0≤c.ch∧c.ch≤1000000000000) (hp:0≤c.px∧c.px≤10) (hq:0≤c.py∧c.py≤10) (hb:BdR (pZm S1 S2 c)):celI (pZm S1 S2 c) c=qZf S1 S2 c:=by
  obtain ⟨-,b3,b4⟩:=ins_bd hb hp hq
  have e1:=stk_one (insR (pZm S1 S2 c) c.px c.py).x (insR (pZm S1 S2 c) c.px c.py).u c.cw (c.sk % 4) (decide (c.sk % 2=1)) (decide (c.sk / 2 % 2=1)) b3.1 (by rw [show c.sk % 4 % 2=c.sk % 2 by omega]) (by rw [show c.sk % 4 / 2=c.sk / 2 % 2 by omega]) (by omega)
  have e2:=stk_one (insR (pZm S1 S2 c) c.px c.py).y (insR (pZm S1 S2 c) c.px c.py).v c.ch (c.sk / 4) (decide (c.sk / 4 % 2=1)) (decide (c.sk / 8=1)) b4.1 rfl (by rw [show c.sk / 4 / 2=c.sk / 8 by omega]) (by omega)
  have f1:=(dZ7 (wish:=c.cw) (room:=(insR (pZm S1 S2 c) c.px c.py).u) (k:=c.sk % 4) hw b3).2
  have f2:=(dZ7 (wish:=c.ch) (room:=(insR (pZm S1 S2 c) c.px c.py).v) (k:=c.sk / 4) hh b4).2
  unfold celI qZf ancR
  rw [show ((stkI c.cw (insR (pZm S1 S2 c) c.px c.py).u (c.sk % 4)).2+3*(stkI c.ch (insR (pZm S1 S2 c) c.px c.py).v (c.sk / 4)).2) % 3=(stkI c.cw (insR (pZm S1 S2 c) c.px c.py).u (c.sk % 4)).2 by omega,
    show ((stkI c.cw (insR (pZm S1 S2 c) c.px c.py).u (c.sk % 4)).2+3*(stkI c.ch (insR (pZm S1 S2 c) c.px c.py).v (c.sk / 4)).2) / 3=(stkI c.ch (insR (pZm S1 S2 c) c.px c.py).v (c.sk / 4)).2 by omega,
    e1.1,e1.2,e2.1,e2.2]
def SzB (S:List Int):Prop:=(∀ x∈S,0≤x)∧sumI S≤20000000000000∧S.length≤5
theorem SzB.seg {S:List Int} (h:SzB S) (a m:Nat):0≤sumI (segI S a m)∧sumI (segI S a m)≤20000000000000:=by
  have h1:=uZc S a m
  have h2:=pZ2 h.1 (a+m)
  have h3:=pZ2 h.1 a
  have h4:=kZ9 (L:=segI S a m) (fun x hx=>h.1 x (sZu hx))
  have:=h.2.1
  omega
theorem SzB.take {S:List Int} (h:SzB S) (a:Nat):0≤sumI (S.take a)∧sumI (S.take a)≤20000000000000:=by
  have h3:=pZ2 h.1 a
  have:=h.2.1
  omega
theorem area_bd {S1 S2:List Int} (h1:SzB S1) (h2:SzB S2) (c:Ce):BdR (pZm S1 S2 c):=by
  have a1:=h1.take c.co.toNat
  have a2:=h2.take c.ro.toNat
  have a3:=h1.seg c.co.toNat c.mc.toNat
  have a4:=h2.seg c.ro.toNat c.mr.toNat
  exact ⟨⟨⟨a1.1,by show sumI _≤_;omega⟩,⟨a2.1,by show sumI _≤_;omega⟩⟩,⟨a3.1,by show sumI _≤_;omega⟩,⟨a4.1,by show sumI _≤_;omega⟩⟩
theorem SzB.segsmal {S:List Int} (h:SzB S) (a m:Nat):Smal 1000000000000000 (segI S a m):=fun k=>by
  have h4:=pZ2 (S:=segI S a m) (fun x hx=>h.1 x (sZu hx)) k
  have:=h.seg a m
  omega
theorem SzB.takesmal {S:List Int} (h:SzB S) (a:Nat):Smal 1000000000000000 (S.take a):=fun k=>by
  have h4:=pZ2 (S:=S.take a) (fun x hx=>h.1 x (List.mem_of_mem_take hx)) k
  have:=h.take a
  omega
theorem SzB.of {L:List Ln} {S:List Sp} {room:Int} (hL:kZd L=true) (hS:pZ7 L.length S) (hr0:0≤room) (hr1:room≤20000000000000):SzB (kZa L S room):=by
  obtain ⟨-,h2,h3,h4⟩:=sZ3 hL hS hr0 hr1
  have h5:=(pZ1 hL hS).2.2.2.2
  exact ⟨fun x hx=>(h3 x hx).1,by omega,by have:=(kZz hL).2;omega⟩
def Re.at (r:Re) (x y:Int):Re:=⟨r.x+x,r.y+y,r.u,r.v⟩
theorem insR_at (a:Re) (p q x y:Int):insR (a.at x y) p q=(insR a p q).at x y:=by simp only [insR,Re.at,Re.mk.injEq,and_true];omega
theorem stkS_at (x room wish d:Int) (lo hi:Bool):stkS (x+d) room wish lo hi=((stkS x room wish lo hi).1+d,(stkS x room wish lo hi).2):=by
  unfold stkS
  cases lo <;> cases hi <;> simp <;> omega
def BdM (a:Re):Prop:=((-2000000000000000≤a.x∧a.x≤2000000000000000)∧(-2000000000000000≤a.y∧a.y≤2000000000000000))∧((0≤a.u∧a.u≤20000000000000)∧(0≤a.v∧a.v≤20000000000000))
theorem ins_bdU {a:Re} {p q:Int} (h:(0≤a.u∧a.u≤20000000000000)∧(0≤a.v∧a.v≤20000000000000)) (hp:0≤p∧p≤10) (hq:0≤q∧q≤10) :
    ((0≤mn p (a.u / 2)∧mn p (a.u / 2)≤10)∧(0≤mn q (a.v / 2)∧mn q (a.v / 2)≤10))∧((0≤mx (a.u-2*p) 0∧mx (a.u-2*p) 0≤20000000000000)∧(0≤mx (a.v-2*q) 0∧mx (a.v-2*q) 0≤20000000000000)):=by
  obtain ⟨h3,h4⟩:=h
  have:=jZz p (a.u / 2);have:=jZz q (a.v / 2);have:=kZc (a.u-2*p) 0;have:=kZc (a.v-2*q) 0
  omega
def cZr (S1 S2:List Int) (x y:Int) (c:Ce):Re:=(qZf S1 S2 c).at x y
section
attribute [local go_sem 5000] kZk kZj
theorem wp_genG3 {P:Program} {c:Code} {Q:Exit→Act→World→Prop} {a:Act} {W:World} (F:World→Prop) (hF:F W) (h:∀ W0,F W0→c.wp P Q a W0):c.wp P Q a W:=h W hF
end
section
attribute [local go_sem 5000] kZk kZj
theorem bp_genQ {P:Program} {f:Func} {R:Ending→World→Prop} {e:Exit} {a:Act} {W:World} (F:World→Prop) (hF:F W) (h:∀ W0,F W0→bodyPost P f R e a W0):bodyPost P f R e a W:=h W hF
end
section
attribute [local go_sem 5000] kZk kZj
theorem wr_w {e:Int} (h1:-100000000000000000≤e) (h2:e≤100000000000000000):IntKind.i64.wrap e=e:=IntWalk.i64_in _ (by omega)
def rqW (w h:Int):Bool:=rng w 0 20000000000000&&rng h 0 20000000000000
theorem pZu {w h:Int}:rqW w h=true↔((0≤w∧w≤20000000000000)∧(0≤h∧h≤20000000000000)):=by simp only [rqW,Bool.and_eq_true,pZa]
theorem th_prodW {m s:Int} (h1:0≤m) (h2:m≤1000) (h3:0≤s) (h4:s≤20000000000000):0≤m*s∧m*s≤20000000000000000:=by
 refine ⟨Int.mul_nonneg h1 h3,?_⟩;have e1:m*s≤1000*s:=Int.mul_le_mul_of_nonneg_right h2 h3;omega
theorem fZe {m s:Int} (h1:0≤m) (h2:m≤1000) (h3:0≤s):0≤thM m s∧thM m s≤s:=by
 have e0:=Int.mul_nonneg h1 h3;have e1:m*s≤1000*s:=Int.mul_le_mul_of_nonneg_right h2 h3;unfold thM;omega
theorem tZn {s k:Int} (h1:0≤s) (h3:0≤k) (h4:k≤2):0≤s*k∧s*k≤s*2∧0≤s*k / 2∧s*k / 2≤s:=by
 have e1:0≤s*k:=Int.mul_nonneg h1 h3;have e2:s*k≤s*2:=Int.mul_le_mul_of_nonneg_left h4 h1;omega
structure PlBdW (p:Plc) (w h:Int):Prop where
 t1:0≤thM p.rx w∧thM p.rx w≤20000000000000
 t2:0≤thM p.ry h∧thM p.ry h≤20000000000000
 t3:0≤thM p.qw w∧thM p.qw w≤20000000000000
 t4:0≤thM p.qh h∧thM p.qh h≤20000000000000
 w1:0≤wM p w∧wM p w≤20000000000300
 h1:0≤hM p h∧hM p h≤20000000000300
 a1:0≤p.an % 3∧p.an % 3≤2
 a2:0≤p.an / 3∧p.an / 3≤2
 p1:0≤wM p w*(p.an % 3)∧wM p w*(p.an % 3)≤40000000000600∧0≤wM p w*(p.an % 3) / 2∧wM p w*(p.an % 3) / 2≤20000000000300
 p2:0≤hM p h*(p.an / 3)∧hM p h*(p.an / 3)≤40000000000600∧0≤hM p h*(p.an / 3) / 2∧hM p h*(p.an / 3) / 2≤20000000000300
theorem pl_bdW {p:Plc} {w h:Int} (hp:plB p=true) (hr:rqW w h=true):PlBdW p w h:=by
 obtain ⟨b1,b2,b3,b4,b5,b6,b7,b8,b9⟩:=sZ4.1 hp;obtain ⟨r1,r2⟩:=pZu.1 hr;have t1:=fZe b3.1 b3.2 r1.1;have t2:=fZe b4.1 b4.2 r2.1;have t3:=fZe b7.1 b7.2 r1.1;have t4:=fZe b8.1 b8.2 r2.1
 have w1:0≤wM p w∧wM p w≤w+300:=by have:=kZc (p.ww+thM p.qw w) 0;unfold wM;omega
 have h1:0≤hM p h∧hM p h≤h+300:=by have:=kZc (p.hh+thM p.qh h) 0;unfold hM;omega
 have a1:0≤p.an % 3∧p.an % 3≤2:=by omega
 have a2:0≤p.an / 3∧p.an / 3≤2:=by omega
 have k1:=tZn w1.1 a1.1 a1.2;have k2:=tZn h1.1 a2.1 a2.2;exact ⟨by omega,by omega,by omega,by omega,by omega,by omega,a1,a2,by omega,by omega⟩
theorem wM_le {p:Plc} {w h:Int} (hp:plB p=true) (hr:rqW w h=true):0≤wM p w∧wM p w≤w+300:=by
 obtain ⟨b1,b2,b3,b4,b5,b6,b7,b8,b9⟩:=sZ4.1 hp;obtain ⟨r1,r2⟩:=pZu.1 hr;have t3:=fZe b7.1 b7.2 r1.1
 have:=kZc (p.ww+thM p.qw w) 0
 unfold wM;omega
theorem hM_le {p:Plc} {w h:Int} (hp:plB p=true) (hr:rqW w h=true):0≤hM p h∧hM p h≤h+300:=by
 obtain ⟨b1,b2,b3,b4,b5,b6,b7,b8,b9⟩:=sZ4.1 hp;obtain ⟨r1,r2⟩:=pZu.1 hr;have t3:=fZe b8.1 b8.2 r2.1
 have:=kZc (p.hh+thM p.qh h) 0
 unfold hM;omega
theorem xM_le {p:Plc} {w h:Int} (hp:plB p=true) (hr:rqW w h=true):-(w+600)≤xM p w∧xM p w≤w+300:=by
 have hw:=wM_le hp hr;obtain ⟨b1,b2,b3,b4,b5,b6,b7,b8,b9⟩:=sZ4.1 hp;obtain ⟨r1,r2⟩:=pZu.1 hr;have t:=fZe b3.1 b3.2 r1.1;have k:=tZn (k:=p.an % 3) hw.1 (by omega) (by omega);unfold xM;omega
theorem yM_le {p:Plc} {w h:Int} (hp:plB p=true) (hr:rqW w h=true):-(h+600)≤yM p h∧yM p h≤h+300:=by
 have hw:=hM_le hp hr;obtain ⟨b1,b2,b3,b4,b5,b6,b7,b8,b9⟩:=sZ4.1 hp;obtain ⟨r1,r2⟩:=pZu.1 hr;have t:=fZe b4.1 b4.2 r2.1;have k:=tZn (k:=p.an / 3) hw.1 (by omega) (by omega);unfold yM;omega
theorem thou_w (m s:Int) (w:World) (h1:0≤m) (h2:m≤1000) (h3:0≤s) (h4:s≤20000000000000):Calls Tryz.prog 233 #[.int .i64 m,.int .i64 s] w fun e w'=>e=.returned (.int .i64 (thM m s))∧Below w.heap.size w w':=by
 obtain ⟨q1,q2⟩:=th_prodW h1 h2 h3 h4
 go_enter Tryz.func233,Tryz.ntmps233
 go_wp2;go_ret;exact ⟨sZv rfl,(by repeat (first | with_reducible exact Below.refl _ _ | with_reducible assumption | with_reducible refine jZd ?_|(with_reducible refine bset ?_ ?_;rotate_left;((try dsimp only);omega)) | refine jZa ?_ (by assumption) | with_reducible refine Below.drew ?_))⟩
theorem hZ5 (n m:Int) (w:World) (h1:0≤m) (h2:m≤1000) (h3:0≤n) (h4:n≤20000000000000):Calls Tryz.prog 174 #[.int .i64 n,.int .i64 m] w fun e w'=>e=.returned (.int .i64 (thM m n))∧Below w.heap.size w w':=by
 obtain ⟨q1,q2⟩:=th_prodW h1 h2 h3 h4;rw [Int.mul_comm] at q1 q2
 go_enter Tryz.func174,Tryz.ntmps174
 go_wp2;go_ret;exact ⟨sZv (by rw [thM,Int.mul_comm]),(by repeat (first | with_reducible exact Below.refl _ _ | with_reducible assumption | with_reducible refine jZd ?_|(with_reducible refine bset ?_ ?_;rotate_left;((try dsimp only);omega)) | refine jZa ?_ (by assumption) | with_reducible refine Below.drew ?_))⟩
theorem shift_w (b:Nat) (p:Plc) (dx dy:Int) (w:World) (hh:w.heap[b]?=some (.cells #[.int .i64 p.x,.int .i64 p.y,.int .i64 p.rx,.int .i64 p.ry,.int .i64 p.ww,.int .i64 p.hh,.int .i64 p.qw,.int .i64 p.qh,.int .i64 p.an] 41 (0,0))) (h1:-1000000000000000≤p.x∧p.x≤1000000000000000) (h2:-1000000000000000≤p.y∧p.y≤1000000000000000) (h3:-1000000000000000≤dx∧dx≤1000000000000000) (h4:-1000000000000000≤dy∧dy≤1000000000000000) :
  Calls Tryz.prog 232 #[.pointer (some ⟨b,0,none⟩),.int .i64 dx,.int .i64 dy] w fun e w'=>(∃ v,e=.returned v)∧w'.heap[b]?=some (.cells #[.int .i64 (p.x+dx),.int .i64 (p.y+dy),.int .i64 p.rx,.int .i64 p.ry,.int .i64 p.ww,.int .i64 p.hh,.int .i64 p.qw,.int .i64 p.qh,.int .i64 p.an] 41 (0,0))∧w.grownBy w' (some b):=by
 obtain ⟨c0,c1,c2,c3,c4,c5,c6,c7,c8⟩:=c9_q hh;obtain ⟨f0,f1,-⟩:=f9_q hh;have q1:=tZq (i:=0) hh (.int .i64 (p.x+dx));have q2:=tZq (i:=1) q1 (.int .i64 (p.y+dy));simp only [List.setIfInBounds_toArray,List.set_cons_succ,List.set_cons_zero] at q2;have HQ:=hD q2;have HG:=hD (gs_q (gs_q (gr_q w b) 0 (.int .i64 (p.x+dx))) 1 (.int .i64 (p.y+dy)));clear hh q1 q2 c2 c3 c4 c5 c6 c7 c8;obtain ⟨h1,h1'⟩:=h1
 obtain ⟨h2,h2'⟩:=h2;obtain ⟨h3,h3'⟩:=h3;obtain ⟨h4,h4'⟩:=h4
 go_enter Tryz.func232,Tryz.ntmps232
 go_wp2
 go_end0
 exact ⟨⟨_,rfl⟩,HQ.out,HG.out⟩
theorem fix_w (b:Nat) (p:Plc) (w0 h0:Int) (w:World) (hh:w.heap[b]?=some (.cells #[.int .i64 p.x,.int .i64 p.y,.int .i64 p.rx,.int .i64 p.ry,.int .i64 p.ww,.int .i64 p.hh,.int .i64 p.qw,.int .i64 p.qh,.int .i64 p.an] 41 (0,0))) (hp:plB p=true) (hr:rqW w0 h0=true) :
  Calls Tryz.prog 231 #[.pointer (some ⟨b,0,none⟩),.int .i64 w0,.int .i64 h0] w fun e w'=>(∃ v,e=.returned v)∧w'.heap[b]?=some (.cells #[.int .i64 (p.x+thM p.rx w0),.int .i64 (p.y+thM p.ry h0),.int .i64 0,.int .i64 0,.int .i64 (wM p w0),.int .i64 (hM p h0),.int .i64 0,.int .i64 0,.int .i64 p.an] 41 (0,0))∧w.grownBy w' (some b):=by
 have HBD:=hD (pl_bdW hp hr);obtain ⟨⟨b1,b1'⟩,⟨b2,b2'⟩,⟨b3,b3'⟩,⟨b4,b4'⟩,⟨b5,b5'⟩,⟨b6,b6'⟩,⟨b7,b7'⟩,⟨b8,b8'⟩,⟨b9,b9'⟩⟩:=sZ4.1 hp;obtain ⟨⟨r1,r1'⟩,⟨r2,r2'⟩⟩:=pZu.1 hr;obtain ⟨⟨t1,t1'⟩,⟨t2,t2'⟩,⟨t3,t3'⟩,⟨t4,t4'⟩,-,-,-,-,-,-⟩:=HBD.out;have e1:IntKind.i64.wrap (p.ww+thM p.qw w0)=p.ww+thM p.qw w0:=wr_w (by omega) (by omega)
 have e2:IntKind.i64.wrap (p.hh+thM p.qh h0)=p.hh+thM p.qh h0:=wr_w (by omega) (by omega);have hlt:=lt_q hh;obtain ⟨c0,c1,c2,c3,c4,c5,c6,c7,c8⟩:=c9_q hh;have HX:=hD hh;clear hh hp hr
 go_enter Tryz.func231,Tryz.ntmps231
 go_wp2_with fail
 refine bZm (fun W0 e0=>?_);replace e0:=hD e0;refine jZg 13 1 (·<13) (by kernel_rfl) (by kernel_rfl) rfl ?_
 iterate 13 (refine jZ3 (fun K hK=>?_);apply Exists.intro;refine ⟨.inl ⟨rfl,fun w' hw'=>?_⟩,?_⟩;(focus ((obtain ⟨hc,hf⟩:=kZi hw'.out);(have hcS:=kZq hw'.out);go_simp <;> first | rfl|(go_at_call 233;exact thou_w _ _ _ (by assumption) (by assumption) (by assumption) (by assumption))));(go_simp;refine hK _ ?_;clear hK K))
 refine jZ9 ?_;refine jZ1 (by kernel_rfl) (fun w2 hg2=>?_);have hb2:=jZs hg2.out;refine jZn (i:=13) (by kernel_rfl) rfl rfl ?_;go_simp
 go_at_call 232
 have HX2:=hD ((hb2.block _ hlt).trans HX.out);clear c0 c1 c2 c3 c4 c5 c6 c7 c8;refine (shift_w b p (thM p.rx w0) (thM p.ry h0) _ HX2.out (by omega) (by omega) (by omega) (by omega)).mono ?_;rintro e w3 ⟨⟨v,rfl⟩,hx3,hg3⟩;go_simp;refine jZq (by kernel_rfl) ?_;refine kZ0.thn ?_;have HG:=hD (gt_q (gb_q (gr_q w b) hb2) hg3);have HX3:=hD hx3;have hlt3:=lt_q hx3;clear HX HX2 hb2 hg2 hx3 hg3 hlt
 obtain ⟨c0,c1,c2,c3,c4,c5,c6,c7,c8⟩:=c9_q HX3.out
 go_wp2_with fail
 refine jZg 15 1 (·<15) (by kernel_rfl) (by kernel_rfl) rfl ?_
 iterate 15 (refine jZ3 (fun K hK=>?_);apply Exists.intro;refine ⟨.inl ⟨rfl,fun w' hw'=>?_⟩,?_⟩;(focus ((obtain ⟨hc,hf⟩:=kZi hw'.out);(have hcS:=kZq hw'.out);go_simp <;> first | rfl|(go_at_call 233;exact thou_w _ _ _ (by assumption) (by assumption) (by assumption) (by assumption))));(go_simp;refine hK _ ?_;clear hK K))
 refine jZ9 ?_;refine jZ1 (by kernel_rfl) (fun w4 hg4=>?_);have hb4:=jZs hg4.out;have hx4:=(hb4.block _ hlt3).trans HX3.out;clear c0 c1 c2 c3 c4 c5 c6 c7 c8;obtain ⟨c0,c1,c2,c3,c4,c5,c6,c7,c8⟩:=c9_q hx4;obtain ⟨f0,f1,f2,f3,f4,f5,f6,f7,f8⟩:=f9_q hx4;have q4:=tZq (i:=4) hx4 (.int .i64 (mx (p.ww+thM p.qw w0) 0))
 simp only [List.setIfInBounds_toArray,List.set_cons_succ,List.set_cons_zero] at q4;replace HX3:=hD q4;replace HG:=hD (gs_q (gb_q HG.out hb4) 4 (.int .i64 (mx (p.ww+thM p.qw w0) 0)));refine jZn (i:=15) (by kernel_rfl) rfl rfl ?_;go_simp;refine jZq (by kernel_rfl) ?_;clear c0 c1 c2 c3 c4 c5 c6 c7 c8 f0 f1 f2 f3 f4 f5 f6 f7 f8 hx4 hb4 hg4 hlt3 q4
 refine kZ0.gen (fun W=>W.heap[b]?=some (.cells #[.int .i64 (p.x+thM p.rx w0),.int .i64 (p.y+thM p.ry h0),.int .i64 p.rx,.int .i64 p.ry,.int .i64 (mx (p.ww+thM p.qw w0) 0),.int .i64 p.hh,.int .i64 p.qw,.int .i64 p.qh,.int .i64 p.an] 41 (0,0))∧w.grownBy W (some b)) ⟨HX3.out,HG.out⟩ (fun w5 hw5=>?_);clear HX3 HG;obtain ⟨hx5,hg5⟩:=hw5;have HX3:=hD hx5;have HG:=hD hg5;have hlt3:=lt_q hx5
 clear hx5 hg5;obtain ⟨c0,c1,c2,c3,c4,c5,c6,c7,c8⟩:=c9_q HX3.out
 go_wp2_with fail
 refine jZg 15 1 (·<15) (by kernel_rfl) (by kernel_rfl) rfl ?_
 iterate 15 (refine jZ3 (fun K hK=>?_);apply Exists.intro;refine ⟨.inl ⟨rfl,fun w' hw'=>?_⟩,?_⟩;(focus ((obtain ⟨hc,hf⟩:=kZi hw'.out);(have hcS:=kZq hw'.out);go_simp <;> first | rfl|(go_at_call 233;exact thou_w _ _ _ (by assumption) (by assumption) (by assumption) (by assumption))));(go_simp;refine hK _ ?_;clear hK K))
 refine jZ9 ?_;refine jZ1 (by kernel_rfl) (fun w6 hg4=>?_);have hb4:=jZs hg4.out;have hx4:=(hb4.block _ hlt3).trans HX3.out;clear c0 c1 c2 c3 c4 c5 c6 c7 c8;obtain ⟨c0,c1,c2,c3,c4,c5,c6,c7,c8⟩:=c9_q hx4;obtain ⟨f0,f1,f2,f3,f4,f5,f6,f7,f8⟩:=f9_q hx4;have q4:=tZq (i:=5) hx4 (.int .i64 (mx (p.hh+thM p.qh h0) 0))
 simp only [List.setIfInBounds_toArray,List.set_cons_succ,List.set_cons_zero] at q4;replace HX3:=hD q4;replace HG:=hD (gs_q (gb_q HG.out hb4) 5 (.int .i64 (mx (p.hh+thM p.qh h0) 0)));refine jZn (i:=15) (by kernel_rfl) rfl rfl ?_;go_simp;refine jZq (by kernel_rfl) ?_;clear c0 c1 c2 c3 c4 c5 c6 c7 c8 f0 f1 f2 f3 f4 f5 f6 f7 f8 hx4 hb4 hg4 hlt3 q4
 refine kZ0.gen (fun W=>W.heap[b]?=some (.cells #[.int .i64 (p.x+thM p.rx w0),.int .i64 (p.y+thM p.ry h0),.int .i64 p.rx,.int .i64 p.ry,.int .i64 (mx (p.ww+thM p.qw w0) 0),.int .i64 (mx (p.hh+thM p.qh h0) 0),.int .i64 p.qw,.int .i64 p.qh,.int .i64 p.an] 41 (0,0))∧w.grownBy W (some b)) ⟨HX3.out,HG.out⟩ (fun w7 hw5=>?_);clear HX3 HG;obtain ⟨hx5,hg5⟩:=hw5
 obtain ⟨c0,c1,c2,c3,c4,c5,c6,c7,c8⟩:=c9_q hx5;obtain ⟨f0,f1,f2,f3,f4,f5,f6,f7,f8⟩:=f9_q hx5;have q1:=tZq (i:=7) (tZq (i:=6) (tZq (i:=3) (tZq (i:=2) hx5 (.int .i64 0)) (.int .i64 0)) (.int .i64 0)) (.int .i64 0);simp only [List.setIfInBounds_toArray,List.set_cons_succ,List.set_cons_zero] at q1;have HQ:=hD q1
 have HG:=hD (gs_q (gs_q (gs_q (gs_q hg5 2 (.int .i64 0)) 3 (.int .i64 0)) 6 (.int .i64 0)) 7 (.int .i64 0));clear q1 hx5 hg5;go_wp2
 go_end0
 exact ⟨⟨_,rfl⟩,HQ.out,HG.out⟩
theorem gZy (p:Plc) (w0 h0:Int) (w:World) (hp:plB p=true) (hr:rqW w0 h0=true) :
  Calls Tryz.prog 230 #[.agg #[.int .i64 p.x,.int .i64 p.y,.int .i64 p.rx,.int .i64 p.ry,.int .i64 p.ww,.int .i64 p.hh,.int .i64 p.qw,.int .i64 p.qh,.int .i64 p.an],.int .i64 w0,.int .i64 h0] w fun e w'=>e=.returned (.agg #[.int .i64 (xM p w0),.int .i64 (yM p h0),.int .i64 (wM p w0),.int .i64 (hM p h0)])∧Below w.heap.size w w':=by
 have HBD:=hD (pl_bdW hp hr);have HP:=hD hp
 have hx0:=(Below.heap_alloc (w.alloc (.cells #[.int .i64 p.x,.int .i64 p.y,.int .i64 p.rx,.int .i64 p.ry,.int .i64 p.ww,.int .i64 p.hh,.int .i64 p.qw,.int .i64 p.qh,.int .i64 p.an] 41 (0,0))) (.cells #[.int .i64 0,.int .i64 0,.int .i64 0,.int .i64 0] 32 (0,0)) w.heap.size (by simp)).trans (new_q w (.cells #[.int .i64 p.x,.int .i64 p.y,.int .i64 p.rx,.int .i64 p.ry,.int .i64 p.ww,.int .i64 p.hh,.int .i64 p.qw,.int .i64 p.qh,.int .i64 p.an] 41 (0,0)))
 have hy0:=fZg w (.cells #[.int .i64 p.x,.int .i64 p.y,.int .i64 p.rx,.int .i64 p.ry,.int .i64 p.ww,.int .i64 p.hh,.int .i64 p.qw,.int .i64 p.qh,.int .i64 p.an] 41 (0,0)) (.cells #[.int .i64 0,.int .i64 0,.int .i64 0,.int .i64 0] 32 (0,0));have HX:=hD hx0;have HY:=hD hy0
 have HB:=hD (jZd (o:=.cells #[.int .i64 0,.int .i64 0,.int .i64 0,.int .i64 0] 32 (0,0)) (jZd (o:=.cells #[.int .i64 p.x,.int .i64 p.y,.int .i64 p.rx,.int .i64 p.ry,.int .i64 p.ww,.int .i64 p.hh,.int .i64 p.qw,.int .i64 p.qh,.int .i64 p.an] 41 (0,0)) (Below.refl w.heap.size w)));clear hx0 hy0
 go_enter Tryz.func230,Tryz.ntmps230
 go_wp2_with fail
 refine (fix_w w.heap.size p w0 h0 _ HX.out hp hr).mono ?_;rintro e w2 ⟨⟨v,rfl⟩,hx,hg⟩;replace HY:=hD ((hg.block (w.heap.size+1) (lt_q HY.out) (by simp)).trans HY.out);replace HB:=hD (gnew_q HB.out hg (Nat.le_refl _));obtain ⟨⟨t1,t1'⟩,⟨t2,t2'⟩,-,-,⟨u1,u1'⟩,⟨u2,u2'⟩,⟨a1,a1'⟩,⟨a2,a2'⟩,⟨p1,p1',p1a,p1b⟩,⟨p2,p2',p2a,p2b⟩⟩:=HBD.out;obtain ⟨⟨b1,b1'⟩,⟨b2,b2'⟩,-,-,-,-,-,-,⟨b9,b9'⟩⟩:=sZ4.1 HP.out
 obtain ⟨c0,c1,c2,c3,c4,c5,c6,c7,c8⟩:=c9_q hx;have d0:=cl_q HY.out 0;have d1:=cl_q HY.out 1;have d2:=cl_q HY.out 2;have d3:=cl_q HY.out 3;have f0:=fz_q HY.out 0;have f1:=fz_q HY.out 1;have f2:=fz_q HY.out 2;have f3:=fz_q HY.out 3;have q:=tZq (i:=3) (tZq (i:=2) (tZq (i:=1) (tZq (i:=0) HY.out (.int .i64 (xM p w0))) (.int .i64 (yM p h0))) (.int .i64 (wM p w0))) (.int .i64 (hM p h0))
 simp only [List.setIfInBounds_toArray,List.set_cons_succ,List.set_cons_zero] at q;have HQ:=hD q;have HB2:=hD (bset (a:=⟨w.heap.size+1,3,none⟩) (u:=.int .i64 (hM p h0)) (bset (a:=⟨w.heap.size+1,2,none⟩) (u:=.int .i64 (wM p w0)) (bset (a:=⟨w.heap.size+1,1,none⟩) (u:=.int .i64 (yM p h0)) (bset (a:=⟨w.heap.size+1,0,none⟩) (u:=.int .i64 (xM p w0)) HB.out (by simp)) (by simp)) (by simp)) (by simp))
 clear hx hg HX hp hr q
 go_wp2_with fail
 refine bp_genQ (fun W=>W.heap[w.heap.size+1]?=some (.cells #[.int .i64 (xM p w0),.int .i64 (yM p h0),.int .i64 (wM p w0),.int .i64 (hM p h0)] 32 (0,0))∧Below w.heap.size w W) ⟨HQ.out,HB2.out⟩ ?_;clear HQ HB2 HB HY c0 c1 c2 c3 c4 c5 c6 c7 c8 d0 d1 d2 d3 f0 f1 f2 f3;rintro W ⟨hq,hb⟩;have d0:=cl_q hq 0;have d1:=cl_q hq 1;have d2:=cl_q hq 2;have d3:=cl_q hq 3
 exact bodyPost_ret (v:=.agg #[.int .i64 (xM p w0),.int .i64 (yM p h0),.int .i64 (wM p w0),.int .i64 (hM p h0)]) (by simp only [results,Tryz.results230];go_simp) rfl ⟨rfl,hb⟩
theorem placed_w (p:Plc) (x0 y0 w0 h0:Int) (w:World) (hx0:-1000000000000000≤x0∧x0≤1000000000000000) (hy0:-1000000000000000≤y0∧y0≤1000000000000000) (hp:plB p=true) (hr:rqW w0 h0=true) :
  Calls Tryz.prog 142 #[.agg #[.int .i64 p.x,.int .i64 p.y,.int .i64 p.rx,.int .i64 p.ry,.int .i64 p.ww,.int .i64 p.hh,.int .i64 p.qw,.int .i64 p.qh,.int .i64 p.an],.agg #[.int .i64 (x0),.int .i64 (y0),.int .i64 (w0),.int .i64 (h0)]] w fun e w'=>e=.returned (.agg #[.int .i64 (x0+xM p w0),.int .i64 (y0+yM p h0),.int .i64 (wM p w0),.int .i64 (hM p h0)])∧Below w.heap.size w w':=by
 have HBD:=hD (pl_bdW hp hr);obtain ⟨⟨b1,b1'⟩,⟨b2,b2'⟩,⟨b3,b3'⟩,⟨b4,b4'⟩,⟨b5,b5'⟩,⟨b6,b6'⟩,⟨b7,b7'⟩,⟨b8,b8'⟩,⟨b9,b9'⟩⟩:=sZ4.1 hp;obtain ⟨⟨r1,r1'⟩,⟨r2,r2'⟩⟩:=pZu.1 hr;obtain ⟨⟨t1,t1'⟩,⟨t2,t2'⟩,⟨t3,t3'⟩,⟨t4,t4'⟩,⟨u1,u1'⟩,⟨u2,u2'⟩,⟨a1,a1'⟩,⟨a2,a2'⟩,⟨p1,p1',p1a,p1b⟩,⟨p2,p2',p2a,p2b⟩⟩:=HBD.out;have e1:IntKind.i64.wrap (p.ww+thM p.qw w0)=p.ww+thM p.qw w0:=wr_w (by omega) (by omega)
 have e2:IntKind.i64.wrap (p.hh+thM p.qh h0)=p.hh+thM p.qh h0:=wr_w (by omega) (by omega);have e3:IntKind.i64.wrap (p.x+thM p.rx w0)=p.x+thM p.rx w0:=wr_w (by omega) (by omega);have e4:IntKind.i64.wrap (p.y+thM p.ry h0)=p.y+thM p.ry h0:=wr_w (by omega) (by omega);have e5:IntKind.i64.wrap (wM p w0*(p.an % 3))=wM p w0*(p.an % 3):=wr_w (by omega) (by omega)
 have e6:IntKind.i64.wrap (hM p h0*(p.an / 3))=hM p h0*(p.an / 3):=wr_w (by omega) (by omega);have e7:IntKind.i64.wrap (p.x+thM p.rx w0-wM p w0*(p.an % 3) / 2)=p.x+thM p.rx w0-wM p w0*(p.an % 3) / 2:=wr_w (by omega) (by omega);have e8:IntKind.i64.wrap (p.y+thM p.ry h0-hM p h0*(p.an / 3) / 2)=p.y+thM p.ry h0-hM p h0*(p.an / 3) / 2:=wr_w (by omega) (by omega);obtain ⟨x1,x2⟩:=hx0;obtain ⟨y1,y2⟩:=hy0
 have e9:IntKind.i64.wrap (x0+(p.x+thM p.rx w0-wM p w0*(p.an % 3) / 2))=x0+(p.x+thM p.rx w0-wM p w0*(p.an % 3) / 2):=wr_w (by omega) (by omega);have e10:IntKind.i64.wrap (y0+(p.y+thM p.ry h0-hM p h0*(p.an / 3) / 2))=y0+(p.y+thM p.ry h0-hM p h0*(p.an / 3) / 2):=wr_w (by omega) (by omega);have m1:mx 0 (p.ww+thM p.qw w0)=wM p w0:=vZp _ _;have m2:mx 0 (p.hh+thM p.qh h0)=hM p h0:=vZp _ _
 have kx0:=((Below.heap_alloc _ (.cells #[.int .i64 0,.int .i64 0,.int .i64 0,.int .i64 0] 32 (0,0)) w.heap.size (by simp;omega)).trans ((Below.heap_alloc (w.alloc (.cells #[.int .i64 p.x,.int .i64 p.y,.int .i64 p.rx,.int .i64 p.ry,.int .i64 p.ww,.int .i64 p.hh,.int .i64 p.qw,.int .i64 p.qh,.int .i64 p.an] 41 (0,0))) (.cells #[.int .i64 x0,.int .i64 y0,.int .i64 w0,.int .i64 h0] 32 (0,0)) w.heap.size (by simp)).trans (new_q w (.cells #[.int .i64 p.x,.int .i64 p.y,.int .i64 p.rx,.int .i64 p.ry,.int .i64 p.ww,.int .i64 p.hh,.int .i64 p.qw,.int .i64 p.qh,.int .i64 p.an] 41 (0,0)))))
 have ky0:=(Below.heap_alloc _ (.cells #[.int .i64 0,.int .i64 0,.int .i64 0,.int .i64 0] 32 (0,0)) (w.heap.size+1) (by simp)).trans (fZg w (.cells #[.int .i64 p.x,.int .i64 p.y,.int .i64 p.rx,.int .i64 p.ry,.int .i64 p.ww,.int .i64 p.hh,.int .i64 p.qw,.int .i64 p.qh,.int .i64 p.an] 41 (0,0)) (.cells #[.int .i64 x0,.int .i64 y0,.int .i64 w0,.int .i64 h0] 32 (0,0)))
 have kz0:=newq2 w (.cells #[.int .i64 p.x,.int .i64 p.y,.int .i64 p.rx,.int .i64 p.ry,.int .i64 p.ww,.int .i64 p.hh,.int .i64 p.qw,.int .i64 p.qh,.int .i64 p.an] 41 (0,0)) (.cells #[.int .i64 x0,.int .i64 y0,.int .i64 w0,.int .i64 h0] 32 (0,0)) (.cells #[.int .i64 0,.int .i64 0,.int .i64 0,.int .i64 0] 32 (0,0))
 have hB0:=jZd (o:=.cells #[.int .i64 0,.int .i64 0,.int .i64 0,.int .i64 0] 32 (0,0)) (jZd (o:=.cells #[.int .i64 x0,.int .i64 y0,.int .i64 w0,.int .i64 h0] 32 (0,0)) (jZd (o:=.cells #[.int .i64 p.x,.int .i64 p.y,.int .i64 p.rx,.int .i64 p.ry,.int .i64 p.ww,.int .i64 p.hh,.int .i64 p.qw,.int .i64 p.qh,.int .i64 p.an] 41 (0,0)) (Below.refl w.heap.size w)));have HX0:=hD kx0
 have HY0:=hD ky0;have HZ0:=hD kz0;have HB0:=hD hB0;clear hp hr kx0 ky0 kz0 hB0
 go_enter Tryz.func142,Tryz.ntmps142
 go_wp2_with fail
 refine wp_genG3 (fun W=>W.heap[w.heap.size]?=some (.cells #[.int .i64 p.x,.int .i64 p.y,.int .i64 p.rx,.int .i64 p.ry,.int .i64 p.ww,.int .i64 p.hh,.int .i64 p.qw,.int .i64 p.qh,.int .i64 p.an] 41 (0,0))∧W.heap[w.heap.size+1]?=some (.cells #[.int .i64 x0,.int .i64 y0,.int .i64 w0,.int .i64 h0] 32 (0,0))∧W.heap[w.heap.size+1+1]?=some (.cells #[.int .i64 0,.int .i64 0,.int .i64 0,.int .i64 0] 32 (0,0))∧Below w.heap.size w W) ⟨HX0.out,HY0.out,HZ0.out,HB0.out⟩ (fun w1 h1=>?_)
 clear HX0 HY0 HZ0 HB0;obtain ⟨hx,hy,hz,hb⟩:=h1;have HX:=hD hx;have HY:=hD hy;have HZ:=hD hz;have HB:=hD hb;clear hx hy hz hb;obtain ⟨c0,c1,c2,c3,c4,c5,c6,c7,c8⟩:=c9_q HX.out;have d0:=cl_q HY.out 0;have d1:=cl_q HY.out 1;have d2:=cl_q HY.out 2;have d3:=cl_q HY.out 3;have lx:=lt_q HX.out;have ly:=lt_q HY.out;refine jZg 9 1 (·<9) (by kernel_rfl) (by kernel_rfl) rfl ?_
 iterate 9 (refine jZ3 (fun K hK=>?_);first|(refine kZr rfl ?_;go_simp;refine hK _ ?_;clear hK K)|(apply Exists.intro;refine ⟨.inl ⟨rfl,fun w' hw'=>?_⟩,?_⟩;(focus ((obtain ⟨hc,hf⟩:=kZi hw'.out);(have hcS:=kZq hw'.out);go_simp <;> first | rfl|(go_at_call 174;exact hZ5 _ _ _ (by assumption) (by assumption) (by assumption) (by assumption))));(go_simp;refine hK _ ?_;clear hK K)))
 refine jZ9 ?_;refine jZ1 (by kernel_rfl) (fun w2 hg2=>?_);have hb2:=jZs hg2.out;obtain ⟨hc2,hf2⟩:=kZi hb2;refine jZn (i:=9) (by kernel_rfl) rfl rfl ?_;go_simp;refine jZq (by kernel_rfl) ?_;refine kZ0.thn ?_;clear hc2 hf2;clear hg2;clear c0 c1 c2 c3 c4 c5 c6 c7 c8 d0 d1 d2 d3 lx ly;replace HX:=hbk hb2 HX;replace HY:=hbk hb2 HY;replace HZ:=hbk hb2 HZ
 replace HB:=hD (jZa HB.out hb2);clear hb2;obtain ⟨c0,c1,c2,c3,c4,c5,c6,c7,c8⟩:=c9_q HX.out;have d0:=cl_q HY.out 0;have d1:=cl_q HY.out 1;have d2:=cl_q HY.out 2;have d3:=cl_q HY.out 3;have lx:=lt_q HX.out;have ly:=lt_q HY.out
 go_wp2_with fail
 refine jZg 9 1 (·<9) (by kernel_rfl) (by kernel_rfl) rfl ?_
 iterate 9 (refine jZ3 (fun K hK=>?_);first|(refine kZr rfl ?_;go_simp;refine hK _ ?_;clear hK K)|(apply Exists.intro;refine ⟨.inl ⟨rfl,fun w' hw'=>?_⟩,?_⟩;(focus ((obtain ⟨hc,hf⟩:=kZi hw'.out);(have hcS:=kZq hw'.out);go_simp <;> first | rfl|(go_at_call 174;exact hZ5 _ _ _ (by assumption) (by assumption) (by assumption) (by assumption))));(go_simp;refine hK _ ?_;clear hK K)))
 refine jZ9 ?_;refine jZ1 (by kernel_rfl) (fun w3 hg3=>?_);have hb3:=jZs hg3.out;obtain ⟨hc3,hf3⟩:=kZi hb3;refine jZn (i:=9) (by kernel_rfl) rfl rfl ?_;go_simp;refine jZq (by kernel_rfl) ?_;refine kZ0.thn ?_;clear hc3 hf3;clear hg3;clear c0 c1 c2 c3 c4 c5 c6 c7 c8 d0 d1 d2 d3 lx ly;replace HX:=hbk hb3 HX;replace HY:=hbk hb3 HY;replace HZ:=hbk hb3 HZ
 replace HB:=hD (jZa HB.out hb3);clear hb3;obtain ⟨c0,c1,c2,c3,c4,c5,c6,c7,c8⟩:=c9_q HX.out;have d0:=cl_q HY.out 0;have d1:=cl_q HY.out 1;have d2:=cl_q HY.out 2;have d3:=cl_q HY.out 3;have lx:=lt_q HX.out;have ly:=lt_q HY.out
 go_wp2_with fail
 refine jZg 15 1 (·<15) (by kernel_rfl) (by kernel_rfl) rfl ?_
 iterate 15 (refine jZ3 (fun K hK=>?_);first|(refine kZr rfl ?_;go_simp;refine hK _ ?_;clear hK K)|(apply Exists.intro;refine ⟨.inl ⟨rfl,fun w' hw'=>?_⟩,?_⟩;(focus ((obtain ⟨hc,hf⟩:=kZi hw'.out);(have hcS:=kZq hw'.out);go_simp <;> first | rfl|(go_at_call 174;exact hZ5 _ _ _ (by assumption) (by assumption) (by assumption) (by assumption))));(go_simp;refine hK _ ?_;clear hK K)))
 refine jZ9 ?_;refine jZ1 (by kernel_rfl) (fun w4 hg4=>?_);have hb4:=jZs hg4.out;obtain ⟨hc4,hf4⟩:=kZi hb4;refine jZn (i:=15) (by kernel_rfl) rfl rfl ?_;go_simp;refine jZq (by kernel_rfl) ?_;refine kZ0.thn ?_;clear hc4 hf4;clear hg4;clear c0 c1 c2 c3 c4 c5 c6 c7 c8 d0 d1 d2 d3 lx ly;replace HX:=hbk hb4 HX;replace HY:=hbk hb4 HY;replace HZ:=hbk hb4 HZ
 replace HB:=hD (jZa HB.out hb4);clear hb4;obtain ⟨c0,c1,c2,c3,c4,c5,c6,c7,c8⟩:=c9_q HX.out;have d0:=cl_q HY.out 0;have d1:=cl_q HY.out 1;have d2:=cl_q HY.out 2;have d3:=cl_q HY.out 3;have lx:=lt_q HX.out;have ly:=lt_q HY.out
 go_wp2_with fail
 refine jZg 15 1 (·<15) (by kernel_rfl) (by kernel_rfl) rfl ?_
 iterate 15 (refine jZ3 (fun K hK=>?_);first|(refine kZr rfl ?_;go_simp;refine hK _ ?_;clear hK K)|(apply Exists.intro;refine ⟨.inl ⟨rfl,fun w' hw'=>?_⟩,?_⟩;(focus ((obtain ⟨hc,hf⟩:=kZi hw'.out);(have hcS:=kZq hw'.out);go_simp <;> first | rfl|(go_at_call 174;exact hZ5 _ _ _ (by assumption) (by assumption) (by assumption) (by assumption))));(go_simp;refine hK _ ?_;clear hK K)))
 refine jZ9 ?_;refine jZ1 (by kernel_rfl) (fun w5 hg5=>?_);have hb5:=jZs hg5.out;obtain ⟨hc5,hf5⟩:=kZi hb5;refine jZn (i:=15) (by kernel_rfl) rfl rfl ?_;go_simp;refine jZq (by kernel_rfl) ?_;refine kZ0.thn ?_;clear hc5 hf5;clear hg5;clear c0 c1 c2 c3 c4 c5 c6 c7 c8 d0 d1 d2 d3 lx ly;replace HX:=hbk hb5 HX;replace HY:=hbk hb5 HY;replace HZ:=hbk hb5 HZ
 replace HB:=hD (jZa HB.out hb5);clear hb5;obtain ⟨c0,c1,c2,c3,c4,c5,c6,c7,c8⟩:=c9_q HX.out;have d0:=cl_q HY.out 0;have d1:=cl_q HY.out 1;have d2:=cl_q HY.out 2;have d3:=cl_q HY.out 3;have lx:=lt_q HX.out;have ly:=lt_q HY.out;have z0:=cl_q HZ.out 0;have z1:=cl_q HZ.out 1;have z2:=cl_q HZ.out 2;have z3:=cl_q HZ.out 3;have f0:=fz_q HZ.out 0;have f1:=fz_q HZ.out 1;have f2:=fz_q HZ.out 2
 have f3:=fz_q HZ.out 3;have q:=tZq (i:=3) (tZq (i:=2) (tZq (i:=1) (tZq (i:=0) HZ.out (.int .i64 (x0+xM p w0))) (.int .i64 (y0+yM p h0))) (.int .i64 (wM p w0))) (.int .i64 (hM p h0));simp only [List.setIfInBounds_toArray,List.set_cons_succ,List.set_cons_zero] at q;have HQ:=hD q
 have HB2:=hD (bset (a:=⟨w.heap.size+1+1,3,none⟩) (u:=.int .i64 (hM p h0)) (bset (a:=⟨w.heap.size+1+1,2,none⟩) (u:=.int .i64 (wM p w0)) (bset (a:=⟨w.heap.size+1+1,1,none⟩) (u:=.int .i64 (y0+yM p h0)) (bset (a:=⟨w.heap.size+1+1,0,none⟩) (u:=.int .i64 (x0+xM p w0)) HB.out (by simp;omega)) (by simp;omega)) (by simp;omega)) (by simp;omega));clear q
 go_wp2_with fail
 refine bp_genQ (fun W=>W.heap[w.heap.size+1+1]?=some (.cells #[.int .i64 (x0+xM p w0),.int .i64 (y0+yM p h0),.int .i64 (wM p w0),.int .i64 (hM p h0)] 32 (0,0))∧Below w.heap.size w W) ⟨HQ.out,HB2.out⟩ ?_;clear HQ HB2 HB HY HX HZ z0 z1 z2 z3 f0 f1 f2 f3;clear c0 c1 c2 c3 c4 c5 c6 c7 c8 d0 d1 d2 d3 lx ly;rintro W ⟨hq,hb⟩;have d0:=cl_q hq 0;have d1:=cl_q hq 1;have d2:=cl_q hq 2;have d3:=cl_q hq 3
 exact bodyPost_ret (v:=.agg #[.int .i64 (x0+xM p w0),.int .i64 (y0+yM p h0),.int .i64 (wM p w0),.int .i64 (hM p h0)]) (by simp only [results,Tryz.results142];go_simp) rfl ⟨rfl,hb⟩
end
section
attribute [local go_sem] jZ0 jZ5 jZ2
def inC (n m:Nat) (p:Ce):Prop:=(0≤p.co∧1≤p.mc∧p.co+p.mc≤n)∧(0≤p.ro∧1≤p.mr∧p.ro+p.mr≤m)∧(0≤p.sk∧p.sk≤15)
structure GW (L1 L2:List Ln) (L3:List Ce):Prop where
 v1:kZd L1=true
 v2:kZd L2=true
 hl8:L3.length≤10
 hsm:∀ p∈L3,smW p
 s1:pZ7 L1.length (L3.map acM)
 s2:pZ7 L2.length (L3.map dnM)
 n1:L1.length≤5
 n2:L2.length≤5
 hin:∀ p∈L3,inC L1.length L2.length p
theorem qZ4 {L:List Ln} {S:List Sp} {room:Int} (hL:kZd L=true) (hS:pZ7 L.length S) (hr0:0≤room) (hr1:room≤20000000000000):(kZa L S room).length=L.length:=(sZ3 hL hS hr0 hr1).2.1
theorem edges_w (A1:Option Addr) (c1:Nat) (L1:List Ln) (A2:Option Addr) (c2:Nat) (L2:List Ln) (A3:Option Addr) (c3:Nat) (L3:List Ce) (u v:Int) (w:World) (h1:LnV w A1 L1) (h2:LnV w A2 L2) (h3:CeV w A3 L3) (gf:GW L1 L2 L3) (hu:rqW u v=true) :
  Calls Tryz.prog 203 #[.agg #[.slice A1 L1.length c1,.slice A2 L2.length c2,.slice A3 L3.length c3],.int .i64 u,.int .i64 v] w fun e w'=>(∃ B1 e1 B2 e2,e=.returned (.tuple #[.slice B1 (L1.length+1) e1,.slice B2 (L2.length+1) e2])∧NV w' B1 (edL (kZa L1 (L3.map acM) u))∧NV w' B2 (edL (kZa L2 (L3.map dnM) v)))∧Below w.heap.size w w':=by
 obtain ⟨⟨u0,u1⟩,⟨y0,y1⟩⟩:=pZu.1 hu;have hl8:=gf.hl8;have n1:=gf.n1;have n2:=gf.n2;have HF:=hD gf;have M1:=hD (bZx gf.v1 gf.s1 u0 u1);have M2:=hD (bZx gf.v2 gf.s2 y0 y1);have HL1:=hD (qZ4 (room:=u) gf.v1 gf.s1 u0 u1);have HL2:=hD (qZ4 (room:=v) gf.v2 gf.s2 y0 y1)
 have hB0:Below w.heap.size w (w.alloc (.cells #[.slice A1 L1.length c1,.slice A2 L2.length c2,.slice A3 L3.length c3] 128 (0,0))):=jZd (Below.refl _ _);have HX:=hD (newS w (.cells #[.slice A1 L1.length c1,.slice A2 L2.length c2,.slice A3 L3.length c3] 128 (0,0)));have HV1:=hD (h1.keep hB0);have HV2:=hD (h2.keep hB0);have HV3:=hD (h3.keep hB0);have HB:=hD hB0;clear hB0 h1 h2 h3 gf hu
 go_enter Tryz.func203,Tryz.ntmps203
 have d0:=jZc HX.out 0;have d1:=jZc HX.out 1;have d2:=jZc HX.out 2;have lx:=ltS HX.out
 go_wp2_with fail
 refine kZ8 (XV (.pointer (some ⟨w.heap.size,0,none⟩)) :: XV (.slice A1 L1.length c1) :: XV (.pointer (some ⟨w.heap.size,2,none⟩)) :: XV (.slice A3 L3.length c3) :: (fun z9 w=>SpR w z9 (L3.map acM)) :: XV (.int .i64 u) :: (fun x w=>NRz w x L1.length (kZa L1 (L3.map acM) u)) :: (fun x w=>NRz w x L1.length (kZa L1 (L3.map acM) u)) :: []) (by kernel_rfl) (by kernel_rfl) ?hTs ?hops ?hfin
 case hTs =>
  intro T hT;simp only [List.mem_cons,List.not_mem_nil,or_false] at hT
  rcases hT with rfl | rfl | rfl | rfl | rfl | rfl | rfl | rfl <;> first | exact qZn _ | exact qZo | exact kZh (fun v a b x g=>x.keep g) | exact kZh (fun v a b x g=>x)
 case hops =>
  refine ⟨jZb [(3,none)] (by kernel_rfl) rfl ?_,?_⟩
  ·intro act w' hw' h1;obtain ⟨hk,hf⟩:=evkf act;generalize act.eval=ρ at *;replace h1:ρ (.tmp 3)=.pointer (some ⟨w.heap.size,0,none⟩):=h1
   refine gxB hw' fun K hK hc hf'=>?_
   go_simp;exact hK _ _ ⟨rfl,Gr.refl _⟩
  refine ⟨jZb [(10,some 0)] (by kernel_rfl) rfl ?_,?_⟩
  ·intro act w' hw' h1;obtain ⟨hk,hf⟩:=evkf act;generalize act.eval=ρ at *;replace h1:ρ (.tmp 10)=.pointer (some ⟨w.heap.size,0,none⟩):=h1
   refine gxB hw' fun K hK hc hf'=>?_
   go_simp;exact hK _ _ ⟨rfl,Gr.refl _⟩
  refine ⟨jZb [(3,none)] (by kernel_rfl) rfl ?_,?_⟩
  ·intro act w' hw' h1;obtain ⟨hk,hf⟩:=evkf act;generalize act.eval=ρ at *;replace h1:ρ (.tmp 3)=.pointer (some ⟨w.heap.size,0,none⟩):=h1
   refine gxB hw' fun K hK hc hf'=>?_
   go_simp;exact hK _ _ ⟨rfl,Gr.refl _⟩
  refine ⟨jZb [(12,some 2)] (by kernel_rfl) rfl ?_,?_⟩
  ·intro act w' hw' h1;obtain ⟨hk,hf⟩:=evkf act;generalize act.eval=ρ at *;replace h1:ρ (.tmp 12)=.pointer (some ⟨w.heap.size,2,none⟩):=h1
   refine gxB hw' fun K hK hc hf'=>?_
   go_simp;exact hK _ _ ⟨rfl,Gr.refl _⟩
  refine ⟨jZb [(13,some 3)] (by kernel_rfl) rfl ?_,?_⟩
  ·intro act w' hw' h1;obtain ⟨hk,hf⟩:=evkf act;generalize act.eval=ρ at *;replace h1:ρ (.tmp 13)=.slice A3 L3.length c3:=h1
   refine gxB hw' fun K hK hc hf'=>?_
   go_simp
   (with_reducible refine (vZy A3 c3 L3 _ (HV3.out.keep (jZs hw'.out)) (by omega) HF.out.hsm).mono ?_);rintro e w1 ⟨rfl,hr1,hb1⟩;exact ⟨_,rfl,hK _ _ ⟨⟨_,_,by rw [List.length_map],hr1.v⟩,hb1⟩⟩
  refine ⟨jZb [(1,none)] (by kernel_rfl) rfl ?_,?_⟩
  ·intro act w' hw' h1;obtain ⟨hk,hf⟩:=evkf act;generalize act.eval=ρ at *;replace h1:ρ (.tmp 1)=.int .i64 u:=h1
   refine gxB hw' fun K hK hc hf'=>?_
   go_simp;exact hK _ _ ⟨rfl,Gr.refl _⟩
  refine ⟨jZb [(11,some 1),(14,some 4),(15,some 5)] (by kernel_rfl) rfl ?_,?_⟩
  ·intro act w' hw' h1 h2 h3;obtain ⟨hk,hf⟩:=evkf act;generalize act.eval=ρ at *;replace h1:ρ (.tmp 11)=.slice A1 L1.length c1:=h1;replace h2:(fun z9 w=>SpR w z9 (L3.map acM)) (ρ (.tmp 14)) w':=h2;replace h3:ρ (.tmp 15)=.int .i64 u:=h3
   refine gxB hw' fun K hK hc hf'=>?_
   go_simp;obtain ⟨A,c,e,hs⟩:=h2;rw [e];(with_reducible refine (cZe A1 c1 L1 A c (L3.map acM) u _ (HV1.out.keep (jZs hw'.out)) HF.out.v1 hs HF.out.s1 u0 u1).mono ?_);rintro e w1 ⟨⟨g,rfl,_,hr1⟩,hb1⟩;exact ⟨_,rfl,hK _ _ ⟨⟨_,_,rfl,hr1.nv⟩,hb1⟩⟩
  refine ⟨jZb [(16,some 6)] (by kernel_rfl) rfl ?_,?_⟩
  ·intro act w' hw' h1;obtain ⟨hk,hf⟩:=evkf act;generalize act.eval=ρ at *;replace h1:(fun x w=>NRz w x L1.length (kZa L1 (L3.map acM) u)) (ρ (.tmp 16)) w':=h1
   refine gxB hw' fun K hK hc hf'=>?_
   go_simp;exact hK _ _ ⟨h1,Gr.refl _⟩
  exact trivial
 case hfin =>
  intro w1 hg1;intro v10 t10;replace t10:v10=.pointer (some ⟨w.heap.size,0,none⟩):=t10;subst t10;intro v11 t11;replace t11:v11=.slice A1 L1.length c1:=t11;subst t11;intro v12 t12;replace t12:v12=.pointer (some ⟨w.heap.size,2,none⟩):=t12;subst t12;intro v13 t13;replace t13:v13=.slice A3 L3.length c3:=t13;subst t13;intro v14 t14;replace t14:(fun z9 w=>SpR w z9 (L3.map acM)) v14 w1:=t14;intro v15 t15
  replace t15:v15=.int .i64 u:=t15;subst t15;intro v16 t16;replace t16:(fun x w=>NRz w x L1.length (kZa L1 (L3.map acM) u)) v16 w1:=t16;intro v8 t8;replace t8:(fun x w=>NRz w x L1.length (kZa L1 (L3.map acM) u)) v8 w1:=t8;have hb1:=jZs hg1.out;clear hg1;simp only [finP,Act.put,List.setIfInBounds_toArray,List.set_cons_succ,List.set_cons_zero];obtain ⟨B1,e1,rfl,hn1⟩:=t8
  clear t14 t16 d0 d1 d2 lx;replace HX:=hbk hb1 HX;replace HV1:=hD (HV1.out.keep hb1);replace HV2:=hD (HV2.out.keep hb1);replace HV3:=hD (HV3.out.keep hb1);replace HB:=hD (jZa HB.out hb1);clear hb1;have HN1:=hD hn1;clear hn1;have d0:=jZc HX.out 0;have d1:=jZc HX.out 1;have d2:=jZc HX.out 2;have lx:=ltS HX.out
  go_wp2_with fail
  refine kZ8 (XV (.pointer (some ⟨w.heap.size,1,none⟩)) :: XV (.slice A2 L2.length c2) :: XV (.pointer (some ⟨w.heap.size,2,none⟩)) :: XV (.slice A3 L3.length c3) :: (fun z9 w=>SpR w z9 (L3.map dnM)) :: XV (.int .i64 v) :: (fun x w=>NRz w x L2.length (kZa L2 (L3.map dnM) v)) :: (fun x w=>NRz w x L2.length (kZa L2 (L3.map dnM) v)) :: []) (by kernel_rfl) (by kernel_rfl) ?hTs ?hops ?hfin
  case hTs =>
   intro T hT;simp only [List.mem_cons,List.not_mem_nil,or_false] at hT
   rcases hT with rfl | rfl | rfl | rfl | rfl | rfl | rfl | rfl <;> first | exact qZn _ | exact qZo | exact kZh (fun v a b x g=>x.keep g) | exact kZh (fun v a b x g=>x)
  case hops =>
   refine ⟨jZb [(3,none)] (by kernel_rfl) rfl ?_,?_⟩
   ·intro act w' hw' h1;obtain ⟨hk,hf⟩:=evkf act;generalize act.eval=ρ at *;replace h1:ρ (.tmp 3)=.pointer (some ⟨w.heap.size,0,none⟩):=h1
    refine gxB hw' fun K hK hc hf'=>?_
    go_simp;exact hK _ _ ⟨rfl,Gr.refl _⟩
   refine ⟨jZb [(17,some 0)] (by kernel_rfl) rfl ?_,?_⟩
   ·intro act w' hw' h1;obtain ⟨hk,hf⟩:=evkf act;generalize act.eval=ρ at *;replace h1:ρ (.tmp 17)=.pointer (some ⟨w.heap.size,1,none⟩):=h1
    refine gxB hw' fun K hK hc hf'=>?_
    go_simp;exact hK _ _ ⟨rfl,Gr.refl _⟩
   refine ⟨jZb [(3,none)] (by kernel_rfl) rfl ?_,?_⟩
   ·intro act w' hw' h1;obtain ⟨hk,hf⟩:=evkf act;generalize act.eval=ρ at *;replace h1:ρ (.tmp 3)=.pointer (some ⟨w.heap.size,0,none⟩):=h1
    refine gxB hw' fun K hK hc hf'=>?_
    go_simp;exact hK _ _ ⟨rfl,Gr.refl _⟩
   refine ⟨jZb [(19,some 2)] (by kernel_rfl) rfl ?_,?_⟩
   ·intro act w' hw' h1;obtain ⟨hk,hf⟩:=evkf act;generalize act.eval=ρ at *;replace h1:ρ (.tmp 19)=.pointer (some ⟨w.heap.size,2,none⟩):=h1
    refine gxB hw' fun K hK hc hf'=>?_
    go_simp;exact hK _ _ ⟨rfl,Gr.refl _⟩
   refine ⟨jZb [(20,some 3)] (by kernel_rfl) rfl ?_,?_⟩
   ·intro act w' hw' h1;obtain ⟨hk,hf⟩:=evkf act;generalize act.eval=ρ at *;replace h1:ρ (.tmp 20)=.slice A3 L3.length c3:=h1
    refine gxB hw' fun K hK hc hf'=>?_
    go_simp
    (with_reducible refine (cZ4 A3 c3 L3 _ (HV3.out.keep (jZs hw'.out)) (by omega) HF.out.hsm).mono ?_);rintro e w1 ⟨rfl,hr1,hb1⟩;exact ⟨_,rfl,hK _ _ ⟨⟨_,_,by rw [List.length_map],hr1.v⟩,hb1⟩⟩
   refine ⟨jZb [(2,none)] (by kernel_rfl) rfl ?_,?_⟩
   ·intro act w' hw' h1;obtain ⟨hk,hf⟩:=evkf act;generalize act.eval=ρ at *;replace h1:ρ (.tmp 2)=.int .i64 v:=h1
    refine gxB hw' fun K hK hc hf'=>?_
    go_simp;exact hK _ _ ⟨rfl,Gr.refl _⟩
   refine ⟨jZb [(18,some 1),(21,some 4),(22,some 5)] (by kernel_rfl) rfl ?_,?_⟩
   ·intro act w' hw' h1 h2 h3;obtain ⟨hk,hf⟩:=evkf act;generalize act.eval=ρ at *;replace h1:ρ (.tmp 18)=.slice A2 L2.length c2:=h1;replace h2:(fun z9 w=>SpR w z9 (L3.map dnM)) (ρ (.tmp 21)) w':=h2;replace h3:ρ (.tmp 22)=.int .i64 v:=h3
    refine gxB hw' fun K hK hc hf'=>?_
    go_simp;obtain ⟨A,c,e,hs⟩:=h2;rw [e];(with_reducible refine (cZe A2 c2 L2 A c (L3.map dnM) v _ (HV2.out.keep (jZs hw'.out)) HF.out.v2 hs HF.out.s2 y0 y1).mono ?_);rintro e w1 ⟨⟨g,rfl,_,hr1⟩,hb1⟩;exact ⟨_,rfl,hK _ _ ⟨⟨_,_,rfl,hr1.nv⟩,hb1⟩⟩
   refine ⟨jZb [(23,some 6)] (by kernel_rfl) rfl ?_,?_⟩
   ·intro act w' hw' h1;obtain ⟨hk,hf⟩:=evkf act;generalize act.eval=ρ at *;replace h1:(fun x w=>NRz w x L2.length (kZa L2 (L3.map dnM) v)) (ρ (.tmp 23)) w':=h1
    refine gxB hw' fun K hK hc hf'=>?_
    go_simp;exact hK _ _ ⟨h1,Gr.refl _⟩
   exact trivial
  case hfin =>
   intro w2 hg2;intro v17 t17;replace t17:v17=.pointer (some ⟨w.heap.size,1,none⟩):=t17;subst t17;intro v18 t18;replace t18:v18=.slice A2 L2.length c2:=t18;subst t18;intro v19 t19;replace t19:v19=.pointer (some ⟨w.heap.size,2,none⟩):=t19;subst t19;intro v20 t20;replace t20:v20=.slice A3 L3.length c3:=t20;subst t20;intro v21 t21;replace t21:(fun z9 w=>SpR w z9 (L3.map dnM)) v21 w2:=t21
   intro v22 t22;replace t22:v22=.int .i64 v:=t22;subst t22;intro v23 t23;replace t23:(fun x w=>NRz w x L2.length (kZa L2 (L3.map dnM) v)) v23 w2:=t23;intro v9 t9;replace t9:(fun x w=>NRz w x L2.length (kZa L2 (L3.map dnM) v)) v9 w2:=t9;have hb2:=jZs hg2.out;clear hg2;simp only [finP,Act.put,List.setIfInBounds_toArray,List.set_cons_succ,List.set_cons_zero];obtain ⟨B2,e2,rfl,hn2⟩:=t9
   clear t21 t23 d0 d1 d2 lx;replace HX:=hbk hb2 HX;replace HN1:=hD (HN1.out.keep hb2);replace HB:=hD (jZa HB.out hb2);clear hb2;have HN2:=hD hn2;clear hn2
   go_wp2_with fail
   with_reducible refine (gZo B1 e1 L1.length _ _ HN1.out HL1.out.symm (Nat.le_trans M1.out.2 (by omega)) M1.out.1).mono ?_
   rintro e w3 ⟨rfl,hi1,hb3⟩;replace HX:=hbk hb3 HX;replace HN2:=hD (HN2.out.keep hb3);replace HB:=hD (jZa HB.out hb3);clear hb3;have HI1:=hD hi1.nv;clear hi1
   go_wp2_with fail
   with_reducible refine (gZo B2 e2 L2.length _ _ HN2.out HL2.out.symm (Nat.le_trans M2.out.2 (by omega)) M2.out.1).mono ?_
   rintro e w4 ⟨rfl,hi2,hb4⟩;replace HX:=hbk hb4 HX;replace HI1:=hD (HI1.out.keep hb4);replace HB:=hD (jZa HB.out hb4);clear hb4;have HI2:=hD hi2.nv;clear hi2;go_wp2
   exact bodyPost_ret (v:=.tuple #[.slice (some ⟨w2.heap.size,0,none⟩) (L1.length+1) (L1.length+1),.slice (some ⟨w3.heap.size,0,none⟩) (L2.length+1) (L2.length+1)]) (by simp only [results,Tryz.results203];go_simp) rfl ⟨⟨_,_,_,_,rfl,HI1.out,HI2.out⟩,HB.out⟩
end
theorem stkS_in {x room wish:Int} {lo hi:Bool} (hr:0≤room) (hw:0≤wish):x≤(stkS x room wish lo hi).1∧(stkS x room wish lo hi).1+(stkS x room wish lo hi).2≤x+room∧0≤(stkS x room wish lo hi).2∧(wish≤room→wish≤(stkS x room wish lo hi).2):=by
 have hm:=jZz wish room
 cases lo <;> cases hi <;> simp [stkS] <;> omega
theorem ins_in {a:Re} {p q:Int} (hu:0≤a.u) (hv:0≤a.v) (hp:0≤p) (hq:0≤q) :
  (a.x≤(insR a p q).x∧(insR a p q).x+(insR a p q).u≤a.x+a.u∧0≤(insR a p q).u∧(2*p≤a.u→(insR a p q).u=a.u-2*p)) ∧
  (a.y≤(insR a p q).y∧(insR a p q).y+(insR a p q).v≤a.y+a.v∧0≤(insR a p q).v∧(2*q≤a.v→(insR a p q).v=a.v-2*q)):=by
 have h1:=jZz p (a.u / 2);have h2:=jZz q (a.v / 2);have h3:=kZc (a.u-2*p) 0;have h4:=kZc (a.v-2*q) 0;simp only [insR];omega
theorem cell_in {S1 S2:List Int} {c:Ce} (h1:∀ x∈S1,0≤x) (h2:∀ x∈S2,0≤x) (hc:smW c) :
  ((pZm S1 S2 c).x≤(qZf S1 S2 c).x∧(qZf S1 S2 c).x+(qZf S1 S2 c).u≤(pZm S1 S2 c).x+(pZm S1 S2 c).u∧0≤(qZf S1 S2 c).u∧(c.cw+2*c.px≤(pZm S1 S2 c).u→c.cw≤(qZf S1 S2 c).u)) ∧
  ((pZm S1 S2 c).y≤(qZf S1 S2 c).y∧(qZf S1 S2 c).y+(qZf S1 S2 c).v≤(pZm S1 S2 c).y+(pZm S1 S2 c).v∧0≤(qZf S1 S2 c).v∧(c.ch+2*c.py≤(pZm S1 S2 c).v→c.ch≤(qZf S1 S2 c).v)):=by
 obtain ⟨⟨b1,b2⟩,⟨b3,b4⟩,⟨b5,b6⟩,⟨b7,b8⟩⟩:=hc;have hu:0≤(pZm S1 S2 c).u:=kZ9 (fun x hx=>h1 x (sZu hx));have hv:0≤(pZm S1 S2 c).v:=kZ9 (fun x hx=>h2 x (sZu hx));obtain ⟨⟨i1,i2,i3,i4⟩,j1,j2,j3,j4⟩:=ins_in (p:=c.px) (q:=c.py) hu hv b5 b7
 have e1:=stkS_in (x:=(insR (pZm S1 S2 c) c.px c.py).x) (room:=(insR (pZm S1 S2 c) c.px c.py).u) (wish:=c.cw) (lo:=decide (c.sk % 2=1)) (hi:=decide (c.sk / 2 % 2=1)) i3 b1;have e2:=stkS_in (x:=(insR (pZm S1 S2 c) c.px c.py).y) (room:=(insR (pZm S1 S2 c) c.px c.py).v) (wish:=c.ch) (lo:=decide (c.sk / 4 % 2=1)) (hi:=decide (c.sk / 8=1)) j3 b3;simp only [qZf];omega
theorem fm_get {α β:Type} {f:α→Option β}:∀ {l:List α},(∀ x∈l,∃ y,f x=some y)→∀ j:Nat,(l.filterMap f)[j]?=(l[j]?).bind f
 | [],_,j=>by simp
 | x :: t,h,j=>by
  obtain ⟨y,hy⟩:=h x List.mem_cons_self;rw [List.filterMap_cons_some hy]
  cases j with
  | zero=>simp [hy]
  | succ j=>simpa using fm_get (fun z hz=>h z (List.mem_cons_of_mem _ hz)) j
theorem fm_len {α β:Type} {f:α→Option β}:∀ {l:List α},(∀ x∈l,∃ y,f x=some y)→(l.filterMap f).length=l.length
 | [],_=>rfl
 | x :: t,h=>by
  obtain ⟨y,hy⟩:=h x List.mem_cons_self;rw [List.filterMap_cons_some hy,List.length_cons,List.length_cons,fm_len (fun z hz=>h z (List.mem_cons_of_mem _ hz))]
def plsF (L:List Nd) (ks:List Nat):List Plc:=ks.filterMap fun k=>(L[k]?).map fun m=>m.pl
def rcRe (r:Rc):Re:=⟨r.x,r.y,r.u,r.v⟩
def plR (u v:Int) (p:Plc):Re:=⟨xM p u,yM p v,wM p u,hM p v⟩
def cZt (L:List Nd) (i:Nat) (n:Nd) (u v:Int):List Re :=
 if n.ki=1 then (cesF L (szM L) (kidD L i)).map (qZf (kZa n.cs ((cesF L (szM L) (kidD L i)).map acM) u) (kZa n.rs ((cesF L (szM L) (kidD L i)).map dnM) v))
 else if n.ki=2 then (plsF L (kidD L i)).map (plR u v)
 else (setL (pksF L (szM L) (kidD L i)) (qZh (pksF L (szM L) (kidD L i)) ⟨0,0,u,v⟩).1).map rcRe
def kidR (L:List Nd) (i:Nat) (n:Nd) (r:Re):List Re:=(cZt L i n r.u r.v).map fun q=>q.at r.x r.y
theorem kid_some {L:List Nd} {ks:List Nat} (hk:∀ k∈ks,k<L.length) {β:Type} (g:Nat→Nd→β):∀ k∈ks,∃ y,(L[k]?).map (g k)=some y:=fun k h=>⟨_,by rw [List.getElem?_eq_getElem (hk k h)];rfl⟩
theorem plsF_len {L:List Nd} {ks:List Nat} (hk:∀ k∈ks,k<L.length):(plsF L ks).length=ks.length:=fm_len (kid_some hk fun _ m=>m.pl)
theorem fZq (L:List Nd) (i:Nat) (n:Nd) (u v:Int):(cZt L i n u v).length=(kidD L i).length:=by
 have hk:∀ k∈kidD L i,k<L.length:=fun k h=>rZb h
 unfold cZt
 split
 ·rw [List.length_map,dZ9 hk]
 ·split
  ·rw [List.length_map,plsF_len hk]
  ·rw [List.length_map,uZy sZe,eZ2 hk]
theorem kidR_len (L:List Nd) (i:Nat) (n:Nd) (r:Re):(kidR L i n r).length=(kidD L i).length:=by unfold kidR;rw [List.length_map,fZq]
def posN (k:Nat):List Nat→Nat
 | []=>0
 | x :: t=>if x=k then 0 else posN k t+1
theorem posN_get {k:Nat}:∀ {l:List Nat} {j:Nat},l.Pairwise (· < ·)→l[j]?=some k→posN k l=j
 | [],j,_,h=>by simp at h
 | x :: t,0,_,h=>by
  simp at h
  simp [posN,h]
 | x :: t,j+1,hp,h=>by
  have h':t[j]?=some k:=by simpa using h
  have hx:=(List.pairwise_cons.1 hp).1 k (List.mem_of_getElem? h')
  have:=posN_get (List.pairwise_cons.1 hp).2 h'
  unfold posN;rw [if_neg (by omega),this]
theorem kidD_asc (L:List Nd) (i:Nat):(kidD L i).Pairwise (· < ·):=by
 unfold kidD idsN;exact List.pairwise_lt_range.filter _
def lrF (L:List Nd) (w h:Int):Nat→Nat→Re
 | 0,_=>⟨0,0,w,h⟩
 | f+1,i=>match L[i]? with
  | none=>⟨0,0,w,h⟩
  | some m=>if i=0 then ⟨0,0,w,h⟩ else match L[m.pa.toNat]? with
   | none=>⟨0,0,w,h⟩
   | some n=>((kidR L m.pa.toNat n (lrF L w h f m.pa.toNat))[posN i (kidD L m.pa.toNat)]?).getD ⟨0,0,w,h⟩
def lrM (L:List Nd) (w h:Int) (i:Nat):Re:=lrF L w h (i+1) i
theorem bZg (L:List Nd) (w h:Int):lrM L w h 0=⟨0,0,w,h⟩:=by
 show lrF L w h 1 0=_
 cases hn:L[0]? with
 | none=>simp only [lrF,hn]
 | some m=>simp only [lrF,hn,if_true]
theorem lrF_fuel {L:List Nd} (hT:TrOK L) (w h:Int):∀ (f g i:Nat),i<f→i<g→lrF L w h f i=lrF L w h g i:=by
 intro f
 induction f with
 | zero=>intro g i h1;omega
 | succ f ih =>
  intro g i h1 h2
  cases g with
  | zero=>omega
  | succ g =>
   cases hn:L[i]? with
   | none=>simp only [lrF,hn]
   | some m =>
    simp only [lrF,hn]
    by_cases h0:i=0
    ·rw [if_pos h0,if_pos h0]
    ·rw [if_neg h0,if_neg h0]
     have hp:m.pa.toNat<i:=by
      rcases hT.up i m hn with ⟨e,_⟩ | ⟨_,h3,h4⟩
      ·exact absurd e h0
      ·omega
     rw [ih g m.pa.toNat (by omega) (by omega)]
theorem hZp {L:List Nd} (hT:TrOK L) {w h:Int} {p j k:Nat} {n:Nd} (hn:L[p]?=some n) (hk:(kidD L p)[j]?=some k) {q:Re} (hq:(kidR L p n (lrM L w h p))[j]?=some q):lrM L w h k=q:=by
 have hmem:=List.mem_of_getElem? hk
 obtain ⟨m,hm⟩:∃ m,L[k]?=some m:=⟨_,List.getElem?_eq_getElem (rZb hmem)⟩
 have hpa:=bZv hmem hm;have hgt:=vZq hT hmem
 have ep:m.pa.toNat=p:=by omega
 show lrF L w h (k+1) k=q
 simp only [lrF,hm];rw [if_neg (by omega),ep];simp only [hn];rw [posN_get (kidD_asc L p) hk,lrF_fuel hT w h k (p+1) p (by omega) (by omega)]
 show ((kidR L p n (lrM L w h p))[j]?).getD _=q
 rw [hq]
 rfl
theorem kid_of {L:List Nd} (hT:TrOK L) {k:Nat} (h0:0<k) (hk:k<L.length):∃ (p j:Nat) (n:Nd),p<k∧L[p]?=some n∧(kidD L p)[j]?=some k:=by
 obtain ⟨m,hm⟩:∃ m,L[k]?=some m:=⟨_,List.getElem?_eq_getElem hk⟩
 rcases hT.up k m hm with ⟨e,_⟩ | ⟨_,h3,h4⟩
 ·omega
 ·obtain ⟨j,hj⟩:=List.getElem?_of_mem (hZ3 (i:=m.pa.toNat) hm (by omega));exact ⟨m.pa.toNat,j,L[m.pa.toNat]'(by omega),by omega,List.getElem?_eq_getElem (by omega),hj⟩
theorem cutP_innW {r:Rc} {s n:Int} (hr:r.okW) (hn:0≤n):r.inn (cutP r s n).1∧r.inn (cutP r s n).2:=by
 obtain ⟨⟨⟨a1,a2⟩,a3,a4⟩,⟨a5,a6⟩,a7,a8⟩:=hr;have m1:=jZz n r.u;have m2:=jZz n r.v;unfold cutP Rc.inn
 split
 ·dsimp only;omega
 ·split
  ·dsimp only;omega
  ·split
   ·dsimp only;omega
   ·dsimp only;omega
theorem fZa:∀ {L:List Pk} {z:Rc},(∀ p∈L,p.big)→z.okW→∀ r∈(qZh L z).1,z.inn r∧r.okW
 | [],z,_,_,r,hr=>by simp [qZh] at hr
 | p :: t,z,hL,hz,r,hr=>by
  have tk:=tZd hL hz;obtain ⟨o1,o2⟩:=sZi (s:=p.s) (n:=pZt p t z) hz tk.1;obtain ⟨i1,i2⟩:=cutP_innW (s:=p.s) hz tk.1;simp only [qZh,List.mem_cons] at hr
  rcases hr with rfl | hr
  ·exact ⟨i1,o1⟩
  ·obtain ⟨j1,j2⟩:=fZa (fun q hq=>hL q (List.mem_cons_of_mem _ hq)) o2 r hr;exact ⟨Rc.inn_trans i2 j1,j2⟩
theorem setP_innW {p:Pk} {r:Rc} (h:p.big) (hr:r.okW):r.inn (setP p r)∧0≤(setP p r).u∧0≤(setP p r).v:=by
 obtain ⟨⟨⟨a1,a2⟩,a3,a4⟩,⟨a5,a6⟩,a7,a8⟩:=hr;obtain ⟨h1,h2,_,h4,h5,h6⟩:=h;have m1:=jZz p.px (r.u / 2);have m2:=jZz p.py (r.v / 2);have m3:=kZc (r.u-2*p.px) 0;have m4:=kZc (r.v-2*p.py) 0
 have f1:wP p r=p.w∨wP p r=mx (r.u-2*p.px) 0:=by unfold wP;split;exact .inr rfl;exact .inl rfl
 have f2:hP p r=p.h∨hP p r=mx (r.v-2*p.py) 0:=by unfold hP;split;exact .inr rfl;exact .inl rfl
 have n1:=jZz (wP p r) (mx (r.u-2*p.px) 0);have n2:=jZz (hP p r) (mx (r.v-2*p.py) 0);have e1:=tZn (s:=mx (r.u-2*p.px) 0-mn (wP p r) (mx (r.u-2*p.px) 0)) (k:=p.an % 3) (by omega) (by omega) (by omega);have e2:=tZn (s:=mx (r.v-2*p.py) 0-mn (hP p r) (mx (r.v-2*p.py) 0)) (k:=p.an / 3) (by omega) (by omega) (by omega);unfold Rc.inn
 show (r.x≤r.x+mn p.px (r.u / 2)+(mx (r.u-2*p.px) 0-mn (wP p r) (mx (r.u-2*p.px) 0))*(p.an % 3) / 2∧r.y≤r.y+mn p.py (r.v / 2)+(mx (r.v-2*p.py) 0-mn (hP p r) (mx (r.v-2*p.py) 0))*(p.an / 3) / 2∧r.x+mn p.px (r.u / 2)+(mx (r.u-2*p.px) 0-mn (wP p r) (mx (r.u-2*p.px) 0))*(p.an % 3) / 2+mn (wP p r) (mx (r.u-2*p.px) 0)≤r.x+r.u∧r.y+mn p.py (r.v / 2)+(mx (r.v-2*p.py) 0-mn (hP p r) (mx (r.v-2*p.py) 0))*(p.an / 3) / 2+mn (hP p r) (mx (r.v-2*p.py) 0)≤r.y+r.v)∧0≤mn (wP p r) (mx (r.u-2*p.px) 0)∧0≤mn (hP p r) (mx (r.v-2*p.py) 0)
 omega
theorem setL_mem {L:List Pk} {M:List Rc} {j:Nat} {q:Rc} (h:(setL L M)[j]?=some q):∃ p r,L[j]?=some p∧M[j]?=some r∧q=setP p r:=by
 unfold setL at h;rw [List.getElem?_zipWith] at h
 cases hp:L[j]? with
 | none=>rw [hp] at h;simp at h
 | some p =>
  cases hr:M[j]? with
  | none=>rw [hp,hr] at h;simp at h
  | some r=>rw [hp,hr] at h;simp at h;exact ⟨p,r,rfl,rfl,h.symm⟩
theorem gw_of {L:List Nd} (hT:TrOK L) {i:Nat} {n:Nd} (hn:L[i]?=some n) (h1:n.ki=1):GW n.cs n.rs (cesF L (szM L) (kidD L i)):=by
 obtain ⟨z1,z2,z3,z4⟩:=ces_w hT hn h1;obtain ⟨v1,v2⟩:=hT.li i n hn h1;have hp:=ce_bd hT hn h1 (fun k _=>szM_bd hT k);exact ⟨v1,v2,z4,z1,z2,z3,(kZz v1).2,(kZz v2).2,fun p hm=>⟨(hp p hm).2.2.1,(hp p hm).2.2.2.1,(hp p hm).2.2.2.2⟩⟩
theorem pls_mem {L:List Nd} (hT:TrOK L) {ks:List Nat}:∀ p∈plsF L ks,plB p=true:=fun p hp=>by
 obtain ⟨k,hk,e⟩:=List.mem_filterMap.1 hp
 cases hm:L[k]? with
 | none=>rw [hm] at e;cases e
 | some m=>rw [hm] at e;obtain rfl:=Option.some.inj e;exact hT.pl k m hm
theorem bg_of {L:List Nd} (hT:TrOK L) (i:Nat):bgL (pksF L (szM L) (kidD L i)):=⟨hZc hT _,Nat.le_trans (pksF_len _ _ _) (Nat.le_trans (sZo _ _) hT.l10)⟩
theorem kidR0_bd {L:List Nd} (hT:TrOK L) {i:Nat} {n:Nd} (hn:L[i]?=some n) {u v:Int} (hu:0≤u∧u≤20000000000000) (hv:0≤v∧v≤20000000000000) {j:Nat} {q:Re} (hq:(cZt L i n u v)[j]?=some q) :
  ((0≤q.u∧(q.u≤u+300∨q.u≤10000000000350))∧(-(u+600)≤q.x∧(q.x≤u+300∨q.x≤10000000000350)))∧((0≤q.v∧(q.v≤v+300∨q.v≤10000000000350))∧(-(v+600)≤q.y∧(q.y≤v+300∨q.y≤10000000000350))):=by
 unfold cZt at hq
 split at hq
 ·rename_i h1
  have gw:=gw_of hT hn h1;rw [List.getElem?_map] at hq;obtain ⟨c,hc,rfl⟩:=Option.map_eq_some_iff.1 hq;have hm:=List.mem_of_getElem? hc;have hs:=gw.hsm c hm;obtain ⟨p1,p2,-⟩:=gw.hin c hm;have s1:=sZ3 gw.v1 gw.s1 hu.1 hu.2;have s2:=sZ3 gw.v2 gw.s2 hv.1 hv.2;have w1:=(pZ1 gw.v1 gw.s1).2.2.2.2;have w2:=(pZ1 gw.v2 gw.s2).2.2.2.2
  obtain ⟨S1,e1⟩:∃ S,kZa n.cs ((cesF L (szM L) (kidD L i)).map acM) u=S:=⟨_,rfl⟩
  obtain ⟨S2,e2⟩:∃ S,kZa n.rs ((cesF L (szM L) (kidD L i)).map dnM) v=S:=⟨_,rfl⟩
  rw [e1] at s1;rw [e2] at s2;rw [e1,e2];obtain ⟨-,l1,x1,b1⟩:=s1;obtain ⟨-,l2,x2,b2⟩:=s2
  have n1:∀ x∈S1,0≤x:=fun x hx=>(x1 x hx).1
  have n2:∀ x∈S2,0≤x:=fun x hx=>(x2 x hx).1
  obtain ⟨c1,c2⟩:=cell_in n1 n2 hs;have t1:=uZc S1 c.co.toNat c.mc.toNat;have t2:=uZc S2 c.ro.toNat c.mr.toNat;have u1:=pZ2 n1 c.co.toNat;have u2:=pZ2 n1 (c.co.toNat+c.mc.toNat);have u3:=pZ2 n2 c.ro.toNat;have u4:=pZ2 n2 (c.ro.toNat+c.mr.toNat);have a1:(pZm S1 S2 c).x=sumI (S1.take c.co.toNat):=rfl;have a2:(pZm S1 S2 c).y=sumI (S2.take c.ro.toNat):=rfl
  have a3:(pZm S1 S2 c).u=sumI (segI S1 c.co.toNat c.mc.toNat):=rfl;have a4:(pZm S1 S2 c).v=sumI (segI S2 c.ro.toNat c.mr.toNat):=rfl;omega
 ·split at hq
  ·rw [List.getElem?_map] at hq;obtain ⟨c,hc,rfl⟩:=Option.map_eq_some_iff.1 hq;have hp:=pls_mem hT c (List.mem_of_getElem? hc);have hr:rqW u v=true:=pZu.2 ⟨hu,hv⟩;have b1:=wM_le hp hr;have b2:=hM_le hp hr;have b3:=xM_le hp hr;have b4:=yM_le hp hr;simp only [plR];omega
  ·rw [List.getElem?_map] at hq;obtain ⟨c,hc,rfl⟩:=Option.map_eq_some_iff.1 hq;obtain ⟨p,r,hp,hr,rfl⟩:=setL_mem hc;have hbg:=(bg_of hT i).1
   have hz:(⟨0,0,u,v⟩:Rc).okW:=by unfold Rc.okW;dsimp only;omega
   obtain ⟨i1,i2⟩:=fZa hbg hz r (List.mem_of_getElem? hr);obtain ⟨k1,k2,k3⟩:=setP_innW (hbg p (List.mem_of_getElem? hp)) i2;have k4:=Rc.inn_trans i1 k1;unfold Rc.inn at k4
   dsimp only at k4
   simp only [rcRe];omega
def LyOK (i:Nat) (r:Re):Prop:=((0≤r.u∧r.u≤10000000000350+300*(i:Int))∧(0≤r.v∧r.v≤10000000000350+300*(i:Int)))∧((-(30000000000000*(i:Int))≤r.x∧r.x≤30000000000000*(i:Int))∧(-(30000000000000*(i:Int))≤r.y∧r.y≤30000000000000*(i:Int)))
theorem kidR_ok {L:List Nd} (hT:TrOK L) {p j k:Nat} {n:Nd} {r q:Re} (hn:L[p]?=some n) (hr:LyOK p r) (hk:p<k) (hp:p≤10) (hq:(kidR L p n r)[j]?=some q):LyOK k q:=by
 unfold kidR at hq;rw [List.getElem?_map] at hq;obtain ⟨c,hc,rfl⟩:=Option.map_eq_some_iff.1 hq;obtain ⟨⟨r1,r2⟩,r3,r4⟩:=hr;have hb:=kidR0_bd hT hn (by omega) (by omega) hc;unfold LyOK Re.at
 dsimp only
 omega
theorem lrM_ok {L:List Nd} (hT:TrOK L) {w h:Int} (hw:0≤w∧w≤400) (hh:0≤h∧h≤400):∀ (f i:Nat),i<f→i<L.length→LyOK i (lrM L w h i):=by
 intro f
 induction f with
 | zero=>intro i hi;omega
 | succ f ih =>
  intro i hi hl
  by_cases h0:i=0
  ·subst h0;rw [bZg];unfold LyOK
   dsimp only
   omega
  ·obtain ⟨p,j,n,hp,hn,hj⟩:=kid_of hT (by omega) hl
   have hj2:j<(kidR L p n (lrM L w h p)).length:=by rw [kidR_len];exact (List.getElem?_eq_some_iff.1 hj).1
   have hq:=List.getElem?_eq_getElem hj2;rw [hZp hT hn hj hq];exact kidR_ok hT hn (ih p (by omega) (by omega)) hp (by have:=hT.l10;omega) hq
theorem eZx {L:List Nd} (hT:TrOK L) {w h:Int} (hw:0≤w∧w≤400) (hh:0≤h∧h≤400) {i:Nat} (hl:i<L.length):rqW (lrM L w h i).u (lrM L w h i).v=true∧(-1000000000000000≤(lrM L w h i).x∧(lrM L w h i).x+(lrM L w h i).u≤1000000000000000)∧(-1000000000000000≤(lrM L w h i).y∧(lrM L w h i).y+(lrM L w h i).v≤1000000000000000):=by
 obtain ⟨⟨r1,r2⟩,r3,r4⟩:=lrM_ok hT hw hh (i+1) i (by omega) hl
 have:=hT.l10
 exact ⟨pZu.2 ⟨by omega,by omega⟩,by omega,by omega⟩
theorem setP_at (p:Pk) (r:Rc) (x y:Int):setP p (r.at x y)=(setP p r).at x y:=by
 have e1:wP p (r.at x y)=wP p r:=rfl;have e2:hP p (r.at x y)=hP p r:=rfl;unfold setP;rw [e1,e2];simp only [ancP,insP,Rc.at,Rc.mk.injEq,and_true];omega
theorem setL_at:∀ (L:List Pk) (M:List Rc) (x y:Int),setL L (M.map (·.at x y))=(setL L M).map (·.at x y)
 | [],M,x,y=>by simp [setL]
 | p :: t,[],x,y=>by simp [setL]
 | p :: t,r :: s,x,y=>by
  have:=setL_at t s x y
  simp only [setL,List.map_cons,List.zipWith_cons_cons,setP_at,List.cons.injEq,true_and] at this ⊢;exact this
theorem kidR_pk {L:List Nd} {i:Nat} {n:Nd} (r:Re) (h1:n.ki≠1) (h2:n.ki≠2):kidR L i n r=(setL (pksF L (szM L) (kidD L i)) (qZh (pksF L (szM L) (kidD L i)) ⟨r.x,r.y,r.u,r.v⟩).1).map rcRe:=by
 have e:(⟨r.x,r.y,r.u,r.v⟩:Rc)=(⟨0,0,r.u,r.v⟩:Rc).at r.x r.y:=by simp [Rc.at]
 unfold kidR cZt;rw [if_neg h1,if_neg h2,e,parcM_at,setL_at,List.map_map,List.map_map]
 rfl
theorem kidR_gr {L:List Nd} {i:Nat} {n:Nd} (r:Re) (h1:n.ki=1):kidR L i n r=(cesF L (szM L) (kidD L i)).map (cZr (kZa n.cs ((cesF L (szM L) (kidD L i)).map acM) r.u) (kZa n.rs ((cesF L (szM L) (kidD L i)).map dnM) r.v) r.x r.y):=by
 unfold kidR cZt;rw [if_pos h1,List.map_map]
 rfl
theorem kidR_pl {L:List Nd} {i:Nat} {n:Nd} (r:Re) (h2:n.ki=2):kidR L i n r=(plsF L (kidD L i)).map fun p=>⟨r.x+xM p r.u,r.y+yM p r.v,wM p r.u,hM p r.v⟩:=by
 unfold kidR cZt;rw [if_neg (by omega),if_pos h2,List.map_map]
 refine List.map_congr_left fun p _=>?_
 simp only [Function.comp,plR,Re.at,Int.add_comm]
end Go.Proofs.YtfnpdlnepjhljaaGreat
