import Derived.Test.YtenckjdiggaonaaGreatQ01
import Derived.Deep.Slices
import Derived.Deep.Fields
import Derived.ChangeSame
import Derived.Deep.MidRow
import Derived.BigFrame
set_option linter.unusedVariables false
set_option maxRecDepth 100000
namespace Go.Proofs.YtenckjdiggaonaaGreat
section
open Go.Joins Go.ChangeShapes Go.WideShapes Go.RowKit Go.Deep
theorem lines_of {H:Type} {enc:TypeId × Value→H} {W:World} {a:Option Addr} {len cap:Nat} {d:DataW H} {ps:List MemPlace}
  (h:DataW.Trod enc Tryz.prog W 0 (fun _=>true) true 96 (.slice a len cap) d ps):∃ L:List Ln,L.length=len∧LnV W a L∧len≤maxLen:=by
 obtain ⟨fuel,hf⟩:=h
 have h9:Tryz.prog.cellsOf 194=2:=by kernel_rfl
 rcases open_slice Tryz.underlying96 hf with ⟨hcs,_⟩ | ⟨x,l,c,m,fu,D,Pl,hcs,_,hl,hm,hmm,_,hi⟩
 ·simp [Value.cells] at hcs
  obtain ⟨rfl,rfl,rfl⟩:=hcs
  exact ⟨[],rfl,LnV.nil _ _,by simp⟩
 ·simp [Value.cells] at hcs
  obtain ⟨rfl,rfl,rfl⟩:=hcs
  have hlen:len≤m:=by rw [hmm];simp;exact hl
  have each:∀ i,i<len→∃ p:Ln,∀ j,j<2→W.cell? (x.add (i*2+j))=(valsLn p)[j]?:=by
   intro i him
   obtain ⟨cs,hrow,hread⟩:=hi i (by omega)
   rw [h9] at hrow
   obtain ⟨_,hsz,hat⟩:=World.cells?_some hrow
   obtain ⟨ys,n,_,_,_,hyl,hg⟩:=DataW.trod_struct Tryz.underlying194 hread
   match cs,hsz,hat,hg with
   | [k0,k1],_,hat,hg =>
    match ys,hyl,hg with
    | [y0,y1],_,hg =>
     have t0:DataW.trod enc Tryz.prog W 0 (fun _=>true) true n 3 [k0]=some y0:=by
      have g:=hg 0 _ rfl
      have c:Tryz.prog.cellsOf 3=1:=by kernel_rfl
      simpa [c] using g
     have t1:DataW.trod enc Tryz.prog W 0 (fun _=>true) true n 3 [k1]=some y1:=by
      have g:=hg 1 _ rfl
      have c:Tryz.prog.cellsOf 3=1:=by kernel_rfl
      simpa [c] using g
     obtain ⟨z0,e0,_,_⟩:=DataW.trod_int Tryz.underlying3 t0
     obtain ⟨z1,e1,_,_⟩:=DataW.trod_int Tryz.underlying3 t1
     simp only [List.cons.injEq,and_true] at e0 e1
     subst e0 e1
     refine ⟨⟨z0,z1⟩,fun j hj=>?_⟩
     have hb:∀ (a:Addr) (i j:Nat),(a.add i).add j=a.add (i+j):=fun a i j=>by
      unfold Addr.add
      by_cases hi:i=0 <;> by_cases hj:j=0 <;> simp [hi,hj,Nat.add_assoc]
     have:=hat j hj
     rw [hb] at this
     exact this
  have hch:∃ f:Nat→Ln,∀ i,i<len→∀ j,j<2→W.cell? (x.add (i*2+j))=(valsLn (f i))[j]?:=by
   refine ⟨fun i=>if h:i<len then Classical.choose (each i h) else ⟨0,0⟩,fun i him=>?_⟩
   simp only [him,dif_pos]
   exact Classical.choose_spec (each i him)
  obtain ⟨f,hfc⟩:=hch
  refine ⟨(List.range len).map f,by simp,⟨fun h0=>?_⟩,by omega⟩
  have h0':0<len:=by simpa using h0
  obtain ⟨b,off,spot⟩:=x
  have hc:=hfc 0 h0' 0 (by omega)
  have hc':W.cell? ⟨b,off,spot⟩=some (.int .i64 (f 0).wt):=by simpa [Addr.add,valsLn] using hc
  have hspot:spot=none:=World.cell?_spot hc'
  subst hspot
  refine ⟨b,off,rfl,World.block_lt_of_cell? W _ hc',fun i p hp=>?_⟩
  have hil:i<len:=by
   have:=(List.getElem?_eq_some_iff.1 hp).1
   simpa using this
  have hpe:p=f i:=by
   rw [List.getElem?_map,List.getElem?_range hil] at hp
   simpa using hp.symm
  subst hpe
  have hadd:∀ n:Nat,(⟨b,off,none⟩:Addr).add n=⟨b,off+n,none⟩:=fun n=>by
   unfold Addr.add
   split
   ·rename_i h;subst h;rfl
   ·rfl
  have hcell:=hfc i hil
  simp only [hadd] at hcell
  have e:∀ j,j<2→W.cell? ⟨b,off+i*2+j,none⟩=(valsLn (f i))[j]?:=fun j hj=>by rw [Nat.add_assoc];exact hcell j hj
  exact ⟨e 0 (by omega),e 1 (by omega)⟩
end
section
open Go.RowKit
set_option maxHeartbeats 1000000
attribute [local go_sem] growUpon_value growUpon_skip growUpon_enter
structure Ce where
 co:Int
 ro:Int
 mc:Int
 mr:Int
 cw:Int
 ch:Int
 sk:Int
 px:Int
 py:Int
def valsCe (p:Ce):List Value:=[.int .i64 p.co,.int .i64 p.ro,.int .i64 p.mc,.int .i64 p.mr,.int .i64 p.cw,.int .i64 p.ch,.int .i64 p.sk,.int .i64 p.px,.int .i64 p.py]
structure CeV (w:World) (A:Option Addr) (L:List Ce):Prop where
 cells:0<L.length→∃ b off,A=some ⟨b,off,none⟩∧b<w.heap.size∧∀ i p,L[i]?=some p→w.cell? ⟨b,off+i*9,none⟩=some (.int .i64 p.co)∧w.cell? ⟨b,off+i*9+1,none⟩=some (.int .i64 p.ro)∧w.cell? ⟨b,off+i*9+2,none⟩=some (.int .i64 p.mc)∧w.cell? ⟨b,off+i*9+3,none⟩=some (.int .i64 p.mr)∧w.cell? ⟨b,off+i*9+4,none⟩=some (.int .i64 p.cw)∧w.cell? ⟨b,off+i*9+5,none⟩=some (.int .i64 p.ch)∧w.cell? ⟨b,off+i*9+6,none⟩=some (.int .i64 p.sk)∧w.cell? ⟨b,off+i*9+7,none⟩=some (.int .i64 p.px)∧w.cell? ⟨b,off+i*9+8,none⟩=some (.int .i64 p.py)
theorem CeV.keep {w w':World} {A:Option Addr} {L:List Ce} (h:CeV w A L) (hb:Below w.heap.size w w'):CeV w' A L :=
 ⟨fun h0=>let ⟨b,off,e,hl,hp⟩:=h.cells h0;⟨b,off,e,Nat.lt_of_lt_of_le hl hb.size,fun i p hi=>by
  obtain ⟨c0,c1,c2,c3,c4,c5,c6,c7,c8⟩:=hp i p hi
  exact ⟨(hb.cell (p:=⟨b,off+i*9,none⟩) hl).trans c0,(hb.cell (p:=⟨b,off+i*9+1,none⟩) hl).trans c1,(hb.cell (p:=⟨b,off+i*9+2,none⟩) hl).trans c2,(hb.cell (p:=⟨b,off+i*9+3,none⟩) hl).trans c3,(hb.cell (p:=⟨b,off+i*9+4,none⟩) hl).trans c4,(hb.cell (p:=⟨b,off+i*9+5,none⟩) hl).trans c5,(hb.cell (p:=⟨b,off+i*9+6,none⟩) hl).trans c6,(hb.cell (p:=⟨b,off+i*9+7,none⟩) hl).trans c7,(hb.cell (p:=⟨b,off+i*9+8,none⟩) hl).trans c8⟩⟩⟩
theorem CeV.nil (w:World) (A:Option Addr):CeV w A []:=⟨fun h=>absurd h (by simp)⟩
def CeB (w:World) (g:Nat) (L:List Ce):Prop:=∃ cs:Array Value,w.heap[g]?=some (.cells cs 80 (0,0))∧cs.size=L.length*9∧∀ i p,L[i]?=some p→InS cs (i*9) (valsCe p)
theorem CeB.v {w:World} {g:Nat} {L:List Ce} (h:CeB w g L):CeV w (some ⟨g,0,none⟩) L:=by
 obtain ⟨cs,hh,hs,hc⟩:=h
 refine ⟨fun _=>⟨g,0,rfl,ltS hh,fun i p hp=>?_⟩⟩
 have hi:=hc i p hp
 simp only [Nat.zero_add]
 exact ⟨(cellS hh _).trans (hi 0 _ rfl),(cellS hh _).trans (hi 1 _ rfl),(cellS hh _).trans (hi 2 _ rfl),(cellS hh _).trans (hi 3 _ rfl),(cellS hh _).trans (hi 4 _ rfl),(cellS hh _).trans (hi 5 _ rfl),(cellS hh _).trans (hi 6 _ rfl),(cellS hh _).trans (hi 7 _ rfl),(cellS hh _).trans (hi 8 _ rfl)⟩
theorem CeB.lt {w:World} {g:Nat} {L:List Ce} (h:CeB w g L):g<w.heap.size:=by obtain ⟨cs,hh,_⟩:=h;exact ltS hh
theorem CeB.keep {w w':World} {g:Nat} {L:List Ce} (h:CeB w g L) (hb:Below w.heap.size w w'):CeB w' g L:=by
 obtain ⟨cs,hh,hs,hc⟩:=h
 exact ⟨cs,(hb.block g (ltS hh)).trans hh,hs,hc⟩
theorem CeB.but {w w':World} {g h:Nat} {L:List Ce} (hi:CeB w h L) (hg:w.grownBy w' (some g)) (hne:h ≠ g):CeB w' h L:=by
 obtain ⟨cs,hh,hs,hc⟩:=hi
 exact ⟨cs,(hg.block h (ltS hh) (fun e=>hne (Option.some.inj e))).trans hh,hs,hc⟩
theorem toCe_v (p:Ce) (w:World):Calls Tryz.prog 119 #[.agg #[.int .i64 p.co,.int .i64 p.ro,.int .i64 p.mc,.int .i64 p.mr,.int .i64 p.cw,.int .i64 p.ch,.int .i64 p.sk,.int .i64 p.px,.int .i64 p.py]] w fun e w'=>e=.returned (.agg #[.int .i64 p.co,.int .i64 p.ro,.int .i64 p.mc,.int .i64 p.mr,.int .i64 p.cw,.int .i64 p.ch,.int .i64 p.sk,.int .i64 p.px,.int .i64 p.py])∧Below w.heap.size w w':=by
 obtain ⟨x0,x1,x2,x3,x4,x5,x6,x7,x8⟩:=p
 go_enter Tryz.func119,Tryz.ntmps119
 go_wp2
 exact bodyPost_ret (v:=.agg #[.int .i64 x0,.int .i64 x1,.int .i64 x2,.int .i64 x3,.int .i64 x4,.int .i64 x5,.int .i64 x6,.int .i64 x7,.int .i64 x8]) (by simp only [results,Tryz.results119];go_simp) rfl ⟨rfl,(by repeat (first | with_reducible exact Below.refl _ _ | with_reducible assumption | with_reducible refine balloc ?_ | (with_reducible refine bset ?_ ?_;rotate_left;((try dsimp only);omega)) | refine bkeep2 ?_ (by assumption) | with_reducible refine Below.drew ?_))⟩
theorem eqCe_same (p:Ce) (w:World):Calls Tryz.prog 136 #[.agg #[.int .i64 p.co,.int .i64 p.ro,.int .i64 p.mc,.int .i64 p.mr,.int .i64 p.cw,.int .i64 p.ch,.int .i64 p.sk,.int .i64 p.px,.int .i64 p.py],.agg #[.int .i64 p.co,.int .i64 p.ro,.int .i64 p.mc,.int .i64 p.mr,.int .i64 p.cw,.int .i64 p.ch,.int .i64 p.sk,.int .i64 p.px,.int .i64 p.py]] w fun e w'=>e=.returned (.bool true)∧Below w.heap.size w w':=by
 go_enter Tryz.func136,Tryz.ntmps136
 go_wp2
 go_ret
 exact ⟨rfl,balloc (balloc (Below.refl _ _))⟩
end
section
structure Pk where
 w:Int
 h:Int
 s:Int
 fx:Bool
 fy:Bool
 ex:Bool
 an:Int
 px:Int
 py:Int
def vpB (w h s an px py:Int):Bool:=rng w 0 30 && (rng h 0 30 && (rng s 0 3 && (rng an 0 8 && (rng px 0 10 && rng py 0 10))))
theorem vpB_iff {w h s an px py:Int}:vpB w h s an px py=true ↔ ((0≤w∧w≤30)∧(0≤h∧h≤30)∧(0≤s∧s≤3)∧(0≤an∧an≤8)∧(0≤px∧px≤10)∧(0≤py∧py≤10)):=by
 simp only [vpB,Bool.and_eq_true,rng_iff]
theorem vp_n1 {w h s an px py:Int} (h1:rng w 0 30=false):vpB w h s an px py=false:=by simp [vpB,h1]
theorem vp_n2 {w h s an px py:Int} (h1:rng h 0 30=false):vpB w h s an px py=false:=by simp [vpB,h1]
theorem vp_n3 {w h s an px py:Int} (h1:rng s 0 3=false):vpB w h s an px py=false:=by simp [vpB,h1]
theorem vp_n4 {w h s an px py:Int} (h1:rng an 0 8=false):vpB w h s an px py=false:=by simp [vpB,h1]
theorem vp_n5 {w h s an px py:Int} (h1:rng px 0 10=false):vpB w h s an px py=false:=by simp [vpB,h1]
theorem vp_n6 {w h s an px py:Int} (h1:rng w 0 30=true) (h2:rng h 0 30=true) (h3:rng s 0 3=true) (h4:rng an 0 8=true) (h5:rng px 0 10=true):vpB w h s an px py=rng py 0 10:=by simp [vpB,h1,h2,h3,h4,h5]
end
end Go.Proofs.YtenckjdiggaonaaGreat
section
namespace Go.Proofs.YtenckjdiggaonaaGreat
def hpB (x y u v p q:Int):Bool:=decide (x≤p∧p<x+u∧y≤q∧q<y+v)
end Go.Proofs.YtenckjdiggaonaaGreat
namespace Go.Proofs.YtenckjdiggaonaaGreat
def meetB (x y u v x' y' u' v':Int):Bool:=vr x y u v && vr x' y' u' v' && hitB x y u v x' y' u' v'
def covB (x y u v x' y' u' v':Int):Bool:=vr (mn x x') (mn y y') (mx (x+u) (x'+u') - mn x x') (mx (y+v) (y'+v') - mn y y')
def coverB (x y u v x' y' u' v':Int):Bool:=vr x y u v && vr x' y' u' v' && covB x y u v x' y' u' v'
def insB (x y u v x' y' u' v':Int):Bool:=decide (x≤x'∧y≤y'∧x'+u'≤x+u∧y'+v'≤y+v)
end Go.Proofs.YtenckjdiggaonaaGreat
end
namespace Go.Proofs.YtenckjdiggaonaaGreat
end Go.Proofs.YtenckjdiggaonaaGreat
section
namespace Go.Proofs.YtenckjdiggaonaaGreat
def mvB (x y u v p q:Int):Bool:=vr x y u v && rng p (-1000) 1000 && rng q (-1000) 1000 && vr (x+p) (y+q) u v
def inB (x y u v p q:Int):Bool:=vr x y u v && rng p 0 10 && rng q 0 10
theorem mx_comm (a b:Int):mx a b=mx b a:=by unfold mx;split <;> split <;> omega
def anB (x y u v p q k:Int):Bool:=vr x y u v && rng p 0 400 && rng q 0 400 && rng k 0 8
def ctB (x y u v s n:Int):Bool:=vr x y u v && rng s 0 3 && rng n 0 400
end Go.Proofs.YtenckjdiggaonaaGreat
namespace Go.Proofs.YtenckjdiggaonaaGreat
end Go.Proofs.YtenckjdiggaonaaGreat
namespace Go.Proofs.YtenckjdiggaonaaGreat
end Go.Proofs.YtenckjdiggaonaaGreat
end
namespace Go.Proofs.YtenckjdiggaonaaGreat
end Go.Proofs.YtenckjdiggaonaaGreat
section
namespace Go.Proofs.YtenckjdiggaonaaGreat
structure Plc where
 x:Int
 y:Int
 rx:Int
 ry:Int
 ww:Int
 hh:Int
 qw:Int
 qh:Int
 an:Int
def shB (n:Int):Bool:=rng n (-300) 300
def reB (n:Int):Bool:=rng n 0 1000
def plB (p:Plc):Bool:=[p.x,p.y,p.ww,p.hh].all shB && ([p.rx,p.ry,p.qw,p.qh].all reB && rng p.an 0 8)
theorem plB_iff {p:Plc}:plB p=true ↔ ((-300≤p.x∧p.x≤300)∧(-300≤p.y∧p.y≤300)∧(0≤p.rx∧p.rx≤1000)∧(0≤p.ry∧p.ry≤1000)∧(-300≤p.ww∧p.ww≤300)∧(-300≤p.hh∧p.hh≤300)∧(0≤p.qw∧p.qw≤1000)∧(0≤p.qh∧p.qh≤1000)∧(0≤p.an∧p.an≤8)):=by
 simp only [plB,shB,reB,List.all_cons,List.all_nil,Bool.and_true,Bool.and_eq_true,rng_iff]
 omega
def thM (m s:Int):Int:=m*s / 1000
def wM (p:Plc) (w:Int):Int:=mx (p.ww+thM p.qw w) 0
def hM (p:Plc) (h:Int):Int:=mx (p.hh+thM p.qh h) 0
def xM (p:Plc) (w:Int):Int:=p.x+thM p.rx w - wM p w*(p.an % 3) / 2
def yM (p:Plc) (h:Int):Int:=p.y+thM p.ry h - hM p h*(p.an / 3) / 2
def rqB (w h:Int):Bool:=rng w 0 400 && rng h 0 400
def prB (p:Plc) (w h:Int):Bool:=plB p && rqB w h
structure PlBd (p:Plc) (w h:Int):Prop where
 t1:0≤thM p.rx w∧thM p.rx w≤400
 t2:0≤thM p.ry h∧thM p.ry h≤400
 t3:0≤thM p.qw w∧thM p.qw w≤400
 t4:0≤thM p.qh h∧thM p.qh h≤400
 w1:0≤wM p w∧wM p w≤700
 h1:0≤hM p h∧hM p h≤700
 a1:0≤p.an % 3∧p.an % 3≤2
 a2:0≤p.an / 3∧p.an / 3≤2
 p1:0≤wM p w*(p.an % 3)∧wM p w*(p.an % 3)≤1400∧0≤wM p w*(p.an % 3) / 2∧wM p w*(p.an % 3) / 2≤700
 p2:0≤hM p h*(p.an / 3)∧hM p h*(p.an / 3)≤1400∧0≤hM p h*(p.an / 3) / 2∧hM p h*(p.an / 3) / 2≤700
theorem PlBd.x1 {p:Plc} {w h:Int} (b:PlBd p w h) (hp:plB p=true):-1000≤xM p w∧xM p w≤700:=by
 obtain ⟨b1,_⟩:=plB_iff.1 hp
 obtain ⟨t1,t2,t3,t4,w1,h1,a1,a2,p1,p2⟩:=b
 unfold xM;omega
theorem PlBd.y1 {p:Plc} {w h:Int} (b:PlBd p w h) (hp:plB p=true):-1000≤yM p h∧yM p h≤700:=by
 obtain ⟨_,b2,_⟩:=plB_iff.1 hp
 obtain ⟨t1,t2,t3,t4,w1,h1,a1,a2,p1,p2⟩:=b
 unfold yM;omega
def piB (p:Plc) (w h:Int):Bool:=insB 0 0 w h (xM p w) (yM p h) (wM p w) (hM p h)
def LeM (p:Plc) (v:Int):Prop:=(0≤v∧v≤400∧piB p v v=true∧∀ j:Int,0≤j→j<v→piB p j j=false) ∨ (v=-1∧∀ j:Int,0≤j→j≤400→piB p j j=false)
def atM (p:Plc) (w h x y:Int):Plc:=⟨p.x+(x - xM p w),p.y+(y - yM p h),p.rx,p.ry,p.ww,p.hh,p.qw,p.qh,p.an⟩
def fixM (p:Plc) (w h:Int):Plc:=⟨p.x+thM p.rx w,p.y+thM p.ry h,0,0,wM p w,hM p h,0,0,p.an⟩
def paB (p:Plc) (w h x y:Int):Bool:=prB p w h && (shB x && (shB y && plB (atM p w h x y)))
def fxB (p:Plc) (w h:Int):Bool:=prB p w h && plB (fixM p w h)
end Go.Proofs.YtenckjdiggaonaaGreat
namespace Go.Proofs.YtenckjdiggaonaaGreat
def Sq (a b c d:Int):Prop:=(-2000≤a∧a≤2000)∧(-2000≤b∧b≤2000)∧(-2000≤c∧c≤2000)∧(-2000≤d∧d≤2000)
end Go.Proofs.YtenckjdiggaonaaGreat
end
namespace Go.Proofs.YtenckjdiggaonaaGreat
section
open Go.RowKit
set_option maxHeartbeats 1000000
structure Nd where
 pa:Int
 ww:Int
 hh:Int
 ke:Bool
 ki:Int
 cs:List Ln
 rs:List Ln
 pk:Pk
 ce:Ce
 pl:Plc
structure Nr where
 n:Nd
 ca:Option Addr
 cc:Nat
 ra:Option Addr
 rc:Nat
def valsNr (p:Nr):List Value:=[.int .i64 p.n.pa,.int .i64 p.n.ww,.int .i64 p.n.hh,.bool p.n.ke,.int .i64 p.n.ki,.slice p.ca p.n.cs.length p.cc,.slice p.ra p.n.rs.length p.rc,.int .i64 p.n.pk.w,.int .i64 p.n.pk.h,.int .i64 p.n.pk.s,.bool p.n.pk.fx,.bool p.n.pk.fy,.bool p.n.pk.ex,.int .i64 p.n.pk.an,.int .i64 p.n.pk.px,.int .i64 p.n.pk.py,.int .i64 p.n.ce.co,.int .i64 p.n.ce.ro,.int .i64 p.n.ce.mc,.int .i64 p.n.ce.mr,.int .i64 p.n.ce.cw,.int .i64 p.n.ce.ch,.int .i64 p.n.ce.sk,.int .i64 p.n.ce.px,.int .i64 p.n.ce.py,.int .i64 p.n.pl.x,.int .i64 p.n.pl.y,.int .i64 p.n.pl.rx,.int .i64 p.n.pl.ry,.int .i64 p.n.pl.ww,.int .i64 p.n.pl.hh,.int .i64 p.n.pl.qw,.int .i64 p.n.pl.qh,.int .i64 p.n.pl.an]
theorem valsNr_len (p:Nr):(valsNr p).length=34:=rfl
theorem valsNr_one (p:Nr):∀ v ∈ valsNr p,v.oneCell'=true:=by
 intro v hv
 simp only [valsNr,List.mem_cons,List.not_mem_nil,or_false] at hv
 rcases hv with rfl | rfl | rfl | rfl | rfl | rfl | rfl | rfl | rfl | rfl | rfl | rfl | rfl | rfl | rfl | rfl | rfl | rfl | rfl | rfl | rfl | rfl | rfl | rfl | rfl | rfl | rfl | rfl | rfl | rfl | rfl | rfl | rfl | rfl <;> rfl
theorem valsNr_all (p:Nr):(valsNr p).toArray.all (·.oneCell')=true:=all_oneCell_toArray (valsNr_one p)
structure NrV (w:World) (A:Option Addr) (R:List Nr):Prop where
 cells:0<R.length→∃ b off,A=some ⟨b,off,none⟩∧b<w.heap.size∧∀ i p,R[i]?=some p→w.rangeAt b (off+i*34) (valsNr p)
theorem rangeB {w w':World} {b o:Nat} {cs:List Value} (h:w.rangeAt b o cs) (hb:w'.heap[b]?=w.heap[b]?):w'.rangeAt b o cs:=fun j v hj=>(World.cell?_of_block (a:=⟨b,o+j,none⟩) hb).trans (h j v hj)
theorem NrV.keep {w w':World} {A:Option Addr} {R:List Nr} (h:NrV w A R) (hb:Below w.heap.size w w'):NrV w' A R :=
 ⟨fun h0=>let ⟨b,off,e,hl,hp⟩:=h.cells h0;⟨b,off,e,Nat.lt_of_lt_of_le hl hb.size,fun i p hi=>rangeB (hp i p hi) (hb.block b hl)⟩⟩
theorem NrV.nil (w:World) (A:Option Addr):NrV w A []:=⟨fun h=>absurd h (by simp)⟩
theorem NrV.take {w:World} {A:Option Addr} {R:List Nr} (h:NrV w A R) (k:Nat):NrV w A (R.take k) :=
 ⟨fun h0=>let ⟨b,off,e,hl,hp⟩:=h.cells (by simp at h0;omega);⟨b,off,e,hl,fun i p hi=>hp i p (by rw [List.getElem?_take] at hi;split at hi <;> first | exact hi | cases hi)⟩⟩
structure RdN (w:World) (p:Nr):Prop where
 c:LnV w p.ca p.n.cs
 cl:p.n.cs.length≤p.cc
 r:LnV w p.ra p.n.rs
 rl:p.n.rs.length≤p.rc
theorem RdN.keep {w w':World} {p:Nr} (h:RdN w p) (hb:Below w.heap.size w w'):RdN w' p:=⟨h.c.keep hb,h.cl,h.r.keep hb,h.rl⟩
def RdR (w:World) (R:List Nr):Prop:=∀ p ∈ R,RdN w p
theorem RdR.keep {w w':World} {R:List Nr} (h:RdR w R) (hb:Below w.heap.size w w'):RdR w' R:=fun p hp=>(h p hp).keep hb
theorem RdR.take {w:World} {R:List Nr} (h:RdR w R) (k:Nat):RdR w (R.take k):=fun p hp=>h p (List.mem_of_mem_take hp)
def NrB (w:World) (g:Nat) (R:List Nr):Prop:=∃ cs:Array Value,w.heap[g]?=some (.cells cs 84 (0,0))∧cs.size=R.length*34∧∀ i p,R[i]?=some p→InS cs (i*34) (valsNr p)
theorem NrB.lt {w:World} {g:Nat} {R:List Nr} (h:NrB w g R):g<w.heap.size:=by obtain ⟨cs,hh,_⟩:=h;exact ltS hh
theorem NrB.keep {w w':World} {g:Nat} {R:List Nr} (h:NrB w g R) (hb:Below w.heap.size w w'):NrB w' g R:=by
 obtain ⟨cs,hh,hs,hc⟩:=h
 exact ⟨cs,(hb.block g (ltS hh)).trans hh,hs,hc⟩
theorem NrB.but {w w':World} {g h:Nat} {R:List Nr} (hi:NrB w h R) (hg:w.grownBy w' (some g)) (hne:h ≠ g):NrB w' h R:=by
 obtain ⟨cs,hh,hs,hc⟩:=hi
 exact ⟨cs,(hg.block h (ltS hh) (fun e=>hne (Option.some.inj e))).trans hh,hs,hc⟩
theorem NrB.v {w:World} {g:Nat} {R:List Nr} (h:NrB w g R):NrV w (some ⟨g,0,none⟩) R:=by
 obtain ⟨cs,hh,hs,hc⟩:=h
 refine ⟨fun _=>⟨g,0,rfl,ltS hh,fun i p hp j v hj=>?_⟩⟩
 simp only [Nat.zero_add]
 exact (cellS hh _).trans (hc i p hp j v hj)
theorem nodeAt {w:World} {b:Nat} {p:Nr} {T:TypeId} {fz:Nat × Nat} (h:w.heap[b]?=some (.cells (valsNr p).toArray T fz)):w.rangeAt b 0 (valsNr p):=fun j v hj=>by
 rw [Nat.zero_add]
 exact (cellS h j).trans (by simpa using hj)
theorem heap_setCells {g:Nat} {T:TypeId} {fz:Nat × Nat}:∀ (vs:List Value) (o:Nat) (w:World) (cs:Array Value),w.heap[g]?=some (.cells cs T fz)→(w.setCells g o vs).heap[g]?=some (.cells (wrAt cs o vs) T fz)
 | [],o,w,cs,h=>h
 | v :: r,o,w,cs,h=>heap_setCells r (o+1) (w.setCell ⟨g,o,none⟩ v) (cs.setIfInBounds o v) (putS h v)
theorem heap_setCells_ne {g k:Nat} (hk:k ≠ g):∀ (vs:List Value) (o:Nat) (w:World),(w.setCells g o vs).heap[k]?=w.heap[k]?
 | [],o,w=>rfl
 | v :: r,o,w=>(heap_setCells_ne hk r (o+1) (w.setCell ⟨g,o,none⟩ v)).trans (Below.heap_setCell w ⟨g,o,none⟩ v k hk)
theorem below_setCells {B g:Nat} {a:World} (hg:B≤g):∀ (vs:List Value) (o:Nat) (w:World),Below B a w→Below B a (w.setCells g o vs)
 | [],o,w,h=>h
 | v :: r,o,w,h=>below_setCells hg r (o+1) _ (h.setCell (p:=⟨g,o,none⟩) hg v)
theorem size_setCellsT (g:Nat):∀ (vs:List Value) (o:Nat) (w:World),(w.setCells g o vs).heap.size=w.heap.size
 | [],o,w=>rfl
 | v :: r,o,w=>(size_setCellsT g r (o+1) _).trans (by simp [World.setCell])
theorem grown_setCells {g:Nat} {a:World}:∀ (vs:List Value) (o:Nat) (w:World),a.grownBy w (some g)→a.grownBy (w.setCells g o vs) (some g)
 | [],o,w,h=>h
 | v :: r,o,w,h=>grown_setCells r (o+1) _ (gsetS h o v)
theorem thereB {w:World} {b:Nat} {cs:Array Value} {T:TypeId} (h:w.heap[b]?=some (.cells cs T (0,0))) {o n:Nat} (hn:o+n≤cs.size):w.there b o n:=fun j hj=>by
 refine ⟨?_,frozenS h _⟩
 rw [cellS h]
 simp;omega
theorem ldN {ops:Array Oper} {rest:List Oper} {op:Oper} {a:Act} {w:World} {Q:Exit→Act→World→Prop} (x:Operand) (p:Nr) (b o:Nat) (hgd:op.guard=none) (ho:op.op=.load 84 x) (hx:a.eval x=.pointer (some ⟨b,o,none⟩)) (hc:w.rangeAt b o (valsNr p))
  (h:wpList Tryz.prog ops Q rest (a.put op.dst (.agg (valsNr p).toArray)) w):wpList Tryz.prog ops Q (op :: rest) a w :=
 wpList_load_mid hgd _ x ho b o hx _ _ hc Tryz.underlying84 rfl (by kernel_rfl) h
theorem ldL {ops:Array Oper} {rest:List Oper} {op:Oper} {a:Act} {w:World} {Q:Exit→Act→World→Prop} (x:Operand) (p:Nr) (b o:Nat) (hgd:op.guard=none) (ho:op.op=.load 101 x) (hx:a.eval x=.pointer (some ⟨b,o,none⟩)) (hc:w.rangeAt b o (valsNr p))
  (h:wpList Tryz.prog ops Q rest (a.put op.dst (.agg (valsNr p).toArray)) w):wpList Tryz.prog ops Q (op :: rest) a w :=
 wpList_load_mid hgd _ x ho b o hx _ _ hc Tryz.underlying101 rfl (by kernel_rfl) h
theorem stN {ops:Array Oper} {rest:List Oper} {op:Oper} {a:Act} {w:World} {Q:Exit→Act→World→Prop} {cs:Array Value} {T:TypeId} (x y:Operand) (p:Nr) (b o:Nat) (hgd:op.guard=none) (ho:op.op=.store 84 x y) (hx:a.eval x=.pointer (some ⟨b,o,none⟩)) (hy:a.eval y=.agg (valsNr p).toArray) (hb:w.heap[b]?=some (.cells cs T (0,0))) (hn:o+34≤cs.size)
  (h:wpList Tryz.prog ops Q rest (a.put op.dst undef) (w.setCells b o (valsNr p))):wpList Tryz.prog ops Q (op :: rest) a w :=
 wpList_store_mid hgd _ x y ho b o _ hx hy (thereB hb hn) (by kernel_rfl) (valsNr_all p) h
theorem ldW {P:Program} {ops:Array Oper} {rest:List Oper} {op:Oper} {a:Act} {w:World} {Q:Exit→Act→World→Prop} (T:TypeId) (x:Operand) (cs:List Value) (b o:Nat) {d:TypeDesc} (ho:op.op=.load T x) (hw:Region.wanted op (yielded ops a.tmps)=true) (hx:a.eval x=.pointer (some ⟨b,o,none⟩))
  (hu:P.underlying T=some d) (hd:d.isRow=true) (hi:(P.info? T).map (·.size)=some cs.length) (hc:w.rangeAt b o cs) (h:wpList P ops Q rest (a.put op.dst (.agg cs.toArray)) w):wpList P ops Q (op :: rest) a w :=
 BigFrame.wpList_want hw fun K hK=>wp_load_mid T x ho b o hx cs d hc hu hd hi (hK _ _ h)
theorem grow_loadM {P:Program} {ops:Array Oper} {o:Oper} {a:Act} {w:World} {K:Act→Prop} (T:TypeId) (x:Operand) (cs:List Value) (b off:Nat) {d:TypeDesc} (ho:o.op=.load T x) (hw:Region.wanted o (yielded ops a.tmps)=true) (hx:a.eval x=.pointer (some ⟨b,off,none⟩))
  (hu:P.underlying T=some d) (hd:d.isRow=true) (hi:(P.info? T).map (·.size)=some cs.length) (hc:∀ w',Gr w w'→w'.rangeAt b off cs) (hK:K (a.put o.dst (.agg cs.toArray))):∃ v,GrowIn P ops o v a w∧K (a.put o.dst v) :=
 grow_run _ hw (fun w' hw'=>by
  unfold execOp
  simp only [ho,hx,Instr.loadAt,Instr.sureAddr,Sem.run_bind,Sem.run_pure,Result.andThen_ok,run_loadVar_mid w' b off T cs d (hc w' hw') hu hd hi]
  exact ⟨rfl,rfl⟩) hK
theorem grow_ldN {ops:Array Oper} {o:Oper} {a:Act} {w:World} {K:Act→Prop} (x:Operand) (p:Nr) (b off:Nat) (ho:o.op=.load 84 x) (hw:Region.wanted o (yielded ops a.tmps)=true) (hx:a.eval x=.pointer (some ⟨b,off,none⟩))
  (hl:b<w.heap.size) (hc:w.rangeAt b off (valsNr p)) (hK:K (a.put o.dst (.agg (valsNr p).toArray))):∃ v,GrowIn Tryz.prog ops o v a w∧K (a.put o.dst v) :=
 grow_loadM 84 x (valsNr p) b off ho hw hx Tryz.underlying84 rfl (by kernel_rfl) (fun w' hw'=>rangeB hc (hw'.out.block b hl)) hK
end
section
open Go.Joins Go.ChangeShapes Go.WideShapes Go.RowKit Go.Deep
set_option maxHeartbeats 1000000
theorem slLnT_of {H:Type} {enc:TypeId × Value→H} {W:World} {n:Nat} {v0:Value} {y:DataW H × List MemPlace}
  (h:DataW.trod enc Tryz.prog W 0 (fun _=>true) true n 96 [v0]=some y):∃ a c,∃ L:List Ln,v0=.slice a L.length c∧LnV W a L∧L.length≤maxLen∧L.length≤c:=by
 obtain ⟨a,len,c,rfl,hlc⟩:∃ a len c,v0=.slice a len c∧len≤c:=by
  rcases open_slice Tryz.underlying96 h with ⟨hcs,_⟩ | ⟨x,l,c,m,fu,D,Pl,hcs,_,hl,_⟩
  ·exact ⟨none,0,0,by simpa using hcs,Nat.le_refl _⟩
  ·exact ⟨some x,l,c,by simpa using hcs,hl⟩
 obtain ⟨L,rfl,k,m⟩:=lines_of (enc:=enc) (a:=a) (len:=len) (cap:=c) (d:=y.1) (ps:=y.2) ⟨n,by simpa [Value.cells] using h⟩
 exact ⟨a,c,L,rfl,k,m,hlc⟩
section
variable {H:Type} {enc:TypeId × Value→H} {W:World}
theorem pkT_of {n:Nat} {c0 c1 c2 c3 c4 c5 c6 c7 c8:Value} {y:DataW H × List MemPlace} (h:DataW.trod enc Tryz.prog W 0 (fun _=>true) true n 97 [c0,c1,c2,c3,c4,c5,c6,c7,c8]=some y):∃ (z0:Int) (z1:Int) (z2:Int) (z3:Bool) (z4:Bool) (z5:Bool) (z6:Int) (z7:Int) (z8:Int),[c0,c1,c2,c3,c4,c5,c6,c7,c8]=[.int .i64 z0,.int .i64 z1,.int .i64 z2,.bool z3,.bool z4,.bool z5,.int .i64 z6,.int .i64 z7,.int .i64 z8]:=by
 obtain ⟨ys,m,_,_,_,hyl,hg⟩:=DataW.trod_struct Tryz.underlying97 h
 match ys,hyl,hg with
 | [y0,y1,y2,y3,y4,y5,y6,y7,y8],_,hg =>
  have ci:Tryz.prog.cellsOf 3=1:=by kernel_rfl
  have cb:Tryz.prog.cellsOf 4=1:=by kernel_rfl
  have t0:DataW.trod enc Tryz.prog W 0 (fun _=>true) true m 3 [c0]=some y0:=by have g:=hg 0 _ rfl;simpa [ci] using g
  have t1:DataW.trod enc Tryz.prog W 0 (fun _=>true) true m 3 [c1]=some y1:=by have g:=hg 1 _ rfl;simpa [ci] using g
  have t2:DataW.trod enc Tryz.prog W 0 (fun _=>true) true m 3 [c2]=some y2:=by have g:=hg 2 _ rfl;simpa [ci] using g
  have t3:DataW.trod enc Tryz.prog W 0 (fun _=>true) true m 4 [c3]=some y3:=by have g:=hg 3 _ rfl;simpa [cb] using g
  have t4:DataW.trod enc Tryz.prog W 0 (fun _=>true) true m 4 [c4]=some y4:=by have g:=hg 4 _ rfl;simpa [cb] using g
  have t5:DataW.trod enc Tryz.prog W 0 (fun _=>true) true m 4 [c5]=some y5:=by have g:=hg 5 _ rfl;simpa [cb] using g
  have t6:DataW.trod enc Tryz.prog W 0 (fun _=>true) true m 3 [c6]=some y6:=by have g:=hg 6 _ rfl;simpa [ci] using g
  have t7:DataW.trod enc Tryz.prog W 0 (fun _=>true) true m 3 [c7]=some y7:=by have g:=hg 7 _ rfl;simpa [ci] using g
  have t8:DataW.trod enc Tryz.prog W 0 (fun _=>true) true m 3 [c8]=some y8:=by have g:=hg 8 _ rfl;simpa [ci] using g
  obtain ⟨z0,e0,_,_⟩:=DataW.trod_int Tryz.underlying3 t0
  obtain ⟨z1,e1,_,_⟩:=DataW.trod_int Tryz.underlying3 t1
  obtain ⟨z2,e2,_,_⟩:=DataW.trod_int Tryz.underlying3 t2
  obtain ⟨z3,e3,_⟩:=DataW.trod_bool Tryz.underlying4 t3
  obtain ⟨z4,e4,_⟩:=DataW.trod_bool Tryz.underlying4 t4
  obtain ⟨z5,e5,_⟩:=DataW.trod_bool Tryz.underlying4 t5
  obtain ⟨z6,e6,_,_⟩:=DataW.trod_int Tryz.underlying3 t6
  obtain ⟨z7,e7,_,_⟩:=DataW.trod_int Tryz.underlying3 t7
  obtain ⟨z8,e8,_,_⟩:=DataW.trod_int Tryz.underlying3 t8
  simp only [List.cons.injEq,and_true] at e0 e1 e2 e3 e4 e5 e6 e7 e8
  exact ⟨z0,z1,z2,z3,z4,z5,z6,z7,z8,by rw [e0,e1,e2,e3,e4,e5,e6,e7,e8]⟩
theorem ceT_of {n:Nat} {c0 c1 c2 c3 c4 c5 c6 c7 c8:Value} {y:DataW H × List MemPlace} (h:DataW.trod enc Tryz.prog W 0 (fun _=>true) true n 98 [c0,c1,c2,c3,c4,c5,c6,c7,c8]=some y):∃ (z0:Int) (z1:Int) (z2:Int) (z3:Int) (z4:Int) (z5:Int) (z6:Int) (z7:Int) (z8:Int),[c0,c1,c2,c3,c4,c5,c6,c7,c8]=[.int .i64 z0,.int .i64 z1,.int .i64 z2,.int .i64 z3,.int .i64 z4,.int .i64 z5,.int .i64 z6,.int .i64 z7,.int .i64 z8]:=by
 obtain ⟨ys,m,_,_,_,hyl,hg⟩:=DataW.trod_struct Tryz.underlying98 h
 match ys,hyl,hg with
 | [y0,y1,y2,y3,y4,y5,y6,y7,y8],_,hg =>
  have ci:Tryz.prog.cellsOf 3=1:=by kernel_rfl
  have t0:DataW.trod enc Tryz.prog W 0 (fun _=>true) true m 3 [c0]=some y0:=by have g:=hg 0 _ rfl;simpa [ci] using g
  have t1:DataW.trod enc Tryz.prog W 0 (fun _=>true) true m 3 [c1]=some y1:=by have g:=hg 1 _ rfl;simpa [ci] using g
  have t2:DataW.trod enc Tryz.prog W 0 (fun _=>true) true m 3 [c2]=some y2:=by have g:=hg 2 _ rfl;simpa [ci] using g
  have t3:DataW.trod enc Tryz.prog W 0 (fun _=>true) true m 3 [c3]=some y3:=by have g:=hg 3 _ rfl;simpa [ci] using g
  have t4:DataW.trod enc Tryz.prog W 0 (fun _=>true) true m 3 [c4]=some y4:=by have g:=hg 4 _ rfl;simpa [ci] using g
  have t5:DataW.trod enc Tryz.prog W 0 (fun _=>true) true m 3 [c5]=some y5:=by have g:=hg 5 _ rfl;simpa [ci] using g
  have t6:DataW.trod enc Tryz.prog W 0 (fun _=>true) true m 3 [c6]=some y6:=by have g:=hg 6 _ rfl;simpa [ci] using g
  have t7:DataW.trod enc Tryz.prog W 0 (fun _=>true) true m 3 [c7]=some y7:=by have g:=hg 7 _ rfl;simpa [ci] using g
  have t8:DataW.trod enc Tryz.prog W 0 (fun _=>true) true m 3 [c8]=some y8:=by have g:=hg 8 _ rfl;simpa [ci] using g
  obtain ⟨z0,e0,_,_⟩:=DataW.trod_int Tryz.underlying3 t0
  obtain ⟨z1,e1,_,_⟩:=DataW.trod_int Tryz.underlying3 t1
  obtain ⟨z2,e2,_,_⟩:=DataW.trod_int Tryz.underlying3 t2
  obtain ⟨z3,e3,_,_⟩:=DataW.trod_int Tryz.underlying3 t3
  obtain ⟨z4,e4,_,_⟩:=DataW.trod_int Tryz.underlying3 t4
  obtain ⟨z5,e5,_,_⟩:=DataW.trod_int Tryz.underlying3 t5
  obtain ⟨z6,e6,_,_⟩:=DataW.trod_int Tryz.underlying3 t6
  obtain ⟨z7,e7,_,_⟩:=DataW.trod_int Tryz.underlying3 t7
  obtain ⟨z8,e8,_,_⟩:=DataW.trod_int Tryz.underlying3 t8
  simp only [List.cons.injEq,and_true] at e0 e1 e2 e3 e4 e5 e6 e7 e8
  exact ⟨z0,z1,z2,z3,z4,z5,z6,z7,z8,by rw [e0,e1,e2,e3,e4,e5,e6,e7,e8]⟩
theorem plT_of {n:Nat} {c0 c1 c2 c3 c4 c5 c6 c7 c8:Value} {y:DataW H × List MemPlace} (h:DataW.trod enc Tryz.prog W 0 (fun _=>true) true n 99 [c0,c1,c2,c3,c4,c5,c6,c7,c8]=some y):∃ (z0:Int) (z1:Int) (z2:Int) (z3:Int) (z4:Int) (z5:Int) (z6:Int) (z7:Int) (z8:Int),[c0,c1,c2,c3,c4,c5,c6,c7,c8]=[.int .i64 z0,.int .i64 z1,.int .i64 z2,.int .i64 z3,.int .i64 z4,.int .i64 z5,.int .i64 z6,.int .i64 z7,.int .i64 z8]:=by
 obtain ⟨ys,m,_,_,_,hyl,hg⟩:=DataW.trod_struct Tryz.underlying99 h
 match ys,hyl,hg with
 | [y0,y1,y2,y3,y4,y5,y6,y7,y8],_,hg =>
  have ci:Tryz.prog.cellsOf 3=1:=by kernel_rfl
  have t0:DataW.trod enc Tryz.prog W 0 (fun _=>true) true m 3 [c0]=some y0:=by have g:=hg 0 _ rfl;simpa [ci] using g
  have t1:DataW.trod enc Tryz.prog W 0 (fun _=>true) true m 3 [c1]=some y1:=by have g:=hg 1 _ rfl;simpa [ci] using g
  have t2:DataW.trod enc Tryz.prog W 0 (fun _=>true) true m 3 [c2]=some y2:=by have g:=hg 2 _ rfl;simpa [ci] using g
  have t3:DataW.trod enc Tryz.prog W 0 (fun _=>true) true m 3 [c3]=some y3:=by have g:=hg 3 _ rfl;simpa [ci] using g
  have t4:DataW.trod enc Tryz.prog W 0 (fun _=>true) true m 3 [c4]=some y4:=by have g:=hg 4 _ rfl;simpa [ci] using g
  have t5:DataW.trod enc Tryz.prog W 0 (fun _=>true) true m 3 [c5]=some y5:=by have g:=hg 5 _ rfl;simpa [ci] using g
  have t6:DataW.trod enc Tryz.prog W 0 (fun _=>true) true m 3 [c6]=some y6:=by have g:=hg 6 _ rfl;simpa [ci] using g
  have t7:DataW.trod enc Tryz.prog W 0 (fun _=>true) true m 3 [c7]=some y7:=by have g:=hg 7 _ rfl;simpa [ci] using g
  have t8:DataW.trod enc Tryz.prog W 0 (fun _=>true) true m 3 [c8]=some y8:=by have g:=hg 8 _ rfl;simpa [ci] using g
  obtain ⟨z0,e0,_,_⟩:=DataW.trod_int Tryz.underlying3 t0
  obtain ⟨z1,e1,_,_⟩:=DataW.trod_int Tryz.underlying3 t1
  obtain ⟨z2,e2,_,_⟩:=DataW.trod_int Tryz.underlying3 t2
  obtain ⟨z3,e3,_,_⟩:=DataW.trod_int Tryz.underlying3 t3
  obtain ⟨z4,e4,_,_⟩:=DataW.trod_int Tryz.underlying3 t4
  obtain ⟨z5,e5,_,_⟩:=DataW.trod_int Tryz.underlying3 t5
  obtain ⟨z6,e6,_,_⟩:=DataW.trod_int Tryz.underlying3 t6
  obtain ⟨z7,e7,_,_⟩:=DataW.trod_int Tryz.underlying3 t7
  obtain ⟨z8,e8,_,_⟩:=DataW.trod_int Tryz.underlying3 t8
  simp only [List.cons.injEq,and_true] at e0 e1 e2 e3 e4 e5 e6 e7 e8
  exact ⟨z0,z1,z2,z3,z4,z5,z6,z7,z8,by rw [e0,e1,e2,e3,e4,e5,e6,e7,e8]⟩
theorem nodeT_of {n:Nat} {cs:List Value} {y:DataW H × List MemPlace} (hs:cs.length=34) (h:DataW.trod enc Tryz.prog W 0 (fun _=>true) true n 101 cs=some y) :
  ∃ p:Nr,cs=valsNr p∧RdN W p∧p.n.cs.length≤maxLen∧p.n.rs.length≤maxLen:=by
 obtain ⟨ys,m,_,_,_,hyl,hg⟩:=DataW.trod_struct Tryz.underlying101 h
 match cs,hs,hg with
 | k0 :: k1 :: k2 :: k3 :: k4 :: k5 :: k6 :: k7 :: k8 :: k9 :: k10 :: k11 :: k12 :: k13 :: k14 :: k15 :: k16 :: k17 :: k18 :: k19 :: k20 :: k21 :: k22 :: k23 :: k24 :: k25 :: k26 :: k27 :: k28 :: k29 :: k30 :: k31 :: k32 :: k33 :: [],_,hg =>
  match ys,hyl,hg with
  | [y0,y1,y2,y3,y4,y5,y6,y7,y8,y9],_,hg =>
   have ci:Tryz.prog.cellsOf 3=1:=by kernel_rfl
   have cb:Tryz.prog.cellsOf 4=1:=by kernel_rfl
   have cl:Tryz.prog.cellsOf 96=1:=by kernel_rfl
   have cp:Tryz.prog.cellsOf 97=9:=by kernel_rfl
   have cc:Tryz.prog.cellsOf 98=9:=by kernel_rfl
   have ca:Tryz.prog.cellsOf 99=9:=by kernel_rfl
   have t0:DataW.trod enc Tryz.prog W 0 (fun _=>true) true m 3 [k0]=some y0:=by have g:=hg 0 _ rfl;simpa [ci] using g
   have t1:DataW.trod enc Tryz.prog W 0 (fun _=>true) true m 3 [k1]=some y1:=by have g:=hg 1 _ rfl;simpa [ci] using g
   have t2:DataW.trod enc Tryz.prog W 0 (fun _=>true) true m 3 [k2]=some y2:=by have g:=hg 2 _ rfl;simpa [ci] using g
   have t3:DataW.trod enc Tryz.prog W 0 (fun _=>true) true m 4 [k3]=some y3:=by have g:=hg 3 _ rfl;simpa [cb] using g
   have t4:DataW.trod enc Tryz.prog W 0 (fun _=>true) true m 3 [k4]=some y4:=by have g:=hg 4 _ rfl;simpa [ci] using g
   have t5:DataW.trod enc Tryz.prog W 0 (fun _=>true) true m 96 [k5]=some y5:=by have g:=hg 5 _ rfl;simpa [cl] using g
   have t6:DataW.trod enc Tryz.prog W 0 (fun _=>true) true m 96 [k6]=some y6:=by have g:=hg 6 _ rfl;simpa [cl] using g
   have t7:DataW.trod enc Tryz.prog W 0 (fun _=>true) true m 97 [k7,k8,k9,k10,k11,k12,k13,k14,k15]=some y7:=by have g:=hg 7 _ rfl;simpa [cp] using g
   have t8:DataW.trod enc Tryz.prog W 0 (fun _=>true) true m 98 [k16,k17,k18,k19,k20,k21,k22,k23,k24]=some y8:=by have g:=hg 8 _ rfl;simpa [cc] using g
   have t9:DataW.trod enc Tryz.prog W 0 (fun _=>true) true m 99 [k25,k26,k27,k28,k29,k30,k31,k32,k33]=some y9:=by have g:=hg 9 _ rfl;simpa [ca] using g
   obtain ⟨z0,e0,_,_⟩:=DataW.trod_int Tryz.underlying3 t0
   obtain ⟨z1,e1,_,_⟩:=DataW.trod_int Tryz.underlying3 t1
   obtain ⟨z2,e2,_,_⟩:=DataW.trod_int Tryz.underlying3 t2
   obtain ⟨z4,e4,_,_⟩:=DataW.trod_int Tryz.underlying3 t4
   obtain ⟨z3,e3,_⟩:=DataW.trod_bool Tryz.underlying4 t3
   obtain ⟨a5,c5,L5,e5,l5,m5,n5⟩:=slLnT_of t5
   obtain ⟨a6,c6,L6,e6,l6,m6,n6⟩:=slLnT_of t6
   obtain ⟨p0,p1,p2,p3,p4,p5,p6,p7,p8,e7⟩:=pkT_of t7
   obtain ⟨q0,q1,q2,q3,q4,q5,q6,q7,q8,e8⟩:=ceT_of t8
   obtain ⟨r0,r1,r2,r3,r4,r5,r6,r7,r8,e9⟩:=plT_of t9
   simp only [List.cons.injEq,and_true] at e0 e1 e2 e3 e4 e7 e8 e9
   subst e0 e1 e2 e3 e4 e5 e6
   obtain ⟨rfl,rfl,rfl,rfl,rfl,rfl,rfl,rfl,rfl⟩:=e7
   obtain ⟨rfl,rfl,rfl,rfl,rfl,rfl,rfl,rfl,rfl⟩:=e8
   obtain ⟨rfl,rfl,rfl,rfl,rfl,rfl,rfl,rfl,rfl⟩:=e9
   exact ⟨⟨⟨z0,z1,z2,z3,z4,L5,L6,⟨p0,p1,p2,p3,p4,p5,p6,p7,p8⟩,⟨q0,q1,q2,q3,q4,q5,q6,q7,q8⟩,⟨r0,r1,r2,r3,r4,r5,r6,r7,r8⟩⟩,a5,c5,a6,c6⟩,rfl,⟨l5,n5,l6,n6⟩,m5,m6⟩
theorem nodes_of {a:Option Addr} {len cap:Nat} {d:DataW H} {ps:List MemPlace}
  (h:DataW.Trod enc Tryz.prog W 0 (fun _=>true) true 22 (.slice a len cap) d ps):∃ R:List Nr,R.length=len∧NrV W a R∧RdR W R∧len≤maxLen∧∀ p ∈ R,p.n.cs.length≤maxLen∧p.n.rs.length≤maxLen:=by
 obtain ⟨fuel,hf⟩:=h
 have h9:Tryz.prog.cellsOf 101=34:=by kernel_rfl
 rcases open_slice Tryz.underlying22 hf with ⟨hcs,_⟩ | ⟨x,l,c,m,fu,D,Pl,hcs,_,hl,hm,hmm,_,hi⟩
 ·simp [Value.cells] at hcs
  obtain ⟨rfl,rfl,rfl⟩:=hcs
  exact ⟨[],rfl,NrV.nil _ _,fun p hp=>by simp at hp,by simp,fun p hp=>by simp at hp⟩
 ·simp [Value.cells] at hcs
  obtain ⟨rfl,rfl,rfl⟩:=hcs
  have hlen:len≤m:=by rw [hmm];simp;exact hl
  have each:∀ i,i<len→∃ p:Nr,(∀ j,j<34→W.cell? (x.add (i*34+j))=(valsNr p)[j]?)∧RdN W p∧p.n.cs.length≤maxLen∧p.n.rs.length≤maxLen:=by
   intro i him
   obtain ⟨cs,hrow,hread⟩:=hi i (by omega)
   rw [h9] at hrow
   obtain ⟨_,hsz,hat⟩:=World.cells?_some hrow
   obtain ⟨p,rfl,hp⟩:=nodeT_of (by simpa using hsz) hread
   refine ⟨p,fun j hj=>?_,hp⟩
   have hb:∀ (a:Addr) (i j:Nat),(a.add i).add j=a.add (i+j):=fun a i j=>by
    unfold Addr.add
    by_cases hi:i=0 <;> by_cases hj:j=0 <;> simp [hi,hj,Nat.add_assoc]
   have:=hat j hj
   rw [hb] at this
   exact this
  have hch:∃ f:Nat→Nr,∀ i,i<len→(∀ j,j<34→W.cell? (x.add (i*34+j))=(valsNr (f i))[j]?)∧RdN W (f i)∧(f i).n.cs.length≤maxLen∧(f i).n.rs.length≤maxLen:=by
   have z:Nr:=⟨⟨0,0,0,false,0,[],[],⟨0,0,0,false,false,false,0,0,0⟩,⟨0,0,0,0,0,0,0,0,0⟩,⟨0,0,0,0,0,0,0,0,0⟩⟩,none,0,none,0⟩
   refine ⟨fun i=>if h:i<len then Classical.choose (each i h) else z,fun i him=>?_⟩
   simp only [him,dif_pos]
   exact Classical.choose_spec (each i him)
  obtain ⟨f,hfc⟩:=hch
  have mem:∀ p ∈ (List.range len).map f,∃ i,i<len∧p=f i:=by
   intro p hp
   obtain ⟨i,hi,rfl⟩:=List.mem_map.1 hp
   exact ⟨i,List.mem_range.1 hi,rfl⟩
  refine ⟨(List.range len).map f,by simp,⟨fun h0=>?_⟩,fun p hp=>?_,by omega,fun p hp=>?_⟩
  ·have h0':0<len:=by simpa using h0
   obtain ⟨b,off,spot⟩:=x
   have hc:=(hfc 0 h0').1 0 (by omega)
   have hc':W.cell? ⟨b,off,spot⟩=some (.int .i64 (f 0).n.pa):=by simpa [Addr.add,valsNr] using hc
   have hspot:spot=none:=World.cell?_spot hc'
   subst hspot
   refine ⟨b,off,rfl,World.block_lt_of_cell? W _ hc',fun i p hp j v hj=>?_⟩
   have hil:i<len:=by
    have:=(List.getElem?_eq_some_iff.1 hp).1
    simpa using this
   have hpe:p=f i:=by
    rw [List.getElem?_map,List.getElem?_range hil] at hp
    simpa using hp.symm
   subst hpe
   have hadd:∀ n:Nat,(⟨b,off,none⟩:Addr).add n=⟨b,off+n,none⟩:=fun n=>by
    unfold Addr.add
    split
    ·rename_i h;subst h;rfl
    ·rfl
   have hj34:j<34:=(List.getElem?_eq_some_iff.1 hj).1
   have hcell:=(hfc i hil).1 j hj34
   rw [hadd] at hcell
   rw [Nat.add_assoc,hcell]
   exact hj
  ·obtain ⟨i,hi,rfl⟩:=mem p hp
   exact (hfc i hi).2.1
  ·obtain ⟨i,hi,rfl⟩:=mem p hp
   exact (hfc i hi).2.2
theorem tree_of {base:Nat} {v:Value} {d:DataW H} {ps:List MemPlace} (hv:Value.okWide Tryz.prog W .any base 24 v) (h:DataW.Trod enc Tryz.prog W 0 (fun _=>true) true 24 v d ps) :
  ∃ a c,∃ R:List Nr,v=.agg #[.slice a R.length c]∧NrV W a R∧RdR W R∧R.length≤maxLen∧∀ p ∈ R,p.n.cs.length≤maxLen∧p.n.rs.length≤maxLen:=by
 obtain ⟨cs,rfl,hsz⟩:=okWide_struct Tryz.underlying24 hv
 have h1:Tryz.prog.cellsOf 24=1:=by kernel_rfl
 have h2:Tryz.prog.cellsOf 22=1:=by kernel_rfl
 obtain ⟨l⟩:=cs
 match l,hsz.trans h1 with
 | [c0],_ =>
  obtain ⟨fuel,hf⟩:=h
  obtain ⟨ys,n,_,hx,_,hlen,hg⟩:=DataW.trod_struct Tryz.underlying24 hf
  match ys,hlen,hg with
  | [y0],_,hg =>
   have t0:DataW.trod enc Tryz.prog W 0 (fun _=>true) true n 22 [c0]=some y0:=by have g:=hg 0 _ rfl;simpa [h2,Value.cells] using g
   obtain ⟨a,len,c,rfl⟩:∃ a len c,c0=.slice a len c:=by
    rcases open_slice Tryz.underlying22 t0 with ⟨hcs,_⟩ | ⟨x,l,c,m,fu,D,Pl,hcs,_⟩
    ·exact ⟨none,0,0,by simpa using hcs⟩
    ·exact ⟨some x,l,c,by simpa using hcs⟩
   obtain ⟨R,rfl,k1,k2,k3,k4⟩:=nodes_of (enc:=enc) (a:=a) (len:=len) (cap:=c) (d:=y0.1) (ps:=y0.2) ⟨n,by simpa [Value.cells] using t0⟩
   exact ⟨a,c,R,rfl,k1,k2,k3,k4⟩
end
end
section
open Go.RowKit
set_option maxHeartbeats 1000000
attribute [local go_sem] growUpon_value growUpon_skip growUpon_enter
def szL:List Nr→Nat
 | []=>0
 | p :: t=>p.n.cs.length+p.n.rs.length+szL t
theorem szL_take:∀ {R:List Nr} {k:Nat} {p:Nr},R[k]?=some p→szL (R.take (k+1))=szL (R.take k)+(p.n.cs.length+p.n.rs.length)
 | q :: t,0,p,h=>by simp at h;subst h;simp [szL]
 | q :: t,k+1,p,h=>by
  simp only [List.getElem?_cons_succ] at h
  simp only [List.take_succ_cons,szL,szL_take h]
  omega
 | [],k,p,h=>by simp at h
theorem szL_le:∀ (R:List Nr) (k:Nat),szL (R.take k)≤szL R
 | [],k=>by simp [szL]
 | q :: t,0=>by simp [szL]
 | q :: t,k+1=>by have:=szL_le t k;simp only [List.take_succ_cons,szL];omega
theorem szNode_yes (p:Nr) (z:Int) (w:World) (h:(p.n.cs.length:Int)+p.n.rs.length≤z) (hz:z≤1048576) :
  Calls Tryz.prog 79 #[.agg (valsNr p).toArray,.int .i64 z] w fun e w'=>e=.returned (.int .i64 (z - (p.n.cs.length+p.n.rs.length)))∧Below w.heap.size w w':=by
 have hx:=newS w (.cells (valsNr p).toArray 101 (0,0))
 have c5:(w.alloc (.cells (valsNr p).toArray 101 (0,0))).cell? ⟨w.heap.size,5,none⟩=some (.slice p.ca p.n.cs.length p.cc):=cellS hx 5
 have c6:(w.alloc (.cells (valsNr p).toArray 101 (0,0))).cell? ⟨w.heap.size,6,none⟩=some (.slice p.ra p.n.rs.length p.rc):=cellS hx 6
 have d1:decide (z - (p.n.cs.length:Int)<0)=false:=decide_eq_false (by omega)
 have d2:decide (z - (p.n.cs.length:Int) - (p.n.rs.length:Int)<0)=false:=decide_eq_false (by omega)
 clear hx
 go_enter Tryz.func79,Tryz.ntmps79
 go_wp2_with fail
 with_reducible refine (szLnS_yes p.ca p.cc p.n.cs.length z _ (by omega) (by omega)).mono ?_
 rintro e w1 ⟨rfl,rfl⟩
 go_wp2_with fail
 with_reducible refine (szLnS_yes p.ra p.rc p.n.rs.length _ _ (by omega) (by omega)).mono ?_
 rintro e w1 ⟨rfl,rfl⟩
 go_wp2
 go_ret
 exact ⟨ret_int (by omega),balloc (Below.refl _ _)⟩
theorem szNode_no (p:Nr) (z:Int) (w:World) (h:¬ (p.n.cs.length:Int)+p.n.rs.length≤z) (h0:0≤z) (hz:z≤1048576) (m1:p.n.cs.length≤maxLen) (m2:p.n.rs.length≤maxLen) :
  Calls Tryz.prog 79 #[.agg (valsNr p).toArray,.int .i64 z] w fun e w'=>e=.returned (.int .i64 (-1))∧Below w.heap.size w w':=by
 have hx:=newS w (.cells (valsNr p).toArray 101 (0,0))
 have c5:(w.alloc (.cells (valsNr p).toArray 101 (0,0))).cell? ⟨w.heap.size,5,none⟩=some (.slice p.ca p.n.cs.length p.cc):=cellS hx 5
 have c6:(w.alloc (.cells (valsNr p).toArray 101 (0,0))).cell? ⟨w.heap.size,6,none⟩=some (.slice p.ra p.n.rs.length p.rc):=cellS hx 6
 clear hx
 by_cases g1:(p.n.cs.length:Int)≤z
 ·have d1:decide (z - (p.n.cs.length:Int)<0)=false:=decide_eq_false (by omega)
  go_enter Tryz.func79,Tryz.ntmps79
  go_wp2_with fail
  with_reducible refine (szLnS_yes p.ca p.cc p.n.cs.length z _ (by omega) (by omega)).mono ?_
  rintro e w1 ⟨rfl,rfl⟩
  go_wp2_with fail
  with_reducible refine (szLnS_no p.ra p.rc p.n.rs.length _ _ (by omega) (by omega) (by omega) m2).mono ?_
  rintro e w1 ⟨rfl,rfl⟩
  go_wp2
  go_ret
  exact ⟨rfl,balloc (Below.refl _ _)⟩
 ·go_enter Tryz.func79,Tryz.ntmps79
  go_wp2_with fail
  with_reducible refine (szLnS_no p.ca p.cc p.n.cs.length z _ (by omega) (by omega) (by omega) m1).mono ?_
  rintro e w1 ⟨rfl,rfl⟩
  go_wp2
  go_ret
  exact ⟨rfl,balloc (Below.refl _ _)⟩
theorem szNodeS_v (A:Option Addr) (c:Nat) (R:List Nr) (t:Int) (w:World) (h:NrV w A R) (hn:R.length≤maxLen) (hm:∀ p ∈ R,p.n.cs.length≤maxLen∧p.n.rs.length≤maxLen) (ht:(if R.length+szL R≤1048576 then (1048576:Int) - (R.length+szL R) else -1)=t) :
  Calls Tryz.prog 41 #[.slice A R.length c,.int .i64 1048576] w fun e w'=>e=.returned (.int .i64 t)∧Below w.heap.size w w':=by
 unfold maxLen at hn
 by_cases hl:R.length≤1048576
 ·have d0:decide ((1048576:Int) - (R.length:Int)<0)=false:=decide_eq_false (by omega)
  have HM:=hD hm
  have HT:=hD ht
  clear hm ht hn
  go_enter Tryz.func41,Tryz.ntmps41
  go_wp2_with fail
  go_loopw [1,5] (fun z i wr=>∃ k:Nat,k≤R.length∧i=.int .i64 k∧R.length+szL (R.take k)≤1048576∧z=.int .i64 (1048576 - (R.length+szL (R.take k)))∧Below w.heap.size w wr) (fun _ i _=>R.length - (intOf i).toNat)
  case atStart=>exact ⟨0,by omega,rfl,by simp [szL];omega,by simp [szL],Below.refl _ _⟩
  case round =>
   obtain ⟨k,hk,rfl,hle,rfl,hB⟩:=hrel
   by_cases hlt:k<R.length
   ·have hd:decide ((k:Int)<(R.length:Int))=true:=by simpa using hlt
    have hget:R[k]?=some R[k]:=List.getElem?_eq_getElem hlt
    obtain ⟨b,off,rfl,hb,hp⟩:=(h.keep hB).cells (by omega)
    have hL:=hp k _ hget
    have hms:=HM.out _ (List.mem_of_getElem? hget)
    have hst:=szL_take hget
    have hle2:=szL_le R (k+1)
    generalize R[k]=p at *
    have HB:=hD hB
    have HP:=hD hp
    have HLR:=hD hL
    clear hL
    have HG:=hD hget
    obtain ⟨m1,m2⟩:=hms
    clear hB hp hget
    obtain ⟨S,hS⟩:∃ S,szL (R.take k)=S:=⟨_,rfl⟩
    rw [hS] at hst hle
    rw [hS]
    have HS:=hD hS
    have HST:=hD hst
    clear hS
    by_cases g:R.length+(S+(p.n.cs.length+p.n.rs.length))≤1048576
    ·have d1:decide ((1048576:Int) - ((R.length:Int)+(S:Int)) - ((p.n.cs.length:Int)+(p.n.rs.length:Int))<0)=false:=decide_eq_false (by omega)
     have HLE:=hD hle2
     clear hle2 hst
     go_wp2_with (refine ldL _ p b (off+k*34) rfl rfl rfl HLR.out ?_)
     with_reducible refine (szNode_yes p (1048576 - ((R.length:Int)+(S:Int))) _ (by omega) (by omega)).mono ?_
     rintro e w1 ⟨rfl,hb1⟩
     replace HB:=hD (bkeep2 HB.out hb1)
     clear hb1
     go_wp2
     go_roundw
     case rel=>exact ⟨k+1,by omega,by go_num,by rw [HST.out];omega,by rw [HST.out];go_num,HB.out⟩
     case measure=>simp [intOf];omega
    ·have HLE:=hD hle2
     clear hle2 hst
     go_wp2_with (refine ldL _ p b (off+k*34) rfl rfl rfl HLR.out ?_)
     with_reducible refine (szNode_no p (1048576 - ((R.length:Int)+(S:Int))) _ (by omega) (by omega) (by omega) m1 m2).mono ?_
     rintro e w1 ⟨rfl,hb1⟩
     replace HB:=hD (bkeep2 HB.out hb1)
     clear hb1
     go_wp2
     go_ret
     exact ⟨ret_int (by rw [<- HT.out,if_neg (by have:=HLE.out;rw [HST.out] at this;omega)]),HB.out⟩
   ·have hd:decide ((k:Int)<(R.length:Int))=false:=decide_eq_false (by omega)
    obtain rfl:k=R.length:=by omega
    have HB:=hD hB
    rw [List.take_length] at hle
    rw [List.take_length]
    clear hB
    have HLE:=hD hle
    clear hle
    go_wp2
    go_ret
    exact ⟨ret_int (by rw [<- HT.out,if_pos HLE.out]),HB.out⟩
 ·have d0:decide ((1048576:Int) - (R.length:Int)<0)=true:=decide_eq_true (by omega)
  have HT:=hD ht
  clear ht hm
  go_enter Tryz.func41,Tryz.ntmps41
  go_wp2
  go_ret
  exact ⟨ret_int (by rw [<- HT.out,if_neg (by omega)]),Below.refl _ _⟩
theorem szTree_v (A:Option Addr) (c:Nat) (R:List Nr) (t:Int) (w:World) (h:NrV w A R) (hn:R.length≤maxLen) (hm:∀ p ∈ R,p.n.cs.length≤maxLen∧p.n.rs.length≤maxLen) (ht:(if R.length+szL R≤1048576 then (1048576:Int) - (R.length+szL R) else -1)=t) :
  Calls Tryz.prog 12 #[.agg #[.slice A R.length c],.int .i64 1048576] w fun e w'=>e=.returned (.int .i64 t)∧Below w.heap.size w w':=by
 have hB0:Below w.heap.size w (w.alloc (.cells #[.slice A R.length c] 24 (0,0))):=balloc (Below.refl _ _)
 have c0:(w.alloc (.cells #[.slice A R.length c] 24 (0,0))).cell? ⟨w.heap.size,0,none⟩=some (.slice A R.length c):=cellS (newS _ _) 0
 have HV:=hD (h.keep hB0)
 have HB:=hD hB0
 have HM:=hD (And.intro hn (And.intro hm ht))
 clear hB0 h hn hm
 have ht2:t=-1 ∨ 0≤t:=by rw [<- ht];split <;> omega
 clear ht
 rcases ht2 with rfl | ht2
 ·go_enter Tryz.func12,Tryz.ntmps12
  go_wp2_with fail
  with_reducible refine (szNodeS_v A c R _ _ HV.out HM.out.1 HM.out.2.1 HM.out.2.2).mono ?_
  rintro e w1 ⟨rfl,hb1⟩
  replace HB:=hD (bkeep2 HB.out hb1)
  clear hb1 c0
  go_wp2
  go_ret
  exact ⟨rfl,HB.out⟩
 ·have d1:decide (t<0)=false:=decide_eq_false (by omega)
  go_enter Tryz.func12,Tryz.ntmps12
  go_wp2_with fail
  with_reducible refine (szNodeS_v A c R _ _ HV.out HM.out.1 HM.out.2.1 HM.out.2.2).mono ?_
  rintro e w1 ⟨rfl,hb1⟩
  replace HB:=hD (bkeep2 HB.out hb1)
  clear hb1 c0
  go_wp2
  go_ret
  exact ⟨rfl,HB.out⟩
end
end Go.Proofs.YtenckjdiggaonaaGreat
