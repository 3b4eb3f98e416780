import Derived.Test.YtmmfifgdgbmgjaaGreatQM01
import Derived.Lib.Hide
import Derived.Outline
import Derived.RegionTactic
import Derived.Deep.QuietTactic
import Derived.BigQuiet
import Derived.Deep.RegionHeld3
import Derived.Deep.DrawnRows
import Derived.Deep.RegionWith
import Derived.LoopTactic
import Derived.OwnWalk
import Derived.Deep.Slices
import Derived.Deep.Fields
import Derived.ChangeSame
import Derived.Deep.MidRow
import Derived.BigFrame
import Derived.Deep.Cut
set_option linter.unusedVariables false
set_option linter.unusedSimpArgs false
set_option maxRecDepth 100000
set_option maxHeartbeats 16000000
namespace Go.Proofs.YtmmfifgdgbmgjaaGreat
open Go.RowKit
attribute [local go_sem] growUpon_value growUpon_skip growUpon_enter
def vr (x y w h:Int):Bool:=decide (0≤w∧w≤400∧0≤h∧h≤400∧-1000≤x∧x+w≤1000∧-1000≤y∧y+h≤1000)
def vs (a s:Int):Bool:=decide (-1000≤a∧0≤s∧s≤400∧a+s≤1000)
def rng (n a b:Int):Bool:=decide (a≤n∧n≤b)
theorem rng_iff {n a b:Int}:rng n a b=true↔(a≤n∧n≤b):=by simp [rng]
def mx (a b:Int):Int:=if b>a then b else a
def mn (a b:Int):Int:=if b<a then b else a
theorem mx_spec (a b:Int):a≤mx a b∧b≤mx a b∧(mx a b=a∨mx a b=b):=by unfold mx;split <;> omega
theorem mn_spec (a b:Int):mn a b≤a∧mn a b≤b∧(mn a b=a∨mn a b=b):=by unfold mn;split <;> omega
def eqR (x y u v x' y' u' v':Int):Bool:=decide (x=x'∧y=y'∧u=u'∧v=v')
section
theorem ret_bool {a b:Bool} (h:a=b):Ending.returned (.bool a)=.returned (.bool b):=by rw [h]
theorem ret_int {k:IntKind} {a b:Int} (h:a=b):Ending.returned (.int k a)=.returned (.int k b):=by rw [h]
theorem run_mx {P:Program} {w:World} (ts:Array TypeId) (t:TypeId) (k k':IntKind) (x y:Int):(Builtin.max_ ts t #[.int k x,.int k' y]).run P w=.ok (.int k (mx x y)) w:=run_max_int2 w ts t k k' x y
theorem run_mn {P:Program} {w:World} (ts:Array TypeId) (t:TypeId) (k k':IntKind) (x y:Int):(Builtin.min_ ts t #[.int k x,.int k' y]).run P w=.ok (.int k (mn x y)) w:=run_min_int2 w ts t k k' x y
attribute [local go_sem 5000] run_mx run_mn
theorem bcell {W w1:World} (hb:Below W.heap.size W w1):(∀ b o,b<W.heap.size→w1.cell? ⟨b,o,none⟩=W.cell? ⟨b,o,none⟩)∧(∀ b o,b<W.heap.size→w1.frozen? ⟨b,o,none⟩=W.frozen? ⟨b,o,none⟩) :=
 ⟨fun b o h=>hb.cell (p:=⟨b,o,none⟩) h,fun b o h=>hb.frozen (p:=⟨b,o,none⟩) h⟩
theorem bcell4 {W w1:World} (hb:Below W.heap.size W w1):(∀ b o,b<W.heap.size→w1.cell? ⟨b,o,none⟩=W.cell? ⟨b,o,none⟩)∧(∀ b o,b<W.heap.size→w1.frozen? ⟨b,o,none⟩=W.frozen? ⟨b,o,none⟩)∧(∀ b,b<W.heap.size→b<w1.heap.size)∧(∀ b,b<W.heap.size→(b=w1.heap.size)=False) :=
 ⟨fun b o h=>hb.cell (p:=⟨b,o,none⟩) h,fun b o h=>hb.frozen (p:=⟨b,o,none⟩) h,fun b h=>Nat.lt_of_lt_of_le h hb.size,fun b h=>eq_false (Nat.ne_of_lt (Nat.lt_of_lt_of_le h hb.size))⟩
theorem bcellS {W w1:World} (hb:Below W.heap.size W w1):∀ b o,(W.cell? ⟨b,o,none⟩).isSome=true→w1.cell? ⟨b,o,none⟩=W.cell? ⟨b,o,none⟩:=fun b o h=>by
 obtain ⟨v,hv⟩:=Option.isSome_iff_exists.1 h;exact hb.cell (p:=⟨b,o,none⟩) (World.block_lt_of_cell? W _ hv)
theorem within_any (n a b:Int) (w:World):Calls Tryz.prog 61 #[.int .i64 n,.int .i64 a,.int .i64 b] w fun e w'=>e=.returned (.bool (rng n a b))∧w=w':=by
 by_cases h1:a≤n <;> by_cases h2:n≤b
 all_goals
  go_enter Tryz.func61,Tryz.ntmps61
  go_wp2;go_ret;exact ⟨ret_bool (by simp [rng,h1,h2]),rfl⟩
theorem inRange_any (n a b:Int) (w:World):Calls Tryz.prog 44 #[.int .i64 n,.int .i64 a,.int .i64 b] w fun e w'=>e=.returned (.bool (rng n a b))∧w=w':=by
 by_cases h1:a≤n <;> by_cases h2:n≤b
 all_goals
  go_enter Tryz.func44,Tryz.ntmps44
  go_wp2;go_ret;exact ⟨ret_bool (by simp [rng,h1,h2]),rfl⟩
theorem validWish_w (a b:Int) (t:Bool) (w:World) (h:(rng a 0 30&&rng b 0 30)=t):Calls Tryz.prog 59 #[.int .i64 a,.int .i64 b] w fun e w'=>e=.returned (.bool t)∧w=w':=by
 subst h
 cases h1:rng a 0 30
 all_goals
  go_enter Tryz.func59,Tryz.ntmps59
  go_wp2_with (go_at_call 61;refine (within_any _ _ _ _).mono ?_;rintro e w' ⟨rfl,rfl⟩)
  go_ret;exact ⟨ret_bool (by simp),rfl⟩
theorem run_neqR (x y u v x' y' u' v':Int) (w:World):(binOp .neq 38 (.agg #[.int .i64 (x),.int .i64 (y),.int .i64 (u),.int .i64 (v)]) (.agg #[.int .i64 (x'),.int .i64 (y'),.int .i64 (u'),.int .i64 (v')])).run Tryz.prog w=.ok (.bool (!eqR x y u v x' y' u' v')) w:=by
 by_cases h1:x=x' <;> by_cases h2:y=y' <;> by_cases h3:u=u' <;> by_cases h4:v=v' <;> go_simp <;> simp [eqR,h1,h2,h3,h4]
end
section
attribute [local go_sem 5000] run_mx run_mn
attribute [local go_sem ↓] Go.wp_at_zero Go.wp_at_succ
theorem wp_gen {P:Program} {c:Code} {Q:Exit→Act→World→Prop} {a:Act} {W:World} (F:World→Prop) (hF:F W) (h:∀ W0,F W0→c.wp P Q a W0):c.wp P Q a W:=h W hF
theorem bkeep2 {W0 w1 w2:World} (h:Below W0.heap.size W0 w1) (hb:Below w1.heap.size w1 w2):Below W0.heap.size W0 w2:=h.trans (hb.mono h.size)
theorem bkeep {B:Nat} {W0 w1 w2:World} (h:Below B W0 w1) (hb:Below w1.heap.size w1 w2) (hB:B≤w1.heap.size):Below B W0 w2:=h.trans (hb.mono hB)
end
theorem bdrewn {W w':World} (h:Below W.drew.heap.size W.drew w'):Below W.heap.size W w':=(Below.refl _ _).drew.trans h
def wrAt (cs:Array Value) (o:Nat):List Value→Array Value
 | []=>cs
 | v :: r=>wrAt (cs.setIfInBounds o v) (o+1) r
theorem wrAt_size:∀ (vs:List Value) (cs:Array Value) (o:Nat),(wrAt cs o vs).size=cs.size
 | [],cs,o=>rfl
 | v :: r,cs,o=>by unfold wrAt;rw [wrAt_size r];simp
theorem wrAt_lo:∀ (vs:List Value) (cs:Array Value) (o i:Nat),i<o→(wrAt cs o vs)[i]?=cs[i]?
 | [],cs,o,i,_=>rfl
 | v :: r,cs,o,i,h=>by unfold wrAt;rw [wrAt_lo r _ _ _ (by omega),Array.getElem?_setIfInBounds_ne (by omega)]
theorem wrAt_hi:∀ (vs:List Value) (cs:Array Value) (o i:Nat),o+vs.length≤i→(wrAt cs o vs)[i]?=cs[i]?
 | [],cs,o,i,_=>rfl
 | v :: r,cs,o,i,h=>by
  simp only [List.length_cons] at h;unfold wrAt;rw [wrAt_hi r _ _ _ (by omega),Array.getElem?_setIfInBounds_ne (by omega)]
theorem wrAt_in:∀ (vs:List Value) (cs:Array Value) (o j:Nat),o+vs.length≤cs.size→j<vs.length→(wrAt cs o vs)[o+j]?=vs[j]?
 | [],cs,o,j,_,h=>by simp at h
 | v :: r,cs,o,0,h,_=>by
  simp only [List.length_cons] at h;unfold wrAt;rw [wrAt_lo r _ _ _ (by omega),Nat.add_zero,Array.getElem?_setIfInBounds_self_of_lt (by omega)]
  rfl
 | v :: r,cs,o,j+1,h,hj=>by
  simp only [List.length_cons] at h hj;unfold wrAt;rw [show o+(j+1)=o+1+j from by omega,wrAt_in r _ _ _ (by simp;omega) (by omega)]
  simp
theorem putS {w:World} {b i:Nat} {cs:Array Value} {T:TypeId} {fz:Nat × Nat} (h:w.heap[b]?=some (.cells cs T fz)) (u:Value):(w.setCell ⟨b,i,none⟩ u).heap[b]?=some (.cells (cs.setIfInBounds i u) T fz):=by
 simp [World.setCell,Array.getElem?_modify,h]
theorem cellS {w:World} {b:Nat} {cs:Array Value} {T:TypeId} {fz:Nat × Nat} (h:w.heap[b]?=some (.cells cs T fz)) (i:Nat):w.cell? ⟨b,i,none⟩=cs[i]?:=by simp [World.cell?,h]
theorem frozenS {w:World} {b:Nat} {cs:Array Value} {T:TypeId} (h:w.heap[b]?=some (.cells cs T (0,0))) (i:Nat):w.frozen? ⟨b,i,none⟩=false:=by simp [World.frozen?,h]
theorem thereS {w:World} {b:Nat} {cs:Array Value} {T:TypeId} {fz:Nat × Nat} (h:w.heap[b]?=some (.cells cs T fz)) {i:Nat} (hi:i<cs.size):∃ v,w.cell? ⟨b,i,none⟩=some v:=⟨cs[i],(cellS h i).trans (by simp [hi])⟩
theorem newS (w:World) (o:Obj):(w.alloc o).heap[w.heap.size]?=some o:=by
 show (w.heap.push _)[w.heap.size]?=_
 simp
theorem ltS {w:World} {g:Nat} {o:Obj} (h:w.heap[g]?=some o):g<w.heap.size:=(gE h).1
theorem gsetS {w w':World} {g:Nat} (h:w.grownBy w' (some g)) (o:Nat) (v:Value):w.grownBy (w'.setCell ⟨g,o,none⟩ v) (some g) :=
 ⟨h.os,h.tape,h.output,by simpa [World.setCell] using h.size,fun k hk hne=>(Below.heap_setCell w' ⟨g,o,none⟩ v k (by rintro rfl;exact hne rfl)).trans (h.block k hk hne)⟩
theorem greflS (w:World) (g:Nat):w.grownBy w (some g):=⟨rfl,rfl,rfl,Nat.le_refl _,fun _ _ _=>rfl⟩
def InS (cs:Array Value) (o:Nat) (l:List Value):Prop:=∀ j u,l[j]?=some u→cs[o+j]?=some u
theorem InS.write {cs:Array Value} {o:Nat} {l:List Value} (h:o+l.length≤cs.size):InS (wrAt cs o l) o l:=fun j u hu=>by
 have hj:=(List.getElem?_eq_some_iff.1 hu).1;rw [wrAt_in _ _ _ _ h hj,hu]
theorem InS.keepS {cs:Array Value} {o o':Nat} {l m:List Value} (h:InS cs o' m) (hd:o'+m.length≤o∨o+l.length≤o'):InS (wrAt cs o l) o' m:=fun j u hu=>by
 have hj:=(List.getElem?_eq_some_iff.1 hu).1
 rcases hd with hd | hd
 ·rw [wrAt_lo _ _ _ _ (by omega)];exact h j u hu
 ·rw [wrAt_hi _ _ _ _ (by omega)];exact h j u hu
structure Ln where
 wt:Int
 mi:Int
def valsLn (p:Ln):List Value:=[.int .i64 p.wt,.int .i64 p.mi]
structure LnV (w:World) (A:Option Addr) (L:List Ln):Prop where
 cells:0<L.length→∃ b off,A=some ⟨b,off,none⟩∧b<w.heap.size∧∀ i p,L[i]?=some p→w.cell? ⟨b,off+i*2,none⟩=some (.int .i64 p.wt)∧w.cell? ⟨b,off+i*2+1,none⟩=some (.int .i64 p.mi)
theorem LnV.keep {w w':World} {A:Option Addr} {L:List Ln} (h:LnV w A L) (hb:Below w.heap.size w w'):LnV w' A L :=
 ⟨fun h0=>let ⟨b,off,e,hl,hp⟩:=h.cells h0;⟨b,off,e,Nat.lt_of_lt_of_le hl hb.size,fun i p hi=>by
  obtain ⟨c0,c1⟩:=hp i p hi
  exact ⟨(hb.cell (p:=⟨b,off+i*2,none⟩) hl).trans c0,(hb.cell (p:=⟨b,off+i*2+1,none⟩) hl).trans c1⟩⟩⟩
theorem LnV.nil (w:World) (A:Option Addr):LnV w A []:=⟨fun h=>absurd h (by simp)⟩
def LnB (w:World) (g:Nat) (L:List Ln):Prop:=∃ cs:Array Value,w.heap[g]?=some (.cells cs 157 (0,0))∧cs.size=L.length*2∧∀ i p,L[i]?=some p→InS cs (i*2) (valsLn p)
theorem LnB.v {w:World} {g:Nat} {L:List Ln} (h:LnB w g L):LnV w (some ⟨g,0,none⟩) L:=by
 obtain ⟨cs,hh,hs,hc⟩:=h;refine ⟨fun _=>⟨g,0,rfl,ltS hh,fun i p hp=>?_⟩⟩;have hi:=hc i p hp;simp only [Nat.zero_add];exact ⟨(cellS hh _).trans (hi 0 _ rfl),(cellS hh _).trans (hi 1 _ rfl)⟩
theorem LnB.lt {w:World} {g:Nat} {L:List Ln} (h:LnB w g L):g<w.heap.size:=by obtain ⟨cs,hh,_⟩:=h;exact ltS hh
theorem LnB.keep {w w':World} {g:Nat} {L:List Ln} (h:LnB w g L) (hb:Below w.heap.size w w'):LnB w' g L:=by
 obtain ⟨cs,hh,hs,hc⟩:=h;exact ⟨cs,(hb.block g (ltS hh)).trans hh,hs,hc⟩
theorem LnB.but {w w':World} {g h:Nat} {L:List Ln} (hi:LnB w h L) (hg:w.grownBy w' (some g)) (hne:h≠g):LnB w' h L:=by
 obtain ⟨cs,hh,hs,hc⟩:=hi;exact ⟨cs,(hg.block h (ltS hh) (fun e=>hne (Option.some.inj e))).trans hh,hs,hc⟩
theorem madeLn:∃ f:Nat→Array Value,(∀ n,(f n).size=n*2)∧∀ (n:Nat) (w:World),n≤1048576→(Instr.makeSlice 85 (.int .i64 (n:Int)) (.int .i64 (n:Int))).run Tryz.prog w=.ok (.slice (some ⟨w.heap.size,0,none⟩) n n) (w.alloc (.cells (f n) 157)):=by
 have hinfo:(Tryz.prog.info? 157).map (fun i=>(i.zero,i.size,i.bytes))=some (some (.agg #[.int .i64 0,.int .i64 0]),2,16):=by kernel_rfl
 obtain ⟨i,hi,h1,h2,h3⟩:=info_parts hinfo;refine ⟨fun n=>madeCells (Value.agg #[.int .i64 0,.int .i64 0]).cells (n*2),fun n=>size_madeCells _ _,fun n w hn=>?_⟩;have hr:=run_make (P:=Tryz.prog) w 85 157 i _ Tryz.underlying85 hi h1 .i64 .i64 n n (by omega) (Int.le_refl _) (by rw [h3];omega) (by omega);rw [h2] at hr
 simpa using hr
theorem toLn_v (p:Ln) (w:World):Calls Tryz.prog 122 #[.agg #[.int .i64 p.wt,.int .i64 p.mi]] w fun e w'=>e=.returned (.agg #[.int .i64 p.wt,.int .i64 p.mi])∧Below w.heap.size w w':=by
 obtain ⟨x0,x1⟩:=p
 go_enter Tryz.func122,Tryz.ntmps122
 go_wp2;exact bodyPost_ret (v:=.agg #[.int .i64 x0,.int .i64 x1]) (by simp only [results,Tryz.results122];go_simp) rfl ⟨rfl,(by repeat (first | with_reducible exact Below.refl _ _ | with_reducible assumption | with_reducible refine balloc ?_|(with_reducible refine bset ?_ ?_;rotate_left;((try dsimp only);omega)) | refine bkeep2 ?_ (by assumption) | with_reducible refine Below.drew ?_))⟩
theorem putLn {w:World} {b:Nat} {cs:Array Value} {T:TypeId} {fz:Nat × Nat} (h:w.heap[b]?=some (.cells cs T fz)) (o:Nat) (p:Ln) :
  (((w.setCell ⟨b,o,none⟩ (.int .i64 p.wt)).setCell ⟨b,o+1,none⟩ (.int .i64 p.mi))).heap[b]?=some (.cells (wrAt cs o (valsLn p)) T fz) :=
 putS (putS h _) _
theorem putLnb {B b:Nat} {a w:World} (h:Below B a w) (hb:B≤b) (o:Nat) (p:Ln):Below B a (((w.setCell ⟨b,o,none⟩ (.int .i64 p.wt)).setCell ⟨b,o+1,none⟩ (.int .i64 p.mi))) :=
 ((h).setCell hb _).setCell hb _
theorem toLnS_any (A:Option Addr) (c:Nat) (L:List Ln) (w:World) (h:LnV w A L) (hL:L.length≤1048576) :
  Calls Tryz.prog 82 #[.slice A L.length c] w fun e w'=>e=.returned (.slice (some ⟨w.heap.size,0,none⟩) L.length L.length)∧LnB w' w.heap.size L∧Below w.heap.size w w':=by
 obtain ⟨f,hf,hmk0⟩:=madeLn
 have hmk:∀ w:World,(Instr.makeSlice 85 (.int .i64 (L.length:Int)) (.int .i64 (L.length:Int))).run Tryz.prog w=.ok (.slice (some ⟨w.heap.size,0,none⟩) L.length L.length) (w.alloc (.cells (f L.length) 157)):=fun w=>hmk0 L.length w hL
 go_enter Tryz.func82,Tryz.ntmps82
 go_wp2_with fail
 have HWW:Hid (∃ cs:Array Value,(w.alloc (.cells (f L.length) 157)).heap[w.heap.size]?=some (.cells cs 157 (0,0))∧cs.size=L.length*2∧∀ i p,i<0→L[i]?=some p→InS cs (i*2) (valsLn p)):=hD ⟨_,newS _ _,hf _,fun i p hi=>absurd hi (by omega)⟩;clear hmk hmk0 hf
 go_loopw [4] (fun i wr=>∃ k:Nat,k≤L.length∧i=.int .i64 k∧(∃ cs:Array Value,wr.heap[w.heap.size]?=some (.cells cs 157 (0,0))∧cs.size=L.length*2∧∀ i p,i<k→L[i]?=some p→InS cs (i*2) (valsLn p))∧Below w.heap.size w wr) (fun i _=>L.length-(intOf i).toNat)
 case atStart=>exact ⟨0,by omega,rfl,HWW.out,balloc (Below.refl _ _)⟩
 case round =>
  obtain ⟨k,hk,rfl,⟨cs,hh,hs,hc⟩,hB⟩:=hrel;clear HWW
  by_cases hlt:k<L.length
  ·have hd:decide ((k:Int)<(L.length:Int))=true:=by simpa using hlt
   obtain ⟨b,off,rfl,hb,hp⟩:=(h.keep hB).cells (by omega);have hget:L[k]?=some L[k]:=List.getElem?_eq_getElem hlt;obtain ⟨c0,c1⟩:=hp k _ hget;generalize hx:L[k]=p at *;have HG:=hD hget;have HX:=hD hx;have HH:=hD hh;have HS:=hD hs;have HC:=hD hc;have HBB:=hD hB;have HP:=hD hp;clear hget hx hh hs hc hB hp
   go_wp2_with fail
   refine (toLn_v p _).mono ?_;rintro e w1 ⟨rfl,hb1⟩;have hlg:w.heap.size<wr.heap.size:=ltS HH.out;replace HH:=hD ((hb1.block _ hlg).trans HH.out);replace HBB:=hD (HBB.out.trans (hb1.mono HBB.out.size));clear hb1 c0 c1 hlg
   have hsz:k*2+2≤cs.size:=by rw [HS.out];omega
   obtain ⟨y0,d0⟩:=thereS HH.out (i:=k*2) (by omega);obtain ⟨y1,d1⟩:=thereS HH.out (i:=k*2+1) (by omega);have f0:=frozenS HH.out (k*2);have f1:=frozenS HH.out (k*2+1);have E1:=hD (putLn HH.out (k*2) p);have E2:=hD (putLnb HBB.out (Nat.le_refl _) (k*2) p);go_wp2
   go_roundw
   case rel=>exact ⟨k+1,by omega,by go_num,⟨_,E1.out,(wrAt_size _ _ _).trans HS.out,fun i q hi hq=>by
    by_cases e:i=k
    ·subst e
     obtain rfl:p=q:=by have:=HG.out;rw [this] at hq;exact Option.some.inj hq
     exact InS.write (by simp only [valsLn,List.length_cons,List.length_nil];omega)
    ·exact (HC.out i q (by omega) hq).keepS (.inl (by simp only [valsLn,List.length_cons,List.length_nil];omega))⟩,E2.out⟩
   case measure=>simp [intOf];omega
  ·have hd:decide ((k:Int)<(L.length:Int))=false:=by simp;omega
   obtain rfl:k=L.length:=by omega
   have HR:=hD (show LnB wr w.heap.size L from ⟨cs,hh,hs,fun i p hp=>hc i p (List.getElem?_eq_some_iff.1 hp).1 hp⟩);have HBB:=hD hB;clear hh hs hc hB;go_wp2;go_ret;exact ⟨rfl,HR.out,HBB.out⟩
theorem eqLn_same (p:Ln) (w:World):Calls Tryz.prog 129 #[.agg #[.int .i64 p.wt,.int .i64 p.mi],.agg #[.int .i64 p.wt,.int .i64 p.mi]] w fun e w'=>e=.returned (.bool true)∧Below w.heap.size w w':=by
 go_enter Tryz.func129,Tryz.ntmps129
 go_wp2;go_ret;exact ⟨rfl,balloc (balloc (Below.refl _ _))⟩
theorem eqLnS_same (A B:Option Addr) (c c':Nat) (L:List Ln) (w:World) (h:LnV w A L) (h':LnV w B L) (hL:L.length≤1048576) :
  Calls Tryz.prog 100 #[.slice A L.length c,.slice B L.length c'] w fun e w'=>e=.returned (.bool true)∧Below w.heap.size w w':=by
 go_enter Tryz.func100,Tryz.ntmps100
 go_wp2_with fail
 go_loopw [5] (fun i wr=>∃ k:Nat,k≤L.length∧i=.int .i64 k∧Below w.heap.size w wr) (fun i _=>L.length-(intOf i).toNat)
 case atStart=>exact ⟨0,by omega,rfl,Below.refl _ _⟩
 case round =>
  obtain ⟨k,hk,rfl,hB⟩:=hrel
  by_cases hlt:k<L.length
  ·have hd:decide ((k:Int)<(L.length:Int))=true:=by simpa using hlt
   obtain ⟨b,off,rfl,hb,hp⟩:=(h.keep hB).cells (by omega);obtain ⟨b',off',rfl,hb',hp'⟩:=(h'.keep hB).cells (by omega);obtain ⟨c0,c1⟩:=hp k _ (List.getElem?_eq_getElem hlt);obtain ⟨d0,d1⟩:=hp' k _ (List.getElem?_eq_getElem hlt);generalize hx:L[k]=p at *;have HX:=hD hx;have HBB:=hD hB;clear hx hp hp' hB
   go_wp2_with fail
   refine wp_region_grow 10 0 (·<10) (by kernel_rfl) (by kernel_rfl) rfl ?_
   iterate 10 (refine wpG_step (fun K hK=>?_);first|(refine grow_skip rfl ?_;go_simp;refine hK _ ?_;clear hK K)|(apply Exists.intro;refine ⟨.inl ⟨rfl,fun w' hw'=>?_⟩,?_⟩;(focus ((obtain ⟨hc,hf⟩:=bcell hw'.out);(have hcS:=bcellS hw'.out);go_simp <;> first | rfl|(go_at_call 129;exact eqLn_same p _)));(go_simp;refine hK _ ?_;clear hK K)))
   refine wpG_nil ?_;refine wpK_tail (by kernel_rfl) (fun w1 hg1=>?_);have hb1:=bdrewn hg1.out;refine wpAny_end (by kernel_rfl) ?_;refine NoPan.thn ?_;clear hg1;replace HBB:=hD (HBB.out.trans (hb1.mono HBB.out.size));clear hb1 c0 c1 d0 d1;go_wp2
   go_roundw
   case rel=>exact ⟨k+1,by omega,by go_num,HBB.out⟩
   case measure=>simp [intOf];omega
  ·have hd:decide ((k:Int)<(L.length:Int))=false:=by simp;omega
   have HBB:=hD hB;clear hB;go_wp2;go_ret;exact ⟨rfl,HBB.out⟩
theorem szLnS_yes (A:Option Addr) (c n:Nat) (z:Int) (w:World) (h:(n:Int)≤z) (hz:z≤1048576):Calls Tryz.prog 76 #[.slice A n c,.int .i64 z] w fun e w'=>e=.returned (.int .i64 (z-n))∧w'=w:=by
 have h1:decide (z-(n:Int)<0)=false:=by simp;omega
 go_enter Tryz.func76,Tryz.ntmps76
 go_wp2;go_ret;exact ⟨rfl,rfl⟩
theorem szLnS_no (A:Option Addr) (c n:Nat) (z:Int) (w:World) (h:¬ (n:Int)≤z) (h0:0≤z) (hz:z≤1048576) (hn:n≤maxLen):Calls Tryz.prog 76 #[.slice A n c,.int .i64 z] w fun e w'=>e=.returned (.int .i64 (-1))∧w'=w:=by
 unfold maxLen at hn
 have h1:decide (z-(n:Int)<0)=true:=by simp;omega
 go_enter Tryz.func76,Tryz.ntmps76
 go_wp2;go_ret;exact ⟨rfl,rfl⟩
theorem markLnS_v (g n:Nat) (z:Int) (L:List Ln) (w:World) (h:LnB w g L) (hn:n=L.length) (hL:L.length≤1048576) (h0:1≤z) (hz:z≤1000000000) :
  Calls Tryz.prog 67 #[.slice (some ⟨g,0,none⟩) n n,.int .i64 z] w fun e w'=>e=.returned (.int .i64 ((L.length:Int)*2+z))∧w.grownBy w' (some g):=by
 subst hn;obtain ⟨cs0,hh0,hs0,_⟩:=h;have H0:=hD (And.intro hh0 hs0);clear hh0 hs0
 go_enter Tryz.func67,Tryz.ntmps67
 go_wp2_with fail
 go_loopw [1,5] (fun kk i wr=>∃ k:Nat,k≤L.length∧i=.int .i64 k∧kk=.int .i64 ((k:Int)*2+z)∧(∃ cs:Array Value,wr.heap[g]?=some (.cells cs 157 (0,0))∧cs.size=L.length*2)∧w.grownBy wr (some g)) (fun _ i _=>L.length-(intOf i).toNat)
 case atStart=>exact ⟨0,by omega,rfl,by simp,⟨_,H0.out.1,H0.out.2⟩,greflS _ _⟩
 case round =>
  obtain ⟨k,hk,rfl,rfl,⟨cs,hh,hs⟩,hB⟩:=hrel;clear H0
  by_cases hlt:k<L.length
  ·have hd:decide ((k:Int)<(L.length:Int))=true:=by simpa using hlt
   obtain ⟨y0,d0⟩:=thereS hh (i:=k*2) (by omega);obtain ⟨y1,d1⟩:=thereS hh (i:=k*2+1) (by omega);have f0:=frozenS hh (k*2);have f1:=frozenS hh (k*2+1);have HH:=hD hh;have HS:=hD hs;have HB:=hD hB;clear hh hs hB
   go_wp2_with fail
   go_roundw
   case rel =>
    refine ⟨k+1,by omega,by go_num,by go_num,⟨_,putS (putS (HH.out) _) _,by simpa using HS.out⟩,?_⟩;exact gsetS (gsetS (HB.out) _ _) _ _
   case measure=>simp [intOf];omega
  ·have hd:decide ((k:Int)<(L.length:Int))=false:=by simp;omega
   obtain rfl:k=L.length:=by omega
   have HB:=hD hB;clear hh hs hB;go_wp2;go_ret;exact ⟨rfl,HB.out⟩
section
open Go.Joins Go.ChangeShapes Go.WideShapes Go.RowKit Go.Deep
theorem lines_of {H:Type} {enc:TypeId × Value→H} {W:World} {a:Option Addr} {len cap:Nat} {d:DataW H} {ps:List MemPlace}
  (h:DataW.Trod enc Tryz.prog W 0 (fun _=>true) true 75 (.slice a len cap) d ps):∃ L:List Ln,L.length=len∧LnV W a L∧len≤maxLen:=by
 obtain ⟨fuel,hf⟩:=h
 have h9:Tryz.prog.cellsOf 177=2:=by kernel_rfl
 rcases open_slice Tryz.underlying75 hf with ⟨hcs,_⟩ | ⟨x,l,c,m,fu,D,Pl,hcs,_,hl,hm,hmm,_,hi⟩
 ·simp [Value.cells] at hcs
  obtain ⟨rfl,rfl,rfl⟩:=hcs;exact ⟨[],rfl,LnV.nil _ _,by simp⟩
 ·simp [Value.cells] at hcs
  obtain ⟨rfl,rfl,rfl⟩:=hcs
  have hlen:len≤m:=by rw [hmm];simp;exact hl
  have each:∀ i,i<len→∃ p:Ln,∀ j,j<2→W.cell? (x.add (i*2+j))=(valsLn p)[j]?:=by
   intro i him;obtain ⟨cs,hrow,hread⟩:=hi i (by omega);rw [h9] at hrow;obtain ⟨_,hsz,hat⟩:=World.cells?_some hrow;obtain ⟨ys,n,_,_,_,hyl,hg⟩:=DataW.trod_struct Tryz.underlying177 hread
   match cs,hsz,hat,hg with
   | [k0,k1],_,hat,hg =>
    match ys,hyl,hg with
    | [y0,y1],_,hg =>
     have t0:DataW.trod enc Tryz.prog W 0 (fun _=>true) true n 3 [k0]=some y0:=by
      have g:=hg 0 _ rfl
      have c:Tryz.prog.cellsOf 3=1:=by kernel_rfl
      simpa [c] using g
     have t1:DataW.trod enc Tryz.prog W 0 (fun _=>true) true n 3 [k1]=some y1:=by
      have g:=hg 1 _ rfl
      have c:Tryz.prog.cellsOf 3=1:=by kernel_rfl
      simpa [c] using g
     obtain ⟨z0,e0,_,_⟩:=DataW.trod_int Tryz.underlying3 t0;obtain ⟨z1,e1,_,_⟩:=DataW.trod_int Tryz.underlying3 t1;simp only [List.cons.injEq,and_true] at e0 e1;subst e0 e1;refine ⟨⟨z0,z1⟩,fun j hj=>?_⟩
     have hb:∀ (a:Addr) (i j:Nat),(a.add i).add j=a.add (i+j):=fun a i j=>by
      unfold Addr.add
      by_cases hi:i=0 <;> by_cases hj:j=0 <;> simp [hi,hj,Nat.add_assoc]
     have:=hat j hj
     rw [hb] at this;exact this
  have hch:∃ f:Nat→Ln,∀ i,i<len→∀ j,j<2→W.cell? (x.add (i*2+j))=(valsLn (f i))[j]?:=by
   refine ⟨fun i=>if h:i<len then Classical.choose (each i h) else ⟨0,0⟩,fun i him=>?_⟩;simp only [him,dif_pos];exact Classical.choose_spec (each i him)
  obtain ⟨f,hfc⟩:=hch;refine ⟨(List.range len).map f,by simp,⟨fun h0=>?_⟩,by omega⟩
  have h0':0<len:=by simpa using h0
  obtain ⟨b,off,spot⟩:=x;have hc:=hfc 0 h0' 0 (by omega)
  have hc':W.cell? ⟨b,off,spot⟩=some (.int .i64 (f 0).wt):=by simpa [Addr.add,valsLn] using hc
  have hspot:spot=none:=World.cell?_spot hc';subst hspot;refine ⟨b,off,rfl,World.block_lt_of_cell? W _ hc',fun i p hp=>?_⟩
  have hil:i<len:=by
   have:=(List.getElem?_eq_some_iff.1 hp).1
   simpa using this
  have hpe:p=f i:=by
   rw [List.getElem?_map,List.getElem?_range hil] at hp
   simpa using hp.symm
  subst hpe
  have hadd:∀ n:Nat,(⟨b,off,none⟩:Addr).add n=⟨b,off+n,none⟩:=fun n=>by
   unfold Addr.add
   split
   ·rename_i h;subst h;rfl
   ·rfl
  have hcell:=hfc i hil;simp only [hadd] at hcell
  have e:∀ j,j<2→W.cell? ⟨b,off+i*2+j,none⟩=(valsLn (f i))[j]?:=fun j hj=>by rw [Nat.add_assoc];exact hcell j hj
  exact ⟨e 0 (by omega),e 1 (by omega)⟩
end
structure Ce where
 co:Int
 ro:Int
 mc:Int
 mr:Int
 cw:Int
 ch:Int
 sk:Int
 px:Int
 py:Int
def valsCe (p:Ce):List Value:=[.int .i64 p.co,.int .i64 p.ro,.int .i64 p.mc,.int .i64 p.mr,.int .i64 p.cw,.int .i64 p.ch,.int .i64 p.sk,.int .i64 p.px,.int .i64 p.py]
structure CeV (w:World) (A:Option Addr) (L:List Ce):Prop where
 cells:0<L.length→∃ b off,A=some ⟨b,off,none⟩∧b<w.heap.size∧∀ i p,L[i]?=some p→w.cell? ⟨b,off+i*9,none⟩=some (.int .i64 p.co)∧w.cell? ⟨b,off+i*9+1,none⟩=some (.int .i64 p.ro)∧w.cell? ⟨b,off+i*9+2,none⟩=some (.int .i64 p.mc)∧w.cell? ⟨b,off+i*9+3,none⟩=some (.int .i64 p.mr)∧w.cell? ⟨b,off+i*9+4,none⟩=some (.int .i64 p.cw)∧w.cell? ⟨b,off+i*9+5,none⟩=some (.int .i64 p.ch)∧w.cell? ⟨b,off+i*9+6,none⟩=some (.int .i64 p.sk)∧w.cell? ⟨b,off+i*9+7,none⟩=some (.int .i64 p.px)∧w.cell? ⟨b,off+i*9+8,none⟩=some (.int .i64 p.py)
theorem CeV.keep {w w':World} {A:Option Addr} {L:List Ce} (h:CeV w A L) (hb:Below w.heap.size w w'):CeV w' A L :=
 ⟨fun h0=>let ⟨b,off,e,hl,hp⟩:=h.cells h0;⟨b,off,e,Nat.lt_of_lt_of_le hl hb.size,fun i p hi=>by
  obtain ⟨c0,c1,c2,c3,c4,c5,c6,c7,c8⟩:=hp i p hi
  exact ⟨(hb.cell (p:=⟨b,off+i*9,none⟩) hl).trans c0,(hb.cell (p:=⟨b,off+i*9+1,none⟩) hl).trans c1,(hb.cell (p:=⟨b,off+i*9+2,none⟩) hl).trans c2,(hb.cell (p:=⟨b,off+i*9+3,none⟩) hl).trans c3,(hb.cell (p:=⟨b,off+i*9+4,none⟩) hl).trans c4,(hb.cell (p:=⟨b,off+i*9+5,none⟩) hl).trans c5,(hb.cell (p:=⟨b,off+i*9+6,none⟩) hl).trans c6,(hb.cell (p:=⟨b,off+i*9+7,none⟩) hl).trans c7,(hb.cell (p:=⟨b,off+i*9+8,none⟩) hl).trans c8⟩⟩⟩
theorem toCe_v (p:Ce) (w:World):Calls Tryz.prog 84 #[.agg #[.int .i64 p.co,.int .i64 p.ro,.int .i64 p.mc,.int .i64 p.mr,.int .i64 p.cw,.int .i64 p.ch,.int .i64 p.sk,.int .i64 p.px,.int .i64 p.py]] w fun e w'=>e=.returned (.agg #[.int .i64 p.co,.int .i64 p.ro,.int .i64 p.mc,.int .i64 p.mr,.int .i64 p.cw,.int .i64 p.ch,.int .i64 p.sk,.int .i64 p.px,.int .i64 p.py])∧Below w.heap.size w w':=by
 obtain ⟨x0,x1,x2,x3,x4,x5,x6,x7,x8⟩:=p
 go_enter Tryz.func84,Tryz.ntmps84
 go_wp2
 exact bodyPost_ret (v:=.agg #[.int .i64 x0,.int .i64 x1,.int .i64 x2,.int .i64 x3,.int .i64 x4,.int .i64 x5,.int .i64 x6,.int .i64 x7,.int .i64 x8]) (by simp only [results,Tryz.results84];go_simp) rfl ⟨rfl,(by repeat (first | with_reducible exact Below.refl _ _ | with_reducible assumption | with_reducible refine balloc ?_|(with_reducible refine bset ?_ ?_;rotate_left;((try dsimp only);omega)) | refine bkeep2 ?_ (by assumption) | with_reducible refine Below.drew ?_))⟩
theorem eqCe_same (p:Ce) (w:World):Calls Tryz.prog 102 #[.agg #[.int .i64 p.co,.int .i64 p.ro,.int .i64 p.mc,.int .i64 p.mr,.int .i64 p.cw,.int .i64 p.ch,.int .i64 p.sk,.int .i64 p.px,.int .i64 p.py],.agg #[.int .i64 p.co,.int .i64 p.ro,.int .i64 p.mc,.int .i64 p.mr,.int .i64 p.cw,.int .i64 p.ch,.int .i64 p.sk,.int .i64 p.px,.int .i64 p.py]] w fun e w'=>e=.returned (.bool true)∧Below w.heap.size w w':=by
 go_enter Tryz.func102,Tryz.ntmps102
 go_wp2;go_ret;exact ⟨rfl,balloc (balloc (Below.refl _ _))⟩
structure Pk where
 w:Int
 h:Int
 s:Int
 fx:Bool
 fy:Bool
 ex:Bool
 an:Int
 px:Int
 py:Int
def vpB (w h s an px py:Int):Bool:=rng w 0 30&&(rng h 0 30&&(rng s 0 3&&(rng an 0 8&&(rng px 0 10&&rng py 0 10))))
theorem vpB_iff {w h s an px py:Int}:vpB w h s an px py=true↔((0≤w∧w≤30)∧(0≤h∧h≤30)∧(0≤s∧s≤3)∧(0≤an∧an≤8)∧(0≤px∧px≤10)∧(0≤py∧py≤10)):=by
 simp only [vpB,Bool.and_eq_true,rng_iff]
theorem vp_n1 {w h s an px py:Int} (h1:rng w 0 30=false):vpB w h s an px py=false:=by simp [vpB,h1]
theorem vp_n2 {w h s an px py:Int} (h1:rng h 0 30=false):vpB w h s an px py=false:=by simp [vpB,h1]
theorem vp_n3 {w h s an px py:Int} (h1:rng s 0 3=false):vpB w h s an px py=false:=by simp [vpB,h1]
theorem vp_n4 {w h s an px py:Int} (h1:rng an 0 8=false):vpB w h s an px py=false:=by simp [vpB,h1]
theorem vp_n5 {w h s an px py:Int} (h1:rng px 0 10=false):vpB w h s an px py=false:=by simp [vpB,h1]
theorem vp_n6 {w h s an px py:Int} (h1:rng w 0 30=true) (h2:rng h 0 30=true) (h3:rng s 0 3=true) (h4:rng an 0 8=true) (h5:rng px 0 10=true):vpB w h s an px py=rng py 0 10:=by simp [vpB,h1,h2,h3,h4,h5]
def hpB (x y u v p q:Int):Bool:=decide (x≤p∧p<x+u∧y≤q∧q<y+v)
theorem mx_comm (a b:Int):mx a b=mx b a:=by unfold mx;split <;> split <;> omega
structure Plc where
 x:Int
 y:Int
 rx:Int
 ry:Int
 ww:Int
 hh:Int
 qw:Int
 qh:Int
 an:Int
def shB (n:Int):Bool:=rng n (-300) 300
def reB (n:Int):Bool:=rng n 0 1000
def plB (p:Plc):Bool:=[p.x,p.y,p.ww,p.hh].all shB&&([p.rx,p.ry,p.qw,p.qh].all reB&&rng p.an 0 8)
theorem plB_iff {p:Plc}:plB p=true↔((-300≤p.x∧p.x≤300)∧(-300≤p.y∧p.y≤300)∧(0≤p.rx∧p.rx≤1000)∧(0≤p.ry∧p.ry≤1000)∧(-300≤p.ww∧p.ww≤300)∧(-300≤p.hh∧p.hh≤300)∧(0≤p.qw∧p.qw≤1000)∧(0≤p.qh∧p.qh≤1000)∧(0≤p.an∧p.an≤8)):=by
 simp only [plB,shB,reB,List.all_cons,List.all_nil,Bool.and_true,Bool.and_eq_true,rng_iff];omega
def thM (m s:Int):Int:=m*s / 1000
def wM (p:Plc) (w:Int):Int:=mx (p.ww+thM p.qw w) 0
def hM (p:Plc) (h:Int):Int:=mx (p.hh+thM p.qh h) 0
def xM (p:Plc) (w:Int):Int:=p.x+thM p.rx w-wM p w*(p.an % 3) / 2
def yM (p:Plc) (h:Int):Int:=p.y+thM p.ry h-hM p h*(p.an / 3) / 2
structure Nd where
 pa:Int
 ww:Int
 hh:Int
 ke:Bool
 ki:Int
 cs:List Ln
 rs:List Ln
 pk:Pk
 ce:Ce
 pl:Plc
structure Nr where
 n:Nd
 ca:Option Addr
 cc:Nat
 ra:Option Addr
 rc:Nat
def valsNr (p:Nr):List Value:=[.int .i64 p.n.pa,.int .i64 p.n.ww,.int .i64 p.n.hh,.bool p.n.ke,.int .i64 p.n.ki,.slice p.ca p.n.cs.length p.cc,.slice p.ra p.n.rs.length p.rc,.int .i64 p.n.pk.w,.int .i64 p.n.pk.h,.int .i64 p.n.pk.s,.bool p.n.pk.fx,.bool p.n.pk.fy,.bool p.n.pk.ex,.int .i64 p.n.pk.an,.int .i64 p.n.pk.px,.int .i64 p.n.pk.py,.int .i64 p.n.ce.co,.int .i64 p.n.ce.ro,.int .i64 p.n.ce.mc,.int .i64 p.n.ce.mr,.int .i64 p.n.ce.cw,.int .i64 p.n.ce.ch,.int .i64 p.n.ce.sk,.int .i64 p.n.ce.px,.int .i64 p.n.ce.py,.int .i64 p.n.pl.x,.int .i64 p.n.pl.y,.int .i64 p.n.pl.rx,.int .i64 p.n.pl.ry,.int .i64 p.n.pl.ww,.int .i64 p.n.pl.hh,.int .i64 p.n.pl.qw,.int .i64 p.n.pl.qh,.int .i64 p.n.pl.an]
theorem valsNr_len (p:Nr):(valsNr p).length=34:=rfl
theorem valsNr_one (p:Nr):∀ v∈valsNr p,v.oneCell'=true:=by
 intro v hv;simp only [valsNr,List.mem_cons,List.not_mem_nil,or_false] at hv
 rcases hv with rfl | rfl | rfl | rfl | rfl | rfl | rfl | rfl | rfl | rfl | rfl | rfl | rfl | rfl | rfl | rfl | rfl | rfl | rfl | rfl | rfl | rfl | rfl | rfl | rfl | rfl | rfl | rfl | rfl | rfl | rfl | rfl | rfl | rfl <;> rfl
theorem valsNr_all (p:Nr):(valsNr p).toArray.all (·.oneCell')=true:=all_oneCell_toArray (valsNr_one p)
structure NrV (w:World) (A:Option Addr) (R:List Nr):Prop where
 cells:0<R.length→∃ b off,A=some ⟨b,off,none⟩∧b<w.heap.size∧∀ i p,R[i]?=some p→w.rangeAt b (off+i*34) (valsNr p)
theorem rangeB {w w':World} {b o:Nat} {cs:List Value} (h:w.rangeAt b o cs) (hb:w'.heap[b]?=w.heap[b]?):w'.rangeAt b o cs:=fun j v hj=>(World.cell?_of_block (a:=⟨b,o+j,none⟩) hb).trans (h j v hj)
theorem NrV.keep {w w':World} {A:Option Addr} {R:List Nr} (h:NrV w A R) (hb:Below w.heap.size w w'):NrV w' A R :=
 ⟨fun h0=>let ⟨b,off,e,hl,hp⟩:=h.cells h0;⟨b,off,e,Nat.lt_of_lt_of_le hl hb.size,fun i p hi=>rangeB (hp i p hi) (hb.block b hl)⟩⟩
theorem NrV.nil (w:World) (A:Option Addr):NrV w A []:=⟨fun h=>absurd h (by simp)⟩
structure RdN (w:World) (p:Nr):Prop where
 c:LnV w p.ca p.n.cs
 cl:p.n.cs.length≤p.cc
 r:LnV w p.ra p.n.rs
 rl:p.n.rs.length≤p.rc
theorem RdN.keep {w w':World} {p:Nr} (h:RdN w p) (hb:Below w.heap.size w w'):RdN w' p:=⟨h.c.keep hb,h.cl,h.r.keep hb,h.rl⟩
def RdR (w:World) (R:List Nr):Prop:=∀ p∈R,RdN w p
theorem RdR.keep {w w':World} {R:List Nr} (h:RdR w R) (hb:Below w.heap.size w w'):RdR w' R:=fun p hp=>(h p hp).keep hb
def NrB (w:World) (g:Nat) (R:List Nr):Prop:=∃ cs:Array Value,w.heap[g]?=some (.cells cs 90 (0,0))∧cs.size=R.length*34∧∀ i p,R[i]?=some p→InS cs (i*34) (valsNr p)
theorem NrB.lt {w:World} {g:Nat} {R:List Nr} (h:NrB w g R):g<w.heap.size:=by obtain ⟨cs,hh,_⟩:=h;exact ltS hh
theorem NrB.keep {w w':World} {g:Nat} {R:List Nr} (h:NrB w g R) (hb:Below w.heap.size w w'):NrB w' g R:=by
 obtain ⟨cs,hh,hs,hc⟩:=h;exact ⟨cs,(hb.block g (ltS hh)).trans hh,hs,hc⟩
theorem NrB.but {w w':World} {g h:Nat} {R:List Nr} (hi:NrB w h R) (hg:w.grownBy w' (some g)) (hne:h≠g):NrB w' h R:=by
 obtain ⟨cs,hh,hs,hc⟩:=hi;exact ⟨cs,(hg.block h (ltS hh) (fun e=>hne (Option.some.inj e))).trans hh,hs,hc⟩
theorem NrB.v {w:World} {g:Nat} {R:List Nr} (h:NrB w g R):NrV w (some ⟨g,0,none⟩) R:=by
 obtain ⟨cs,hh,hs,hc⟩:=h;refine ⟨fun _=>⟨g,0,rfl,ltS hh,fun i p hp j v hj=>?_⟩⟩;simp only [Nat.zero_add];exact (cellS hh _).trans (hc i p hp j v hj)
theorem nodeAt {w:World} {b:Nat} {p:Nr} {T:TypeId} {fz:Nat × Nat} (h:w.heap[b]?=some (.cells (valsNr p).toArray T fz)):w.rangeAt b 0 (valsNr p):=fun j v hj=>by
 rw [Nat.zero_add];exact (cellS h j).trans (by simpa using hj)
theorem heap_setCells {g:Nat} {T:TypeId} {fz:Nat × Nat}:∀ (vs:List Value) (o:Nat) (w:World) (cs:Array Value),w.heap[g]?=some (.cells cs T fz)→(w.setCells g o vs).heap[g]?=some (.cells (wrAt cs o vs) T fz)
 | [],o,w,cs,h=>h
 | v :: r,o,w,cs,h=>heap_setCells r (o+1) (w.setCell ⟨g,o,none⟩ v) (cs.setIfInBounds o v) (putS h v)
theorem heap_setCells_ne {g k:Nat} (hk:k≠g):∀ (vs:List Value) (o:Nat) (w:World),(w.setCells g o vs).heap[k]?=w.heap[k]?
 | [],o,w=>rfl
 | v :: r,o,w=>(heap_setCells_ne hk r (o+1) (w.setCell ⟨g,o,none⟩ v)).trans (Below.heap_setCell w ⟨g,o,none⟩ v k hk)
theorem below_setCells {B g:Nat} {a:World} (hg:B≤g):∀ (vs:List Value) (o:Nat) (w:World),Below B a w→Below B a (w.setCells g o vs)
 | [],o,w,h=>h
 | v :: r,o,w,h=>below_setCells hg r (o+1) _ (h.setCell (p:=⟨g,o,none⟩) hg v)
theorem size_setCellsT (g:Nat):∀ (vs:List Value) (o:Nat) (w:World),(w.setCells g o vs).heap.size=w.heap.size
 | [],o,w=>rfl
 | v :: r,o,w=>(size_setCellsT g r (o+1) _).trans (by simp [World.setCell])
theorem grown_setCells {g:Nat} {a:World}:∀ (vs:List Value) (o:Nat) (w:World),a.grownBy w (some g)→a.grownBy (w.setCells g o vs) (some g)
 | [],o,w,h=>h
 | v :: r,o,w,h=>grown_setCells r (o+1) _ (gsetS h o v)
theorem thereB {w:World} {b:Nat} {cs:Array Value} {T:TypeId} (h:w.heap[b]?=some (.cells cs T (0,0))) {o n:Nat} (hn:o+n≤cs.size):w.there b o n:=fun j hj=>by
 refine ⟨?_,frozenS h _⟩;rw [cellS h]
 simp;omega
theorem ldN {ops:Array Oper} {rest:List Oper} {op:Oper} {a:Act} {w:World} {Q:Exit→Act→World→Prop} (x:Operand) (p:Nr) (b o:Nat) (hgd:op.guard=none) (ho:op.op=.load 90 x) (hx:a.eval x=.pointer (some ⟨b,o,none⟩)) (hc:w.rangeAt b o (valsNr p))
  (h:wpList Tryz.prog ops Q rest (a.put op.dst (.agg (valsNr p).toArray)) w):wpList Tryz.prog ops Q (op :: rest) a w :=
 wpList_load_mid hgd _ x ho b o hx _ _ hc Tryz.underlying90 rfl (by kernel_rfl) h
theorem ldL {ops:Array Oper} {rest:List Oper} {op:Oper} {a:Act} {w:World} {Q:Exit→Act→World→Prop} (x:Operand) (p:Nr) (b o:Nat) (hgd:op.guard=none) (ho:op.op=.load 83 x) (hx:a.eval x=.pointer (some ⟨b,o,none⟩)) (hc:w.rangeAt b o (valsNr p))
  (h:wpList Tryz.prog ops Q rest (a.put op.dst (.agg (valsNr p).toArray)) w):wpList Tryz.prog ops Q (op :: rest) a w :=
 wpList_load_mid hgd _ x ho b o hx _ _ hc Tryz.underlying83 rfl (by kernel_rfl) h
theorem stN {ops:Array Oper} {rest:List Oper} {op:Oper} {a:Act} {w:World} {Q:Exit→Act→World→Prop} {cs:Array Value} {T:TypeId} (x y:Operand) (p:Nr) (b o:Nat) (hgd:op.guard=none) (ho:op.op=.store 90 x y) (hx:a.eval x=.pointer (some ⟨b,o,none⟩)) (hy:a.eval y=.agg (valsNr p).toArray) (hb:w.heap[b]?=some (.cells cs T (0,0))) (hn:o+34≤cs.size)
  (h:wpList Tryz.prog ops Q rest (a.put op.dst undef) (w.setCells b o (valsNr p))):wpList Tryz.prog ops Q (op :: rest) a w :=
 wpList_store_mid hgd _ x y ho b o _ hx hy (thereB hb hn) (by kernel_rfl) (valsNr_all p) h
theorem ldW {P:Program} {ops:Array Oper} {rest:List Oper} {op:Oper} {a:Act} {w:World} {Q:Exit→Act→World→Prop} (T:TypeId) (x:Operand) (cs:List Value) (b o:Nat) {d:TypeDesc} (ho:op.op=.load T x) (hw:Region.wanted op (yielded ops a.tmps)=true) (hx:a.eval x=.pointer (some ⟨b,o,none⟩))
  (hu:P.underlying T=some d) (hd:d.isRow=true) (hi:(P.info? T).map (·.size)=some cs.length) (hc:w.rangeAt b o cs) (h:wpList P ops Q rest (a.put op.dst (.agg cs.toArray)) w):wpList P ops Q (op :: rest) a w :=
 BigFrame.wpList_want hw fun K hK=>wp_load_mid T x ho b o hx cs d hc hu hd hi (hK _ _ h)
theorem grow_loadM {P:Program} {ops:Array Oper} {o:Oper} {a:Act} {w:World} {K:Act→Prop} (T:TypeId) (x:Operand) (cs:List Value) (b off:Nat) {d:TypeDesc} (ho:o.op=.load T x) (hw:Region.wanted o (yielded ops a.tmps)=true) (hx:a.eval x=.pointer (some ⟨b,off,none⟩))
  (hu:P.underlying T=some d) (hd:d.isRow=true) (hi:(P.info? T).map (·.size)=some cs.length) (hc:∀ w',Gr w w'→w'.rangeAt b off cs) (hK:K (a.put o.dst (.agg cs.toArray))):∃ v,GrowIn P ops o v a w∧K (a.put o.dst v) :=
 grow_run _ hw (fun w' hw'=>by
  unfold execOp;simp only [ho,hx,Instr.loadAt,Instr.sureAddr,Sem.run_bind,Sem.run_pure,Result.andThen_ok,run_loadVar_mid w' b off T cs d (hc w' hw') hu hd hi]
  exact ⟨rfl,rfl⟩) hK
theorem grow_ldN {ops:Array Oper} {o:Oper} {a:Act} {w:World} {K:Act→Prop} (x:Operand) (p:Nr) (b off:Nat) (ho:o.op=.load 90 x) (hw:Region.wanted o (yielded ops a.tmps)=true) (hx:a.eval x=.pointer (some ⟨b,off,none⟩))
  (hl:b<w.heap.size) (hc:w.rangeAt b off (valsNr p)) (hK:K (a.put o.dst (.agg (valsNr p).toArray))):∃ v,GrowIn Tryz.prog ops o v a w∧K (a.put o.dst v) :=
 grow_loadM 90 x (valsNr p) b off ho hw hx Tryz.underlying90 rfl (by kernel_rfl) (fun w' hw'=>rangeB hc (hw'.out.block b hl)) hK
section
open Go.Joins Go.ChangeShapes Go.WideShapes Go.RowKit Go.Deep
theorem slLnT_of {H:Type} {enc:TypeId × Value→H} {W:World} {n:Nat} {v0:Value} {y:DataW H × List MemPlace}
  (h:DataW.trod enc Tryz.prog W 0 (fun _=>true) true n 75 [v0]=some y):∃ a c,∃ L:List Ln,v0=.slice a L.length c∧LnV W a L∧L.length≤maxLen∧L.length≤c:=by
 obtain ⟨a,len,c,rfl,hlc⟩:∃ a len c,v0=.slice a len c∧len≤c:=by
  rcases open_slice Tryz.underlying75 h with ⟨hcs,_⟩ | ⟨x,l,c,m,fu,D,Pl,hcs,_,hl,_⟩
  ·exact ⟨none,0,0,by simpa using hcs,Nat.le_refl _⟩
  ·exact ⟨some x,l,c,by simpa using hcs,hl⟩
 obtain ⟨L,rfl,k,m⟩:=lines_of (enc:=enc) (a:=a) (len:=len) (cap:=c) (d:=y.1) (ps:=y.2) ⟨n,by simpa [Value.cells] using h⟩;exact ⟨a,c,L,rfl,k,m,hlc⟩
section
variable {H:Type} {enc:TypeId × Value→H} {W:World}
theorem pkT_of {n:Nat} {c0 c1 c2 c3 c4 c5 c6 c7 c8:Value} {y:DataW H × List MemPlace} (h:DataW.trod enc Tryz.prog W 0 (fun _=>true) true n 77 [c0,c1,c2,c3,c4,c5,c6,c7,c8]=some y):∃ (z0:Int) (z1:Int) (z2:Int) (z3:Bool) (z4:Bool) (z5:Bool) (z6:Int) (z7:Int) (z8:Int),[c0,c1,c2,c3,c4,c5,c6,c7,c8]=[.int .i64 z0,.int .i64 z1,.int .i64 z2,.bool z3,.bool z4,.bool z5,.int .i64 z6,.int .i64 z7,.int .i64 z8]:=by
 obtain ⟨ys,m,_,_,_,hyl,hg⟩:=DataW.trod_struct Tryz.underlying77 h
 match ys,hyl,hg with
 | [y0,y1,y2,y3,y4,y5,y6,y7,y8],_,hg =>
  have ci:Tryz.prog.cellsOf 3=1:=by kernel_rfl
  have cb:Tryz.prog.cellsOf 4=1:=by kernel_rfl
  have t0:DataW.trod enc Tryz.prog W 0 (fun _=>true) true m 3 [c0]=some y0:=by have g:=hg 0 _ rfl;simpa [ci] using g
  have t1:DataW.trod enc Tryz.prog W 0 (fun _=>true) true m 3 [c1]=some y1:=by have g:=hg 1 _ rfl;simpa [ci] using g
  have t2:DataW.trod enc Tryz.prog W 0 (fun _=>true) true m 3 [c2]=some y2:=by have g:=hg 2 _ rfl;simpa [ci] using g
  have t3:DataW.trod enc Tryz.prog W 0 (fun _=>true) true m 4 [c3]=some y3:=by have g:=hg 3 _ rfl;simpa [cb] using g
  have t4:DataW.trod enc Tryz.prog W 0 (fun _=>true) true m 4 [c4]=some y4:=by have g:=hg 4 _ rfl;simpa [cb] using g
  have t5:DataW.trod enc Tryz.prog W 0 (fun _=>true) true m 4 [c5]=some y5:=by have g:=hg 5 _ rfl;simpa [cb] using g
  have t6:DataW.trod enc Tryz.prog W 0 (fun _=>true) true m 3 [c6]=some y6:=by have g:=hg 6 _ rfl;simpa [ci] using g
  have t7:DataW.trod enc Tryz.prog W 0 (fun _=>true) true m 3 [c7]=some y7:=by have g:=hg 7 _ rfl;simpa [ci] using g
  have t8:DataW.trod enc Tryz.prog W 0 (fun _=>true) true m 3 [c8]=some y8:=by have g:=hg 8 _ rfl;simpa [ci] using g
  obtain ⟨z0,e0,_,_⟩:=DataW.trod_int Tryz.underlying3 t0;obtain ⟨z1,e1,_,_⟩:=DataW.trod_int Tryz.underlying3 t1;obtain ⟨z2,e2,_,_⟩:=DataW.trod_int Tryz.underlying3 t2;obtain ⟨z3,e3,_⟩:=DataW.trod_bool Tryz.underlying4 t3;obtain ⟨z4,e4,_⟩:=DataW.trod_bool Tryz.underlying4 t4;obtain ⟨z5,e5,_⟩:=DataW.trod_bool Tryz.underlying4 t5;obtain ⟨z6,e6,_,_⟩:=DataW.trod_int Tryz.underlying3 t6
  obtain ⟨z7,e7,_,_⟩:=DataW.trod_int Tryz.underlying3 t7;obtain ⟨z8,e8,_,_⟩:=DataW.trod_int Tryz.underlying3 t8;simp only [List.cons.injEq,and_true] at e0 e1 e2 e3 e4 e5 e6 e7 e8;exact ⟨z0,z1,z2,z3,z4,z5,z6,z7,z8,by rw [e0,e1,e2,e3,e4,e5,e6,e7,e8]⟩
theorem ceT_of {n:Nat} {c0 c1 c2 c3 c4 c5 c6 c7 c8:Value} {y:DataW H × List MemPlace} (h:DataW.trod enc Tryz.prog W 0 (fun _=>true) true n 79 [c0,c1,c2,c3,c4,c5,c6,c7,c8]=some y):∃ (z0:Int) (z1:Int) (z2:Int) (z3:Int) (z4:Int) (z5:Int) (z6:Int) (z7:Int) (z8:Int),[c0,c1,c2,c3,c4,c5,c6,c7,c8]=[.int .i64 z0,.int .i64 z1,.int .i64 z2,.int .i64 z3,.int .i64 z4,.int .i64 z5,.int .i64 z6,.int .i64 z7,.int .i64 z8]:=by
 obtain ⟨ys,m,_,_,_,hyl,hg⟩:=DataW.trod_struct Tryz.underlying79 h
 match ys,hyl,hg with
 | [y0,y1,y2,y3,y4,y5,y6,y7,y8],_,hg =>
  have ci:Tryz.prog.cellsOf 3=1:=by kernel_rfl
  have t0:DataW.trod enc Tryz.prog W 0 (fun _=>true) true m 3 [c0]=some y0:=by have g:=hg 0 _ rfl;simpa [ci] using g
  have t1:DataW.trod enc Tryz.prog W 0 (fun _=>true) true m 3 [c1]=some y1:=by have g:=hg 1 _ rfl;simpa [ci] using g
  have t2:DataW.trod enc Tryz.prog W 0 (fun _=>true) true m 3 [c2]=some y2:=by have g:=hg 2 _ rfl;simpa [ci] using g
  have t3:DataW.trod enc Tryz.prog W 0 (fun _=>true) true m 3 [c3]=some y3:=by have g:=hg 3 _ rfl;simpa [ci] using g
  have t4:DataW.trod enc Tryz.prog W 0 (fun _=>true) true m 3 [c4]=some y4:=by have g:=hg 4 _ rfl;simpa [ci] using g
  have t5:DataW.trod enc Tryz.prog W 0 (fun _=>true) true m 3 [c5]=some y5:=by have g:=hg 5 _ rfl;simpa [ci] using g
  have t6:DataW.trod enc Tryz.prog W 0 (fun _=>true) true m 3 [c6]=some y6:=by have g:=hg 6 _ rfl;simpa [ci] using g
  have t7:DataW.trod enc Tryz.prog W 0 (fun _=>true) true m 3 [c7]=some y7:=by have g:=hg 7 _ rfl;simpa [ci] using g
  have t8:DataW.trod enc Tryz.prog W 0 (fun _=>true) true m 3 [c8]=some y8:=by have g:=hg 8 _ rfl;simpa [ci] using g
  obtain ⟨z0,e0,_,_⟩:=DataW.trod_int Tryz.underlying3 t0;obtain ⟨z1,e1,_,_⟩:=DataW.trod_int Tryz.underlying3 t1;obtain ⟨z2,e2,_,_⟩:=DataW.trod_int Tryz.underlying3 t2;obtain ⟨z3,e3,_,_⟩:=DataW.trod_int Tryz.underlying3 t3;obtain ⟨z4,e4,_,_⟩:=DataW.trod_int Tryz.underlying3 t4;obtain ⟨z5,e5,_,_⟩:=DataW.trod_int Tryz.underlying3 t5;obtain ⟨z6,e6,_,_⟩:=DataW.trod_int Tryz.underlying3 t6
  obtain ⟨z7,e7,_,_⟩:=DataW.trod_int Tryz.underlying3 t7;obtain ⟨z8,e8,_,_⟩:=DataW.trod_int Tryz.underlying3 t8;simp only [List.cons.injEq,and_true] at e0 e1 e2 e3 e4 e5 e6 e7 e8;exact ⟨z0,z1,z2,z3,z4,z5,z6,z7,z8,by rw [e0,e1,e2,e3,e4,e5,e6,e7,e8]⟩
theorem plT_of {n:Nat} {c0 c1 c2 c3 c4 c5 c6 c7 c8:Value} {y:DataW H × List MemPlace} (h:DataW.trod enc Tryz.prog W 0 (fun _=>true) true n 81 [c0,c1,c2,c3,c4,c5,c6,c7,c8]=some y):∃ (z0:Int) (z1:Int) (z2:Int) (z3:Int) (z4:Int) (z5:Int) (z6:Int) (z7:Int) (z8:Int),[c0,c1,c2,c3,c4,c5,c6,c7,c8]=[.int .i64 z0,.int .i64 z1,.int .i64 z2,.int .i64 z3,.int .i64 z4,.int .i64 z5,.int .i64 z6,.int .i64 z7,.int .i64 z8]:=by
 obtain ⟨ys,m,_,_,_,hyl,hg⟩:=DataW.trod_struct Tryz.underlying81 h
 match ys,hyl,hg with
 | [y0,y1,y2,y3,y4,y5,y6,y7,y8],_,hg =>
  have ci:Tryz.prog.cellsOf 3=1:=by kernel_rfl
  have t0:DataW.trod enc Tryz.prog W 0 (fun _=>true) true m 3 [c0]=some y0:=by have g:=hg 0 _ rfl;simpa [ci] using g
  have t1:DataW.trod enc Tryz.prog W 0 (fun _=>true) true m 3 [c1]=some y1:=by have g:=hg 1 _ rfl;simpa [ci] using g
  have t2:DataW.trod enc Tryz.prog W 0 (fun _=>true) true m 3 [c2]=some y2:=by have g:=hg 2 _ rfl;simpa [ci] using g
  have t3:DataW.trod enc Tryz.prog W 0 (fun _=>true) true m 3 [c3]=some y3:=by have g:=hg 3 _ rfl;simpa [ci] using g
  have t4:DataW.trod enc Tryz.prog W 0 (fun _=>true) true m 3 [c4]=some y4:=by have g:=hg 4 _ rfl;simpa [ci] using g
  have t5:DataW.trod enc Tryz.prog W 0 (fun _=>true) true m 3 [c5]=some y5:=by have g:=hg 5 _ rfl;simpa [ci] using g
  have t6:DataW.trod enc Tryz.prog W 0 (fun _=>true) true m 3 [c6]=some y6:=by have g:=hg 6 _ rfl;simpa [ci] using g
  have t7:DataW.trod enc Tryz.prog W 0 (fun _=>true) true m 3 [c7]=some y7:=by have g:=hg 7 _ rfl;simpa [ci] using g
  have t8:DataW.trod enc Tryz.prog W 0 (fun _=>true) true m 3 [c8]=some y8:=by have g:=hg 8 _ rfl;simpa [ci] using g
  obtain ⟨z0,e0,_,_⟩:=DataW.trod_int Tryz.underlying3 t0;obtain ⟨z1,e1,_,_⟩:=DataW.trod_int Tryz.underlying3 t1;obtain ⟨z2,e2,_,_⟩:=DataW.trod_int Tryz.underlying3 t2;obtain ⟨z3,e3,_,_⟩:=DataW.trod_int Tryz.underlying3 t3;obtain ⟨z4,e4,_,_⟩:=DataW.trod_int Tryz.underlying3 t4;obtain ⟨z5,e5,_,_⟩:=DataW.trod_int Tryz.underlying3 t5;obtain ⟨z6,e6,_,_⟩:=DataW.trod_int Tryz.underlying3 t6
  obtain ⟨z7,e7,_,_⟩:=DataW.trod_int Tryz.underlying3 t7;obtain ⟨z8,e8,_,_⟩:=DataW.trod_int Tryz.underlying3 t8;simp only [List.cons.injEq,and_true] at e0 e1 e2 e3 e4 e5 e6 e7 e8;exact ⟨z0,z1,z2,z3,z4,z5,z6,z7,z8,by rw [e0,e1,e2,e3,e4,e5,e6,e7,e8]⟩
theorem nodeT_of {n:Nat} {cs:List Value} {y:DataW H × List MemPlace} (hs:cs.length=34) (h:DataW.trod enc Tryz.prog W 0 (fun _=>true) true n 83 cs=some y) :
  ∃ p:Nr,cs=valsNr p∧RdN W p∧p.n.cs.length≤maxLen∧p.n.rs.length≤maxLen:=by
 obtain ⟨ys,m,_,_,_,hyl,hg⟩:=DataW.trod_struct Tryz.underlying83 h
 match cs,hs,hg with
 | k0 :: k1 :: k2 :: k3 :: k4 :: k5 :: k6 :: k7 :: k8 :: k9 :: k10 :: k11 :: k12 :: k13 :: k14 :: k15 :: k16 :: k17 :: k18 :: k19 :: k20 :: k21 :: k22 :: k23 :: k24 :: k25 :: k26 :: k27 :: k28 :: k29 :: k30 :: k31 :: k32 :: k33 :: [],_,hg =>
  match ys,hyl,hg with
  | [y0,y1,y2,y3,y4,y5,y6,y7,y8,y9],_,hg =>
   have ci:Tryz.prog.cellsOf 3=1:=by kernel_rfl
   have cb:Tryz.prog.cellsOf 4=1:=by kernel_rfl
   have cl:Tryz.prog.cellsOf 75=1:=by kernel_rfl
   have cp:Tryz.prog.cellsOf 77=9:=by kernel_rfl
   have cc:Tryz.prog.cellsOf 79=9:=by kernel_rfl
   have ca:Tryz.prog.cellsOf 81=9:=by kernel_rfl
   have t0:DataW.trod enc Tryz.prog W 0 (fun _=>true) true m 3 [k0]=some y0:=by have g:=hg 0 _ rfl;simpa [ci] using g
   have t1:DataW.trod enc Tryz.prog W 0 (fun _=>true) true m 3 [k1]=some y1:=by have g:=hg 1 _ rfl;simpa [ci] using g
   have t2:DataW.trod enc Tryz.prog W 0 (fun _=>true) true m 3 [k2]=some y2:=by have g:=hg 2 _ rfl;simpa [ci] using g
   have t3:DataW.trod enc Tryz.prog W 0 (fun _=>true) true m 4 [k3]=some y3:=by have g:=hg 3 _ rfl;simpa [cb] using g
   have t4:DataW.trod enc Tryz.prog W 0 (fun _=>true) true m 3 [k4]=some y4:=by have g:=hg 4 _ rfl;simpa [ci] using g
   have t5:DataW.trod enc Tryz.prog W 0 (fun _=>true) true m 75 [k5]=some y5:=by have g:=hg 5 _ rfl;simpa [cl] using g
   have t6:DataW.trod enc Tryz.prog W 0 (fun _=>true) true m 75 [k6]=some y6:=by have g:=hg 6 _ rfl;simpa [cl] using g
   have t7:DataW.trod enc Tryz.prog W 0 (fun _=>true) true m 77 [k7,k8,k9,k10,k11,k12,k13,k14,k15]=some y7:=by have g:=hg 7 _ rfl;simpa [cp] using g
   have t8:DataW.trod enc Tryz.prog W 0 (fun _=>true) true m 79 [k16,k17,k18,k19,k20,k21,k22,k23,k24]=some y8:=by have g:=hg 8 _ rfl;simpa [cc] using g
   have t9:DataW.trod enc Tryz.prog W 0 (fun _=>true) true m 81 [k25,k26,k27,k28,k29,k30,k31,k32,k33]=some y9:=by have g:=hg 9 _ rfl;simpa [ca] using g
   obtain ⟨z0,e0,_,_⟩:=DataW.trod_int Tryz.underlying3 t0;obtain ⟨z1,e1,_,_⟩:=DataW.trod_int Tryz.underlying3 t1;obtain ⟨z2,e2,_,_⟩:=DataW.trod_int Tryz.underlying3 t2;obtain ⟨z4,e4,_,_⟩:=DataW.trod_int Tryz.underlying3 t4;obtain ⟨z3,e3,_⟩:=DataW.trod_bool Tryz.underlying4 t3;obtain ⟨a5,c5,L5,e5,l5,m5,n5⟩:=slLnT_of t5;obtain ⟨a6,c6,L6,e6,l6,m6,n6⟩:=slLnT_of t6
   obtain ⟨p0,p1,p2,p3,p4,p5,p6,p7,p8,e7⟩:=pkT_of t7;obtain ⟨q0,q1,q2,q3,q4,q5,q6,q7,q8,e8⟩:=ceT_of t8;obtain ⟨r0,r1,r2,r3,r4,r5,r6,r7,r8,e9⟩:=plT_of t9;simp only [List.cons.injEq,and_true] at e0 e1 e2 e3 e4 e7 e8 e9;subst e0 e1 e2 e3 e4 e5 e6;obtain ⟨rfl,rfl,rfl,rfl,rfl,rfl,rfl,rfl,rfl⟩:=e7;obtain ⟨rfl,rfl,rfl,rfl,rfl,rfl,rfl,rfl,rfl⟩:=e8;obtain ⟨rfl,rfl,rfl,rfl,rfl,rfl,rfl,rfl,rfl⟩:=e9
   exact ⟨⟨⟨z0,z1,z2,z3,z4,L5,L6,⟨p0,p1,p2,p3,p4,p5,p6,p7,p8⟩,⟨q0,q1,q2,q3,q4,q5,q6,q7,q8⟩,⟨r0,r1,r2,r3,r4,r5,r6,r7,r8⟩⟩,a5,c5,a6,c6⟩,rfl,⟨l5,n5,l6,n6⟩,m5,m6⟩
theorem nodes_of {a:Option Addr} {len cap:Nat} {d:DataW H} {ps:List MemPlace}
  (h:DataW.Trod enc Tryz.prog W 0 (fun _=>true) true 22 (.slice a len cap) d ps):∃ R:List Nr,R.length=len∧NrV W a R∧RdR W R∧len≤maxLen∧∀ p∈R,p.n.cs.length≤maxLen∧p.n.rs.length≤maxLen:=by
 obtain ⟨fuel,hf⟩:=h
 have h9:Tryz.prog.cellsOf 83=34:=by kernel_rfl
 rcases open_slice Tryz.underlying22 hf with ⟨hcs,_⟩ | ⟨x,l,c,m,fu,D,Pl,hcs,_,hl,hm,hmm,_,hi⟩
 ·simp [Value.cells] at hcs
  obtain ⟨rfl,rfl,rfl⟩:=hcs;exact ⟨[],rfl,NrV.nil _ _,fun p hp=>by simp at hp,by simp,fun p hp=>by simp at hp⟩
 ·simp [Value.cells] at hcs
  obtain ⟨rfl,rfl,rfl⟩:=hcs
  have hlen:len≤m:=by rw [hmm];simp;exact hl
  have each:∀ i,i<len→∃ p:Nr,(∀ j,j<34→W.cell? (x.add (i*34+j))=(valsNr p)[j]?)∧RdN W p∧p.n.cs.length≤maxLen∧p.n.rs.length≤maxLen:=by
   intro i him;obtain ⟨cs,hrow,hread⟩:=hi i (by omega);rw [h9] at hrow;obtain ⟨_,hsz,hat⟩:=World.cells?_some hrow;obtain ⟨p,rfl,hp⟩:=nodeT_of (by simpa using hsz) hread;refine ⟨p,fun j hj=>?_,hp⟩
   have hb:∀ (a:Addr) (i j:Nat),(a.add i).add j=a.add (i+j):=fun a i j=>by
    unfold Addr.add
    by_cases hi:i=0 <;> by_cases hj:j=0 <;> simp [hi,hj,Nat.add_assoc]
   have:=hat j hj
   rw [hb] at this;exact this
  have hch:∃ f:Nat→Nr,∀ i,i<len→(∀ j,j<34→W.cell? (x.add (i*34+j))=(valsNr (f i))[j]?)∧RdN W (f i)∧(f i).n.cs.length≤maxLen∧(f i).n.rs.length≤maxLen:=by
   have z:Nr:=⟨⟨0,0,0,false,0,[],[],⟨0,0,0,false,false,false,0,0,0⟩,⟨0,0,0,0,0,0,0,0,0⟩,⟨0,0,0,0,0,0,0,0,0⟩⟩,none,0,none,0⟩
   refine ⟨fun i=>if h:i<len then Classical.choose (each i h) else z,fun i him=>?_⟩;simp only [him,dif_pos];exact Classical.choose_spec (each i him)
  obtain ⟨f,hfc⟩:=hch
  have mem:∀ p∈(List.range len).map f,∃ i,i<len∧p=f i:=by
   intro p hp;obtain ⟨i,hi,rfl⟩:=List.mem_map.1 hp;exact ⟨i,List.mem_range.1 hi,rfl⟩
  refine ⟨(List.range len).map f,by simp,⟨fun h0=>?_⟩,fun p hp=>?_,by omega,fun p hp=>?_⟩
  ·have h0':0<len:=by simpa using h0
   obtain ⟨b,off,spot⟩:=x;have hc:=(hfc 0 h0').1 0 (by omega)
   have hc':W.cell? ⟨b,off,spot⟩=some (.int .i64 (f 0).n.pa):=by simpa [Addr.add,valsNr] using hc
   have hspot:spot=none:=World.cell?_spot hc';subst hspot;refine ⟨b,off,rfl,World.block_lt_of_cell? W _ hc',fun i p hp j v hj=>?_⟩
   have hil:i<len:=by
    have:=(List.getElem?_eq_some_iff.1 hp).1
    simpa using this
   have hpe:p=f i:=by
    rw [List.getElem?_map,List.getElem?_range hil] at hp
    simpa using hp.symm
   subst hpe
   have hadd:∀ n:Nat,(⟨b,off,none⟩:Addr).add n=⟨b,off+n,none⟩:=fun n=>by
    unfold Addr.add
    split
    ·rename_i h;subst h;rfl
    ·rfl
   have hj34:j<34:=(List.getElem?_eq_some_iff.1 hj).1;have hcell:=(hfc i hil).1 j hj34;rw [hadd] at hcell;rw [Nat.add_assoc,hcell];exact hj
  ·obtain ⟨i,hi,rfl⟩:=mem p hp;exact (hfc i hi).2.1
  ·obtain ⟨i,hi,rfl⟩:=mem p hp;exact (hfc i hi).2.2
theorem tree_of {base:Nat} {v:Value} {d:DataW H} {ps:List MemPlace} (hv:Value.okWide Tryz.prog W .any base 24 v) (h:DataW.Trod enc Tryz.prog W 0 (fun _=>true) true 24 v d ps) :
  ∃ a c,∃ R:List Nr,v=.agg #[.slice a R.length c]∧NrV W a R∧RdR W R∧R.length≤maxLen∧∀ p∈R,p.n.cs.length≤maxLen∧p.n.rs.length≤maxLen:=by
 obtain ⟨cs,rfl,hsz⟩:=okWide_struct Tryz.underlying24 hv
 have h1:Tryz.prog.cellsOf 24=1:=by kernel_rfl
 have h2:Tryz.prog.cellsOf 22=1:=by kernel_rfl
 obtain ⟨l⟩:=cs
 match l,hsz.trans h1 with
 | [c0],_ =>
  obtain ⟨fuel,hf⟩:=h;obtain ⟨ys,n,_,hx,_,hlen,hg⟩:=DataW.trod_struct Tryz.underlying24 hf
  match ys,hlen,hg with
  | [y0],_,hg =>
   have t0:DataW.trod enc Tryz.prog W 0 (fun _=>true) true n 22 [c0]=some y0:=by have g:=hg 0 _ rfl;simpa [h2,Value.cells] using g
   obtain ⟨a,len,c,rfl⟩:∃ a len c,c0=.slice a len c:=by
    rcases open_slice Tryz.underlying22 t0 with ⟨hcs,_⟩ | ⟨x,l,c,m,fu,D,Pl,hcs,_⟩
    ·exact ⟨none,0,0,by simpa using hcs⟩
    ·exact ⟨some x,l,c,by simpa using hcs⟩
   obtain ⟨R,rfl,k1,k2,k3,k4⟩:=nodes_of (enc:=enc) (a:=a) (len:=len) (cap:=c) (d:=y0.1) (ps:=y0.2) ⟨n,by simpa [Value.cells] using t0⟩;exact ⟨a,c,R,rfl,k1,k2,k3,k4⟩
end
end
def szL:List Nr→Nat
 | []=>0
 | p :: t=>p.n.cs.length+p.n.rs.length+szL t
theorem szL_take:∀ {R:List Nr} {k:Nat} {p:Nr},R[k]?=some p→szL (R.take (k+1))=szL (R.take k)+(p.n.cs.length+p.n.rs.length)
 | q :: t,0,p,h=>by simp at h;subst h;simp [szL]
 | q :: t,k+1,p,h=>by
  simp only [List.getElem?_cons_succ] at h;simp only [List.take_succ_cons,szL,szL_take h];omega
 | [],k,p,h=>by simp at h
theorem szL_le:∀ (R:List Nr) (k:Nat),szL (R.take k)≤szL R
 | [],k=>by simp [szL]
 | q :: t,0=>by simp [szL]
 | q :: t,k+1=>by have:=szL_le t k;simp only [List.take_succ_cons,szL];omega
theorem szNode_yes (p:Nr) (z:Int) (w:World) (h:(p.n.cs.length:Int)+p.n.rs.length≤z) (hz:z≤1048576) :
  Calls Tryz.prog 55 #[.agg (valsNr p).toArray,.int .i64 z] w fun e w'=>e=.returned (.int .i64 (z-(p.n.cs.length+p.n.rs.length)))∧Below w.heap.size w w':=by
 have hx:=newS w (.cells (valsNr p).toArray 83 (0,0));have c5:(w.alloc (.cells (valsNr p).toArray 83 (0,0))).cell? ⟨w.heap.size,5,none⟩=some (.slice p.ca p.n.cs.length p.cc):=cellS hx 5;have c6:(w.alloc (.cells (valsNr p).toArray 83 (0,0))).cell? ⟨w.heap.size,6,none⟩=some (.slice p.ra p.n.rs.length p.rc):=cellS hx 6;have d1:decide (z-(p.n.cs.length:Int)<0)=false:=decide_eq_false (by omega)
 have d2:decide (z-(p.n.cs.length:Int)-(p.n.rs.length:Int)<0)=false:=decide_eq_false (by omega);clear hx
 go_enter Tryz.func55,Tryz.ntmps55
 go_wp2_with fail
 with_reducible refine (szLnS_yes p.ca p.cc p.n.cs.length z _ (by omega) (by omega)).mono ?_
 rintro e w1 ⟨rfl,rfl⟩
 go_wp2_with fail
 with_reducible refine (szLnS_yes p.ra p.rc p.n.rs.length _ _ (by omega) (by omega)).mono ?_
 rintro e w1 ⟨rfl,rfl⟩;go_wp2;go_ret;exact ⟨ret_int (by omega),balloc (Below.refl _ _)⟩
theorem szNode_no (p:Nr) (z:Int) (w:World) (h:¬ (p.n.cs.length:Int)+p.n.rs.length≤z) (h0:0≤z) (hz:z≤1048576) (m1:p.n.cs.length≤maxLen) (m2:p.n.rs.length≤maxLen) :
  Calls Tryz.prog 55 #[.agg (valsNr p).toArray,.int .i64 z] w fun e w'=>e=.returned (.int .i64 (-1))∧Below w.heap.size w w':=by
 have hx:=newS w (.cells (valsNr p).toArray 83 (0,0));have c5:(w.alloc (.cells (valsNr p).toArray 83 (0,0))).cell? ⟨w.heap.size,5,none⟩=some (.slice p.ca p.n.cs.length p.cc):=cellS hx 5;have c6:(w.alloc (.cells (valsNr p).toArray 83 (0,0))).cell? ⟨w.heap.size,6,none⟩=some (.slice p.ra p.n.rs.length p.rc):=cellS hx 6;clear hx
 by_cases g1:(p.n.cs.length:Int)≤z
 ·have d1:decide (z-(p.n.cs.length:Int)<0)=false:=decide_eq_false (by omega)
  go_enter Tryz.func55,Tryz.ntmps55
  go_wp2_with fail
  with_reducible refine (szLnS_yes p.ca p.cc p.n.cs.length z _ (by omega) (by omega)).mono ?_
  rintro e w1 ⟨rfl,rfl⟩
  go_wp2_with fail
  with_reducible refine (szLnS_no p.ra p.rc p.n.rs.length _ _ (by omega) (by omega) (by omega) m2).mono ?_
  rintro e w1 ⟨rfl,rfl⟩;go_wp2;go_ret;exact ⟨rfl,balloc (Below.refl _ _)⟩
 ·go_enter Tryz.func55,Tryz.ntmps55
  go_wp2_with fail
  with_reducible refine (szLnS_no p.ca p.cc p.n.cs.length z _ (by omega) (by omega) (by omega) m1).mono ?_
  rintro e w1 ⟨rfl,rfl⟩;go_wp2;go_ret;exact ⟨rfl,balloc (Below.refl _ _)⟩
theorem szNodeS_v (A:Option Addr) (c:Nat) (R:List Nr) (t:Int) (w:World) (h:NrV w A R) (hn:R.length≤maxLen) (hm:∀ p∈R,p.n.cs.length≤maxLen∧p.n.rs.length≤maxLen) (ht:(if R.length+szL R≤1048576 then (1048576:Int)-(R.length+szL R) else -1)=t) :
  Calls Tryz.prog 26 #[.slice A R.length c,.int .i64 1048576] w fun e w'=>e=.returned (.int .i64 t)∧Below w.heap.size w w':=by
 unfold maxLen at hn
 by_cases hl:R.length≤1048576
 ·have d0:decide ((1048576:Int)-(R.length:Int)<0)=false:=decide_eq_false (by omega);have HM:=hD hm;have HT:=hD ht;clear hm ht hn
  go_enter Tryz.func26,Tryz.ntmps26
  go_wp2_with fail
  go_loopw [1,5] (fun z i wr=>∃ k:Nat,k≤R.length∧i=.int .i64 k∧R.length+szL (R.take k)≤1048576∧z=.int .i64 (1048576-(R.length+szL (R.take k)))∧Below w.heap.size w wr) (fun _ i _=>R.length-(intOf i).toNat)
  case atStart=>exact ⟨0,by omega,rfl,by simp [szL];omega,by simp [szL],Below.refl _ _⟩
  case round =>
   obtain ⟨k,hk,rfl,hle,rfl,hB⟩:=hrel
   by_cases hlt:k<R.length
   ·have hd:decide ((k:Int)<(R.length:Int))=true:=by simpa using hlt
    have hget:R[k]?=some R[k]:=List.getElem?_eq_getElem hlt;obtain ⟨b,off,rfl,hb,hp⟩:=(h.keep hB).cells (by omega);have hL:=hp k _ hget;have hms:=HM.out _ (List.mem_of_getElem? hget);have hst:=szL_take hget;have hle2:=szL_le R (k+1);generalize R[k]=p at *;have HB:=hD hB;have HP:=hD hp;have HLR:=hD hL;clear hL;have HG:=hD hget;obtain ⟨m1,m2⟩:=hms;clear hB hp hget
    obtain ⟨S,hS⟩:∃ S,szL (R.take k)=S:=⟨_,rfl⟩
    rw [hS] at hst hle;rw [hS];have HS:=hD hS;have HST:=hD hst;clear hS
    by_cases g:R.length+(S+(p.n.cs.length+p.n.rs.length))≤1048576
    ·have d1:decide ((1048576:Int)-((R.length:Int)+(S:Int))-((p.n.cs.length:Int)+(p.n.rs.length:Int))<0)=false:=decide_eq_false (by omega);have HLE:=hD hle2;clear hle2 hst
     go_wp2_with (refine ldL _ p b (off+k*34) rfl rfl rfl HLR.out ?_)
     with_reducible refine (szNode_yes p (1048576-((R.length:Int)+(S:Int))) _ (by omega) (by omega)).mono ?_
     rintro e w1 ⟨rfl,hb1⟩;replace HB:=hD (bkeep2 HB.out hb1);clear hb1;go_wp2
     go_roundw
     case rel=>exact ⟨k+1,by omega,by go_num,by rw [HST.out];omega,by rw [HST.out];go_num,HB.out⟩
     case measure=>simp [intOf];omega
    ·have HLE:=hD hle2;clear hle2 hst
     go_wp2_with (refine ldL _ p b (off+k*34) rfl rfl rfl HLR.out ?_)
     with_reducible refine (szNode_no p (1048576-((R.length:Int)+(S:Int))) _ (by omega) (by omega) (by omega) m1 m2).mono ?_
     rintro e w1 ⟨rfl,hb1⟩;replace HB:=hD (bkeep2 HB.out hb1);clear hb1;go_wp2;go_ret;exact ⟨ret_int (by rw [<- HT.out,if_neg (by have:=HLE.out;rw [HST.out] at this;omega)]),HB.out⟩
   ·have hd:decide ((k:Int)<(R.length:Int))=false:=decide_eq_false (by omega)
    obtain rfl:k=R.length:=by omega
    have HB:=hD hB;rw [List.take_length] at hle;rw [List.take_length];clear hB;have HLE:=hD hle;clear hle;go_wp2;go_ret;exact ⟨ret_int (by rw [<- HT.out,if_pos HLE.out]),HB.out⟩
 ·have d0:decide ((1048576:Int)-(R.length:Int)<0)=true:=decide_eq_true (by omega);have HT:=hD ht;clear ht hm
  go_enter Tryz.func26,Tryz.ntmps26
  go_wp2;go_ret;exact ⟨ret_int (by rw [<- HT.out,if_neg (by omega)]),Below.refl _ _⟩
theorem szTree_v (A:Option Addr) (c:Nat) (R:List Nr) (t:Int) (w:World) (h:NrV w A R) (hn:R.length≤maxLen) (hm:∀ p∈R,p.n.cs.length≤maxLen∧p.n.rs.length≤maxLen) (ht:(if R.length+szL R≤1048576 then (1048576:Int)-(R.length+szL R) else -1)=t) :
  Calls Tryz.prog 8 #[.agg #[.slice A R.length c],.int .i64 1048576] w fun e w'=>e=.returned (.int .i64 t)∧Below w.heap.size w w':=by
 have hB0:Below w.heap.size w (w.alloc (.cells #[.slice A R.length c] 24 (0,0))):=balloc (Below.refl _ _);have c0:(w.alloc (.cells #[.slice A R.length c] 24 (0,0))).cell? ⟨w.heap.size,0,none⟩=some (.slice A R.length c):=cellS (newS _ _) 0;have HV:=hD (h.keep hB0);have HB:=hD hB0;have HM:=hD (And.intro hn (And.intro hm ht));clear hB0 h hn hm
 have ht2:t=-1∨0≤t:=by rw [<- ht];split <;> omega
 clear ht
 rcases ht2 with rfl | ht2
 ·go_enter Tryz.func8,Tryz.ntmps8
  go_wp2_with fail
  with_reducible refine (szNodeS_v A c R _ _ HV.out HM.out.1 HM.out.2.1 HM.out.2.2).mono ?_
  rintro e w1 ⟨rfl,hb1⟩;replace HB:=hD (bkeep2 HB.out hb1);clear hb1 c0;go_wp2;go_ret;exact ⟨rfl,HB.out⟩
 ·have d1:decide (t<0)=false:=decide_eq_false (by omega)
  go_enter Tryz.func8,Tryz.ntmps8
  go_wp2_with fail
  with_reducible refine (szNodeS_v A c R _ _ HV.out HM.out.1 HM.out.2.1 HM.out.2.2).mono ?_
  rintro e w1 ⟨rfl,hb1⟩;replace HB:=hD (bkeep2 HB.out hb1);clear hb1 c0;go_wp2;go_ret;exact ⟨rfl,HB.out⟩
theorem pvalidSide_any (k:Int) (w:World):Calls Tryz.prog 144 #[.int .i64 k] w fun e w'=>e=.returned (.bool (rng k 0 3))∧w=w':=by
 go_enter Tryz.func144,Tryz.ntmps144
 go_wp2_with (go_at_call 61;refine (within_any _ _ _ _).mono ?_;rintro e w' ⟨rfl,rfl⟩)
 go_ret;exact ⟨ret_bool rfl,rfl⟩
theorem pvalidAnchor_any (k:Int) (w:World):Calls Tryz.prog 145 #[.int .i64 k] w fun e w'=>e=.returned (.bool (rng k 0 8))∧w=w':=by
 go_enter Tryz.func145,Tryz.ntmps145
 go_wp2_with (go_at_call 61;refine (within_any _ _ _ _).mono ?_;rintro e w' ⟨rfl,rfl⟩)
 go_ret;exact ⟨ret_bool rfl,rfl⟩
theorem psvalidSide_any (k:Int) (w:World):Calls Tryz.prog 130 #[.int .i64 k] w fun e w'=>e=.returned (.bool (rng k 0 3))∧w=w':=by
 go_enter Tryz.func130,Tryz.ntmps130
 go_wp2_with (go_at_call 44;refine (inRange_any _ _ _ _).mono ?_;rintro e w' ⟨rfl,rfl⟩)
 go_ret;exact ⟨ret_bool rfl,rfl⟩
theorem psvalidAnchor_any (k:Int) (w:World):Calls Tryz.prog 131 #[.int .i64 k] w fun e w'=>e=.returned (.bool (rng k 0 8))∧w=w':=by
 go_enter Tryz.func131,Tryz.ntmps131
 go_wp2_with (go_at_call 44;refine (inRange_any _ _ _ _).mono ?_;rintro e w' ⟨rfl,rfl⟩)
 go_ret;exact ⟨ret_bool rfl,rfl⟩
theorem vp_n12 {w h s an px py:Int} (h1:(rng w 0 30&&rng h 0 30)=false):vpB w h s an px py=false:=by
 cases a:rng w 0 30 <;> cases b:rng h 0 30 <;> simp [vpB,a,b] at h1 ⊢
theorem validPack_any (w0 h0 s:Int) (fx fy ex:Bool) (an px py:Int) (w:World):Calls Tryz.prog 124 #[.agg #[.int .i64 w0,.int .i64 h0,.int .i64 s,.bool fx,.bool fy,.bool ex,.int .i64 an,.int .i64 px,.int .i64 py]] w fun e w'=>e=.returned (.bool (vpB w0 h0 s an px py))∧Below w.heap.size w w':=by
 cases hw:(rng w0 0 30&&rng h0 0 30)
 ·go_enter Tryz.func124,Tryz.ntmps124
  go_wp2_with (first|(go_at_call 59;refine (validWish_w _ _ _ _ hw).mono ?_;rintro e w' ⟨rfl,rfl⟩)|(go_at_call 61;refine (within_any _ _ _ _).mono ?_;rintro e w' ⟨rfl,rfl⟩)|(go_at_call 144;refine (pvalidSide_any _ _).mono ?_;rintro e w' ⟨rfl,rfl⟩)|(go_at_call 145;refine (pvalidAnchor_any _ _).mono ?_;rintro e w' ⟨rfl,rfl⟩))
  go_ret;exact ⟨ret_bool (by rw [vp_n12 hw]),(Below.refl _ _).alloc (Nat.le_refl _) _⟩
 have h1:rng w0 0 30=true:=(Bool.and_eq_true _ _ ▸ hw).1;have h2:rng h0 0 30=true:=(Bool.and_eq_true _ _ ▸ hw).2
 cases h3:rng s 0 3
 ·go_enter Tryz.func124,Tryz.ntmps124
  go_wp2_with (first|(go_at_call 59;refine (validWish_w _ _ _ _ hw).mono ?_;rintro e w' ⟨rfl,rfl⟩)|(go_at_call 61;refine (within_any _ _ _ _).mono ?_;rintro e w' ⟨rfl,rfl⟩)|(go_at_call 144;refine (pvalidSide_any _ _).mono ?_;rintro e w' ⟨rfl,rfl⟩)|(go_at_call 145;refine (pvalidAnchor_any _ _).mono ?_;rintro e w' ⟨rfl,rfl⟩))
  go_ret;exact ⟨ret_bool (by rw [vp_n3 h3]),(Below.refl _ _).alloc (Nat.le_refl _) _⟩
 cases h4:rng an 0 8
 ·go_enter Tryz.func124,Tryz.ntmps124
  go_wp2_with (first|(go_at_call 59;refine (validWish_w _ _ _ _ hw).mono ?_;rintro e w' ⟨rfl,rfl⟩)|(go_at_call 61;refine (within_any _ _ _ _).mono ?_;rintro e w' ⟨rfl,rfl⟩)|(go_at_call 144;refine (pvalidSide_any _ _).mono ?_;rintro e w' ⟨rfl,rfl⟩)|(go_at_call 145;refine (pvalidAnchor_any _ _).mono ?_;rintro e w' ⟨rfl,rfl⟩))
  go_ret;exact ⟨ret_bool (by rw [vp_n4 h4]),(Below.refl _ _).alloc (Nat.le_refl _) _⟩
 cases h5:rng px 0 10
 ·go_enter Tryz.func124,Tryz.ntmps124
  go_wp2_with (first|(go_at_call 59;refine (validWish_w _ _ _ _ hw).mono ?_;rintro e w' ⟨rfl,rfl⟩)|(go_at_call 61;refine (within_any _ _ _ _).mono ?_;rintro e w' ⟨rfl,rfl⟩)|(go_at_call 144;refine (pvalidSide_any _ _).mono ?_;rintro e w' ⟨rfl,rfl⟩)|(go_at_call 145;refine (pvalidAnchor_any _ _).mono ?_;rintro e w' ⟨rfl,rfl⟩))
  go_ret;exact ⟨ret_bool (by rw [vp_n5 h5]),(Below.refl _ _).alloc (Nat.le_refl _) _⟩
 go_enter Tryz.func124,Tryz.ntmps124
 go_wp2_with (first|(go_at_call 59;refine (validWish_w _ _ _ _ hw).mono ?_;rintro e w' ⟨rfl,rfl⟩)|(go_at_call 61;refine (within_any _ _ _ _).mono ?_;rintro e w' ⟨rfl,rfl⟩)|(go_at_call 144;refine (pvalidSide_any _ _).mono ?_;rintro e w' ⟨rfl,rfl⟩)|(go_at_call 145;refine (pvalidAnchor_any _ _).mono ?_;rintro e w' ⟨rfl,rfl⟩))
 go_ret;exact ⟨ret_bool (by rw [vp_n6 h1 h2 h3 h4 h5]),(Below.refl _ _).alloc (Nat.le_refl _) _⟩
theorem specValidPack_any (w0 h0 s:Int) (fx fy ex:Bool) (an px py:Int) (w:World):Calls Tryz.prog 106 #[.agg #[.int .i64 w0,.int .i64 h0,.int .i64 s,.bool fx,.bool fy,.bool ex,.int .i64 an,.int .i64 px,.int .i64 py]] w fun e w'=>e=.returned (.bool (vpB w0 h0 s an px py))∧Below w.heap.size w w':=by
 cases h1:rng w0 0 30
 ·go_enter Tryz.func106,Tryz.ntmps106
  go_wp2_with (first|(go_at_call 44;refine (inRange_any _ _ _ _).mono ?_;rintro e w' ⟨rfl,rfl⟩)|(go_at_call 130;refine (psvalidSide_any _ _).mono ?_;rintro e w' ⟨rfl,rfl⟩)|(go_at_call 131;refine (psvalidAnchor_any _ _).mono ?_;rintro e w' ⟨rfl,rfl⟩))
  go_ret;exact ⟨ret_bool (by rw [vp_n1 h1]),(Below.refl _ _).alloc (Nat.le_refl _) _⟩
 cases h2:rng h0 0 30
 ·go_enter Tryz.func106,Tryz.ntmps106
  go_wp2_with (first|(go_at_call 44;refine (inRange_any _ _ _ _).mono ?_;rintro e w' ⟨rfl,rfl⟩)|(go_at_call 130;refine (psvalidSide_any _ _).mono ?_;rintro e w' ⟨rfl,rfl⟩)|(go_at_call 131;refine (psvalidAnchor_any _ _).mono ?_;rintro e w' ⟨rfl,rfl⟩))
  go_ret;exact ⟨ret_bool (by rw [vp_n2 h2]),(Below.refl _ _).alloc (Nat.le_refl _) _⟩
 cases h3:rng s 0 3
 ·go_enter Tryz.func106,Tryz.ntmps106
  go_wp2_with (first|(go_at_call 44;refine (inRange_any _ _ _ _).mono ?_;rintro e w' ⟨rfl,rfl⟩)|(go_at_call 130;refine (psvalidSide_any _ _).mono ?_;rintro e w' ⟨rfl,rfl⟩)|(go_at_call 131;refine (psvalidAnchor_any _ _).mono ?_;rintro e w' ⟨rfl,rfl⟩))
  go_ret;exact ⟨ret_bool (by rw [vp_n3 h3]),(Below.refl _ _).alloc (Nat.le_refl _) _⟩
 cases h4:rng an 0 8
 ·go_enter Tryz.func106,Tryz.ntmps106
  go_wp2_with (first|(go_at_call 44;refine (inRange_any _ _ _ _).mono ?_;rintro e w' ⟨rfl,rfl⟩)|(go_at_call 130;refine (psvalidSide_any _ _).mono ?_;rintro e w' ⟨rfl,rfl⟩)|(go_at_call 131;refine (psvalidAnchor_any _ _).mono ?_;rintro e w' ⟨rfl,rfl⟩))
  go_ret;exact ⟨ret_bool (by rw [vp_n4 h4]),(Below.refl _ _).alloc (Nat.le_refl _) _⟩
 cases h5:rng px 0 10
 ·go_enter Tryz.func106,Tryz.ntmps106
  go_wp2_with (first|(go_at_call 44;refine (inRange_any _ _ _ _).mono ?_;rintro e w' ⟨rfl,rfl⟩)|(go_at_call 130;refine (psvalidSide_any _ _).mono ?_;rintro e w' ⟨rfl,rfl⟩)|(go_at_call 131;refine (psvalidAnchor_any _ _).mono ?_;rintro e w' ⟨rfl,rfl⟩))
  go_ret;exact ⟨ret_bool (by rw [vp_n5 h5]),(Below.refl _ _).alloc (Nat.le_refl _) _⟩
 go_enter Tryz.func106,Tryz.ntmps106
 go_wp2_with (first|(go_at_call 44;refine (inRange_any _ _ _ _).mono ?_;rintro e w' ⟨rfl,rfl⟩)|(go_at_call 130;refine (psvalidSide_any _ _).mono ?_;rintro e w' ⟨rfl,rfl⟩)|(go_at_call 131;refine (psvalidAnchor_any _ _).mono ?_;rintro e w' ⟨rfl,rfl⟩))
 go_ret;exact ⟨ret_bool (by rw [vp_n6 h1 h2 h3 h4 h5]),(Below.refl _ _).alloc (Nat.le_refl _) _⟩
theorem cellH {w:World} {b:Nat} {cs:Array Value} {T:TypeId} {fz:Nat × Nat} (h:w.heap[b]?=some (.cells cs T fz)) (i:Nat):w.cell? ⟨b,i,none⟩=cs[i]?:=by simp [World.cell?,h]
theorem heap_new (w:World) (o:Obj):(w.alloc o).heap[w.heap.size]?=some o:=by
 show (w.heap.push o)[w.heap.size]?=some o
 simp
theorem b9c {w:World} {b:Nat} {a0 a1 a2 a3 a4 a5 a6 a7 a8:Value} {T:TypeId} {fz:Nat × Nat} (h:w.heap[b]?=some (.cells #[a0,a1,a2,a3,a4,a5,a6,a7,a8] T fz)) :
  w.cell? ⟨b,0,none⟩=some a0∧w.cell? ⟨b,1,none⟩=some a1∧w.cell? ⟨b,2,none⟩=some a2∧w.cell? ⟨b,3,none⟩=some a3∧w.cell? ⟨b,4,none⟩=some a4∧w.cell? ⟨b,5,none⟩=some a5∧w.cell? ⟨b,6,none⟩=some a6∧w.cell? ⟨b,7,none⟩=some a7∧w.cell? ⟨b,8,none⟩=some a8 :=
 ⟨cellH h 0,cellH h 1,cellH h 2,cellH h 3,cellH h 4,cellH h 5,cellH h 6,cellH h 7,cellH h 8⟩
theorem toPack_any (w0 h0 s:Int) (fx fy ex:Bool) (an px py:Int) (w:World):Calls Tryz.prog 83 #[.agg #[.int .i64 w0,.int .i64 h0,.int .i64 s,.bool fx,.bool fy,.bool ex,.int .i64 an,.int .i64 px,.int .i64 py]] w fun e w'=>e=.returned (.agg #[.int .i64 w0,.int .i64 h0,.int .i64 s,.bool fx,.bool fy,.bool ex,.int .i64 an,.int .i64 px,.int .i64 py])∧Below w.heap.size w w':=by
 go_enter Tryz.func83,Tryz.ntmps83
 go_wp2
 exact bodyPost_ret (v:=.agg #[.int .i64 w0,.int .i64 h0,.int .i64 s,.bool fx,.bool fy,.bool ex,.int .i64 an,.int .i64 px,.int .i64 py]) (by simp only [results,Tryz.results83];go_simp) rfl ⟨rfl,(by repeat (first | with_reducible exact Below.refl _ _ | with_reducible assumption | with_reducible refine balloc ?_|(with_reducible refine bset ?_ ?_;rotate_left;((try dsimp only);omega)) | refine bkeep2 ?_ (by assumption) | with_reducible refine Below.drew ?_))⟩
def sumI:List Int→Int
 | []=>0
 | x :: t=>x+sumI t
theorem sumI_append:∀ (A B:List Int),sumI (A ++ B)=sumI A+sumI B
 | [],B=>by simp [sumI]
 | x :: t,B=>by simp [sumI,sumI_append t B];omega
theorem sumI_snoc {L:List Int} {k:Nat} {x:Int} (h:L[k]?=some x):sumI (L.take (k+1))=sumI (L.take k)+x:=by
 obtain ⟨hk,e⟩:=List.getElem?_eq_some_iff.1 h;rw [List.take_succ_eq_append_getElem hk,sumI_append,e]
 simp [sumI]
theorem sumI_bd {lo hi:Int}:∀ {L:List Int},(∀ x∈L,lo≤x∧x≤hi)→lo*L.length≤sumI L∧sumI L≤hi*L.length
 | [],_=>by simp [sumI]
 | x :: t,h=>by
  have h1:=sumI_bd (L:=t) (fun q hq=>h q (List.mem_cons_of_mem _ hq));have h2:=h x List.mem_cons_self;simp only [sumI,List.length_cons]
  have e1:lo*((t.length+1:Nat):Int)=lo*t.length+lo:=by rw [Int.natCast_succ,Int.mul_add,Int.mul_one]
  have e2:hi*((t.length+1:Nat):Int)=hi*t.length+hi:=by rw [Int.natCast_succ,Int.mul_add,Int.mul_one]
  rw [e1,e2];omega
def Smal (M:Int) (L:List Int):Prop:=∀ k,-M≤sumI (L.take k)∧sumI (L.take k)≤M
theorem smal_of {b M:Int} {L:List Int} (h:∀ x∈L,-b≤x∧x≤b) (hb:0≤b) (hl:b*L.length≤M):Smal M L:=fun k=>by
 have:=sumI_bd (L:=L.take k) (fun x hx=>h x (List.mem_of_mem_take hx))
 have hk:((L.take k).length:Int)≤L.length:=by rw [List.length_take];omega
 have h1:b*((L.take k).length:Int)≤b*L.length:=Int.mul_le_mul_of_nonneg_left hk hb
 have h2:-b*((L.take k).length:Int)=-(b*((L.take k).length:Int)):=by rw [Int.neg_mul]
 rw [h2] at this;omega
structure NV (w:World) (A:Option Addr) (L:List Int):Prop where
 cells:0<L.length→∃ b off,A=some ⟨b,off,none⟩∧b<w.heap.size∧∀ i x,L[i]?=some x→w.cell? ⟨b,off+i,none⟩=some (.int .i64 x)
theorem NV.keep {w w':World} {A:Option Addr} {L:List Int} (h:NV w A L) (hb:Below w.heap.size w w'):NV w' A L :=
 ⟨fun h0=>let ⟨b,off,e,hl,hp⟩:=h.cells h0;⟨b,off,e,Nat.lt_of_lt_of_le hl hb.size,fun i x hx=>(hb.cell (p:=⟨b,off+i,none⟩) hl).trans (hp i x hx)⟩⟩
theorem NV.nil (w:World) (A:Option Addr):NV w A []:=⟨fun h=>absurd h (by simp)⟩
theorem NV.sub {w:World} {b off:Nat} {L:List Int} (hb:b<w.heap.size) (h:∀ i x,L[i]?=some x→w.cell? ⟨b,off+i,none⟩=some (.int .i64 x)) (i j:Nat):NV w (some ⟨b,off+i,none⟩) ((L.drop i).take j) :=
 ⟨fun _=>⟨b,off+i,rfl,hb,fun k x hx=>by
  rw [List.getElem?_take] at hx
  split at hx
  ·rw [List.getElem?_drop] at hx
   have:=h (i+k) x hx
   rwa [<- Nat.add_assoc] at this
  ·cases hx⟩⟩
def ivals (L:List Int):Array Value:=(L.map (Value.int .i64)).toArray
def IB (w:World) (g:Nat) (L:List Int):Prop:=w.heap[g]?=some (.cells (ivals L) 3 (0,0))
theorem IB.lt {w:World} {g:Nat} {L:List Int} (h:IB w g L):g<w.heap.size:=(gE h).1
theorem IB.cell {w:World} {g i:Nat} {L:List Int} {x:Int} (h:IB w g L) (hx:L[i]?=some x):w.cell? ⟨g,i,none⟩=some (.int .i64 x):=by
 have h':w.heap[g]?=some (.cells (ivals L) 3 (0,0)):=h
 simp [World.cell?,h',ivals,hx]
theorem IB.frozen {w:World} {g:Nat} {L:List Int} (h:IB w g L) (i:Nat):w.frozen? ⟨g,i,none⟩=false:=by
 have h':w.heap[g]?=some (.cells (ivals L) 3 (0,0)):=h
 simp [World.frozen?,h']
theorem IB.keep {w w':World} {g:Nat} {L:List Int} (h:IB w g L) (hb:Below w.heap.size w w'):IB w' g L:=(hb.block g h.lt).trans h
theorem IB.set {w:World} {g:Nat} {L:List Int} (h:IB w g L) (i:Nat) (x:Int):IB (w.setCell ⟨g,i,none⟩ (.int .i64 x)) g (L.set i x):=by
 have h':w.heap[g]?=some (.cells (ivals L) 3 (0,0)):=h
 show _=_
 simp [World.setCell,Array.getElem?_modify,h',ivals,List.map_set]
theorem IB.nv {w:World} {g:Nat} {L:List Int} (h:IB w g L):NV w (some ⟨g,0,none⟩) L :=
 ⟨fun _=>⟨g,0,rfl,h.lt,fun i x hx=>by rw [Nat.zero_add];exact h.cell hx⟩⟩
theorem madeI:∀ (n:Nat) (w:World),n≤1048576→(Instr.makeSlice 26 (.int .i64 (n:Int)) (.int .i64 (n:Int))).run Tryz.prog w=.ok (.slice (some ⟨w.heap.size,0,none⟩) n n) (w.alloc (.cells (ivals (List.replicate n 0)) 3)):=by
 intro n w hn
 have hinfo:(Tryz.prog.info? 3).map (fun i=>(i.zero,i.size,i.bytes))=some (some (.int .i64 0),1,8):=by kernel_rfl
 obtain ⟨i,hi,h1,h2,h3⟩:=info_parts hinfo;have hr:=run_make (P:=Tryz.prog) w 26 3 i _ Tryz.underlying26 hi h1 .i64 .i64 n n (by omega) (Int.le_refl _) (by rw [h3];omega) (by omega);rw [h2] at hr
 have e:madeCells (Value.int .i64 0).cells (n*1)=ivals (List.replicate n 0):=by
  apply Array.ext
  ·rw [size_madeCells];simp [ivals]
  ·intro i h1 h2
   simp [madeCells,ivals,Value.cells,Nat.mod_one]
 rw [Int.toNat_natCast,e] at hr
 simpa using hr
theorem makeI_b (n:Nat) (w:World):IB (w.alloc (.cells (ivals (List.replicate n 0)) 3)) w.heap.size (List.replicate n 0):=by
 show (w.heap.push _)[w.heap.size]?=_
 simp
theorem sum_v (A:Option Addr) (c:Nat) (L:List Int) (w:World) (h:NV w A L) (hL:L.length≤1048576) (hM:Smal 1000000000000000 L) :
  Calls Tryz.prog 185 #[.slice A L.length c] w fun e w'=>e=.returned (.int .i64 (sumI L))∧w=w':=by
 have HM:=hD hM;clear hM
 go_enter Tryz.func185,Tryz.ntmps185
 go_wp2_with fail
 go_loop [3,8] (fun s i=>∃ k:Nat,k≤L.length∧i=.int .i64 k∧s=.int .i64 (sumI (L.take k))) (fun _ i=>L.length-(intOf i).toNat)
 case atStart=>exact ⟨0,by omega,rfl,rfl⟩
 case round =>
  obtain ⟨k,hk,rfl,rfl⟩:=hrel
  by_cases hlt:k<L.length
  ·have hd:decide ((k:Int)<(L.length:Int))=true:=by simpa using hlt
   obtain ⟨b,off,rfl,hb,hp⟩:=h.cells (by omega);have hget:L[k]?=some L[k]:=List.getElem?_eq_getElem hlt;have c0:=hp k _ hget;generalize hx:L[k]=x at *;have hs:=sumI_snoc hget;have b1:=HM.out k;have b2:=HM.out (k+1);rw [hs] at b2
   obtain ⟨S,hS⟩:∃ S,sumI (L.take k)=S:=⟨_,rfl⟩
   rw [hS] at b1 b2 hs;rw [hS];have HS:=hD hs;clear hs hS hget hx hp;go_wp2
   go_round
   case rel=>exact ⟨k+1,by omega,by go_num,by rw [HS.out]⟩
   case measure=>simp [intOf];omega
  ·have hd:decide ((k:Int)<(L.length:Int))=false:=by simp;omega
   have he:L.take k=L:=List.take_of_length_le (by omega);rw [he];clear he;go_wp2;go_ret;exact ⟨rfl,rfl⟩
theorem total_v (A:Option Addr) (c:Nat) (L:List Int) (w:World) (h:NV w A L) (hL:L.length≤1048576) (hM:Smal 1000000000000000 L) :
  Calls Tryz.prog 118 #[.slice A L.length c] w fun e w'=>e=.returned (.int .i64 (sumI L))∧w=w':=by
 have HM:=hD hM;clear hM
 go_enter Tryz.func118,Tryz.ntmps118
 go_wp2_with fail
 go_loop [3,4] (fun s i=>∃ k:Nat,k≤L.length∧i=.int .i64 k∧s=.int .i64 (sumI (L.take k))) (fun _ i=>L.length-(intOf i).toNat)
 case atStart=>exact ⟨0,by omega,rfl,rfl⟩
 case round =>
  obtain ⟨k,hk,rfl,rfl⟩:=hrel
  by_cases hlt:k<L.length
  ·have hd:decide ((k:Int)<(L.length:Int))=true:=by simpa using hlt
   obtain ⟨b,off,rfl,hb,hp⟩:=h.cells (by omega);have hget:L[k]?=some L[k]:=List.getElem?_eq_getElem hlt;have c0:=hp k _ hget;generalize hx:L[k]=x at *;have hs:=sumI_snoc hget;have b1:=HM.out k;have b2:=HM.out (k+1);rw [hs] at b2
   obtain ⟨S,hS⟩:∃ S,sumI (L.take k)=S:=⟨_,rfl⟩
   rw [hS] at b1 b2 hs;rw [hS];have HS:=hD hs;clear hs hS hget hx hp;go_wp2
   go_round
   case rel=>exact ⟨k+1,by omega,by go_num,by rw [HS.out]⟩
   case measure=>simp [intOf];omega
  ·have hd:decide ((k:Int)<(L.length:Int))=false:=by simp;omega
   have he:L.take k=L:=List.take_of_length_le (by omega);rw [he];clear he;go_wp2;go_ret;exact ⟨rfl,rfl⟩
theorem inRange_q (n a b:Int) (t:Bool) (w:World) (h:rng n a b=t):Calls Tryz.prog 44 #[.int .i64 n,.int .i64 a,.int .i64 b] w fun e w'=>e=.returned (.bool t)∧w=w':=by rw [<- h];exact inRange_any n a b w
theorem within_q (n a b:Int) (t:Bool) (w:World) (h:rng n a b=t):Calls Tryz.prog 61 #[.int .i64 n,.int .i64 a,.int .i64 b] w fun e w'=>e=.returned (.bool t)∧w=w':=by rw [<- h];exact within_any n a b w
theorem shift_t (n:Int) (t:Bool) (w:World) (h:shB n=t):Calls Tryz.prog 147 #[.int .i64 n] w fun e w'=>e=.returned (.bool t)∧w=w':=by
 go_enter Tryz.func147,Tryz.ntmps147
 go_wp2_with (go_at_call 61;refine (within_q _ _ _ t _ h).mono ?_;rintro e w' ⟨rfl,rfl⟩)
 go_ret;exact ⟨rfl,rfl⟩
theorem rel_t (n:Int) (t:Bool) (w:World) (h:reB n=t):Calls Tryz.prog 148 #[.int .i64 n] w fun e w'=>e=.returned (.bool t)∧w=w':=by
 go_enter Tryz.func148,Tryz.ntmps148
 go_wp2_with (go_at_call 61;refine (within_q _ _ _ t _ h).mono ?_;rintro e w' ⟨rfl,rfl⟩)
 go_ret;exact ⟨rfl,rfl⟩
theorem anch_t (k:Int) (t:Bool) (w:World) (h:rng k 0 8=t):Calls Tryz.prog 145 #[.int .i64 k] w fun e w'=>e=.returned (.bool t)∧w=w':=by
 go_enter Tryz.func145,Tryz.ntmps145
 go_wp2_with (go_at_call 61;refine (within_q _ _ _ t _ h).mono ?_;rintro e w' ⟨rfl,rfl⟩)
 go_ret;exact ⟨rfl,rfl⟩
theorem sanch_t (k:Int) (t:Bool) (w:World) (h:rng k 0 8=t):Calls Tryz.prog 131 #[.int .i64 k] w fun e w'=>e=.returned (.bool t)∧w=w':=by
 go_enter Tryz.func131,Tryz.ntmps131
 go_wp2_with (go_at_call 44;refine (inRange_q _ _ _ t _ h).mono ?_;rintro e w' ⟨rfl,rfl⟩)
 go_ret;exact ⟨rfl,rfl⟩
theorem all_snocQ {f:Int→Bool} {L:List Int} {k:Nat} {p:Int} (h:L[k]?=some p):(L.take (k+1)).all f=((L.take k).all f&&f p):=by
 have hk:k<L.length:=(List.getElem?_eq_some_iff.1 h).1;have e:L[k]=p:=(List.getElem?_eq_some_iff.1 h).2;rw [List.take_succ_eq_append_getElem hk,e]
 simp
theorem new_q (w:World) (o:Obj):(w.alloc o).heap[w.heap.size]?=some o:=by
 show (w.heap.push o)[w.heap.size]?=some o
 simp
theorem newq1 (w:World) (o o':Obj):((w.alloc o).alloc o').heap[w.heap.size+1]?=some o':=by
 have:=new_q (w.alloc o) o';rwa [World.size_alloc] at this
theorem newq2 (w:World) (o o' o2:Obj):(((w.alloc o).alloc o').alloc o2).heap[w.heap.size+1+1]?=some o2:=by
 have:=newq1 (w.alloc o) o' o2;rwa [World.size_alloc] at this
theorem cl_q {w:World} {b:Nat} {cs:Array Value} {T:TypeId} {fz:Nat × Nat} (h:w.heap[b]?=some (.cells cs T fz)) (i:Nat):w.cell? ⟨b,i,none⟩=cs[i]?:=by simp [World.cell?,h]
theorem nv4 {w:World} {g:Nat} {a b c d:Int} {T:TypeId} {fz:Nat × Nat} (h:w.heap[g]?=some (.cells #[.int .i64 a,.int .i64 b,.int .i64 c,.int .i64 d] T fz)):NV w (some ⟨g,0,none⟩) [a,b,c,d] :=
 ⟨fun _=>⟨g,0,rfl,(gE h).1,fun i x hx=>by
  rw [Nat.zero_add,cl_q h]
  match i,hx with
  | 0,hx=>simpa using hx
  | 1,hx=>simpa using hx
  | 2,hx=>simpa using hx
  | 3,hx=>simpa using hx
  | i+4,hx=>simp at hx⟩⟩
theorem allSh (A:Option Addr) (c:Nat) (L:List Int) (t:Bool) (w:World) (h:NV w A L) (hL:L.length≤1048576) (ht:L.all shB=t) :
  Calls Tryz.prog 146 #[.slice A L.length c,.func (.func 147) #[] #[]] w fun e w'=>e=.returned (.bool t)∧w=w':=by
 subst ht
 go_enter Tryz.func146,Tryz.ntmps146
 go_wp2_with fail
 go_loop [9] (fun i=>∃ k:Nat,k≤L.length∧i=.int .i64 k∧(L.take k).all shB=true) (fun i=>L.length-(intOf i).toNat)
 case atStart=>exact ⟨0,by omega,rfl,rfl⟩
 case round =>
  obtain ⟨k,hk,rfl,hok⟩:=hrel
  by_cases hlt:k<L.length
  ·have hd:decide ((k:Int)<(L.length:Int))=true:=by simpa using hlt
   obtain ⟨b,off,rfl,hb,hp⟩:=h.cells (by omega);have hget:L[k]?=some L[k]:=List.getElem?_eq_getElem hlt;have c0:=hp k _ hget;generalize hx:L[k]=p at *;have HG:=hD hget;have HX:=hD hx;have HO:=hD hok;have HP:=hD hp;clear hget hx hok hp
   cases hv:shB p
   all_goals
    have Hv:=hD hv;clear hv
    go_wp2_with fail
    first|(with_reducible refine (shift_t p false _ Hv.out).mono ?_)|(with_reducible refine (shift_t p true _ Hv.out).mono ?_)
    rintro e w1 ⟨rfl,rfl⟩;go_wp2
   ·go_ret
    exact ⟨ret_bool (by
     symm
     rw [Bool.eq_false_iff];intro hh;have h1:=List.all_eq_true.1 hh p (List.mem_of_getElem? HG.out);rw [Hv.out] at h1
     cases h1),rfl⟩
   ·go_round
    case rel=>exact ⟨k+1,by omega,by go_num,by rw [all_snocQ HG.out,HO.out,Hv.out];rfl⟩
    case measure=>simp [intOf];omega
  ·have hd:decide ((k:Int)<(L.length:Int))=false:=by simp;omega
   have he:L.take k=L:=List.take_of_length_le (by omega);rw [he] at hok;have HO:=hD hok;clear hok he;go_wp2;go_ret;exact ⟨ret_bool HO.out.symm,rfl⟩
theorem allRe (A:Option Addr) (c:Nat) (L:List Int) (t:Bool) (w:World) (h:NV w A L) (hL:L.length≤1048576) (ht:L.all reB=t) :
  Calls Tryz.prog 146 #[.slice A L.length c,.func (.func 148) #[] #[]] w fun e w'=>e=.returned (.bool t)∧w=w':=by
 subst ht
 go_enter Tryz.func146,Tryz.ntmps146
 go_wp2_with fail
 go_loop [9] (fun i=>∃ k:Nat,k≤L.length∧i=.int .i64 k∧(L.take k).all reB=true) (fun i=>L.length-(intOf i).toNat)
 case atStart=>exact ⟨0,by omega,rfl,rfl⟩
 case round =>
  obtain ⟨k,hk,rfl,hok⟩:=hrel
  by_cases hlt:k<L.length
  ·have hd:decide ((k:Int)<(L.length:Int))=true:=by simpa using hlt
   obtain ⟨b,off,rfl,hb,hp⟩:=h.cells (by omega);have hget:L[k]?=some L[k]:=List.getElem?_eq_getElem hlt;have c0:=hp k _ hget;generalize hx:L[k]=p at *;have HG:=hD hget;have HX:=hD hx;have HO:=hD hok;have HP:=hD hp;clear hget hx hok hp
   cases hv:reB p
   all_goals
    have Hv:=hD hv;clear hv
    go_wp2_with fail
    first|(with_reducible refine (rel_t p false _ Hv.out).mono ?_)|(with_reducible refine (rel_t p true _ Hv.out).mono ?_)
    rintro e w1 ⟨rfl,rfl⟩;go_wp2
   ·go_ret
    exact ⟨ret_bool (by
     symm
     rw [Bool.eq_false_iff];intro hh;have h1:=List.all_eq_true.1 hh p (List.mem_of_getElem? HG.out);rw [Hv.out] at h1
     cases h1),rfl⟩
   ·go_round
    case rel=>exact ⟨k+1,by omega,by go_num,by rw [all_snocQ HG.out,HO.out,Hv.out];rfl⟩
    case measure=>simp [intOf];omega
  ·have hd:decide ((k:Int)<(L.length:Int))=false:=by simp;omega
   have he:L.take k=L:=List.take_of_length_le (by omega);rw [he] at hok;have HO:=hD hok;clear hok he;go_wp2;go_ret;exact ⟨ret_bool HO.out.symm,rfl⟩
theorem allSh4 {g:Nat} {x y z u:Int} {T:TypeId} {fz:Nat × Nat} (t:Bool) (w:World) (h:w.heap[g]?=some (.cells #[.int .i64 x,.int .i64 y,.int .i64 z,.int .i64 u] T fz)) (ht:[x,y,z,u].all shB=t) :
  Calls Tryz.prog 146 #[.slice (some ⟨g,0,none⟩) 4 4,.func (.func 147) #[] #[]] w fun e w'=>e=.returned (.bool t)∧w=w':=allSh _ 4 [x,y,z,u] t w (nv4 h) (by simp) ht
theorem allRe4 {g:Nat} {x y z u:Int} {T:TypeId} {fz:Nat × Nat} (t:Bool) (w:World) (h:w.heap[g]?=some (.cells #[.int .i64 x,.int .i64 y,.int .i64 z,.int .i64 u] T fz)) (ht:[x,y,z,u].all reB=t) :
  Calls Tryz.prog 146 #[.slice (some ⟨g,0,none⟩) 4 4,.func (.func 148) #[] #[]] w fun e w'=>e=.returned (.bool t)∧w=w':=allRe _ 4 [x,y,z,u] t w (nv4 h) (by simp) ht
theorem svalidPlace_t (p:Plc) (t:Bool) (w:World) (h:plB p=t):Calls Tryz.prog 107 #[.agg #[.int .i64 p.x,.int .i64 p.y,.int .i64 p.rx,.int .i64 p.ry,.int .i64 p.ww,.int .i64 p.hh,.int .i64 p.qw,.int .i64 p.qh,.int .i64 p.an]] w fun e w'=>e=.returned (.bool t)∧Below w.heap.size w w':=by
 cases h1:rng p.x (-300) 300
 ·have ht:false=t:=by rw [<- h];simp [plB,shB,reB,h1]
  subst ht
  go_enter Tryz.func107,Tryz.ntmps107
  go_wp2_with fail
  with_reducible refine (inRange_q _ _ _ false _ h1).mono ?_
  rintro e w1 ⟨rfl,rfl⟩;go_wp2;go_ret;exact ⟨rfl,(by repeat (first | with_reducible exact Below.refl _ _ | with_reducible assumption | with_reducible refine balloc ?_|(with_reducible refine bset ?_ ?_;rotate_left;((try dsimp only);omega)) | refine bkeep2 ?_ (by assumption) | with_reducible refine Below.drew ?_))⟩
 cases h2:rng p.y (-300) 300
 ·have ht:false=t:=by rw [<- h];simp [plB,shB,reB,h2]
  subst ht
  go_enter Tryz.func107,Tryz.ntmps107
  go_wp2_with fail
  with_reducible refine (inRange_q _ _ _ true _ h1).mono ?_
  rintro e w1 ⟨rfl,rfl⟩
  go_wp2_with fail
  with_reducible refine (inRange_q _ _ _ false _ h2).mono ?_
  rintro e w1 ⟨rfl,rfl⟩;go_wp2;go_ret;exact ⟨rfl,(by repeat (first | with_reducible exact Below.refl _ _ | with_reducible assumption | with_reducible refine balloc ?_|(with_reducible refine bset ?_ ?_;rotate_left;((try dsimp only);omega)) | refine bkeep2 ?_ (by assumption) | with_reducible refine Below.drew ?_))⟩
 cases h3:rng p.rx 0 1000
 ·have ht:false=t:=by rw [<- h];simp [plB,shB,reB,h3]
  subst ht
  go_enter Tryz.func107,Tryz.ntmps107
  go_wp2_with fail
  with_reducible refine (inRange_q _ _ _ true _ h1).mono ?_
  rintro e w1 ⟨rfl,rfl⟩
  go_wp2_with fail
  with_reducible refine (inRange_q _ _ _ true _ h2).mono ?_
  rintro e w1 ⟨rfl,rfl⟩
  go_wp2_with fail
  with_reducible refine (inRange_q _ _ _ false _ h3).mono ?_
  rintro e w1 ⟨rfl,rfl⟩;go_wp2;go_ret;exact ⟨rfl,(by repeat (first | with_reducible exact Below.refl _ _ | with_reducible assumption | with_reducible refine balloc ?_|(with_reducible refine bset ?_ ?_;rotate_left;((try dsimp only);omega)) | refine bkeep2 ?_ (by assumption) | with_reducible refine Below.drew ?_))⟩
 cases h4:rng p.ry 0 1000
 ·have ht:false=t:=by rw [<- h];simp [plB,shB,reB,h4]
  subst ht
  go_enter Tryz.func107,Tryz.ntmps107
  go_wp2_with fail
  with_reducible refine (inRange_q _ _ _ true _ h1).mono ?_
  rintro e w1 ⟨rfl,rfl⟩
  go_wp2_with fail
  with_reducible refine (inRange_q _ _ _ true _ h2).mono ?_
  rintro e w1 ⟨rfl,rfl⟩
  go_wp2_with fail
  with_reducible refine (inRange_q _ _ _ true _ h3).mono ?_
  rintro e w1 ⟨rfl,rfl⟩
  go_wp2_with fail
  with_reducible refine (inRange_q _ _ _ false _ h4).mono ?_
  rintro e w1 ⟨rfl,rfl⟩;go_wp2;go_ret;exact ⟨rfl,(by repeat (first | with_reducible exact Below.refl _ _ | with_reducible assumption | with_reducible refine balloc ?_|(with_reducible refine bset ?_ ?_;rotate_left;((try dsimp only);omega)) | refine bkeep2 ?_ (by assumption) | with_reducible refine Below.drew ?_))⟩
 cases h5:rng p.ww (-300) 300
 ·have ht:false=t:=by rw [<- h];simp [plB,shB,reB,h5]
  subst ht
  go_enter Tryz.func107,Tryz.ntmps107
  go_wp2_with fail
  with_reducible refine (inRange_q _ _ _ true _ h1).mono ?_
  rintro e w1 ⟨rfl,rfl⟩
  go_wp2_with fail
  with_reducible refine (inRange_q _ _ _ true _ h2).mono ?_
  rintro e w1 ⟨rfl,rfl⟩
  go_wp2_with fail
  with_reducible refine (inRange_q _ _ _ true _ h3).mono ?_
  rintro e w1 ⟨rfl,rfl⟩
  go_wp2_with fail
  with_reducible refine (inRange_q _ _ _ true _ h4).mono ?_
  rintro e w1 ⟨rfl,rfl⟩
  go_wp2_with fail
  with_reducible refine (inRange_q _ _ _ false _ h5).mono ?_
  rintro e w1 ⟨rfl,rfl⟩;go_wp2;go_ret;exact ⟨rfl,(by repeat (first | with_reducible exact Below.refl _ _ | with_reducible assumption | with_reducible refine balloc ?_|(with_reducible refine bset ?_ ?_;rotate_left;((try dsimp only);omega)) | refine bkeep2 ?_ (by assumption) | with_reducible refine Below.drew ?_))⟩
 cases h6:rng p.hh (-300) 300
 ·have ht:false=t:=by rw [<- h];simp [plB,shB,reB,h6]
  subst ht
  go_enter Tryz.func107,Tryz.ntmps107
  go_wp2_with fail
  with_reducible refine (inRange_q _ _ _ true _ h1).mono ?_
  rintro e w1 ⟨rfl,rfl⟩
  go_wp2_with fail
  with_reducible refine (inRange_q _ _ _ true _ h2).mono ?_
  rintro e w1 ⟨rfl,rfl⟩
  go_wp2_with fail
  with_reducible refine (inRange_q _ _ _ true _ h3).mono ?_
  rintro e w1 ⟨rfl,rfl⟩
  go_wp2_with fail
  with_reducible refine (inRange_q _ _ _ true _ h4).mono ?_
  rintro e w1 ⟨rfl,rfl⟩
  go_wp2_with fail
  with_reducible refine (inRange_q _ _ _ true _ h5).mono ?_
  rintro e w1 ⟨rfl,rfl⟩
  go_wp2_with fail
  with_reducible refine (inRange_q _ _ _ false _ h6).mono ?_
  rintro e w1 ⟨rfl,rfl⟩;go_wp2;go_ret;exact ⟨rfl,(by repeat (first | with_reducible exact Below.refl _ _ | with_reducible assumption | with_reducible refine balloc ?_|(with_reducible refine bset ?_ ?_;rotate_left;((try dsimp only);omega)) | refine bkeep2 ?_ (by assumption) | with_reducible refine Below.drew ?_))⟩
 cases h7:rng p.qw 0 1000
 ·have ht:false=t:=by rw [<- h];simp [plB,shB,reB,h7]
  subst ht
  go_enter Tryz.func107,Tryz.ntmps107
  go_wp2_with fail
  with_reducible refine (inRange_q _ _ _ true _ h1).mono ?_
  rintro e w1 ⟨rfl,rfl⟩
  go_wp2_with fail
  with_reducible refine (inRange_q _ _ _ true _ h2).mono ?_
  rintro e w1 ⟨rfl,rfl⟩
  go_wp2_with fail
  with_reducible refine (inRange_q _ _ _ true _ h3).mono ?_
  rintro e w1 ⟨rfl,rfl⟩
  go_wp2_with fail
  with_reducible refine (inRange_q _ _ _ true _ h4).mono ?_
  rintro e w1 ⟨rfl,rfl⟩
  go_wp2_with fail
  with_reducible refine (inRange_q _ _ _ true _ h5).mono ?_
  rintro e w1 ⟨rfl,rfl⟩
  go_wp2_with fail
  with_reducible refine (inRange_q _ _ _ true _ h6).mono ?_
  rintro e w1 ⟨rfl,rfl⟩
  go_wp2_with fail
  with_reducible refine (inRange_q _ _ _ false _ h7).mono ?_
  rintro e w1 ⟨rfl,rfl⟩;go_wp2;go_ret;exact ⟨rfl,(by repeat (first | with_reducible exact Below.refl _ _ | with_reducible assumption | with_reducible refine balloc ?_|(with_reducible refine bset ?_ ?_;rotate_left;((try dsimp only);omega)) | refine bkeep2 ?_ (by assumption) | with_reducible refine Below.drew ?_))⟩
 cases h8:rng p.qh 0 1000
 ·have ht:false=t:=by rw [<- h];simp [plB,shB,reB,h8]
  subst ht
  go_enter Tryz.func107,Tryz.ntmps107
  go_wp2_with fail
  with_reducible refine (inRange_q _ _ _ true _ h1).mono ?_
  rintro e w1 ⟨rfl,rfl⟩
  go_wp2_with fail
  with_reducible refine (inRange_q _ _ _ true _ h2).mono ?_
  rintro e w1 ⟨rfl,rfl⟩
  go_wp2_with fail
  with_reducible refine (inRange_q _ _ _ true _ h3).mono ?_
  rintro e w1 ⟨rfl,rfl⟩
  go_wp2_with fail
  with_reducible refine (inRange_q _ _ _ true _ h4).mono ?_
  rintro e w1 ⟨rfl,rfl⟩
  go_wp2_with fail
  with_reducible refine (inRange_q _ _ _ true _ h5).mono ?_
  rintro e w1 ⟨rfl,rfl⟩
  go_wp2_with fail
  with_reducible refine (inRange_q _ _ _ true _ h6).mono ?_
  rintro e w1 ⟨rfl,rfl⟩
  go_wp2_with fail
  with_reducible refine (inRange_q _ _ _ true _ h7).mono ?_
  rintro e w1 ⟨rfl,rfl⟩
  go_wp2_with fail
  with_reducible refine (inRange_q _ _ _ false _ h8).mono ?_
  rintro e w1 ⟨rfl,rfl⟩;go_wp2;go_ret;exact ⟨rfl,(by repeat (first | with_reducible exact Below.refl _ _ | with_reducible assumption | with_reducible refine balloc ?_|(with_reducible refine bset ?_ ?_;rotate_left;((try dsimp only);omega)) | refine bkeep2 ?_ (by assumption) | with_reducible refine Below.drew ?_))⟩
 have h9:rng p.an 0 8=t:=by rw [<- h];simp [plB,shB,reB,h1,h2,h3,h4,h5,h6,h7,h8]
 go_enter Tryz.func107,Tryz.ntmps107
 go_wp2_with fail
 with_reducible refine (inRange_q _ _ _ true _ h1).mono ?_
 rintro e w1 ⟨rfl,rfl⟩
 go_wp2_with fail
 with_reducible refine (inRange_q _ _ _ true _ h2).mono ?_
 rintro e w1 ⟨rfl,rfl⟩
 go_wp2_with fail
 with_reducible refine (inRange_q _ _ _ true _ h3).mono ?_
 rintro e w1 ⟨rfl,rfl⟩
 go_wp2_with fail
 with_reducible refine (inRange_q _ _ _ true _ h4).mono ?_
 rintro e w1 ⟨rfl,rfl⟩
 go_wp2_with fail
 with_reducible refine (inRange_q _ _ _ true _ h5).mono ?_
 rintro e w1 ⟨rfl,rfl⟩
 go_wp2_with fail
 with_reducible refine (inRange_q _ _ _ true _ h6).mono ?_
 rintro e w1 ⟨rfl,rfl⟩
 go_wp2_with fail
 with_reducible refine (inRange_q _ _ _ true _ h7).mono ?_
 rintro e w1 ⟨rfl,rfl⟩
 go_wp2_with fail
 with_reducible refine (inRange_q _ _ _ true _ h8).mono ?_
 rintro e w1 ⟨rfl,rfl⟩
 go_wp2_with fail
 with_reducible refine (sanch_t _ t _ h9).mono ?_
 rintro e w1 ⟨rfl,rfl⟩;go_wp2;go_ret;exact ⟨rfl,(by repeat (first | with_reducible exact Below.refl _ _ | with_reducible assumption | with_reducible refine balloc ?_|(with_reducible refine bset ?_ ?_;rotate_left;((try dsimp only);omega)) | refine bkeep2 ?_ (by assumption) | with_reducible refine Below.drew ?_))⟩
theorem toPlace_v (p:Plc) (w:World):Calls Tryz.prog 85 #[.agg #[.int .i64 p.x,.int .i64 p.y,.int .i64 p.rx,.int .i64 p.ry,.int .i64 p.ww,.int .i64 p.hh,.int .i64 p.qw,.int .i64 p.qh,.int .i64 p.an]] w fun e w'=>e=.returned (.agg #[.int .i64 p.x,.int .i64 p.y,.int .i64 p.rx,.int .i64 p.ry,.int .i64 p.ww,.int .i64 p.hh,.int .i64 p.qw,.int .i64 p.qh,.int .i64 p.an])∧Below w.heap.size w w':=by
 go_enter Tryz.func85,Tryz.ntmps85
 go_wp2
 exact bodyPost_ret (v:=.agg #[.int .i64 p.x,.int .i64 p.y,.int .i64 p.rx,.int .i64 p.ry,.int .i64 p.ww,.int .i64 p.hh,.int .i64 p.qw,.int .i64 p.qh,.int .i64 p.an]) (by simp only [results,Tryz.results85];go_simp) rfl ⟨rfl,(by repeat (first | with_reducible exact Below.refl _ _ | with_reducible assumption | with_reducible refine balloc ?_|(with_reducible refine bset ?_ ?_;rotate_left;((try dsimp only);omega)) | refine bkeep2 ?_ (by assumption) | with_reducible refine Below.drew ?_))⟩
theorem eqPlace_same (p:Plc) (w:World):Calls Tryz.prog 103 #[.agg #[.int .i64 p.x,.int .i64 p.y,.int .i64 p.rx,.int .i64 p.ry,.int .i64 p.ww,.int .i64 p.hh,.int .i64 p.qw,.int .i64 p.qh,.int .i64 p.an],.agg #[.int .i64 p.x,.int .i64 p.y,.int .i64 p.rx,.int .i64 p.ry,.int .i64 p.ww,.int .i64 p.hh,.int .i64 p.qw,.int .i64 p.qh,.int .i64 p.an]] w fun e w'=>e=.returned (.bool true)∧Below w.heap.size w w':=by
 go_enter Tryz.func103,Tryz.ntmps103
 go_wp2;go_ret;exact ⟨rfl,(by repeat (first | with_reducible exact Below.refl _ _ | with_reducible assumption | with_reducible refine balloc ?_|(with_reducible refine bset ?_ ?_;rotate_left;((try dsimp only);omega)) | refine bkeep2 ?_ (by assumption) | with_reducible refine Below.drew ?_))⟩
theorem wp_genGG {P:Program} {c:Code} {Q:Exit→Act→World→Prop} {a:Act} {W:World} (F:World→Prop) (hF:F W) (h:∀ W0,F W0→c.wp P Q a W0):c.wp P Q a W:=h W hF
theorem bp_genG {P:Program} {f:Func} {R:Ending→World→Prop} {e:Exit} {a:Act} {W:World} (F:World→Prop) (hF:F W) (h:∀ W0,F W0→bodyPost P f R e a W0):bodyPost P f R e a W:=h W hF
end Go.Proofs.YtmmfifgdgbmgjaaGreat
