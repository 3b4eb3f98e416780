import Derived.Test.YtfnpdlnepjhljaaGreatQH01
import Derived.Deep.RegionHeld3
import Derived.Deep.DrawnRows
import Derived.Deep.RegionWith
import Derived.LoopTactic
import Derived.OwnWalk
set_option linter.unusedVariables false
set_option linter.unusedSimpArgs false
set_option maxRecDepth 100000
set_option maxHeartbeats 16000000
namespace Go.Proofs.YtfnpdlnepjhljaaGreat
open Go.RowKit
attribute [local go_sem] kZb kZp kZg
section
attribute [local go_sem 5000] kZk kZj
attribute [local go_sem ↓] Go.wp_at_zero Go.wp_at_succ
theorem dZd {P:Program} {c:Code} {Q:Exit→Act→World→Prop} {a:Act} {W:World} (F:World→Prop) (hF:F W) (h:∀ W0,F W0→c.wp P Q a W0):c.wp P Q a W:=h W hF
theorem jZa {W0 w1 w2:World} (h:Below W0.heap.size W0 w1) (hb:Below w1.heap.size w1 w2):Below W0.heap.size W0 w2:=h.trans (hb.mono h.size)
theorem bkeep {B:Nat} {W0 w1 w2:World} (h:Below B W0 w1) (hb:Below w1.heap.size w1 w2) (hB:B≤w1.heap.size):Below B W0 w2:=h.trans (hb.mono hB)
end
theorem IsRow.bts {w:World} {A:Option Addr} {n c:Nat} {z:List Int} (h:IsRow .u8 w A n c z):Bts w A n∧n≤c∧c≤maxLen:=by
 rcases h with ⟨rfl,rfl,rfl,rfl⟩ | ⟨x,rfl,h1,h2,h3,h4,h5⟩
 ·exact ⟨fun h=>absurd h (by omega),Nat.le_refl _,by unfold maxLen;omega⟩
 ·refine ⟨fun hn=>⟨x,rfl,?_,fun i hi=>?_⟩,h1,h2⟩
  ·have:=h4 0 (by omega)
   have h6:=World.block_lt_of_cell? w _ this
   rwa [rZ5] at h6
  ·have hc:=h4 i (by omega);refine ⟨z.getD i 0,?_,?_,hc⟩
   all_goals
    have hm:z.getD i 0∈z:=by
     rw [List.getD_eq_getElem?_getD,List.getElem?_eq_getElem (by omega)];exact List.getElem_mem _
    have h6:=h5 _ hm
    have g1:IntKind.u8.min=0:=by decide
    have g2:IntKind.u8.max=255:=by decide
    generalize z.getD i 0=y at *
    simp [Lit.wf,g1,g2] at h6
    omega
structure Pk where
 w:Int
 h:Int
 s:Int
 fx:Bool
 fy:Bool
 ex:Bool
 an:Int
 px:Int
 py:Int
def vpB (w h s an px py:Int):Bool:=rng w 0 30&&(rng h 0 30&&(rng s 0 3&&(rng an 0 8&&(rng px 0 10&&rng py 0 10))))
theorem vpB_iff {w h s an px py:Int}:vpB w h s an px py=true↔((0≤w∧w≤30)∧(0≤h∧h≤30)∧(0≤s∧s≤3)∧(0≤an∧an≤8)∧(0≤px∧px≤10)∧(0≤py∧py≤10)):=by
 simp only [vpB,Bool.and_eq_true,pZa]
theorem vp_n1 {w h s an px py:Int} (h1:rng w 0 30=false):vpB w h s an px py=false:=by simp [vpB,h1]
theorem vp_n2 {w h s an px py:Int} (h1:rng h 0 30=false):vpB w h s an px py=false:=by simp [vpB,h1]
theorem vp_n3 {w h s an px py:Int} (h1:rng s 0 3=false):vpB w h s an px py=false:=by simp [vpB,h1]
theorem vp_n4 {w h s an px py:Int} (h1:rng an 0 8=false):vpB w h s an px py=false:=by simp [vpB,h1]
theorem vp_n5 {w h s an px py:Int} (h1:rng px 0 10=false):vpB w h s an px py=false:=by simp [vpB,h1]
theorem vp_n6 {w h s an px py:Int} (h1:rng w 0 30=true) (h2:rng h 0 30=true) (h3:rng s 0 3=true) (h4:rng an 0 8=true) (h5:rng px 0 10=true):vpB w h s an px py=rng py 0 10:=by simp [vpB,h1,h2,h3,h4,h5]
theorem qZj (k:Int) (w:World):Calls Tryz.prog 159 #[.int .i64 k] w fun e w'=>e=.returned (.bool (rng k 0 3))∧w=w':=by
 go_enter Tryz.func159,Tryz.ntmps159
 go_wp2_with (go_at_call 94;refine (pZe _ _ _ _).mono ?_;rintro e w' ⟨rfl,rfl⟩)
 go_ret;exact ⟨jZ8 rfl,rfl⟩
theorem pZ5 (k:Int) (w:World):Calls Tryz.prog 160 #[.int .i64 k] w fun e w'=>e=.returned (.bool (rng k 0 8))∧w=w':=by
 go_enter Tryz.func160,Tryz.ntmps160
 go_wp2_with (go_at_call 94;refine (pZe _ _ _ _).mono ?_;rintro e w' ⟨rfl,rfl⟩)
 go_ret;exact ⟨jZ8 rfl,rfl⟩
theorem pZs (k:Int) (w:World):Calls Tryz.prog 166 #[.int .i64 k] w fun e w'=>e=.returned (.bool (rng k 0 3))∧w=w':=by
 go_enter Tryz.func166,Tryz.ntmps166
 go_wp2_with (go_at_call 79;refine (kZ3 _ _ _ _).mono ?_;rintro e w' ⟨rfl,rfl⟩)
 go_ret;exact ⟨jZ8 rfl,rfl⟩
theorem pZd (k:Int) (w:World):Calls Tryz.prog 167 #[.int .i64 k] w fun e w'=>e=.returned (.bool (rng k 0 8))∧w=w':=by
 go_enter Tryz.func167,Tryz.ntmps167
 go_wp2_with (go_at_call 79;refine (kZ3 _ _ _ _).mono ?_;rintro e w' ⟨rfl,rfl⟩)
 go_ret;exact ⟨jZ8 rfl,rfl⟩
theorem vp_n12 {w h s an px py:Int} (h1:(rng w 0 30&&rng h 0 30)=false):vpB w h s an px py=false:=by
 cases a:rng w 0 30 <;> cases b:rng h 0 30 <;> simp [vpB,a,b] at h1 ⊢
theorem eZc (w0 h0 s:Int) (fx fy ex:Bool) (an px py:Int) (w:World):Calls Tryz.prog 124 #[.agg #[.int .i64 w0,.int .i64 h0,.int .i64 s,.bool fx,.bool fy,.bool ex,.int .i64 an,.int .i64 px,.int .i64 py]] w fun e w'=>e=.returned (.bool (vpB w0 h0 s an px py))∧Below w.heap.size w w':=by
 cases hw:(rng w0 0 30&&rng h0 0 30)
 ·go_enter Tryz.func124,Tryz.ntmps124
  go_wp2_with (first|(go_at_call 103;refine (kZm _ _ _ _ hw).mono ?_;rintro e w' ⟨rfl,rfl⟩)|(go_at_call 94;refine (pZe _ _ _ _).mono ?_;rintro e w' ⟨rfl,rfl⟩)|(go_at_call 159;refine (qZj _ _).mono ?_;rintro e w' ⟨rfl,rfl⟩)|(go_at_call 160;refine (pZ5 _ _).mono ?_;rintro e w' ⟨rfl,rfl⟩))
  go_ret;exact ⟨jZ8 (by rw [vp_n12 hw]),(Below.refl _ _).alloc (Nat.le_refl _) _⟩
 have h1:rng w0 0 30=true:=(Bool.and_eq_true _ _ ▸ hw).1;have h2:rng h0 0 30=true:=(Bool.and_eq_true _ _ ▸ hw).2
 cases h3:rng s 0 3
 ·go_enter Tryz.func124,Tryz.ntmps124
  go_wp2_with (first|(go_at_call 103;refine (kZm _ _ _ _ hw).mono ?_;rintro e w' ⟨rfl,rfl⟩)|(go_at_call 94;refine (pZe _ _ _ _).mono ?_;rintro e w' ⟨rfl,rfl⟩)|(go_at_call 159;refine (qZj _ _).mono ?_;rintro e w' ⟨rfl,rfl⟩)|(go_at_call 160;refine (pZ5 _ _).mono ?_;rintro e w' ⟨rfl,rfl⟩))
  go_ret;exact ⟨jZ8 (by rw [vp_n3 h3]),(Below.refl _ _).alloc (Nat.le_refl _) _⟩
 cases h4:rng an 0 8
 ·go_enter Tryz.func124,Tryz.ntmps124
  go_wp2_with (first|(go_at_call 103;refine (kZm _ _ _ _ hw).mono ?_;rintro e w' ⟨rfl,rfl⟩)|(go_at_call 94;refine (pZe _ _ _ _).mono ?_;rintro e w' ⟨rfl,rfl⟩)|(go_at_call 159;refine (qZj _ _).mono ?_;rintro e w' ⟨rfl,rfl⟩)|(go_at_call 160;refine (pZ5 _ _).mono ?_;rintro e w' ⟨rfl,rfl⟩))
  go_ret;exact ⟨jZ8 (by rw [vp_n4 h4]),(Below.refl _ _).alloc (Nat.le_refl _) _⟩
 cases h5:rng px 0 10
 ·go_enter Tryz.func124,Tryz.ntmps124
  go_wp2_with (first|(go_at_call 103;refine (kZm _ _ _ _ hw).mono ?_;rintro e w' ⟨rfl,rfl⟩)|(go_at_call 94;refine (pZe _ _ _ _).mono ?_;rintro e w' ⟨rfl,rfl⟩)|(go_at_call 159;refine (qZj _ _).mono ?_;rintro e w' ⟨rfl,rfl⟩)|(go_at_call 160;refine (pZ5 _ _).mono ?_;rintro e w' ⟨rfl,rfl⟩))
  go_ret;exact ⟨jZ8 (by rw [vp_n5 h5]),(Below.refl _ _).alloc (Nat.le_refl _) _⟩
 go_enter Tryz.func124,Tryz.ntmps124
 go_wp2_with (first|(go_at_call 103;refine (kZm _ _ _ _ hw).mono ?_;rintro e w' ⟨rfl,rfl⟩)|(go_at_call 94;refine (pZe _ _ _ _).mono ?_;rintro e w' ⟨rfl,rfl⟩)|(go_at_call 159;refine (qZj _ _).mono ?_;rintro e w' ⟨rfl,rfl⟩)|(go_at_call 160;refine (pZ5 _ _).mono ?_;rintro e w' ⟨rfl,rfl⟩))
 go_ret;exact ⟨jZ8 (by rw [vp_n6 h1 h2 h3 h4 h5]),(Below.refl _ _).alloc (Nat.le_refl _) _⟩
theorem vZo (w0 h0 s:Int) (fx fy ex:Bool) (an px py:Int) (w:World):Calls Tryz.prog 136 #[.agg #[.int .i64 w0,.int .i64 h0,.int .i64 s,.bool fx,.bool fy,.bool ex,.int .i64 an,.int .i64 px,.int .i64 py]] w fun e w'=>e=.returned (.bool (vpB w0 h0 s an px py))∧Below w.heap.size w w':=by
 cases h1:rng w0 0 30
 ·go_enter Tryz.func136,Tryz.ntmps136
  go_wp2_with (first|(go_at_call 79;refine (kZ3 _ _ _ _).mono ?_;rintro e w' ⟨rfl,rfl⟩)|(go_at_call 166;refine (pZs _ _).mono ?_;rintro e w' ⟨rfl,rfl⟩)|(go_at_call 167;refine (pZd _ _).mono ?_;rintro e w' ⟨rfl,rfl⟩))
  go_ret;exact ⟨jZ8 (by rw [vp_n1 h1]),(Below.refl _ _).alloc (Nat.le_refl _) _⟩
 cases h2:rng h0 0 30
 ·go_enter Tryz.func136,Tryz.ntmps136
  go_wp2_with (first|(go_at_call 79;refine (kZ3 _ _ _ _).mono ?_;rintro e w' ⟨rfl,rfl⟩)|(go_at_call 166;refine (pZs _ _).mono ?_;rintro e w' ⟨rfl,rfl⟩)|(go_at_call 167;refine (pZd _ _).mono ?_;rintro e w' ⟨rfl,rfl⟩))
  go_ret;exact ⟨jZ8 (by rw [vp_n2 h2]),(Below.refl _ _).alloc (Nat.le_refl _) _⟩
 cases h3:rng s 0 3
 ·go_enter Tryz.func136,Tryz.ntmps136
  go_wp2_with (first|(go_at_call 79;refine (kZ3 _ _ _ _).mono ?_;rintro e w' ⟨rfl,rfl⟩)|(go_at_call 166;refine (pZs _ _).mono ?_;rintro e w' ⟨rfl,rfl⟩)|(go_at_call 167;refine (pZd _ _).mono ?_;rintro e w' ⟨rfl,rfl⟩))
  go_ret;exact ⟨jZ8 (by rw [vp_n3 h3]),(Below.refl _ _).alloc (Nat.le_refl _) _⟩
 cases h4:rng an 0 8
 ·go_enter Tryz.func136,Tryz.ntmps136
  go_wp2_with (first|(go_at_call 79;refine (kZ3 _ _ _ _).mono ?_;rintro e w' ⟨rfl,rfl⟩)|(go_at_call 166;refine (pZs _ _).mono ?_;rintro e w' ⟨rfl,rfl⟩)|(go_at_call 167;refine (pZd _ _).mono ?_;rintro e w' ⟨rfl,rfl⟩))
  go_ret;exact ⟨jZ8 (by rw [vp_n4 h4]),(Below.refl _ _).alloc (Nat.le_refl _) _⟩
 cases h5:rng px 0 10
 ·go_enter Tryz.func136,Tryz.ntmps136
  go_wp2_with (first|(go_at_call 79;refine (kZ3 _ _ _ _).mono ?_;rintro e w' ⟨rfl,rfl⟩)|(go_at_call 166;refine (pZs _ _).mono ?_;rintro e w' ⟨rfl,rfl⟩)|(go_at_call 167;refine (pZd _ _).mono ?_;rintro e w' ⟨rfl,rfl⟩))
  go_ret;exact ⟨jZ8 (by rw [vp_n5 h5]),(Below.refl _ _).alloc (Nat.le_refl _) _⟩
 go_enter Tryz.func136,Tryz.ntmps136
 go_wp2_with (first|(go_at_call 79;refine (kZ3 _ _ _ _).mono ?_;rintro e w' ⟨rfl,rfl⟩)|(go_at_call 166;refine (pZs _ _).mono ?_;rintro e w' ⟨rfl,rfl⟩)|(go_at_call 167;refine (pZd _ _).mono ?_;rintro e w' ⟨rfl,rfl⟩))
 go_ret;exact ⟨jZ8 (by rw [vp_n6 h1 h2 h3 h4 h5]),(Below.refl _ _).alloc (Nat.le_refl _) _⟩
theorem qZi {w:World} {b:Nat} {cs:Array Value} {T:TypeId} {fz:Nat × Nat} (h:w.heap[b]?=some (.cells cs T fz)) (i:Nat):w.cell? ⟨b,i,none⟩=cs[i]?:=by simp [World.cell?,h]
theorem pZo (w:World) (o:Obj):(w.alloc o).heap[w.heap.size]?=some o:=by
 show (w.heap.push o)[w.heap.size]?=some o
 simp
theorem b9c {w:World} {b:Nat} {a0 a1 a2 a3 a4 a5 a6 a7 a8:Value} {T:TypeId} {fz:Nat × Nat} (h:w.heap[b]?=some (.cells #[a0,a1,a2,a3,a4,a5,a6,a7,a8] T fz)) :
  w.cell? ⟨b,0,none⟩=some a0∧w.cell? ⟨b,1,none⟩=some a1∧w.cell? ⟨b,2,none⟩=some a2∧w.cell? ⟨b,3,none⟩=some a3∧w.cell? ⟨b,4,none⟩=some a4∧w.cell? ⟨b,5,none⟩=some a5∧w.cell? ⟨b,6,none⟩=some a6∧w.cell? ⟨b,7,none⟩=some a7∧w.cell? ⟨b,8,none⟩=some a8 :=
 ⟨qZi h 0,qZi h 1,qZi h 2,qZi h 3,qZi h 4,qZi h 5,qZi h 6,qZi h 7,qZi h 8⟩
theorem Bts.alloc' {w:World} {A:Option Addr} {n:Nat} (h:Bts w A n) (o:Obj):Bts (w.alloc o) A n:=h.alloc o
theorem put9h {w:World} {b:Nat} {a0 a1 a2 a3 a4 a5 a6 a7 a8:Value} {T:TypeId} {fz:Nat × Nat} (h:w.heap[b]?=some (.cells #[a0,a1,a2,a3,a4,a5,a6,a7,a8] T fz)) (x0 x1 x2 x3 x4 x5 x6 x7 x8:Value) :
  (((((((((w.setCell ⟨b,0,none⟩ x0).setCell ⟨b,1,none⟩ x1).setCell ⟨b,2,none⟩ x2).setCell ⟨b,3,none⟩ x3).setCell ⟨b,4,none⟩ x4).setCell ⟨b,5,none⟩ x5).setCell ⟨b,6,none⟩ x6).setCell ⟨b,7,none⟩ x7).setCell ⟨b,8,none⟩ x8).heap[b]?=some (.cells #[x0,x1,x2,x3,x4,x5,x6,x7,x8] T fz):=by
 replace h:=uZq (i:=0) h x0;simp only [List.setIfInBounds_toArray,List.set_cons_zero] at h;replace h:=uZq (i:=1) h x1;simp only [List.setIfInBounds_toArray,List.set_cons_succ,List.set_cons_zero] at h;replace h:=uZq (i:=2) h x2;simp only [List.setIfInBounds_toArray,List.set_cons_succ,List.set_cons_zero] at h;replace h:=uZq (i:=3) h x3
 simp only [List.setIfInBounds_toArray,List.set_cons_succ,List.set_cons_zero] at h;replace h:=uZq (i:=4) h x4;simp only [List.setIfInBounds_toArray,List.set_cons_succ,List.set_cons_zero] at h;replace h:=uZq (i:=5) h x5;simp only [List.setIfInBounds_toArray,List.set_cons_succ,List.set_cons_zero] at h;replace h:=uZq (i:=6) h x6
 simp only [List.setIfInBounds_toArray,List.set_cons_succ,List.set_cons_zero] at h;replace h:=uZq (i:=7) h x7;simp only [List.setIfInBounds_toArray,List.set_cons_succ,List.set_cons_zero] at h;replace h:=uZq (i:=8) h x8;simp only [List.setIfInBounds_toArray,List.set_cons_succ,List.set_cons_zero] at h;exact h
theorem put9c {S:List Nat} {a w:World} {b:Nat} (h:Chg S a w) (hb:b∈S∨a.heap.size≤b) (x0 x1 x2 x3 x4 x5 x6 x7 x8:Value):Chg S a (((((((((w.setCell ⟨b,0,none⟩ x0).setCell ⟨b,1,none⟩ x1).setCell ⟨b,2,none⟩ x2).setCell ⟨b,3,none⟩ x3).setCell ⟨b,4,none⟩ x4).setCell ⟨b,5,none⟩ x5).setCell ⟨b,6,none⟩ x6).setCell ⟨b,7,none⟩ x7).setCell ⟨b,8,none⟩ x8) :=
 ((((((((h.setCell hb _).setCell hb _).setCell hb _).setCell hb _).setCell hb _).setCell hb _).setCell hb _).setCell hb _).setCell hb _
theorem put9r {B rb b:Nat} {A:Option Addr} {n c m:Nat} {w:World} (h:Rd B rb A n c m w) (h1:B≤b) (h2:b≠rb) (x0 x1 x2 x3 x4 x5 x6 x7 x8:Value):Rd B rb A n c m (((((((((w.setCell ⟨b,0,none⟩ x0).setCell ⟨b,1,none⟩ x1).setCell ⟨b,2,none⟩ x2).setCell ⟨b,3,none⟩ x3).setCell ⟨b,4,none⟩ x4).setCell ⟨b,5,none⟩ x5).setCell ⟨b,6,none⟩ x6).setCell ⟨b,7,none⟩ x7).setCell ⟨b,8,none⟩ x8) :=
 ((((((((h.setCell h1 h2 _).setCell h1 h2 _).setCell h1 h2 _).setCell h1 h2 _).setCell h1 h2 _).setCell h1 h2 _).setCell h1 h2 _).setCell h1 h2 _).setCell h1 h2 _
theorem b9f {w:World} {b:Nat} {cs:Array Value} {T:TypeId} (h:w.heap[b]?=some (.cells cs T (0,0))):w.frozen? ⟨b,0,none⟩=false∧w.frozen? ⟨b,1,none⟩=false∧w.frozen? ⟨b,2,none⟩=false∧w.frozen? ⟨b,3,none⟩=false∧w.frozen? ⟨b,4,none⟩=false∧w.frozen? ⟨b,5,none⟩=false∧w.frozen? ⟨b,6,none⟩=false∧w.frozen? ⟨b,7,none⟩=false∧w.frozen? ⟨b,8,none⟩=false :=
 ⟨jZ6 h 0,jZ6 h 1,jZ6 h 2,jZ6 h 3,jZ6 h 4,jZ6 h 5,jZ6 h 6,jZ6 h 7,jZ6 h 8⟩
theorem fZy {B rb:Nat} {A:Option Addr} {l c m:Nat} (w:World) (h:Rd B rb A l c m w) (hm:m≤900000) :
  Calls Tryz.prog 146 #[.pointer (some ⟨rb,0,none⟩)] w fun e w'=>(∃ (w0 h0 s:Int) (fx fy ex:Bool) (an px py:Int),e=.returned (.agg #[.int .i64 w0,.int .i64 h0,.int .i64 s,.bool fx,.bool fy,.bool ex,.int .i64 an,.int .i64 px,.int .i64 py]))∧Rd B rb A l c (m+20) w'∧Chg [rb] w w':=by
 have hlt:=h.lt;have hbase:=h.base
 go_enter Tryz.func146,Tryz.ntmps146
 go_wp2_with fail
 with_reducible refine (kZe _ _ (h.alloc _) (by omega)).mono ?_
 rintro e w1 ⟨⟨z1,rfl,-⟩,hr1,hc1⟩
 go_wp2_with fail
 with_reducible refine (qZ9 _ hr1 (by omega) (by simp) (by omega) (by omega) (by simp [isI])).mono ?_
 rintro e w2 ⟨⟨z2,rfl⟩,hr2,hc2⟩
 go_wp2_with fail
 with_reducible refine (kZe _ _ hr2 (by omega)).mono ?_
 rintro e w3 ⟨⟨z3,rfl,-⟩,hr3,hc3⟩
 go_wp2_with fail
 with_reducible refine (qZ9 _ hr3 (by omega) (by simp) (by omega) (by omega) (by simp [isI])).mono ?_
 rintro e w4 ⟨⟨z4,rfl⟩,hr4,hc4⟩
 go_wp2_with fail
 with_reducible refine (kZe _ _ hr4 (by omega)).mono ?_
 rintro e w5 ⟨⟨z5,rfl,-⟩,hr5,hc5⟩
 go_wp2_with fail
 with_reducible refine (kZe _ _ hr5 (by omega)).mono ?_
 rintro e w6 ⟨⟨z6,rfl,-⟩,hr6,hc6⟩
 go_wp2_with fail
 with_reducible refine (qZ9 _ hr6 (by omega) (by simp) (by omega) (by omega) (by simp [isI])).mono ?_
 rintro e w7 ⟨⟨z7,rfl⟩,hr7,hc7⟩;have hc:Chg [rb] (w.alloc _) w7:=((((((hc1).trans hc2).trans hc3).trans hc4).trans hc5).trans hc6).trans hc7;clear hc1 hc2 hc3 hc4 hc5 hc6 hc7 hr1 hr2 hr3 hr4 hr5 hr6;have hb0:=(hc.block w.heap.size (by simp) (by simp;omega)).trans (heap_alloc_new w _);have hs:=hc.size;simp only [World.size_alloc] at hs;have HC:=hD (((Chg.refl [rb] w).alloc _).trans hc)
 have hl7:=hr7.lt;have hx0:=Nat.lt_of_succ_le hs
 have hn0:w.heap.size≠rb:=by omega
 have hB0:B≤w.heap.size:=by omega
 have hn1:w7.heap.size≠rb:=by omega
 have hB1:B≤w7.heap.size:=by omega
 have hn01:w.heap.size≠w7.heap.size:=by omega
 have hn10:¬ w7.heap.size=w.heap.size:=by omega
 have hw1:w.heap.size≤w7.heap.size:=by omega
 clear hc hlt hbase hs hl7;have hb1:=heap_alloc_new w7 (.cells #[.int .i64 z2,.int .i64 z4,.int .i64 z5,.bool false,.bool false,.bool false,.int .i64 z7,.int .i64 0,.int .i64 0] 37);replace hb0:=(Below.heap_alloc w7 (.cells #[.int .i64 z2,.int .i64 z4,.int .i64 z5,.bool false,.bool false,.bool false,.int .i64 z7,.int .i64 0,.int .i64 0] 37) w.heap.size hx0).trans hb0;have HB0:=hD hb0
 have HB1:=hD hb1;replace HC:=hD (HC.out.alloc (.cells #[.int .i64 z2,.int .i64 z4,.int .i64 z5,.bool false,.bool false,.bool false,.int .i64 z7,.int .i64 0,.int .i64 0] 37));have HR:=hD (hr7.alloc (.cells #[.int .i64 z2,.int .i64 z4,.int .i64 z5,.bool false,.bool false,.bool false,.int .i64 z7,.int .i64 0,.int .i64 0] 37));clear hb0 hb1 hr7
 have hz0:w.heap.size<(w7.alloc (.cells #[.int .i64 z2,.int .i64 z4,.int .i64 z5,.bool false,.bool false,.bool false,.int .i64 z7,.int .i64 0,.int .i64 0] 37)).heap.size:=by simp;omega
 have hz1:w7.heap.size<(w7.alloc (.cells #[.int .i64 z2,.int .i64 z4,.int .i64 z5,.bool false,.bool false,.bool false,.int .i64 z7,.int .i64 0,.int .i64 0] 37)).heap.size:=by simp
 have HZ0:=hD hz0;have HZ1:=hD hz1;clear hz0 hz1
 go_wp2_with fail
 with_reducible refine (kZe _ _ HR.out (by omega)).mono ?_
 rintro e w8 ⟨⟨z8,rfl,-⟩,hr8,hc8⟩;have h0:=(hc8.block _ HZ0.out (by simpa using hn0)).trans HB0.out;have h1:=(hc8.block _ HZ1.out (by simpa using hn1)).trans HB1.out;have c3:=qZi h1 3;have f3:=jZ6 h1 3
 simp at c3
 replace HB0:=hD ((Below.heap_setCell w8 ⟨w7.heap.size,3,none⟩ (.bool (z8 == 0)) _ hn01).trans h0);have hp1:=uZq (i:=3) h1 (.bool (z8 == 0));simp only [List.setIfInBounds_toArray,List.set_cons_succ,List.set_cons_zero] at hp1;replace HB1:=hD hp1;replace HC:=hD ((HC.out.trans hc8).setCell (p:=⟨w7.heap.size,3,none⟩) (.inr hw1) (.bool (z8 == 0)))
 replace HR:=hD (hr8.setCell (p:=⟨w7.heap.size,3,none⟩) hB1 hn1 (.bool (z8 == 0)));replace HZ0:=hD (show w.heap.size<(w8.setCell ⟨w7.heap.size,3,none⟩ (.bool (z8 == 0))).heap.size from by simpa [World.setCell] using Nat.lt_of_lt_of_le HZ0.out hc8.size)
 replace HZ1:=hD (show w7.heap.size<(w8.setCell ⟨w7.heap.size,3,none⟩ (.bool (z8 == 0))).heap.size from by simpa [World.setCell] using Nat.lt_of_lt_of_le HZ1.out hc8.size);clear h0 h1 hr8 hc8 hp1
 go_wp2_with fail
 with_reducible refine (kZe _ _ HR.out (by omega)).mono ?_
 rintro e w9 ⟨⟨z9,rfl,-⟩,hr9,hc9⟩;clear c3 f3;have h0:=(hc9.block _ HZ0.out (by simpa using hn0)).trans HB0.out;have h1:=(hc9.block _ HZ1.out (by simpa using hn1)).trans HB1.out;have c4:=qZi h1 4;have f4:=jZ6 h1 4
 simp at c4
 replace HB0:=hD ((Below.heap_setCell w9 ⟨w7.heap.size,4,none⟩ (.bool (z9 == 0)) _ hn01).trans h0);have hp1:=uZq (i:=4) h1 (.bool (z9 == 0));simp only [List.setIfInBounds_toArray,List.set_cons_succ,List.set_cons_zero] at hp1;replace HB1:=hD hp1;replace HC:=hD ((HC.out.trans hc9).setCell (p:=⟨w7.heap.size,4,none⟩) (.inr hw1) (.bool (z9 == 0)))
 replace HR:=hD (hr9.setCell (p:=⟨w7.heap.size,4,none⟩) hB1 hn1 (.bool (z9 == 0)));replace HZ0:=hD (show w.heap.size<(w9.setCell ⟨w7.heap.size,4,none⟩ (.bool (z9 == 0))).heap.size from by simpa [World.setCell] using Nat.lt_of_lt_of_le HZ0.out hc9.size)
 replace HZ1:=hD (show w7.heap.size<(w9.setCell ⟨w7.heap.size,4,none⟩ (.bool (z9 == 0))).heap.size from by simpa [World.setCell] using Nat.lt_of_lt_of_le HZ1.out hc9.size);clear h0 h1 hr9 hc9 hp1
 go_wp2_with fail
 with_reducible refine (kZe _ _ HR.out (by omega)).mono ?_
 rintro e w10 ⟨⟨z10,rfl,-⟩,hr10,hc10⟩;clear c4 f4;have h0:=(hc10.block _ HZ0.out (by simpa using hn0)).trans HB0.out;have h1:=(hc10.block _ HZ1.out (by simpa using hn1)).trans HB1.out;have c5:=qZi h1 5;have f5:=jZ6 h1 5
 simp at c5
 replace HB0:=hD ((Below.heap_setCell w10 ⟨w7.heap.size,5,none⟩ (.bool (z10 == 0)) _ hn01).trans h0);have hp1:=uZq (i:=5) h1 (.bool (z10 == 0));simp only [List.setIfInBounds_toArray,List.set_cons_succ,List.set_cons_zero] at hp1;replace HB1:=hD hp1;replace HC:=hD ((HC.out.trans hc10).setCell (p:=⟨w7.heap.size,5,none⟩) (.inr hw1) (.bool (z10 == 0)))
 replace HR:=hD (hr10.setCell (p:=⟨w7.heap.size,5,none⟩) hB1 hn1 (.bool (z10 == 0)));replace HZ0:=hD (show w.heap.size<(w10.setCell ⟨w7.heap.size,5,none⟩ (.bool (z10 == 0))).heap.size from by simpa [World.setCell] using Nat.lt_of_lt_of_le HZ0.out hc10.size)
 replace HZ1:=hD (show w7.heap.size<(w10.setCell ⟨w7.heap.size,5,none⟩ (.bool (z10 == 0))).heap.size from by simpa [World.setCell] using Nat.lt_of_lt_of_le HZ1.out hc10.size);clear h0 h1 hr10 hc10 hp1
 go_wp2_with fail
 with_reducible refine (kZe _ _ HR.out (by omega)).mono ?_
 rintro e w11 ⟨⟨q,rfl,-⟩,hr11,hc11⟩;clear c5 f5;replace HB0:=hD ((hc11.block _ HZ0.out (by simpa using hn0)).trans HB0.out);replace HB1:=hD ((hc11.block _ HZ1.out (by simpa using hn1)).trans HB1.out);replace HC:=hD (HC.out.trans hc11);replace HR:=hD hr11;replace HZ0:=hD (Nat.lt_of_lt_of_le HZ0.out hc11.size);replace HZ1:=hD (Nat.lt_of_lt_of_le HZ1.out hc11.size);clear hr11 hc11
 by_cases hq:q=0
 ·subst hq
  go_wp2_with fail
  with_reducible refine (kZe _ _ HR.out (by omega)).mono ?_
  rintro e w12 ⟨⟨z12,rfl,-⟩,hr12,hc12⟩;have h0:=(hc12.block _ HZ0.out (by simpa using hn0)).trans HB0.out;have h1:=(hc12.block _ HZ1.out (by simpa using hn1)).trans HB1.out;have c7:=qZi h1 7;have f7:=jZ6 h1 7
  simp at c7
  replace HB0:=hD ((Below.heap_setCell w12 ⟨w7.heap.size,7,none⟩ (.int .i64 z12) _ hn01).trans h0);have hp1:=uZq (i:=7) h1 (.int .i64 z12);simp only [List.setIfInBounds_toArray,List.set_cons_succ,List.set_cons_zero] at hp1;replace HB1:=hD hp1;replace HC:=hD ((HC.out.trans hc12).setCell (p:=⟨w7.heap.size,7,none⟩) (.inr hw1) (.int .i64 z12))
  replace HR:=hD (hr12.setCell (p:=⟨w7.heap.size,7,none⟩) hB1 hn1 (.int .i64 z12));replace HZ0:=hD (show w.heap.size<(w12.setCell ⟨w7.heap.size,7,none⟩ (.int .i64 z12)).heap.size from by simpa [World.setCell] using Nat.lt_of_lt_of_le HZ0.out hc12.size)
  replace HZ1:=hD (show w7.heap.size<(w12.setCell ⟨w7.heap.size,7,none⟩ (.int .i64 z12)).heap.size from by simpa [World.setCell] using Nat.lt_of_lt_of_le HZ1.out hc12.size);clear h0 h1 hr12 hc12 hp1
  go_wp2_with fail
  with_reducible refine (kZe _ _ HR.out (by omega)).mono ?_
  rintro e w13 ⟨⟨z13,rfl,-⟩,hr13,hc13⟩;clear c7 f7;have h0:=(hc13.block _ HZ0.out (by simpa using hn0)).trans HB0.out;have h1:=(hc13.block _ HZ1.out (by simpa using hn1)).trans HB1.out;have c8:=qZi h1 8;have f8:=jZ6 h1 8
  simp at c8
  replace HB0:=hD ((Below.heap_setCell w13 ⟨w7.heap.size,8,none⟩ (.int .i64 z13) _ hn01).trans h0);have hp1:=uZq (i:=8) h1 (.int .i64 z13);simp only [List.setIfInBounds_toArray,List.set_cons_succ,List.set_cons_zero] at hp1;replace HB1:=hD hp1;replace HC:=hD ((HC.out.trans hc13).setCell (p:=⟨w7.heap.size,8,none⟩) (.inr hw1) (.int .i64 z13))
  replace HR:=hD (hr13.setCell (p:=⟨w7.heap.size,8,none⟩) hB1 hn1 (.int .i64 z13));replace HZ0:=hD (show w.heap.size<(w13.setCell ⟨w7.heap.size,8,none⟩ (.int .i64 z13)).heap.size from by simpa [World.setCell] using Nat.lt_of_lt_of_le HZ0.out hc13.size)
  replace HZ1:=hD (show w7.heap.size<(w13.setCell ⟨w7.heap.size,8,none⟩ (.int .i64 z13)).heap.size from by simpa [World.setCell] using Nat.lt_of_lt_of_le HZ1.out hc13.size);clear h0 h1 hr13 hc13 hp1;have h0:=HB0.out;have h1:=HB1.out;obtain ⟨c0,c1,c2,c3,c4,c5,c6,c7,c8⟩:=b9c h1;obtain ⟨d0,d1,d2,d3,d4,d5,d6,d7,d8⟩:=b9c h0;obtain ⟨f0,f1,f2,f3,f4,f5,f6,f7,f8⟩:=b9f h0;clear h0 h1;go_wp2
  refine bp_gen (fun W=>W.heap[w.heap.size]?=some (.cells #[.int .i64 z2,.int .i64 z4,.int .i64 z5,.bool (z8 == 0),.bool (z9 == 0),.bool (z10 == 0),.int .i64 z7,.int .i64 z12,.int .i64 z13] 37)∧Rd B rb A l c (m+20) W∧Chg [rb] w W) ⟨put9h HB0.out (.int .i64 z2) (.int .i64 z4) (.int .i64 z5) (.bool (z8 == 0)) (.bool (z9 == 0)) (.bool (z10 == 0)) (.int .i64 z7) (.int .i64 z12) (.int .i64 z13),put9r (HR.out.mono (by omega)) hB0 hn0 (.int .i64 z2) (.int .i64 z4) (.int .i64 z5) (.bool (z8 == 0)) (.bool (z9 == 0)) (.bool (z10 == 0)) (.int .i64 z7) (.int .i64 z12) (.int .i64 z13),put9c HC.out (.inr (Nat.le_refl _)) (.int .i64 z2) (.int .i64 z4) (.int .i64 z5) (.bool (z8 == 0)) (.bool (z9 == 0)) (.bool (z10 == 0)) (.int .i64 z7) (.int .i64 z12) (.int .i64 z13)⟩ ?_
  clear HB0 HB1 HC HR c0 c1 c2 c3 c4 c5 c6 c7 c8 d0 d1 d2 d3 d4 d5 d6 d7 d8 f0 f1 f2 f3 f4 f5 f6 f7 f8;rintro W ⟨h0,hR,hC⟩;obtain ⟨d0,d1,d2,d3,d4,d5,d6,d7,d8⟩:=b9c h0
  exact bodyPost_ret (v:=.agg #[.int .i64 z2,.int .i64 z4,.int .i64 z5,.bool (z8 == 0),.bool (z9 == 0),.bool (z10 == 0),.int .i64 z7,.int .i64 z12,.int .i64 z13]) (by simp only [results,Tryz.results146];go_simp) rfl ⟨⟨_,_,_,_,_,_,_,_,_,rfl⟩,hR,hC⟩
 ·have hq1:(q == 0)=false:=by simpa using hq
  have h0:=HB0.out;have h1:=HB1.out;obtain ⟨c0,c1,c2,c3,c4,c5,c6,c7,c8⟩:=b9c h1;obtain ⟨d0,d1,d2,d3,d4,d5,d6,d7,d8⟩:=b9c h0;obtain ⟨f0,f1,f2,f3,f4,f5,f6,f7,f8⟩:=b9f h0;clear h0 h1;go_wp2
  refine bp_gen (fun W=>W.heap[w.heap.size]?=some (.cells #[.int .i64 z2,.int .i64 z4,.int .i64 z5,.bool (z8 == 0),.bool (z9 == 0),.bool (z10 == 0),.int .i64 z7,.int .i64 0,.int .i64 0] 37)∧Rd B rb A l c (m+20) W∧Chg [rb] w W) ⟨put9h HB0.out (.int .i64 z2) (.int .i64 z4) (.int .i64 z5) (.bool (z8 == 0)) (.bool (z9 == 0)) (.bool (z10 == 0)) (.int .i64 z7) (.int .i64 0) (.int .i64 0),put9r (HR.out.mono (by omega)) hB0 hn0 (.int .i64 z2) (.int .i64 z4) (.int .i64 z5) (.bool (z8 == 0)) (.bool (z9 == 0)) (.bool (z10 == 0)) (.int .i64 z7) (.int .i64 0) (.int .i64 0),put9c HC.out (.inr (Nat.le_refl _)) (.int .i64 z2) (.int .i64 z4) (.int .i64 z5) (.bool (z8 == 0)) (.bool (z9 == 0)) (.bool (z10 == 0)) (.int .i64 z7) (.int .i64 0) (.int .i64 0)⟩ ?_
  clear HB0 HB1 HC HR c0 c1 c2 c3 c4 c5 c6 c7 c8 d0 d1 d2 d3 d4 d5 d6 d7 d8 f0 f1 f2 f3 f4 f5 f6 f7 f8;rintro W ⟨h0,hR,hC⟩;obtain ⟨d0,d1,d2,d3,d4,d5,d6,d7,d8⟩:=b9c h0
  exact bodyPost_ret (v:=.agg #[.int .i64 z2,.int .i64 z4,.int .i64 z5,.bool (z8 == 0),.bool (z9 == 0),.bool (z10 == 0),.int .i64 z7,.int .i64 0,.int .i64 0]) (by simp only [results,Tryz.results146];go_simp) rfl ⟨⟨_,_,_,_,_,_,_,_,_,rfl⟩,hR,hC⟩
def isIn (lo hi:Int):Value→Bool | .int .i64 z=>decide (lo≤z∧z≤hi) | _=>false
theorem isIn_ex {lo hi:Int} {v:Value} (h:isIn lo hi v=true):∃ z,v=.int .i64 z∧lo≤z∧z≤hi:=by
 unfold isIn at h
 split at h
 ·exact ⟨_,rfl,by simpa using h⟩
 ·cases h
theorem qZd (lo hi:Int) {B rb:Nat} {A:Option Addr} {l c m k:Nat} {cs:Array Value} {T:TypeId} (w:World) (h:Rd B rb A l c m w) (hm:m≤1000000) (hk:cs.size=k) (h1:1≤k) (h2:k≤100) (ha:cs.toList.all (isIn lo hi)=true) :
  Calls Tryz.prog 60 #[.pointer (some ⟨rb,0,none⟩),.slice (some ⟨w.heap.size,0,none⟩) k k] (w.alloc (.cells cs T)) fun e w'=>(∃ z,e=.returned (.int .i64 z)∧lo≤z∧z≤hi)∧Rd B rb A l c (m+1) w'∧Chg [rb] w w':=by
 have hlt:=h.lt
 have hg4:∀ j,j<k→∃ z,(w.alloc (.cells cs T)).cell? ⟨w.heap.size,j,none⟩=some (.int .i64 z)∧lo≤z∧z≤hi:=fun j hj=>by
  have hc:cs[j]?=some cs[j]:=by simp [hk,hj]
  obtain ⟨z,hz,hb⟩:=isIn_ex (List.all_eq_true.1 ha cs[j] (by simp));refine ⟨z,?_,hb⟩;rw [<- hz,<- hc];exact qZ7 (heap_alloc_new w (.cells cs T)) j
 go_enter Tryz.func60,Tryz.ntmps60
 go_wp2_with fail
 refine (kZe _ _ (h.alloc _) hm).mono ?_;rintro e w1 ⟨⟨v,rfl,hv⟩,hr,hc⟩;obtain ⟨v0,v1⟩:=hv (by omega);obtain ⟨j,rfl⟩:=Int.eq_ofNat_of_zero_le v0;obtain ⟨z,hz,hb⟩:=hg4 j (by omega);have hz':=(hc.cell (p:=⟨w.heap.size,j,none⟩) (by simp) (by simp;omega)).trans hz
 have hjk:j<k:=by omega
 have Hr:=hD hr;have Hc:=hD (((Chg.refl [rb] w).alloc (.cells cs T)).trans hc);clear hr hc hv hz hg4 h;go_wp2;go_ret;exact ⟨⟨_,rfl,hb⟩,Hr.out,Hc.out⟩
def hpB (x y u v p q:Int):Bool:=decide (x≤p∧p<x+u∧y≤q∧q<y+v)
theorem vZp (a b:Int):mx a b=mx b a:=by unfold mx;split <;> split <;> omega
def sumI:List Int→Int
 | []=>0
 | x :: t=>x+sumI t
theorem qZc:∀ (A B:List Int),sumI (A ++ B)=sumI A+sumI B
 | [],B=>by simp [sumI]
 | x :: t,B=>by simp [sumI,qZc t B];omega
theorem uZn {L:List Int} {k:Nat} {x:Int} (h:L[k]?=some x):sumI (L.take (k+1))=sumI (L.take k)+x:=by
 obtain ⟨hk,e⟩:=List.getElem?_eq_some_iff.1 h;rw [List.take_succ_eq_append_getElem hk,qZc,e]
 simp [sumI]
theorem sZ0 {lo hi:Int}:∀ {L:List Int},(∀ x∈L,lo≤x∧x≤hi)→lo*L.length≤sumI L∧sumI L≤hi*L.length
 | [],_=>by simp [sumI]
 | x :: t,h=>by
  have h1:=sZ0 (L:=t) (fun q hq=>h q (List.mem_cons_of_mem _ hq));have h2:=h x List.mem_cons_self;simp only [sumI,List.length_cons]
  have e1:lo*((t.length+1:Nat):Int)=lo*t.length+lo:=by rw [Int.natCast_succ,Int.mul_add,Int.mul_one]
  have e2:hi*((t.length+1:Nat):Int)=hi*t.length+hi:=by rw [Int.natCast_succ,Int.mul_add,Int.mul_one]
  rw [e1,e2];omega
def Smal (M:Int) (L:List Int):Prop:=∀ k,-M≤sumI (L.take k)∧sumI (L.take k)≤M
theorem tZ2 {b M:Int} {L:List Int} (h:∀ x∈L,-b≤x∧x≤b) (hb:0≤b) (hl:b*L.length≤M):Smal M L:=fun k=>by
 have:=sZ0 (L:=L.take k) (fun x hx=>h x (List.mem_of_mem_take hx))
 have hk:((L.take k).length:Int)≤L.length:=by rw [List.length_take];omega
 have h1:b*((L.take k).length:Int)≤b*L.length:=Int.mul_le_mul_of_nonneg_left hk hb
 have h2:-b*((L.take k).length:Int)=-(b*((L.take k).length:Int)):=by rw [Int.neg_mul]
 rw [h2] at this;omega
structure NV (w:World) (A:Option Addr) (L:List Int):Prop where
 cells:0<L.length→∃ b off,A=some ⟨b,off,none⟩∧b<w.heap.size∧∀ i x,L[i]?=some x→w.cell? ⟨b,off+i,none⟩=some (.int .i64 x)
theorem NV.keep {w w':World} {A:Option Addr} {L:List Int} (h:NV w A L) (hb:Below w.heap.size w w'):NV w' A L :=
 ⟨fun h0=>let ⟨b,off,e,hl,hp⟩:=h.cells h0;⟨b,off,e,Nat.lt_of_lt_of_le hl hb.size,fun i x hx=>(hb.cell (p:=⟨b,off+i,none⟩) hl).trans (hp i x hx)⟩⟩
theorem NV.nil (w:World) (A:Option Addr):NV w A []:=⟨fun h=>absurd h (by simp)⟩
theorem NV.sub {w:World} {b off:Nat} {L:List Int} (hb:b<w.heap.size) (h:∀ i x,L[i]?=some x→w.cell? ⟨b,off+i,none⟩=some (.int .i64 x)) (i j:Nat):NV w (some ⟨b,off+i,none⟩) ((L.drop i).take j) :=
 ⟨fun _=>⟨b,off+i,rfl,hb,fun k x hx=>by
  rw [List.getElem?_take] at hx
  split at hx
  ·rw [List.getElem?_drop] at hx
   have:=h (i+k) x hx
   rwa [<- Nat.add_assoc] at this
  ·cases hx⟩⟩
def pZn (L:List Int):Array Value:=(L.map (Value.int .i64)).toArray
def IB (w:World) (g:Nat) (L:List Int):Prop:=w.heap[g]?=some (.cells (pZn L) 3 (0,0))
theorem IB.lt {w:World} {g:Nat} {L:List Int} (h:IB w g L):g<w.heap.size:=(gE h).1
theorem IB.cell {w:World} {g i:Nat} {L:List Int} {x:Int} (h:IB w g L) (hx:L[i]?=some x):w.cell? ⟨g,i,none⟩=some (.int .i64 x):=by
 have h':w.heap[g]?=some (.cells (pZn L) 3 (0,0)):=h
 simp [World.cell?,h',pZn,hx]
theorem IB.frozen {w:World} {g:Nat} {L:List Int} (h:IB w g L) (i:Nat):w.frozen? ⟨g,i,none⟩=false:=by
 have h':w.heap[g]?=some (.cells (pZn L) 3 (0,0)):=h
 simp [World.frozen?,h']
theorem IB.keep {w w':World} {g:Nat} {L:List Int} (h:IB w g L) (hb:Below w.heap.size w w'):IB w' g L:=(hb.block g h.lt).trans h
theorem IB.set {w:World} {g:Nat} {L:List Int} (h:IB w g L) (i:Nat) (x:Int):IB (w.setCell ⟨g,i,none⟩ (.int .i64 x)) g (L.set i x):=by
 have h':w.heap[g]?=some (.cells (pZn L) 3 (0,0)):=h
 show _=_
 simp [World.setCell,Array.getElem?_modify,h',pZn,List.map_set]
theorem IB.nv {w:World} {g:Nat} {L:List Int} (h:IB w g L):NV w (some ⟨g,0,none⟩) L :=
 ⟨fun _=>⟨g,0,rfl,h.lt,fun i x hx=>by rw [Nat.zero_add];exact h.cell hx⟩⟩
theorem gZ2:∀ (n:Nat) (w:World),n≤1048576→(Instr.makeSlice 47 (.int .i64 (n:Int)) (.int .i64 (n:Int))).run Tryz.prog w=.ok (.slice (some ⟨w.heap.size,0,none⟩) n n) (w.alloc (.cells (pZn (List.replicate n 0)) 3)):=by
 intro n w hn
 have hinfo:(Tryz.prog.info? 3).map (fun i=>(i.zero,i.size,i.bytes))=some (some (.int .i64 0),1,8):=by kernel_rfl
 obtain ⟨i,hi,h1,h2,h3⟩:=info_parts hinfo;have hr:=run_make (P:=Tryz.prog) w 47 3 i _ Tryz.underlying47 hi h1 .i64 .i64 n n (by omega) (Int.le_refl _) (by rw [h3];omega) (by omega);rw [h2] at hr
 have e:madeCells (Value.int .i64 0).cells (n*1)=pZn (List.replicate n 0):=by
  apply Array.ext
  ·rw [size_madeCells];simp [pZn]
  ·intro i h1 h2
   simp [madeCells,pZn,Value.cells,Nat.mod_one]
 rw [Int.toNat_natCast,e] at hr
 simpa using hr
theorem vZe (n:Nat) (w:World):IB (w.alloc (.cells (pZn (List.replicate n 0)) 3)) w.heap.size (List.replicate n 0):=by
 show (w.heap.push _)[w.heap.size]?=_
 simp
theorem sum_v (A:Option Addr) (c:Nat) (L:List Int) (w:World) (h:NV w A L) (hL:L.length≤1048576) (hM:Smal 1000000000000000 L) :
  Calls Tryz.prog 216 #[.slice A L.length c] w fun e w'=>e=.returned (.int .i64 (sumI L))∧w=w':=by
 have HM:=hD hM;clear hM
 go_enter Tryz.func216,Tryz.ntmps216
 go_wp2_with fail
 go_loop [3,8] (fun s i=>∃ k:Nat,k≤L.length∧i=.int .i64 k∧s=.int .i64 (sumI (L.take k))) (fun _ i=>L.length-(intOf i).toNat)
 case atStart=>exact ⟨0,by omega,rfl,rfl⟩
 case round =>
  obtain ⟨k,hk,rfl,rfl⟩:=hrel
  by_cases hlt:k<L.length
  ·have hd:decide ((k:Int)<(L.length:Int))=true:=by simpa using hlt
   obtain ⟨b,off,rfl,hb,hp⟩:=h.cells (by omega);have hget:L[k]?=some L[k]:=List.getElem?_eq_getElem hlt;have c0:=hp k _ hget;generalize hx:L[k]=x at *;have hs:=uZn hget;have b1:=HM.out k;have b2:=HM.out (k+1);rw [hs] at b2
   obtain ⟨S,hS⟩:∃ S,sumI (L.take k)=S:=⟨_,rfl⟩
   rw [hS] at b1 b2 hs;rw [hS];have HS:=hD hs;clear hs hS hget hx hp;go_wp2
   go_round
   case rel=>exact ⟨k+1,by omega,by go_num,by rw [HS.out]⟩
   case measure=>simp [intOf];omega
  ·have hd:decide ((k:Int)<(L.length:Int))=false:=by simp;omega
   have he:L.take k=L:=List.take_of_length_le (by omega);rw [he];clear he;go_wp2;go_ret;exact ⟨rfl,rfl⟩
theorem total_v (A:Option Addr) (c:Nat) (L:List Int) (w:World) (h:NV w A L) (hL:L.length≤1048576) (hM:Smal 1000000000000000 L) :
  Calls Tryz.prog 151 #[.slice A L.length c] w fun e w'=>e=.returned (.int .i64 (sumI L))∧w=w':=by
 have HM:=hD hM;clear hM
 go_enter Tryz.func151,Tryz.ntmps151
 go_wp2_with fail
 go_loop [3,4] (fun s i=>∃ k:Nat,k≤L.length∧i=.int .i64 k∧s=.int .i64 (sumI (L.take k))) (fun _ i=>L.length-(intOf i).toNat)
 case atStart=>exact ⟨0,by omega,rfl,rfl⟩
 case round =>
  obtain ⟨k,hk,rfl,rfl⟩:=hrel
  by_cases hlt:k<L.length
  ·have hd:decide ((k:Int)<(L.length:Int))=true:=by simpa using hlt
   obtain ⟨b,off,rfl,hb,hp⟩:=h.cells (by omega);have hget:L[k]?=some L[k]:=List.getElem?_eq_getElem hlt;have c0:=hp k _ hget;generalize hx:L[k]=x at *;have hs:=uZn hget;have b1:=HM.out k;have b2:=HM.out (k+1);rw [hs] at b2
   obtain ⟨S,hS⟩:∃ S,sumI (L.take k)=S:=⟨_,rfl⟩
   rw [hS] at b1 b2 hs;rw [hS];have HS:=hD hs;clear hs hS hget hx hp;go_wp2
   go_round
   case rel=>exact ⟨k+1,by omega,by go_num,by rw [HS.out]⟩
   case measure=>simp [intOf];omega
  ·have hd:decide ((k:Int)<(L.length:Int))=false:=by simp;omega
   have he:L.take k=L:=List.take_of_length_le (by omega);rw [he];clear he;go_wp2;go_ret;exact ⟨rfl,rfl⟩
theorem bZf {w w':World} {base rb:Nat} {e:TypeId} {size:Nat} {v:Value} {n:Nat} {xs:List Value} (h:w.ownsRow base e size v n xs) (hc:Chg [rb] w w') (hr:rb<base):w'.ownsRow base e size v n xs :=
 h.kept (row:=some rb) ⟨hc.os,hc.tape,hc.output,hc.size,fun k hk hne=>hc.block k hk (by simp;exact fun e=>hne (by rw [e]))⟩ (by
  cases hv:v.ownBlock with
  | none=>exact .inl rfl
  | some g=>exact .inr (fun e=>by have:=h.lt g hv;cases e;omega))
theorem dZj {S:List Nat} {a W w5:World} {v:Value} {o:Obj} {lo hi:Nat} (h:Chg S a W) (hg:(W.alloc o).grownBy w5 v.ownBlock) (hob:∀ k,v.ownBlock=some k→lo≤k∧k<hi) (hlo:a.heap.size≤lo):Chg S a w5 :=
 ⟨hg.os.trans (h.alloc o).os,hg.tape.trans (h.alloc o).tape,hg.output.trans (h.alloc o).output,Nat.le_trans (h.alloc o).size hg.size,fun k hk hs=>(hg.block k (Nat.lt_of_lt_of_le hk (h.alloc o).size) (fun e=>by have:=hob k e.symm;omega)).trans ((h.alloc o).block k hk hs)⟩
theorem eZ9 {B rb:Nat} {A:Option Addr} {n c m:Nat} {W w5:World} {v:Value} {o:Obj} {lo hi:Nat} (h:Rd B rb A n c m W) (hg:(W.alloc o).grownBy w5 v.ownBlock) (hob:∀ k,v.ownBlock=some k→lo≤k∧k<hi) (hlo:rb<lo):Rd B rb A n c m w5:=by
 have hb:=h.base
 cases hv:v.ownBlock with
 | none =>
  rw [hv] at hg;exact h.keep (S:=[]) ⟨hg.os,hg.tape,hg.output,Nat.le_trans (by simp) hg.size,fun k hk _=>(hg.block k (by simp;omega) (fun e=>by cases e)).trans (Below.heap_alloc _ _ _ hk)⟩ (by simp)
 | some g =>
  have:=hob g hv
  rw [hv] at hg;exact h.keep (S:=[g]) (Chg.of_grown ((Chg.refl [g] W).alloc o) hg (.inl (by simp))) (by simp;omega)
theorem jZs {W w':World} (h:Below W.drew.heap.size W.drew w'):Below W.heap.size W w':=(Below.refl _ _).drew.trans h
def wrAt (cs:Array Value) (o:Nat):List Value→Array Value
 | []=>cs
 | v :: r=>wrAt (cs.setIfInBounds o v) (o+1) r
theorem pZ6:∀ (vs:List Value) (cs:Array Value) (o:Nat),(wrAt cs o vs).size=cs.size
 | [],cs,o=>rfl
 | v :: r,cs,o=>by unfold wrAt;rw [pZ6 r];simp
theorem gZ6:∀ (vs:List Value) (cs:Array Value) (o i:Nat),i<o→(wrAt cs o vs)[i]?=cs[i]?
 | [],cs,o,i,_=>rfl
 | v :: r,cs,o,i,h=>by unfold wrAt;rw [gZ6 r _ _ _ (by omega),Array.getElem?_setIfInBounds_ne (by omega)]
theorem wrAt_hi:∀ (vs:List Value) (cs:Array Value) (o i:Nat),o+vs.length≤i→(wrAt cs o vs)[i]?=cs[i]?
 | [],cs,o,i,_=>rfl
 | v :: r,cs,o,i,h=>by
  simp only [List.length_cons] at h;unfold wrAt;rw [wrAt_hi r _ _ _ (by omega),Array.getElem?_setIfInBounds_ne (by omega)]
theorem eZa:∀ (vs:List Value) (cs:Array Value) (o j:Nat),o+vs.length≤cs.size→j<vs.length→(wrAt cs o vs)[o+j]?=vs[j]?
 | [],cs,o,j,_,h=>by simp at h
 | v :: r,cs,o,0,h,_=>by
  simp only [List.length_cons] at h;unfold wrAt;rw [gZ6 r _ _ _ (by omega),Nat.add_zero,Array.getElem?_setIfInBounds_self_of_lt (by omega)]
  rfl
 | v :: r,cs,o,j+1,h,hj=>by
  simp only [List.length_cons] at h hj;unfold wrAt;rw [show o+(j+1)=o+1+j from by omega,eZa r _ _ _ (by simp;omega) (by omega)]
  simp
theorem putS {w:World} {b i:Nat} {cs:Array Value} {T:TypeId} {fz:Nat × Nat} (h:w.heap[b]?=some (.cells cs T fz)) (u:Value):(w.setCell ⟨b,i,none⟩ u).heap[b]?=some (.cells (cs.setIfInBounds i u) T fz):=by
 simp [World.setCell,Array.getElem?_modify,h]
theorem jZc {w:World} {b:Nat} {cs:Array Value} {T:TypeId} {fz:Nat × Nat} (h:w.heap[b]?=some (.cells cs T fz)) (i:Nat):w.cell? ⟨b,i,none⟩=cs[i]?:=by simp [World.cell?,h]
theorem jZm {w:World} {b:Nat} {cs:Array Value} {T:TypeId} (h:w.heap[b]?=some (.cells cs T (0,0))) (i:Nat):w.frozen? ⟨b,i,none⟩=false:=by simp [World.frozen?,h]
theorem pZz {w:World} {b:Nat} {cs:Array Value} {T:TypeId} {fz:Nat × Nat} (h:w.heap[b]?=some (.cells cs T fz)) {i:Nat} (hi:i<cs.size):∃ v,w.cell? ⟨b,i,none⟩=some v:=⟨cs[i],(jZc h i).trans (by simp [hi])⟩
theorem newS (w:World) (o:Obj):(w.alloc o).heap[w.heap.size]?=some o:=by
 show (w.heap.push _)[w.heap.size]?=_
 simp
theorem ltS {w:World} {g:Nat} {o:Obj} (h:w.heap[g]?=some o):g<w.heap.size:=(gE h).1
theorem bZ7 {w w':World} {g:Nat} (h:w.grownBy w' (some g)) (o:Nat) (v:Value):w.grownBy (w'.setCell ⟨g,o,none⟩ v) (some g) :=
 ⟨h.os,h.tape,h.output,by simpa [World.setCell] using h.size,fun k hk hne=>(Below.heap_setCell w' ⟨g,o,none⟩ v k (by rintro rfl;exact hne rfl)).trans (h.block k hk hne)⟩
theorem rZz (w:World) (g:Nat):w.grownBy w (some g):=⟨rfl,rfl,rfl,Nat.le_refl _,fun _ _ _=>rfl⟩
def InS (cs:Array Value) (o:Nat) (l:List Value):Prop:=∀ j u,l[j]?=some u→cs[o+j]?=some u
theorem InS.write {cs:Array Value} {o:Nat} {l:List Value} (h:o+l.length≤cs.size):InS (wrAt cs o l) o l:=fun j u hu=>by
 have hj:=(List.getElem?_eq_some_iff.1 hu).1;rw [eZa _ _ _ _ h hj,hu]
theorem InS.keepS {cs:Array Value} {o o':Nat} {l m:List Value} (h:InS cs o' m) (hd:o'+m.length≤o∨o+l.length≤o'):InS (wrAt cs o l) o' m:=fun j u hu=>by
 have hj:=(List.getElem?_eq_some_iff.1 hu).1
 rcases hd with hd | hd
 ·rw [gZ6 _ _ _ _ (by omega)];exact h j u hu
 ·rw [wrAt_hi _ _ _ _ (by omega)];exact h j u hu
structure Ln where
 wt:Int
 mi:Int
def qZ0 (p:Ln):List Value:=[.int .i64 p.wt,.int .i64 p.mi]
structure LnV (w:World) (A:Option Addr) (L:List Ln):Prop where
 cells:0<L.length→∃ b off,A=some ⟨b,off,none⟩∧b<w.heap.size∧∀ i p,L[i]?=some p→w.cell? ⟨b,off+i*2,none⟩=some (.int .i64 p.wt)∧w.cell? ⟨b,off+i*2+1,none⟩=some (.int .i64 p.mi)
theorem LnV.keep {w w':World} {A:Option Addr} {L:List Ln} (h:LnV w A L) (hb:Below w.heap.size w w'):LnV w' A L :=
 ⟨fun h0=>let ⟨b,off,e,hl,hp⟩:=h.cells h0;⟨b,off,e,Nat.lt_of_lt_of_le hl hb.size,fun i p hi=>by
  obtain ⟨c0,c1⟩:=hp i p hi
  exact ⟨(hb.cell (p:=⟨b,off+i*2,none⟩) hl).trans c0,(hb.cell (p:=⟨b,off+i*2+1,none⟩) hl).trans c1⟩⟩⟩
theorem LnV.nil (w:World) (A:Option Addr):LnV w A []:=⟨fun h=>absurd h (by simp)⟩
structure Sp where
 sa:Int
 many:Int
 need:Int
def pZ4 (p:Sp):List Value:=[.int .i64 p.sa,.int .i64 p.many,.int .i64 p.need]
structure SpV (w:World) (A:Option Addr) (L:List Sp):Prop where
 cells:0<L.length→∃ b off,A=some ⟨b,off,none⟩∧b<w.heap.size∧∀ i p,L[i]?=some p→w.cell? ⟨b,off+i*3,none⟩=some (.int .i64 p.sa)∧w.cell? ⟨b,off+i*3+1,none⟩=some (.int .i64 p.many)∧w.cell? ⟨b,off+i*3+2,none⟩=some (.int .i64 p.need)
theorem SpV.keep {w w':World} {A:Option Addr} {L:List Sp} (h:SpV w A L) (hb:Below w.heap.size w w'):SpV w' A L :=
 ⟨fun h0=>let ⟨b,off,e,hl,hp⟩:=h.cells h0;⟨b,off,e,Nat.lt_of_lt_of_le hl hb.size,fun i p hi=>by
  obtain ⟨c0,c1,c2⟩:=hp i p hi
  exact ⟨(hb.cell (p:=⟨b,off+i*3,none⟩) hl).trans c0,(hb.cell (p:=⟨b,off+i*3+1,none⟩) hl).trans c1,(hb.cell (p:=⟨b,off+i*3+2,none⟩) hl).trans c2⟩⟩⟩
def SpB (w:World) (g:Nat) (L:List Sp):Prop:=∃ cs:Array Value,w.heap[g]?=some (.cells cs 191 (0,0))∧cs.size=L.length*3∧∀ i p,L[i]?=some p→InS cs (i*3) (pZ4 p)
theorem SpB.v {w:World} {g:Nat} {L:List Sp} (h:SpB w g L):SpV w (some ⟨g,0,none⟩) L:=by
 obtain ⟨cs,hh,hs,hc⟩:=h;refine ⟨fun _=>⟨g,0,rfl,ltS hh,fun i p hp=>?_⟩⟩;have hi:=hc i p hp;simp only [Nat.zero_add];exact ⟨(jZc hh _).trans (hi 0 _ rfl),(jZc hh _).trans (hi 1 _ rfl),(jZc hh _).trans (hi 2 _ rfl)⟩
theorem madeSp:∃ f:Nat→Array Value,(∀ n,(f n).size=n*3)∧∀ (n:Nat) (w:World),n≤1048576→(Instr.makeSlice 173 (.int .i64 (n:Int)) (.int .i64 (n:Int))).run Tryz.prog w=.ok (.slice (some ⟨w.heap.size,0,none⟩) n n) (w.alloc (.cells (f n) 191)):=by
 have hinfo:(Tryz.prog.info? 191).map (fun i=>(i.zero,i.size,i.bytes))=some (some (.agg #[.int .i64 0,.int .i64 0,.int .i64 0]),3,24):=by kernel_rfl
 obtain ⟨i,hi,h1,h2,h3⟩:=info_parts hinfo;refine ⟨fun n=>madeCells (Value.agg #[.int .i64 0,.int .i64 0,.int .i64 0]).cells (n*3),fun n=>size_madeCells _ _,fun n w hn=>?_⟩;have hr:=run_make (P:=Tryz.prog) w 173 191 i _ Tryz.underlying173 hi h1 .i64 .i64 n n (by omega) (Int.le_refl _) (by rw [h3];omega) (by omega);rw [h2] at hr
 simpa using hr
theorem putSp {w:World} {b:Nat} {cs:Array Value} {T:TypeId} {fz:Nat × Nat} (h:w.heap[b]?=some (.cells cs T fz)) (o:Nat) (p:Sp) :
  ((((w.setCell ⟨b,o,none⟩ (.int .i64 p.sa)).setCell ⟨b,o+1,none⟩ (.int .i64 p.many)).setCell ⟨b,o+2,none⟩ (.int .i64 p.need))).heap[b]?=some (.cells (wrAt cs o (pZ4 p)) T fz) :=
 putS (putS (putS h _) _) _
theorem putSpb {B b:Nat} {a w:World} (h:Below B a w) (hb:B≤b) (o:Nat) (p:Sp):Below B a ((((w.setCell ⟨b,o,none⟩ (.int .i64 p.sa)).setCell ⟨b,o+1,none⟩ (.int .i64 p.many)).setCell ⟨b,o+2,none⟩ (.int .i64 p.need))) :=
 (((h).setCell hb _).setCell hb _).setCell hb _
theorem fZb {B rb:Nat} {A:Option Addr} {l c m:Nat} (n:Int) (w:World) (h:Rd B rb A l c m w) (hm:m≤1000000) :
  Calls Tryz.prog 76 #[.pointer (some ⟨rb,0,none⟩),.int .i64 n] w fun e w'=>(∃ v,e=.returned (.int .i64 v)∧(1≤n→0≤v∧v<n)∧(n<1→v=0))∧Rd B rb A l c (m+1) w'∧Chg [rb] w w':=by
 by_cases hn:1≤n
 ·exact (kZe n w h hm).mono fun e w' ⟨⟨v,he,h3⟩,h1,h2⟩=>⟨⟨v,he,h3,fun h=>by omega⟩,h1,h2⟩
 ·exact (pick_lo n w h hm (by omega)).mono fun e w' ⟨he,h1,h2⟩=>⟨⟨0,he,fun h=>absurd h hn,fun _=>rfl⟩,h1,h2⟩
def rZw:List Ln→List Value
 | []=>[]
 | r :: t=>qZ0 r ++ rZw t
theorem eZu (A B:List Ln):rZw (A ++ B)=rZw A ++ rZw B:=by
 induction A with
 | nil=>rfl
 | cons r t ih=>simp [rZw,ih]
theorem hZj (L:List Ln) (r:Ln):rZw L ++ qZ0 r=rZw (L ++ [r]):=by rw [eZu];simp [rZw]
theorem dZi:∀ {M:List Ln} {i:Nat} {r:Ln},M[i]?=some r→∀ j,j<2→(rZw M)[i*2+j]?=(qZ0 r)[j]?
 | [],i,r,h,_,_=>by simp at h
 | q :: t,0,r,h,j,hj=>by
  simp at h;subst h
  show (qZ0 q ++ rZw t)[0*2+j]?=_
  rw [List.getElem?_append_left (by simp [qZ0];omega)];simp
 | q :: t,i+1,r,h,j,hj=>by
  show (qZ0 q ++ rZw t)[(i+1)*2+j]?=_
  rw [List.getElem?_append_right (by simp [qZ0];omega)]
  have:=dZi (M:=t) (i:=i) (r:=r) (by simpa using h) j hj
  rw [<- this];congr 1;simp [qZ0];omega
theorem ln_infoG:∃ (i:TypeInfo) (z:Value),Tryz.prog.info? 181=some i∧i.zero=some z∧i.size=2∧i.bytes=16∧z.cells.size=2:=by
 have hinfo:(Tryz.prog.info? 181).map (fun i=>(i.zero,i.size,i.bytes))=some (some (.agg #[.int .i64 0,.int .i64 0]),2,16):=by kernel_rfl
 obtain ⟨i,hi,h1,h2,h3⟩:=info_parts hinfo;exact ⟨i,_,hi,h1,h2,h3,rfl⟩
theorem ln_newG (W:World) (r:Ln) (T:TypeId):∀ (j:Nat) (u:Value),(qZ0 r)[j]?=some u→(W.alloc (.cells #[.int .i64 r.wt,.int .i64 r.mi] T)).cell? ((⟨W.heap.size,0,none⟩:Addr).add j)=some u:=fun j u h=>by
 have hadd:(⟨W.heap.size,0,none⟩:Addr).add j=⟨W.heap.size,j,none⟩:=by unfold Addr.add;split <;> simp_all
 rw [hadd];exact (jZc (newS W _) j).trans (by simpa [qZ0] using h)
theorem gZr (r:Ln):∀ u∈qZ0 r,u.oneCell'=true:=by intro u hu;simp [qZ0] at hu;rcases hu with rfl | rfl <;> rfl
theorem ln_inG {w:World} {base n:Nat} {v:Value} {M:List Ln} {T:TypeId} (h:w.ownsRow base T 2 v n (rZw M)) (hn:n=M.length) :
  (v=.slice none 0 0∧M=[])∨∃ g cap,∃ cs:Array Value,v=.slice (some ⟨g,0,none⟩) n cap∧base≤g∧n≤cap∧w.heap[g]?=some (.cells cs T (0,0))∧cs.size=cap*2∧∀ (i:Nat) (x:Ln),M[i]?=some x→InS cs (i*2) (qZ0 x):=by
 rcases h.2 with ⟨rfl,h0⟩ | ⟨g,cap,cur,rfl,hb,hg,hc,_,hs,ht⟩
 ·exact .inl ⟨rfl,List.length_eq_zero_iff.1 (by omega)⟩
 ·refine .inr ⟨g,cap,cur,rfl,hb,hc,hg,hs,fun i r hr j u hu=>?_⟩
  have hj:j<2:=by have:=(List.getElem?_eq_some_iff.1 hu).1;simpa [qZ0] using this
  have e:=(dZi hr j hj).trans hu;rw [<- ht,List.getElem?_take] at e
  have:i<M.length:=(List.getElem?_eq_some_iff.1 hr).1
  rw [if_pos (by omega)] at e
  simpa using e
theorem LnV.inG {w:World} {g:Nat} {cs:Array Value} {T:TypeId} {M:List Ln} (hh:w.heap[g]?=some (.cells cs T (0,0))) (hc:∀ (i:Nat) (x:Ln),M[i]?=some x→InS cs (i*2) (qZ0 x)):LnV w (some ⟨g,0,none⟩) M :=
 ⟨fun _=>⟨g,0,rfl,ltS hh,fun i r hr=>by
  have e:∀ j u,(qZ0 r)[j]?=some u→w.cell? ⟨g,0+i*2+j,none⟩=some u:=fun j u hu=>by rw [Nat.zero_add];exact (jZc hh _).trans (hc i r hr j u hu)
  exact ⟨e 0 _ rfl,e 1 _ rfl⟩⟩⟩
theorem uZt {B rb:Nat} {A:Option Addr} {l c m:Nat} (w:World) (h:Rd B rb A l c m w) (hm:m≤700000) :
  Calls Tryz.prog 145 #[.pointer (some ⟨rb,0,none⟩)] w fun e w'=>(∃ v,∃ L:List Ln,e=.returned v∧w'.ownsRow w.heap.size 181 2 v L.length (rZw L)∧1≤L.length∧L.length≤5)∧Rd B rb A l c (m+20) w'∧Chg [rb] w w':=by
 obtain ⟨ti,tz,ti1,ti2,ti3,ti4,ti5⟩:=ln_infoG
 go_enter Tryz.func145,Tryz.ntmps145
 go_wp2_with fail
 have hlt:=h.lt
 obtain ⟨W0,hW0⟩:∃ W0,w.alloc (.cells #[] 181 (0,0))=W0:=⟨_,rfl⟩
 have hs0:w.heap.size+1=W0.heap.size:=by rw [<- hW0];simp
 have hr0:Rd B rb A l c m W0:=by rw [<- hW0];exact h.alloc _
 have ho0:W0.ownsRow w.heap.size 181 2 (.slice (some ⟨w.heap.size,0,none⟩) 0 0) 0 []:=by rw [<- hW0];exact World.ownsRow_lit (base:=w.heap.size) (e:=181) (size:=2) w #[] 0 (Nat.le_refl _) (by decide) rfl
 have hc0:Chg [rb] w W0:=by rw [<- hW0];exact (Chg.refl [rb] w).alloc _
 rw [hW0,hs0];clear hW0
 with_reducible refine (qZd 1 5 W0 hr0 (by omega) (by simp) (by omega) (by omega) (by simp [isIn])).mono ?_
 rintro e w1 ⟨⟨z,rfl,z0,z1⟩,hr1,hc1⟩;obtain ⟨n,rfl⟩:=Int.eq_ofNat_of_zero_le (show 0≤z by omega);have ho1:=bZf ho0 hc1 hlt;have HO1:=hD ho1;have HR1:=hD hr1;have HC1:=hD (hc0.trans hc1);clear ho1 hr1 hc1 ho0 hr0 hc0
 go_wp2_with fail
 go_loopw [3,4] (fun out i wr=>∃ k:Nat,i=.int .i64 k∧∃ L:List Ln,k+L.length=n∧wr.ownsRow w.heap.size 181 2 out L.length (rZw L)∧Rd B rb A l c (m+1+2*L.length) wr∧Chg [rb] w wr) (fun _ i _=>(intOf i).toNat)
 case atStart=>exact ⟨n,rfl,[],by simp,HO1.out,HR1.out,HC1.out⟩
 case round =>
  obtain ⟨k,rfl,L,hk,ho,hr,hc⟩:=hrel;clear HO1 HR1 HC1
  rcases k with _ | k
  ·have hd:decide (((0:Nat):Int)>0)=false:=by simp
   have HO:=hD ho;have HR:=hD hr;have HC:=hD hc;clear ho hr hc;go_wp2;go_ret;exact ⟨⟨_,L,rfl,HO.out,by omega,by omega⟩,HR.out.mono (by omega),HC.out⟩
  ·have hd:decide (((k+1:Nat):Int)>0)=true:=by simp
   have hlt0:=h.lt
   go_wp2_with fail
   with_reducible refine (qZd 0 5 _ hr (by omega) (by simp) (by omega) (by omega) (by simp [isIn])).mono ?_
   rintro e w2 ⟨⟨y1,rfl,y1a,y1b⟩,hr2,hc2⟩;have ho2:=bZf ho hc2 hlt0;have HO:=hD ho2;have HC:=hD (hc.trans hc2);clear ho hr hc hc2 ho2
   go_wp2_with fail
   with_reducible refine (qZd 0 10 _ hr2 (by omega) (by simp) (by omega) (by omega) (by simp [isIn])).mono ?_
   rintro e w3 ⟨⟨y2,rfl,y2a,y2b⟩,hr3,hc3⟩;have ho3:=bZf HO.out hc3 hlt0;have hw3:w.heap.size≤w3.heap.size:=Nat.le_trans HC.out.size hc3.size;have hob:=ho3.lt;have HR:=hD hr3;replace HC:=hD (HC.out.trans hc3);replace HO:=hD ho3;clear hr2 hr3 hc3 ho3
   go_wp2_with (at_builtin;refine wpList_append_own _ rfl _ _ 35 rfl w.heap.size 181 ti tz 2 16 Tryz.underlying35 ti1 ti2 ti3 ti4 ti5 (by decide) _ _ _ rfl (HO.out.alloc _) ⟨w3.heap.size,0,none⟩ 1 1 (qZ0 ⟨y1,y2⟩) rfl rfl (ln_newG _ ⟨y1,y2⟩ _) (gZr _) (by simp only [maxLen];omega) (by omega) (by simp;omega) ?_)
   intro v5 w5 how5 hgr5 _;rw [hZj] at how5;replace HC:=hD (dZj HC.out hgr5 hob (Nat.le_refl _));replace HR:=hD (eZ9 HR.out hgr5 hob hlt0);replace HO:=hD how5;clear how5 hgr5 hob;go_wp2
   go_roundw
   case rel=>exact ⟨k,by go_num,L ++ [⟨y1,y2⟩],by simp;omega,by simpa using HO.out,HR.out.mono (by simp;omega),HC.out⟩
   case measure=>simp [intOf]
structure Ce where
 co:Int
 ro:Int
 mc:Int
 mr:Int
 cw:Int
 ch:Int
 sk:Int
 px:Int
 py:Int
def kZn (p:Ce):List Value:=[.int .i64 p.co,.int .i64 p.ro,.int .i64 p.mc,.int .i64 p.mr,.int .i64 p.cw,.int .i64 p.ch,.int .i64 p.sk,.int .i64 p.px,.int .i64 p.py]
structure CeV (w:World) (A:Option Addr) (L:List Ce):Prop where
 cells:0<L.length→∃ b off,A=some ⟨b,off,none⟩∧b<w.heap.size∧∀ i p,L[i]?=some p→w.cell? ⟨b,off+i*9,none⟩=some (.int .i64 p.co)∧w.cell? ⟨b,off+i*9+1,none⟩=some (.int .i64 p.ro)∧w.cell? ⟨b,off+i*9+2,none⟩=some (.int .i64 p.mc)∧w.cell? ⟨b,off+i*9+3,none⟩=some (.int .i64 p.mr)∧w.cell? ⟨b,off+i*9+4,none⟩=some (.int .i64 p.cw)∧w.cell? ⟨b,off+i*9+5,none⟩=some (.int .i64 p.ch)∧w.cell? ⟨b,off+i*9+6,none⟩=some (.int .i64 p.sk)∧w.cell? ⟨b,off+i*9+7,none⟩=some (.int .i64 p.px)∧w.cell? ⟨b,off+i*9+8,none⟩=some (.int .i64 p.py)
theorem CeV.keep {w w':World} {A:Option Addr} {L:List Ce} (h:CeV w A L) (hb:Below w.heap.size w w'):CeV w' A L :=
 ⟨fun h0=>let ⟨b,off,e,hl,hp⟩:=h.cells h0;⟨b,off,e,Nat.lt_of_lt_of_le hl hb.size,fun i p hi=>by
  obtain ⟨c0,c1,c2,c3,c4,c5,c6,c7,c8⟩:=hp i p hi
  exact ⟨(hb.cell (p:=⟨b,off+i*9,none⟩) hl).trans c0,(hb.cell (p:=⟨b,off+i*9+1,none⟩) hl).trans c1,(hb.cell (p:=⟨b,off+i*9+2,none⟩) hl).trans c2,(hb.cell (p:=⟨b,off+i*9+3,none⟩) hl).trans c3,(hb.cell (p:=⟨b,off+i*9+4,none⟩) hl).trans c4,(hb.cell (p:=⟨b,off+i*9+5,none⟩) hl).trans c5,(hb.cell (p:=⟨b,off+i*9+6,none⟩) hl).trans c6,(hb.cell (p:=⟨b,off+i*9+7,none⟩) hl).trans c7,(hb.cell (p:=⟨b,off+i*9+8,none⟩) hl).trans c8⟩⟩⟩
theorem rZe {P:Program} {c:Code} {Q:Exit→Act→World→Prop} {a:Act} {W:World} (F:World→Prop) (hF:F W) (h:∀ W0,F W0→c.wp P Q a W0):c.wp P Q a W:=h W hF
theorem vZ6 {P:Program} {f:Func} {R:Ending→World→Prop} {e:Exit} {a:Act} {W:World} (F:World→Prop) (hF:F W) (h:∀ W0,F W0→bodyPost P f R e a W0):bodyPost P f R e a W:=h W hF
theorem hZz {w:World} {b:Nat} {a0 a1 a2 a3 a4 a5 a6 a7 a8:Value} {T:TypeId} {fz:Nat × Nat} (h:w.heap[b]?=some (.cells #[a0,a1,a2,a3,a4,a5,a6,a7,a8] T fz)) (x0 x1 x2 x3 x4 x5 x6 x7 x8:Value) :
  (((((((((w.setCell ⟨b,0,none⟩ x0).setCell ⟨b,1,none⟩ x1).setCell ⟨b,2,none⟩ x2).setCell ⟨b,3,none⟩ x3).setCell ⟨b,4,none⟩ x4).setCell ⟨b,5,none⟩ x5).setCell ⟨b,6,none⟩ x6).setCell ⟨b,7,none⟩ x7).setCell ⟨b,8,none⟩ x8).heap[b]?=some (.cells #[x0,x1,x2,x3,x4,x5,x6,x7,x8] T fz):=by
 replace h:=putS (i:=0) h x0;simp only [List.setIfInBounds_toArray,List.set_cons_succ,List.set_cons_zero] at h;replace h:=putS (i:=1) h x1;simp only [List.setIfInBounds_toArray,List.set_cons_succ,List.set_cons_zero] at h;replace h:=putS (i:=2) h x2;simp only [List.setIfInBounds_toArray,List.set_cons_succ,List.set_cons_zero] at h;replace h:=putS (i:=3) h x3
 simp only [List.setIfInBounds_toArray,List.set_cons_succ,List.set_cons_zero] at h;replace h:=putS (i:=4) h x4;simp only [List.setIfInBounds_toArray,List.set_cons_succ,List.set_cons_zero] at h;replace h:=putS (i:=5) h x5;simp only [List.setIfInBounds_toArray,List.set_cons_succ,List.set_cons_zero] at h;replace h:=putS (i:=6) h x6
 simp only [List.setIfInBounds_toArray,List.set_cons_succ,List.set_cons_zero] at h;replace h:=putS (i:=7) h x7;simp only [List.setIfInBounds_toArray,List.set_cons_succ,List.set_cons_zero] at h;replace h:=putS (i:=8) h x8;simp only [List.setIfInBounds_toArray,List.set_cons_succ,List.set_cons_zero] at h;exact h
theorem put9g2 {w:World} {b:Nat} {a0 a1 a2 a3 a4 a5 a6 a7 a8:Value} {T:TypeId} {fz:Nat × Nat} (h:w.heap[b]?=some (.cells #[a0,a1,a2,a3,a4,a5,a6,a7,a8] T fz)) (u:Value):(w.setCell ⟨b,2,none⟩ u).heap[b]?=some (.cells #[a0,a1,u,a3,a4,a5,a6,a7,a8] T fz):=by
 replace h:=putS (i:=2) h u
 simpa only [List.setIfInBounds_toArray,List.set_cons_succ,List.set_cons_zero] using h
theorem put9g3 {w:World} {b:Nat} {a0 a1 a2 a3 a4 a5 a6 a7 a8:Value} {T:TypeId} {fz:Nat × Nat} (h:w.heap[b]?=some (.cells #[a0,a1,a2,a3,a4,a5,a6,a7,a8] T fz)) (u:Value):(w.setCell ⟨b,3,none⟩ u).heap[b]?=some (.cells #[a0,a1,a2,u,a4,a5,a6,a7,a8] T fz):=by
 replace h:=putS (i:=3) h u
 simpa only [List.setIfInBounds_toArray,List.set_cons_succ,List.set_cons_zero] using h
theorem put9g7 {w:World} {b:Nat} {a0 a1 a2 a3 a4 a5 a6 a7 a8:Value} {T:TypeId} {fz:Nat × Nat} (h:w.heap[b]?=some (.cells #[a0,a1,a2,a3,a4,a5,a6,a7,a8] T fz)) (u:Value):(w.setCell ⟨b,7,none⟩ u).heap[b]?=some (.cells #[a0,a1,a2,a3,a4,a5,a6,u,a8] T fz):=by
 replace h:=putS (i:=7) h u
 simpa only [List.setIfInBounds_toArray,List.set_cons_succ,List.set_cons_zero] using h
theorem put9g8 {w:World} {b:Nat} {a0 a1 a2 a3 a4 a5 a6 a7 a8:Value} {T:TypeId} {fz:Nat × Nat} (h:w.heap[b]?=some (.cells #[a0,a1,a2,a3,a4,a5,a6,a7,a8] T fz)) (u:Value):(w.setCell ⟨b,8,none⟩ u).heap[b]?=some (.cells #[a0,a1,a2,a3,a4,a5,a6,a7,u] T fz):=by
 replace h:=putS (i:=8) h u
 simpa only [List.setIfInBounds_toArray,List.set_cons_succ,List.set_cons_zero] using h
theorem chg9g {S:List Nat} {a w:World} {b:Nat} (h:Chg S a w) (hb:a.heap.size≤b) (x0 x1 x2 x3 x4 x5 x6 x7 x8:Value):Chg S a (((((((((w.setCell ⟨b,0,none⟩ x0).setCell ⟨b,1,none⟩ x1).setCell ⟨b,2,none⟩ x2).setCell ⟨b,3,none⟩ x3).setCell ⟨b,4,none⟩ x4).setCell ⟨b,5,none⟩ x5).setCell ⟨b,6,none⟩ x6).setCell ⟨b,7,none⟩ x7).setCell ⟨b,8,none⟩ x8):=(((((((((h.setCell (p:=⟨b,0,none⟩) (.inr hb) x0).setCell (p:=⟨b,1,none⟩) (.inr hb) x1).setCell (p:=⟨b,2,none⟩) (.inr hb) x2).setCell (p:=⟨b,3,none⟩) (.inr hb) x3).setCell (p:=⟨b,4,none⟩) (.inr hb) x4).setCell (p:=⟨b,5,none⟩) (.inr hb) x5).setCell (p:=⟨b,6,none⟩) (.inr hb) x6).setCell (p:=⟨b,7,none⟩) (.inr hb) x7).setCell (p:=⟨b,8,none⟩) (.inr hb) x8)
theorem rd9g {B rb b:Nat} {A:Option Addr} {n c m:Nat} {w:World} (h:Rd B rb A n c m w) (hB:B≤b) (hb:b≠rb) (x0 x1 x2 x3 x4 x5 x6 x7 x8:Value):Rd B rb A n c m (((((((((w.setCell ⟨b,0,none⟩ x0).setCell ⟨b,1,none⟩ x1).setCell ⟨b,2,none⟩ x2).setCell ⟨b,3,none⟩ x3).setCell ⟨b,4,none⟩ x4).setCell ⟨b,5,none⟩ x5).setCell ⟨b,6,none⟩ x6).setCell ⟨b,7,none⟩ x7).setCell ⟨b,8,none⟩ x8):=(((((((((h.setCell (p:=⟨b,0,none⟩) hB hb x0).setCell (p:=⟨b,1,none⟩) hB hb x1).setCell (p:=⟨b,2,none⟩) hB hb x2).setCell (p:=⟨b,3,none⟩) hB hb x3).setCell (p:=⟨b,4,none⟩) hB hb x4).setCell (p:=⟨b,5,none⟩) hB hb x5).setCell (p:=⟨b,6,none⟩) hB hb x6).setCell (p:=⟨b,7,none⟩) hB hb x7).setCell (p:=⟨b,8,none⟩) hB hb x8)
theorem gZb {B rb:Nat} {A:Option Addr} {l c m:Nat} (n1 n2:Nat) (w:World) (h:Rd B rb A l c m w) (hm:m≤600000) (h1:1≤n1) (h15:n1≤5) (h2:1≤n2) (h25:n2≤5) :
  Calls Tryz.prog 148 #[.pointer (some ⟨rb,0,none⟩),.int .i64 (n1:Int),.int .i64 (n2:Int)] w fun e w'=>(∃ p:Ce,e=.returned (.agg #[.int .i64 p.co,.int .i64 p.ro,.int .i64 p.mc,.int .i64 p.mr,.int .i64 p.cw,.int .i64 p.ch,.int .i64 p.sk,.int .i64 p.px,.int .i64 p.py]))∧Rd B rb A l c (m+20) w'∧Chg [rb] w w':=by
 have hlt:=h.lt;have hBrb:=h.base
 go_enter Tryz.func148,Tryz.ntmps148
 go_upto_region 1 with (fail)
 refine rZe (fun W=>W.heap[w.heap.size]?=some (.cells #[.int .i64 0,.int .i64 0,.int .i64 0,.int .i64 0,.int .i64 0,.int .i64 0,.int .i64 0,.int .i64 0,.int .i64 0] 39 (0,0))∧Rd B rb A l c m W∧Chg [rb] w W∧w.heap.size<W.heap.size) ⟨newS _ _,h.alloc _,(Chg.refl _ _).alloc _,by simp⟩ (fun W0 h0=>?_);obtain ⟨hz,hr0,hc0,hs0⟩:=h0;have HZ:=hD hz;have HC:=hD hc0;clear hz hc0
 go_wp2_with fail
 with_reducible refine (kZe (n1:Int) _ hr0 (by omega)).mono ?_
 rintro e w1 ⟨⟨v1,rfl,hp⟩,hr1,hc1⟩;obtain ⟨v1a,v1b⟩:=hp (by omega);replace HZ:=hD ((hc1.block _ (ltS HZ.out) (by simp;omega)).trans HZ.out);have hs1:=hc1.size;replace HC:=hD (HC.out.trans hc1);clear hc1;clear hp
 go_wp2_with fail
 with_reducible refine (kZe (n2:Int) _ hr1 (by omega)).mono ?_
 rintro e w2 ⟨⟨v2,rfl,hp⟩,hr2,hc2⟩;obtain ⟨v2a,v2b⟩:=hp (by omega);replace HZ:=hD ((hc2.block _ (ltS HZ.out) (by simp;omega)).trans HZ.out);have hs2:=hc2.size;replace HC:=hD (HC.out.trans hc2);clear hc2;clear hp
 go_wp2_with fail
 with_reducible refine (qZd (0) 30 _ hr2 (by omega) (by simp) (by omega) (by omega) (by simp [isIn])).mono ?_
 rintro e w3 ⟨⟨z3,rfl,z3a,z3b⟩,hr3,hc3⟩;replace HZ:=hD ((hc3.block _ (ltS HZ.out) (by simp;omega)).trans HZ.out);have hs3:=hc3.size;replace HC:=hD (HC.out.trans hc3);clear hc3
 go_wp2_with fail
 with_reducible refine (qZd (0) 30 _ hr3 (by omega) (by simp) (by omega) (by omega) (by simp [isIn])).mono ?_
 rintro e w4 ⟨⟨z4,rfl,z4a,z4b⟩,hr4,hc4⟩;replace HZ:=hD ((hc4.block _ (ltS HZ.out) (by simp;omega)).trans HZ.out);have hs4:=hc4.size;replace HC:=hD (HC.out.trans hc4);clear hc4
 go_wp2_with fail
 with_reducible refine (kZe 16 _ hr4 (by omega)).mono ?_
 rintro e w5 ⟨⟨v5,rfl,hp⟩,hr5,hc5⟩;obtain ⟨v5a,v5b⟩:=hp (by omega);replace HZ:=hD ((hc5.block _ (ltS HZ.out) (by simp;omega)).trans HZ.out);have hs5:=hc5.size;replace HC:=hD (HC.out.trans hc5);clear hc5;clear hp
 go_wp2_with fail
 with_reducible refine (qZd (0) 15 _ hr5 (by omega) (by simp) (by omega) (by omega) (by simp [isIn];omega)).mono ?_
 rintro e w6 ⟨⟨z6,rfl,z6a,z6b⟩,hr6,hc6⟩;replace HZ:=hD ((hc6.block _ (ltS HZ.out) (by simp;omega)).trans HZ.out);have hs6:=hc6.size;replace HC:=hD (HC.out.trans hc6);clear hc6;have HR:=hD hr6;clear hr0 hr1 hr2 hr3 hr4 hr5 hr6
 have hB6:B≤w6.heap.size:=by omega
 have hn6:w6.heap.size≠rb:=by omega
 have hn60:w.heap.size≠w6.heap.size:=by omega
 go_upto_region 2 with (fail)
 refine rZe (fun W=>W.heap[w6.heap.size]?=some (.cells #[.int .i64 v1,.int .i64 v2,.int .i64 0,.int .i64 0,.int .i64 z3,.int .i64 z4,.int .i64 z6,.int .i64 0,.int .i64 0] 39 (0,0))∧W.heap[w.heap.size]?=some (.cells #[.int .i64 0,.int .i64 0,.int .i64 0,.int .i64 0,.int .i64 0,.int .i64 0,.int .i64 0,.int .i64 0,.int .i64 0] 39 (0,0))∧Rd B rb A l c (m+6) W∧Chg [rb] w W) ⟨newS _ _,(Below.heap_alloc _ _ _ (ltS HZ.out)).trans HZ.out,HR.out.alloc _,HC.out.alloc _⟩ (fun W1 h1=>?_)
 clear HZ HR HC;obtain ⟨hx,hz,hr,hc⟩:=h1;have HX:=hD hx;have HZ:=hD hz;have HR:=hD hr;have HC:=hD hc;clear hx hz hr hc;have hsw:=HC.out.size;have x2:=jZc HX.out 2;have f2:=jZm HX.out 2;replace HX:=hD (put9g2 HX.out (.int .i64 1));replace HZ:=hD ((Below.heap_setCell _ ⟨w6.heap.size,2,none⟩ (.int .i64 1) w.heap.size (by simp;omega)).trans HZ.out)
 replace HR:=hD (HR.out.setCell (p:=⟨w6.heap.size,2,none⟩) (by simp;omega) (by simp;omega) (.int .i64 1));replace HC:=hD (HC.out.setCell (p:=⟨w6.heap.size,2,none⟩) (.inr (by simp;omega)) (.int .i64 1));have x3:=jZc HX.out 3;have f3:=jZm HX.out 3;replace HX:=hD (put9g3 HX.out (.int .i64 1))
 replace HZ:=hD ((Below.heap_setCell _ ⟨w6.heap.size,3,none⟩ (.int .i64 1) w.heap.size (by simp;omega)).trans HZ.out);replace HR:=hD (HR.out.setCell (p:=⟨w6.heap.size,3,none⟩) (by simp;omega) (by simp;omega) (.int .i64 1));replace HC:=hD (HC.out.setCell (p:=⟨w6.heap.size,3,none⟩) (.inr (by simp;omega)) (.int .i64 1))
 go_upto_region 4 with (fail)
 refine rZe (fun W=>W.heap[w6.heap.size]?=some (.cells #[.int .i64 v1,.int .i64 v2,.int .i64 1,.int .i64 1,.int .i64 z3,.int .i64 z4,.int .i64 z6,.int .i64 0,.int .i64 0] 39 (0,0))∧W.heap[w.heap.size]?=some (.cells #[.int .i64 0,.int .i64 0,.int .i64 0,.int .i64 0,.int .i64 0,.int .i64 0,.int .i64 0,.int .i64 0,.int .i64 0] 39 (0,0))∧Rd B rb A l c (m+6) W∧Chg [rb] w W) ⟨HX.out,HZ.out,HR.out,HC.out⟩ (fun W2 h2'=>?_)
 clear HX HZ HR HC x2 x3 f2 f3;obtain ⟨hx,hz,hr,hc⟩:=h2';have HX:=hD hx;have HZ:=hD hz;have HR:=hD hr;have HC:=hD hc;clear hx hz hr hc
 go_wp2_with fail
 with_reducible refine (kZe 3 _ HR.out (by omega)).mono ?_
 rintro e w7 ⟨⟨v7,rfl,-⟩,hr7,hc7⟩;replace HX:=hD ((hc7.block _ (ltS HX.out) (by simp;omega)).trans HX.out);replace HZ:=hD ((hc7.block _ (ltS HZ.out) (by simp;omega)).trans HZ.out);replace HC:=hD (HC.out.trans hc7);replace HR:=hD hr7;clear hr7 hc7
 by_cases hv7:v7=0
 ·subst hv7;have y0:=jZc HX.out 0
  have hdn:0≤(n1:Int)-v1∧(n1:Int)-v1≤5:=by omega
  obtain ⟨hdn0,hdn1⟩:=hdn
  go_wp2_with fail
  with_reducible refine (fZb ((n1:Int)-v1) _ HR.out (by omega)).mono ?_
  rintro e w12 ⟨⟨v12,rfl,hp,hq⟩,hr12,hc12⟩
  have hv12:0≤v12∧v12≤5:=by
   by_cases hh:1≤(n1:Int)-v1
   ·have:=hp hh;omega
   ·have:=hq (by omega);omega
  obtain ⟨hv12a,hv12b⟩:=hv12;replace HX:=hD ((hc12.block _ (ltS HX.out) (by simp;omega)).trans HX.out);replace HZ:=hD ((hc12.block _ (ltS HZ.out) (by simp;omega)).trans HZ.out);replace HC:=hD (HC.out.trans hc12);replace HR:=hD hr12;clear hr12 hc12 hp hq y0 hdn0 hdn1;have x2:=jZc HX.out 2;have f2:=jZm HX.out 2;replace HX:=hD (put9g2 HX.out (.int .i64 (1+v12)))
  replace HZ:=hD ((Below.heap_setCell _ ⟨w6.heap.size,2,none⟩ (.int .i64 (1+v12)) w.heap.size (by simp;omega)).trans HZ.out);replace HR:=hD (HR.out.setCell (p:=⟨w6.heap.size,2,none⟩) (by simp;omega) (by simp;omega) (.int .i64 (1+v12)));replace HC:=hD (HC.out.setCell (p:=⟨w6.heap.size,2,none⟩) (.inr (by simp;omega)) (.int .i64 (1+v12)))
  go_upto_region 6 with (fail)
  refine rZe (fun W=>W.heap[w6.heap.size]?=some (.cells #[.int .i64 v1,.int .i64 v2,.int .i64 (1+v12),.int .i64 1,.int .i64 z3,.int .i64 z4,.int .i64 z6,.int .i64 0,.int .i64 0] 39 (0,0))∧W.heap[w.heap.size]?=some (.cells #[.int .i64 0,.int .i64 0,.int .i64 0,.int .i64 0,.int .i64 0,.int .i64 0,.int .i64 0,.int .i64 0,.int .i64 0] 39 (0,0))∧Rd B rb A l c (m+8) W∧Chg [rb] w W) ⟨HX.out,HZ.out,HR.out.mono (by omega),HC.out⟩ (fun W12 h9=>?_)
  clear HX HZ HR HC x2 f2;obtain ⟨hx,hz,hr,hc⟩:=h9;have HX:=hD hx;have HZ:=hD hz;have HR:=hD hr;have HC:=hD hc;clear hx hz hr hc;have y1:=jZc HX.out 1
  have hdn:0≤(n2:Int)-v2∧(n2:Int)-v2≤5:=by omega
  obtain ⟨hdn0,hdn1⟩:=hdn
  go_wp2_with fail
  with_reducible refine (fZb ((n2:Int)-v2) _ HR.out (by omega)).mono ?_
  rintro e w13 ⟨⟨v13,rfl,hp,hq⟩,hr13,hc13⟩
  have hv13:0≤v13∧v13≤5:=by
   by_cases hh:1≤(n2:Int)-v2
   ·have:=hp hh;omega
   ·have:=hq (by omega);omega
  obtain ⟨hv13a,hv13b⟩:=hv13;replace HX:=hD ((hc13.block _ (ltS HX.out) (by simp;omega)).trans HX.out);replace HZ:=hD ((hc13.block _ (ltS HZ.out) (by simp;omega)).trans HZ.out);replace HC:=hD (HC.out.trans hc13);replace HR:=hD hr13;clear hr13 hc13 hp hq y1 hdn0 hdn1;have x3:=jZc HX.out 3;have f3:=jZm HX.out 3;replace HX:=hD (put9g3 HX.out (.int .i64 (1+v13)))
  replace HZ:=hD ((Below.heap_setCell _ ⟨w6.heap.size,3,none⟩ (.int .i64 (1+v13)) w.heap.size (by simp;omega)).trans HZ.out);replace HR:=hD (HR.out.setCell (p:=⟨w6.heap.size,3,none⟩) (by simp;omega) (by simp;omega) (.int .i64 (1+v13)));replace HC:=hD (HC.out.setCell (p:=⟨w6.heap.size,3,none⟩) (.inr (by simp;omega)) (.int .i64 (1+v13)))
  go_upto_region 7 with (fail)
  refine rZe (fun W=>W.heap[w6.heap.size]?=some (.cells #[.int .i64 v1,.int .i64 v2,.int .i64 (1+v12),.int .i64 (1+v13),.int .i64 z3,.int .i64 z4,.int .i64 z6,.int .i64 0,.int .i64 0] 39 (0,0))∧W.heap[w.heap.size]?=some (.cells #[.int .i64 0,.int .i64 0,.int .i64 0,.int .i64 0,.int .i64 0,.int .i64 0,.int .i64 0,.int .i64 0,.int .i64 0] 39 (0,0))∧Rd B rb A l c (m+9) W∧Chg [rb] w W) ⟨HX.out,HZ.out,HR.out.mono (by omega),HC.out⟩ (fun W13 h9=>?_)
  clear HX HZ HR HC x3 f3;obtain ⟨hx,hz,hr,hc⟩:=h9;have HX:=hD hx;have HZ:=hD hz;have HR:=hD hr;have HC:=hD hc;clear hx hz hr hc
  go_wp2_with fail
  with_reducible refine (kZe 3 _ HR.out (by omega)).mono ?_
  rintro e w8 ⟨⟨v8,rfl,-⟩,hr8,hc8⟩;replace HX:=hD ((hc8.block _ (ltS HX.out) (by simp;omega)).trans HX.out);replace HZ:=hD ((hc8.block _ (ltS HZ.out) (by simp;omega)).trans HZ.out);replace HC:=hD (HC.out.trans hc8);replace HR:=hD hr8;clear hr8 hc8
  by_cases hv8:v8=0
  ·subst hv8
   go_wp2_with fail
   with_reducible refine (kZe 4 _ HR.out (by omega)).mono ?_
   rintro e w10 ⟨⟨v10,rfl,-⟩,hr10,hc10⟩;replace HX:=hD ((hc10.block _ (ltS HX.out) (by simp;omega)).trans HX.out);replace HZ:=hD ((hc10.block _ (ltS HZ.out) (by simp;omega)).trans HZ.out);replace HC:=hD (HC.out.trans hc10);replace HR:=hD hr10;clear hr10 hc10;have x7:=jZc HX.out 7;have f7:=jZm HX.out 7;replace HX:=hD (put9g7 HX.out (.int .i64 v10))
   replace HZ:=hD ((Below.heap_setCell _ ⟨w6.heap.size,7,none⟩ (.int .i64 v10) w.heap.size (by simp;omega)).trans HZ.out);replace HR:=hD (HR.out.setCell (p:=⟨w6.heap.size,7,none⟩) (by simp;omega) (by simp;omega) (.int .i64 v10));replace HC:=hD (HC.out.setCell (p:=⟨w6.heap.size,7,none⟩) (.inr (by simp;omega)) (.int .i64 v10))
   go_upto_region 9 with (fail)
   refine rZe (fun W=>W.heap[w6.heap.size]?=some (.cells #[.int .i64 v1,.int .i64 v2,.int .i64 (1+v12),.int .i64 (1+v13),.int .i64 z3,.int .i64 z4,.int .i64 z6,.int .i64 v10,.int .i64 0] 39 (0,0))∧W.heap[w.heap.size]?=some (.cells #[.int .i64 0,.int .i64 0,.int .i64 0,.int .i64 0,.int .i64 0,.int .i64 0,.int .i64 0,.int .i64 0,.int .i64 0] 39 (0,0))∧Rd B rb A l c (m+12) W∧Chg [rb] w W) ⟨HX.out,HZ.out,HR.out.mono (by omega),HC.out⟩ (fun W10 h9=>?_)
   clear HX HZ HR HC x7 f7;obtain ⟨hx,hz,hr,hc⟩:=h9;have HX:=hD hx;have HZ:=hD hz;have HR:=hD hr;have HC:=hD hc;clear hx hz hr hc
   go_wp2_with fail
   with_reducible refine (kZe 4 _ HR.out (by omega)).mono ?_
   rintro e w11 ⟨⟨v11,rfl,-⟩,hr11,hc11⟩;replace HX:=hD ((hc11.block _ (ltS HX.out) (by simp;omega)).trans HX.out);replace HZ:=hD ((hc11.block _ (ltS HZ.out) (by simp;omega)).trans HZ.out);replace HC:=hD (HC.out.trans hc11);replace HR:=hD hr11;clear hr11 hc11;have x8:=jZc HX.out 8;have f8:=jZm HX.out 8;replace HX:=hD (put9g8 HX.out (.int .i64 v11))
   replace HZ:=hD ((Below.heap_setCell _ ⟨w6.heap.size,8,none⟩ (.int .i64 v11) w.heap.size (by simp;omega)).trans HZ.out);replace HR:=hD (HR.out.setCell (p:=⟨w6.heap.size,8,none⟩) (by simp;omega) (by simp;omega) (.int .i64 v11));replace HC:=hD (HC.out.setCell (p:=⟨w6.heap.size,8,none⟩) (.inr (by simp;omega)) (.int .i64 v11))
   go_upto_region 10 with (fail)
   refine rZe (fun W=>W.heap[w6.heap.size]?=some (.cells #[.int .i64 v1,.int .i64 v2,.int .i64 (1+v12),.int .i64 (1+v13),.int .i64 z3,.int .i64 z4,.int .i64 z6,.int .i64 v10,.int .i64 v11] 39 (0,0))∧W.heap[w.heap.size]?=some (.cells #[.int .i64 0,.int .i64 0,.int .i64 0,.int .i64 0,.int .i64 0,.int .i64 0,.int .i64 0,.int .i64 0,.int .i64 0] 39 (0,0))∧Rd B rb A l c (m+13) W∧Chg [rb] w W) ⟨HX.out,HZ.out,HR.out.mono (by omega),HC.out⟩ (fun W11 h9=>?_)
   clear HX HZ HR HC x8 f8;obtain ⟨hx,hz,hr,hc⟩:=h9;have HX:=hD hx;have HZ:=hD hz;have HR:=hD hr;have HC:=hD hc;clear hx hz hr hc;have y0:=jZc HX.out 0;have y1:=jZc HX.out 1;have y2:=jZc HX.out 2;have y3:=jZc HX.out 3;have y4:=jZc HX.out 4;have y5:=jZc HX.out 5;have y6:=jZc HX.out 6;have y7:=jZc HX.out 7;have y8:=jZc HX.out 8;have u0:=jZc HZ.out 0;have u1:=jZc HZ.out 1
   have u2:=jZc HZ.out 2;have u3:=jZc HZ.out 3;have u4:=jZc HZ.out 4;have u5:=jZc HZ.out 5;have u6:=jZc HZ.out 6;have u7:=jZc HZ.out 7;have u8:=jZc HZ.out 8;have g0:=jZm HZ.out 0;have g1:=jZm HZ.out 1;have g2:=jZm HZ.out 2;have g3:=jZm HZ.out 3;have g4:=jZm HZ.out 4;have g5:=jZm HZ.out 5;have g6:=jZm HZ.out 6;have g7:=jZm HZ.out 7
   have g8:=jZm HZ.out 8;have hzl:=ltS HZ.out;have E1:=hD (hZz HZ.out (.int .i64 v1) (.int .i64 v2) (.int .i64 (1+v12)) (.int .i64 (1+v13)) (.int .i64 z3) (.int .i64 z4) (.int .i64 z6) (.int .i64 v10) (.int .i64 v11));go_wp2
   refine vZ6 (fun W=>W.heap[w.heap.size]?=some (.cells #[.int .i64 v1,.int .i64 v2,.int .i64 (1+v12),.int .i64 (1+v13),.int .i64 z3,.int .i64 z4,.int .i64 z6,.int .i64 v10,.int .i64 v11] 39 (0,0))∧Rd B rb A l c (m+20) W∧Chg [rb] w W) ⟨E1.out,rd9g (HR.out.mono (by omega)) (by omega) (by omega) _ _ _ _ _ _ _ _ _,chg9g HC.out (Nat.le_refl _) _ _ _ _ _ _ _ _ _⟩ ?_
   clear HX HZ HR HC E1 y0 y1 y2 y3 y4 y5 y6 y7 y8 u0 u1 u2 u3 u4 u5 u6 u7 u8 g0 g1 g2 g3 g4 g5 g6 g7 g8;rintro W ⟨hp,hrW,hcW⟩;have q0:=jZc hp 0;have q1:=jZc hp 1;have q2:=jZc hp 2;have q3:=jZc hp 3;have q4:=jZc hp 4;have q5:=jZc hp 5;have q6:=jZc hp 6;have q7:=jZc hp 7;have q8:=jZc hp 8
   exact bodyPost_ret (v:=.agg #[.int .i64 v1,.int .i64 v2,.int .i64 (1+v12),.int .i64 (1+v13),.int .i64 z3,.int .i64 z4,.int .i64 z6,.int .i64 v10,.int .i64 v11]) (by simp only [results,Tryz.results148];go_simp) rfl ⟨⟨⟨v1,v2,1+v12,1+v13,z3,z4,z6,v10,v11⟩,rfl⟩,hrW,hcW⟩
  ·have e8:(v8 == 0)=false:=by simpa using hv8
   have y0:=jZc HX.out 0;have y1:=jZc HX.out 1;have y2:=jZc HX.out 2;have y3:=jZc HX.out 3;have y4:=jZc HX.out 4;have y5:=jZc HX.out 5;have y6:=jZc HX.out 6;have y7:=jZc HX.out 7;have y8:=jZc HX.out 8;have u0:=jZc HZ.out 0;have u1:=jZc HZ.out 1;have u2:=jZc HZ.out 2;have u3:=jZc HZ.out 3;have u4:=jZc HZ.out 4;have u5:=jZc HZ.out 5;have u6:=jZc HZ.out 6
   have u7:=jZc HZ.out 7;have u8:=jZc HZ.out 8;have g0:=jZm HZ.out 0;have g1:=jZm HZ.out 1;have g2:=jZm HZ.out 2;have g3:=jZm HZ.out 3;have g4:=jZm HZ.out 4;have g5:=jZm HZ.out 5;have g6:=jZm HZ.out 6;have g7:=jZm HZ.out 7;have g8:=jZm HZ.out 8;have hzl:=ltS HZ.out
   have E1:=hD (hZz HZ.out (.int .i64 v1) (.int .i64 v2) (.int .i64 (1+v12)) (.int .i64 (1+v13)) (.int .i64 z3) (.int .i64 z4) (.int .i64 z6) (.int .i64 0) (.int .i64 0));go_wp2
   refine vZ6 (fun W=>W.heap[w.heap.size]?=some (.cells #[.int .i64 v1,.int .i64 v2,.int .i64 (1+v12),.int .i64 (1+v13),.int .i64 z3,.int .i64 z4,.int .i64 z6,.int .i64 0,.int .i64 0] 39 (0,0))∧Rd B rb A l c (m+20) W∧Chg [rb] w W) ⟨E1.out,rd9g (HR.out.mono (by omega)) (by omega) (by omega) _ _ _ _ _ _ _ _ _,chg9g HC.out (Nat.le_refl _) _ _ _ _ _ _ _ _ _⟩ ?_
   clear HX HZ HR HC E1 y0 y1 y2 y3 y4 y5 y6 y7 y8 u0 u1 u2 u3 u4 u5 u6 u7 u8 g0 g1 g2 g3 g4 g5 g6 g7 g8;rintro W ⟨hp,hrW,hcW⟩;have q0:=jZc hp 0;have q1:=jZc hp 1;have q2:=jZc hp 2;have q3:=jZc hp 3;have q4:=jZc hp 4;have q5:=jZc hp 5;have q6:=jZc hp 6;have q7:=jZc hp 7;have q8:=jZc hp 8
   exact bodyPost_ret (v:=.agg #[.int .i64 v1,.int .i64 v2,.int .i64 (1+v12),.int .i64 (1+v13),.int .i64 z3,.int .i64 z4,.int .i64 z6,.int .i64 0,.int .i64 0]) (by simp only [results,Tryz.results148];go_simp) rfl ⟨⟨⟨v1,v2,1+v12,1+v13,z3,z4,z6,0,0⟩,rfl⟩,hrW,hcW⟩
 ·have e7:(v7 == 0)=false:=by simpa using hv7
  go_wp2_with fail
  with_reducible refine (kZe 3 _ HR.out (by omega)).mono ?_
  rintro e w8 ⟨⟨v8,rfl,-⟩,hr8,hc8⟩;replace HX:=hD ((hc8.block _ (ltS HX.out) (by simp;omega)).trans HX.out);replace HZ:=hD ((hc8.block _ (ltS HZ.out) (by simp;omega)).trans HZ.out);replace HC:=hD (HC.out.trans hc8);replace HR:=hD hr8;clear hr8 hc8
  by_cases hv8:v8=0
  ·subst hv8
   go_wp2_with fail
   with_reducible refine (kZe 4 _ HR.out (by omega)).mono ?_
   rintro e w10 ⟨⟨v10,rfl,-⟩,hr10,hc10⟩;replace HX:=hD ((hc10.block _ (ltS HX.out) (by simp;omega)).trans HX.out);replace HZ:=hD ((hc10.block _ (ltS HZ.out) (by simp;omega)).trans HZ.out);replace HC:=hD (HC.out.trans hc10);replace HR:=hD hr10;clear hr10 hc10;have x7:=jZc HX.out 7;have f7:=jZm HX.out 7;replace HX:=hD (put9g7 HX.out (.int .i64 v10))
   replace HZ:=hD ((Below.heap_setCell _ ⟨w6.heap.size,7,none⟩ (.int .i64 v10) w.heap.size (by simp;omega)).trans HZ.out);replace HR:=hD (HR.out.setCell (p:=⟨w6.heap.size,7,none⟩) (by simp;omega) (by simp;omega) (.int .i64 v10));replace HC:=hD (HC.out.setCell (p:=⟨w6.heap.size,7,none⟩) (.inr (by simp;omega)) (.int .i64 v10))
   go_upto_region 9 with (fail)
   refine rZe (fun W=>W.heap[w6.heap.size]?=some (.cells #[.int .i64 v1,.int .i64 v2,.int .i64 1,.int .i64 1,.int .i64 z3,.int .i64 z4,.int .i64 z6,.int .i64 v10,.int .i64 0] 39 (0,0))∧W.heap[w.heap.size]?=some (.cells #[.int .i64 0,.int .i64 0,.int .i64 0,.int .i64 0,.int .i64 0,.int .i64 0,.int .i64 0,.int .i64 0,.int .i64 0] 39 (0,0))∧Rd B rb A l c (m+10) W∧Chg [rb] w W) ⟨HX.out,HZ.out,HR.out.mono (by omega),HC.out⟩ (fun W10 h9=>?_)
   clear HX HZ HR HC x7 f7;obtain ⟨hx,hz,hr,hc⟩:=h9;have HX:=hD hx;have HZ:=hD hz;have HR:=hD hr;have HC:=hD hc;clear hx hz hr hc
   go_wp2_with fail
   with_reducible refine (kZe 4 _ HR.out (by omega)).mono ?_
   rintro e w11 ⟨⟨v11,rfl,-⟩,hr11,hc11⟩;replace HX:=hD ((hc11.block _ (ltS HX.out) (by simp;omega)).trans HX.out);replace HZ:=hD ((hc11.block _ (ltS HZ.out) (by simp;omega)).trans HZ.out);replace HC:=hD (HC.out.trans hc11);replace HR:=hD hr11;clear hr11 hc11;have x8:=jZc HX.out 8;have f8:=jZm HX.out 8;replace HX:=hD (put9g8 HX.out (.int .i64 v11))
   replace HZ:=hD ((Below.heap_setCell _ ⟨w6.heap.size,8,none⟩ (.int .i64 v11) w.heap.size (by simp;omega)).trans HZ.out);replace HR:=hD (HR.out.setCell (p:=⟨w6.heap.size,8,none⟩) (by simp;omega) (by simp;omega) (.int .i64 v11));replace HC:=hD (HC.out.setCell (p:=⟨w6.heap.size,8,none⟩) (.inr (by simp;omega)) (.int .i64 v11))
   go_upto_region 10 with (fail)
   refine rZe (fun W=>W.heap[w6.heap.size]?=some (.cells #[.int .i64 v1,.int .i64 v2,.int .i64 1,.int .i64 1,.int .i64 z3,.int .i64 z4,.int .i64 z6,.int .i64 v10,.int .i64 v11] 39 (0,0))∧W.heap[w.heap.size]?=some (.cells #[.int .i64 0,.int .i64 0,.int .i64 0,.int .i64 0,.int .i64 0,.int .i64 0,.int .i64 0,.int .i64 0,.int .i64 0] 39 (0,0))∧Rd B rb A l c (m+11) W∧Chg [rb] w W) ⟨HX.out,HZ.out,HR.out.mono (by omega),HC.out⟩ (fun W11 h9=>?_)
   clear HX HZ HR HC x8 f8;obtain ⟨hx,hz,hr,hc⟩:=h9;have HX:=hD hx;have HZ:=hD hz;have HR:=hD hr;have HC:=hD hc;clear hx hz hr hc;have y0:=jZc HX.out 0;have y1:=jZc HX.out 1;have y2:=jZc HX.out 2;have y3:=jZc HX.out 3;have y4:=jZc HX.out 4;have y5:=jZc HX.out 5;have y6:=jZc HX.out 6;have y7:=jZc HX.out 7;have y8:=jZc HX.out 8;have u0:=jZc HZ.out 0;have u1:=jZc HZ.out 1
   have u2:=jZc HZ.out 2;have u3:=jZc HZ.out 3;have u4:=jZc HZ.out 4;have u5:=jZc HZ.out 5;have u6:=jZc HZ.out 6;have u7:=jZc HZ.out 7;have u8:=jZc HZ.out 8;have g0:=jZm HZ.out 0;have g1:=jZm HZ.out 1;have g2:=jZm HZ.out 2;have g3:=jZm HZ.out 3;have g4:=jZm HZ.out 4;have g5:=jZm HZ.out 5;have g6:=jZm HZ.out 6;have g7:=jZm HZ.out 7
   have g8:=jZm HZ.out 8;have hzl:=ltS HZ.out;have E1:=hD (hZz HZ.out (.int .i64 v1) (.int .i64 v2) (.int .i64 1) (.int .i64 1) (.int .i64 z3) (.int .i64 z4) (.int .i64 z6) (.int .i64 v10) (.int .i64 v11));go_wp2
   refine vZ6 (fun W=>W.heap[w.heap.size]?=some (.cells #[.int .i64 v1,.int .i64 v2,.int .i64 1,.int .i64 1,.int .i64 z3,.int .i64 z4,.int .i64 z6,.int .i64 v10,.int .i64 v11] 39 (0,0))∧Rd B rb A l c (m+20) W∧Chg [rb] w W) ⟨E1.out,rd9g (HR.out.mono (by omega)) (by omega) (by omega) _ _ _ _ _ _ _ _ _,chg9g HC.out (Nat.le_refl _) _ _ _ _ _ _ _ _ _⟩ ?_
   clear HX HZ HR HC E1 y0 y1 y2 y3 y4 y5 y6 y7 y8 u0 u1 u2 u3 u4 u5 u6 u7 u8 g0 g1 g2 g3 g4 g5 g6 g7 g8;rintro W ⟨hp,hrW,hcW⟩;have q0:=jZc hp 0;have q1:=jZc hp 1;have q2:=jZc hp 2;have q3:=jZc hp 3;have q4:=jZc hp 4;have q5:=jZc hp 5;have q6:=jZc hp 6;have q7:=jZc hp 7;have q8:=jZc hp 8
   exact bodyPost_ret (v:=.agg #[.int .i64 v1,.int .i64 v2,.int .i64 1,.int .i64 1,.int .i64 z3,.int .i64 z4,.int .i64 z6,.int .i64 v10,.int .i64 v11]) (by simp only [results,Tryz.results148];go_simp) rfl ⟨⟨⟨v1,v2,1,1,z3,z4,z6,v10,v11⟩,rfl⟩,hrW,hcW⟩
  ·have e8:(v8 == 0)=false:=by simpa using hv8
   have y0:=jZc HX.out 0;have y1:=jZc HX.out 1;have y2:=jZc HX.out 2;have y3:=jZc HX.out 3;have y4:=jZc HX.out 4;have y5:=jZc HX.out 5;have y6:=jZc HX.out 6;have y7:=jZc HX.out 7;have y8:=jZc HX.out 8;have u0:=jZc HZ.out 0;have u1:=jZc HZ.out 1;have u2:=jZc HZ.out 2;have u3:=jZc HZ.out 3;have u4:=jZc HZ.out 4;have u5:=jZc HZ.out 5;have u6:=jZc HZ.out 6
   have u7:=jZc HZ.out 7;have u8:=jZc HZ.out 8;have g0:=jZm HZ.out 0;have g1:=jZm HZ.out 1;have g2:=jZm HZ.out 2;have g3:=jZm HZ.out 3;have g4:=jZm HZ.out 4;have g5:=jZm HZ.out 5;have g6:=jZm HZ.out 6;have g7:=jZm HZ.out 7;have g8:=jZm HZ.out 8;have hzl:=ltS HZ.out
   have E1:=hD (hZz HZ.out (.int .i64 v1) (.int .i64 v2) (.int .i64 1) (.int .i64 1) (.int .i64 z3) (.int .i64 z4) (.int .i64 z6) (.int .i64 0) (.int .i64 0));go_wp2
   refine vZ6 (fun W=>W.heap[w.heap.size]?=some (.cells #[.int .i64 v1,.int .i64 v2,.int .i64 1,.int .i64 1,.int .i64 z3,.int .i64 z4,.int .i64 z6,.int .i64 0,.int .i64 0] 39 (0,0))∧Rd B rb A l c (m+20) W∧Chg [rb] w W) ⟨E1.out,rd9g (HR.out.mono (by omega)) (by omega) (by omega) _ _ _ _ _ _ _ _ _,chg9g HC.out (Nat.le_refl _) _ _ _ _ _ _ _ _ _⟩ ?_
   clear HX HZ HR HC E1 y0 y1 y2 y3 y4 y5 y6 y7 y8 u0 u1 u2 u3 u4 u5 u6 u7 u8 g0 g1 g2 g3 g4 g5 g6 g7 g8;rintro W ⟨hp,hrW,hcW⟩;have q0:=jZc hp 0;have q1:=jZc hp 1;have q2:=jZc hp 2;have q3:=jZc hp 3;have q4:=jZc hp 4;have q5:=jZc hp 5;have q6:=jZc hp 6;have q7:=jZc hp 7;have q8:=jZc hp 8
   exact bodyPost_ret (v:=.agg #[.int .i64 v1,.int .i64 v2,.int .i64 1,.int .i64 1,.int .i64 z3,.int .i64 z4,.int .i64 z6,.int .i64 0,.int .i64 0]) (by simp only [results,Tryz.results148];go_simp) rfl ⟨⟨⟨v1,v2,1,1,z3,z4,z6,0,0⟩,rfl⟩,hrW,hcW⟩
structure Plc where
 x:Int
 y:Int
 rx:Int
 ry:Int
 ww:Int
 hh:Int
 qw:Int
 qh:Int
 an:Int
def shB (n:Int):Bool:=rng n (-300) 300
def reB (n:Int):Bool:=rng n 0 1000
def plB (p:Plc):Bool:=[p.x,p.y,p.ww,p.hh].all shB&&([p.rx,p.ry,p.qw,p.qh].all reB&&rng p.an 0 8)
theorem sZ4 {p:Plc}:plB p=true↔((-300≤p.x∧p.x≤300)∧(-300≤p.y∧p.y≤300)∧(0≤p.rx∧p.rx≤1000)∧(0≤p.ry∧p.ry≤1000)∧(-300≤p.ww∧p.ww≤300)∧(-300≤p.hh∧p.hh≤300)∧(0≤p.qw∧p.qw≤1000)∧(0≤p.qh∧p.qh≤1000)∧(0≤p.an∧p.an≤8)):=by
 simp only [plB,shB,reB,List.all_cons,List.all_nil,Bool.and_true,Bool.and_eq_true,pZa];omega
def thM (m s:Int):Int:=m*s / 1000
def wM (p:Plc) (w:Int):Int:=mx (p.ww+thM p.qw w) 0
def hM (p:Plc) (h:Int):Int:=mx (p.hh+thM p.qh h) 0
def xM (p:Plc) (w:Int):Int:=p.x+thM p.rx w-wM p w*(p.an % 3) / 2
def yM (p:Plc) (h:Int):Int:=p.y+thM p.ry h-hM p h*(p.an / 3) / 2
theorem jZu (n a b:Int) (t:Bool) (w:World) (h:rng n a b=t):Calls Tryz.prog 79 #[.int .i64 n,.int .i64 a,.int .i64 b] w fun e w'=>e=.returned (.bool t)∧w=w':=by rw [<- h];exact kZ3 n a b w
theorem dZ3 (n a b:Int) (t:Bool) (w:World) (h:rng n a b=t):Calls Tryz.prog 94 #[.int .i64 n,.int .i64 a,.int .i64 b] w fun e w'=>e=.returned (.bool t)∧w=w':=by rw [<- h];exact pZe n a b w
theorem shift_t (n:Int) (t:Bool) (w:World) (h:shB n=t):Calls Tryz.prog 162 #[.int .i64 n] w fun e w'=>e=.returned (.bool t)∧w=w':=by
 go_enter Tryz.func162,Tryz.ntmps162
 go_wp2_with (go_at_call 94;refine (dZ3 _ _ _ t _ h).mono ?_;rintro e w' ⟨rfl,rfl⟩)
 go_ret;exact ⟨rfl,rfl⟩
theorem rel_t (n:Int) (t:Bool) (w:World) (h:reB n=t):Calls Tryz.prog 163 #[.int .i64 n] w fun e w'=>e=.returned (.bool t)∧w=w':=by
 go_enter Tryz.func163,Tryz.ntmps163
 go_wp2_with (go_at_call 94;refine (dZ3 _ _ _ t _ h).mono ?_;rintro e w' ⟨rfl,rfl⟩)
 go_ret;exact ⟨rfl,rfl⟩
theorem anch_t (k:Int) (t:Bool) (w:World) (h:rng k 0 8=t):Calls Tryz.prog 160 #[.int .i64 k] w fun e w'=>e=.returned (.bool t)∧w=w':=by
 go_enter Tryz.func160,Tryz.ntmps160
 go_wp2_with (go_at_call 94;refine (dZ3 _ _ _ t _ h).mono ?_;rintro e w' ⟨rfl,rfl⟩)
 go_ret;exact ⟨rfl,rfl⟩
theorem sanch_t (k:Int) (t:Bool) (w:World) (h:rng k 0 8=t):Calls Tryz.prog 167 #[.int .i64 k] w fun e w'=>e=.returned (.bool t)∧w=w':=by
 go_enter Tryz.func167,Tryz.ntmps167
 go_wp2_with (go_at_call 79;refine (jZu _ _ _ t _ h).mono ?_;rintro e w' ⟨rfl,rfl⟩)
 go_ret;exact ⟨rfl,rfl⟩
theorem fZl {f:Int→Bool} {L:List Int} {k:Nat} {p:Int} (h:L[k]?=some p):(L.take (k+1)).all f=((L.take k).all f&&f p):=by
 have hk:k<L.length:=(List.getElem?_eq_some_iff.1 h).1;have e:L[k]=p:=(List.getElem?_eq_some_iff.1 h).2;rw [List.take_succ_eq_append_getElem hk,e]
 simp
theorem new_q (w:World) (o:Obj):(w.alloc o).heap[w.heap.size]?=some o:=by
 show (w.heap.push o)[w.heap.size]?=some o
 simp
theorem fZg (w:World) (o o':Obj):((w.alloc o).alloc o').heap[w.heap.size+1]?=some o':=by
 have:=new_q (w.alloc o) o';rwa [World.size_alloc] at this
theorem newq2 (w:World) (o o' o2:Obj):(((w.alloc o).alloc o').alloc o2).heap[w.heap.size+1+1]?=some o2:=by
 have:=fZg (w.alloc o) o' o2;rwa [World.size_alloc] at this
theorem cl_q {w:World} {b:Nat} {cs:Array Value} {T:TypeId} {fz:Nat × Nat} (h:w.heap[b]?=some (.cells cs T fz)) (i:Nat):w.cell? ⟨b,i,none⟩=cs[i]?:=by simp [World.cell?,h]
theorem nv4 {w:World} {g:Nat} {a b c d:Int} {T:TypeId} {fz:Nat × Nat} (h:w.heap[g]?=some (.cells #[.int .i64 a,.int .i64 b,.int .i64 c,.int .i64 d] T fz)):NV w (some ⟨g,0,none⟩) [a,b,c,d] :=
 ⟨fun _=>⟨g,0,rfl,(gE h).1,fun i x hx=>by
  rw [Nat.zero_add,cl_q h]
  match i,hx with
  | 0,hx=>simpa using hx
  | 1,hx=>simpa using hx
  | 2,hx=>simpa using hx
  | 3,hx=>simpa using hx
  | i+4,hx=>simp at hx⟩⟩
theorem allSh (A:Option Addr) (c:Nat) (L:List Int) (t:Bool) (w:World) (h:NV w A L) (hL:L.length≤1048576) (ht:L.all shB=t) :
  Calls Tryz.prog 161 #[.slice A L.length c,.func (.func 162) #[] #[]] w fun e w'=>e=.returned (.bool t)∧w=w':=by
 subst ht
 go_enter Tryz.func161,Tryz.ntmps161
 go_wp2_with fail
 go_loop [9] (fun i=>∃ k:Nat,k≤L.length∧i=.int .i64 k∧(L.take k).all shB=true) (fun i=>L.length-(intOf i).toNat)
 case atStart=>exact ⟨0,by omega,rfl,rfl⟩
 case round =>
  obtain ⟨k,hk,rfl,hok⟩:=hrel
  by_cases hlt:k<L.length
  ·have hd:decide ((k:Int)<(L.length:Int))=true:=by simpa using hlt
   obtain ⟨b,off,rfl,hb,hp⟩:=h.cells (by omega);have hget:L[k]?=some L[k]:=List.getElem?_eq_getElem hlt;have c0:=hp k _ hget;generalize hx:L[k]=p at *;have HG:=hD hget;have HX:=hD hx;have HO:=hD hok;have HP:=hD hp;clear hget hx hok hp
   cases hv:shB p
   all_goals
    have Hv:=hD hv;clear hv
    go_wp2_with fail
    first|(with_reducible refine (shift_t p false _ Hv.out).mono ?_)|(with_reducible refine (shift_t p true _ Hv.out).mono ?_)
    rintro e w1 ⟨rfl,rfl⟩;go_wp2
   ·go_ret
    exact ⟨jZ8 (by
     symm
     rw [Bool.eq_false_iff];intro hh;have h1:=List.all_eq_true.1 hh p (List.mem_of_getElem? HG.out);rw [Hv.out] at h1
     cases h1),rfl⟩
   ·go_round
    case rel=>exact ⟨k+1,by omega,by go_num,by rw [fZl HG.out,HO.out,Hv.out];rfl⟩
    case measure=>simp [intOf];omega
  ·have hd:decide ((k:Int)<(L.length:Int))=false:=by simp;omega
   have he:L.take k=L:=List.take_of_length_le (by omega);rw [he] at hok;have HO:=hD hok;clear hok he;go_wp2;go_ret;exact ⟨jZ8 HO.out.symm,rfl⟩
theorem allRe (A:Option Addr) (c:Nat) (L:List Int) (t:Bool) (w:World) (h:NV w A L) (hL:L.length≤1048576) (ht:L.all reB=t) :
  Calls Tryz.prog 161 #[.slice A L.length c,.func (.func 163) #[] #[]] w fun e w'=>e=.returned (.bool t)∧w=w':=by
 subst ht
 go_enter Tryz.func161,Tryz.ntmps161
 go_wp2_with fail
 go_loop [9] (fun i=>∃ k:Nat,k≤L.length∧i=.int .i64 k∧(L.take k).all reB=true) (fun i=>L.length-(intOf i).toNat)
 case atStart=>exact ⟨0,by omega,rfl,rfl⟩
 case round =>
  obtain ⟨k,hk,rfl,hok⟩:=hrel
  by_cases hlt:k<L.length
  ·have hd:decide ((k:Int)<(L.length:Int))=true:=by simpa using hlt
   obtain ⟨b,off,rfl,hb,hp⟩:=h.cells (by omega);have hget:L[k]?=some L[k]:=List.getElem?_eq_getElem hlt;have c0:=hp k _ hget;generalize hx:L[k]=p at *;have HG:=hD hget;have HX:=hD hx;have HO:=hD hok;have HP:=hD hp;clear hget hx hok hp
   cases hv:reB p
   all_goals
    have Hv:=hD hv;clear hv
    go_wp2_with fail
    first|(with_reducible refine (rel_t p false _ Hv.out).mono ?_)|(with_reducible refine (rel_t p true _ Hv.out).mono ?_)
    rintro e w1 ⟨rfl,rfl⟩;go_wp2
   ·go_ret
    exact ⟨jZ8 (by
     symm
     rw [Bool.eq_false_iff];intro hh;have h1:=List.all_eq_true.1 hh p (List.mem_of_getElem? HG.out);rw [Hv.out] at h1
     cases h1),rfl⟩
   ·go_round
    case rel=>exact ⟨k+1,by omega,by go_num,by rw [fZl HG.out,HO.out,Hv.out];rfl⟩
    case measure=>simp [intOf];omega
  ·have hd:decide ((k:Int)<(L.length:Int))=false:=by simp;omega
   have he:L.take k=L:=List.take_of_length_le (by omega);rw [he] at hok;have HO:=hD hok;clear hok he;go_wp2;go_ret;exact ⟨jZ8 HO.out.symm,rfl⟩
theorem allSh4 {g:Nat} {x y z u:Int} {T:TypeId} {fz:Nat × Nat} (t:Bool) (w:World) (h:w.heap[g]?=some (.cells #[.int .i64 x,.int .i64 y,.int .i64 z,.int .i64 u] T fz)) (ht:[x,y,z,u].all shB=t) :
  Calls Tryz.prog 161 #[.slice (some ⟨g,0,none⟩) 4 4,.func (.func 162) #[] #[]] w fun e w'=>e=.returned (.bool t)∧w=w':=allSh _ 4 [x,y,z,u] t w (nv4 h) (by simp) ht
theorem allRe4 {g:Nat} {x y z u:Int} {T:TypeId} {fz:Nat × Nat} (t:Bool) (w:World) (h:w.heap[g]?=some (.cells #[.int .i64 x,.int .i64 y,.int .i64 z,.int .i64 u] T fz)) (ht:[x,y,z,u].all reB=t) :
  Calls Tryz.prog 161 #[.slice (some ⟨g,0,none⟩) 4 4,.func (.func 163) #[] #[]] w fun e w'=>e=.returned (.bool t)∧w=w':=allRe _ 4 [x,y,z,u] t w (nv4 h) (by simp) ht
theorem gZn (p:Plc) (t:Bool) (w:World) (h:plB p=t):Calls Tryz.prog 125 #[.agg #[.int .i64 p.x,.int .i64 p.y,.int .i64 p.rx,.int .i64 p.ry,.int .i64 p.ww,.int .i64 p.hh,.int .i64 p.qw,.int .i64 p.qh,.int .i64 p.an]] w fun e w'=>e=.returned (.bool t)∧Below w.heap.size w w':=by
 cases h1:[p.x,p.y,p.ww,p.hh].all shB
 ·have ht:false=t:=by rw [<- h];simp only [plB,h1,Bool.false_and]
  subst ht
  go_enter Tryz.func125,Tryz.ntmps125
  go_wp2_with fail
  with_reducible refine (allSh4 false _ (by first | exact fZg _ _ _ | exact newq2 _ _ _ _) h1).mono ?_
  rintro e w1 ⟨rfl,rfl⟩;go_wp2;go_ret;exact ⟨rfl,(by repeat (first | with_reducible exact Below.refl _ _ | with_reducible assumption | with_reducible refine jZd ?_|(with_reducible refine bset ?_ ?_;rotate_left;((try dsimp only);omega)) | refine jZa ?_ (by assumption) | with_reducible refine Below.drew ?_))⟩
 cases h2:[p.rx,p.ry,p.qw,p.qh].all reB
 ·have ht:false=t:=by rw [<- h];simp only [plB,h1,h2,Bool.false_and,Bool.true_and]
  subst ht
  go_enter Tryz.func125,Tryz.ntmps125
  go_wp2_with fail
  with_reducible refine (allSh4 true _ (by first | exact fZg _ _ _ | exact newq2 _ _ _ _) h1).mono ?_
  rintro e w1 ⟨rfl,rfl⟩
  go_wp2_with fail
  with_reducible refine (allRe4 false _ (by first | exact fZg _ _ _ | exact newq2 _ _ _ _) h2).mono ?_
  rintro e w1 ⟨rfl,rfl⟩;go_wp2;go_ret;exact ⟨rfl,(by repeat (first | with_reducible exact Below.refl _ _ | with_reducible assumption | with_reducible refine jZd ?_|(with_reducible refine bset ?_ ?_;rotate_left;((try dsimp only);omega)) | refine jZa ?_ (by assumption) | with_reducible refine Below.drew ?_))⟩
 have h3:rng p.an 0 8=t:=by rw [<- h];simp only [plB,h1,h2,Bool.true_and]
 go_enter Tryz.func125,Tryz.ntmps125
 go_wp2_with fail
 with_reducible refine (allSh4 true _ (by first | exact fZg _ _ _ | exact newq2 _ _ _ _) h1).mono ?_
 rintro e w1 ⟨rfl,rfl⟩
 go_wp2_with fail
 with_reducible refine (allRe4 true _ (by first | exact fZg _ _ _ | exact newq2 _ _ _ _) h2).mono ?_
 rintro e w1 ⟨rfl,rfl⟩
 go_wp2_with fail
 with_reducible refine (anch_t _ t _ h3).mono ?_
 rintro e w1 ⟨rfl,rfl⟩;go_wp2;go_ret;exact ⟨rfl,(by repeat (first | with_reducible exact Below.refl _ _ | with_reducible assumption | with_reducible refine jZd ?_|(with_reducible refine bset ?_ ?_;rotate_left;((try dsimp only);omega)) | refine jZa ?_ (by assumption) | with_reducible refine Below.drew ?_))⟩
theorem rZf (p:Plc) (t:Bool) (w:World) (h:plB p=t):Calls Tryz.prog 137 #[.agg #[.int .i64 p.x,.int .i64 p.y,.int .i64 p.rx,.int .i64 p.ry,.int .i64 p.ww,.int .i64 p.hh,.int .i64 p.qw,.int .i64 p.qh,.int .i64 p.an]] w fun e w'=>e=.returned (.bool t)∧Below w.heap.size w w':=by
 cases h1:rng p.x (-300) 300
 ·have ht:false=t:=by rw [<- h];simp [plB,shB,reB,h1]
  subst ht
  go_enter Tryz.func137,Tryz.ntmps137
  go_wp2_with fail
  with_reducible refine (jZu _ _ _ false _ h1).mono ?_
  rintro e w1 ⟨rfl,rfl⟩;go_wp2;go_ret;exact ⟨rfl,(by repeat (first | with_reducible exact Below.refl _ _ | with_reducible assumption | with_reducible refine jZd ?_|(with_reducible refine bset ?_ ?_;rotate_left;((try dsimp only);omega)) | refine jZa ?_ (by assumption) | with_reducible refine Below.drew ?_))⟩
 cases h2:rng p.y (-300) 300
 ·have ht:false=t:=by rw [<- h];simp [plB,shB,reB,h2]
  subst ht
  go_enter Tryz.func137,Tryz.ntmps137
  go_wp2_with fail
  with_reducible refine (jZu _ _ _ true _ h1).mono ?_
  rintro e w1 ⟨rfl,rfl⟩
  go_wp2_with fail
  with_reducible refine (jZu _ _ _ false _ h2).mono ?_
  rintro e w1 ⟨rfl,rfl⟩;go_wp2;go_ret;exact ⟨rfl,(by repeat (first | with_reducible exact Below.refl _ _ | with_reducible assumption | with_reducible refine jZd ?_|(with_reducible refine bset ?_ ?_;rotate_left;((try dsimp only);omega)) | refine jZa ?_ (by assumption) | with_reducible refine Below.drew ?_))⟩
 cases h3:rng p.rx 0 1000
 ·have ht:false=t:=by rw [<- h];simp [plB,shB,reB,h3]
  subst ht
  go_enter Tryz.func137,Tryz.ntmps137
  go_wp2_with fail
  with_reducible refine (jZu _ _ _ true _ h1).mono ?_
  rintro e w1 ⟨rfl,rfl⟩
  go_wp2_with fail
  with_reducible refine (jZu _ _ _ true _ h2).mono ?_
  rintro e w1 ⟨rfl,rfl⟩
  go_wp2_with fail
  with_reducible refine (jZu _ _ _ false _ h3).mono ?_
  rintro e w1 ⟨rfl,rfl⟩;go_wp2;go_ret;exact ⟨rfl,(by repeat (first | with_reducible exact Below.refl _ _ | with_reducible assumption | with_reducible refine jZd ?_|(with_reducible refine bset ?_ ?_;rotate_left;((try dsimp only);omega)) | refine jZa ?_ (by assumption) | with_reducible refine Below.drew ?_))⟩
 cases h4:rng p.ry 0 1000
 ·have ht:false=t:=by rw [<- h];simp [plB,shB,reB,h4]
  subst ht
  go_enter Tryz.func137,Tryz.ntmps137
  go_wp2_with fail
  with_reducible refine (jZu _ _ _ true _ h1).mono ?_
  rintro e w1 ⟨rfl,rfl⟩
  go_wp2_with fail
  with_reducible refine (jZu _ _ _ true _ h2).mono ?_
  rintro e w1 ⟨rfl,rfl⟩
  go_wp2_with fail
  with_reducible refine (jZu _ _ _ true _ h3).mono ?_
  rintro e w1 ⟨rfl,rfl⟩
  go_wp2_with fail
  with_reducible refine (jZu _ _ _ false _ h4).mono ?_
  rintro e w1 ⟨rfl,rfl⟩;go_wp2;go_ret;exact ⟨rfl,(by repeat (first | with_reducible exact Below.refl _ _ | with_reducible assumption | with_reducible refine jZd ?_|(with_reducible refine bset ?_ ?_;rotate_left;((try dsimp only);omega)) | refine jZa ?_ (by assumption) | with_reducible refine Below.drew ?_))⟩
 cases h5:rng p.ww (-300) 300
 ·have ht:false=t:=by rw [<- h];simp [plB,shB,reB,h5]
  subst ht
  go_enter Tryz.func137,Tryz.ntmps137
  go_wp2_with fail
  with_reducible refine (jZu _ _ _ true _ h1).mono ?_
  rintro e w1 ⟨rfl,rfl⟩
  go_wp2_with fail
  with_reducible refine (jZu _ _ _ true _ h2).mono ?_
  rintro e w1 ⟨rfl,rfl⟩
  go_wp2_with fail
  with_reducible refine (jZu _ _ _ true _ h3).mono ?_
  rintro e w1 ⟨rfl,rfl⟩
  go_wp2_with fail
  with_reducible refine (jZu _ _ _ true _ h4).mono ?_
  rintro e w1 ⟨rfl,rfl⟩
  go_wp2_with fail
  with_reducible refine (jZu _ _ _ false _ h5).mono ?_
  rintro e w1 ⟨rfl,rfl⟩;go_wp2;go_ret;exact ⟨rfl,(by repeat (first | with_reducible exact Below.refl _ _ | with_reducible assumption | with_reducible refine jZd ?_|(with_reducible refine bset ?_ ?_;rotate_left;((try dsimp only);omega)) | refine jZa ?_ (by assumption) | with_reducible refine Below.drew ?_))⟩
 cases h6:rng p.hh (-300) 300
 ·have ht:false=t:=by rw [<- h];simp [plB,shB,reB,h6]
  subst ht
  go_enter Tryz.func137,Tryz.ntmps137
  go_wp2_with fail
  with_reducible refine (jZu _ _ _ true _ h1).mono ?_
  rintro e w1 ⟨rfl,rfl⟩
  go_wp2_with fail
  with_reducible refine (jZu _ _ _ true _ h2).mono ?_
  rintro e w1 ⟨rfl,rfl⟩
  go_wp2_with fail
  with_reducible refine (jZu _ _ _ true _ h3).mono ?_
  rintro e w1 ⟨rfl,rfl⟩
  go_wp2_with fail
  with_reducible refine (jZu _ _ _ true _ h4).mono ?_
  rintro e w1 ⟨rfl,rfl⟩
  go_wp2_with fail
  with_reducible refine (jZu _ _ _ true _ h5).mono ?_
  rintro e w1 ⟨rfl,rfl⟩
  go_wp2_with fail
  with_reducible refine (jZu _ _ _ false _ h6).mono ?_
  rintro e w1 ⟨rfl,rfl⟩;go_wp2;go_ret;exact ⟨rfl,(by repeat (first | with_reducible exact Below.refl _ _ | with_reducible assumption | with_reducible refine jZd ?_|(with_reducible refine bset ?_ ?_;rotate_left;((try dsimp only);omega)) | refine jZa ?_ (by assumption) | with_reducible refine Below.drew ?_))⟩
 cases h7:rng p.qw 0 1000
 ·have ht:false=t:=by rw [<- h];simp [plB,shB,reB,h7]
  subst ht
  go_enter Tryz.func137,Tryz.ntmps137
  go_wp2_with fail
  with_reducible refine (jZu _ _ _ true _ h1).mono ?_
  rintro e w1 ⟨rfl,rfl⟩
  go_wp2_with fail
  with_reducible refine (jZu _ _ _ true _ h2).mono ?_
  rintro e w1 ⟨rfl,rfl⟩
  go_wp2_with fail
  with_reducible refine (jZu _ _ _ true _ h3).mono ?_
  rintro e w1 ⟨rfl,rfl⟩
  go_wp2_with fail
  with_reducible refine (jZu _ _ _ true _ h4).mono ?_
  rintro e w1 ⟨rfl,rfl⟩
  go_wp2_with fail
  with_reducible refine (jZu _ _ _ true _ h5).mono ?_
  rintro e w1 ⟨rfl,rfl⟩
  go_wp2_with fail
  with_reducible refine (jZu _ _ _ true _ h6).mono ?_
  rintro e w1 ⟨rfl,rfl⟩
  go_wp2_with fail
  with_reducible refine (jZu _ _ _ false _ h7).mono ?_
  rintro e w1 ⟨rfl,rfl⟩;go_wp2;go_ret;exact ⟨rfl,(by repeat (first | with_reducible exact Below.refl _ _ | with_reducible assumption | with_reducible refine jZd ?_|(with_reducible refine bset ?_ ?_;rotate_left;((try dsimp only);omega)) | refine jZa ?_ (by assumption) | with_reducible refine Below.drew ?_))⟩
 cases h8:rng p.qh 0 1000
 ·have ht:false=t:=by rw [<- h];simp [plB,shB,reB,h8]
  subst ht
  go_enter Tryz.func137,Tryz.ntmps137
  go_wp2_with fail
  with_reducible refine (jZu _ _ _ true _ h1).mono ?_
  rintro e w1 ⟨rfl,rfl⟩
  go_wp2_with fail
  with_reducible refine (jZu _ _ _ true _ h2).mono ?_
  rintro e w1 ⟨rfl,rfl⟩
  go_wp2_with fail
  with_reducible refine (jZu _ _ _ true _ h3).mono ?_
  rintro e w1 ⟨rfl,rfl⟩
  go_wp2_with fail
  with_reducible refine (jZu _ _ _ true _ h4).mono ?_
  rintro e w1 ⟨rfl,rfl⟩
  go_wp2_with fail
  with_reducible refine (jZu _ _ _ true _ h5).mono ?_
  rintro e w1 ⟨rfl,rfl⟩
  go_wp2_with fail
  with_reducible refine (jZu _ _ _ true _ h6).mono ?_
  rintro e w1 ⟨rfl,rfl⟩
  go_wp2_with fail
  with_reducible refine (jZu _ _ _ true _ h7).mono ?_
  rintro e w1 ⟨rfl,rfl⟩
  go_wp2_with fail
  with_reducible refine (jZu _ _ _ false _ h8).mono ?_
  rintro e w1 ⟨rfl,rfl⟩;go_wp2;go_ret;exact ⟨rfl,(by repeat (first | with_reducible exact Below.refl _ _ | with_reducible assumption | with_reducible refine jZd ?_|(with_reducible refine bset ?_ ?_;rotate_left;((try dsimp only);omega)) | refine jZa ?_ (by assumption) | with_reducible refine Below.drew ?_))⟩
 have h9:rng p.an 0 8=t:=by rw [<- h];simp [plB,shB,reB,h1,h2,h3,h4,h5,h6,h7,h8]
 go_enter Tryz.func137,Tryz.ntmps137
 go_wp2_with fail
 with_reducible refine (jZu _ _ _ true _ h1).mono ?_
 rintro e w1 ⟨rfl,rfl⟩
 go_wp2_with fail
 with_reducible refine (jZu _ _ _ true _ h2).mono ?_
 rintro e w1 ⟨rfl,rfl⟩
 go_wp2_with fail
 with_reducible refine (jZu _ _ _ true _ h3).mono ?_
 rintro e w1 ⟨rfl,rfl⟩
 go_wp2_with fail
 with_reducible refine (jZu _ _ _ true _ h4).mono ?_
 rintro e w1 ⟨rfl,rfl⟩
 go_wp2_with fail
 with_reducible refine (jZu _ _ _ true _ h5).mono ?_
 rintro e w1 ⟨rfl,rfl⟩
 go_wp2_with fail
 with_reducible refine (jZu _ _ _ true _ h6).mono ?_
 rintro e w1 ⟨rfl,rfl⟩
 go_wp2_with fail
 with_reducible refine (jZu _ _ _ true _ h7).mono ?_
 rintro e w1 ⟨rfl,rfl⟩
 go_wp2_with fail
 with_reducible refine (jZu _ _ _ true _ h8).mono ?_
 rintro e w1 ⟨rfl,rfl⟩
 go_wp2_with fail
 with_reducible refine (sanch_t _ t _ h9).mono ?_
 rintro e w1 ⟨rfl,rfl⟩;go_wp2;go_ret;exact ⟨rfl,(by repeat (first | with_reducible exact Below.refl _ _ | with_reducible assumption | with_reducible refine jZd ?_|(with_reducible refine bset ?_ ?_;rotate_left;((try dsimp only);omega)) | refine jZa ?_ (by assumption) | with_reducible refine Below.drew ?_))⟩
section
attribute [local go_sem 5000] kZk kZj
theorem tZq {w:World} {b i:Nat} {cs:Array Value} {T:TypeId} {fz:Nat × Nat} (h:w.heap[b]?=some (.cells cs T fz)) (u:Value):(w.setCell ⟨b,i,none⟩ u).heap[b]?=some (.cells (cs.setIfInBounds i u) T fz):=by
 simp [World.setCell,Array.getElem?_modify,h]
theorem gs_q {w w':World} {g:Nat} (h:w.grownBy w' (some g)) (o:Nat) (v:Value):w.grownBy (w'.setCell ⟨g,o,none⟩ v) (some g) :=
 ⟨h.os,h.tape,h.output,by simpa [World.setCell] using h.size,fun k hk hne=>(Below.heap_setCell w' ⟨g,o,none⟩ v k (by rintro rfl;exact hne rfl)).trans (h.block k hk hne)⟩
theorem gr_q (w:World) (g:Nat):w.grownBy w (some g):=⟨rfl,rfl,rfl,Nat.le_refl _,fun _ _ _=>rfl⟩
theorem gb_q {w w' w2:World} {g:Nat} (h:w.grownBy w' (some g)) (hb:Below w'.heap.size w' w2):w.grownBy w2 (some g) :=
 ⟨hb.os.trans h.os,hb.tape.trans h.tape,hb.output.trans h.output,Nat.le_trans h.size hb.size,fun k hk hne=>(hb.block k (Nat.lt_of_lt_of_le hk h.size)).trans (h.block k hk hne)⟩
theorem gt_q {w w' w2:World} {g:Nat} (h:w.grownBy w' (some g)) (hb:w'.grownBy w2 (some g)):w.grownBy w2 (some g) :=
 ⟨hb.os.trans h.os,hb.tape.trans h.tape,hb.output.trans h.output,Nat.le_trans h.size hb.size,fun k hk hne=>(hb.block k (Nat.lt_of_lt_of_le hk h.size) hne).trans (h.block k hk hne)⟩
theorem gnew_q {W w w':World} {g:Nat} (h:Below W.heap.size W w) (hg:w.grownBy w' (some g)) (hn:W.heap.size≤g):Below W.heap.size W w' :=
 ⟨hg.os.trans h.os,hg.tape.trans h.tape,hg.output.trans h.output,Nat.le_trans h.size hg.size,fun k hk=>(hg.block k (Nat.lt_of_lt_of_le hk h.size) (fun e=>by cases e;omega)).trans (h.block k hk)⟩
theorem fz_q {w:World} {b:Nat} {cs:Array Value} {T:TypeId} (h:w.heap[b]?=some (.cells cs T (0,0))) (i:Nat):w.frozen? ⟨b,i,none⟩=false:=by simp [World.frozen?,h]
theorem lt_q {w:World} {b:Nat} {o:Obj} (h:w.heap[b]?=some o):b<w.heap.size:=(gE h).1
theorem c9_q {w:World} {b:Nat} {a0 a1 a2 a3 a4 a5 a6 a7 a8:Value} {T:TypeId} {fz:Nat × Nat} (h:w.heap[b]?=some (.cells #[a0,a1,a2,a3,a4,a5,a6,a7,a8] T fz)) :
  w.cell? ⟨b,0,none⟩=some a0∧w.cell? ⟨b,1,none⟩=some a1∧w.cell? ⟨b,2,none⟩=some a2∧w.cell? ⟨b,3,none⟩=some a3∧w.cell? ⟨b,4,none⟩=some a4∧w.cell? ⟨b,5,none⟩=some a5∧w.cell? ⟨b,6,none⟩=some a6∧w.cell? ⟨b,7,none⟩=some a7∧w.cell? ⟨b,8,none⟩=some a8 :=
 ⟨cl_q h 0,cl_q h 1,cl_q h 2,cl_q h 3,cl_q h 4,cl_q h 5,cl_q h 6,cl_q h 7,cl_q h 8⟩
theorem f9_q {w:World} {b:Nat} {cs:Array Value} {T:TypeId} (h:w.heap[b]?=some (.cells cs T (0,0))):w.frozen? ⟨b,0,none⟩=false∧w.frozen? ⟨b,1,none⟩=false∧w.frozen? ⟨b,2,none⟩=false∧w.frozen? ⟨b,3,none⟩=false∧w.frozen? ⟨b,4,none⟩=false∧w.frozen? ⟨b,5,none⟩=false∧w.frozen? ⟨b,6,none⟩=false∧w.frozen? ⟨b,7,none⟩=false∧w.frozen? ⟨b,8,none⟩=false :=
 ⟨fz_q h 0,fz_q h 1,fz_q h 2,fz_q h 3,fz_q h 4,fz_q h 5,fz_q h 6,fz_q h 7,fz_q h 8⟩
end
theorem one_lit1 {B rb:Nat} {A:Option Addr} {l c m k:Nat} {cs:Array Value} {T:TypeId} (w:World) (o:Obj) (h:Rd B rb A l c m w) (hm:m≤1000000) (hk:cs.size=k) (h1:1≤k) (h2:k≤100) (ha:cs.toList.all isI=true) :
  Calls Tryz.prog 60 #[.pointer (some ⟨rb,0,none⟩),.slice (some ⟨w.heap.size+1,0,none⟩) k k] ((w.alloc o).alloc (.cells cs T)) fun e w'=>(∃ z,e=.returned (.int .i64 z))∧Rd B rb A l c (m+1) w'∧Chg [rb] (w.alloc o) w':=by
 have:=qZ9 (cs:=cs) (T:=T) (w.alloc o) (h.alloc o) hm hk h1 h2 ha
 rwa [World.size_alloc] at this
theorem eZy {B rb:Nat} {A:Option Addr} {l c m:Nat} (w:World) (h:Rd B rb A l c m w) (hm:m≤900000) :
  Calls Tryz.prog 147 #[.pointer (some ⟨rb,0,none⟩)] w fun e w'=>(∃ (v0 v1 v2 v3 v4 v5 v6 v7 v8:Int),e=.returned (.agg #[.int .i64 v0,.int .i64 v1,.int .i64 v2,.int .i64 v3,.int .i64 v4,.int .i64 v5,.int .i64 v6,.int .i64 v7,.int .i64 v8]))∧Rd B rb A l c (m+10) w'∧Chg [rb] w w':=by
 have hlt:=h.lt;have hbase:=h.base
 go_enter Tryz.func147,Tryz.ntmps147
 go_wp2_with fail
 with_reducible refine (one_lit1 _ _ h (by omega) (by simp) (by omega) (by omega) (by simp [isI])).mono ?_
 rintro e w1 ⟨⟨z1,rfl⟩,hr1,hc1⟩
 go_wp2_with fail
 with_reducible refine (qZ9 _ hr1 (by omega) (by simp) (by omega) (by omega) (by simp [isI])).mono ?_
 rintro e w2 ⟨⟨z2,rfl⟩,hr2,hc2⟩
 go_wp2_with fail
 with_reducible refine (qZ9 _ hr2 (by omega) (by simp) (by omega) (by omega) (by simp [isI])).mono ?_
 rintro e w3 ⟨⟨z3,rfl⟩,hr3,hc3⟩
 go_wp2_with fail
 with_reducible refine (qZ9 _ hr3 (by omega) (by simp) (by omega) (by omega) (by simp [isI])).mono ?_
 rintro e w4 ⟨⟨z4,rfl⟩,hr4,hc4⟩
 go_wp2_with fail
 with_reducible refine (qZ9 _ hr4 (by omega) (by simp) (by omega) (by omega) (by simp [isI])).mono ?_
 rintro e w5 ⟨⟨z5,rfl⟩,hr5,hc5⟩
 go_wp2_with fail
 with_reducible refine (qZ9 _ hr5 (by omega) (by simp) (by omega) (by omega) (by simp [isI])).mono ?_
 rintro e w6 ⟨⟨z6,rfl⟩,hr6,hc6⟩
 go_wp2_with fail
 with_reducible refine (qZ9 _ hr6 (by omega) (by simp) (by omega) (by omega) (by simp [isI])).mono ?_
 rintro e w7 ⟨⟨z7,rfl⟩,hr7,hc7⟩
 go_wp2_with fail
 with_reducible refine (qZ9 _ hr7 (by omega) (by simp) (by omega) (by omega) (by simp [isI])).mono ?_
 rintro e w8 ⟨⟨z8,rfl⟩,hr8,hc8⟩
 go_wp2_with fail
 with_reducible refine (kZe _ _ hr8 (by omega)).mono ?_
 rintro e w9 ⟨⟨z9,rfl,-⟩,hr9,hc9⟩
 go_wp2_with fail
 with_reducible refine (qZ9 _ hr9 (by omega) (by simp) (by omega) (by omega) (by simp [isI])).mono ?_
 rintro e w10 ⟨⟨z10,rfl⟩,hr10,hc10⟩;have hc:Chg [rb] (w.alloc _) w10:=(((((((((hc1).trans hc2).trans hc3).trans hc4).trans hc5).trans hc6).trans hc7).trans hc8).trans hc9).trans hc10;clear hc1 hc2 hc3 hc4 hc5 hc6 hc7 hc8 hc9 hc10 hr1 hr2 hr3 hr4 hr5 hr6 hr7 hr8 hr9;have hb0:=(hc.block w.heap.size (by simp) (by simp;omega)).trans (heap_alloc_new w _);have hs:=hc.size
 simp only [World.size_alloc] at hs;have HC:=hD ((((Chg.refl [rb] w).alloc _).trans hc).alloc (.cells #[.int .i64 z1,.int .i64 z2,.int .i64 z3,.int .i64 z4,.int .i64 z5,.int .i64 z6,.int .i64 z7,.int .i64 z8,.int .i64 z10] 41));have hl7:=hr10.lt;have hx0:=Nat.lt_of_succ_le hs
 have hn0:w.heap.size≠rb:=by omega
 have hB0:B≤w.heap.size:=by omega
 have hn1:w10.heap.size≠rb:=by omega
 have hB1:B≤w10.heap.size:=by omega
 have hn01:w.heap.size≠w10.heap.size:=by omega
 have hn10:¬ w10.heap.size=w.heap.size:=by omega
 have hw1:w.heap.size≤w10.heap.size:=by omega
 have HR:=hD (hr10.alloc (.cells #[.int .i64 z1,.int .i64 z2,.int .i64 z3,.int .i64 z4,.int .i64 z5,.int .i64 z6,.int .i64 z7,.int .i64 z8,.int .i64 z10] 41));have HB1:=hD (heap_alloc_new w10 (.cells #[.int .i64 z1,.int .i64 z2,.int .i64 z3,.int .i64 z4,.int .i64 z5,.int .i64 z6,.int .i64 z7,.int .i64 z8,.int .i64 z10] 41))
 have HB0:=hD ((Below.heap_alloc w10 (.cells #[.int .i64 z1,.int .i64 z2,.int .i64 z3,.int .i64 z4,.int .i64 z5,.int .i64 z6,.int .i64 z7,.int .i64 z8,.int .i64 z10] 41) w.heap.size hx0).trans hb0);clear hc hlt hbase hs hl7 hb0 hr10
 go_upto_region 2 with (fail)
 refine wp_genG (fun W=>W.heap[w.heap.size]?=some (.cells #[.int .i64 0,.int .i64 0,.int .i64 0,.int .i64 0,.int .i64 0,.int .i64 0,.int .i64 0,.int .i64 0,.int .i64 0] 41)∧W.heap[w10.heap.size]?=some (.cells #[.int .i64 z1,.int .i64 z2,.int .i64 z3,.int .i64 z4,.int .i64 z5,.int .i64 z6,.int .i64 z7,.int .i64 z8,.int .i64 z10] 41)∧Rd B rb A l c (m+10) W∧Chg [rb] w W) ⟨HB0.out,HB1.out,HR.out.mono (by omega),HC.out⟩ (fun wz hwz=>?_)
 clear HB0 HB1 HR HC;obtain ⟨k0,k1,k2,k3⟩:=hwz;have HB0:=hD k0;have HB1:=hD k1;have HR:=hD k2;have HC:=hD k3;clear k0 k1 k2 k3;have h0:=HB0.out;have h1:=HB1.out;obtain ⟨c0,c1,c2,c3,c4,c5,c6,c7,c8⟩:=c9_q h1;obtain ⟨d0,d1,d2,d3,d4,d5,d6,d7,d8⟩:=c9_q h0;obtain ⟨f0,f1,f2,f3,f4,f5,f6,f7,f8⟩:=f9_q h0;clear h0 h1;go_wp2
 refine bp_gen (fun W=>W.heap[w.heap.size]?=some (.cells #[.int .i64 z1,.int .i64 z2,.int .i64 z3,.int .i64 z4,.int .i64 z5,.int .i64 z6,.int .i64 z7,.int .i64 z8,.int .i64 z10] 41)∧Rd B rb A l c (m+10) W∧Chg [rb] w W) ⟨put9h HB0.out (.int .i64 z1) (.int .i64 z2) (.int .i64 z3) (.int .i64 z4) (.int .i64 z5) (.int .i64 z6) (.int .i64 z7) (.int .i64 z8) (.int .i64 z10),put9r (HR.out.mono (by omega)) hB0 hn0 (.int .i64 z1) (.int .i64 z2) (.int .i64 z3) (.int .i64 z4) (.int .i64 z5) (.int .i64 z6) (.int .i64 z7) (.int .i64 z8) (.int .i64 z10),put9c HC.out (.inr (Nat.le_refl _)) (.int .i64 z1) (.int .i64 z2) (.int .i64 z3) (.int .i64 z4) (.int .i64 z5) (.int .i64 z6) (.int .i64 z7) (.int .i64 z8) (.int .i64 z10)⟩ ?_
 clear HB0 HB1 HC HR c0 c1 c2 c3 c4 c5 c6 c7 c8 d0 d1 d2 d3 d4 d5 d6 d7 d8 f0 f1 f2 f3 f4 f5 f6 f7 f8;rintro W ⟨h0,hR,hC⟩;obtain ⟨d0,d1,d2,d3,d4,d5,d6,d7,d8⟩:=c9_q h0
 exact bodyPost_ret (v:=.agg #[.int .i64 z1,.int .i64 z2,.int .i64 z3,.int .i64 z4,.int .i64 z5,.int .i64 z6,.int .i64 z7,.int .i64 z8,.int .i64 z10]) (by simp only [results,Tryz.results147];go_simp) rfl ⟨⟨_,_,_,_,_,_,_,_,_,rfl⟩,hR,hC⟩
section
section
variable {P:Program}
def rgC (l:List Oper) (size:Nat):Bool :=
 Region.noSelect l.toArray &&
 ((List.range l.length).all fun i=>match l[i]? with
  | none=>true
  | some o=>(o.after.toList.all fun e=>!Region.binds .any e || decide (e.on<i)) &&
   (o.dst.all fun d=>decide (d<size)&&pZy d l 0 == some i) &&
   ((o.looksAt l.toArray).all fun t=>match pZy t l 0 with
    | none=>true
    | some j=>o.after.toList.any fun e=>e.on == j&&Region.binds .any e))
end
end
end Go.Proofs.YtfnpdlnepjhljaaGreat
