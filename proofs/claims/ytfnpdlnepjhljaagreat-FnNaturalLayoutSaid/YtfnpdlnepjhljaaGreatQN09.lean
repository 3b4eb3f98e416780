import Derived.Test.YtfnpdlnepjhljaaGreatQN08
import Derived.RangeFuncBox
import Derived.Maps.AppendAt
import Derived.Laws.EntriesVeiled
set_option linter.unusedVariables false
set_option linter.unusedSimpArgs false
set_option maxRecDepth 100000
set_option maxHeartbeats 16000000
namespace Go.Proofs.YtfnpdlnepjhljaaGreat
open Go.RowKit
attribute [local go_sem] growUpon_value growUpon_skip growUpon_enter
def ownB (n:Nd):Bool:=if n.ki=1 then linesB n.cs&&linesB n.rs else decide (n.cs.length=0)&&decide (n.rs.length=0)
def ndB (n:Nd):Bool:=(rng n.ww 0 30&&rng n.hh 0 30)&&(rng n.ki 0 2&&(ownB n&&(n.pk.ok&&(decide (n.pk.w=0)&&(decide (n.pk.h=0)&&(decide (n.ce.cw=0)&&(decide (n.ce.ch=0)&&plB n.pl)))))))
theorem validOwnLines_v (p:Nr) (b:Bool) (w:World) (h:RdN w p) (k1:p.n.cs.length≤1048576) (k2:p.n.rs.length≤1048576) (hb:ownB p.n=b) :
  Calls Tryz.prog 123 #[.agg (valsNr p).toArray] w fun e w'=>e=.returned (.bool b)∧Below w.heap.size w w':=by
 have hB0:Below w.heap.size w (w.alloc (.cells (valsNr p).toArray 43 (0,0))):=balloc (Below.refl _ _);have HX:=hD (newS w (.cells (valsNr p).toArray 43 (0,0)));have HC:=hD (h.c.keep hB0);have HR:=hD (h.r.keep hB0);have HB:=hD hB0;clear hB0 h;have x4:(w.alloc (.cells (valsNr p).toArray 43 (0,0))).cell? ⟨w.heap.size,4,none⟩=some (.int .i64 p.n.ki):=cellS HX.out 4
 have x5:(w.alloc (.cells (valsNr p).toArray 43 (0,0))).cell? ⟨w.heap.size,5,none⟩=some (.slice p.ca p.n.cs.length p.cc):=cellS HX.out 5;have x6:(w.alloc (.cells (valsNr p).toArray 43 (0,0))).cell? ⟨w.heap.size,6,none⟩=some (.slice p.ra p.n.rs.length p.rc):=cellS HX.out 6;unfold ownB at hb
 by_cases hk:p.n.ki=1
 ·rw [if_pos hk] at hb;rw [hk] at x4;have HK:=hD hk;clear hk
  cases h1:linesB p.n.cs
  ·obtain rfl:false=b:=by rw [<- hb,h1];rfl
   go_enter Tryz.func123,Tryz.ntmps123
   go_wp2_with fail
   with_reducible refine (validLines_v p.ca p.cc p.n.cs false _ HC.out k1 h1).mono ?_
   rintro e w1 ⟨rfl,hb1⟩;clear x4 x5 x6;replace HB:=hD (bkeep2 HB.out hb1);clear hb1;go_wp2;go_ret;exact ⟨rfl,HB.out⟩
  ·have h2:linesB p.n.rs=b:=by rw [<- hb,h1];rfl
   clear hb
   cases b
   all_goals
    go_enter Tryz.func123,Tryz.ntmps123
    go_wp2_with fail
    with_reducible refine (validLines_v p.ca p.cc p.n.cs true _ HC.out k1 h1).mono ?_
    rintro e w1 ⟨rfl,hb1⟩;clear x4 x5 x6;replace HX:=hbk hb1 HX;replace HR:=hD (HR.out.keep hb1);replace HB:=hD (bkeep2 HB.out hb1);clear hb1;have x6:w1.cell? ⟨w.heap.size,6,none⟩=some (.slice p.ra p.n.rs.length p.rc):=cellS HX.out 6
    go_wp2_with fail
    with_reducible refine (validLines_v p.ra p.rc p.n.rs _ _ HR.out k2 h2).mono ?_
    rintro e w2 ⟨rfl,hb2⟩;clear x6;replace HB:=hD (bkeep2 HB.out hb2);clear hb2;go_wp2;go_ret;exact ⟨rfl,HB.out⟩
 ·rw [if_neg hk] at hb
  have e1:(p.n.ki == 1)=false:=by rw [beq_eq_false_iff_ne];exact hk
  have e1':decide (p.n.ki=1)=false:=decide_eq_false hk;have HK:=hD hk;clear hk
  by_cases h1:p.n.cs.length=0
  ·have e2:(((p.n.cs.length:Nat):Int) == 0)=true:=by rw [h1];rfl
   have e2':decide (((p.n.cs.length:Nat):Int)=0)=true:=decide_eq_true (by omega)
   by_cases h2:p.n.rs.length=0
   ·have e3:(((p.n.rs.length:Nat):Int) == 0)=true:=by rw [h2];rfl
    have e3':decide (((p.n.rs.length:Nat):Int)=0)=true:=decide_eq_true (by omega)
    obtain rfl:true=b:=by rw [<- hb,h1,h2];rfl
    clear h1 h2 hb
    go_enter Tryz.func123,Tryz.ntmps123
    go_wp2;go_ret;exact ⟨rfl,HB.out⟩
   ·have e3:(((p.n.rs.length:Nat):Int) == 0)=false:=by rw [beq_eq_false_iff_ne];omega
    have e3':decide (((p.n.rs.length:Nat):Int)=0)=false:=decide_eq_false (by omega)
    obtain rfl:false=b:=by rw [<- hb,decide_eq_false h2,Bool.and_false]
    clear h1 h2 hb
    go_enter Tryz.func123,Tryz.ntmps123
    go_wp2;go_ret;exact ⟨rfl,HB.out⟩
  ·have e2:(((p.n.cs.length:Nat):Int) == 0)=false:=by rw [beq_eq_false_iff_ne];omega
   have e2':decide (((p.n.cs.length:Nat):Int)=0)=false:=decide_eq_false (by omega)
   obtain rfl:false=b:=by rw [<- hb,decide_eq_false h1,Bool.false_and]
   clear h1 hb
   go_enter Tryz.func123,Tryz.ntmps123
   go_wp2;go_ret;exact ⟨rfl,HB.out⟩
theorem eqb_t {x:Int} (h:decide (x=0)=true):(x == 0)=true:=by have:=of_decide_eq_true h;rw [this];rfl
theorem eqb_f {x:Int} (h:decide (x=0)=false):(x == 0)=false:=by have:=of_decide_eq_false h;rw [beq_eq_false_iff_ne];exact this
theorem validNode_v (p:Nr) (b:Bool) (w:World) (h:RdN w p) (k1:p.n.cs.length≤1048576) (k2:p.n.rs.length≤1048576) (hb:ndB p.n=b) :
  Calls Tryz.prog 95 #[.agg (valsNr p).toArray] w fun e w'=>e=.returned (.bool b)∧Below w.heap.size w w':=by
 have HX:=hD (newS w (.cells (valsNr p).toArray 43 (0,0)));have HB:=hD (show Below w.heap.size w (w.alloc (.cells (valsNr p).toArray 43 (0,0))) from balloc (Below.refl _ _));have HD:=hD h;clear h
 cases h1:(rng p.n.ww 0 30&&rng p.n.hh 0 30)
 ·obtain rfl:false=b:=by rw [<- hb];simp only [ndB,h1,Bool.false_and,Bool.true_and]
  clear hb;obtain ⟨x1,x2,x4,x7,x8,x20,x21⟩:=xs1_2_4_7_8_20_21 HX.out;obtain ⟨HR,HRP,HRL,-⟩:=hrs HX.out
  go_enter Tryz.func95,Tryz.ntmps95
  go_wp2_with (first|(refine ldNr p w.heap.size 0 rfl rfl rfl HR.out ?_)|(refine ldPackH HRP rfl rfl rfl ?_)|(refine ldPlaceH HRL rfl rfl rfl ?_))
  with_reducible refine (validWish_w p.n.ww p.n.hh false _ h1).mono ?_
  rintro e wq ⟨rfl,rfl⟩
  go_wp2_with (first|(refine ldNr p w.heap.size 0 rfl rfl rfl HR.out ?_)|(refine ldPackH HRP rfl rfl rfl ?_)|(refine ldPlaceH HRL rfl rfl rfl ?_))
  go_ret;exact ⟨rfl,HB.out⟩
 cases h2:rng p.n.ki 0 2
 ·obtain rfl:false=b:=by rw [<- hb];simp only [ndB,h1,h2,Bool.false_and,Bool.true_and]
  clear hb;obtain ⟨x1,x2,x4,x7,x8,x20,x21⟩:=xs1_2_4_7_8_20_21 HX.out;obtain ⟨HR,HRP,HRL,-⟩:=hrs HX.out
  go_enter Tryz.func95,Tryz.ntmps95
  go_wp2_with (first|(refine ldNr p w.heap.size 0 rfl rfl rfl HR.out ?_)|(refine ldPackH HRP rfl rfl rfl ?_)|(refine ldPlaceH HRL rfl rfl rfl ?_))
  with_reducible refine (validWish_w p.n.ww p.n.hh true _ h1).mono ?_
  rintro e wq ⟨rfl,rfl⟩
  go_wp2_with (first|(refine ldNr p w.heap.size 0 rfl rfl rfl HR.out ?_)|(refine ldPackH HRP rfl rfl rfl ?_)|(refine ldPlaceH HRL rfl rfl rfl ?_))
  with_reducible refine (within_w _ 0 2 false _ h2).mono ?_
  rintro e wq ⟨rfl,rfl⟩
  go_wp2_with (first|(refine ldNr p w.heap.size 0 rfl rfl rfl HR.out ?_)|(refine ldPackH HRP rfl rfl rfl ?_)|(refine ldPlaceH HRL rfl rfl rfl ?_))
  go_ret;exact ⟨rfl,HB.out⟩
 cases h3:ownB p.n
 ·obtain rfl:false=b:=by rw [<- hb];simp only [ndB,h1,h2,h3,Bool.false_and,Bool.true_and]
  clear hb;obtain ⟨x1,x2,x4,x7,x8,x20,x21⟩:=xs1_2_4_7_8_20_21 HX.out;obtain ⟨HR,HRP,HRL,-⟩:=hrs HX.out
  go_enter Tryz.func95,Tryz.ntmps95
  go_wp2_with (first|(refine ldNr p w.heap.size 0 rfl rfl rfl HR.out ?_)|(refine ldPackH HRP rfl rfl rfl ?_)|(refine ldPlaceH HRL rfl rfl rfl ?_))
  with_reducible refine (validWish_w p.n.ww p.n.hh true _ h1).mono ?_
  rintro e wq ⟨rfl,rfl⟩
  go_wp2_with (first|(refine ldNr p w.heap.size 0 rfl rfl rfl HR.out ?_)|(refine ldPackH HRP rfl rfl rfl ?_)|(refine ldPlaceH HRL rfl rfl rfl ?_))
  with_reducible refine (within_w _ 0 2 true _ h2).mono ?_
  rintro e wq ⟨rfl,rfl⟩
  go_wp2_with (first|(refine ldNr p w.heap.size 0 rfl rfl rfl HR.out ?_)|(refine ldPackH HRP rfl rfl rfl ?_)|(refine ldPlaceH HRL rfl rfl rfl ?_))
  with_reducible refine (validOwnLines_v p false _ (HD.out.keep HB.out) k1 k2 h3).mono ?_
  rintro e w1 ⟨rfl,hb1⟩;clear x1 x2 x4 x7 x8 x20 x21 HR HRP HRL;replace HX:=hbk hb1 HX;replace HB:=hD (bkeep2 HB.out hb1);clear hb1;obtain ⟨x1,x2,x4,x7,x8,x20,x21⟩:=xs1_2_4_7_8_20_21 HX.out;obtain ⟨HR,HRP,HRL,-⟩:=hrs HX.out
  go_wp2_with (first|(refine ldNr p w.heap.size 0 rfl rfl rfl HR.out ?_)|(refine ldPackH HRP rfl rfl rfl ?_)|(refine ldPlaceH HRL rfl rfl rfl ?_))
  go_ret;exact ⟨rfl,HB.out⟩
 cases h4:p.n.pk.ok
 ·obtain rfl:false=b:=by rw [<- hb];simp only [ndB,h1,h2,h3,h4,Bool.false_and,Bool.true_and]
  clear hb;obtain ⟨x1,x2,x4,x7,x8,x20,x21⟩:=xs1_2_4_7_8_20_21 HX.out;obtain ⟨HR,HRP,HRL,-⟩:=hrs HX.out
  go_enter Tryz.func95,Tryz.ntmps95
  go_wp2_with (first|(refine ldNr p w.heap.size 0 rfl rfl rfl HR.out ?_)|(refine ldPackH HRP rfl rfl rfl ?_)|(refine ldPlaceH HRL rfl rfl rfl ?_))
  with_reducible refine (validWish_w p.n.ww p.n.hh true _ h1).mono ?_
  rintro e wq ⟨rfl,rfl⟩
  go_wp2_with (first|(refine ldNr p w.heap.size 0 rfl rfl rfl HR.out ?_)|(refine ldPackH HRP rfl rfl rfl ?_)|(refine ldPlaceH HRL rfl rfl rfl ?_))
  with_reducible refine (within_w _ 0 2 true _ h2).mono ?_
  rintro e wq ⟨rfl,rfl⟩
  go_wp2_with (first|(refine ldNr p w.heap.size 0 rfl rfl rfl HR.out ?_)|(refine ldPackH HRP rfl rfl rfl ?_)|(refine ldPlaceH HRL rfl rfl rfl ?_))
  with_reducible refine (validOwnLines_v p true _ (HD.out.keep HB.out) k1 k2 h3).mono ?_
  rintro e w1 ⟨rfl,hb1⟩;clear x1 x2 x4 x7 x8 x20 x21 HR HRP HRL;replace HX:=hbk hb1 HX;replace HB:=hD (bkeep2 HB.out hb1);clear hb1;obtain ⟨x1,x2,x4,x7,x8,x20,x21⟩:=xs1_2_4_7_8_20_21 HX.out;obtain ⟨HR,HRP,HRL,-⟩:=hrs HX.out
  go_wp2_with (first|(refine ldNr p w.heap.size 0 rfl rfl rfl HR.out ?_)|(refine ldPackH HRP rfl rfl rfl ?_)|(refine ldPlaceH HRL rfl rfl rfl ?_))
  with_reducible refine (vp_v p.n.pk false h4 _).mono ?_
  rintro e w2 ⟨rfl,hb1⟩;clear x1 x2 x4 x7 x8 x20 x21 HR HRP HRL;replace HX:=hbk hb1 HX;replace HB:=hD (bkeep2 HB.out hb1);clear hb1;obtain ⟨x1,x2,x4,x7,x8,x20,x21⟩:=xs1_2_4_7_8_20_21 HX.out;obtain ⟨HR,HRP,HRL,-⟩:=hrs HX.out
  go_wp2_with (first|(refine ldNr p w.heap.size 0 rfl rfl rfl HR.out ?_)|(refine ldPackH HRP rfl rfl rfl ?_)|(refine ldPlaceH HRL rfl rfl rfl ?_))
  go_ret;exact ⟨rfl,HB.out⟩
 cases h5:decide (p.n.pk.w=0)
 ·obtain rfl:false=b:=by rw [<- hb];simp only [ndB,h1,h2,h3,h4,h5,Bool.false_and,Bool.true_and]
  clear hb;have e5:=eqb_f h5;obtain ⟨x1,x2,x4,x7,x8,x20,x21⟩:=xs1_2_4_7_8_20_21 HX.out;obtain ⟨HR,HRP,HRL,-⟩:=hrs HX.out
  go_enter Tryz.func95,Tryz.ntmps95
  go_wp2_with (first|(refine ldNr p w.heap.size 0 rfl rfl rfl HR.out ?_)|(refine ldPackH HRP rfl rfl rfl ?_)|(refine ldPlaceH HRL rfl rfl rfl ?_))
  with_reducible refine (validWish_w p.n.ww p.n.hh true _ h1).mono ?_
  rintro e wq ⟨rfl,rfl⟩
  go_wp2_with (first|(refine ldNr p w.heap.size 0 rfl rfl rfl HR.out ?_)|(refine ldPackH HRP rfl rfl rfl ?_)|(refine ldPlaceH HRL rfl rfl rfl ?_))
  with_reducible refine (within_w _ 0 2 true _ h2).mono ?_
  rintro e wq ⟨rfl,rfl⟩
  go_wp2_with (first|(refine ldNr p w.heap.size 0 rfl rfl rfl HR.out ?_)|(refine ldPackH HRP rfl rfl rfl ?_)|(refine ldPlaceH HRL rfl rfl rfl ?_))
  with_reducible refine (validOwnLines_v p true _ (HD.out.keep HB.out) k1 k2 h3).mono ?_
  rintro e w1 ⟨rfl,hb1⟩;clear x1 x2 x4 x7 x8 x20 x21 HR HRP HRL;replace HX:=hbk hb1 HX;replace HB:=hD (bkeep2 HB.out hb1);clear hb1;obtain ⟨x1,x2,x4,x7,x8,x20,x21⟩:=xs1_2_4_7_8_20_21 HX.out;obtain ⟨HR,HRP,HRL,-⟩:=hrs HX.out
  go_wp2_with (first|(refine ldNr p w.heap.size 0 rfl rfl rfl HR.out ?_)|(refine ldPackH HRP rfl rfl rfl ?_)|(refine ldPlaceH HRL rfl rfl rfl ?_))
  with_reducible refine (vp_v p.n.pk true h4 _).mono ?_
  rintro e w2 ⟨rfl,hb1⟩;clear x1 x2 x4 x7 x8 x20 x21 HR HRP HRL;replace HX:=hbk hb1 HX;replace HB:=hD (bkeep2 HB.out hb1);clear hb1;obtain ⟨x1,x2,x4,x7,x8,x20,x21⟩:=xs1_2_4_7_8_20_21 HX.out;obtain ⟨HR,HRP,HRL,-⟩:=hrs HX.out
  go_wp2_with (first|(refine ldNr p w.heap.size 0 rfl rfl rfl HR.out ?_)|(refine ldPackH HRP rfl rfl rfl ?_)|(refine ldPlaceH HRL rfl rfl rfl ?_))
  go_ret;exact ⟨rfl,HB.out⟩
 have e5:=eqb_t h5
 cases h6:decide (p.n.pk.h=0)
 ·obtain rfl:false=b:=by rw [<- hb];simp only [ndB,h1,h2,h3,h4,h5,h6,Bool.false_and,Bool.true_and]
  clear hb;have e6:=eqb_f h6;obtain ⟨x1,x2,x4,x7,x8,x20,x21⟩:=xs1_2_4_7_8_20_21 HX.out;obtain ⟨HR,HRP,HRL,-⟩:=hrs HX.out
  go_enter Tryz.func95,Tryz.ntmps95
  go_wp2_with (first|(refine ldNr p w.heap.size 0 rfl rfl rfl HR.out ?_)|(refine ldPackH HRP rfl rfl rfl ?_)|(refine ldPlaceH HRL rfl rfl rfl ?_))
  with_reducible refine (validWish_w p.n.ww p.n.hh true _ h1).mono ?_
  rintro e wq ⟨rfl,rfl⟩
  go_wp2_with (first|(refine ldNr p w.heap.size 0 rfl rfl rfl HR.out ?_)|(refine ldPackH HRP rfl rfl rfl ?_)|(refine ldPlaceH HRL rfl rfl rfl ?_))
  with_reducible refine (within_w _ 0 2 true _ h2).mono ?_
  rintro e wq ⟨rfl,rfl⟩
  go_wp2_with (first|(refine ldNr p w.heap.size 0 rfl rfl rfl HR.out ?_)|(refine ldPackH HRP rfl rfl rfl ?_)|(refine ldPlaceH HRL rfl rfl rfl ?_))
  with_reducible refine (validOwnLines_v p true _ (HD.out.keep HB.out) k1 k2 h3).mono ?_
  rintro e w1 ⟨rfl,hb1⟩;clear x1 x2 x4 x7 x8 x20 x21 HR HRP HRL;replace HX:=hbk hb1 HX;replace HB:=hD (bkeep2 HB.out hb1);clear hb1;obtain ⟨x1,x2,x4,x7,x8,x20,x21⟩:=xs1_2_4_7_8_20_21 HX.out;obtain ⟨HR,HRP,HRL,-⟩:=hrs HX.out
  go_wp2_with (first|(refine ldNr p w.heap.size 0 rfl rfl rfl HR.out ?_)|(refine ldPackH HRP rfl rfl rfl ?_)|(refine ldPlaceH HRL rfl rfl rfl ?_))
  with_reducible refine (vp_v p.n.pk true h4 _).mono ?_
  rintro e w2 ⟨rfl,hb1⟩;clear x1 x2 x4 x7 x8 x20 x21 HR HRP HRL;replace HX:=hbk hb1 HX;replace HB:=hD (bkeep2 HB.out hb1);clear hb1;obtain ⟨x1,x2,x4,x7,x8,x20,x21⟩:=xs1_2_4_7_8_20_21 HX.out;obtain ⟨HR,HRP,HRL,-⟩:=hrs HX.out
  go_wp2_with (first|(refine ldNr p w.heap.size 0 rfl rfl rfl HR.out ?_)|(refine ldPackH HRP rfl rfl rfl ?_)|(refine ldPlaceH HRL rfl rfl rfl ?_))
  go_ret;exact ⟨rfl,HB.out⟩
 have e6:=eqb_t h6
 cases h7:decide (p.n.ce.cw=0)
 ·obtain rfl:false=b:=by rw [<- hb];simp only [ndB,h1,h2,h3,h4,h5,h6,h7,Bool.false_and,Bool.true_and]
  clear hb;have e7:=eqb_f h7;obtain ⟨x1,x2,x4,x7,x8,x20,x21⟩:=xs1_2_4_7_8_20_21 HX.out;obtain ⟨HR,HRP,HRL,-⟩:=hrs HX.out
  go_enter Tryz.func95,Tryz.ntmps95
  go_wp2_with (first|(refine ldNr p w.heap.size 0 rfl rfl rfl HR.out ?_)|(refine ldPackH HRP rfl rfl rfl ?_)|(refine ldPlaceH HRL rfl rfl rfl ?_))
  with_reducible refine (validWish_w p.n.ww p.n.hh true _ h1).mono ?_
  rintro e wq ⟨rfl,rfl⟩
  go_wp2_with (first|(refine ldNr p w.heap.size 0 rfl rfl rfl HR.out ?_)|(refine ldPackH HRP rfl rfl rfl ?_)|(refine ldPlaceH HRL rfl rfl rfl ?_))
  with_reducible refine (within_w _ 0 2 true _ h2).mono ?_
  rintro e wq ⟨rfl,rfl⟩
  go_wp2_with (first|(refine ldNr p w.heap.size 0 rfl rfl rfl HR.out ?_)|(refine ldPackH HRP rfl rfl rfl ?_)|(refine ldPlaceH HRL rfl rfl rfl ?_))
  with_reducible refine (validOwnLines_v p true _ (HD.out.keep HB.out) k1 k2 h3).mono ?_
  rintro e w1 ⟨rfl,hb1⟩;clear x1 x2 x4 x7 x8 x20 x21 HR HRP HRL;replace HX:=hbk hb1 HX;replace HB:=hD (bkeep2 HB.out hb1);clear hb1;obtain ⟨x1,x2,x4,x7,x8,x20,x21⟩:=xs1_2_4_7_8_20_21 HX.out;obtain ⟨HR,HRP,HRL,-⟩:=hrs HX.out
  go_wp2_with (first|(refine ldNr p w.heap.size 0 rfl rfl rfl HR.out ?_)|(refine ldPackH HRP rfl rfl rfl ?_)|(refine ldPlaceH HRL rfl rfl rfl ?_))
  with_reducible refine (vp_v p.n.pk true h4 _).mono ?_
  rintro e w2 ⟨rfl,hb1⟩;clear x1 x2 x4 x7 x8 x20 x21 HR HRP HRL;replace HX:=hbk hb1 HX;replace HB:=hD (bkeep2 HB.out hb1);clear hb1;obtain ⟨x1,x2,x4,x7,x8,x20,x21⟩:=xs1_2_4_7_8_20_21 HX.out;obtain ⟨HR,HRP,HRL,-⟩:=hrs HX.out
  go_wp2_with (first|(refine ldNr p w.heap.size 0 rfl rfl rfl HR.out ?_)|(refine ldPackH HRP rfl rfl rfl ?_)|(refine ldPlaceH HRL rfl rfl rfl ?_))
  go_ret;exact ⟨rfl,HB.out⟩
 have e7:=eqb_t h7
 cases h8:decide (p.n.ce.ch=0)
 ·obtain rfl:false=b:=by rw [<- hb];simp only [ndB,h1,h2,h3,h4,h5,h6,h7,h8,Bool.false_and,Bool.true_and]
  clear hb;have e8:=eqb_f h8;obtain ⟨x1,x2,x4,x7,x8,x20,x21⟩:=xs1_2_4_7_8_20_21 HX.out;obtain ⟨HR,HRP,HRL,-⟩:=hrs HX.out
  go_enter Tryz.func95,Tryz.ntmps95
  go_wp2_with (first|(refine ldNr p w.heap.size 0 rfl rfl rfl HR.out ?_)|(refine ldPackH HRP rfl rfl rfl ?_)|(refine ldPlaceH HRL rfl rfl rfl ?_))
  with_reducible refine (validWish_w p.n.ww p.n.hh true _ h1).mono ?_
  rintro e wq ⟨rfl,rfl⟩
  go_wp2_with (first|(refine ldNr p w.heap.size 0 rfl rfl rfl HR.out ?_)|(refine ldPackH HRP rfl rfl rfl ?_)|(refine ldPlaceH HRL rfl rfl rfl ?_))
  with_reducible refine (within_w _ 0 2 true _ h2).mono ?_
  rintro e wq ⟨rfl,rfl⟩
  go_wp2_with (first|(refine ldNr p w.heap.size 0 rfl rfl rfl HR.out ?_)|(refine ldPackH HRP rfl rfl rfl ?_)|(refine ldPlaceH HRL rfl rfl rfl ?_))
  with_reducible refine (validOwnLines_v p true _ (HD.out.keep HB.out) k1 k2 h3).mono ?_
  rintro e w1 ⟨rfl,hb1⟩;clear x1 x2 x4 x7 x8 x20 x21 HR HRP HRL;replace HX:=hbk hb1 HX;replace HB:=hD (bkeep2 HB.out hb1);clear hb1;obtain ⟨x1,x2,x4,x7,x8,x20,x21⟩:=xs1_2_4_7_8_20_21 HX.out;obtain ⟨HR,HRP,HRL,-⟩:=hrs HX.out
  go_wp2_with (first|(refine ldNr p w.heap.size 0 rfl rfl rfl HR.out ?_)|(refine ldPackH HRP rfl rfl rfl ?_)|(refine ldPlaceH HRL rfl rfl rfl ?_))
  with_reducible refine (vp_v p.n.pk true h4 _).mono ?_
  rintro e w2 ⟨rfl,hb1⟩;clear x1 x2 x4 x7 x8 x20 x21 HR HRP HRL;replace HX:=hbk hb1 HX;replace HB:=hD (bkeep2 HB.out hb1);clear hb1;obtain ⟨x1,x2,x4,x7,x8,x20,x21⟩:=xs1_2_4_7_8_20_21 HX.out;obtain ⟨HR,HRP,HRL,-⟩:=hrs HX.out
  go_wp2_with (first|(refine ldNr p w.heap.size 0 rfl rfl rfl HR.out ?_)|(refine ldPackH HRP rfl rfl rfl ?_)|(refine ldPlaceH HRL rfl rfl rfl ?_))
  go_ret;exact ⟨rfl,HB.out⟩
 have e8:=eqb_t h8
 have h9:plB p.n.pl=b:=by rw [<- hb];simp only [ndB,h1,h2,h3,h4,h5,h6,h7,h8,Bool.true_and]
 clear hb
 cases b
 all_goals
  obtain ⟨x1,x2,x4,x7,x8,x20,x21⟩:=xs1_2_4_7_8_20_21 HX.out;obtain ⟨HR,HRP,HRL,-⟩:=hrs HX.out
  go_enter Tryz.func95,Tryz.ntmps95
  go_wp2_with (first|(refine ldNr p w.heap.size 0 rfl rfl rfl HR.out ?_)|(refine ldPackH HRP rfl rfl rfl ?_)|(refine ldPlaceH HRL rfl rfl rfl ?_))
  with_reducible refine (validWish_w p.n.ww p.n.hh true _ h1).mono ?_
  rintro e wq ⟨rfl,rfl⟩
  go_wp2_with (first|(refine ldNr p w.heap.size 0 rfl rfl rfl HR.out ?_)|(refine ldPackH HRP rfl rfl rfl ?_)|(refine ldPlaceH HRL rfl rfl rfl ?_))
  with_reducible refine (within_w _ 0 2 true _ h2).mono ?_
  rintro e wq ⟨rfl,rfl⟩
  go_wp2_with (first|(refine ldNr p w.heap.size 0 rfl rfl rfl HR.out ?_)|(refine ldPackH HRP rfl rfl rfl ?_)|(refine ldPlaceH HRL rfl rfl rfl ?_))
  with_reducible refine (validOwnLines_v p true _ (HD.out.keep HB.out) k1 k2 h3).mono ?_
  rintro e w1 ⟨rfl,hb1⟩;clear x1 x2 x4 x7 x8 x20 x21 HR HRP HRL;replace HX:=hbk hb1 HX;replace HB:=hD (bkeep2 HB.out hb1);clear hb1;obtain ⟨x1,x2,x4,x7,x8,x20,x21⟩:=xs1_2_4_7_8_20_21 HX.out;obtain ⟨HR,HRP,HRL,-⟩:=hrs HX.out
  go_wp2_with (first|(refine ldNr p w.heap.size 0 rfl rfl rfl HR.out ?_)|(refine ldPackH HRP rfl rfl rfl ?_)|(refine ldPlaceH HRL rfl rfl rfl ?_))
  with_reducible refine (vp_v p.n.pk true h4 _).mono ?_
  rintro e w2 ⟨rfl,hb1⟩;clear x1 x2 x4 x7 x8 x20 x21 HR HRP HRL;replace HX:=hbk hb1 HX;replace HB:=hD (bkeep2 HB.out hb1);clear hb1;obtain ⟨x1,x2,x4,x7,x8,x20,x21⟩:=xs1_2_4_7_8_20_21 HX.out;obtain ⟨HR,HRP,HRL,-⟩:=hrs HX.out
  go_wp2_with (first|(refine ldNr p w.heap.size 0 rfl rfl rfl HR.out ?_)|(refine ldPackH HRP rfl rfl rfl ?_)|(refine ldPlaceH HRL rfl rfl rfl ?_))
  with_reducible refine (validPlace_t p.n.pl _ _ h9).mono ?_
  rintro e w3 ⟨rfl,hb1⟩;clear x1 x2 x4 x7 x8 x20 x21 HR HRP HRL;replace HX:=hbk hb1 HX;replace HB:=hD (bkeep2 HB.out hb1);clear hb1;obtain ⟨x1,x2,x4,x7,x8,x20,x21⟩:=xs1_2_4_7_8_20_21 HX.out;obtain ⟨HR,HRP,HRL,-⟩:=hrs HX.out
  go_wp2_with (first|(refine ldNr p w.heap.size 0 rfl rfl rfl HR.out ?_)|(refine ldPackH HRP rfl rfl rfl ?_)|(refine ldPlaceH HRL rfl rfl rfl ?_))
  go_ret;exact ⟨rfl,HB.out⟩
def upB (i:Nat) (n:Nd):Bool:=if i=0 then decide (n.pa=-1) else rng n.pa 0 ((i:Int)-1)
def clB (L:List Nd) (i:Nat) (n:Nd):Bool:=if i=0 then true else match L[n.pa.toNat]? with
 | some u=>decide (u.ki≠1) || cellB u.cs.length u.rs.length n.ce
 | none=>true
def nokB (L:List Nd) (i:Nat):Bool:=match L[i]? with
 | some n=>ndB n&&(upB i n&&clB L i n)
 | none=>true
def treeB (L:List Nd):Bool:=rng L.length 1 10&&(List.range L.length).all (nokB L)
theorem nokB_at {L:List Nd} {i:Nat} {n:Nd} (h:L[i]?=some n):nokB L i=(ndB n&&(upB i n&&clB L i n)):=by unfold nokB;rw [h]
theorem range_all_succ {f:Nat→Bool} {k:Nat}:(List.range (k+1)).all f=((List.range k).all f&&f k):=by
 rw [List.range_succ,List.all_append];simp
theorem own_lines {n:Nd} (h:ndB n=true) (hk:n.ki=1):linesB n.cs=true∧linesB n.rs=true:=by
 simp only [ndB,Bool.and_eq_true] at h
 have:=h.2.2.1
 unfold ownB at this;rw [if_pos hk] at this
 simpa [Bool.and_eq_true] using this
theorem hasParentAhead_v (A:Option Addr) (c:Nat) (R:List Nr) (i:Nat) (p:Nr) (b:Bool) (w:World) (h:NrV w A R) (hp:R[i]?=some p) (hL:R.length≤10) (hb:upB i p.n=b) :
  Calls Tryz.prog 96 #[.agg #[.slice A R.length c],.int .i64 i] w fun e w'=>e=.returned (.bool b)∧Below w.heap.size w w':=by
 have hi:i<R.length:=(List.getElem?_eq_some_iff.1 hp).1;obtain ⟨bl,off,rfl,hbl,hc⟩:=h.cells (by omega);have x0:w.cell? ⟨bl,off+i*34,none⟩=some (.int .i64 p.n.pa):=hc i p hp 0 _ rfl
 have hii:(i:Int)<(R.length:Int):=by omega
 have hne:¬ bl=w.heap.size:=by omega
 unfold upB at hb;clear hc h hp
 by_cases h0:i=0
 ·subst h0;rw [if_pos rfl] at hb;simp only [Nat.zero_mul,Nat.add_zero] at x0
  have hlr:(0:Int)<(R.length:Int):=by omega
  clear hii
  have e1:(p.n.pa == -1)=b:=by rw [<- hb];rfl
  have HE:=hD e1;clear hb e1
  go_enter Tryz.func96,Tryz.ntmps96
  go_wp2;go_ret;exact ⟨ret_bool HE.out,balloc (Below.refl _ _)⟩
 ·rw [if_neg h0] at hb
  have e0:((i:Int) == 0)=false:=by rw [beq_eq_false_iff_ne];omega
  have e0':decide ((i:Int)=0)=false:=decide_eq_false (by omega)
  go_enter Tryz.func96,Tryz.ntmps96
  go_wp2_with fail
  with_reducible refine (within_w p.n.pa 0 ((i:Int)-1) b _ hb).mono ?_
  rintro e w' ⟨rfl,rfl⟩;go_wp2;go_ret;exact ⟨rfl,balloc (Below.refl _ _)⟩
theorem hasValidCell_0 (A:Option Addr) (c n:Nat) (w:World) :
  Calls Tryz.prog 97 #[.agg #[.slice A n c],.int .i64 0] w fun e w'=>e=.returned (.bool true)∧Below w.heap.size w w':=by
 go_enter Tryz.func97,Tryz.ntmps97
 go_wp2;go_ret;exact ⟨rfl,balloc (Below.refl _ _)⟩
theorem hasValidCell_s (A:Option Addr) (c:Nat) (R:List Nr) (i m:Nat) (p u:Nr) (b:Bool) (w:World) (h:NrV w A R) (hp:R[i]?=some p) (hL:R.length≤10) (h0:i≠0) (hpa:p.n.pa=m) (hm:m<i) (hu:R[m]?=some u)
  (hl:u.n.ki=1→(1≤u.n.cs.length∧u.n.cs.length≤5)∧(1≤u.n.rs.length∧u.n.rs.length≤5)) (hb:(decide (u.n.ki≠1) || cellB u.n.cs.length u.n.rs.length p.n.ce)=b) :
  Calls Tryz.prog 97 #[.agg #[.slice A R.length c],.int .i64 i] w fun e w'=>e=.returned (.bool b)∧Below w.heap.size w w':=by
 have hi:i<R.length:=(List.getElem?_eq_some_iff.1 hp).1;obtain ⟨bl,off,rfl,hbl,hc⟩:=h.cells (by omega);have hB0:Below w.heap.size w (w.alloc (.cells #[.slice (some ⟨bl,off,none⟩) R.length c] 25 (0,0))):=balloc (Below.refl _ _);have HX:=hD (newS w (.cells #[.slice (some ⟨bl,off,none⟩) R.length c] 25 (0,0)));have HP:=hD (rangeB (hc i p hp) (hB0.block bl hbl))
 have HU:=hD (rangeB (hc m u hu) (hB0.block bl hbl));have HB:=hD hB0
 have hii:(i:Int)<(R.length:Int):=by omega
 have hmm:(m:Int)<(R.length:Int):=by omega
 have e0:((i:Int) == 0)=false:=by rw [beq_eq_false_iff_ne];omega
 have e0':decide ((i:Int)=0)=false:=decide_eq_false (by omega);have HPA:=hD hpa;have HBB:=hD hb;have HLL:=hD hl;clear hc h hp hu hpa hb hl hB0
 go_enter Tryz.func97,Tryz.ntmps97
 go_upto_region 3 with (fail)
 refine wp_genGG (fun W=>W.heap[w.heap.size]?=some (.cells #[.slice (some ⟨bl,off,none⟩) R.length c] 25 (0,0))∧W.rangeAt bl (off+i*34) (valsNr p)∧W.rangeAt bl (off+m*34) (valsNr u)∧Below w.heap.size w W∧bl<W.heap.size) ⟨HX.out,HP.out,HU.out,HB.out,by simp;omega⟩ (fun W h0=>?_);clear HX HP HU HB;obtain ⟨hx,hp,hu,hb,hbw⟩:=h0;have x0:=cellS hx 0
 have q0:W.cell? ⟨bl,off+i*34,none⟩=some (.int .i64 (m:Int)):=by rw [<- HPA.out];exact hp 0 _ rfl
 have lx:=ltS hx;have HX:=hD hx;have HP:=hD hp;have HU:=hD hu;have HB:=hD hb;clear hx hp hu hb;refine wp_region_grow 10 2 (·<11) (by kernel_rfl) (by kernel_rfl) rfl ?_
 iterate 10 (refine wpG_step (fun K hK=>?_);first|(refine grow_ldN _ u bl (off+m*34) rfl rfl rfl hbw (rangeB HU.out rfl) ?_;refine hK _ ?_;clear hK K)|(apply Exists.intro;refine ⟨.inl ⟨rfl,fun w' hw'=>?_⟩,?_⟩;(focus ((obtain ⟨hc,hf⟩:=bcell hw'.out);(have hcS:=bcellS hw'.out);go_simp <;> rfl));(go_simp;refine hK _ ?_;clear hK K)))
 refine wpG_nil ?_;refine wpK_one (i:=10) (by kernel_rfl) rfl rfl (by kernel_rfl) (fun w5 h5=>?_);go_simp;refine ⟨Gr.alloc _ _,?_⟩;refine wpK_tail (by kernel_rfl) (fun w9 h9=>?_);refine wpAny_one (i:=11) (by kernel_rfl) rfl rfl ?_;have hnew:=(h9.out.block w5.heap.size (by simp)).trans (newS w5 _)
 refine wp_store_mid 43 (.tmp 5) (.tmp 17) rfl w5.heap.size 0 (valsNr u).toArray rfl rfl (thereB hnew (by show (0+34:Nat)≤34;omega)) (by kernel_rfl) (valsNr_all u) ?_;refine wpAny_end (by kernel_rfl) ?_
 have hfull:(w9.setCells w5.heap.size 0 (valsNr u)).heap[w5.heap.size]?=some (.cells (valsNr u).toArray 43 (0,0)):=by
  rw [heap_setCells (valsNr u) 0 w9 _ hnew,wrAt_all (by rfl)]
 have hlow:W.heap.size≤w5.heap.size:=h5.out.size
 have hbel:Below W.heap.size W (w9.setCells w5.heap.size 0 (valsNr u)) :=
  below_setCells hlow _ _ _ (bgrow (balloc (bgrow (Below.refl _ _).drew h5)) h9)
 refine NoPan.gen (fun wf=>W.heap.size≤w5.heap.size∧wf.heap[w5.heap.size]?=some (.cells (valsNr u).toArray 43 (0,0))∧Below W.heap.size W wf) ⟨hlow,hfull,hbel⟩ (fun wf hwf=>?_);clear hnew hfull hlow hbel h9
 obtain ⟨b5,hb5⟩:∃ b5,w5.heap.size=b5:=⟨_,rfl⟩
 simp only [hb5] at hwf ⊢;clear hb5 h5 w5 w9;obtain ⟨hlow,hh5,hB⟩:=hwf;replace HX:=hD ((hB.block _ lx).trans HX.out);replace HP:=hD (rangeB HP.out (hB.block _ hbw));replace HB:=hD (bkeep2 HB.out hB);have hbw2:bl<wf.heap.size:=Nat.lt_of_lt_of_le hbw hB.size;have H5:=hD hh5;clear x0 q0 HU hh5 hB hbw;have x0:=cellS HX.out 0;have lx2:=ltS HX.out
 have k4:wf.cell? ⟨b5,4,none⟩=some (.int .i64 u.n.ki):=cellS H5.out 4;have k5:wf.cell? ⟨b5,5,none⟩=some (.slice u.ca u.n.cs.length u.cc):=cellS H5.out 5;have k6:wf.cell? ⟨b5,6,none⟩=some (.slice u.ra u.n.rs.length u.rc):=cellS H5.out 6;have l5:=ltS H5.out
 by_cases hk:u.n.ki=1
 ·have hb':cellB u.n.cs.length u.n.rs.length p.n.ce=b:=by rw [<- HBB.out];simp [hk]
  obtain ⟨⟨l1,l2⟩,l3,l4⟩:=HLL.out hk;rw [hk] at k4;have hce:=node_ce HP.out;have HCE:=hD hce;have HBR:=hD hb';clear hk hce hb' HBB HLL
  go_upto_region 4 with (fail)
  refine wp_region_grow 18 1 (·<18) (by kernel_rfl) (by kernel_rfl) rfl ?_
  iterate 18 (refine wpG_step (fun K hK=>?_);first|(refine grow_loadM 39 _ [.int .i64 p.n.ce.co,.int .i64 p.n.ce.ro,.int .i64 p.n.ce.mc,.int .i64 p.n.ce.mr,.int .i64 p.n.ce.cw,.int .i64 p.n.ce.ch,.int .i64 p.n.ce.sk,.int .i64 p.n.ce.px,.int .i64 p.n.ce.py] bl (off+i*34+16) rfl rfl rfl Tryz.underlying39 rfl (by kernel_rfl) (fun w' hw'=>rangeB HCE.out (hw'.out.block bl hbw2)) ?_;refine hK _ ?_;clear hK K)|(refine grow_skip rfl ?_;go_simp;refine hK _ ?_;clear hK K)|(apply Exists.intro;refine ⟨.inl ⟨rfl,fun w' hw'=>?_⟩,?_⟩;(focus ((obtain ⟨hc,hf⟩:=bcell hw'.out);(have hcS:=bcellS hw'.out);go_simp <;> first | rfl|(go_at_call 126;exact validCell_v p.n.ce u.n.cs.length u.n.rs.length b _ (by omega) (by omega) (by omega) (by omega) HBR.out)));(go_simp;refine hK _ ?_;clear hK K)))
  refine wpG_nil ?_;refine wpK_tail (by kernel_rfl) (fun w9 hg9=>?_);have hb9:=bdrewn hg9.out;obtain ⟨hc9,hf9⟩:=bcell hb9;refine wpAny_one (i:=18) (by kernel_rfl) rfl rfl ?_;go_simp;refine wpAny_end (by kernel_rfl) ?_;refine NoPan.thn ?_;clear hc9 hf9;clear hg9;replace HB:=hD (bkeep2 HB.out hb9);clear hb9;go_wp2;go_ret;exact ⟨rfl,HB.out⟩
 ·have hb':true=b:=by rw [<- HBB.out];simp [hk]
  subst hb'
  have f1:(u.n.ki == 1)=false:=by rw [beq_eq_false_iff_ne];exact hk
  have f2:(u.n.ki != 1)=true:=by simp [bne,f1]
  have f3:decide (u.n.ki=1)=false:=decide_eq_false hk;have HK:=hD hk;clear hk HBB HLL
  go_upto_region 4 with (fail)
  refine wp_region_grow 18 1 (·<18) (by kernel_rfl) (by kernel_rfl) rfl ?_
  iterate 18 (refine wpG_step (fun K hK=>?_);first|(refine grow_skip rfl ?_;go_simp;refine hK _ ?_;clear hK K)|(apply Exists.intro;refine ⟨.inl ⟨rfl,fun w' hw'=>?_⟩,?_⟩;(focus ((obtain ⟨hc,hf⟩:=bcell hw'.out);(have hcS:=bcellS hw'.out);go_simp <;> first | rfl|(fail)));(go_simp;refine hK _ ?_;clear hK K)))
  refine wpG_nil ?_;refine wpK_tail (by kernel_rfl) (fun w8 hg8=>?_);have hb8:=bdrewn hg8.out;obtain ⟨hc8,hf8⟩:=bcell hb8;refine wpAny_one (i:=18) (by kernel_rfl) rfl rfl ?_;go_simp;refine wpAny_end (by kernel_rfl) ?_;refine NoPan.thn ?_;clear hc8 hf8;clear hg8;replace HB:=hD (bkeep2 HB.out hb8);clear hb8;go_wp2;go_ret;exact ⟨rfl,HB.out⟩
section
attribute [local go_sem] Oper.semAt_some
theorem tree_nok {L:List Nd} (h:treeB L=true) {k:Nat} {n:Nd} (hn:L[k]?=some n):ndB n=true∧upB k n=true∧clB L k n=true:=by
 unfold treeB at h;rw [Bool.and_eq_true] at h;have hk:k<L.length:=(List.getElem?_eq_some_iff.1 hn).1
 have:=List.all_eq_true.1 h.2 k (List.mem_range.2 hk)
 rw [nokB_at hn,Bool.and_eq_true,Bool.and_eq_true] at this;exact this
theorem tree_len {L:List Nd} (h:treeB L=true):1≤L.length∧L.length≤10:=by
 unfold treeB at h;rw [Bool.and_eq_true,rng_iff] at h;omega
end
theorem new_full {w:World} {o:Obj} {cs:Array Value} {T:TypeId} (p:Nr) (ho:o=.cells cs T (0,0)) (hs:cs.size=34):((w.alloc o).setCells w.heap.size 0 (valsNr p)).heap[w.heap.size]?=some (.cells (valsNr p).toArray T (0,0)):=by
 subst ho;rw [heap_setCells (valsNr p) 0 _ _ (newS w _),wrAt_all (by rw [hs];rfl)]
theorem nok_kids {R:List Nr} {k:Nat} {p:Nr} (hall:(List.range k).all (nokB (R.map Nr.n))=true) (hp:R[k]?=some p) (hup:upB k p.n=true) (h0:k≠0) :
  ∃ (m:Nat) (u:Nr),p.n.pa=m∧m<k∧R[m]?=some u∧(u.n.ki=1→(1≤u.n.cs.length∧u.n.cs.length≤5)∧(1≤u.n.rs.length∧u.n.rs.length≤5))∧clB (R.map Nr.n) k p.n=(decide (u.n.ki≠1) || cellB u.n.cs.length u.n.rs.length p.n.ce):=by
 unfold upB at hup;rw [if_neg h0,rng_iff] at hup;obtain ⟨m,hm⟩:=Int.eq_ofNat_of_zero_le hup.1
 have hmk:m<k:=by omega
 have hkl:=(List.getElem?_eq_some_iff.1 hp).1
 have hml:m<R.length:=by omega
 have hu:R[m]?=some R[m]:=List.getElem?_eq_getElem hml;refine ⟨m,R[m],hm,hmk,hu,fun hk=>?_,?_⟩
 ·have h1:=List.all_eq_true.1 hall m (List.mem_range.2 hmk);rw [nokB_at (n:=(R[m]).n) (by rw [List.getElem?_map,hu];rfl)] at h1;simp only [Bool.and_eq_true] at h1;obtain ⟨l1,l2⟩:=own_lines h1.1 hk;exact ⟨linesB_len' l1,linesB_len' l2⟩
 ·unfold clB;rw [if_neg h0,hm];simp only [Int.toNat_natCast];rw [List.getElem?_map,hu]
  rfl
theorem ValidTree_v (A:Option Addr) (c:Nat) (R:List Nr) (b:Bool) (w:World) (h:NrV w A R) (hr:RdR w R) (hL:R.length≤1048576) (hm:∀ p∈R,p.n.cs.length≤1048576∧p.n.rs.length≤1048576) (hb:treeB (R.map Nr.n)=b) :
  Calls Tryz.prog 53 #[.agg #[.slice A R.length c]] w fun e w'=>e=.returned (.bool b)∧Below w.heap.size w w':=by
 have hB0:Below w.heap.size w (w.alloc (.cells #[.slice A R.length c] 25 (0,0))):=balloc (Below.refl _ _);have HX:=hD (newS w (.cells #[.slice A R.length c] 25 (0,0)));have HB:=hD hB0;have HV:=hD (h.keep hB0);have HR:=hD (hr.keep hB0);have HM:=hD hm;have x0:=cellS HX.out 0;have lx:=ltS HX.out;clear hB0 h hr hm
 cases hl:rng R.length 1 10
 ·obtain rfl:false=b:=by rw [<- hb];unfold treeB;rw [List.length_map,hl];rfl
  go_enter Tryz.func53,Tryz.ntmps53
  go_wp2_with fail
  with_reducible refine (within_w _ 1 10 false _ hl).mono ?_
  rintro e w' ⟨rfl,rfl⟩;go_wp2;go_ret;exact ⟨rfl,HB.out⟩
 ·have hl2:1≤R.length∧R.length≤10:=by rw [rng_iff] at hl;omega
  have hb2:(List.range R.length).all (nokB (R.map Nr.n))=b:=by rw [<- hb];unfold treeB;rw [List.length_map,hl];rfl
  have HBB:=hD hb2;clear hb hb2;obtain ⟨hl3,hl4⟩:=hl2
  go_enter Tryz.func53,Tryz.ntmps53
  go_wp2_with fail
  with_reducible refine (within_w _ 1 10 true _ hl).mono ?_
  rintro e w' ⟨rfl,rfl⟩
  go_wp2_with fail
  go_loopw [13] (fun i wr=>∃ k:Nat,k≤R.length∧i=.int .i64 k∧(List.range k).all (nokB (R.map Nr.n))=true∧wr.heap[w.heap.size]?=some (.cells #[.slice A R.length c] 25 (0,0))∧NrV wr A R∧RdR wr R∧Below w.heap.size w wr) (fun i _=>R.length-(intOf i).toNat)
  case atStart=>exact ⟨0,by omega,rfl,rfl,HX.out,HV.out,HR.out,HB.out⟩
  case round =>
   obtain ⟨k,hk,rfl,hall,hx,hv,hr,hB⟩:=hrel;clear HX HV HR HB x0 lx
   by_cases hlt:k<R.length
   ·have hd:decide ((k:Int)<(R.length:Int))=true:=by simpa using hlt
    have hget:R[k]?=some R[k]:=List.getElem?_eq_getElem hlt;obtain ⟨bl,off,rfl,hbl,hp⟩:=hv.cells (by omega);have hLR:=hp k _ hget;have hrd:=hr _ (List.mem_of_getElem? hget);have hmm:=HM.out _ (List.mem_of_getElem? hget);generalize R[k]=p at *;obtain ⟨m1,m2⟩:=hmm;have hnb:nokB (R.map Nr.n) k=(ndB p.n&&(upB k p.n&&clB (R.map Nr.n) k p.n)):=nokB_at (by rw [List.getElem?_map,hget];rfl)
    have HNB:=hD hnb;have HLR:=hD hLR;have HG:=hD hget;have HALL:=hD hall;have HX:=hD hx;have HV:=hD hv;have HR:=hD hr;have HD:=hD hrd;have HB:=hD hB;have lx:=ltS hx;clear hget hp hLR hrd hall hx hv hr hB hnb
    go_upto_region 6 with (first|(refine ldN _ p bl (off+k*34) rfl rfl rfl HLR.out ?_)|(refine stN (.tmp 4) (.tmp 17) p wr.heap.size 0 rfl rfl rfl rfl (newS _ _) (by show (0+34:Nat)≤34;omega) ?_))
    refine wp_genGG (fun W=>W.heap[wr.heap.size]?=some (.cells (valsNr p).toArray 43 (0,0))∧Below wr.heap.size wr W) ⟨new_full p rfl rfl,below_setCells (Nat.le_refl _) _ _ _ (balloc (Below.refl _ _))⟩ (fun W h0=>?_);obtain ⟨hn,hb⟩:=h0;replace HX:=hD ((hb.block _ lx).trans HX.out);replace HV:=hD (HV.out.keep hb);replace HR:=hD (HR.out.keep hb);replace HD:=hD (HD.out.keep hb)
    replace HB:=hD (bkeep2 HB.out hb);have HN:=hD hn;clear hn hb lx HLR
    cases h1:ndB p.n
    ·go_wp2_with (refine ldN _ p wr.heap.size 0 rfl rfl rfl (nodeAt HN.out) ?_)
     with_reducible refine (validNode_v p false _ HD.out m1 m2 h1).mono ?_
     rintro e w1 ⟨rfl,hb⟩;replace HB:=hD (bkeep2 HB.out hb);clear hb;go_wp2;go_ret;exact ⟨ret_bool (by rw [<- HBB.out];exact (all_falseG (k:=k) (p:=k) (by rw [List.getElem?_range (by omega)]) (by rw [HNB.out,h1];rfl)).symm),HB.out⟩
    ·have hx0:=cellS HX.out 0
     go_wp2_with (refine ldN _ p wr.heap.size 0 rfl rfl rfl (nodeAt HN.out) ?_)
     with_reducible refine (validNode_v p true _ HD.out m1 m2 h1).mono ?_
     rintro e w1 ⟨rfl,hb⟩;clear hx0;replace HX:=hbk hb HX;replace HV:=hD (HV.out.keep hb);replace HR:=hD (HR.out.keep hb);replace HB:=hD (bkeep2 HB.out hb);clear hb;have hx0:=cellS HX.out 0
     cases h2:upB k p.n
     ·go_wp2_with fail
      with_reducible refine (hasParentAhead_v _ c R k p false _ HV.out HG.out hl4 h2).mono ?_
      rintro e w2 ⟨rfl,hb⟩;clear hx0;replace HB:=hD (bkeep2 HB.out hb);clear hb;go_wp2;go_ret;exact ⟨ret_bool (by rw [<- HBB.out];exact (all_falseG (k:=k) (p:=k) (by rw [List.getElem?_range (by omega)]) (by rw [HNB.out,h1,h2];rfl)).symm),HB.out⟩
     ·go_wp2_with fail
      with_reducible refine (hasParentAhead_v _ c R k p true _ HV.out HG.out hl4 h2).mono ?_
      rintro e w2 ⟨rfl,hb⟩;clear hx0;replace HX:=hbk hb HX;replace HV:=hD (HV.out.keep hb);replace HR:=hD (HR.out.keep hb);replace HB:=hD (bkeep2 HB.out hb);clear hb;have hx0:=cellS HX.out 0
      have hcv:∀ cb,clB (R.map Nr.n) k p.n=cb→Calls Tryz.prog 97 #[.agg #[.slice (some ⟨bl,off,none⟩) R.length c],.int .i64 k] w2 fun e w'=>e=.returned (.bool cb)∧Below w2.heap.size w2 w':=by
       intro cb hcb
       by_cases hz:k=0
       ·subst hz
        obtain rfl:true=cb:=by rw [<- hcb];rfl
        exact hasValidCell_0 _ _ _ _
       ·obtain ⟨m,u,e1,e2,e3,e4,e5⟩:=nok_kids HALL.out HG.out h2 hz;exact hasValidCell_s _ c R k m p u cb _ HV.out HG.out hl4 hz e1 e2 e3 e4 (by rw [<- e5];exact hcb)
      cases h3:clB (R.map Nr.n) k p.n
      ·have HC:=hD (hcv false h3);clear hcv
       go_wp2_with fail
       with_reducible refine (HC.out).mono ?_
       rintro e w3 ⟨rfl,hb⟩;clear hx0 HC;replace HB:=hD (bkeep2 HB.out hb);clear hb;go_wp2;go_ret;exact ⟨ret_bool (by rw [<- HBB.out];exact (all_falseG (k:=k) (p:=k) (by rw [List.getElem?_range (by omega)]) (by rw [HNB.out,h1,h2,h3];rfl)).symm),HB.out⟩
      ·have HC:=hD (hcv true h3);clear hcv
       go_wp2_with fail
       with_reducible refine (HC.out).mono ?_
       rintro e w3 ⟨rfl,hb⟩;clear hx0 HC;replace HX:=hbk hb HX;replace HV:=hD (HV.out.keep hb);replace HR:=hD (HR.out.keep hb);replace HB:=hD (bkeep2 HB.out hb);clear hb;go_wp2
       go_roundw
       case rel=>exact ⟨k+1,by omega,by go_num,by rw [range_all_succ,HALL.out,HNB.out,h1,h2,h3];rfl,HX.out,HV.out,HR.out,HB.out⟩
       case measure=>simp [intOf];omega
   ·have hd:decide ((k:Int)<(R.length:Int))=false:=decide_eq_false (by omega)
    obtain rfl:k=R.length:=by omega
    have HB:=hD hB;have HALL:=hD hall;clear hx hv hr hB hall;go_wp2;go_ret;exact ⟨ret_bool (by rw [<- HBB.out,HALL.out]),HB.out⟩
def spB (n:Nd):Bool:=rng n.ww 0 30&&(rng n.hh 0 30&&(rng n.ki 0 2&&(n.pk.ok&&(decide (n.pk.w=0)&&(decide (n.pk.h=0)&&(plB n.pl&&(decide (n.ce.cw=0)&&decide (n.ce.ch=0))))))))
theorem nd_sp (n:Nd):ndB n=(spB n&&ownB n):=by
 unfold ndB spB;generalize rng n.ww 0 30=a1;generalize rng n.hh 0 30=a2;generalize rng n.ki 0 2=a3;generalize ownB n=a4;generalize n.pk.ok=a5;generalize decide (n.pk.w=0)=a6;generalize decide (n.pk.h=0)=a7;generalize decide (n.ce.cw=0)=a8;generalize decide (n.ce.ch=0)=a9;generalize plB n.pl=b1
 cases a1 <;> cases a2 <;> cases a3 <;> cases a4 <;> cases a5 <;> cases a6 <;> cases a7 <;> cases a8 <;> cases a9 <;> cases b1 <;> rfl
theorem neb_t {x:Int} (h:decide (x=0)=true):(x != 0)=false:=by simp [bne,eqb_t h]
theorem neb_f {x:Int} (h:decide (x=0)=false):(x != 0)=true:=by simp [bne,eqb_f h]
theorem svalidNode_no (A:Option Addr) (c:Nat) (R:List Nr) (i:Nat) (p:Nr) (w:World) (h:NrV w A R) (hr:RdR w R) (hp:R[i]?=some p) (hL:R.length≤1048576) (hm:∀ p∈R,p.n.cs.length≤1048576∧p.n.rs.length≤1048576) (hb:spB p.n=false) :
  Calls Tryz.prog 101 #[.agg #[.slice A R.length c],.int .i64 i] w fun e w'=>e=.returned (.bool false)∧Below w.heap.size w w':=by
 have hi:i<R.length:=(List.getElem?_eq_some_iff.1 hp).1
 have hii:(i:Int)<(R.length:Int):=by omega
 have hmp:=hm p (List.mem_of_getElem? hp);obtain ⟨mp1,mp2⟩:=hmp;obtain ⟨bl,off,rfl,hbl,hc⟩:=h.cells (by omega);have hB0:Below w.heap.size w (w.alloc (.cells #[.slice (some ⟨bl,off,none⟩) R.length c] 25 (0,0))):=balloc (Below.refl _ _);have HX:=hD (newS w (.cells #[.slice (some ⟨bl,off,none⟩) R.length c] 25 (0,0)));have HLR:=hD (rangeB (hc i p hp) (hB0.block bl hbl));have HV:=hD (h.keep hB0)
 have HR:=hD (hr.keep hB0);have HB:=hD hB0;have HM:=hD hm;have HG:=hD hp;clear hc h hr hm hp hB0
 go_enter Tryz.func101,Tryz.ntmps101
 go_upto_region 2 with (first|(refine ldN _ p bl (off+i*34) rfl rfl rfl HLR.out ?_)|(refine stN (.tmp 5) (.tmp 11) p (w.heap.size+1) 0 rfl rfl rfl rfl (newS1T _ _ _) (by show (0+34:Nat)≤34;omega) ?_))
 refine wp_genGG (fun W=>W.heap[w.heap.size]?=some (.cells #[.slice (some ⟨bl,off,none⟩) R.length c] 25 (0,0))∧W.heap[w.heap.size+1]?=some (.cells (valsNr p).toArray 43 (0,0))∧NrV W (some ⟨bl,off,none⟩) R∧RdR W R∧Below w.heap.size w W) ?hw (fun W h0=>?_)
 case hw =>
  have hbb:Below (w.alloc (.cells #[.slice (some ⟨bl,off,none⟩) R.length c] 25 (0,0))).heap.size (w.alloc (.cells #[.slice (some ⟨bl,off,none⟩) R.length c] 25 (0,0))) (((w.alloc (.cells #[.slice (some ⟨bl,off,none⟩) R.length c] 25 (0,0))).alloc (.cells #[.int .i64 0,.int .i64 0,.int .i64 0,.bool false,.int .i64 0,.slice none 0 0,.slice none 0 0,.int .i64 0,.int .i64 0,.int .i64 0,.bool false,.bool false,.bool false,.int .i64 0,.int .i64 0,.int .i64 0,.int .i64 0,.int .i64 0,.int .i64 0,.int .i64 0,.int .i64 0,.int .i64 0,.int .i64 0,.int .i64 0,.int .i64 0,.int .i64 0,.int .i64 0,.int .i64 0,.int .i64 0,.int .i64 0,.int .i64 0,.int .i64 0,.int .i64 0,.int .i64 0] 43)).setCells (w.heap.size+1) 0 (valsNr p)):=below_setCells (by simp) _ _ _ (balloc (Below.refl _ _))
  exact ⟨(hbb.block _ (ltS HX.out)).trans HX.out,by rw [heap_setCells (valsNr p) 0 _ _ (newS1T w _ _),wrAt_all (by rfl)],HV.out.keep hbb,HR.out.keep hbb,bkeep2 HB.out hbb⟩
 clear HX HLR HV HR HB;obtain ⟨hx,hn,hv,hr,hb0⟩:=h0;have HX:=hD hx;have HN:=hD hn;have HV:=hD hv;have HR:=hD hr;have HB:=hD hb0;clear hx hn hv hr hb0
 cases h1:rng p.n.ww 0 30
 ·clear hb;have hr:=nodeAt HN.out;obtain ⟨x0,x1,x2,x4,x5,x6,x7,x8,x20,x21⟩:=xs0_1_2_4_5_6_7_8_20_21 HN.out;have hrp:=node_pk hr;have hrl:=node_pl hr;have hrc:=node_ce hr;simp only [Nat.zero_add] at hrp hrl hrc;have HRP:=hD hrp;have HRL:=hD hrl;have HRC:=hD hrc;clear hr hrp hrl hrc
  go_wp2_with (first|(refine ldPackH HRP rfl rfl rfl ?_)|(refine ldPlaceH HRL rfl rfl rfl ?_)|(refine ldCellH HRC rfl rfl rfl ?_))
  with_reducible refine (inRange_w _ 0 30 false _ h1).mono ?_
  rintro e wq ⟨rfl,rfl⟩
  go_wp2_with (first|(refine ldPackH HRP rfl rfl rfl ?_)|(refine ldPlaceH HRL rfl rfl rfl ?_)|(refine ldCellH HRC rfl rfl rfl ?_))
  go_ret;exact ⟨rfl,HB.out⟩
 cases h2:rng p.n.hh 0 30
 ·clear hb;have hr:=nodeAt HN.out;obtain ⟨x0,x1,x2,x4,x5,x6,x7,x8,x20,x21⟩:=xs0_1_2_4_5_6_7_8_20_21 HN.out;have hrp:=node_pk hr;have hrl:=node_pl hr;have hrc:=node_ce hr;simp only [Nat.zero_add] at hrp hrl hrc;have HRP:=hD hrp;have HRL:=hD hrl;have HRC:=hD hrc;clear hr hrp hrl hrc
  go_wp2_with (first|(refine ldPackH HRP rfl rfl rfl ?_)|(refine ldPlaceH HRL rfl rfl rfl ?_)|(refine ldCellH HRC rfl rfl rfl ?_))
  with_reducible refine (inRange_w _ 0 30 true _ h1).mono ?_
  rintro e wq ⟨rfl,rfl⟩
  go_wp2_with (first|(refine ldPackH HRP rfl rfl rfl ?_)|(refine ldPlaceH HRL rfl rfl rfl ?_)|(refine ldCellH HRC rfl rfl rfl ?_))
  with_reducible refine (inRange_w _ 0 30 false _ h2).mono ?_
  rintro e wq ⟨rfl,rfl⟩
  go_wp2_with (first|(refine ldPackH HRP rfl rfl rfl ?_)|(refine ldPlaceH HRL rfl rfl rfl ?_)|(refine ldCellH HRC rfl rfl rfl ?_))
  go_ret;exact ⟨rfl,HB.out⟩
 cases h3:rng p.n.ki 0 2
 ·clear hb;have hr:=nodeAt HN.out;obtain ⟨x0,x1,x2,x4,x5,x6,x7,x8,x20,x21⟩:=xs0_1_2_4_5_6_7_8_20_21 HN.out;have hrp:=node_pk hr;have hrl:=node_pl hr;have hrc:=node_ce hr;simp only [Nat.zero_add] at hrp hrl hrc;have HRP:=hD hrp;have HRL:=hD hrl;have HRC:=hD hrc;clear hr hrp hrl hrc
  go_wp2_with (first|(refine ldPackH HRP rfl rfl rfl ?_)|(refine ldPlaceH HRL rfl rfl rfl ?_)|(refine ldCellH HRC rfl rfl rfl ?_))
  with_reducible refine (inRange_w _ 0 30 true _ h1).mono ?_
  rintro e wq ⟨rfl,rfl⟩
  go_wp2_with (first|(refine ldPackH HRP rfl rfl rfl ?_)|(refine ldPlaceH HRL rfl rfl rfl ?_)|(refine ldCellH HRC rfl rfl rfl ?_))
  with_reducible refine (inRange_w _ 0 30 true _ h2).mono ?_
  rintro e wq ⟨rfl,rfl⟩
  go_wp2_with (first|(refine ldPackH HRP rfl rfl rfl ?_)|(refine ldPlaceH HRL rfl rfl rfl ?_)|(refine ldCellH HRC rfl rfl rfl ?_))
  with_reducible refine (inRange_w _ 0 2 false _ h3).mono ?_
  rintro e wq ⟨rfl,rfl⟩
  go_wp2_with (first|(refine ldPackH HRP rfl rfl rfl ?_)|(refine ldPlaceH HRL rfl rfl rfl ?_)|(refine ldCellH HRC rfl rfl rfl ?_))
  go_ret;exact ⟨rfl,HB.out⟩
 cases h4:p.n.pk.ok
 ·clear hb;have hr:=nodeAt HN.out;obtain ⟨x0,x1,x2,x4,x5,x6,x7,x8,x20,x21⟩:=xs0_1_2_4_5_6_7_8_20_21 HN.out;have hrp:=node_pk hr;have hrl:=node_pl hr;have hrc:=node_ce hr;simp only [Nat.zero_add] at hrp hrl hrc;have HRP:=hD hrp;have HRL:=hD hrl;have HRC:=hD hrc;clear hr hrp hrl hrc
  go_wp2_with (first|(refine ldPackH HRP rfl rfl rfl ?_)|(refine ldPlaceH HRL rfl rfl rfl ?_)|(refine ldCellH HRC rfl rfl rfl ?_))
  with_reducible refine (inRange_w _ 0 30 true _ h1).mono ?_
  rintro e wq ⟨rfl,rfl⟩
  go_wp2_with (first|(refine ldPackH HRP rfl rfl rfl ?_)|(refine ldPlaceH HRL rfl rfl rfl ?_)|(refine ldCellH HRC rfl rfl rfl ?_))
  with_reducible refine (inRange_w _ 0 30 true _ h2).mono ?_
  rintro e wq ⟨rfl,rfl⟩
  go_wp2_with (first|(refine ldPackH HRP rfl rfl rfl ?_)|(refine ldPlaceH HRL rfl rfl rfl ?_)|(refine ldCellH HRC rfl rfl rfl ?_))
  with_reducible refine (inRange_w _ 0 2 true _ h3).mono ?_
  rintro e wq ⟨rfl,rfl⟩
  go_wp2_with (first|(refine ldPackH HRP rfl rfl rfl ?_)|(refine ldPlaceH HRL rfl rfl rfl ?_)|(refine ldCellH HRC rfl rfl rfl ?_))
  with_reducible refine (svp_v p.n.pk false h4 _).mono ?_
  rintro e v1 ⟨rfl,hb1⟩;clear x0 x1 x2 x4 x5 x6 x7 x8 x20 x21 HRP HRL HRC;replace HX:=hbk hb1 HX;replace HN:=hbk hb1 HN;replace HV:=hD (HV.out.keep hb1);replace HR:=hD (HR.out.keep hb1);replace HB:=hD (bkeep2 HB.out hb1);clear hb1;have hr:=nodeAt HN.out;obtain ⟨x0,x1,x2,x4,x5,x6,x7,x8,x20,x21⟩:=xs0_1_2_4_5_6_7_8_20_21 HN.out;have hrp:=node_pk hr;have hrl:=node_pl hr;have hrc:=node_ce hr
  simp only [Nat.zero_add] at hrp hrl hrc;have HRP:=hD hrp;have HRL:=hD hrl;have HRC:=hD hrc;clear hr hrp hrl hrc
  go_wp2_with (first|(refine ldPackH HRP rfl rfl rfl ?_)|(refine ldPlaceH HRL rfl rfl rfl ?_)|(refine ldCellH HRC rfl rfl rfl ?_))
  go_ret;exact ⟨rfl,HB.out⟩
 cases h5:decide (p.n.pk.w=0)
 ·clear hb;have e5:=neb_f h5;have hr:=nodeAt HN.out;obtain ⟨x0,x1,x2,x4,x5,x6,x7,x8,x20,x21⟩:=xs0_1_2_4_5_6_7_8_20_21 HN.out;have hrp:=node_pk hr;have hrl:=node_pl hr;have hrc:=node_ce hr;simp only [Nat.zero_add] at hrp hrl hrc;have HRP:=hD hrp;have HRL:=hD hrl;have HRC:=hD hrc;clear hr hrp hrl hrc
  go_wp2_with (first|(refine ldPackH HRP rfl rfl rfl ?_)|(refine ldPlaceH HRL rfl rfl rfl ?_)|(refine ldCellH HRC rfl rfl rfl ?_))
  with_reducible refine (inRange_w _ 0 30 true _ h1).mono ?_
  rintro e wq ⟨rfl,rfl⟩
  go_wp2_with (first|(refine ldPackH HRP rfl rfl rfl ?_)|(refine ldPlaceH HRL rfl rfl rfl ?_)|(refine ldCellH HRC rfl rfl rfl ?_))
  with_reducible refine (inRange_w _ 0 30 true _ h2).mono ?_
  rintro e wq ⟨rfl,rfl⟩
  go_wp2_with (first|(refine ldPackH HRP rfl rfl rfl ?_)|(refine ldPlaceH HRL rfl rfl rfl ?_)|(refine ldCellH HRC rfl rfl rfl ?_))
  with_reducible refine (inRange_w _ 0 2 true _ h3).mono ?_
  rintro e wq ⟨rfl,rfl⟩
  go_wp2_with (first|(refine ldPackH HRP rfl rfl rfl ?_)|(refine ldPlaceH HRL rfl rfl rfl ?_)|(refine ldCellH HRC rfl rfl rfl ?_))
  with_reducible refine (svp_v p.n.pk true h4 _).mono ?_
  rintro e v1 ⟨rfl,hb1⟩;clear x0 x1 x2 x4 x5 x6 x7 x8 x20 x21 HRP HRL HRC;replace HX:=hbk hb1 HX;replace HN:=hbk hb1 HN;replace HV:=hD (HV.out.keep hb1);replace HR:=hD (HR.out.keep hb1);replace HB:=hD (bkeep2 HB.out hb1);clear hb1;have hr:=nodeAt HN.out;obtain ⟨x0,x1,x2,x4,x5,x6,x7,x8,x20,x21⟩:=xs0_1_2_4_5_6_7_8_20_21 HN.out;have hrp:=node_pk hr;have hrl:=node_pl hr;have hrc:=node_ce hr
  simp only [Nat.zero_add] at hrp hrl hrc;have HRP:=hD hrp;have HRL:=hD hrl;have HRC:=hD hrc;clear hr hrp hrl hrc
  go_wp2_with (first|(refine ldPackH HRP rfl rfl rfl ?_)|(refine ldPlaceH HRL rfl rfl rfl ?_)|(refine ldCellH HRC rfl rfl rfl ?_))
  go_ret;exact ⟨rfl,HB.out⟩
 have e5:=neb_t h5
 cases h6:decide (p.n.pk.h=0)
 ·clear hb;have e6:=neb_f h6;have hr:=nodeAt HN.out;obtain ⟨x0,x1,x2,x4,x5,x6,x7,x8,x20,x21⟩:=xs0_1_2_4_5_6_7_8_20_21 HN.out;have hrp:=node_pk hr;have hrl:=node_pl hr;have hrc:=node_ce hr;simp only [Nat.zero_add] at hrp hrl hrc;have HRP:=hD hrp;have HRL:=hD hrl;have HRC:=hD hrc;clear hr hrp hrl hrc
  go_wp2_with (first|(refine ldPackH HRP rfl rfl rfl ?_)|(refine ldPlaceH HRL rfl rfl rfl ?_)|(refine ldCellH HRC rfl rfl rfl ?_))
  with_reducible refine (inRange_w _ 0 30 true _ h1).mono ?_
  rintro e wq ⟨rfl,rfl⟩
  go_wp2_with (first|(refine ldPackH HRP rfl rfl rfl ?_)|(refine ldPlaceH HRL rfl rfl rfl ?_)|(refine ldCellH HRC rfl rfl rfl ?_))
  with_reducible refine (inRange_w _ 0 30 true _ h2).mono ?_
  rintro e wq ⟨rfl,rfl⟩
  go_wp2_with (first|(refine ldPackH HRP rfl rfl rfl ?_)|(refine ldPlaceH HRL rfl rfl rfl ?_)|(refine ldCellH HRC rfl rfl rfl ?_))
  with_reducible refine (inRange_w _ 0 2 true _ h3).mono ?_
  rintro e wq ⟨rfl,rfl⟩
  go_wp2_with (first|(refine ldPackH HRP rfl rfl rfl ?_)|(refine ldPlaceH HRL rfl rfl rfl ?_)|(refine ldCellH HRC rfl rfl rfl ?_))
  with_reducible refine (svp_v p.n.pk true h4 _).mono ?_
  rintro e v1 ⟨rfl,hb1⟩;clear x0 x1 x2 x4 x5 x6 x7 x8 x20 x21 HRP HRL HRC;replace HX:=hbk hb1 HX;replace HN:=hbk hb1 HN;replace HV:=hD (HV.out.keep hb1);replace HR:=hD (HR.out.keep hb1);replace HB:=hD (bkeep2 HB.out hb1);clear hb1;have hr:=nodeAt HN.out;obtain ⟨x0,x1,x2,x4,x5,x6,x7,x8,x20,x21⟩:=xs0_1_2_4_5_6_7_8_20_21 HN.out;have hrp:=node_pk hr;have hrl:=node_pl hr;have hrc:=node_ce hr
  simp only [Nat.zero_add] at hrp hrl hrc;have HRP:=hD hrp;have HRL:=hD hrl;have HRC:=hD hrc;clear hr hrp hrl hrc
  go_wp2_with (first|(refine ldPackH HRP rfl rfl rfl ?_)|(refine ldPlaceH HRL rfl rfl rfl ?_)|(refine ldCellH HRC rfl rfl rfl ?_))
  go_ret;exact ⟨rfl,HB.out⟩
 have e6:=neb_t h6
 cases h7:plB p.n.pl
 ·clear hb;have hr:=nodeAt HN.out;obtain ⟨x0,x1,x2,x4,x5,x6,x7,x8,x20,x21⟩:=xs0_1_2_4_5_6_7_8_20_21 HN.out;have hrp:=node_pk hr;have hrl:=node_pl hr;have hrc:=node_ce hr;simp only [Nat.zero_add] at hrp hrl hrc;have HRP:=hD hrp;have HRL:=hD hrl;have HRC:=hD hrc;clear hr hrp hrl hrc
  go_wp2_with (first|(refine ldPackH HRP rfl rfl rfl ?_)|(refine ldPlaceH HRL rfl rfl rfl ?_)|(refine ldCellH HRC rfl rfl rfl ?_))
  with_reducible refine (inRange_w _ 0 30 true _ h1).mono ?_
  rintro e wq ⟨rfl,rfl⟩
  go_wp2_with (first|(refine ldPackH HRP rfl rfl rfl ?_)|(refine ldPlaceH HRL rfl rfl rfl ?_)|(refine ldCellH HRC rfl rfl rfl ?_))
  with_reducible refine (inRange_w _ 0 30 true _ h2).mono ?_
  rintro e wq ⟨rfl,rfl⟩
  go_wp2_with (first|(refine ldPackH HRP rfl rfl rfl ?_)|(refine ldPlaceH HRL rfl rfl rfl ?_)|(refine ldCellH HRC rfl rfl rfl ?_))
  with_reducible refine (inRange_w _ 0 2 true _ h3).mono ?_
  rintro e wq ⟨rfl,rfl⟩
  go_wp2_with (first|(refine ldPackH HRP rfl rfl rfl ?_)|(refine ldPlaceH HRL rfl rfl rfl ?_)|(refine ldCellH HRC rfl rfl rfl ?_))
  with_reducible refine (svp_v p.n.pk true h4 _).mono ?_
  rintro e v1 ⟨rfl,hb1⟩;clear x0 x1 x2 x4 x5 x6 x7 x8 x20 x21 HRP HRL HRC;replace HX:=hbk hb1 HX;replace HN:=hbk hb1 HN;replace HV:=hD (HV.out.keep hb1);replace HR:=hD (HR.out.keep hb1);replace HB:=hD (bkeep2 HB.out hb1);clear hb1;have hr:=nodeAt HN.out;obtain ⟨x0,x1,x2,x4,x5,x6,x7,x8,x20,x21⟩:=xs0_1_2_4_5_6_7_8_20_21 HN.out;have hrp:=node_pk hr;have hrl:=node_pl hr;have hrc:=node_ce hr
  simp only [Nat.zero_add] at hrp hrl hrc;have HRP:=hD hrp;have HRL:=hD hrl;have HRC:=hD hrc;clear hr hrp hrl hrc
  go_wp2_with (first|(refine ldPackH HRP rfl rfl rfl ?_)|(refine ldPlaceH HRL rfl rfl rfl ?_)|(refine ldCellH HRC rfl rfl rfl ?_))
  with_reducible refine (svalidPlace_t p.n.pl false _ h7).mono ?_
  rintro e v2 ⟨rfl,hb1⟩;clear x0 x1 x2 x4 x5 x6 x7 x8 x20 x21 HRP HRL HRC;replace HX:=hbk hb1 HX;replace HN:=hbk hb1 HN;replace HV:=hD (HV.out.keep hb1);replace HR:=hD (HR.out.keep hb1);replace HB:=hD (bkeep2 HB.out hb1);clear hb1;have hr:=nodeAt HN.out;obtain ⟨x0,x1,x2,x4,x5,x6,x7,x8,x20,x21⟩:=xs0_1_2_4_5_6_7_8_20_21 HN.out;have hrp:=node_pk hr;have hrl:=node_pl hr;have hrc:=node_ce hr
  simp only [Nat.zero_add] at hrp hrl hrc;have HRP:=hD hrp;have HRL:=hD hrl;have HRC:=hD hrc;clear hr hrp hrl hrc
  go_wp2_with (first|(refine ldPackH HRP rfl rfl rfl ?_)|(refine ldPlaceH HRL rfl rfl rfl ?_)|(refine ldCellH HRC rfl rfl rfl ?_))
  go_ret;exact ⟨rfl,HB.out⟩
 cases h8:decide (p.n.ce.cw=0)
 ·clear hb;have e8:=neb_f h8;have hr:=nodeAt HN.out;obtain ⟨x0,x1,x2,x4,x5,x6,x7,x8,x20,x21⟩:=xs0_1_2_4_5_6_7_8_20_21 HN.out;have hrp:=node_pk hr;have hrl:=node_pl hr;have hrc:=node_ce hr;simp only [Nat.zero_add] at hrp hrl hrc;have HRP:=hD hrp;have HRL:=hD hrl;have HRC:=hD hrc;clear hr hrp hrl hrc
  go_wp2_with (first|(refine ldPackH HRP rfl rfl rfl ?_)|(refine ldPlaceH HRL rfl rfl rfl ?_)|(refine ldCellH HRC rfl rfl rfl ?_))
  with_reducible refine (inRange_w _ 0 30 true _ h1).mono ?_
  rintro e wq ⟨rfl,rfl⟩
  go_wp2_with (first|(refine ldPackH HRP rfl rfl rfl ?_)|(refine ldPlaceH HRL rfl rfl rfl ?_)|(refine ldCellH HRC rfl rfl rfl ?_))
  with_reducible refine (inRange_w _ 0 30 true _ h2).mono ?_
  rintro e wq ⟨rfl,rfl⟩
  go_wp2_with (first|(refine ldPackH HRP rfl rfl rfl ?_)|(refine ldPlaceH HRL rfl rfl rfl ?_)|(refine ldCellH HRC rfl rfl rfl ?_))
  with_reducible refine (inRange_w _ 0 2 true _ h3).mono ?_
  rintro e wq ⟨rfl,rfl⟩
  go_wp2_with (first|(refine ldPackH HRP rfl rfl rfl ?_)|(refine ldPlaceH HRL rfl rfl rfl ?_)|(refine ldCellH HRC rfl rfl rfl ?_))
  with_reducible refine (svp_v p.n.pk true h4 _).mono ?_
  rintro e v1 ⟨rfl,hb1⟩;clear x0 x1 x2 x4 x5 x6 x7 x8 x20 x21 HRP HRL HRC;replace HX:=hbk hb1 HX;replace HN:=hbk hb1 HN;replace HV:=hD (HV.out.keep hb1);replace HR:=hD (HR.out.keep hb1);replace HB:=hD (bkeep2 HB.out hb1);clear hb1;have hr:=nodeAt HN.out;obtain ⟨x0,x1,x2,x4,x5,x6,x7,x8,x20,x21⟩:=xs0_1_2_4_5_6_7_8_20_21 HN.out;have hrp:=node_pk hr;have hrl:=node_pl hr;have hrc:=node_ce hr
  simp only [Nat.zero_add] at hrp hrl hrc;have HRP:=hD hrp;have HRL:=hD hrl;have HRC:=hD hrc;clear hr hrp hrl hrc
  go_wp2_with (first|(refine ldPackH HRP rfl rfl rfl ?_)|(refine ldPlaceH HRL rfl rfl rfl ?_)|(refine ldCellH HRC rfl rfl rfl ?_))
  with_reducible refine (svalidPlace_t p.n.pl true _ h7).mono ?_
  rintro e v2 ⟨rfl,hb1⟩;clear x0 x1 x2 x4 x5 x6 x7 x8 x20 x21 HRP HRL HRC;replace HX:=hbk hb1 HX;replace HN:=hbk hb1 HN;replace HV:=hD (HV.out.keep hb1);replace HR:=hD (HR.out.keep hb1);replace HB:=hD (bkeep2 HB.out hb1);clear hb1;have hr:=nodeAt HN.out;obtain ⟨x0,x1,x2,x4,x5,x6,x7,x8,x20,x21⟩:=xs0_1_2_4_5_6_7_8_20_21 HN.out;have hrp:=node_pk hr;have hrl:=node_pl hr;have hrc:=node_ce hr
  simp only [Nat.zero_add] at hrp hrl hrc;have HRP:=hD hrp;have HRL:=hD hrl;have HRC:=hD hrc;clear hr hrp hrl hrc
  go_wp2_with (first|(refine ldPackH HRP rfl rfl rfl ?_)|(refine ldPlaceH HRL rfl rfl rfl ?_)|(refine ldCellH HRC rfl rfl rfl ?_))
  go_ret;exact ⟨rfl,HB.out⟩
 have e8:=neb_t h8
 have h9:decide (p.n.ce.ch=0)=false:=by have:=hb;simp only [spB,h1,h2,h3,h4,h5,h6,h7,h8,Bool.true_and] at this;exact this
 clear hb;have e9:=neb_f h9;have hr:=nodeAt HN.out;obtain ⟨x0,x1,x2,x4,x5,x6,x7,x8,x20,x21⟩:=xs0_1_2_4_5_6_7_8_20_21 HN.out;have hrp:=node_pk hr;have hrl:=node_pl hr;have hrc:=node_ce hr;simp only [Nat.zero_add] at hrp hrl hrc;have HRP:=hD hrp;have HRL:=hD hrl;have HRC:=hD hrc;clear hr hrp hrl hrc
 go_wp2_with (first|(refine ldPackH HRP rfl rfl rfl ?_)|(refine ldPlaceH HRL rfl rfl rfl ?_)|(refine ldCellH HRC rfl rfl rfl ?_))
 with_reducible refine (inRange_w _ 0 30 true _ h1).mono ?_
 rintro e wq ⟨rfl,rfl⟩
 go_wp2_with (first|(refine ldPackH HRP rfl rfl rfl ?_)|(refine ldPlaceH HRL rfl rfl rfl ?_)|(refine ldCellH HRC rfl rfl rfl ?_))
 with_reducible refine (inRange_w _ 0 30 true _ h2).mono ?_
 rintro e wq ⟨rfl,rfl⟩
 go_wp2_with (first|(refine ldPackH HRP rfl rfl rfl ?_)|(refine ldPlaceH HRL rfl rfl rfl ?_)|(refine ldCellH HRC rfl rfl rfl ?_))
 with_reducible refine (inRange_w _ 0 2 true _ h3).mono ?_
 rintro e wq ⟨rfl,rfl⟩
 go_wp2_with (first|(refine ldPackH HRP rfl rfl rfl ?_)|(refine ldPlaceH HRL rfl rfl rfl ?_)|(refine ldCellH HRC rfl rfl rfl ?_))
 with_reducible refine (svp_v p.n.pk true h4 _).mono ?_
 rintro e v1 ⟨rfl,hb1⟩;clear x0 x1 x2 x4 x5 x6 x7 x8 x20 x21 HRP HRL HRC;replace HX:=hbk hb1 HX;replace HN:=hbk hb1 HN;replace HV:=hD (HV.out.keep hb1);replace HR:=hD (HR.out.keep hb1);replace HB:=hD (bkeep2 HB.out hb1);clear hb1;have hr:=nodeAt HN.out;obtain ⟨x0,x1,x2,x4,x5,x6,x7,x8,x20,x21⟩:=xs0_1_2_4_5_6_7_8_20_21 HN.out;have hrp:=node_pk hr;have hrl:=node_pl hr;have hrc:=node_ce hr
 simp only [Nat.zero_add] at hrp hrl hrc;have HRP:=hD hrp;have HRL:=hD hrl;have HRC:=hD hrc;clear hr hrp hrl hrc
 go_wp2_with (first|(refine ldPackH HRP rfl rfl rfl ?_)|(refine ldPlaceH HRL rfl rfl rfl ?_)|(refine ldCellH HRC rfl rfl rfl ?_))
 with_reducible refine (svalidPlace_t p.n.pl true _ h7).mono ?_
 rintro e v2 ⟨rfl,hb1⟩;clear x0 x1 x2 x4 x5 x6 x7 x8 x20 x21 HRP HRL HRC;replace HX:=hbk hb1 HX;replace HN:=hbk hb1 HN;replace HV:=hD (HV.out.keep hb1);replace HR:=hD (HR.out.keep hb1);replace HB:=hD (bkeep2 HB.out hb1);clear hb1;have hr:=nodeAt HN.out;obtain ⟨x0,x1,x2,x4,x5,x6,x7,x8,x20,x21⟩:=xs0_1_2_4_5_6_7_8_20_21 HN.out;have hrp:=node_pk hr;have hrl:=node_pl hr;have hrc:=node_ce hr
 simp only [Nat.zero_add] at hrp hrl hrc;have HRP:=hD hrp;have HRL:=hD hrl;have HRC:=hD hrc;clear hr hrp hrl hrc
 go_wp2_with (first|(refine ldPackH HRP rfl rfl rfl ?_)|(refine ldPlaceH HRL rfl rfl rfl ?_)|(refine ldCellH HRC rfl rfl rfl ?_))
 go_ret;exact ⟨rfl,HB.out⟩
theorem svalidNode_yes (A:Option Addr) (c:Nat) (R:List Nr) (i:Nat) (p:Nr) (b:Bool) (w:World) (h:NrV w A R) (hr:RdR w R) (hp:R[i]?=some p) (hL:R.length≤1048576) (hm:∀ p∈R,p.n.cs.length≤1048576∧p.n.rs.length≤1048576) (h0:spB p.n=true) (hb:(ownB p.n&&(upB i p.n&&clB (R.map Nr.n) i p.n))=b) :
  Calls Tryz.prog 101 #[.agg #[.slice A R.length c],.int .i64 i] w fun e w'=>e=.returned (.bool b)∧Below w.heap.size w w':=by
 have hi:i<R.length:=(List.getElem?_eq_some_iff.1 hp).1
 have hii:(i:Int)<(R.length:Int):=by omega
 have hmp:=hm p (List.mem_of_getElem? hp);obtain ⟨mp1,mp2⟩:=hmp;obtain ⟨bl,off,rfl,hbl,hc⟩:=h.cells (by omega);have hB0:Below w.heap.size w (w.alloc (.cells #[.slice (some ⟨bl,off,none⟩) R.length c] 25 (0,0))):=balloc (Below.refl _ _);have HX:=hD (newS w (.cells #[.slice (some ⟨bl,off,none⟩) R.length c] 25 (0,0)));have HLR:=hD (rangeB (hc i p hp) (hB0.block bl hbl));have HV:=hD (h.keep hB0)
 have HR:=hD (hr.keep hB0);have HB:=hD hB0;have HM:=hD hm;have HG:=hD hp;clear hc h hr hm hp hB0
 go_enter Tryz.func101,Tryz.ntmps101
 go_upto_region 2 with (first|(refine ldN _ p bl (off+i*34) rfl rfl rfl HLR.out ?_)|(refine stN (.tmp 5) (.tmp 11) p (w.heap.size+1) 0 rfl rfl rfl rfl (newS1T _ _ _) (by show (0+34:Nat)≤34;omega) ?_))
 refine wp_genGG (fun W=>W.heap[w.heap.size]?=some (.cells #[.slice (some ⟨bl,off,none⟩) R.length c] 25 (0,0))∧W.heap[w.heap.size+1]?=some (.cells (valsNr p).toArray 43 (0,0))∧NrV W (some ⟨bl,off,none⟩) R∧RdR W R∧Below w.heap.size w W) ?hw (fun W h0=>?_)
 case hw =>
  have hbb:Below (w.alloc (.cells #[.slice (some ⟨bl,off,none⟩) R.length c] 25 (0,0))).heap.size (w.alloc (.cells #[.slice (some ⟨bl,off,none⟩) R.length c] 25 (0,0))) (((w.alloc (.cells #[.slice (some ⟨bl,off,none⟩) R.length c] 25 (0,0))).alloc (.cells #[.int .i64 0,.int .i64 0,.int .i64 0,.bool false,.int .i64 0,.slice none 0 0,.slice none 0 0,.int .i64 0,.int .i64 0,.int .i64 0,.bool false,.bool false,.bool false,.int .i64 0,.int .i64 0,.int .i64 0,.int .i64 0,.int .i64 0,.int .i64 0,.int .i64 0,.int .i64 0,.int .i64 0,.int .i64 0,.int .i64 0,.int .i64 0,.int .i64 0,.int .i64 0,.int .i64 0,.int .i64 0,.int .i64 0,.int .i64 0,.int .i64 0,.int .i64 0,.int .i64 0] 43)).setCells (w.heap.size+1) 0 (valsNr p)):=below_setCells (by simp) _ _ _ (balloc (Below.refl _ _))
  exact ⟨(hbb.block _ (ltS HX.out)).trans HX.out,by rw [heap_setCells (valsNr p) 0 _ _ (newS1T w _ _),wrAt_all (by rfl)],HV.out.keep hbb,HR.out.keep hbb,bkeep2 HB.out hbb⟩
 clear HX HLR HV HR HB;obtain ⟨hx,hn,hv,hr,hb0⟩:=h0;have HX:=hD hx;have HN:=hD hn;have HV:=hD hv;have HR:=hD hr;have HB:=hD hb0;clear hx hn hv hr hb0;simp only [spB,Bool.and_eq_true] at h0;obtain ⟨h1,h2,h3,h4,h5,h6,h7,h8,h9⟩:=h0;have e5:=neb_t h5;have e6:=neb_t h6;have e8:=neb_t h8;have e9:=neb_t h9;have HBB:=hD hb;clear hb;have hr:=nodeAt HN.out
 obtain ⟨x0,x1,x2,x4,x5,x6,x7,x8,x20,x21⟩:=xs0_1_2_4_5_6_7_8_20_21 HN.out;have hrp:=node_pk hr;have hrl:=node_pl hr;have hrc:=node_ce hr;simp only [Nat.zero_add] at hrp hrl hrc;have HRP:=hD hrp;have HRL:=hD hrl;have HRC:=hD hrc;clear hr hrp hrl hrc
 go_wp2_with (first|(refine ldPackH HRP rfl rfl rfl ?_)|(refine ldPlaceH HRL rfl rfl rfl ?_)|(refine ldCellH HRC rfl rfl rfl ?_))
 with_reducible refine (inRange_w _ 0 30 true _ h1).mono ?_
 rintro e wq ⟨rfl,rfl⟩
 go_wp2_with (first|(refine ldPackH HRP rfl rfl rfl ?_)|(refine ldPlaceH HRL rfl rfl rfl ?_)|(refine ldCellH HRC rfl rfl rfl ?_))
 with_reducible refine (inRange_w _ 0 30 true _ h2).mono ?_
 rintro e wq ⟨rfl,rfl⟩
 go_wp2_with (first|(refine ldPackH HRP rfl rfl rfl ?_)|(refine ldPlaceH HRL rfl rfl rfl ?_)|(refine ldCellH HRC rfl rfl rfl ?_))
 with_reducible refine (inRange_w _ 0 2 true _ h3).mono ?_
 rintro e wq ⟨rfl,rfl⟩
 go_wp2_with (first|(refine ldPackH HRP rfl rfl rfl ?_)|(refine ldPlaceH HRL rfl rfl rfl ?_)|(refine ldCellH HRC rfl rfl rfl ?_))
 with_reducible refine (svp_v p.n.pk true h4 _).mono ?_
 rintro e v1 ⟨rfl,hb1⟩;clear x0 x1 x2 x4 x5 x6 x7 x8 x20 x21 HRP HRL HRC;replace HX:=hbk hb1 HX;replace HN:=hbk hb1 HN;replace HV:=hD (HV.out.keep hb1);replace HR:=hD (HR.out.keep hb1);replace HB:=hD (bkeep2 HB.out hb1);clear hb1;have hr:=nodeAt HN.out;obtain ⟨x0,x1,x2,x4,x5,x6,x7,x8,x20,x21⟩:=xs0_1_2_4_5_6_7_8_20_21 HN.out;have hrp:=node_pk hr;have hrl:=node_pl hr;have hrc:=node_ce hr
 simp only [Nat.zero_add] at hrp hrl hrc;have HRP:=hD hrp;have HRL:=hD hrl;have HRC:=hD hrc;clear hr hrp hrl hrc
 go_wp2_with (first|(refine ldPackH HRP rfl rfl rfl ?_)|(refine ldPlaceH HRL rfl rfl rfl ?_)|(refine ldCellH HRC rfl rfl rfl ?_))
 with_reducible refine (svalidPlace_t p.n.pl true _ h7).mono ?_
 rintro e v2 ⟨rfl,hb1⟩;clear x0 x1 x2 x4 x5 x6 x7 x8 x20 x21 HRP HRL HRC;replace HX:=hbk hb1 HX;replace HN:=hbk hb1 HN;replace HV:=hD (HV.out.keep hb1);replace HR:=hD (HR.out.keep hb1);replace HB:=hD (bkeep2 HB.out hb1);clear hb1;have hr:=nodeAt HN.out;obtain ⟨x0,x1,x2,x4,x5,x6,x7,x8,x20,x21⟩:=xs0_1_2_4_5_6_7_8_20_21 HN.out;have hrp:=node_pk hr;have hrl:=node_pl hr;have hrc:=node_ce hr
 simp only [Nat.zero_add] at hrp hrl hrc;have HRP:=hD hrp;have HRL:=hD hrl;have HRC:=hD hrc;clear hr hrp hrl hrc;clear h1 h2 h3 h4 h5 h6 h7 h8 h9;unfold ownB at HBB
 go_upto_region 4 with ((first|(refine ldPackH HRP rfl rfl rfl ?_)|(refine ldPlaceH HRL rfl rfl rfl ?_)|(refine ldCellH HRC rfl rfl rfl ?_)))
 by_cases hk:p.n.ki=1
 ·rw [if_pos hk] at HBB;rw [hk] at x4;have HK:=hD hk;clear hk
  cases g1:linesB p.n.cs
  ·obtain rfl:false=b:=by rw [<- HBB.out,g1];rfl
   have HPC:=hD (HR.out p (List.mem_of_getElem? HG.out))
   go_wp2_with fail
   with_reducible refine (svalidLines_v p.ca p.cc p.n.cs false _ HPC.out.c mp1 g1).mono ?_
   rintro e u1 ⟨rfl,hb1⟩;clear x0 x1 x2 x4 x5 x6 x7 x8 x20 x21 HRP HRL HRC;replace HB:=hD (bkeep2 HB.out hb1);clear hb1;go_wp2;go_ret;exact ⟨rfl,HB.out⟩
  ·cases g2:linesB p.n.rs
   ·obtain rfl:false=b:=by rw [<- HBB.out,g1,g2];rfl
    have HPC:=hD (HR.out p (List.mem_of_getElem? HG.out))
    go_wp2_with fail
    with_reducible refine (svalidLines_v p.ca p.cc p.n.cs true _ HPC.out.c mp1 g1).mono ?_
    rintro e u1 ⟨rfl,hb1⟩;clear x0 x1 x2 x4 x5 x6 x7 x8 x20 x21 HRP HRL HRC;replace HX:=hbk hb1 HX;replace HN:=hbk hb1 HN;replace HV:=hD (HV.out.keep hb1);replace HR:=hD (HR.out.keep hb1);replace HB:=hD (bkeep2 HB.out hb1);clear hb1;have hr:=nodeAt HN.out;obtain ⟨x0,x1,x2,x4,x5,x6,x7,x8,x20,x21⟩:=xs0_1_2_4_5_6_7_8_20_21 HN.out;have hrp:=node_pk hr;have hrl:=node_pl hr;have hrc:=node_ce hr
    simp only [Nat.zero_add] at hrp hrl hrc;have HRP:=hD hrp;have HRL:=hD hrl;have HRC:=hD hrc;clear hr hrp hrl hrc;rw [HK.out] at x4;have HPC:=hD (HR.out p (List.mem_of_getElem? HG.out))
    go_wp2_with fail
    with_reducible refine (svalidLines_v p.ra p.rc p.n.rs false _ HPC.out.r mp2 g2).mono ?_
    rintro e u2 ⟨rfl,hb1⟩;clear x0 x1 x2 x4 x5 x6 x7 x8 x20 x21 HRP HRL HRC;replace HX:=hbk hb1 HX;replace HN:=hbk hb1 HN;replace HV:=hD (HV.out.keep hb1);replace HR:=hD (HR.out.keep hb1);replace HB:=hD (bkeep2 HB.out hb1);clear hb1;have hr:=nodeAt HN.out;obtain ⟨x0,x1,x2,x4,x5,x6,x7,x8,x20,x21⟩:=xs0_1_2_4_5_6_7_8_20_21 HN.out;have hrp:=node_pk hr;have hrl:=node_pl hr;have hrc:=node_ce hr
    simp only [Nat.zero_add] at hrp hrl hrc;have HRP:=hD hrp;have HRL:=hD hrl;have HRC:=hD hrc;clear hr hrp hrl hrc;rw [HK.out] at x4;go_wp2;go_ret;exact ⟨rfl,HB.out⟩
   ·have hb2:(upB i p.n&&clB (R.map Nr.n) i p.n)=b:=by rw [<- HBB.out,g1,g2];rfl
    have HB2:=hD hb2;clear hb2 HBB;have HPC:=hD (HR.out p (List.mem_of_getElem? HG.out))
    go_wp2_with fail
    with_reducible refine (svalidLines_v p.ca p.cc p.n.cs true _ HPC.out.c mp1 g1).mono ?_
    rintro e u1 ⟨rfl,hb1⟩;clear x0 x1 x2 x4 x5 x6 x7 x8 x20 x21 HRP HRL HRC;replace HX:=hbk hb1 HX;replace HN:=hbk hb1 HN;replace HV:=hD (HV.out.keep hb1);replace HR:=hD (HR.out.keep hb1);replace HB:=hD (bkeep2 HB.out hb1);clear hb1;have hr:=nodeAt HN.out;obtain ⟨x0,x1,x2,x4,x5,x6,x7,x8,x20,x21⟩:=xs0_1_2_4_5_6_7_8_20_21 HN.out;have hrp:=node_pk hr;have hrl:=node_pl hr;have hrc:=node_ce hr
    simp only [Nat.zero_add] at hrp hrl hrc;have HRP:=hD hrp;have HRL:=hD hrl;have HRC:=hD hrc;clear hr hrp hrl hrc;rw [HK.out] at x4;have HPC:=hD (HR.out p (List.mem_of_getElem? HG.out))
    go_wp2_with fail
    with_reducible refine (svalidLines_v p.ra p.rc p.n.rs true _ HPC.out.r mp2 g2).mono ?_
    rintro e u2 ⟨rfl,hb1⟩;clear x0 x1 x2 x4 x5 x6 x7 x8 x20 x21 HRP HRL HRC;replace HX:=hbk hb1 HX;replace HN:=hbk hb1 HN;replace HV:=hD (HV.out.keep hb1);replace HR:=hD (HR.out.keep hb1);replace HB:=hD (bkeep2 HB.out hb1);clear hb1;have hr:=nodeAt HN.out;obtain ⟨x0,x1,x2,x4,x5,x6,x7,x8,x20,x21⟩:=xs0_1_2_4_5_6_7_8_20_21 HN.out;have hrp:=node_pk hr;have hrl:=node_pl hr;have hrc:=node_ce hr
    simp only [Nat.zero_add] at hrp hrl hrc;have HRP:=hD hrp;have HRL:=hD hrl;have HRC:=hD hrc;clear hr hrp hrl hrc;rw [HK.out] at x4
    go_upto_region 6 with (fail)
    by_cases hz:i=0
    ·subst hz
     have hbz:(p.n.pa == -1)=b:=by rw [<- HB2.out];simp only [upB,clB,if_true,Bool.and_true];rfl
     have HBZ:=hD hbz;clear hbz HB2;go_wp2;go_ret;exact ⟨ret_bool HBZ.out,HB.out⟩
    ·have z0:((i:Int) == 0)=false:=by rw [beq_eq_false_iff_ne];omega
     have z1:decide ((i:Int)=0)=false:=decide_eq_false (by omega)
     cases hu:upB i p.n
     ·obtain rfl:false=b:=by rw [<- HB2.out,hu];rfl
      have hu2:rng p.n.pa 0 ((i:Int)-1)=false:=by have:=hu;unfold upB at this;rwa [if_neg hz] at this
      go_wp2_with fail
      with_reducible refine (inRange_w p.n.pa 0 ((i:Int)-1) false _ hu2).mono ?_
      rintro e wq ⟨rfl,rfl⟩;go_wp2;go_ret;exact ⟨rfl,HB.out⟩
     ·have hu2:rng p.n.pa 0 ((i:Int)-1)=true:=by have:=hu;unfold upB at this;rwa [if_neg hz] at this
      have hb3:clB (R.map Nr.n) i p.n=b:=by rw [<- HB2.out,hu];rfl
      obtain ⟨m,hpm⟩:=Int.eq_ofNat_of_zero_le (rng_iff.1 hu2).1
      have hmi:m<i:=by have:=(rng_iff.1 hu2).2;omega
      have hml:m<R.length:=by omega
      have hmu:R[m]?=some R[m]:=List.getElem?_eq_getElem hml;unfold clB at hb3;rw [if_neg hz,hpm] at hb3;simp only [Int.toNat_natCast] at hb3;rw [List.getElem?_map,hmu] at hb3;simp only [Option.map_some] at hb3;have hmm:=HM.out _ (List.mem_of_getElem? hmu);generalize R[m]=u at *;obtain ⟨mu1,mu2⟩:=hmm;obtain ⟨bl2,off2,e9,hbl2,hcu⟩:=HV.out.cells (by omega)
      cases e9
      have HU:=hD (hcu m u hmu);have HB3:=hD hb3
      have hmr:(m:Int)<(R.length:Int):=by omega
      rw [hpm] at x0 hu2;have hx0:=cellS HX.out 0;clear hcu hmu hb3 HB2 hu hpm
      go_wp2_with fail
      with_reducible refine (inRange_w (m:Int) 0 ((i:Int)-1) true _ hu2).mono ?_
      rintro e wq ⟨rfl,rfl⟩;have hsz:w.heap.size+1<u2.heap.size:=ltS HN.out
      go_upto_region 11 with (first|(refine ldN _ u bl (off+m*34) rfl rfl rfl HU.out ?_)|(refine stN (.tmp 6) (.tmp 112) u u2.heap.size 0 rfl rfl rfl rfl (newS _ _) (by show (0+34:Nat)≤34;omega) ?_))
      refine wp_genGG (fun W=>W.heap[u2.heap.size]?=some (.cells (valsNr u).toArray 43 (0,0))∧Below u2.heap.size u2 W) ⟨new_full u rfl rfl,below_setCells (Nat.le_refl _) _ _ _ (balloc (Below.refl _ _))⟩ (fun W9 h9=>?_);obtain ⟨hn9,hb9⟩:=h9;have HN9:=hD hn9;clear x0 x1 x2 x4 x5 x6 x7 x8 x20 x21 HRP HRL HRC hx0;replace HX:=hbk hb9 HX;replace HN:=hbk hb9 HN;replace HB:=hD (bkeep2 HB.out hb9)
      clear hb9;have y4:W9.cell? ⟨u2.heap.size,4,none⟩=some (.int .i64 u.n.ki):=cellS HN9.out 4;have y5:W9.cell? ⟨u2.heap.size,5,none⟩=some (.slice u.ca u.n.cs.length u.cc):=cellS HN9.out 5;have y6:W9.cell? ⟨u2.heap.size,6,none⟩=some (.slice u.ra u.n.rs.length u.rc):=cellS HN9.out 6;clear hn9
      by_cases hq:u.n.ki=1
      ·rw [hq] at y4
       have hcb:cellB u.n.cs.length u.n.rs.length p.n.ce=b:=by rw [<- HB3.out];simp [hq]
       have HCB:=hD hcb;have hrc:=node_ce (nodeAt HN.out);simp only [Nat.zero_add] at hrc;have HRC:=hD hrc;clear hq hcb HB3 hrc
       go_wp2_with (refine ldCellH HRC rfl rfl rfl ?_)
       with_reducible refine (svalidCell_v p.n.ce u.n.cs.length u.n.rs.length 0 u.cc u.rc 0 u.ca u.ra none b _ mu1 mu2 HCB.out).mono ?_
       rintro e u9 ⟨rfl,hbu⟩;clear y4 y5 y6 HRC;replace HB:=hD (bkeep2 HB.out hbu);clear hbu;go_wp2;go_ret;exact ⟨rfl,HB.out⟩
      ·obtain rfl:true=b:=by rw [<- HB3.out];simp [hq]
       have f9:(u.n.ki == 1)=false:=by rw [beq_eq_false_iff_ne];exact hq
       have f8:(u.n.ki != 1)=true:=by simp [bne,f9]
       have f7:decide (u.n.ki=1)=false:=decide_eq_false hq;have HQ:=hD hq;clear hq;go_wp2;go_ret;exact ⟨rfl,HB.out⟩
 ·rw [if_neg hk] at HBB
  have f1:(p.n.ki == 1)=false:=by rw [beq_eq_false_iff_ne];exact hk
  have f2:(p.n.ki != 1)=true:=by simp [bne,f1]
  have f1':decide (p.n.ki=1)=false:=decide_eq_false hk;have HK:=hD hk;clear hk
  by_cases g1:p.n.cs.length=0
  ·rw [g1] at x5
   by_cases g2:p.n.rs.length=0
   ·rw [g2] at x6
    have hb2:(upB i p.n&&clB (R.map Nr.n) i p.n)=b:=by rw [<- HBB.out,decide_eq_true g1,decide_eq_true g2];rfl
    have HB2:=hD hb2;clear hb2 HBB g1 g2
    go_upto_region 6 with (fail)
    by_cases hz:i=0
    ·subst hz
     have hbz:(p.n.pa == -1)=b:=by rw [<- HB2.out];simp only [upB,clB,if_true,Bool.and_true];rfl
     have HBZ:=hD hbz;clear hbz HB2;go_wp2;go_ret;exact ⟨ret_bool HBZ.out,HB.out⟩
    ·have z0:((i:Int) == 0)=false:=by rw [beq_eq_false_iff_ne];omega
     have z1:decide ((i:Int)=0)=false:=decide_eq_false (by omega)
     cases hu:upB i p.n
     ·obtain rfl:false=b:=by rw [<- HB2.out,hu];rfl
      have hu2:rng p.n.pa 0 ((i:Int)-1)=false:=by have:=hu;unfold upB at this;rwa [if_neg hz] at this
      go_wp2_with fail
      with_reducible refine (inRange_w p.n.pa 0 ((i:Int)-1) false _ hu2).mono ?_
      rintro e wq ⟨rfl,rfl⟩;go_wp2;go_ret;exact ⟨rfl,HB.out⟩
     ·have hu2:rng p.n.pa 0 ((i:Int)-1)=true:=by have:=hu;unfold upB at this;rwa [if_neg hz] at this
      have hb3:clB (R.map Nr.n) i p.n=b:=by rw [<- HB2.out,hu];rfl
      obtain ⟨m,hpm⟩:=Int.eq_ofNat_of_zero_le (rng_iff.1 hu2).1
      have hmi:m<i:=by have:=(rng_iff.1 hu2).2;omega
      have hml:m<R.length:=by omega
      have hmu:R[m]?=some R[m]:=List.getElem?_eq_getElem hml;unfold clB at hb3;rw [if_neg hz,hpm] at hb3;simp only [Int.toNat_natCast] at hb3;rw [List.getElem?_map,hmu] at hb3;simp only [Option.map_some] at hb3;have hmm:=HM.out _ (List.mem_of_getElem? hmu);generalize R[m]=u at *;obtain ⟨mu1,mu2⟩:=hmm;obtain ⟨bl2,off2,e9,hbl2,hcu⟩:=HV.out.cells (by omega)
      cases e9
      have HU:=hD (hcu m u hmu);have HB3:=hD hb3
      have hmr:(m:Int)<(R.length:Int):=by omega
      rw [hpm] at x0 hu2;have hx0:=cellS HX.out 0;clear hcu hmu hb3 HB2 hu hpm
      go_wp2_with fail
      with_reducible refine (inRange_w (m:Int) 0 ((i:Int)-1) true _ hu2).mono ?_
      rintro e wq ⟨rfl,rfl⟩;have hsz:w.heap.size+1<v2.heap.size:=ltS HN.out
      go_upto_region 11 with (first|(refine ldN _ u bl (off+m*34) rfl rfl rfl HU.out ?_)|(refine stN (.tmp 6) (.tmp 112) u v2.heap.size 0 rfl rfl rfl rfl (newS _ _) (by show (0+34:Nat)≤34;omega) ?_))
      refine wp_genGG (fun W=>W.heap[v2.heap.size]?=some (.cells (valsNr u).toArray 43 (0,0))∧Below v2.heap.size v2 W) ⟨new_full u rfl rfl,below_setCells (Nat.le_refl _) _ _ _ (balloc (Below.refl _ _))⟩ (fun W9 h9=>?_);obtain ⟨hn9,hb9⟩:=h9;have HN9:=hD hn9;clear x0 x1 x2 x4 x5 x6 x7 x8 x20 x21 HRP HRL HRC hx0;replace HX:=hbk hb9 HX;replace HN:=hbk hb9 HN;replace HB:=hD (bkeep2 HB.out hb9)
      clear hb9;have y4:W9.cell? ⟨v2.heap.size,4,none⟩=some (.int .i64 u.n.ki):=cellS HN9.out 4;have y5:W9.cell? ⟨v2.heap.size,5,none⟩=some (.slice u.ca u.n.cs.length u.cc):=cellS HN9.out 5;have y6:W9.cell? ⟨v2.heap.size,6,none⟩=some (.slice u.ra u.n.rs.length u.rc):=cellS HN9.out 6;clear hn9
      by_cases hq:u.n.ki=1
      ·rw [hq] at y4
       have hcb:cellB u.n.cs.length u.n.rs.length p.n.ce=b:=by rw [<- HB3.out];simp [hq]
       have HCB:=hD hcb;have hrc:=node_ce (nodeAt HN.out);simp only [Nat.zero_add] at hrc;have HRC:=hD hrc;clear hq hcb HB3 hrc
       go_wp2_with (refine ldCellH HRC rfl rfl rfl ?_)
       with_reducible refine (svalidCell_v p.n.ce u.n.cs.length u.n.rs.length 0 u.cc u.rc 0 u.ca u.ra none b _ mu1 mu2 HCB.out).mono ?_
       rintro e u9 ⟨rfl,hbu⟩;clear y4 y5 y6 HRC;replace HB:=hD (bkeep2 HB.out hbu);clear hbu;go_wp2;go_ret;exact ⟨rfl,HB.out⟩
      ·obtain rfl:true=b:=by rw [<- HB3.out];simp [hq]
       have f9:(u.n.ki == 1)=false:=by rw [beq_eq_false_iff_ne];exact hq
       have f8:(u.n.ki != 1)=true:=by simp [bne,f9]
       have f7:decide (u.n.ki=1)=false:=decide_eq_false hq;have HQ:=hD hq;clear hq;go_wp2;go_ret;exact ⟨rfl,HB.out⟩
   ·have k2:decide ((0:Int)<((p.n.rs.length:Nat):Int))=true:=decide_eq_true (by omega)
    have k2n:0<p.n.rs.length:=by omega
    obtain rfl:false=b:=by rw [<- HBB.out,decide_eq_false g2,Bool.and_false];rfl
    clear g1 g2;go_wp2;go_ret;exact ⟨rfl,HB.out⟩
  ·have k1:decide ((0:Int)<((p.n.cs.length:Nat):Int))=true:=decide_eq_true (by omega)
   have k1n:0<p.n.cs.length:=by omega
   obtain rfl:false=b:=by rw [<- HBB.out,decide_eq_false g1,Bool.false_and];rfl
   clear g1;go_wp2;go_ret;exact ⟨rfl,HB.out⟩
theorem svalidTree_v (A:Option Addr) (c:Nat) (R:List Nr) (b:Bool) (w:World) (h:NrV w A R) (hr:RdR w R) (hL:R.length≤1048576) (hm:∀ p∈R,p.n.cs.length≤1048576∧p.n.rs.length≤1048576) (hb:treeB (R.map Nr.n)=b) :
  Calls Tryz.prog 56 #[.agg #[.slice A R.length c]] w fun e w'=>e=.returned (.bool b)∧Below w.heap.size w w':=by
 have hB0:Below w.heap.size w (w.alloc (.cells #[.slice A R.length c] 25 (0,0))):=balloc (Below.refl _ _);have HX:=hD (newS w (.cells #[.slice A R.length c] 25 (0,0)));have HB:=hD hB0;have HV:=hD (h.keep hB0);have HR:=hD (hr.keep hB0);have HM:=hD hm;have HBB:=hD hb;clear hB0 h hr hm hb
 go_enter Tryz.func56,Tryz.ntmps56
 go_wp2_with fail
 go_loopw [3] (fun i wr=>∃ k:Nat,k≤R.length∧i=.int .i64 k∧(List.range k).all (nokB (R.map Nr.n))=true∧wr.heap[w.heap.size]?=some (.cells #[.slice A R.length c] 25 (0,0))∧NrV wr A R∧RdR wr R∧Below w.heap.size w wr) (fun i _=>R.length-(intOf i).toNat)
 case atStart=>exact ⟨0,by omega,rfl,rfl,HX.out,HV.out,HR.out,HB.out⟩
 case round =>
  obtain ⟨k,hk,rfl,hall,hx,hv,hr,hB⟩:=hrel;clear HX HV HR HB;have hx0:=cellS hx 0;have lx:=ltS hx;have HX:=hD hx;have HV:=hD hv;have HR:=hD hr;have HB:=hD hB;have HALL:=hD hall;clear hx hv hr hB hall
  by_cases hlt:k<R.length
  ·have hd:decide ((k:Int)<(R.length:Int))=true:=by simpa using hlt
   have hget:R[k]?=some R[k]:=List.getElem?_eq_getElem hlt;generalize R[k]=p at *;have hnb:nokB (R.map Nr.n) k=(ndB p.n&&(upB k p.n&&clB (R.map Nr.n) k p.n)):=nokB_at (by rw [List.getElem?_map,hget];rfl);rw [nd_sp] at hnb;have HNB:=hD hnb;have HG:=hD hget;clear hnb hget
   have hcv:∀ cb,nokB (R.map Nr.n) k=cb→Calls Tryz.prog 101 #[.agg #[.slice A R.length c],.int .i64 k] wr fun e w'=>e=.returned (.bool cb)∧Below wr.heap.size wr w':=by
    intro cb hcb;rw [HNB.out] at hcb
    cases h0:spB p.n
    ·obtain rfl:false=cb:=by rw [<- hcb,h0];rfl
     exact svalidNode_no A c R k p _ HV.out HR.out HG.out hL HM.out h0
    ·exact svalidNode_yes A c R k p cb _ HV.out HR.out HG.out hL HM.out h0 (by rw [<- hcb,h0,Bool.true_and])
   cases h1:nokB (R.map Nr.n) k
   ·have HC:=hD (hcv false h1);clear hcv HNB
    go_wp2_with fail
    with_reducible refine (HC.out).mono ?_
    rintro e w1 ⟨rfl,hb⟩;clear hx0 HC;replace HB:=hD (bkeep2 HB.out hb);clear hb;have HH1:=hD h1;clear h1;go_wp2;go_ret;refine ⟨ret_bool ?_,HB.out⟩;rw [<- HBB.out];unfold treeB;rw [List.length_map,all_falseG (k:=k) (p:=k) (by rw [List.getElem?_range (by omega)]) HH1.out,Bool.and_false]
   ·have HC:=hD (hcv true h1);clear hcv HNB
    go_wp2_with fail
    with_reducible refine (HC.out).mono ?_
    rintro e w1 ⟨rfl,hb⟩;clear hx0 HC;replace HX:=hbk hb HX;replace HV:=hD (HV.out.keep hb);replace HR:=hD (HR.out.keep hb);replace HB:=hD (bkeep2 HB.out hb);clear hb;have HH1:=hD h1;clear h1;go_wp2
    go_roundw
    case rel=>exact ⟨k+1,by omega,by go_num,by rw [range_all_succ,HALL.out,HH1.out];rfl,HX.out,HV.out,HR.out,HB.out⟩
    case measure=>simp [intOf];omega
  ·have hd:decide ((k:Int)<(R.length:Int))=false:=decide_eq_false (by omega)
   obtain rfl:k=R.length:=by omega
   cases hl:rng R.length 1 10
   ·obtain rfl:false=b:=by rw [<- HBB.out];unfold treeB;rw [List.length_map,hl];rfl
    go_wp2_with fail
    with_reducible refine (inRange_w _ 1 10 false _ hl).mono ?_
    rintro e wq ⟨rfl,rfl⟩;go_wp2;go_ret;exact ⟨rfl,HB.out⟩
   ·obtain rfl:true=b:=by rw [<- HBB.out];unfold treeB;rw [List.length_map,hl,HALL.out];rfl
    go_wp2_with fail
    with_reducible refine (inRange_w _ 1 10 true _ hl).mono ?_
    rintro e wq ⟨rfl,rfl⟩;go_wp2;go_ret;exact ⟨rfl,HB.out⟩
theorem ValidTree_n (A:Option Addr) (c k:Nat) (R:List Nr) (b:Bool) (w:World) (hk:k=R.length) (h:NrV w A R) (hr:RdR w R) (hL:R.length≤1048576) (hm:∀ p∈R,p.n.cs.length≤1048576∧p.n.rs.length≤1048576) (hb:treeB (R.map Nr.n)=b) :
  Calls Tryz.prog 53 #[.agg #[.slice A k c]] w fun e w'=>e=.returned (.bool b)∧Below w.heap.size w w':=by
 subst hk;exact ValidTree_v A c R b w h hr hL hm hb
theorem svalidTree_n (A:Option Addr) (c k:Nat) (R:List Nr) (b:Bool) (w:World) (hk:k=R.length) (h:NrV w A R) (hr:RdR w R) (hL:R.length≤1048576) (hm:∀ p∈R,p.n.cs.length≤1048576∧p.n.rs.length≤1048576) (hb:treeB (R.map Nr.n)=b) :
  Calls Tryz.prog 56 #[.agg #[.slice A k c]] w fun e w'=>e=.returned (.bool b)∧Below w.heap.size w w':=by
 subst hk;exact svalidTree_v A c R b w h hr hL hm hb
theorem has_v (A:Option Addr) (c k:Nat) (i:Int) (r:Bool) (w:World) (hk:k≤1048576) (h:rng i 0 ((k:Int)-1)=r):Calls Tryz.prog 69 #[.agg #[.slice A k c],.int .i64 i] w fun e w'=>e=.returned (.bool r)∧Below w.heap.size w w':=by
 go_enter Tryz.func69,Tryz.ntmps69
 go_wp2_with fail
 with_reducible refine (within_w i 0 ((k:Int)-1) r _ h).mono ?_
 rintro e w' ⟨rfl,rfl⟩;go_wp2;go_ret;exact ⟨rfl,balloc (Below.refl _ _)⟩
theorem trOK_of {L:List Nd} (h:treeB L=true):TrOK L where
 l1:=(tree_len h).1
 l10:=(tree_len h).2
 up:=fun k n hn=>by
  obtain ⟨_,hu,_⟩:=tree_nok h hn;unfold upB at hu
  split at hu
  ·rename_i e;exact .inl ⟨e,by simpa using hu⟩
  ·rename_i e;rw [rng_iff] at hu;right;omega
 sz:=fun k n hn=>by
  obtain ⟨hd,_,_⟩:=tree_nok h hn;simp only [ndB,Bool.and_eq_true,rng_iff] at hd;obtain ⟨⟨h1,h2⟩,h3,_⟩:=hd;exact ⟨h1,h2,by omega⟩
 pk:=fun k n hn=>by
  obtain ⟨hd,_,_⟩:=tree_nok h hn;simp only [ndB,Bool.and_eq_true] at hd;exact hd.2.2.2.1
 pl:=fun k n hn=>by
  obtain ⟨hd,_,_⟩:=tree_nok h hn;simp only [ndB,Bool.and_eq_true] at hd;exact hd.2.2.2.2.2.2.2.2
 li:=fun k n hn h1=>own_lines (tree_nok h hn).1 h1
 ce:=fun k n u hn h0 hu h1=>by
  obtain ⟨_,_,hc⟩:=tree_nok h hn;unfold clB at hc;rw [if_neg (by omega),hu] at hc
  simpa [h1] using hc
def WsV (lo:Nat) (w:World) (R:List Nr) (v:Value):Prop:=∃ g:Nat,v=.slice (some ⟨g,0,none⟩) R.length R.length∧lo≤g∧RbK 2 w g 82 ((List.range R.length).map fun k=>valsWi (szM (R.map Nr.n) k))
theorem wishes_eq {w:World} {R:List Nr} {X:List Wd} (hl:X.length=R.length) (hx:∀ i x,X[i]?=some x→WdK 0 w R i x):(X.map fun y=>valsWi (y.sw,y.sh))=(List.range R.length).map fun k=>valsWi (szM (R.map Nr.n) k):=by
 refine List.ext_getElem? fun i=>?_
 rw [List.getElem?_map,List.getElem?_map]
 by_cases hi:i<R.length
 ·have e:X[i]?=some X[i]:=List.getElem?_eq_getElem (by omega);obtain ⟨p,_,_,e2,_⟩:=hx i _ e;rw [e,List.getElem?_range hi];simp only [Option.map_some];rw [e2]
 ·rw [List.getElem?_eq_none (by omega),List.getElem?_eq_none (by simp;omega)];rfl
theorem requests_v (A:Option Addr) (c k:Nat) (R:List Nr) (w:World) (hT:TrOK (R.map Nr.n)) (hk:k=R.length) (h:NrV w A R) (hr:RdR w R) :
  Calls Tryz.prog 66 #[.agg #[.slice A k c]] w fun e w'=>(∃ v,e=.returned v∧WsV w.heap.size w' R v)∧Below w.heap.size w w':=by
 subst hk
 have hL:R.length≤10:=by have:=hT.l10;rwa [List.length_map] at this
 have hB0:Below w.heap.size w (w.alloc (.cells #[.slice A R.length c] 25 (0,0))):=balloc (Below.refl _ _);have HX:=hD (newS w (.cells #[.slice A R.length c] 25 (0,0)));have HB:=hD hB0;have HV:=hD (h.keep hB0);have HR:=hD (hr.keep hB0);have x0:=cellS HX.out 0;clear hB0 h hr
 go_enter Tryz.func66,Tryz.ntmps66
 go_wp2_with fail
 with_reducible refine (settled_v A c R hT _ HV.out HR.out hL).mono ?_
 rintro e w1 ⟨⟨v,rfl,g,X,rfl,hg,X1,X2,X3⟩,hb⟩;clear x0;replace HX:=hbk hb HX;replace HB:=hD (bkeep2 HB.out hb);clear hb;have HX2:=hD X2.v;have HE:=hD (wishes_eq X1 X3);have HX1:=hD X1;clear X1 X2 X3 hg
 go_wp2_with fail
 with_reducible refine (each_wishes _ _ R.length X _ HX2.out HX1.out.symm (by omega)).mono ?_
 rintro e w2 ⟨rfl,hq,hb⟩;rw [HE.out] at hq;have HQ:=hD hq;have hs1:=HB.out.size;clear hq;replace HB:=hD (bkeep2 HB.out hb);clear hb;go_wp2;go_ret;exact ⟨⟨_,rfl,_,rfl,hs1,HQ.out⟩,HB.out⟩
theorem WsV.at {lo:Nat} {w:World} {R:List Nr} {g:Nat} (h:RbK 2 w g 82 ((List.range R.length).map fun k=>valsWi (szM (R.map Nr.n) k))) {j:Nat} (hj:j<R.length):w.cell? ⟨g,j*2,none⟩=some (.int .i64 (szM (R.map Nr.n) j).1)∧w.cell? ⟨g,j*2+1,none⟩=some (.int .i64 (szM (R.map Nr.n) j).2):=by
 obtain ⟨cs,hh,hs,hc⟩:=h
 have:=hc j (valsWi (szM (R.map Nr.n) j)) (by simpa using hj) (by rw [List.getElem?_map,List.getElem?_range hj];rfl)
 exact ⟨(cellS hh _).trans (this 0 _ rfl),(cellS hh _).trans (this 1 _ rfl)⟩
theorem RequestOf_no (A:Option Addr) (c k:Nat) (R:List Nr) (i:Int) (w:World) (hk:k=R.length) (h:NrV w A R) (hr:RdR w R) (hL:R.length≤1048576) (hm:∀ p∈R,p.n.cs.length≤1048576∧p.n.rs.length≤1048576) (hb:(treeB (R.map Nr.n)&&rng i 0 ((k:Int)-1))=false) :
  Calls Tryz.prog 29 #[.agg #[.slice A k c],.int .i64 i] w fun e w'=>e=.returned (.tuple #[.int .i64 (-1),.int .i64 (-1)])∧Below w.heap.size w w':=by
 have hkl:k≤1048576:=by omega
 have hB0:Below w.heap.size w (w.alloc (.cells #[.slice A k c] 25 (0,0))):=balloc (Below.refl _ _);have HX:=hD (newS w (.cells #[.slice A k c] 25 (0,0)));have HB:=hD hB0;have HV:=hD (h.keep hB0);have HR:=hD (hr.keep hB0);have HM:=hD hm;have HK:=hD hk;have x0:=cellS HX.out 0;clear hB0 h hr hm hk
 cases ht:treeB (R.map Nr.n)
 ·have HT:=hD ht;clear hb ht
  go_enter Tryz.func29,Tryz.ntmps29
  go_wp2_with fail
  with_reducible refine (ValidTree_n A c k R false _ HK.out HV.out HR.out hL HM.out HT.out).mono ?_
  rintro e w1 ⟨rfl,hb⟩;clear x0;replace HX:=hbk hb HX;replace HB:=hD (bkeep2 HB.out hb);clear hb;have x0:=cellS HX.out 0;go_wp2;go_ret2;exact ⟨rfl,HB.out⟩
 ·have hb2:rng i 0 ((k:Int)-1)=false:=by rw [ht] at hb;simpa using hb
  have HT:=hD ht;have HBB:=hD hb2;clear hb ht hb2
  go_enter Tryz.func29,Tryz.ntmps29
  go_wp2_with fail
  with_reducible refine (ValidTree_n A c k R true _ HK.out HV.out HR.out hL HM.out HT.out).mono ?_
  rintro e w1 ⟨rfl,hb⟩;clear x0;replace HX:=hbk hb HX;replace HB:=hD (bkeep2 HB.out hb);clear hb;have x0:=cellS HX.out 0
  go_wp2_with fail
  with_reducible refine (has_v A c k i false _ hkl HBB.out).mono ?_
  rintro e w2 ⟨rfl,hb⟩;clear x0;replace HX:=hbk hb HX;replace HB:=hD (bkeep2 HB.out hb);clear hb;have x0:=cellS HX.out 0;go_wp2;go_ret2;exact ⟨rfl,HB.out⟩
theorem RequestOf_yes (A:Option Addr) (c k:Nat) (R:List Nr) (j:Nat) (w:World) (hk:k=R.length) (h:NrV w A R) (hr:RdR w R) (hL:R.length≤1048576) (hm:∀ p∈R,p.n.cs.length≤1048576∧p.n.rs.length≤1048576) (ht:treeB (R.map Nr.n)=true) (hj:j<R.length) :
  Calls Tryz.prog 29 #[.agg #[.slice A k c],.int .i64 j] w fun e w'=>e=.returned (.tuple #[.int .i64 (szM (R.map Nr.n) j).1,.int .i64 (szM (R.map Nr.n) j).2])∧Below w.heap.size w w':=by
 have hkn:(j:Int)<(k:Int):=by omega
 have hkl:k≤1048576:=by omega
 have hB0:Below w.heap.size w (w.alloc (.cells #[.slice A k c] 25 (0,0))):=balloc (Below.refl _ _);have HX:=hD (newS w (.cells #[.slice A k c] 25 (0,0)));have HB:=hD hB0;have HV:=hD (h.keep hB0);have HR:=hD (hr.keep hB0);have HM:=hD hm;have HK:=hD hk;have x0:=cellS HX.out 0;clear hB0 h hr hm hk;have HT:=hD ht;have HBB:=hD (show rng (j:Int) 0 ((k:Int)-1)=true by rw [rng_iff];omega);clear ht
 go_enter Tryz.func29,Tryz.ntmps29
 go_wp2_with fail
 with_reducible refine (ValidTree_n A c k R true _ HK.out HV.out HR.out hL HM.out HT.out).mono ?_
 rintro e w1 ⟨rfl,hb⟩;clear x0;replace HX:=hbk hb HX;replace HV:=hD (HV.out.keep hb);replace HR:=hD (HR.out.keep hb);replace HB:=hD (bkeep2 HB.out hb);clear hb;have x0:=cellS HX.out 0
 go_wp2_with fail
 with_reducible refine (has_v A c k j true _ hkl HBB.out).mono ?_
 rintro e w2 ⟨rfl,hb⟩;clear x0;replace HX:=hbk hb HX;replace HV:=hD (HV.out.keep hb);replace HR:=hD (HR.out.keep hb);replace HB:=hD (bkeep2 HB.out hb);clear hb;have x0:=cellS HX.out 0
 go_wp2_with fail
 with_reducible refine (requests_v A c k R _ (trOK_of HT.out) HK.out HV.out HR.out).mono ?_
 rintro e w3 ⟨⟨v,rfl,g,rfl,hg,hq⟩,hb⟩;clear x0;replace HX:=hbk hb HX;replace HB:=hD (bkeep2 HB.out hb);clear hb;obtain ⟨y0,y1⟩:=WsV.at (lo:=0) hq hj;have hgl:g<w3.heap.size:=RpK.lt hq
 have hd:(j:Int)<(R.length:Int):=by omega
 clear hq
 obtain ⟨q1,hq1⟩:∃ q1,(szM (R.map Nr.n) j).1=q1:=⟨_,rfl⟩
 obtain ⟨q2,hq2⟩:∃ q2,(szM (R.map Nr.n) j).2=q2:=⟨_,rfl⟩
 rw [hq1] at y0;rw [hq2] at y1;have HQ1:=hD hq1;have HQ2:=hD hq2;clear hq1 hq2
 go_upto_region 4 with fail
 refine wp_genGG (fun W=>W.cell? ⟨w3.heap.size,0,none⟩=some (.int .i64 q1)∧W.cell? ⟨w3.heap.size,1,none⟩=some (.int .i64 q2)∧Below w3.heap.size w3 W) ⟨by go_simp,by go_simp,(by repeat (first | with_reducible exact Below.refl _ _ | with_reducible assumption | with_reducible refine balloc ?_|(with_reducible refine bset ?_ ?_;rotate_left;((try dsimp only);omega)) | refine bkeep2 ?_ (by assumption) | with_reducible refine Below.drew ?_))⟩ (fun W4 h4=>?_)
 obtain ⟨z0,z1,hb4⟩:=h4;clear y0 y1;replace HB:=hD (bkeep2 HB.out hb4);clear hb4
 go_quiet (fail)
 go_wp2;go_ret2;exact ⟨ret_tup2 HQ1.out.symm HQ2.out.symm,belowN' HB.out _⟩
section
attribute [local go_sem] givesUpon_value givesUpon_skip givesUpon_enter
theorem DrawNaturalLayout_any (A:Option Addr) (n c:Nat) (w:World) (h:Bts w A n) (hn:n≤c) (hc:c≤maxLen) :
  Calls Tryz.prog 26 #[.slice A n c] w fun e w'=>(∃ (g c0:Nat) (R:List Nr),e=.returned (.agg #[.slice (some ⟨g,0,none⟩) R.length c0])∧TK w' w.heap.size g R∧R.length≤c0∧1≤R.length∧R.length≤10)∧Below w.heap.size w w':=by
 go_enter Tryz.func26,Tryz.ntmps26
 go_wp2_with fail
 with_reducible refine (newReader_any A n c _ (Bts.alloc' h _) hn hc).mono ?_
 rintro e w1 ⟨n',rfl,hr1,hc1⟩;simp only [World.size_alloc] at hr1
 go_wp2_with fail
 with_reducible refine (someTree_any _ hr1 (by omega)).mono ?_
 rintro e w2 ⟨⟨g,c0,R,rfl,htk,hcap,r1,r2⟩,hr2,hc2⟩;have hs:=hc1.size;simp only [World.size_alloc] at hs;have hr0:=(hc2.block w.heap.size (by omega) (by simp)).trans ((hc1.block w.heap.size (by simp) (by simp)).trans (heap_alloc_new w _));have hgl:=htk.lo
 have hbrg:w.heap.size≠g:=by omega
 have HK:=hD (show TK w2 w.heap.size g R from ⟨by omega,htk.blk,htk.ns⟩);have HB:=hD (((Chg.refl [w.heap.size+1] w).alloc _).trans ((hc1.mono (by simp)).trans hc2));have cr:=cellS hr0 0;have fr:=frozenS hr0 0;clear hc1 hc2 hr1 hr2 hs;have H0:=hD hr0;clear hr0 htk;go_wp2
 refine bp_genT (fun W=>TK W w.heap.size g R∧Below w.heap.size w W∧W.heap[w.heap.size]?=some (.cells #[.slice (some ⟨g,0,none⟩) R.length c0] 25 (0,0))) ⟨HK.out.res H0.out hbrg _,Chg.below (HB.out.setCell (p:=⟨w.heap.size,0,none⟩) (.inr (Nat.le_refl _)) _) (Nat.le_refl _) (by simp),putS H0.out _⟩ ?_;clear HK H0 HB cr fr;rintro W ⟨h1,h3,hz⟩;have z0:=cellS hz 0
 exact bodyPost_ret (v:=.agg #[.slice (some ⟨g,0,none⟩) R.length c0]) (by simp only [results,Tryz.results26];go_simp) rfl ⟨⟨g,c0,R,rfl,h1,hcap,r1,r2⟩,h3⟩
end
theorem kidD_mem {L:List Nd} {i k:Nat} {m:Nd} (hm:L[k]?=some m) (hpa:m.pa=(i:Int)):k∈kidD L i:=by
 unfold kidD idsN;refine List.mem_filter.2 ⟨List.mem_range.2 (List.getElem?_eq_some_iff.1 hm).1,?_⟩;unfold kidB;rw [hm]
 simp [hpa]
section
attribute [local go_sem 5000] run_mx run_mn
end
section
attribute [local go_sem 5000] run_mx run_mn run_eqlR run_neqR
theorem box4 {w:World} {b:Nat} {t0 t1 t2 t3:Value} (v0 v1 v2 v3:Value) (h0:w.cell? ⟨b,0,none⟩=some t0) (h1:w.cell? ⟨b,1,none⟩=some t1) (h2:w.cell? ⟨b,2,none⟩=some t2) (h3:w.cell? ⟨b,3,none⟩=some t3) :
  ((((w.setCell ⟨b,0,none⟩ v0).setCell ⟨b,1,none⟩ v1).setCell ⟨b,2,none⟩ v2).setCell ⟨b,3,none⟩ v3).cell? ⟨b,0,none⟩=some v0∧((((w.setCell ⟨b,0,none⟩ v0).setCell ⟨b,1,none⟩ v1).setCell ⟨b,2,none⟩ v2).setCell ⟨b,3,none⟩ v3).cell? ⟨b,1,none⟩=some v1 ∧
  ((((w.setCell ⟨b,0,none⟩ v0).setCell ⟨b,1,none⟩ v1).setCell ⟨b,2,none⟩ v2).setCell ⟨b,3,none⟩ v3).cell? ⟨b,2,none⟩=some v2∧((((w.setCell ⟨b,0,none⟩ v0).setCell ⟨b,1,none⟩ v1).setCell ⟨b,2,none⟩ v2).setCell ⟨b,3,none⟩ v3).cell? ⟨b,3,none⟩=some v3 ∧
  ∀ c o,c≠b→((((w.setCell ⟨b,0,none⟩ v0).setCell ⟨b,1,none⟩ v1).setCell ⟨b,2,none⟩ v2).setCell ⟨b,3,none⟩ v3).cell? ⟨c,o,none⟩=w.cell? ⟨c,o,none⟩:=by
 have ne:∀ i j:Nat,i≠j→(⟨b,i,none⟩:Addr)≠⟨b,j,none⟩:=fun i j h e=>h (by injection e)
 have nb:∀ c i o:Nat,c≠b→(⟨b,i,none⟩:Addr)≠⟨c,o,none⟩:=fun c i o h e=>h (by injection e with e1;exact e1.symm)
 refine ⟨?_,?_,?_,?_,fun c o hc=>?_⟩
 ·rw [World.cell?_setCell_other _ _ _ _ (ne 3 0 (by decide)),World.cell?_setCell_other _ _ _ _ (ne 2 0 (by decide)),World.cell?_setCell_other _ _ _ _ (ne 1 0 (by decide))];exact World.cell?_setCell_same _ _ _ h0
 ·rw [World.cell?_setCell_other _ _ _ _ (ne 3 1 (by decide)),World.cell?_setCell_other _ _ _ _ (ne 2 1 (by decide))];exact World.cell?_setCell_same _ _ _ ((World.cell?_setCell_other _ _ _ _ (ne 0 1 (by decide))).trans h1)
 ·rw [World.cell?_setCell_other _ _ _ _ (ne 3 2 (by decide))];exact World.cell?_setCell_same _ _ _ (((World.cell?_setCell_other _ _ _ _ (ne 1 2 (by decide))).trans (World.cell?_setCell_other _ _ _ _ (ne 0 2 (by decide)))).trans h2)
 ·exact World.cell?_setCell_same _ _ _ ((((World.cell?_setCell_other _ _ _ _ (ne 2 3 (by decide))).trans (World.cell?_setCell_other _ _ _ _ (ne 1 3 (by decide)))).trans (World.cell?_setCell_other _ _ _ _ (ne 0 3 (by decide)))).trans h3)
 ·rw [World.cell?_setCell_other _ _ _ _ (nb c 3 o hc),World.cell?_setCell_other _ _ _ _ (nb c 2 o hc),World.cell?_setCell_other _ _ _ _ (nb c 1 o hc),World.cell?_setCell_other _ _ _ _ (nb c 0 o hc)]
end
section
attribute [local go_sem 5000] run_mx run_mn run_eqlR run_neqR
theorem celld {W:World} {a:Addr} {v:Value} (h:W.cell? a=some v):W.drew.cell? a=some v:=h
theorem gen_post {P:Program} {fn:Func} {R:Ending→World→Prop} {e:Exit} {a:Act} {W:World} (F:World→Prop) (hF:F W) (h:∀ W0,F W0→bodyPost P fn R e a W0):bodyPost P fn R e a W:=h W hF
end
section
attribute [local go_sem 5000] run_mx run_mn run_eqlR run_neqR
theorem cutters_any (w:World):Calls Tryz.prog 247 #[] w fun e w'=>e=.returned (.agg #[.func (.func 248) #[] #[],.func (.func 249) #[] #[],.func (.func 250) #[] #[],.func (.func 251) #[] #[]])∧Below w.heap.size w w':=by
 go_enter Tryz.func247,Tryz.ntmps247
 go_wp2
 exact bodyPost_ret (v:=.agg #[.func (.func 248) #[] #[],.func (.func 249) #[] #[],.func (.func 250) #[] #[],.func (.func 251) #[] #[]]) (by simp only [results,Tryz.results247];go_simp) rfl ⟨rfl,(by repeat (first | with_reducible exact Below.refl _ _ | with_reducible assumption | with_reducible refine balloc ?_|(with_reducible refine bset ?_ ?_;rotate_left;((try dsimp only);omega)) | refine bkeep2 ?_ (by assumption) | with_reducible refine Below.drew ?_))⟩
end
section
attribute [local go_sem 5000] run_mx run_mn
theorem PV.drop {w:World} {L:List Pk} {b off k:Nat} (h:PS w b off L) (hb:b<w.heap.size):PV w (some ⟨b,off+k*9,none⟩) (L.drop k) :=
 ⟨fun _=>⟨b,off+k*9,rfl,hb,fun i p hp=>by
  rw [List.getElem?_drop] at hp
  have:=h (k+i) p hp
  rwa [show off+(k+i)*9=off+k*9+i*9 from by rw [Nat.add_mul,Nat.add_assoc]] at this⟩⟩
theorem size_v (z:Rc) (d:Bool) (w:World):Calls Tryz.prog 244 #[.agg #[.int .i64 (z.x),.int .i64 (z.y),.int .i64 (z.u),.int .i64 (z.v)],.bool d] w fun e w'=>e=.returned (.int .i64 (z.size d))∧Below w.heap.size w w':=by
 cases d
 all_goals
  go_enter Tryz.func244,Tryz.ntmps244
  go_wp2;go_ret;exact ⟨rfl,balloc (Below.refl _ _)⟩
theorem moreOf_no {L:List Pk} {p:Pk} {r:List Pk} {z:Rc} (e:L=p :: r) (h:p.ex=false):moreOf L z=0:=by subst e;simp [moreOf,h]
theorem moreOf_yes {L:List Pk} {p:Pk} {r:List Pk} {z:Rc} (e:L=p :: r) (h:p.ex=true):moreOf L z=shareGo L p.down (z.size p.down) (z.size p.down) 0:=by subst e;simp [moreOf,h]
theorem cells4 {w:World} {b:Nat} {a0 a1 a2 a3:Value} {T:TypeId} {fz:Nat × Nat} (h:w.heap[b]?=some (.cells #[a0,a1,a2,a3] T fz)) :
  w.cell? ⟨b,0,none⟩=some a0∧w.cell? ⟨b,1,none⟩=some a1∧w.cell? ⟨b,2,none⟩=some a2∧w.cell? ⟨b,3,none⟩=some a3:=⟨cellH h 0,cellH h 1,cellH h 2,cellH h 3⟩
end
def vals4 (r:Rc):List Value:=[.int .i64 r.x,.int .i64 r.y,.int .i64 r.u,.int .i64 r.v]
def In4 (cs:Array Value) (o:Nat) (r:Rc):Prop:=∀ j,j<4→cs[o+j]?=(vals4 r)[j]?
def Cells4 (w:World) (b o:Nat) (r:Rc):Prop:=w.cell? ⟨b,o,none⟩=some (.int .i64 r.x)∧w.cell? ⟨b,o+1,none⟩=some (.int .i64 r.y)∧w.cell? ⟨b,o+2,none⟩=some (.int .i64 r.u)∧w.cell? ⟨b,o+3,none⟩=some (.int .i64 r.v)
theorem In4.cells {w:World} {b:Nat} {cs:Array Value} {T:TypeId} {fz:Nat × Nat} {o:Nat} {r:Rc} (hh:w.heap[b]?=some (.cells cs T fz)) (h:In4 cs o r):Cells4 w b o r:=by
 have e:∀ j,j<4→w.cell? ⟨b,o+j,none⟩=(vals4 r)[j]?:=fun j hj=>(cellH hh _).trans (h j hj)
 exact ⟨e 0 (by omega),e 1 (by omega),e 2 (by omega),e 3 (by omega)⟩
theorem In4.write {cs:Array Value} {o:Nat} (r:Rc) (h:o+4≤cs.size):In4 (writeAt cs o (vals4 r)) o r:=fun j hj=>writeAt_in _ _ _ _ h hj
theorem In4.keep {cs:Array Value} {o o':Nat} {r q:Rc} (h:In4 cs o' q) (hd:o'+4≤o∨o+4≤o'):In4 (writeAt cs o (vals4 r)) o' q:=fun j hj=>by
 rcases hd with hd | hd
 ·rw [writeAt_lo _ _ _ _ (by omega)];exact h j hj
 ·rw [writeAt_hi _ _ _ _ (by simp [vals4];omega)];exact h j hj
def Blk4 (w:World) (g:Nat) (M:List Rc):Prop:=∃ cs:Array Value,w.heap[g]?=some (.cells cs 32 (0,0))∧cs.size=M.length*4∧∀ i r,M[i]?=some r→In4 cs (i*4) r
theorem Blk4.keep {w w':World} {g:Nat} {M:List Rc} (h:Blk4 w g M) (hb:Below w.heap.size w w'):Blk4 w' g M:=by
 obtain ⟨cs,hh,hs,hc⟩:=h;exact ⟨cs,(hb.block g (gE hh).1).trans hh,hs,hc⟩
theorem pput4 {w:World} {b:Nat} {cs:Array Value} {T:TypeId} {fz:Nat × Nat} (h:w.heap[b]?=some (.cells cs T fz)) (o:Nat) (r:Rc) :
  ((((w.setCell ⟨b,o,none⟩ (.int .i64 r.x)).setCell ⟨b,o+1,none⟩ (.int .i64 r.y)).setCell ⟨b,o+2,none⟩ (.int .i64 r.u)).setCell ⟨b,o+3,none⟩ (.int .i64 r.v)).heap[b]?=some (.cells (writeAt cs o (vals4 r)) T fz) :=
 pput1 (pput1 (pput1 (pput1 h _) _) _) _
theorem pput4o {w:World} {b b':Nat} (h:b'≠b) (o0 o1 o2 o3:Nat) (x0 x1 x2 x3:Value) :
  ((((w.setCell ⟨b,o0,none⟩ x0).setCell ⟨b,o1,none⟩ x1).setCell ⟨b,o2,none⟩ x2).setCell ⟨b,o3,none⟩ x3).heap[b']?=w.heap[b']?:=by
 rw [Below.heap_setCell _ _ _ _ h,Below.heap_setCell _ _ _ _ h,Below.heap_setCell _ _ _ _ h,Below.heap_setCell _ _ _ _ h]
theorem pput4z {w:World} {b:Nat} {a0 a1 a2 a3:Value} {T:TypeId} {fz:Nat × Nat} (h:w.heap[b]?=some (.cells #[a0,a1,a2,a3] T fz)) (x0 x1 x2 x3:Value) :
  ((((w.setCell ⟨b,0,none⟩ x0).setCell ⟨b,1,none⟩ x1).setCell ⟨b,2,none⟩ x2).setCell ⟨b,3,none⟩ x3).heap[b]?=some (.cells #[x0,x1,x2,x3] T fz):=by
 rw [pput1 (pput1 (pput1 (pput1 h x0) x1) x2) x3];rfl
theorem pput4b {B b:Nat} {a w:World} (h:Below B a w) (hb:B≤b) (o0 o1 o2 o3:Nat) (x0 x1 x2 x3:Value):Below B a ((((w.setCell ⟨b,o0,none⟩ x0).setCell ⟨b,o1,none⟩ x1).setCell ⟨b,o2,none⟩ x2).setCell ⟨b,o3,none⟩ x3) :=
 (((h.setCell hb _).setCell hb _).setCell hb _).setCell hb _
theorem made4:∃ f:Nat→Array Value,(∀ n,(f n).size=n*4)∧∀ (n:Nat) (w:World),n≤1048576→(Instr.makeSlice 28 (.int .i64 (n:Int)) (.int .i64 (n:Int))).run Tryz.prog w=.ok (.slice (some ⟨w.heap.size,0,none⟩) n n) (w.alloc (.cells (f n) 32)):=by
 have hinfo:(Tryz.prog.info? 32).map (fun i=>(i.zero,i.size,i.bytes))=some (some (.agg #[.int .i64 0,.int .i64 0,.int .i64 0,.int .i64 0]),4,32):=by kernel_rfl
 obtain ⟨i,hi,h1,h2,h3⟩:=info_parts hinfo;refine ⟨fun n=>madeCells (Value.agg #[.int .i64 0,.int .i64 0,.int .i64 0,.int .i64 0]).cells (n*4),fun n=>size_madeCells _ _,fun n w hn=>?_⟩;have hr:=run_make (P:=Tryz.prog) w 28 32 i _ Tryz.underlying28 hi h1 .i64 .i64 n n (by omega) (Int.le_refl _) (by rw [h3];omega) (by omega);rw [h2] at hr
 simpa using hr
section
attribute [local go_sem 5000] run_mx run_mn
theorem bp_genP {P:Program} {f:Func} {R:Ending→World→Prop} {e:Exit} {a:Act} {W:World} (F:World→Prop) (hF:F W) (h:∀ W0,F W0→bodyPost P f R e a W0):bodyPost P f R e a W:=h W hF
theorem Blk4.far {w:World} {g b:Nat} {M:List Rc} (h:Blk4 w g M) (hne:g≠b) (o0 o1 o2 o3:Nat) (x0 x1 x2 x3:Value):Blk4 ((((w.setCell ⟨b,o0,none⟩ x0).setCell ⟨b,o1,none⟩ x1).setCell ⟨b,o2,none⟩ x2).setCell ⟨b,o3,none⟩ x3) g M:=by
 obtain ⟨cs,hh,hs,hc⟩:=h;exact ⟨cs,(pput4o hne _ _ _ _ _ _ _ _).trans hh,hs,hc⟩
theorem parcM_step {L:List Pk} {k:Nat} {p:Pk} {z:Rc} {M:List Rc} {Z:Rc} (hg:L[k]?=some p) (h:parcM (L.drop k) z=(M.drop k,Z)) :
  M[k]?=some (cutP z p.s (takeOf p (L.drop (k+1)) z)).1∧parcM (L.drop (k+1)) (cutP z p.s (takeOf p (L.drop (k+1)) z)).2=(M.drop (k+1),Z):=by
 rw [drop_cons hg] at h;simp only [parcM,Prod.mk.injEq] at h;obtain ⟨h1,h2⟩:=h
 have e:M.drop k=(M.drop k)[0]?.toList ++ M.drop (k+1):=by
  rw [<- h1]
  have:M.drop (k+1)=(M.drop k).drop 1:=by rw [List.drop_drop]
  rw [this,<- h1];simp
 have g0:(M.drop k)[0]?=some (cutP z p.s (takeOf p (L.drop (k+1)) z)).1:=by rw [<- h1];rfl
 refine ⟨by rw [List.getElem?_drop] at g0;simpa using g0,?_⟩
 have h3:M.drop (k+1)=(M.drop k).drop 1:=by rw [List.drop_drop]
 rw [h3,<- h1,<- h2]
 rfl
end
section
attribute [local go_sem 5000] run_mx run_mn run_eqlR run_neqR
end
section
section
variable {P:Program} {ops:Array Oper} {md:Region.Mode} {Q:Exit→Act→World→Prop}
theorem wpK_allocs {pre:Nat→Bool} {f:Nat} {listed:Array Bool} {a:Act} {w:World} {i j:Nat} {oi oj:Oper} {Oi Oj:Obj} (hr:Region.ready md ops listed=[i,j])
  (hrj:Region.ready md ops (listed.setIfInBounds i true)=[j]) (hri:Region.ready md ops (listed.setIfInBounds j true)=[i]) (hoi:ops[i]?=some oi) (hoj:ops[j]?=some oj) (hgi:oi.guard=none) (hgj:oj.guard=none)
  (hp:allPre ops pre listed=false) (hpj:allPre ops pre (listed.setIfInBounds i true)=false) (hpi:allPre ops pre (listed.setIfInBounds j true)=false) (hij:i≠j)
  (hd:∀ d,oi.dst=some d→oj.dst≠some d)
  (ei:∀ (a':Act) (w':World) (K:Act→World→Prop),K (a'.put oi.dst (.pointer (some ⟨w'.heap.size,0,none⟩))) (w'.alloc Oi)→oi.wp P a' w' K Q)
  (ej:∀ (a':Act) (w':World) (K:Act→World→Prop),K (a'.put oj.dst (.pointer (some ⟨w'.heap.size,0,none⟩))) (w'.alloc Oj)→oj.wp P a' w' K Q)
  (h:∀ x y w',Gr w w'→x≠y→w.heap.size≤x→w.heap.size≤y→w'.heap[x]?=some Oi→w'.heap[y]?=some Oj →
   wpK P md ops Q pre f ((listed.setIfInBounds i true).setIfInBounds j true) ((a.put oi.dst (.pointer (some ⟨x,0,none⟩))).put oj.dst (.pointer (some ⟨y,0,none⟩))) w') :
  wpK P md ops Q pre (f+1+1) listed a w:=by
 have old:∀ (w1 w2:World) (o o':Obj),Gr (w1.alloc o) w2→(w2.alloc o').heap[w1.heap.size]?=some o:=fun w1 w2 o o' g=>by
  have hs:=g.out.size
  simp at hs
  rw [Below.heap_alloc _ _ _ (by omega)];exact (g.out.block _ (by simp)).trans (heap_new _ _)
 refine .inr ⟨hp,fun w' hw'=>⟨fun h0=>(by rw [hr] at h0;cases h0),fun k hk=>?_⟩⟩;rw [hr] at hk;simp only [List.mem_cons,List.not_mem_nil,or_false] at hk;have s1:=hw'.out.size
 rcases hk with rfl | rfl
 ·refine wpOp_one hoi hgi (ei _ _ _ ⟨Gr.alloc _ _,wpK_one hrj hoj hgj hpj fun w1 hw1=>ej _ _ _ ⟨Gr.alloc _ _,?_⟩⟩);have s2:=hw1.out.size
  simp at s2
  exact h _ _ _ (hw'.trans ((Gr.alloc _ _).trans (hw1.trans (Gr.alloc _ _)))) (by omega) (by omega) (by omega) (old _ _ _ _ hw1) (heap_new _ _)
 ·refine wpOp_one hoj hgj (ej _ _ _ ⟨Gr.alloc _ _,wpK_one hri hoi hgi hpi fun w1 hw1=>ei _ _ _ ⟨Gr.alloc _ _,?_⟩⟩);have s2:=hw1.out.size
  simp at s2
  have:=h _ _ _ (hw'.trans ((Gr.alloc _ _).trans (hw1.trans (Gr.alloc _ _)))) (by omega) (by omega) (by omega) (heap_new _ _) (old _ _ _ _ hw1)
  rw [Array.setIfInBounds_comm _ _ hij,Act.put_comm a _ _ hd] at this;exact this
end
end
section
attribute [local go_sem 5000] run_mx run_mn
def rvals:List Rc→List Value
 | []=>[]
 | r :: t=>vals4 r ++ rvals t
theorem rvals_append (A B:List Rc):rvals (A ++ B)=rvals A ++ rvals B:=by
 induction A with
 | nil=>rfl
 | cons r t ih=>simp [rvals,ih]
theorem rvals_succ {M:List Rc} {k:Nat} {r:Rc} (h:M[k]?=some r):rvals (M.take k) ++ vals4 r=rvals (M.take (k+1)):=by
 rw [List.take_add_one,h,Option.toList,rvals_append];simp [rvals]
theorem own_below {w w':World} {base:Nat} {e:TypeId} {size:Nat} {v:Value} {n:Nat} {xs:List Value} (h:w.ownsRow base e size v n xs) (hb:Below w.heap.size w w'):w'.ownsRow base e size v n xs :=
 h.kept (row:=none) ⟨hb.os,hb.tape,hb.output,hb.size,fun k hk _=>hb.block k hk⟩ (by cases v.ownBlock <;> simp)
theorem below_grownP {w w':World} {B:Nat} {row:Option Nat} (h:w.grownBy w' row) (hr:∀ g,row=some g→B≤g) (hB:B≤w.heap.size):Below B w w' :=
 ⟨h.os,h.tape,h.output,h.size,fun k hk=>h.block k (by omega) (fun e=>by have:=hr k e.symm;omega)⟩
theorem rect_info:∃ (i:TypeInfo) (z:Value),Tryz.prog.info? 32=some i∧i.zero=some z∧i.size=4∧i.bytes=32∧z.cells.size=4:=by
 have hinfo:(Tryz.prog.info? 32).map (fun i=>(i.zero,i.size,i.bytes))=some (some (.agg #[.int .i64 0,.int .i64 0,.int .i64 0,.int .i64 0]),4,32):=by kernel_rfl
 obtain ⟨i,hi,h1,h2,h3⟩:=info_parts hinfo;exact ⟨i,_,hi,h1,h2,h3,rfl⟩
theorem own_mono {w:World} {base base':Nat} {e:TypeId} {size:Nat} {v:Value} {n:Nat} {xs:List Value} (h:w.ownsRow base e size v n xs) (hb:base'≤base):w.ownsRow base' e size v n xs :=
 ⟨h.1,h.2.imp id fun ⟨g,cap,cur,h1,h2,h3⟩=>⟨g,cap,cur,h1,Nat.le_trans hb h2,h3⟩⟩
theorem new4 (W:World) (r:Rc) (T:TypeId):∀ (j:Nat) (u:Value),(vals4 r)[j]?=some u→(W.alloc (.cells #[.int .i64 r.x,.int .i64 r.y,.int .i64 r.u,.int .i64 r.v] T)).cell? ((⟨W.heap.size,0,none⟩:Addr).add j)=some u:=fun j u h=>by
 have hadd:(⟨W.heap.size,0,none⟩:Addr).add j=⟨W.heap.size,j,none⟩:=by unfold Addr.add;split <;> simp_all
 rw [hadd];exact (cellH (heap_new W _) j).trans (by simpa [vals4] using h)
theorem own_set4 {w:World} {base:Nat} {e:TypeId} {size:Nat} {v:Value} {n:Nat} {xs:List Value} (h:w.ownsRow base e size v n xs) {b:Nat} (hb:b<base) (o0 o1 o2 o3:Nat) (x0 x1 x2 x3:Value) :
  ((((w.setCell ⟨b,o0,none⟩ x0).setCell ⟨b,o1,none⟩ x1).setCell ⟨b,o2,none⟩ x2).setCell ⟨b,o3,none⟩ x3).ownsRow base e size v n xs :=
 ownsRow_setCell_below (ownsRow_setCell_below (ownsRow_setCell_below (ownsRow_setCell_below h (a:=⟨b,o0,none⟩) hb x0) (a:=⟨b,o1,none⟩) hb x1) (a:=⟨b,o2,none⟩) hb x2) (a:=⟨b,o3,none⟩) hb x3
theorem vals4_one (r:Rc):∀ u∈vals4 r,u.oneCell'=true:=by intro u hu;simp [vals4] at hu;rcases hu with rfl | rfl | rfl | rfl <;> rfl
theorem grown_old {W w5:World} {v:Value} {o:Obj} {lo hi:Nat} (h:(W.alloc o).grownBy w5 v.ownBlock) (hob:∀ k,v.ownBlock=some k→lo≤k∧k<hi) :
  (∀ q,q<W.heap.size→(q<lo∨hi≤q)→w5.heap[q]?=W.heap[q]?)∧∀ B w,Below B w W→B≤lo→B≤W.heap.size→Below B w w5:=by
 refine ⟨fun q hq hd=>(h.block q (by simp;omega) (fun e=>by have:=hob q e.symm;omega)).trans (Below.heap_alloc _ _ _ hq),fun B w hb hB hB2=>?_⟩;exact (hb.alloc hB2 o).trans (below_grownP h (fun g e=>by have:=hob g e;omega) (by simp;omega))
end
section
attribute [local go_sem 5000] run_mx run_mn
end
section
attribute [local go_sem 5000] run_mx run_mn run_eqlR run_neqR
theorem belowN {B:Nat} {a w:World} (h:Below B a w) (n:Nat):Below B a (w.drewN n):=⟨h.os,h.tape,h.output,h.size,h.block⟩
end
section
attribute [local go_sem 5000] run_mx run_mn run_eqlR run_neqR
end
section
attribute [local go_sem 5000] run_mx run_mn run_eqlR run_neqR
end
section
attribute [local go_sem 5000] run_mx run_mn run_eqlR run_neqR
end
section
attribute [local go_sem 5000] run_mx run_mn run_eqlR run_neqR
end
section
attribute [local go_sem 5000] run_mx run_mn
def insP (r:Rc) (p q:Int):Rc:=⟨r.x+mn p (r.u / 2),r.y+mn q (r.v / 2),mx (r.u-2*p) 0,mx (r.v-2*q) 0⟩
def ancP (r:Rc) (p q k:Int):Rc:=⟨r.x+(r.u-mn p r.u)*(k % 3) / 2,r.y+(r.v-mn q r.v)*(k / 3) / 2,mn p r.u,mn q r.v⟩
def wP (p:Pk) (r:Rc):Int:=if p.fx then (insP r p.px p.py).u else p.w
def hP (p:Pk) (r:Rc):Int:=if p.fy then (insP r p.px p.py).v else p.h
def setP (p:Pk) (r:Rc):Rc:=ancP (insP r p.px p.py) (wP p r) (hP p r) p.an
end
theorem nopan_normal {Q:Exit→Act→World→Prop} {a:Act} {w:World} (h:Q .normal a w):NoPan Q .normal a w:=h
def setL (L:List Pk) (M:List Rc):List Rc:=List.zipWith setP L M
theorem setL_len {L:List Pk} {M:List Rc} (h:M.length=L.length):(setL L M).length=L.length:=by simp [setL,h]
theorem setL_get {L:List Pk} {M:List Rc} {k:Nat} {p:Pk} {r:Rc} (hp:L[k]?=some p) (hr:M[k]?=some r):(setL L M)[k]?=some (setP p r):=by
 simp [setL,List.getElem?_zipWith,hp,hr]
def bgL (L:List Pk):Prop:=(∀ p∈L,p.big)∧L.length≤10
theorem part_bdW {r n:Int} (h1:r≤20000000000000) (h2:1≤n):0≤mx r 0 / n∧mx r 0 / n≤20000000000000:=by
 have:=mx_spec r 0
 have h3:0≤mx r 0:=by omega
 refine ⟨Int.ediv_nonneg h3 (by omega),?_⟩
 have:=Int.ediv_le_self n h3
 omega
theorem shareGo_bdW:∀ {L:List Pk} {d:Bool} {sh rm n:Int},(∀ p∈L,p.big)→0≤sh→sh≤20000000000000→rm≤20000000000000→1≤n→0≤shareGo L d sh rm n∧shareGo L d sh rm n≤20000000000000
 | [],d,sh,rm,n,_,h1,h2,h3,h4=>by
  have:=part_bdW h3 h4
  have:=mn_spec sh (mx rm 0 / n)
  simp only [shareGo];omega
 | p :: r,d,sh,rm,n,hL,h1,h2,h3,h4=>by
  have hp:=hL p List.mem_cons_self;have nb:=Pk.need_bdW hp d
  have hr:∀ p∈r,p.big:=fun q hq=>hL q (List.mem_cons_of_mem _ hq)
  unfold shareGo
  split
  ·exact shareGo_bdW hr h1 h2 (by omega) (by split <;> omega)
  ·have:=part_bdW (r:=rm-p.need d) (n:=n) (by omega) h4
   have:=mn_spec sh (mx (rm-p.need d) 0 / n)
   exact shareGo_bdW hr (by omega) (by omega) h3 h4
def Rc.okW (r:Rc):Prop:=((-1000000000000000≤r.x∧r.x+r.u≤1000000000000000)∧(-1000000000000000≤r.y∧r.y+r.v≤1000000000000000))∧((0≤r.u∧r.u≤20000000000000)∧(0≤r.v∧r.v≤20000000000000))
theorem cutP_okW {r:Rc} {s n:Int} (h:r.okW) (hn:0≤n):(cutP r s n).1.okW∧(cutP r s n).2.okW:=by
 obtain ⟨⟨⟨a1,a2⟩,a3,a4⟩,⟨a5,a6⟩,a7,a8⟩:=h;have m1:=mn_spec n r.u;have m2:=mn_spec n r.v;unfold cutP Rc.okW
 split
 ·dsimp only;omega
 ·split
  ·dsimp only;omega
  ·split
   ·dsimp only;omega
   ·dsimp only;omega
theorem Rc.size_bdW {r:Rc} (h:r.okW) (d:Bool):0≤r.size d∧r.size d≤20000000000000:=by
 obtain ⟨⟨⟨a1,a2⟩,a3,a4⟩,⟨a5,a6⟩,a7,a8⟩:=h
 unfold Rc.size;split <;> omega
theorem moreOf_bdW {p:Pk} {r:List Pk} {z:Rc} (hL:∀ q∈p :: r,q.big) (hz:z.okW):0≤moreOf (p :: r) z∧moreOf (p :: r) z≤20000000000000:=by
 obtain ⟨b1,b2⟩:=Rc.size_bdW hz p.down;simp only [moreOf]
 cases hx:p.ex
 ·simp
 ·have nb:=Pk.need_bdW (hL p List.mem_cons_self) p.down;simp only [if_true];rw [shareGo_same rfl hx];exact shareGo_bdW (fun q hq=>hL q (List.mem_cons_of_mem _ hq)) b1 b2 (by omega) (by omega)
theorem takeOf_bdW {p:Pk} {r:List Pk} {z:Rc} (hL:∀ q∈p :: r,q.big) (hz:z.okW):0≤takeOf p r z∧takeOf p r z≤21000000000020:=by
 have:=moreOf_bdW hL hz
 have:=Pk.need_bdW (hL p List.mem_cons_self) p.down
 unfold takeOf;omega
def Rc.at (r:Rc) (x y:Int):Rc:=⟨r.x+x,r.y+y,r.u,r.v⟩
theorem cutP_at (r:Rc) (s n x y:Int):cutP (r.at x y) s n=((cutP r s n).1.at x y,(cutP r s n).2.at x y):=by
 unfold cutP Rc.at
 dsimp only
 by_cases h0:s=0
 ·rw [if_pos h0,if_pos h0];dsimp only;simp only [Prod.mk.injEq,Rc.mk.injEq,true_and,and_true];omega
 ·rw [if_neg h0,if_neg h0]
  by_cases h1:s=1
  ·rw [if_pos h1,if_pos h1];dsimp only;simp only [Prod.mk.injEq,Rc.mk.injEq,true_and,and_true];omega
  ·rw [if_neg h1,if_neg h1]
   by_cases h2:s=2
   ·rw [if_pos h2,if_pos h2];dsimp only;simp only [Prod.mk.injEq,Rc.mk.injEq,true_and,and_true];omega
   ·rw [if_neg h2,if_neg h2];dsimp only;simp only [Prod.mk.injEq,Rc.mk.injEq,true_and,and_true];omega
theorem takeOf_at (p:Pk) (r:List Pk) (z:Rc) (x y:Int):takeOf p r (z.at x y)=takeOf p r z:=rfl
theorem parcM_at:∀ (L:List Pk) (z:Rc) (x y:Int),parcM L (z.at x y)=((parcM L z).1.map (·.at x y),(parcM L z).2.at x y)
 | [],z,x,y=>rfl
 | p :: r,z,x,y=>by
  simp only [parcM,takeOf_at,cutP_at,parcM_at r,List.map_cons]
end Go.Proofs.YtfnpdlnepjhljaaGreat
