import Derived.Test.YtenckjdiggaonaaGreatQu33
import Derived.RangeFuncBox
import Derived.Maps.AppendAt
set_option linter.unusedVariables false
set_option linter.unusedSimpArgs false
set_option maxRecDepth 100000
set_option maxHeartbeats 16000000
namespace Go.Proofs.YtenckjdiggaonaaGreat
open Go.RowKit
attribute [local go_sem] growUpon_value growUpon_skip growUpon_enter
section
def ownB (n:Nd):Bool:=if n.ki=1 then linesB n.cs && linesB n.rs else decide (n.cs.length=0) && decide (n.rs.length=0)
def ndB (n:Nd):Bool:=(rng n.ww 0 30 && rng n.hh 0 30) && (rng n.ki 0 2 && (ownB n && (n.pk.ok && (decide (n.pk.w=0) && (decide (n.pk.h=0) && (decide (n.ce.cw=0) && (decide (n.ce.ch=0) && plB n.pl)))))))
theorem validOwnLines_v (p:Nr) (b:Bool) (w:World) (h:RdN w p) (k1:p.n.cs.length≤1048576) (k2:p.n.rs.length≤1048576) (hb:ownB p.n=b) :
  Calls Tryz.prog 121 #[.agg (valsNr p).toArray] w fun e w'=>e=.returned (.bool b)∧Below w.heap.size w w':=by
 have hB0:Below w.heap.size w (w.alloc (.cells (valsNr p).toArray 84 (0,0))):=balloc (Below.refl _ _);have HX:=hD (newS w (.cells (valsNr p).toArray 84 (0,0)));have HC:=hD (h.c.keep hB0);have HR:=hD (h.r.keep hB0);have HB:=hD hB0;clear hB0 h;have x4:(w.alloc (.cells (valsNr p).toArray 84 (0,0))).cell? ⟨w.heap.size,4,none⟩=some (.int .i64 p.n.ki):=cellS HX.out 4
 have x5:(w.alloc (.cells (valsNr p).toArray 84 (0,0))).cell? ⟨w.heap.size,5,none⟩=some (.slice p.ca p.n.cs.length p.cc):=cellS HX.out 5;have x6:(w.alloc (.cells (valsNr p).toArray 84 (0,0))).cell? ⟨w.heap.size,6,none⟩=some (.slice p.ra p.n.rs.length p.rc):=cellS HX.out 6;unfold ownB at hb
 by_cases hk:p.n.ki=1
 ·rw [if_pos hk] at hb;rw [hk] at x4;have HK:=hD hk;clear hk
  cases h1:linesB p.n.cs
  ·obtain rfl:false=b:=by rw [<- hb,h1];rfl
   go_enter Tryz.func121,Tryz.ntmps121
   go_wp2_with fail
   with_reducible refine (validLines_v p.ca p.cc p.n.cs false _ HC.out k1 h1).mono ?_
   rintro e w1 ⟨rfl,hb1⟩;clear x4 x5 x6;replace HB:=hD (bkeep2 HB.out hb1);clear hb1;go_wp2;go_ret;exact ⟨rfl,HB.out⟩
  ·have h2:linesB p.n.rs=b:=by rw [<- hb,h1];rfl
   clear hb
   cases b
   all_goals
    go_enter Tryz.func121,Tryz.ntmps121
    go_wp2_with fail
    with_reducible refine (validLines_v p.ca p.cc p.n.cs true _ HC.out k1 h1).mono ?_
    rintro e w1 ⟨rfl,hb1⟩;clear x4 x5 x6;replace HX:=hbk hb1 HX;replace HR:=hD (HR.out.keep hb1);replace HB:=hD (bkeep2 HB.out hb1);clear hb1;have x6:w1.cell? ⟨w.heap.size,6,none⟩=some (.slice p.ra p.n.rs.length p.rc):=cellS HX.out 6
    go_wp2_with fail
    with_reducible refine (validLines_v p.ra p.rc p.n.rs _ _ HR.out k2 h2).mono ?_
    rintro e w2 ⟨rfl,hb2⟩;clear x6;replace HB:=hD (bkeep2 HB.out hb2);clear hb2;go_wp2;go_ret;exact ⟨rfl,HB.out⟩
 ·rw [if_neg hk] at hb
  have e1:(p.n.ki == 1)=false:=by rw [beq_eq_false_iff_ne];exact hk
  have e1':decide (p.n.ki=1)=false:=decide_eq_false hk;have HK:=hD hk;clear hk
  by_cases h1:p.n.cs.length=0
  ·have e2:(((p.n.cs.length:Nat):Int) == 0)=true:=by rw [h1];rfl
   have e2':decide (((p.n.cs.length:Nat):Int)=0)=true:=decide_eq_true (by omega)
   by_cases h2:p.n.rs.length=0
   ·have e3:(((p.n.rs.length:Nat):Int) == 0)=true:=by rw [h2];rfl
    have e3':decide (((p.n.rs.length:Nat):Int)=0)=true:=decide_eq_true (by omega)
    obtain rfl:true=b:=by rw [<- hb,h1,h2];rfl
    clear h1 h2 hb
    go_enter Tryz.func121,Tryz.ntmps121
    go_wp2;go_ret;exact ⟨rfl,HB.out⟩
   ·have e3:(((p.n.rs.length:Nat):Int) == 0)=false:=by rw [beq_eq_false_iff_ne];omega
    have e3':decide (((p.n.rs.length:Nat):Int)=0)=false:=decide_eq_false (by omega)
    obtain rfl:false=b:=by rw [<- hb,decide_eq_false h2,Bool.and_false]
    clear h1 h2 hb
    go_enter Tryz.func121,Tryz.ntmps121
    go_wp2;go_ret;exact ⟨rfl,HB.out⟩
  ·have e2:(((p.n.cs.length:Nat):Int) == 0)=false:=by rw [beq_eq_false_iff_ne];omega
   have e2':decide (((p.n.cs.length:Nat):Int)=0)=false:=decide_eq_false (by omega)
   obtain rfl:false=b:=by rw [<- hb,decide_eq_false h1,Bool.false_and]
   clear h1 hb
   go_enter Tryz.func121,Tryz.ntmps121
   go_wp2;go_ret;exact ⟨rfl,HB.out⟩
theorem eqb_t {x:Int} (h:decide (x=0)=true):(x == 0)=true:=by have:=of_decide_eq_true h;rw [this];rfl
theorem eqb_f {x:Int} (h:decide (x=0)=false):(x == 0)=false:=by have:=of_decide_eq_false h;rw [beq_eq_false_iff_ne];exact this
theorem validNode_v (p:Nr) (b:Bool) (w:World) (h:RdN w p) (k1:p.n.cs.length≤1048576) (k2:p.n.rs.length≤1048576) (hb:ndB p.n=b) :
  Calls Tryz.prog 84 #[.agg (valsNr p).toArray] w fun e w'=>e=.returned (.bool b)∧Below w.heap.size w w':=by
 have HX:=hD (newS w (.cells (valsNr p).toArray 84 (0,0)));have HB:=hD (show Below w.heap.size w (w.alloc (.cells (valsNr p).toArray 84 (0,0))) from balloc (Below.refl _ _));have HD:=hD h;clear h
 cases h1:(rng p.n.ww 0 30 && rng p.n.hh 0 30)
 ·obtain rfl:false=b:=by rw [<- hb];simp only [ndB,h1,Bool.false_and,Bool.true_and]
  clear hb;obtain ⟨x1,x2,x4,x7,x8,x20,x21⟩:=xs1_2_4_7_8_20_21 HX.out;obtain ⟨HR,HRP,HRL,-⟩:=hrs HX.out
  go_enter Tryz.func84,Tryz.ntmps84
  go_wp2_with (first | (refine ldNr p w.heap.size 0 rfl rfl rfl HR.out ?_) | (refine ldPack p.n w.heap.size 7 rfl rfl rfl HRP.out ?_) | (refine ldPlace p.n w.heap.size 25 rfl rfl rfl HRL.out ?_))
  with_reducible refine (validWish_w p.n.ww p.n.hh false _ h1).mono ?_
  rintro e wq ⟨rfl,rfl⟩
  go_wp2_with (first | (refine ldNr p w.heap.size 0 rfl rfl rfl HR.out ?_) | (refine ldPack p.n w.heap.size 7 rfl rfl rfl HRP.out ?_) | (refine ldPlace p.n w.heap.size 25 rfl rfl rfl HRL.out ?_))
  go_ret;exact ⟨rfl,HB.out⟩
 cases h2:rng p.n.ki 0 2
 ·obtain rfl:false=b:=by rw [<- hb];simp only [ndB,h1,h2,Bool.false_and,Bool.true_and]
  clear hb;obtain ⟨x1,x2,x4,x7,x8,x20,x21⟩:=xs1_2_4_7_8_20_21 HX.out;obtain ⟨HR,HRP,HRL,-⟩:=hrs HX.out
  go_enter Tryz.func84,Tryz.ntmps84
  go_wp2_with (first | (refine ldNr p w.heap.size 0 rfl rfl rfl HR.out ?_) | (refine ldPack p.n w.heap.size 7 rfl rfl rfl HRP.out ?_) | (refine ldPlace p.n w.heap.size 25 rfl rfl rfl HRL.out ?_))
  with_reducible refine (validWish_w p.n.ww p.n.hh true _ h1).mono ?_
  rintro e wq ⟨rfl,rfl⟩
  go_wp2_with (first | (refine ldNr p w.heap.size 0 rfl rfl rfl HR.out ?_) | (refine ldPack p.n w.heap.size 7 rfl rfl rfl HRP.out ?_) | (refine ldPlace p.n w.heap.size 25 rfl rfl rfl HRL.out ?_))
  with_reducible refine (within_w _ 0 2 false _ h2).mono ?_
  rintro e wq ⟨rfl,rfl⟩
  go_wp2_with (first | (refine ldNr p w.heap.size 0 rfl rfl rfl HR.out ?_) | (refine ldPack p.n w.heap.size 7 rfl rfl rfl HRP.out ?_) | (refine ldPlace p.n w.heap.size 25 rfl rfl rfl HRL.out ?_))
  go_ret;exact ⟨rfl,HB.out⟩
 cases h3:ownB p.n
 ·obtain rfl:false=b:=by rw [<- hb];simp only [ndB,h1,h2,h3,Bool.false_and,Bool.true_and]
  clear hb;obtain ⟨x1,x2,x4,x7,x8,x20,x21⟩:=xs1_2_4_7_8_20_21 HX.out;obtain ⟨HR,HRP,HRL,-⟩:=hrs HX.out
  go_enter Tryz.func84,Tryz.ntmps84
  go_wp2_with (first | (refine ldNr p w.heap.size 0 rfl rfl rfl HR.out ?_) | (refine ldPack p.n w.heap.size 7 rfl rfl rfl HRP.out ?_) | (refine ldPlace p.n w.heap.size 25 rfl rfl rfl HRL.out ?_))
  with_reducible refine (validWish_w p.n.ww p.n.hh true _ h1).mono ?_
  rintro e wq ⟨rfl,rfl⟩
  go_wp2_with (first | (refine ldNr p w.heap.size 0 rfl rfl rfl HR.out ?_) | (refine ldPack p.n w.heap.size 7 rfl rfl rfl HRP.out ?_) | (refine ldPlace p.n w.heap.size 25 rfl rfl rfl HRL.out ?_))
  with_reducible refine (within_w _ 0 2 true _ h2).mono ?_
  rintro e wq ⟨rfl,rfl⟩
  go_wp2_with (first | (refine ldNr p w.heap.size 0 rfl rfl rfl HR.out ?_) | (refine ldPack p.n w.heap.size 7 rfl rfl rfl HRP.out ?_) | (refine ldPlace p.n w.heap.size 25 rfl rfl rfl HRL.out ?_))
  with_reducible refine (validOwnLines_v p false _ (HD.out.keep HB.out) k1 k2 h3).mono ?_
  rintro e w1 ⟨rfl,hb1⟩;clear x1 x2 x4 x7 x8 x20 x21 HR HRP HRL;replace HX:=hbk hb1 HX;replace HB:=hD (bkeep2 HB.out hb1);clear hb1;obtain ⟨x1,x2,x4,x7,x8,x20,x21⟩:=xs1_2_4_7_8_20_21 HX.out;obtain ⟨HR,HRP,HRL,-⟩:=hrs HX.out
  go_wp2_with (first | (refine ldNr p w.heap.size 0 rfl rfl rfl HR.out ?_) | (refine ldPack p.n w.heap.size 7 rfl rfl rfl HRP.out ?_) | (refine ldPlace p.n w.heap.size 25 rfl rfl rfl HRL.out ?_))
  go_ret;exact ⟨rfl,HB.out⟩
 cases h4:p.n.pk.ok
 ·obtain rfl:false=b:=by rw [<- hb];simp only [ndB,h1,h2,h3,h4,Bool.false_and,Bool.true_and]
  clear hb;obtain ⟨x1,x2,x4,x7,x8,x20,x21⟩:=xs1_2_4_7_8_20_21 HX.out;obtain ⟨HR,HRP,HRL,-⟩:=hrs HX.out
  go_enter Tryz.func84,Tryz.ntmps84
  go_wp2_with (first | (refine ldNr p w.heap.size 0 rfl rfl rfl HR.out ?_) | (refine ldPack p.n w.heap.size 7 rfl rfl rfl HRP.out ?_) | (refine ldPlace p.n w.heap.size 25 rfl rfl rfl HRL.out ?_))
  with_reducible refine (validWish_w p.n.ww p.n.hh true _ h1).mono ?_
  rintro e wq ⟨rfl,rfl⟩
  go_wp2_with (first | (refine ldNr p w.heap.size 0 rfl rfl rfl HR.out ?_) | (refine ldPack p.n w.heap.size 7 rfl rfl rfl HRP.out ?_) | (refine ldPlace p.n w.heap.size 25 rfl rfl rfl HRL.out ?_))
  with_reducible refine (within_w _ 0 2 true _ h2).mono ?_
  rintro e wq ⟨rfl,rfl⟩
  go_wp2_with (first | (refine ldNr p w.heap.size 0 rfl rfl rfl HR.out ?_) | (refine ldPack p.n w.heap.size 7 rfl rfl rfl HRP.out ?_) | (refine ldPlace p.n w.heap.size 25 rfl rfl rfl HRL.out ?_))
  with_reducible refine (validOwnLines_v p true _ (HD.out.keep HB.out) k1 k2 h3).mono ?_
  rintro e w1 ⟨rfl,hb1⟩;clear x1 x2 x4 x7 x8 x20 x21 HR HRP HRL;replace HX:=hbk hb1 HX;replace HB:=hD (bkeep2 HB.out hb1);clear hb1;obtain ⟨x1,x2,x4,x7,x8,x20,x21⟩:=xs1_2_4_7_8_20_21 HX.out;obtain ⟨HR,HRP,HRL,-⟩:=hrs HX.out
  go_wp2_with (first | (refine ldNr p w.heap.size 0 rfl rfl rfl HR.out ?_) | (refine ldPack p.n w.heap.size 7 rfl rfl rfl HRP.out ?_) | (refine ldPlace p.n w.heap.size 25 rfl rfl rfl HRL.out ?_))
  with_reducible refine (vp_v p.n.pk false h4 _).mono ?_
  rintro e w2 ⟨rfl,hb1⟩;clear x1 x2 x4 x7 x8 x20 x21 HR HRP HRL;replace HX:=hbk hb1 HX;replace HB:=hD (bkeep2 HB.out hb1);clear hb1;obtain ⟨x1,x2,x4,x7,x8,x20,x21⟩:=xs1_2_4_7_8_20_21 HX.out;obtain ⟨HR,HRP,HRL,-⟩:=hrs HX.out
  go_wp2_with (first | (refine ldNr p w.heap.size 0 rfl rfl rfl HR.out ?_) | (refine ldPack p.n w.heap.size 7 rfl rfl rfl HRP.out ?_) | (refine ldPlace p.n w.heap.size 25 rfl rfl rfl HRL.out ?_))
  go_ret;exact ⟨rfl,HB.out⟩
 cases h5:decide (p.n.pk.w=0)
 ·obtain rfl:false=b:=by rw [<- hb];simp only [ndB,h1,h2,h3,h4,h5,Bool.false_and,Bool.true_and]
  clear hb;have e5:=eqb_f h5;obtain ⟨x1,x2,x4,x7,x8,x20,x21⟩:=xs1_2_4_7_8_20_21 HX.out;obtain ⟨HR,HRP,HRL,-⟩:=hrs HX.out
  go_enter Tryz.func84,Tryz.ntmps84
  go_wp2_with (first | (refine ldNr p w.heap.size 0 rfl rfl rfl HR.out ?_) | (refine ldPack p.n w.heap.size 7 rfl rfl rfl HRP.out ?_) | (refine ldPlace p.n w.heap.size 25 rfl rfl rfl HRL.out ?_))
  with_reducible refine (validWish_w p.n.ww p.n.hh true _ h1).mono ?_
  rintro e wq ⟨rfl,rfl⟩
  go_wp2_with (first | (refine ldNr p w.heap.size 0 rfl rfl rfl HR.out ?_) | (refine ldPack p.n w.heap.size 7 rfl rfl rfl HRP.out ?_) | (refine ldPlace p.n w.heap.size 25 rfl rfl rfl HRL.out ?_))
  with_reducible refine (within_w _ 0 2 true _ h2).mono ?_
  rintro e wq ⟨rfl,rfl⟩
  go_wp2_with (first | (refine ldNr p w.heap.size 0 rfl rfl rfl HR.out ?_) | (refine ldPack p.n w.heap.size 7 rfl rfl rfl HRP.out ?_) | (refine ldPlace p.n w.heap.size 25 rfl rfl rfl HRL.out ?_))
  with_reducible refine (validOwnLines_v p true _ (HD.out.keep HB.out) k1 k2 h3).mono ?_
  rintro e w1 ⟨rfl,hb1⟩;clear x1 x2 x4 x7 x8 x20 x21 HR HRP HRL;replace HX:=hbk hb1 HX;replace HB:=hD (bkeep2 HB.out hb1);clear hb1;obtain ⟨x1,x2,x4,x7,x8,x20,x21⟩:=xs1_2_4_7_8_20_21 HX.out;obtain ⟨HR,HRP,HRL,-⟩:=hrs HX.out
  go_wp2_with (first | (refine ldNr p w.heap.size 0 rfl rfl rfl HR.out ?_) | (refine ldPack p.n w.heap.size 7 rfl rfl rfl HRP.out ?_) | (refine ldPlace p.n w.heap.size 25 rfl rfl rfl HRL.out ?_))
  with_reducible refine (vp_v p.n.pk true h4 _).mono ?_
  rintro e w2 ⟨rfl,hb1⟩;clear x1 x2 x4 x7 x8 x20 x21 HR HRP HRL;replace HX:=hbk hb1 HX;replace HB:=hD (bkeep2 HB.out hb1);clear hb1;obtain ⟨x1,x2,x4,x7,x8,x20,x21⟩:=xs1_2_4_7_8_20_21 HX.out;obtain ⟨HR,HRP,HRL,-⟩:=hrs HX.out
  go_wp2_with (first | (refine ldNr p w.heap.size 0 rfl rfl rfl HR.out ?_) | (refine ldPack p.n w.heap.size 7 rfl rfl rfl HRP.out ?_) | (refine ldPlace p.n w.heap.size 25 rfl rfl rfl HRL.out ?_))
  go_ret;exact ⟨rfl,HB.out⟩
 have e5:=eqb_t h5
 cases h6:decide (p.n.pk.h=0)
 ·obtain rfl:false=b:=by rw [<- hb];simp only [ndB,h1,h2,h3,h4,h5,h6,Bool.false_and,Bool.true_and]
  clear hb;have e6:=eqb_f h6;obtain ⟨x1,x2,x4,x7,x8,x20,x21⟩:=xs1_2_4_7_8_20_21 HX.out;obtain ⟨HR,HRP,HRL,-⟩:=hrs HX.out
  go_enter Tryz.func84,Tryz.ntmps84
  go_wp2_with (first | (refine ldNr p w.heap.size 0 rfl rfl rfl HR.out ?_) | (refine ldPack p.n w.heap.size 7 rfl rfl rfl HRP.out ?_) | (refine ldPlace p.n w.heap.size 25 rfl rfl rfl HRL.out ?_))
  with_reducible refine (validWish_w p.n.ww p.n.hh true _ h1).mono ?_
  rintro e wq ⟨rfl,rfl⟩
  go_wp2_with (first | (refine ldNr p w.heap.size 0 rfl rfl rfl HR.out ?_) | (refine ldPack p.n w.heap.size 7 rfl rfl rfl HRP.out ?_) | (refine ldPlace p.n w.heap.size 25 rfl rfl rfl HRL.out ?_))
  with_reducible refine (within_w _ 0 2 true _ h2).mono ?_
  rintro e wq ⟨rfl,rfl⟩
  go_wp2_with (first | (refine ldNr p w.heap.size 0 rfl rfl rfl HR.out ?_) | (refine ldPack p.n w.heap.size 7 rfl rfl rfl HRP.out ?_) | (refine ldPlace p.n w.heap.size 25 rfl rfl rfl HRL.out ?_))
  with_reducible refine (validOwnLines_v p true _ (HD.out.keep HB.out) k1 k2 h3).mono ?_
  rintro e w1 ⟨rfl,hb1⟩;clear x1 x2 x4 x7 x8 x20 x21 HR HRP HRL;replace HX:=hbk hb1 HX;replace HB:=hD (bkeep2 HB.out hb1);clear hb1;obtain ⟨x1,x2,x4,x7,x8,x20,x21⟩:=xs1_2_4_7_8_20_21 HX.out;obtain ⟨HR,HRP,HRL,-⟩:=hrs HX.out
  go_wp2_with (first | (refine ldNr p w.heap.size 0 rfl rfl rfl HR.out ?_) | (refine ldPack p.n w.heap.size 7 rfl rfl rfl HRP.out ?_) | (refine ldPlace p.n w.heap.size 25 rfl rfl rfl HRL.out ?_))
  with_reducible refine (vp_v p.n.pk true h4 _).mono ?_
  rintro e w2 ⟨rfl,hb1⟩;clear x1 x2 x4 x7 x8 x20 x21 HR HRP HRL;replace HX:=hbk hb1 HX;replace HB:=hD (bkeep2 HB.out hb1);clear hb1;obtain ⟨x1,x2,x4,x7,x8,x20,x21⟩:=xs1_2_4_7_8_20_21 HX.out;obtain ⟨HR,HRP,HRL,-⟩:=hrs HX.out
  go_wp2_with (first | (refine ldNr p w.heap.size 0 rfl rfl rfl HR.out ?_) | (refine ldPack p.n w.heap.size 7 rfl rfl rfl HRP.out ?_) | (refine ldPlace p.n w.heap.size 25 rfl rfl rfl HRL.out ?_))
  go_ret;exact ⟨rfl,HB.out⟩
 have e6:=eqb_t h6
 cases h7:decide (p.n.ce.cw=0)
 ·obtain rfl:false=b:=by rw [<- hb];simp only [ndB,h1,h2,h3,h4,h5,h6,h7,Bool.false_and,Bool.true_and]
  clear hb;have e7:=eqb_f h7;obtain ⟨x1,x2,x4,x7,x8,x20,x21⟩:=xs1_2_4_7_8_20_21 HX.out;obtain ⟨HR,HRP,HRL,-⟩:=hrs HX.out
  go_enter Tryz.func84,Tryz.ntmps84
  go_wp2_with (first | (refine ldNr p w.heap.size 0 rfl rfl rfl HR.out ?_) | (refine ldPack p.n w.heap.size 7 rfl rfl rfl HRP.out ?_) | (refine ldPlace p.n w.heap.size 25 rfl rfl rfl HRL.out ?_))
  with_reducible refine (validWish_w p.n.ww p.n.hh true _ h1).mono ?_
  rintro e wq ⟨rfl,rfl⟩
  go_wp2_with (first | (refine ldNr p w.heap.size 0 rfl rfl rfl HR.out ?_) | (refine ldPack p.n w.heap.size 7 rfl rfl rfl HRP.out ?_) | (refine ldPlace p.n w.heap.size 25 rfl rfl rfl HRL.out ?_))
  with_reducible refine (within_w _ 0 2 true _ h2).mono ?_
  rintro e wq ⟨rfl,rfl⟩
  go_wp2_with (first | (refine ldNr p w.heap.size 0 rfl rfl rfl HR.out ?_) | (refine ldPack p.n w.heap.size 7 rfl rfl rfl HRP.out ?_) | (refine ldPlace p.n w.heap.size 25 rfl rfl rfl HRL.out ?_))
  with_reducible refine (validOwnLines_v p true _ (HD.out.keep HB.out) k1 k2 h3).mono ?_
  rintro e w1 ⟨rfl,hb1⟩;clear x1 x2 x4 x7 x8 x20 x21 HR HRP HRL;replace HX:=hbk hb1 HX;replace HB:=hD (bkeep2 HB.out hb1);clear hb1;obtain ⟨x1,x2,x4,x7,x8,x20,x21⟩:=xs1_2_4_7_8_20_21 HX.out;obtain ⟨HR,HRP,HRL,-⟩:=hrs HX.out
  go_wp2_with (first | (refine ldNr p w.heap.size 0 rfl rfl rfl HR.out ?_) | (refine ldPack p.n w.heap.size 7 rfl rfl rfl HRP.out ?_) | (refine ldPlace p.n w.heap.size 25 rfl rfl rfl HRL.out ?_))
  with_reducible refine (vp_v p.n.pk true h4 _).mono ?_
  rintro e w2 ⟨rfl,hb1⟩;clear x1 x2 x4 x7 x8 x20 x21 HR HRP HRL;replace HX:=hbk hb1 HX;replace HB:=hD (bkeep2 HB.out hb1);clear hb1;obtain ⟨x1,x2,x4,x7,x8,x20,x21⟩:=xs1_2_4_7_8_20_21 HX.out;obtain ⟨HR,HRP,HRL,-⟩:=hrs HX.out
  go_wp2_with (first | (refine ldNr p w.heap.size 0 rfl rfl rfl HR.out ?_) | (refine ldPack p.n w.heap.size 7 rfl rfl rfl HRP.out ?_) | (refine ldPlace p.n w.heap.size 25 rfl rfl rfl HRL.out ?_))
  go_ret;exact ⟨rfl,HB.out⟩
 have e7:=eqb_t h7
 cases h8:decide (p.n.ce.ch=0)
 ·obtain rfl:false=b:=by rw [<- hb];simp only [ndB,h1,h2,h3,h4,h5,h6,h7,h8,Bool.false_and,Bool.true_and]
  clear hb;have e8:=eqb_f h8;obtain ⟨x1,x2,x4,x7,x8,x20,x21⟩:=xs1_2_4_7_8_20_21 HX.out;obtain ⟨HR,HRP,HRL,-⟩:=hrs HX.out
  go_enter Tryz.func84,Tryz.ntmps84
  go_wp2_with (first | (refine ldNr p w.heap.size 0 rfl rfl rfl HR.out ?_) | (refine ldPack p.n w.heap.size 7 rfl rfl rfl HRP.out ?_) | (refine ldPlace p.n w.heap.size 25 rfl rfl rfl HRL.out ?_))
  with_reducible refine (validWish_w p.n.ww p.n.hh true _ h1).mono ?_
  rintro e wq ⟨rfl,rfl⟩
  go_wp2_with (first | (refine ldNr p w.heap.size 0 rfl rfl rfl HR.out ?_) | (refine ldPack p.n w.heap.size 7 rfl rfl rfl HRP.out ?_) | (refine ldPlace p.n w.heap.size 25 rfl rfl rfl HRL.out ?_))
  with_reducible refine (within_w _ 0 2 true _ h2).mono ?_
  rintro e wq ⟨rfl,rfl⟩
  go_wp2_with (first | (refine ldNr p w.heap.size 0 rfl rfl rfl HR.out ?_) | (refine ldPack p.n w.heap.size 7 rfl rfl rfl HRP.out ?_) | (refine ldPlace p.n w.heap.size 25 rfl rfl rfl HRL.out ?_))
  with_reducible refine (validOwnLines_v p true _ (HD.out.keep HB.out) k1 k2 h3).mono ?_
  rintro e w1 ⟨rfl,hb1⟩;clear x1 x2 x4 x7 x8 x20 x21 HR HRP HRL;replace HX:=hbk hb1 HX;replace HB:=hD (bkeep2 HB.out hb1);clear hb1;obtain ⟨x1,x2,x4,x7,x8,x20,x21⟩:=xs1_2_4_7_8_20_21 HX.out;obtain ⟨HR,HRP,HRL,-⟩:=hrs HX.out
  go_wp2_with (first | (refine ldNr p w.heap.size 0 rfl rfl rfl HR.out ?_) | (refine ldPack p.n w.heap.size 7 rfl rfl rfl HRP.out ?_) | (refine ldPlace p.n w.heap.size 25 rfl rfl rfl HRL.out ?_))
  with_reducible refine (vp_v p.n.pk true h4 _).mono ?_
  rintro e w2 ⟨rfl,hb1⟩;clear x1 x2 x4 x7 x8 x20 x21 HR HRP HRL;replace HX:=hbk hb1 HX;replace HB:=hD (bkeep2 HB.out hb1);clear hb1;obtain ⟨x1,x2,x4,x7,x8,x20,x21⟩:=xs1_2_4_7_8_20_21 HX.out;obtain ⟨HR,HRP,HRL,-⟩:=hrs HX.out
  go_wp2_with (first | (refine ldNr p w.heap.size 0 rfl rfl rfl HR.out ?_) | (refine ldPack p.n w.heap.size 7 rfl rfl rfl HRP.out ?_) | (refine ldPlace p.n w.heap.size 25 rfl rfl rfl HRL.out ?_))
  go_ret;exact ⟨rfl,HB.out⟩
 have e8:=eqb_t h8
 have h9:plB p.n.pl=b:=by rw [<- hb];simp only [ndB,h1,h2,h3,h4,h5,h6,h7,h8,Bool.true_and]
 clear hb
 cases b
 all_goals
  obtain ⟨x1,x2,x4,x7,x8,x20,x21⟩:=xs1_2_4_7_8_20_21 HX.out;obtain ⟨HR,HRP,HRL,-⟩:=hrs HX.out
  go_enter Tryz.func84,Tryz.ntmps84
  go_wp2_with (first | (refine ldNr p w.heap.size 0 rfl rfl rfl HR.out ?_) | (refine ldPack p.n w.heap.size 7 rfl rfl rfl HRP.out ?_) | (refine ldPlace p.n w.heap.size 25 rfl rfl rfl HRL.out ?_))
  with_reducible refine (validWish_w p.n.ww p.n.hh true _ h1).mono ?_
  rintro e wq ⟨rfl,rfl⟩
  go_wp2_with (first | (refine ldNr p w.heap.size 0 rfl rfl rfl HR.out ?_) | (refine ldPack p.n w.heap.size 7 rfl rfl rfl HRP.out ?_) | (refine ldPlace p.n w.heap.size 25 rfl rfl rfl HRL.out ?_))
  with_reducible refine (within_w _ 0 2 true _ h2).mono ?_
  rintro e wq ⟨rfl,rfl⟩
  go_wp2_with (first | (refine ldNr p w.heap.size 0 rfl rfl rfl HR.out ?_) | (refine ldPack p.n w.heap.size 7 rfl rfl rfl HRP.out ?_) | (refine ldPlace p.n w.heap.size 25 rfl rfl rfl HRL.out ?_))
  with_reducible refine (validOwnLines_v p true _ (HD.out.keep HB.out) k1 k2 h3).mono ?_
  rintro e w1 ⟨rfl,hb1⟩;clear x1 x2 x4 x7 x8 x20 x21 HR HRP HRL;replace HX:=hbk hb1 HX;replace HB:=hD (bkeep2 HB.out hb1);clear hb1;obtain ⟨x1,x2,x4,x7,x8,x20,x21⟩:=xs1_2_4_7_8_20_21 HX.out;obtain ⟨HR,HRP,HRL,-⟩:=hrs HX.out
  go_wp2_with (first | (refine ldNr p w.heap.size 0 rfl rfl rfl HR.out ?_) | (refine ldPack p.n w.heap.size 7 rfl rfl rfl HRP.out ?_) | (refine ldPlace p.n w.heap.size 25 rfl rfl rfl HRL.out ?_))
  with_reducible refine (vp_v p.n.pk true h4 _).mono ?_
  rintro e w2 ⟨rfl,hb1⟩;clear x1 x2 x4 x7 x8 x20 x21 HR HRP HRL;replace HX:=hbk hb1 HX;replace HB:=hD (bkeep2 HB.out hb1);clear hb1;obtain ⟨x1,x2,x4,x7,x8,x20,x21⟩:=xs1_2_4_7_8_20_21 HX.out;obtain ⟨HR,HRP,HRL,-⟩:=hrs HX.out
  go_wp2_with (first | (refine ldNr p w.heap.size 0 rfl rfl rfl HR.out ?_) | (refine ldPack p.n w.heap.size 7 rfl rfl rfl HRP.out ?_) | (refine ldPlace p.n w.heap.size 25 rfl rfl rfl HRL.out ?_))
  with_reducible refine (validPlace_t p.n.pl _ _ h9).mono ?_
  rintro e w3 ⟨rfl,hb1⟩;clear x1 x2 x4 x7 x8 x20 x21 HR HRP HRL;replace HX:=hbk hb1 HX;replace HB:=hD (bkeep2 HB.out hb1);clear hb1;obtain ⟨x1,x2,x4,x7,x8,x20,x21⟩:=xs1_2_4_7_8_20_21 HX.out;obtain ⟨HR,HRP,HRL,-⟩:=hrs HX.out
  go_wp2_with (first | (refine ldNr p w.heap.size 0 rfl rfl rfl HR.out ?_) | (refine ldPack p.n w.heap.size 7 rfl rfl rfl HRP.out ?_) | (refine ldPlace p.n w.heap.size 25 rfl rfl rfl HRL.out ?_))
  go_ret;exact ⟨rfl,HB.out⟩
end
section
def upB (i:Nat) (n:Nd):Bool:=if i=0 then decide (n.pa=-1) else rng n.pa 0 ((i:Int) - 1)
def clB (L:List Nd) (i:Nat) (n:Nd):Bool:=if i=0 then true else match L[n.pa.toNat]? with
 | some u=>decide (u.ki ≠ 1) || cellB u.cs.length u.rs.length n.ce
 | none=>true
def nokB (L:List Nd) (i:Nat):Bool:=match L[i]? with
 | some n=>ndB n && (upB i n && clB L i n)
 | none=>true
def treeB (L:List Nd):Bool:=rng L.length 1 10 && (List.range L.length).all (nokB L)
theorem nokB_at {L:List Nd} {i:Nat} {n:Nd} (h:L[i]?=some n):nokB L i=(ndB n && (upB i n && clB L i n)):=by unfold nokB;rw [h]
theorem range_all_succ {f:Nat→Bool} {k:Nat}:(List.range (k+1)).all f=((List.range k).all f && f k):=by
 rw [List.range_succ,List.all_append];simp
theorem own_lines {n:Nd} (h:ndB n=true) (hk:n.ki=1):linesB n.cs=true∧linesB n.rs=true:=by
 simp only [ndB,Bool.and_eq_true] at h
 have:=h.2.2.1
 unfold ownB at this;rw [if_pos hk] at this
 simpa [Bool.and_eq_true] using this
theorem hasParentAhead_v (A:Option Addr) (c:Nat) (R:List Nr) (i:Nat) (p:Nr) (b:Bool) (w:World) (h:NrV w A R) (hp:R[i]?=some p) (hL:R.length≤10) (hb:upB i p.n=b) :
  Calls Tryz.prog 85 #[.agg #[.slice A R.length c],.int .i64 i] w fun e w'=>e=.returned (.bool b)∧Below w.heap.size w w':=by
 have hi:i<R.length:=(List.getElem?_eq_some_iff.1 hp).1;obtain ⟨bl,off,rfl,hbl,hc⟩:=h.cells (by omega);have x0:w.cell? ⟨bl,off+i*34,none⟩=some (.int .i64 p.n.pa):=hc i p hp 0 _ rfl
 have hii:(i:Int)<(R.length:Int):=by omega
 have hne:¬ bl=w.heap.size:=by omega
 unfold upB at hb;clear hc h hp
 by_cases h0:i=0
 ·subst h0;rw [if_pos rfl] at hb;simp only [Nat.zero_mul,Nat.add_zero] at x0
  have hlr:(0:Int)<(R.length:Int):=by omega
  clear hii
  have e1:(p.n.pa == -1)=b:=by rw [<- hb];rfl
  have HE:=hD e1;clear hb e1
  go_enter Tryz.func85,Tryz.ntmps85
  go_wp2;go_ret;exact ⟨ret_bool HE.out,balloc (Below.refl _ _)⟩
 ·rw [if_neg h0] at hb
  have e0:((i:Int) == 0)=false:=by rw [beq_eq_false_iff_ne];omega
  have e0':decide ((i:Int)=0)=false:=decide_eq_false (by omega)
  go_enter Tryz.func85,Tryz.ntmps85
  go_wp2_with fail
  with_reducible refine (within_w p.n.pa 0 ((i:Int) - 1) b _ hb).mono ?_
  rintro e w' ⟨rfl,rfl⟩;go_wp2;go_ret;exact ⟨rfl,balloc (Below.refl _ _)⟩
theorem hasValidCell_0 (A:Option Addr) (c n:Nat) (w:World) :
  Calls Tryz.prog 86 #[.agg #[.slice A n c],.int .i64 0] w fun e w'=>e=.returned (.bool true)∧Below w.heap.size w w':=by
 go_enter Tryz.func86,Tryz.ntmps86
 go_wp2;go_ret;exact ⟨rfl,balloc (Below.refl _ _)⟩
theorem hasValidCell_s (A:Option Addr) (c:Nat) (R:List Nr) (i m:Nat) (p u:Nr) (b:Bool) (w:World) (h:NrV w A R) (hp:R[i]?=some p) (hL:R.length≤10) (h0:i ≠ 0) (hpa:p.n.pa=m) (hm:m<i) (hu:R[m]?=some u)
  (hl:u.n.ki=1→(1≤u.n.cs.length∧u.n.cs.length≤5)∧(1≤u.n.rs.length∧u.n.rs.length≤5)) (hb:(decide (u.n.ki ≠ 1) || cellB u.n.cs.length u.n.rs.length p.n.ce)=b) :
  Calls Tryz.prog 86 #[.agg #[.slice A R.length c],.int .i64 i] w fun e w'=>e=.returned (.bool b)∧Below w.heap.size w w':=by
 have hi:i<R.length:=(List.getElem?_eq_some_iff.1 hp).1;obtain ⟨bl,off,rfl,hbl,hc⟩:=h.cells (by omega);have hB0:Below w.heap.size w (w.alloc (.cells #[.slice (some ⟨bl,off,none⟩) R.length c] 30 (0,0))):=balloc (Below.refl _ _);have HX:=hD (newS w (.cells #[.slice (some ⟨bl,off,none⟩) R.length c] 30 (0,0)));have HP:=hD (rangeB (hc i p hp) (hB0.block bl hbl))
 have HU:=hD (rangeB (hc m u hu) (hB0.block bl hbl));have HB:=hD hB0
 have hii:(i:Int)<(R.length:Int):=by omega
 have hmm:(m:Int)<(R.length:Int):=by omega
 have e0:((i:Int) == 0)=false:=by rw [beq_eq_false_iff_ne];omega
 have e0':decide ((i:Int)=0)=false:=decide_eq_false (by omega);have HPA:=hD hpa;have HBB:=hD hb;have HLL:=hD hl;clear hc h hp hu hpa hb hl hB0
 go_enter Tryz.func86,Tryz.ntmps86
 go_upto_region 3 with (fail)
 refine wp_genGG (fun W=>W.heap[w.heap.size]?=some (.cells #[.slice (some ⟨bl,off,none⟩) R.length c] 30 (0,0))∧W.rangeAt bl (off+i*34) (valsNr p)∧W.rangeAt bl (off+m*34) (valsNr u)∧Below w.heap.size w W∧bl<W.heap.size) ⟨HX.out,HP.out,HU.out,HB.out,by simp;omega⟩ (fun W h0=>?_);clear HX HP HU HB;obtain ⟨hx,hp,hu,hb,hbw⟩:=h0;have x0:=cellS hx 0
 have q0:W.cell? ⟨bl,off+i*34,none⟩=some (.int .i64 (m:Int)):=by rw [<- HPA.out];exact hp 0 _ rfl
 have lx:=ltS hx;have HX:=hD hx;have HP:=hD hp;have HU:=hD hu;have HB:=hD hb;clear hx hp hu hb;refine wp_region_grow 10 2 (·<11) (by kernel_rfl) (by kernel_rfl) rfl ?_
 iterate 10 (refine wpG_step (fun K hK=>?_);first | (refine grow_ldN _ u bl (off+m*34) rfl rfl rfl hbw (rangeB HU.out rfl) ?_;refine hK _ ?_;clear hK K) | (apply Exists.intro;refine ⟨.inl ⟨rfl,fun w' hw'=>?_⟩,?_⟩;(focus ((obtain ⟨hc,hf⟩:=bcell hw'.out);(have hcS:=bcellS hw'.out);go_simp <;> rfl));(go_simp;refine hK _ ?_;clear hK K)))
 refine wpG_nil ?_;refine wpK_one (i:=10) (by kernel_rfl) rfl rfl (by kernel_rfl) (fun w5 h5=>?_);go_simp;refine ⟨Gr.alloc _ _,?_⟩;refine wpK_tail (by kernel_rfl) (fun w9 h9=>?_);refine wpAny_one (i:=11) (by kernel_rfl) rfl rfl ?_;have hnew:=(h9.out.block w5.heap.size (by simp)).trans (newS w5 _)
 refine wp_store_mid 84 (.tmp 5) (.tmp 17) rfl w5.heap.size 0 (valsNr u).toArray rfl rfl (thereB hnew (by show (0+34:Nat)≤34;omega)) (by kernel_rfl) (valsNr_all u) ?_;refine wpAny_end (by kernel_rfl) ?_
 have hfull:(w9.setCells w5.heap.size 0 (valsNr u)).heap[w5.heap.size]?=some (.cells (valsNr u).toArray 84 (0,0)):=by
  rw [heap_setCells (valsNr u) 0 w9 _ hnew,wrAt_all (by rfl)]
 have hlow:W.heap.size≤w5.heap.size:=h5.out.size
 have hbel:Below W.heap.size W (w9.setCells w5.heap.size 0 (valsNr u)) :=
  below_setCells hlow _ _ _ (bgrow (balloc (bgrow (Below.refl _ _).drew h5)) h9)
 refine NoPan.gen (fun wf=>W.heap.size≤w5.heap.size∧wf.heap[w5.heap.size]?=some (.cells (valsNr u).toArray 84 (0,0))∧Below W.heap.size W wf) ⟨hlow,hfull,hbel⟩ (fun wf hwf=>?_);clear hnew hfull hlow hbel h9
 obtain ⟨b5,hb5⟩:∃ b5,w5.heap.size=b5:=⟨_,rfl⟩
 simp only [hb5] at hwf ⊢;clear hb5 h5 w5 w9;obtain ⟨hlow,hh5,hB⟩:=hwf;replace HX:=hD ((hB.block _ lx).trans HX.out);replace HP:=hD (rangeB HP.out (hB.block _ hbw));replace HB:=hD (bkeep2 HB.out hB);have hbw2:bl<wf.heap.size:=Nat.lt_of_lt_of_le hbw hB.size;have H5:=hD hh5;clear x0 q0 HU hh5 hB hbw;have x0:=cellS HX.out 0;have lx2:=ltS HX.out
 have k4:wf.cell? ⟨b5,4,none⟩=some (.int .i64 u.n.ki):=cellS H5.out 4;have k5:wf.cell? ⟨b5,5,none⟩=some (.slice u.ca u.n.cs.length u.cc):=cellS H5.out 5;have k6:wf.cell? ⟨b5,6,none⟩=some (.slice u.ra u.n.rs.length u.rc):=cellS H5.out 6;have l5:=ltS H5.out
 by_cases hk:u.n.ki=1
 ·have hb':cellB u.n.cs.length u.n.rs.length p.n.ce=b:=by rw [<- HBB.out];simp [hk]
  obtain ⟨⟨l1,l2⟩,l3,l4⟩:=HLL.out hk;rw [hk] at k4;have hce:=node_ce HP.out;have HCE:=hD hce;have HBR:=hD hb';clear hk hce hb' HBB HLL
  go_upto_region 4 with (fail)
  refine wp_region_grow 18 1 (·<18) (by kernel_rfl) (by kernel_rfl) rfl ?_
  iterate 18 (refine wpG_step (fun K hK=>?_);first | (refine grow_loadM 80 _ [.int .i64 p.n.ce.co,.int .i64 p.n.ce.ro,.int .i64 p.n.ce.mc,.int .i64 p.n.ce.mr,.int .i64 p.n.ce.cw,.int .i64 p.n.ce.ch,.int .i64 p.n.ce.sk,.int .i64 p.n.ce.px,.int .i64 p.n.ce.py] bl (off+i*34+16) rfl rfl rfl Tryz.underlying80 rfl (by kernel_rfl) (fun w' hw'=>rangeB HCE.out (hw'.out.block bl hbw2)) ?_;refine hK _ ?_;clear hK K) | (refine grow_skip rfl ?_;go_simp;refine hK _ ?_;clear hK K) | (apply Exists.intro;refine ⟨.inl ⟨rfl,fun w' hw'=>?_⟩,?_⟩;(focus ((obtain ⟨hc,hf⟩:=bcell hw'.out);(have hcS:=bcellS hw'.out);go_simp <;> first | rfl | (go_at_call 124;exact validCell_v p.n.ce u.n.cs.length u.n.rs.length b _ (by omega) (by omega) (by omega) (by omega) HBR.out)));(go_simp;refine hK _ ?_;clear hK K)))
  refine wpG_nil ?_;refine wpK_tail (by kernel_rfl) (fun w9 hg9=>?_);have hb9:=bdrewn hg9.out;obtain ⟨hc9,hf9⟩:=bcell hb9;refine wpAny_one (i:=18) (by kernel_rfl) rfl rfl ?_;go_simp;refine wpAny_end (by kernel_rfl) ?_;refine NoPan.thn ?_;clear hc9 hf9;clear hg9;replace HB:=hD (bkeep2 HB.out hb9);clear hb9;go_wp2;go_ret;exact ⟨rfl,HB.out⟩
 ·have hb':true=b:=by rw [<- HBB.out];simp [hk]
  subst hb'
  have f1:(u.n.ki == 1)=false:=by rw [beq_eq_false_iff_ne];exact hk
  have f2:(u.n.ki != 1)=true:=by simp [bne,f1]
  have f3:decide (u.n.ki=1)=false:=decide_eq_false hk;have HK:=hD hk;clear hk HBB HLL
  go_upto_region 4 with (fail)
  refine wp_region_grow 18 1 (·<18) (by kernel_rfl) (by kernel_rfl) rfl ?_
  iterate 18 (refine wpG_step (fun K hK=>?_);first | (refine grow_skip rfl ?_;go_simp;refine hK _ ?_;clear hK K) | (apply Exists.intro;refine ⟨.inl ⟨rfl,fun w' hw'=>?_⟩,?_⟩;(focus ((obtain ⟨hc,hf⟩:=bcell hw'.out);(have hcS:=bcellS hw'.out);go_simp <;> first | rfl | (fail)));(go_simp;refine hK _ ?_;clear hK K)))
  refine wpG_nil ?_;refine wpK_tail (by kernel_rfl) (fun w8 hg8=>?_);have hb8:=bdrewn hg8.out;obtain ⟨hc8,hf8⟩:=bcell hb8;refine wpAny_one (i:=18) (by kernel_rfl) rfl rfl ?_;go_simp;refine wpAny_end (by kernel_rfl) ?_;refine NoPan.thn ?_;clear hc8 hf8;clear hg8;replace HB:=hD (bkeep2 HB.out hb8);clear hb8;go_wp2;go_ret;exact ⟨rfl,HB.out⟩
end
section
attribute [local go_sem] Oper.semAt_some
def IsUp (L:List Nd):Int→List Int→Prop
 | p,[]=>p=-1
 | p,x :: xs=>x=p∧0≤p∧∃ n:Nd,L[p.toNat]?=some n∧n.pa<p∧-1≤n.pa∧IsUp L n.pa xs
theorem IsUp.cons {L:List Nd} {p:Int} {xs:List Int} {n:Nd} (h0:0≤p) (hn:L[p.toNat]?=some n) (h1:n.pa<p) (h2:-1≤n.pa) (h:IsUp L n.pa xs):IsUp L p (p :: xs):=by
 unfold IsUp;exact ⟨rfl,h0,n,hn,h1,h2,h⟩
theorem IsUp.nil {L:List Nd}:IsUp L (-1) []:=by unfold IsUp;rfl
theorem tree_nok {L:List Nd} (h:treeB L=true) {k:Nat} {n:Nd} (hn:L[k]?=some n):ndB n=true∧upB k n=true∧clB L k n=true:=by
 unfold treeB at h;rw [Bool.and_eq_true] at h;have hk:k<L.length:=(List.getElem?_eq_some_iff.1 hn).1
 have:=List.all_eq_true.1 h.2 k (List.mem_range.2 hk)
 rw [nokB_at hn,Bool.and_eq_true,Bool.and_eq_true] at this;exact this
theorem tree_len {L:List Nd} (h:treeB L=true):1≤L.length∧L.length≤10:=by
 unfold treeB at h;rw [Bool.and_eq_true,rng_iff] at h;omega
def KU (Bi Bt b:Nat) (X Y:World):Prop:=Y.heap[Bi]?=X.heap[Bi]?∧Y.heap[Bt]?=X.heap[Bt]?∧Y.heap[b]?=X.heap[b]?
theorem KU.trans {Bi Bt b:Nat} {A B C:World} (h:KU Bi Bt b A B) (k:KU Bi Bt b B C):KU Bi Bt b A C:=⟨k.1.trans h.1,k.2.1.trans h.2.1,k.2.2.trans h.2.2⟩
theorem KU.of {Bi Bt b n0:Nat} {A B:World} (h:Below n0 A B) (h1:Bi<n0) (h2:Bt<n0) (h3:b<n0):KU Bi Bt b A B:=⟨h.block _ h1,h.block _ h2,h.block _ h3⟩
structure UpAt (W:World) (Bi Bt b off len c:Nat) (i:Int) (R:List Nr):Prop where
 hi:W.cell? ⟨Bi,0,none⟩=some (.int .i64 i)
 ht:W.cell? ⟨Bt,0,none⟩=some (.slice (some ⟨b,off,none⟩) len c)
 hn:∀ (k:Nat) (p:Nr),R[k]?=some p→W.rangeAt b (off+k*34) (valsNr p)
theorem UpAt.keep {W W':World} {Bi Bt b off len c:Nat} {i:Int} {R:List Nr} (h:UpAt W Bi Bt b off len c i R) (hk:KU Bi Bt b W W'):UpAt W' Bi Bt b off len c i R :=
 ⟨(World.cell?_of_block (a:=⟨Bi,0,none⟩) hk.1).trans h.hi,(World.cell?_of_block (a:=⟨Bt,0,none⟩) hk.2.1).trans h.ht,fun k p hp=>rangeB (h.hn k p hp) hk.2.2⟩
end
section
theorem new_full {w:World} {o:Obj} {cs:Array Value} {T:TypeId} (p:Nr) (ho:o=.cells cs T (0,0)) (hs:cs.size=34):((w.alloc o).setCells w.heap.size 0 (valsNr p)).heap[w.heap.size]?=some (.cells (valsNr p).toArray T (0,0)):=by
 subst ho;rw [heap_setCells (valsNr p) 0 _ _ (newS w _),wrAt_all (by rw [hs];rfl)]
theorem nok_kids {R:List Nr} {k:Nat} {p:Nr} (hall:(List.range k).all (nokB (R.map Nr.n))=true) (hp:R[k]?=some p) (hup:upB k p.n=true) (h0:k ≠ 0) :
  ∃ (m:Nat) (u:Nr),p.n.pa=m∧m<k∧R[m]?=some u∧(u.n.ki=1→(1≤u.n.cs.length∧u.n.cs.length≤5)∧(1≤u.n.rs.length∧u.n.rs.length≤5))∧clB (R.map Nr.n) k p.n=(decide (u.n.ki ≠ 1) || cellB u.n.cs.length u.n.rs.length p.n.ce):=by
 unfold upB at hup;rw [if_neg h0,rng_iff] at hup;obtain ⟨m,hm⟩:=Int.eq_ofNat_of_zero_le hup.1
 have hmk:m<k:=by omega
 have hkl:=(List.getElem?_eq_some_iff.1 hp).1
 have hml:m<R.length:=by omega
 have hu:R[m]?=some R[m]:=List.getElem?_eq_getElem hml;refine ⟨m,R[m],hm,hmk,hu,fun hk=>?_,?_⟩
 ·have h1:=List.all_eq_true.1 hall m (List.mem_range.2 hmk);rw [nokB_at (n:=(R[m]).n) (by rw [List.getElem?_map,hu];rfl)] at h1;simp only [Bool.and_eq_true] at h1;obtain ⟨l1,l2⟩:=own_lines h1.1 hk;exact ⟨linesB_len' l1,linesB_len' l2⟩
 ·unfold clB;rw [if_neg h0,hm];simp only [Int.toNat_natCast];rw [List.getElem?_map,hu]
  rfl
theorem ValidTree_v (A:Option Addr) (c:Nat) (R:List Nr) (b:Bool) (w:World) (h:NrV w A R) (hr:RdR w R) (hL:R.length≤1048576) (hm:∀ p ∈ R,p.n.cs.length≤1048576∧p.n.rs.length≤1048576) (hb:treeB (R.map Nr.n)=b) :
  Calls Tryz.prog 46 #[.agg #[.slice A R.length c]] w fun e w'=>e=.returned (.bool b)∧Below w.heap.size w w':=by
 have hB0:Below w.heap.size w (w.alloc (.cells #[.slice A R.length c] 30 (0,0))):=balloc (Below.refl _ _);have HX:=hD (newS w (.cells #[.slice A R.length c] 30 (0,0)));have HB:=hD hB0;have HV:=hD (h.keep hB0);have HR:=hD (hr.keep hB0);have HM:=hD hm;have x0:=cellS HX.out 0;have lx:=ltS HX.out;clear hB0 h hr hm
 cases hl:rng R.length 1 10
 ·obtain rfl:false=b:=by rw [<- hb];unfold treeB;rw [List.length_map,hl];rfl
  go_enter Tryz.func46,Tryz.ntmps46
  go_wp2_with fail
  with_reducible refine (within_w _ 1 10 false _ hl).mono ?_
  rintro e w' ⟨rfl,rfl⟩;go_wp2;go_ret;exact ⟨rfl,HB.out⟩
 ·have hl2:1≤R.length∧R.length≤10:=by rw [rng_iff] at hl;omega
  have hb2:(List.range R.length).all (nokB (R.map Nr.n))=b:=by rw [<- hb];unfold treeB;rw [List.length_map,hl];rfl
  have HBB:=hD hb2;clear hb hb2;obtain ⟨hl3,hl4⟩:=hl2
  go_enter Tryz.func46,Tryz.ntmps46
  go_wp2_with fail
  with_reducible refine (within_w _ 1 10 true _ hl).mono ?_
  rintro e w' ⟨rfl,rfl⟩
  go_wp2_with fail
  go_loopw [13] (fun i wr=>∃ k:Nat,k≤R.length∧i=.int .i64 k∧(List.range k).all (nokB (R.map Nr.n))=true∧wr.heap[w.heap.size]?=some (.cells #[.slice A R.length c] 30 (0,0))∧NrV wr A R∧RdR wr R∧Below w.heap.size w wr) (fun i _=>R.length - (intOf i).toNat)
  case atStart=>exact ⟨0,by omega,rfl,rfl,HX.out,HV.out,HR.out,HB.out⟩
  case round =>
   obtain ⟨k,hk,rfl,hall,hx,hv,hr,hB⟩:=hrel;clear HX HV HR HB x0 lx
   by_cases hlt:k<R.length
   ·have hd:decide ((k:Int)<(R.length:Int))=true:=by simpa using hlt
    have hget:R[k]?=some R[k]:=List.getElem?_eq_getElem hlt;obtain ⟨bl,off,rfl,hbl,hp⟩:=hv.cells (by omega);have hLR:=hp k _ hget;have hrd:=hr _ (List.mem_of_getElem? hget);have hmm:=HM.out _ (List.mem_of_getElem? hget);generalize R[k]=p at *;obtain ⟨m1,m2⟩:=hmm;have hnb:nokB (R.map Nr.n) k=(ndB p.n && (upB k p.n && clB (R.map Nr.n) k p.n)):=nokB_at (by rw [List.getElem?_map,hget];rfl)
    have HNB:=hD hnb;have HLR:=hD hLR;have HG:=hD hget;have HALL:=hD hall;have HX:=hD hx;have HV:=hD hv;have HR:=hD hr;have HD:=hD hrd;have HB:=hD hB;have lx:=ltS hx;clear hget hp hLR hrd hall hx hv hr hB hnb
    go_upto_region 6 with (first | (refine ldN _ p bl (off+k*34) rfl rfl rfl HLR.out ?_) | (refine stN (.tmp 4) (.tmp 17) p wr.heap.size 0 rfl rfl rfl rfl (newS _ _) (by show (0+34:Nat)≤34;omega) ?_))
    refine wp_genGG (fun W=>W.heap[wr.heap.size]?=some (.cells (valsNr p).toArray 84 (0,0))∧Below wr.heap.size wr W) ⟨new_full p rfl rfl,below_setCells (Nat.le_refl _) _ _ _ (balloc (Below.refl _ _))⟩ (fun W h0=>?_);obtain ⟨hn,hb⟩:=h0;replace HX:=hD ((hb.block _ lx).trans HX.out);replace HV:=hD (HV.out.keep hb);replace HR:=hD (HR.out.keep hb);replace HD:=hD (HD.out.keep hb)
    replace HB:=hD (bkeep2 HB.out hb);have HN:=hD hn;clear hn hb lx HLR
    cases h1:ndB p.n
    ·go_wp2_with (refine ldN _ p wr.heap.size 0 rfl rfl rfl (nodeAt HN.out) ?_)
     with_reducible refine (validNode_v p false _ HD.out m1 m2 h1).mono ?_
     rintro e w1 ⟨rfl,hb⟩;replace HB:=hD (bkeep2 HB.out hb);clear hb;go_wp2;go_ret;exact ⟨ret_bool (by rw [<- HBB.out];exact (all_falseG (k:=k) (p:=k) (by rw [List.getElem?_range (by omega)]) (by rw [HNB.out,h1];rfl)).symm),HB.out⟩
    ·have hx0:=cellS HX.out 0
     go_wp2_with (refine ldN _ p wr.heap.size 0 rfl rfl rfl (nodeAt HN.out) ?_)
     with_reducible refine (validNode_v p true _ HD.out m1 m2 h1).mono ?_
     rintro e w1 ⟨rfl,hb⟩;clear hx0;replace HX:=hbk hb HX;replace HV:=hD (HV.out.keep hb);replace HR:=hD (HR.out.keep hb);replace HB:=hD (bkeep2 HB.out hb);clear hb;have hx0:=cellS HX.out 0
     cases h2:upB k p.n
     ·go_wp2_with fail
      with_reducible refine (hasParentAhead_v _ c R k p false _ HV.out HG.out hl4 h2).mono ?_
      rintro e w2 ⟨rfl,hb⟩;clear hx0;replace HB:=hD (bkeep2 HB.out hb);clear hb;go_wp2;go_ret;exact ⟨ret_bool (by rw [<- HBB.out];exact (all_falseG (k:=k) (p:=k) (by rw [List.getElem?_range (by omega)]) (by rw [HNB.out,h1,h2];rfl)).symm),HB.out⟩
     ·go_wp2_with fail
      with_reducible refine (hasParentAhead_v _ c R k p true _ HV.out HG.out hl4 h2).mono ?_
      rintro e w2 ⟨rfl,hb⟩;clear hx0;replace HX:=hbk hb HX;replace HV:=hD (HV.out.keep hb);replace HR:=hD (HR.out.keep hb);replace HB:=hD (bkeep2 HB.out hb);clear hb;have hx0:=cellS HX.out 0
      have hcv:∀ cb,clB (R.map Nr.n) k p.n=cb→Calls Tryz.prog 86 #[.agg #[.slice (some ⟨bl,off,none⟩) R.length c],.int .i64 k] w2 fun e w'=>e=.returned (.bool cb)∧Below w2.heap.size w2 w':=by
       intro cb hcb
       by_cases hz:k=0
       ·subst hz
        obtain rfl:true=cb:=by rw [<- hcb];rfl
        exact hasValidCell_0 _ _ _ _
       ·obtain ⟨m,u,e1,e2,e3,e4,e5⟩:=nok_kids HALL.out HG.out h2 hz;exact hasValidCell_s _ c R k m p u cb _ HV.out HG.out hl4 hz e1 e2 e3 e4 (by rw [<- e5];exact hcb)
      cases h3:clB (R.map Nr.n) k p.n
      ·have HC:=hD (hcv false h3);clear hcv
       go_wp2_with fail
       with_reducible refine (HC.out).mono ?_
       rintro e w3 ⟨rfl,hb⟩;clear hx0 HC;replace HB:=hD (bkeep2 HB.out hb);clear hb;go_wp2;go_ret;exact ⟨ret_bool (by rw [<- HBB.out];exact (all_falseG (k:=k) (p:=k) (by rw [List.getElem?_range (by omega)]) (by rw [HNB.out,h1,h2,h3];rfl)).symm),HB.out⟩
      ·have HC:=hD (hcv true h3);clear hcv
       go_wp2_with fail
       with_reducible refine (HC.out).mono ?_
       rintro e w3 ⟨rfl,hb⟩;clear hx0 HC;replace HX:=hbk hb HX;replace HV:=hD (HV.out.keep hb);replace HR:=hD (HR.out.keep hb);replace HB:=hD (bkeep2 HB.out hb);clear hb;go_wp2
       go_roundw
       case rel=>exact ⟨k+1,by omega,by go_num,by rw [range_all_succ,HALL.out,HNB.out,h1,h2,h3];rfl,HX.out,HV.out,HR.out,HB.out⟩
       case measure=>simp [intOf];omega
   ·have hd:decide ((k:Int)<(R.length:Int))=false:=decide_eq_false (by omega)
    obtain rfl:k=R.length:=by omega
    have HB:=hD hB;have HALL:=hD hall;clear hx hv hr hB hall;go_wp2;go_ret;exact ⟨ret_bool (by rw [<- HBB.out,HALL.out]),HB.out⟩
end
end Go.Proofs.YtenckjdiggaonaaGreat
