import Derived.Test.YtgdkionmeacalabGreatQ22
section
namespace Go.Proofs.YtgdkionmeacalabGreat
open Go.RowKit
set_option linter.unusedVariables false
set_option maxHeartbeats 4000000
attribute [local go_sem] growUpon_value growUpon_skip growUpon_enter
/-- the lines that a widget itself has -/
def ownB (n : Nd) : Bool := if n.ki = 1 then linesB n.cs && linesB n.rs else decide (n.cs.length = 0) && decide (n.rs.length = 0)

def ndB (n : Nd) : Bool := (rng n.ww 0 30 && rng n.hh 0 30) && (rng n.ki 0 2 && (ownB n && (n.pk.ok && (decide (n.pk.w = 0) && (decide (n.pk.h = 0) && (decide (n.ce.cw = 0) && (decide (n.ce.ch = 0) && plB n.pl)))))))
set_option maxRecDepth 100000 in
theorem validOwnLines_v (p : Nr) (b : Bool) (w : World) (h : RdN w p) (k1 : p.n.cs.length ≤ 1048576) (k2 : p.n.rs.length ≤ 1048576) (hb : ownB p.n = b) :
    Calls Tryz.prog 69 #[.agg (valsNr p).toArray] w fun e w' => e = .returned (.bool b) ∧ Below w.heap.size w w' := by
  have hB0 : Below w.heap.size w (w.alloc (.cells (valsNr p).toArray 38 (0, 0))) := balloc (Below.refl _ _)
  have HX := Lib.hid (newS w (.cells (valsNr p).toArray 38 (0, 0)))
  have HC := Lib.hid (h.c.keep hB0)
  have HR := Lib.hid (h.r.keep hB0)
  have HB := Lib.hid hB0
  clear hB0 h
  have x4 : (w.alloc (.cells (valsNr p).toArray 38 (0, 0))).cell? ⟨w.heap.size, 4, none⟩ = some (.int .i64 p.n.ki) := cellS HX.out 4
  have x5 : (w.alloc (.cells (valsNr p).toArray 38 (0, 0))).cell? ⟨w.heap.size, 5, none⟩ = some (.slice p.ca p.n.cs.length p.cc) := cellS HX.out 5
  have x6 : (w.alloc (.cells (valsNr p).toArray 38 (0, 0))).cell? ⟨w.heap.size, 6, none⟩ = some (.slice p.ra p.n.rs.length p.rc) := cellS HX.out 6
  unfold ownB at hb
  by_cases hk : p.n.ki = 1
  · rw [if_pos hk] at hb
    rw [hk] at x4
    have HK := Lib.hid hk
    clear hk
    cases h1 : linesB p.n.cs
    · obtain rfl : false = b := by rw [← hb, h1]; rfl
      go_enter Tryz.func69, Tryz.ntmps69
      go_wp2_with fail
      with_reducible refine (validLines_v p.ca p.cc p.n.cs false _ HC.out k1 h1).mono ?_
      rintro e w1 ⟨rfl, hb1⟩
      clear x4 x5 x6
      replace HB := Lib.hid (bkeep2 HB.out hb1)
      clear hb1
      go_wp2
      go_ret
      exact ⟨rfl, HB.out⟩
    · have h2 : linesB p.n.rs = b := by rw [← hb, h1]; rfl
      clear hb
      cases b
      all_goals
        go_enter Tryz.func69, Tryz.ntmps69
        go_wp2_with fail
        with_reducible refine (validLines_v p.ca p.cc p.n.cs true _ HC.out k1 h1).mono ?_
        rintro e w1 ⟨rfl, hb1⟩
        clear x4 x5 x6
        replace HX := Lib.hid ((hb1.block _ (Array.getElem?_eq_some_iff.1 HX.out).1).trans HX.out)
        replace HR := Lib.hid (HR.out.keep hb1)
        replace HB := Lib.hid (bkeep2 HB.out hb1)
        clear hb1
        have x6 : w1.cell? ⟨w.heap.size, 6, none⟩ = some (.slice p.ra p.n.rs.length p.rc) := cellS HX.out 6
        go_wp2_with fail
        with_reducible refine (validLines_v p.ra p.rc p.n.rs _ _ HR.out k2 h2).mono ?_
        rintro e w2 ⟨rfl, hb2⟩
        clear x6
        replace HB := Lib.hid (bkeep2 HB.out hb2)
        clear hb2
        go_wp2
        go_ret
        exact ⟨rfl, HB.out⟩
  · rw [if_neg hk] at hb
    have e1 : (p.n.ki == 1) = false := by rw [beq_eq_false_iff_ne]; exact hk
    have e1' : decide (p.n.ki = 1) = false := decide_eq_false hk
    have HK := Lib.hid hk
    clear hk
    by_cases h1 : p.n.cs.length = 0
    · have e2 : (((p.n.cs.length : Nat) : Int) == 0) = true := by rw [h1]; rfl
      have e2' : decide (((p.n.cs.length : Nat) : Int) = 0) = true := decide_eq_true (by omega)
      by_cases h2 : p.n.rs.length = 0
      · have e3 : (((p.n.rs.length : Nat) : Int) == 0) = true := by rw [h2]; rfl
        have e3' : decide (((p.n.rs.length : Nat) : Int) = 0) = true := decide_eq_true (by omega)
        obtain rfl : true = b := by rw [← hb, h1, h2]; rfl
        clear h1 h2 hb
        go_enter Tryz.func69, Tryz.ntmps69
        go_wp2
        go_ret
        exact ⟨rfl, HB.out⟩
      · have e3 : (((p.n.rs.length : Nat) : Int) == 0) = false := by rw [beq_eq_false_iff_ne]; omega
        have e3' : decide (((p.n.rs.length : Nat) : Int) = 0) = false := decide_eq_false (by omega)
        obtain rfl : false = b := by rw [← hb, decide_eq_false h2, Bool.and_false]
        clear h1 h2 hb
        go_enter Tryz.func69, Tryz.ntmps69
        go_wp2
        go_ret
        exact ⟨rfl, HB.out⟩
    · have e2 : (((p.n.cs.length : Nat) : Int) == 0) = false := by rw [beq_eq_false_iff_ne]; omega
      have e2' : decide (((p.n.cs.length : Nat) : Int) = 0) = false := decide_eq_false (by omega)
      obtain rfl : false = b := by rw [← hb, decide_eq_false h1, Bool.false_and]
      clear h1 hb
      go_enter Tryz.func69, Tryz.ntmps69
      go_wp2
      go_ret
      exact ⟨rfl, HB.out⟩
theorem eqb_t {x : Int} (h : decide (x = 0) = true) : (x == 0) = true := by have := of_decide_eq_true h; rw [this]; rfl
theorem eqb_f {x : Int} (h : decide (x = 0) = false) : (x == 0) = false := by have := of_decide_eq_false h; rw [beq_eq_false_iff_ne]; exact this
set_option maxRecDepth 100000 in
theorem validNode_v (p : Nr) (b : Bool) (w : World) (h : RdN w p) (k1 : p.n.cs.length ≤ 1048576) (k2 : p.n.rs.length ≤ 1048576) (hb : ndB p.n = b) :
    Calls Tryz.prog 46 #[.agg (valsNr p).toArray] w fun e w' => e = .returned (.bool b) ∧ Below w.heap.size w w' := by
  have HX := Lib.hid (newS w (.cells (valsNr p).toArray 38 (0, 0)))
  have HB := Lib.hid (show Below w.heap.size w (w.alloc (.cells (valsNr p).toArray 38 (0, 0))) from balloc (Below.refl _ _))
  have HD := Lib.hid h
  clear h
  cases h1 : (rng p.n.ww 0 30 && rng p.n.hh 0 30)
  · obtain rfl : false = b := by rw [← hb]; simp only [ndB, h1, Bool.false_and, Bool.true_and]
    clear hb
    have x1 : (w.alloc (.cells (valsNr p).toArray 38 (0, 0))).cell? ⟨w.heap.size, 1, none⟩ = some (.int .i64 p.n.ww) := cellS HX.out 1
    have x2 : (w.alloc (.cells (valsNr p).toArray 38 (0, 0))).cell? ⟨w.heap.size, 2, none⟩ = some (.int .i64 p.n.hh) := cellS HX.out 2
    have x4 : (w.alloc (.cells (valsNr p).toArray 38 (0, 0))).cell? ⟨w.heap.size, 4, none⟩ = some (.int .i64 p.n.ki) := cellS HX.out 4
    have x7 : (w.alloc (.cells (valsNr p).toArray 38 (0, 0))).cell? ⟨w.heap.size, 7, none⟩ = some (.int .i64 p.n.pk.w) := cellS HX.out 7
    have x8 : (w.alloc (.cells (valsNr p).toArray 38 (0, 0))).cell? ⟨w.heap.size, 8, none⟩ = some (.int .i64 p.n.pk.h) := cellS HX.out 8
    have x20 : (w.alloc (.cells (valsNr p).toArray 38 (0, 0))).cell? ⟨w.heap.size, 20, none⟩ = some (.int .i64 p.n.ce.cw) := cellS HX.out 20
    have x21 : (w.alloc (.cells (valsNr p).toArray 38 (0, 0))).cell? ⟨w.heap.size, 21, none⟩ = some (.int .i64 p.n.ce.ch) := cellS HX.out 21
    have hr := nodeAt HX.out
    have hrp := node_pk hr
    have hrl := node_pl hr
    simp only [Nat.zero_add] at hrp hrl
    have HR := Lib.hid hr
    have HRP := Lib.hid hrp
    have HRL := Lib.hid hrl
    clear hr hrp hrl
    go_enter Tryz.func46, Tryz.ntmps46
    go_wp2_with (first | (refine ldW 38 _ (valsNr p) w.heap.size 0 rfl rfl rfl Tryz.underlying38 rfl (by kernel_rfl) HR.out ?_) | (refine ldW 32 _ [.int .i64 p.n.pk.w, .int .i64 p.n.pk.h, .int .i64 p.n.pk.s, .bool p.n.pk.fx, .bool p.n.pk.fy, .bool p.n.pk.ex, .int .i64 p.n.pk.an, .int .i64 p.n.pk.px, .int .i64 p.n.pk.py] w.heap.size 7 rfl rfl rfl Tryz.underlying32 rfl (by kernel_rfl) HRP.out ?_) | (refine ldW 36 _ [.int .i64 p.n.pl.x, .int .i64 p.n.pl.y, .int .i64 p.n.pl.rx, .int .i64 p.n.pl.ry, .int .i64 p.n.pl.ww, .int .i64 p.n.pl.hh, .int .i64 p.n.pl.qw, .int .i64 p.n.pl.qh, .int .i64 p.n.pl.an] w.heap.size 25 rfl rfl rfl Tryz.underlying36 rfl (by kernel_rfl) HRL.out ?_))
    with_reducible refine (validWish_w p.n.ww p.n.hh false _ h1).mono ?_
    rintro e wq ⟨rfl, rfl⟩
    go_wp2_with (first | (refine ldW 38 _ (valsNr p) w.heap.size 0 rfl rfl rfl Tryz.underlying38 rfl (by kernel_rfl) HR.out ?_) | (refine ldW 32 _ [.int .i64 p.n.pk.w, .int .i64 p.n.pk.h, .int .i64 p.n.pk.s, .bool p.n.pk.fx, .bool p.n.pk.fy, .bool p.n.pk.ex, .int .i64 p.n.pk.an, .int .i64 p.n.pk.px, .int .i64 p.n.pk.py] w.heap.size 7 rfl rfl rfl Tryz.underlying32 rfl (by kernel_rfl) HRP.out ?_) | (refine ldW 36 _ [.int .i64 p.n.pl.x, .int .i64 p.n.pl.y, .int .i64 p.n.pl.rx, .int .i64 p.n.pl.ry, .int .i64 p.n.pl.ww, .int .i64 p.n.pl.hh, .int .i64 p.n.pl.qw, .int .i64 p.n.pl.qh, .int .i64 p.n.pl.an] w.heap.size 25 rfl rfl rfl Tryz.underlying36 rfl (by kernel_rfl) HRL.out ?_))
    go_ret
    exact ⟨rfl, HB.out⟩
  cases h2 : rng p.n.ki 0 2
  · obtain rfl : false = b := by rw [← hb]; simp only [ndB, h1, h2, Bool.false_and, Bool.true_and]
    clear hb
    have x1 : (w.alloc (.cells (valsNr p).toArray 38 (0, 0))).cell? ⟨w.heap.size, 1, none⟩ = some (.int .i64 p.n.ww) := cellS HX.out 1
    have x2 : (w.alloc (.cells (valsNr p).toArray 38 (0, 0))).cell? ⟨w.heap.size, 2, none⟩ = some (.int .i64 p.n.hh) := cellS HX.out 2
    have x4 : (w.alloc (.cells (valsNr p).toArray 38 (0, 0))).cell? ⟨w.heap.size, 4, none⟩ = some (.int .i64 p.n.ki) := cellS HX.out 4
    have x7 : (w.alloc (.cells (valsNr p).toArray 38 (0, 0))).cell? ⟨w.heap.size, 7, none⟩ = some (.int .i64 p.n.pk.w) := cellS HX.out 7
    have x8 : (w.alloc (.cells (valsNr p).toArray 38 (0, 0))).cell? ⟨w.heap.size, 8, none⟩ = some (.int .i64 p.n.pk.h) := cellS HX.out 8
    have x20 : (w.alloc (.cells (valsNr p).toArray 38 (0, 0))).cell? ⟨w.heap.size, 20, none⟩ = some (.int .i64 p.n.ce.cw) := cellS HX.out 20
    have x21 : (w.alloc (.cells (valsNr p).toArray 38 (0, 0))).cell? ⟨w.heap.size, 21, none⟩ = some (.int .i64 p.n.ce.ch) := cellS HX.out 21
    have hr := nodeAt HX.out
    have hrp := node_pk hr
    have hrl := node_pl hr
    simp only [Nat.zero_add] at hrp hrl
    have HR := Lib.hid hr
    have HRP := Lib.hid hrp
    have HRL := Lib.hid hrl
    clear hr hrp hrl
    go_enter Tryz.func46, Tryz.ntmps46
    go_wp2_with (first | (refine ldW 38 _ (valsNr p) w.heap.size 0 rfl rfl rfl Tryz.underlying38 rfl (by kernel_rfl) HR.out ?_) | (refine ldW 32 _ [.int .i64 p.n.pk.w, .int .i64 p.n.pk.h, .int .i64 p.n.pk.s, .bool p.n.pk.fx, .bool p.n.pk.fy, .bool p.n.pk.ex, .int .i64 p.n.pk.an, .int .i64 p.n.pk.px, .int .i64 p.n.pk.py] w.heap.size 7 rfl rfl rfl Tryz.underlying32 rfl (by kernel_rfl) HRP.out ?_) | (refine ldW 36 _ [.int .i64 p.n.pl.x, .int .i64 p.n.pl.y, .int .i64 p.n.pl.rx, .int .i64 p.n.pl.ry, .int .i64 p.n.pl.ww, .int .i64 p.n.pl.hh, .int .i64 p.n.pl.qw, .int .i64 p.n.pl.qh, .int .i64 p.n.pl.an] w.heap.size 25 rfl rfl rfl Tryz.underlying36 rfl (by kernel_rfl) HRL.out ?_))
    with_reducible refine (validWish_w p.n.ww p.n.hh true _ h1).mono ?_
    rintro e wq ⟨rfl, rfl⟩
    go_wp2_with (first | (refine ldW 38 _ (valsNr p) w.heap.size 0 rfl rfl rfl Tryz.underlying38 rfl (by kernel_rfl) HR.out ?_) | (refine ldW 32 _ [.int .i64 p.n.pk.w, .int .i64 p.n.pk.h, .int .i64 p.n.pk.s, .bool p.n.pk.fx, .bool p.n.pk.fy, .bool p.n.pk.ex, .int .i64 p.n.pk.an, .int .i64 p.n.pk.px, .int .i64 p.n.pk.py] w.heap.size 7 rfl rfl rfl Tryz.underlying32 rfl (by kernel_rfl) HRP.out ?_) | (refine ldW 36 _ [.int .i64 p.n.pl.x, .int .i64 p.n.pl.y, .int .i64 p.n.pl.rx, .int .i64 p.n.pl.ry, .int .i64 p.n.pl.ww, .int .i64 p.n.pl.hh, .int .i64 p.n.pl.qw, .int .i64 p.n.pl.qh, .int .i64 p.n.pl.an] w.heap.size 25 rfl rfl rfl Tryz.underlying36 rfl (by kernel_rfl) HRL.out ?_))
    with_reducible refine (within_w _ 0 2 false _ h2).mono ?_
    rintro e wq ⟨rfl, rfl⟩
    go_wp2_with (first | (refine ldW 38 _ (valsNr p) w.heap.size 0 rfl rfl rfl Tryz.underlying38 rfl (by kernel_rfl) HR.out ?_) | (refine ldW 32 _ [.int .i64 p.n.pk.w, .int .i64 p.n.pk.h, .int .i64 p.n.pk.s, .bool p.n.pk.fx, .bool p.n.pk.fy, .bool p.n.pk.ex, .int .i64 p.n.pk.an, .int .i64 p.n.pk.px, .int .i64 p.n.pk.py] w.heap.size 7 rfl rfl rfl Tryz.underlying32 rfl (by kernel_rfl) HRP.out ?_) | (refine ldW 36 _ [.int .i64 p.n.pl.x, .int .i64 p.n.pl.y, .int .i64 p.n.pl.rx, .int .i64 p.n.pl.ry, .int .i64 p.n.pl.ww, .int .i64 p.n.pl.hh, .int .i64 p.n.pl.qw, .int .i64 p.n.pl.qh, .int .i64 p.n.pl.an] w.heap.size 25 rfl rfl rfl Tryz.underlying36 rfl (by kernel_rfl) HRL.out ?_))
    go_ret
    exact ⟨rfl, HB.out⟩
  cases h3 : ownB p.n
  · obtain rfl : false = b := by rw [← hb]; simp only [ndB, h1, h2, h3, Bool.false_and, Bool.true_and]
    clear hb
    have x1 : (w.alloc (.cells (valsNr p).toArray 38 (0, 0))).cell? ⟨w.heap.size, 1, none⟩ = some (.int .i64 p.n.ww) := cellS HX.out 1
    have x2 : (w.alloc (.cells (valsNr p).toArray 38 (0, 0))).cell? ⟨w.heap.size, 2, none⟩ = some (.int .i64 p.n.hh) := cellS HX.out 2
    have x4 : (w.alloc (.cells (valsNr p).toArray 38 (0, 0))).cell? ⟨w.heap.size, 4, none⟩ = some (.int .i64 p.n.ki) := cellS HX.out 4
    have x7 : (w.alloc (.cells (valsNr p).toArray 38 (0, 0))).cell? ⟨w.heap.size, 7, none⟩ = some (.int .i64 p.n.pk.w) := cellS HX.out 7
    have x8 : (w.alloc (.cells (valsNr p).toArray 38 (0, 0))).cell? ⟨w.heap.size, 8, none⟩ = some (.int .i64 p.n.pk.h) := cellS HX.out 8
    have x20 : (w.alloc (.cells (valsNr p).toArray 38 (0, 0))).cell? ⟨w.heap.size, 20, none⟩ = some (.int .i64 p.n.ce.cw) := cellS HX.out 20
    have x21 : (w.alloc (.cells (valsNr p).toArray 38 (0, 0))).cell? ⟨w.heap.size, 21, none⟩ = some (.int .i64 p.n.ce.ch) := cellS HX.out 21
    have hr := nodeAt HX.out
    have hrp := node_pk hr
    have hrl := node_pl hr
    simp only [Nat.zero_add] at hrp hrl
    have HR := Lib.hid hr
    have HRP := Lib.hid hrp
    have HRL := Lib.hid hrl
    clear hr hrp hrl
    go_enter Tryz.func46, Tryz.ntmps46
    go_wp2_with (first | (refine ldW 38 _ (valsNr p) w.heap.size 0 rfl rfl rfl Tryz.underlying38 rfl (by kernel_rfl) HR.out ?_) | (refine ldW 32 _ [.int .i64 p.n.pk.w, .int .i64 p.n.pk.h, .int .i64 p.n.pk.s, .bool p.n.pk.fx, .bool p.n.pk.fy, .bool p.n.pk.ex, .int .i64 p.n.pk.an, .int .i64 p.n.pk.px, .int .i64 p.n.pk.py] w.heap.size 7 rfl rfl rfl Tryz.underlying32 rfl (by kernel_rfl) HRP.out ?_) | (refine ldW 36 _ [.int .i64 p.n.pl.x, .int .i64 p.n.pl.y, .int .i64 p.n.pl.rx, .int .i64 p.n.pl.ry, .int .i64 p.n.pl.ww, .int .i64 p.n.pl.hh, .int .i64 p.n.pl.qw, .int .i64 p.n.pl.qh, .int .i64 p.n.pl.an] w.heap.size 25 rfl rfl rfl Tryz.underlying36 rfl (by kernel_rfl) HRL.out ?_))
    with_reducible refine (validWish_w p.n.ww p.n.hh true _ h1).mono ?_
    rintro e wq ⟨rfl, rfl⟩
    go_wp2_with (first | (refine ldW 38 _ (valsNr p) w.heap.size 0 rfl rfl rfl Tryz.underlying38 rfl (by kernel_rfl) HR.out ?_) | (refine ldW 32 _ [.int .i64 p.n.pk.w, .int .i64 p.n.pk.h, .int .i64 p.n.pk.s, .bool p.n.pk.fx, .bool p.n.pk.fy, .bool p.n.pk.ex, .int .i64 p.n.pk.an, .int .i64 p.n.pk.px, .int .i64 p.n.pk.py] w.heap.size 7 rfl rfl rfl Tryz.underlying32 rfl (by kernel_rfl) HRP.out ?_) | (refine ldW 36 _ [.int .i64 p.n.pl.x, .int .i64 p.n.pl.y, .int .i64 p.n.pl.rx, .int .i64 p.n.pl.ry, .int .i64 p.n.pl.ww, .int .i64 p.n.pl.hh, .int .i64 p.n.pl.qw, .int .i64 p.n.pl.qh, .int .i64 p.n.pl.an] w.heap.size 25 rfl rfl rfl Tryz.underlying36 rfl (by kernel_rfl) HRL.out ?_))
    with_reducible refine (within_w _ 0 2 true _ h2).mono ?_
    rintro e wq ⟨rfl, rfl⟩
    go_wp2_with (first | (refine ldW 38 _ (valsNr p) w.heap.size 0 rfl rfl rfl Tryz.underlying38 rfl (by kernel_rfl) HR.out ?_) | (refine ldW 32 _ [.int .i64 p.n.pk.w, .int .i64 p.n.pk.h, .int .i64 p.n.pk.s, .bool p.n.pk.fx, .bool p.n.pk.fy, .bool p.n.pk.ex, .int .i64 p.n.pk.an, .int .i64 p.n.pk.px, .int .i64 p.n.pk.py] w.heap.size 7 rfl rfl rfl Tryz.underlying32 rfl (by kernel_rfl) HRP.out ?_) | (refine ldW 36 _ [.int .i64 p.n.pl.x, .int .i64 p.n.pl.y, .int .i64 p.n.pl.rx, .int .i64 p.n.pl.ry, .int .i64 p.n.pl.ww, .int .i64 p.n.pl.hh, .int .i64 p.n.pl.qw, .int .i64 p.n.pl.qh, .int .i64 p.n.pl.an] w.heap.size 25 rfl rfl rfl Tryz.underlying36 rfl (by kernel_rfl) HRL.out ?_))
    with_reducible refine (validOwnLines_v p false _ (HD.out.keep HB.out) k1 k2 h3).mono ?_
    rintro e w1 ⟨rfl, hb1⟩
    clear x1 x2 x4 x7 x8 x20 x21 HR HRP HRL
    replace HX := Lib.hid ((hb1.block _ (Array.getElem?_eq_some_iff.1 HX.out).1).trans HX.out)
    replace HB := Lib.hid (bkeep2 HB.out hb1)
    clear hb1
    have x1 : w1.cell? ⟨w.heap.size, 1, none⟩ = some (.int .i64 p.n.ww) := cellS HX.out 1
    have x2 : w1.cell? ⟨w.heap.size, 2, none⟩ = some (.int .i64 p.n.hh) := cellS HX.out 2
    have x4 : w1.cell? ⟨w.heap.size, 4, none⟩ = some (.int .i64 p.n.ki) := cellS HX.out 4
    have x7 : w1.cell? ⟨w.heap.size, 7, none⟩ = some (.int .i64 p.n.pk.w) := cellS HX.out 7
    have x8 : w1.cell? ⟨w.heap.size, 8, none⟩ = some (.int .i64 p.n.pk.h) := cellS HX.out 8
    have x20 : w1.cell? ⟨w.heap.size, 20, none⟩ = some (.int .i64 p.n.ce.cw) := cellS HX.out 20
    have x21 : w1.cell? ⟨w.heap.size, 21, none⟩ = some (.int .i64 p.n.ce.ch) := cellS HX.out 21
    have hr := nodeAt HX.out
    have hrp := node_pk hr
    have hrl := node_pl hr
    simp only [Nat.zero_add] at hrp hrl
    have HR := Lib.hid hr
    have HRP := Lib.hid hrp
    have HRL := Lib.hid hrl
    clear hr hrp hrl
    go_wp2_with (first | (refine ldW 38 _ (valsNr p) w.heap.size 0 rfl rfl rfl Tryz.underlying38 rfl (by kernel_rfl) HR.out ?_) | (refine ldW 32 _ [.int .i64 p.n.pk.w, .int .i64 p.n.pk.h, .int .i64 p.n.pk.s, .bool p.n.pk.fx, .bool p.n.pk.fy, .bool p.n.pk.ex, .int .i64 p.n.pk.an, .int .i64 p.n.pk.px, .int .i64 p.n.pk.py] w.heap.size 7 rfl rfl rfl Tryz.underlying32 rfl (by kernel_rfl) HRP.out ?_) | (refine ldW 36 _ [.int .i64 p.n.pl.x, .int .i64 p.n.pl.y, .int .i64 p.n.pl.rx, .int .i64 p.n.pl.ry, .int .i64 p.n.pl.ww, .int .i64 p.n.pl.hh, .int .i64 p.n.pl.qw, .int .i64 p.n.pl.qh, .int .i64 p.n.pl.an] w.heap.size 25 rfl rfl rfl Tryz.underlying36 rfl (by kernel_rfl) HRL.out ?_))
    go_ret
    exact ⟨rfl, HB.out⟩
  cases h4 : p.n.pk.ok
  · obtain rfl : false = b := by rw [← hb]; simp only [ndB, h1, h2, h3, h4, Bool.false_and, Bool.true_and]
    clear hb
    have x1 : (w.alloc (.cells (valsNr p).toArray 38 (0, 0))).cell? ⟨w.heap.size, 1, none⟩ = some (.int .i64 p.n.ww) := cellS HX.out 1
    have x2 : (w.alloc (.cells (valsNr p).toArray 38 (0, 0))).cell? ⟨w.heap.size, 2, none⟩ = some (.int .i64 p.n.hh) := cellS HX.out 2
    have x4 : (w.alloc (.cells (valsNr p).toArray 38 (0, 0))).cell? ⟨w.heap.size, 4, none⟩ = some (.int .i64 p.n.ki) := cellS HX.out 4
    have x7 : (w.alloc (.cells (valsNr p).toArray 38 (0, 0))).cell? ⟨w.heap.size, 7, none⟩ = some (.int .i64 p.n.pk.w) := cellS HX.out 7
    have x8 : (w.alloc (.cells (valsNr p).toArray 38 (0, 0))).cell? ⟨w.heap.size, 8, none⟩ = some (.int .i64 p.n.pk.h) := cellS HX.out 8
    have x20 : (w.alloc (.cells (valsNr p).toArray 38 (0, 0))).cell? ⟨w.heap.size, 20, none⟩ = some (.int .i64 p.n.ce.cw) := cellS HX.out 20
    have x21 : (w.alloc (.cells (valsNr p).toArray 38 (0, 0))).cell? ⟨w.heap.size, 21, none⟩ = some (.int .i64 p.n.ce.ch) := cellS HX.out 21
    have hr := nodeAt HX.out
    have hrp := node_pk hr
    have hrl := node_pl hr
    simp only [Nat.zero_add] at hrp hrl
    have HR := Lib.hid hr
    have HRP := Lib.hid hrp
    have HRL := Lib.hid hrl
    clear hr hrp hrl
    go_enter Tryz.func46, Tryz.ntmps46
    go_wp2_with (first | (refine ldW 38 _ (valsNr p) w.heap.size 0 rfl rfl rfl Tryz.underlying38 rfl (by kernel_rfl) HR.out ?_) | (refine ldW 32 _ [.int .i64 p.n.pk.w, .int .i64 p.n.pk.h, .int .i64 p.n.pk.s, .bool p.n.pk.fx, .bool p.n.pk.fy, .bool p.n.pk.ex, .int .i64 p.n.pk.an, .int .i64 p.n.pk.px, .int .i64 p.n.pk.py] w.heap.size 7 rfl rfl rfl Tryz.underlying32 rfl (by kernel_rfl) HRP.out ?_) | (refine ldW 36 _ [.int .i64 p.n.pl.x, .int .i64 p.n.pl.y, .int .i64 p.n.pl.rx, .int .i64 p.n.pl.ry, .int .i64 p.n.pl.ww, .int .i64 p.n.pl.hh, .int .i64 p.n.pl.qw, .int .i64 p.n.pl.qh, .int .i64 p.n.pl.an] w.heap.size 25 rfl rfl rfl Tryz.underlying36 rfl (by kernel_rfl) HRL.out ?_))
    with_reducible refine (validWish_w p.n.ww p.n.hh true _ h1).mono ?_
    rintro e wq ⟨rfl, rfl⟩
    go_wp2_with (first | (refine ldW 38 _ (valsNr p) w.heap.size 0 rfl rfl rfl Tryz.underlying38 rfl (by kernel_rfl) HR.out ?_) | (refine ldW 32 _ [.int .i64 p.n.pk.w, .int .i64 p.n.pk.h, .int .i64 p.n.pk.s, .bool p.n.pk.fx, .bool p.n.pk.fy, .bool p.n.pk.ex, .int .i64 p.n.pk.an, .int .i64 p.n.pk.px, .int .i64 p.n.pk.py] w.heap.size 7 rfl rfl rfl Tryz.underlying32 rfl (by kernel_rfl) HRP.out ?_) | (refine ldW 36 _ [.int .i64 p.n.pl.x, .int .i64 p.n.pl.y, .int .i64 p.n.pl.rx, .int .i64 p.n.pl.ry, .int .i64 p.n.pl.ww, .int .i64 p.n.pl.hh, .int .i64 p.n.pl.qw, .int .i64 p.n.pl.qh, .int .i64 p.n.pl.an] w.heap.size 25 rfl rfl rfl Tryz.underlying36 rfl (by kernel_rfl) HRL.out ?_))
    with_reducible refine (within_w _ 0 2 true _ h2).mono ?_
    rintro e wq ⟨rfl, rfl⟩
    go_wp2_with (first | (refine ldW 38 _ (valsNr p) w.heap.size 0 rfl rfl rfl Tryz.underlying38 rfl (by kernel_rfl) HR.out ?_) | (refine ldW 32 _ [.int .i64 p.n.pk.w, .int .i64 p.n.pk.h, .int .i64 p.n.pk.s, .bool p.n.pk.fx, .bool p.n.pk.fy, .bool p.n.pk.ex, .int .i64 p.n.pk.an, .int .i64 p.n.pk.px, .int .i64 p.n.pk.py] w.heap.size 7 rfl rfl rfl Tryz.underlying32 rfl (by kernel_rfl) HRP.out ?_) | (refine ldW 36 _ [.int .i64 p.n.pl.x, .int .i64 p.n.pl.y, .int .i64 p.n.pl.rx, .int .i64 p.n.pl.ry, .int .i64 p.n.pl.ww, .int .i64 p.n.pl.hh, .int .i64 p.n.pl.qw, .int .i64 p.n.pl.qh, .int .i64 p.n.pl.an] w.heap.size 25 rfl rfl rfl Tryz.underlying36 rfl (by kernel_rfl) HRL.out ?_))
    with_reducible refine (validOwnLines_v p true _ (HD.out.keep HB.out) k1 k2 h3).mono ?_
    rintro e w1 ⟨rfl, hb1⟩
    clear x1 x2 x4 x7 x8 x20 x21 HR HRP HRL
    replace HX := Lib.hid ((hb1.block _ (Array.getElem?_eq_some_iff.1 HX.out).1).trans HX.out)
    replace HB := Lib.hid (bkeep2 HB.out hb1)
    clear hb1
    have x1 : w1.cell? ⟨w.heap.size, 1, none⟩ = some (.int .i64 p.n.ww) := cellS HX.out 1
    have x2 : w1.cell? ⟨w.heap.size, 2, none⟩ = some (.int .i64 p.n.hh) := cellS HX.out 2
    have x4 : w1.cell? ⟨w.heap.size, 4, none⟩ = some (.int .i64 p.n.ki) := cellS HX.out 4
    have x7 : w1.cell? ⟨w.heap.size, 7, none⟩ = some (.int .i64 p.n.pk.w) := cellS HX.out 7
    have x8 : w1.cell? ⟨w.heap.size, 8, none⟩ = some (.int .i64 p.n.pk.h) := cellS HX.out 8
    have x20 : w1.cell? ⟨w.heap.size, 20, none⟩ = some (.int .i64 p.n.ce.cw) := cellS HX.out 20
    have x21 : w1.cell? ⟨w.heap.size, 21, none⟩ = some (.int .i64 p.n.ce.ch) := cellS HX.out 21
    have hr := nodeAt HX.out
    have hrp := node_pk hr
    have hrl := node_pl hr
    simp only [Nat.zero_add] at hrp hrl
    have HR := Lib.hid hr
    have HRP := Lib.hid hrp
    have HRL := Lib.hid hrl
    clear hr hrp hrl
    go_wp2_with (first | (refine ldW 38 _ (valsNr p) w.heap.size 0 rfl rfl rfl Tryz.underlying38 rfl (by kernel_rfl) HR.out ?_) | (refine ldW 32 _ [.int .i64 p.n.pk.w, .int .i64 p.n.pk.h, .int .i64 p.n.pk.s, .bool p.n.pk.fx, .bool p.n.pk.fy, .bool p.n.pk.ex, .int .i64 p.n.pk.an, .int .i64 p.n.pk.px, .int .i64 p.n.pk.py] w.heap.size 7 rfl rfl rfl Tryz.underlying32 rfl (by kernel_rfl) HRP.out ?_) | (refine ldW 36 _ [.int .i64 p.n.pl.x, .int .i64 p.n.pl.y, .int .i64 p.n.pl.rx, .int .i64 p.n.pl.ry, .int .i64 p.n.pl.ww, .int .i64 p.n.pl.hh, .int .i64 p.n.pl.qw, .int .i64 p.n.pl.qh, .int .i64 p.n.pl.an] w.heap.size 25 rfl rfl rfl Tryz.underlying36 rfl (by kernel_rfl) HRL.out ?_))
    with_reducible refine (vp_v p.n.pk false h4 _).mono ?_
    rintro e w2 ⟨rfl, hb1⟩
    clear x1 x2 x4 x7 x8 x20 x21 HR HRP HRL
    replace HX := Lib.hid ((hb1.block _ (Array.getElem?_eq_some_iff.1 HX.out).1).trans HX.out)
    replace HB := Lib.hid (bkeep2 HB.out hb1)
    clear hb1
    have x1 : w2.cell? ⟨w.heap.size, 1, none⟩ = some (.int .i64 p.n.ww) := cellS HX.out 1
    have x2 : w2.cell? ⟨w.heap.size, 2, none⟩ = some (.int .i64 p.n.hh) := cellS HX.out 2
    have x4 : w2.cell? ⟨w.heap.size, 4, none⟩ = some (.int .i64 p.n.ki) := cellS HX.out 4
    have x7 : w2.cell? ⟨w.heap.size, 7, none⟩ = some (.int .i64 p.n.pk.w) := cellS HX.out 7
    have x8 : w2.cell? ⟨w.heap.size, 8, none⟩ = some (.int .i64 p.n.pk.h) := cellS HX.out 8
    have x20 : w2.cell? ⟨w.heap.size, 20, none⟩ = some (.int .i64 p.n.ce.cw) := cellS HX.out 20
    have x21 : w2.cell? ⟨w.heap.size, 21, none⟩ = some (.int .i64 p.n.ce.ch) := cellS HX.out 21
    have hr := nodeAt HX.out
    have hrp := node_pk hr
    have hrl := node_pl hr
    simp only [Nat.zero_add] at hrp hrl
    have HR := Lib.hid hr
    have HRP := Lib.hid hrp
    have HRL := Lib.hid hrl
    clear hr hrp hrl
    go_wp2_with (first | (refine ldW 38 _ (valsNr p) w.heap.size 0 rfl rfl rfl Tryz.underlying38 rfl (by kernel_rfl) HR.out ?_) | (refine ldW 32 _ [.int .i64 p.n.pk.w, .int .i64 p.n.pk.h, .int .i64 p.n.pk.s, .bool p.n.pk.fx, .bool p.n.pk.fy, .bool p.n.pk.ex, .int .i64 p.n.pk.an, .int .i64 p.n.pk.px, .int .i64 p.n.pk.py] w.heap.size 7 rfl rfl rfl Tryz.underlying32 rfl (by kernel_rfl) HRP.out ?_) | (refine ldW 36 _ [.int .i64 p.n.pl.x, .int .i64 p.n.pl.y, .int .i64 p.n.pl.rx, .int .i64 p.n.pl.ry, .int .i64 p.n.pl.ww, .int .i64 p.n.pl.hh, .int .i64 p.n.pl.qw, .int .i64 p.n.pl.qh, .int .i64 p.n.pl.an] w.heap.size 25 rfl rfl rfl Tryz.underlying36 rfl (by kernel_rfl) HRL.out ?_))
    go_ret
    exact ⟨rfl, HB.out⟩
  cases h5 : decide (p.n.pk.w = 0)
  · obtain rfl : false = b := by rw [← hb]; simp only [ndB, h1, h2, h3, h4, h5, Bool.false_and, Bool.true_and]
    clear hb
    have e5 := eqb_f h5
    have x1 : (w.alloc (.cells (valsNr p).toArray 38 (0, 0))).cell? ⟨w.heap.size, 1, none⟩ = some (.int .i64 p.n.ww) := cellS HX.out 1
    have x2 : (w.alloc (.cells (valsNr p).toArray 38 (0, 0))).cell? ⟨w.heap.size, 2, none⟩ = some (.int .i64 p.n.hh) := cellS HX.out 2
    have x4 : (w.alloc (.cells (valsNr p).toArray 38 (0, 0))).cell? ⟨w.heap.size, 4, none⟩ = some (.int .i64 p.n.ki) := cellS HX.out 4
    have x7 : (w.alloc (.cells (valsNr p).toArray 38 (0, 0))).cell? ⟨w.heap.size, 7, none⟩ = some (.int .i64 p.n.pk.w) := cellS HX.out 7
    have x8 : (w.alloc (.cells (valsNr p).toArray 38 (0, 0))).cell? ⟨w.heap.size, 8, none⟩ = some (.int .i64 p.n.pk.h) := cellS HX.out 8
    have x20 : (w.alloc (.cells (valsNr p).toArray 38 (0, 0))).cell? ⟨w.heap.size, 20, none⟩ = some (.int .i64 p.n.ce.cw) := cellS HX.out 20
    have x21 : (w.alloc (.cells (valsNr p).toArray 38 (0, 0))).cell? ⟨w.heap.size, 21, none⟩ = some (.int .i64 p.n.ce.ch) := cellS HX.out 21
    have hr := nodeAt HX.out
    have hrp := node_pk hr
    have hrl := node_pl hr
    simp only [Nat.zero_add] at hrp hrl
    have HR := Lib.hid hr
    have HRP := Lib.hid hrp
    have HRL := Lib.hid hrl
    clear hr hrp hrl
    go_enter Tryz.func46, Tryz.ntmps46
    go_wp2_with (first | (refine ldW 38 _ (valsNr p) w.heap.size 0 rfl rfl rfl Tryz.underlying38 rfl (by kernel_rfl) HR.out ?_) | (refine ldW 32 _ [.int .i64 p.n.pk.w, .int .i64 p.n.pk.h, .int .i64 p.n.pk.s, .bool p.n.pk.fx, .bool p.n.pk.fy, .bool p.n.pk.ex, .int .i64 p.n.pk.an, .int .i64 p.n.pk.px, .int .i64 p.n.pk.py] w.heap.size 7 rfl rfl rfl Tryz.underlying32 rfl (by kernel_rfl) HRP.out ?_) | (refine ldW 36 _ [.int .i64 p.n.pl.x, .int .i64 p.n.pl.y, .int .i64 p.n.pl.rx, .int .i64 p.n.pl.ry, .int .i64 p.n.pl.ww, .int .i64 p.n.pl.hh, .int .i64 p.n.pl.qw, .int .i64 p.n.pl.qh, .int .i64 p.n.pl.an] w.heap.size 25 rfl rfl rfl Tryz.underlying36 rfl (by kernel_rfl) HRL.out ?_))
    with_reducible refine (validWish_w p.n.ww p.n.hh true _ h1).mono ?_
    rintro e wq ⟨rfl, rfl⟩
    go_wp2_with (first | (refine ldW 38 _ (valsNr p) w.heap.size 0 rfl rfl rfl Tryz.underlying38 rfl (by kernel_rfl) HR.out ?_) | (refine ldW 32 _ [.int .i64 p.n.pk.w, .int .i64 p.n.pk.h, .int .i64 p.n.pk.s, .bool p.n.pk.fx, .bool p.n.pk.fy, .bool p.n.pk.ex, .int .i64 p.n.pk.an, .int .i64 p.n.pk.px, .int .i64 p.n.pk.py] w.heap.size 7 rfl rfl rfl Tryz.underlying32 rfl (by kernel_rfl) HRP.out ?_) | (refine ldW 36 _ [.int .i64 p.n.pl.x, .int .i64 p.n.pl.y, .int .i64 p.n.pl.rx, .int .i64 p.n.pl.ry, .int .i64 p.n.pl.ww, .int .i64 p.n.pl.hh, .int .i64 p.n.pl.qw, .int .i64 p.n.pl.qh, .int .i64 p.n.pl.an] w.heap.size 25 rfl rfl rfl Tryz.underlying36 rfl (by kernel_rfl) HRL.out ?_))
    with_reducible refine (within_w _ 0 2 true _ h2).mono ?_
    rintro e wq ⟨rfl, rfl⟩
    go_wp2_with (first | (refine ldW 38 _ (valsNr p) w.heap.size 0 rfl rfl rfl Tryz.underlying38 rfl (by kernel_rfl) HR.out ?_) | (refine ldW 32 _ [.int .i64 p.n.pk.w, .int .i64 p.n.pk.h, .int .i64 p.n.pk.s, .bool p.n.pk.fx, .bool p.n.pk.fy, .bool p.n.pk.ex, .int .i64 p.n.pk.an, .int .i64 p.n.pk.px, .int .i64 p.n.pk.py] w.heap.size 7 rfl rfl rfl Tryz.underlying32 rfl (by kernel_rfl) HRP.out ?_) | (refine ldW 36 _ [.int .i64 p.n.pl.x, .int .i64 p.n.pl.y, .int .i64 p.n.pl.rx, .int .i64 p.n.pl.ry, .int .i64 p.n.pl.ww, .int .i64 p.n.pl.hh, .int .i64 p.n.pl.qw, .int .i64 p.n.pl.qh, .int .i64 p.n.pl.an] w.heap.size 25 rfl rfl rfl Tryz.underlying36 rfl (by kernel_rfl) HRL.out ?_))
    with_reducible refine (validOwnLines_v p true _ (HD.out.keep HB.out) k1 k2 h3).mono ?_
    rintro e w1 ⟨rfl, hb1⟩
    clear x1 x2 x4 x7 x8 x20 x21 HR HRP HRL
    replace HX := Lib.hid ((hb1.block _ (Array.getElem?_eq_some_iff.1 HX.out).1).trans HX.out)
    replace HB := Lib.hid (bkeep2 HB.out hb1)
    clear hb1
    have x1 : w1.cell? ⟨w.heap.size, 1, none⟩ = some (.int .i64 p.n.ww) := cellS HX.out 1
    have x2 : w1.cell? ⟨w.heap.size, 2, none⟩ = some (.int .i64 p.n.hh) := cellS HX.out 2
    have x4 : w1.cell? ⟨w.heap.size, 4, none⟩ = some (.int .i64 p.n.ki) := cellS HX.out 4
    have x7 : w1.cell? ⟨w.heap.size, 7, none⟩ = some (.int .i64 p.n.pk.w) := cellS HX.out 7
    have x8 : w1.cell? ⟨w.heap.size, 8, none⟩ = some (.int .i64 p.n.pk.h) := cellS HX.out 8
    have x20 : w1.cell? ⟨w.heap.size, 20, none⟩ = some (.int .i64 p.n.ce.cw) := cellS HX.out 20
    have x21 : w1.cell? ⟨w.heap.size, 21, none⟩ = some (.int .i64 p.n.ce.ch) := cellS HX.out 21
    have hr := nodeAt HX.out
    have hrp := node_pk hr
    have hrl := node_pl hr
    simp only [Nat.zero_add] at hrp hrl
    have HR := Lib.hid hr
    have HRP := Lib.hid hrp
    have HRL := Lib.hid hrl
    clear hr hrp hrl
    go_wp2_with (first | (refine ldW 38 _ (valsNr p) w.heap.size 0 rfl rfl rfl Tryz.underlying38 rfl (by kernel_rfl) HR.out ?_) | (refine ldW 32 _ [.int .i64 p.n.pk.w, .int .i64 p.n.pk.h, .int .i64 p.n.pk.s, .bool p.n.pk.fx, .bool p.n.pk.fy, .bool p.n.pk.ex, .int .i64 p.n.pk.an, .int .i64 p.n.pk.px, .int .i64 p.n.pk.py] w.heap.size 7 rfl rfl rfl Tryz.underlying32 rfl (by kernel_rfl) HRP.out ?_) | (refine ldW 36 _ [.int .i64 p.n.pl.x, .int .i64 p.n.pl.y, .int .i64 p.n.pl.rx, .int .i64 p.n.pl.ry, .int .i64 p.n.pl.ww, .int .i64 p.n.pl.hh, .int .i64 p.n.pl.qw, .int .i64 p.n.pl.qh, .int .i64 p.n.pl.an] w.heap.size 25 rfl rfl rfl Tryz.underlying36 rfl (by kernel_rfl) HRL.out ?_))
    with_reducible refine (vp_v p.n.pk true h4 _).mono ?_
    rintro e w2 ⟨rfl, hb1⟩
    clear x1 x2 x4 x7 x8 x20 x21 HR HRP HRL
    replace HX := Lib.hid ((hb1.block _ (Array.getElem?_eq_some_iff.1 HX.out).1).trans HX.out)
    replace HB := Lib.hid (bkeep2 HB.out hb1)
    clear hb1
    have x1 : w2.cell? ⟨w.heap.size, 1, none⟩ = some (.int .i64 p.n.ww) := cellS HX.out 1
    have x2 : w2.cell? ⟨w.heap.size, 2, none⟩ = some (.int .i64 p.n.hh) := cellS HX.out 2
    have x4 : w2.cell? ⟨w.heap.size, 4, none⟩ = some (.int .i64 p.n.ki) := cellS HX.out 4
    have x7 : w2.cell? ⟨w.heap.size, 7, none⟩ = some (.int .i64 p.n.pk.w) := cellS HX.out 7
    have x8 : w2.cell? ⟨w.heap.size, 8, none⟩ = some (.int .i64 p.n.pk.h) := cellS HX.out 8
    have x20 : w2.cell? ⟨w.heap.size, 20, none⟩ = some (.int .i64 p.n.ce.cw) := cellS HX.out 20
    have x21 : w2.cell? ⟨w.heap.size, 21, none⟩ = some (.int .i64 p.n.ce.ch) := cellS HX.out 21
    have hr := nodeAt HX.out
    have hrp := node_pk hr
    have hrl := node_pl hr
    simp only [Nat.zero_add] at hrp hrl
    have HR := Lib.hid hr
    have HRP := Lib.hid hrp
    have HRL := Lib.hid hrl
    clear hr hrp hrl
    go_wp2_with (first | (refine ldW 38 _ (valsNr p) w.heap.size 0 rfl rfl rfl Tryz.underlying38 rfl (by kernel_rfl) HR.out ?_) | (refine ldW 32 _ [.int .i64 p.n.pk.w, .int .i64 p.n.pk.h, .int .i64 p.n.pk.s, .bool p.n.pk.fx, .bool p.n.pk.fy, .bool p.n.pk.ex, .int .i64 p.n.pk.an, .int .i64 p.n.pk.px, .int .i64 p.n.pk.py] w.heap.size 7 rfl rfl rfl Tryz.underlying32 rfl (by kernel_rfl) HRP.out ?_) | (refine ldW 36 _ [.int .i64 p.n.pl.x, .int .i64 p.n.pl.y, .int .i64 p.n.pl.rx, .int .i64 p.n.pl.ry, .int .i64 p.n.pl.ww, .int .i64 p.n.pl.hh, .int .i64 p.n.pl.qw, .int .i64 p.n.pl.qh, .int .i64 p.n.pl.an] w.heap.size 25 rfl rfl rfl Tryz.underlying36 rfl (by kernel_rfl) HRL.out ?_))
    go_ret
    exact ⟨rfl, HB.out⟩
  have e5 := eqb_t h5
  cases h6 : decide (p.n.pk.h = 0)
  · obtain rfl : false = b := by rw [← hb]; simp only [ndB, h1, h2, h3, h4, h5, h6, Bool.false_and, Bool.true_and]
    clear hb
    have e6 := eqb_f h6
    have x1 : (w.alloc (.cells (valsNr p).toArray 38 (0, 0))).cell? ⟨w.heap.size, 1, none⟩ = some (.int .i64 p.n.ww) := cellS HX.out 1
    have x2 : (w.alloc (.cells (valsNr p).toArray 38 (0, 0))).cell? ⟨w.heap.size, 2, none⟩ = some (.int .i64 p.n.hh) := cellS HX.out 2
    have x4 : (w.alloc (.cells (valsNr p).toArray 38 (0, 0))).cell? ⟨w.heap.size, 4, none⟩ = some (.int .i64 p.n.ki) := cellS HX.out 4
    have x7 : (w.alloc (.cells (valsNr p).toArray 38 (0, 0))).cell? ⟨w.heap.size, 7, none⟩ = some (.int .i64 p.n.pk.w) := cellS HX.out 7
    have x8 : (w.alloc (.cells (valsNr p).toArray 38 (0, 0))).cell? ⟨w.heap.size, 8, none⟩ = some (.int .i64 p.n.pk.h) := cellS HX.out 8
    have x20 : (w.alloc (.cells (valsNr p).toArray 38 (0, 0))).cell? ⟨w.heap.size, 20, none⟩ = some (.int .i64 p.n.ce.cw) := cellS HX.out 20
    have x21 : (w.alloc (.cells (valsNr p).toArray 38 (0, 0))).cell? ⟨w.heap.size, 21, none⟩ = some (.int .i64 p.n.ce.ch) := cellS HX.out 21
    have hr := nodeAt HX.out
    have hrp := node_pk hr
    have hrl := node_pl hr
    simp only [Nat.zero_add] at hrp hrl
    have HR := Lib.hid hr
    have HRP := Lib.hid hrp
    have HRL := Lib.hid hrl
    clear hr hrp hrl
    go_enter Tryz.func46, Tryz.ntmps46
    go_wp2_with (first | (refine ldW 38 _ (valsNr p) w.heap.size 0 rfl rfl rfl Tryz.underlying38 rfl (by kernel_rfl) HR.out ?_) | (refine ldW 32 _ [.int .i64 p.n.pk.w, .int .i64 p.n.pk.h, .int .i64 p.n.pk.s, .bool p.n.pk.fx, .bool p.n.pk.fy, .bool p.n.pk.ex, .int .i64 p.n.pk.an, .int .i64 p.n.pk.px, .int .i64 p.n.pk.py] w.heap.size 7 rfl rfl rfl Tryz.underlying32 rfl (by kernel_rfl) HRP.out ?_) | (refine ldW 36 _ [.int .i64 p.n.pl.x, .int .i64 p.n.pl.y, .int .i64 p.n.pl.rx, .int .i64 p.n.pl.ry, .int .i64 p.n.pl.ww, .int .i64 p.n.pl.hh, .int .i64 p.n.pl.qw, .int .i64 p.n.pl.qh, .int .i64 p.n.pl.an] w.heap.size 25 rfl rfl rfl Tryz.underlying36 rfl (by kernel_rfl) HRL.out ?_))
    with_reducible refine (validWish_w p.n.ww p.n.hh true _ h1).mono ?_
    rintro e wq ⟨rfl, rfl⟩
    go_wp2_with (first | (refine ldW 38 _ (valsNr p) w.heap.size 0 rfl rfl rfl Tryz.underlying38 rfl (by kernel_rfl) HR.out ?_) | (refine ldW 32 _ [.int .i64 p.n.pk.w, .int .i64 p.n.pk.h, .int .i64 p.n.pk.s, .bool p.n.pk.fx, .bool p.n.pk.fy, .bool p.n.pk.ex, .int .i64 p.n.pk.an, .int .i64 p.n.pk.px, .int .i64 p.n.pk.py] w.heap.size 7 rfl rfl rfl Tryz.underlying32 rfl (by kernel_rfl) HRP.out ?_) | (refine ldW 36 _ [.int .i64 p.n.pl.x, .int .i64 p.n.pl.y, .int .i64 p.n.pl.rx, .int .i64 p.n.pl.ry, .int .i64 p.n.pl.ww, .int .i64 p.n.pl.hh, .int .i64 p.n.pl.qw, .int .i64 p.n.pl.qh, .int .i64 p.n.pl.an] w.heap.size 25 rfl rfl rfl Tryz.underlying36 rfl (by kernel_rfl) HRL.out ?_))
    with_reducible refine (within_w _ 0 2 true _ h2).mono ?_
    rintro e wq ⟨rfl, rfl⟩
    go_wp2_with (first | (refine ldW 38 _ (valsNr p) w.heap.size 0 rfl rfl rfl Tryz.underlying38 rfl (by kernel_rfl) HR.out ?_) | (refine ldW 32 _ [.int .i64 p.n.pk.w, .int .i64 p.n.pk.h, .int .i64 p.n.pk.s, .bool p.n.pk.fx, .bool p.n.pk.fy, .bool p.n.pk.ex, .int .i64 p.n.pk.an, .int .i64 p.n.pk.px, .int .i64 p.n.pk.py] w.heap.size 7 rfl rfl rfl Tryz.underlying32 rfl (by kernel_rfl) HRP.out ?_) | (refine ldW 36 _ [.int .i64 p.n.pl.x, .int .i64 p.n.pl.y, .int .i64 p.n.pl.rx, .int .i64 p.n.pl.ry, .int .i64 p.n.pl.ww, .int .i64 p.n.pl.hh, .int .i64 p.n.pl.qw, .int .i64 p.n.pl.qh, .int .i64 p.n.pl.an] w.heap.size 25 rfl rfl rfl Tryz.underlying36 rfl (by kernel_rfl) HRL.out ?_))
    with_reducible refine (validOwnLines_v p true _ (HD.out.keep HB.out) k1 k2 h3).mono ?_
    rintro e w1 ⟨rfl, hb1⟩
    clear x1 x2 x4 x7 x8 x20 x21 HR HRP HRL
    replace HX := Lib.hid ((hb1.block _ (Array.getElem?_eq_some_iff.1 HX.out).1).trans HX.out)
    replace HB := Lib.hid (bkeep2 HB.out hb1)
    clear hb1
    have x1 : w1.cell? ⟨w.heap.size, 1, none⟩ = some (.int .i64 p.n.ww) := cellS HX.out 1
    have x2 : w1.cell? ⟨w.heap.size, 2, none⟩ = some (.int .i64 p.n.hh) := cellS HX.out 2
    have x4 : w1.cell? ⟨w.heap.size, 4, none⟩ = some (.int .i64 p.n.ki) := cellS HX.out 4
    have x7 : w1.cell? ⟨w.heap.size, 7, none⟩ = some (.int .i64 p.n.pk.w) := cellS HX.out 7
    have x8 : w1.cell? ⟨w.heap.size, 8, none⟩ = some (.int .i64 p.n.pk.h) := cellS HX.out 8
    have x20 : w1.cell? ⟨w.heap.size, 20, none⟩ = some (.int .i64 p.n.ce.cw) := cellS HX.out 20
    have x21 : w1.cell? ⟨w.heap.size, 21, none⟩ = some (.int .i64 p.n.ce.ch) := cellS HX.out 21
    have hr := nodeAt HX.out
    have hrp := node_pk hr
    have hrl := node_pl hr
    simp only [Nat.zero_add] at hrp hrl
    have HR := Lib.hid hr
    have HRP := Lib.hid hrp
    have HRL := Lib.hid hrl
    clear hr hrp hrl
    go_wp2_with (first | (refine ldW 38 _ (valsNr p) w.heap.size 0 rfl rfl rfl Tryz.underlying38 rfl (by kernel_rfl) HR.out ?_) | (refine ldW 32 _ [.int .i64 p.n.pk.w, .int .i64 p.n.pk.h, .int .i64 p.n.pk.s, .bool p.n.pk.fx, .bool p.n.pk.fy, .bool p.n.pk.ex, .int .i64 p.n.pk.an, .int .i64 p.n.pk.px, .int .i64 p.n.pk.py] w.heap.size 7 rfl rfl rfl Tryz.underlying32 rfl (by kernel_rfl) HRP.out ?_) | (refine ldW 36 _ [.int .i64 p.n.pl.x, .int .i64 p.n.pl.y, .int .i64 p.n.pl.rx, .int .i64 p.n.pl.ry, .int .i64 p.n.pl.ww, .int .i64 p.n.pl.hh, .int .i64 p.n.pl.qw, .int .i64 p.n.pl.qh, .int .i64 p.n.pl.an] w.heap.size 25 rfl rfl rfl Tryz.underlying36 rfl (by kernel_rfl) HRL.out ?_))
    with_reducible refine (vp_v p.n.pk true h4 _).mono ?_
    rintro e w2 ⟨rfl, hb1⟩
    clear x1 x2 x4 x7 x8 x20 x21 HR HRP HRL
    replace HX := Lib.hid ((hb1.block _ (Array.getElem?_eq_some_iff.1 HX.out).1).trans HX.out)
    replace HB := Lib.hid (bkeep2 HB.out hb1)
    clear hb1
    have x1 : w2.cell? ⟨w.heap.size, 1, none⟩ = some (.int .i64 p.n.ww) := cellS HX.out 1
    have x2 : w2.cell? ⟨w.heap.size, 2, none⟩ = some (.int .i64 p.n.hh) := cellS HX.out 2
    have x4 : w2.cell? ⟨w.heap.size, 4, none⟩ = some (.int .i64 p.n.ki) := cellS HX.out 4
    have x7 : w2.cell? ⟨w.heap.size, 7, none⟩ = some (.int .i64 p.n.pk.w) := cellS HX.out 7
    have x8 : w2.cell? ⟨w.heap.size, 8, none⟩ = some (.int .i64 p.n.pk.h) := cellS HX.out 8
    have x20 : w2.cell? ⟨w.heap.size, 20, none⟩ = some (.int .i64 p.n.ce.cw) := cellS HX.out 20
    have x21 : w2.cell? ⟨w.heap.size, 21, none⟩ = some (.int .i64 p.n.ce.ch) := cellS HX.out 21
    have hr := nodeAt HX.out
    have hrp := node_pk hr
    have hrl := node_pl hr
    simp only [Nat.zero_add] at hrp hrl
    have HR := Lib.hid hr
    have HRP := Lib.hid hrp
    have HRL := Lib.hid hrl
    clear hr hrp hrl
    go_wp2_with (first | (refine ldW 38 _ (valsNr p) w.heap.size 0 rfl rfl rfl Tryz.underlying38 rfl (by kernel_rfl) HR.out ?_) | (refine ldW 32 _ [.int .i64 p.n.pk.w, .int .i64 p.n.pk.h, .int .i64 p.n.pk.s, .bool p.n.pk.fx, .bool p.n.pk.fy, .bool p.n.pk.ex, .int .i64 p.n.pk.an, .int .i64 p.n.pk.px, .int .i64 p.n.pk.py] w.heap.size 7 rfl rfl rfl Tryz.underlying32 rfl (by kernel_rfl) HRP.out ?_) | (refine ldW 36 _ [.int .i64 p.n.pl.x, .int .i64 p.n.pl.y, .int .i64 p.n.pl.rx, .int .i64 p.n.pl.ry, .int .i64 p.n.pl.ww, .int .i64 p.n.pl.hh, .int .i64 p.n.pl.qw, .int .i64 p.n.pl.qh, .int .i64 p.n.pl.an] w.heap.size 25 rfl rfl rfl Tryz.underlying36 rfl (by kernel_rfl) HRL.out ?_))
    go_ret
    exact ⟨rfl, HB.out⟩
  have e6 := eqb_t h6
  cases h7 : decide (p.n.ce.cw = 0)
  · obtain rfl : false = b := by rw [← hb]; simp only [ndB, h1, h2, h3, h4, h5, h6, h7, Bool.false_and, Bool.true_and]
    clear hb
    have e7 := eqb_f h7
    have x1 : (w.alloc (.cells (valsNr p).toArray 38 (0, 0))).cell? ⟨w.heap.size, 1, none⟩ = some (.int .i64 p.n.ww) := cellS HX.out 1
    have x2 : (w.alloc (.cells (valsNr p).toArray 38 (0, 0))).cell? ⟨w.heap.size, 2, none⟩ = some (.int .i64 p.n.hh) := cellS HX.out 2
    have x4 : (w.alloc (.cells (valsNr p).toArray 38 (0, 0))).cell? ⟨w.heap.size, 4, none⟩ = some (.int .i64 p.n.ki) := cellS HX.out 4
    have x7 : (w.alloc (.cells (valsNr p).toArray 38 (0, 0))).cell? ⟨w.heap.size, 7, none⟩ = some (.int .i64 p.n.pk.w) := cellS HX.out 7
    have x8 : (w.alloc (.cells (valsNr p).toArray 38 (0, 0))).cell? ⟨w.heap.size, 8, none⟩ = some (.int .i64 p.n.pk.h) := cellS HX.out 8
    have x20 : (w.alloc (.cells (valsNr p).toArray 38 (0, 0))).cell? ⟨w.heap.size, 20, none⟩ = some (.int .i64 p.n.ce.cw) := cellS HX.out 20
    have x21 : (w.alloc (.cells (valsNr p).toArray 38 (0, 0))).cell? ⟨w.heap.size, 21, none⟩ = some (.int .i64 p.n.ce.ch) := cellS HX.out 21
    have hr := nodeAt HX.out
    have hrp := node_pk hr
    have hrl := node_pl hr
    simp only [Nat.zero_add] at hrp hrl
    have HR := Lib.hid hr
    have HRP := Lib.hid hrp
    have HRL := Lib.hid hrl
    clear hr hrp hrl
    go_enter Tryz.func46, Tryz.ntmps46
    go_wp2_with (first | (refine ldW 38 _ (valsNr p) w.heap.size 0 rfl rfl rfl Tryz.underlying38 rfl (by kernel_rfl) HR.out ?_) | (refine ldW 32 _ [.int .i64 p.n.pk.w, .int .i64 p.n.pk.h, .int .i64 p.n.pk.s, .bool p.n.pk.fx, .bool p.n.pk.fy, .bool p.n.pk.ex, .int .i64 p.n.pk.an, .int .i64 p.n.pk.px, .int .i64 p.n.pk.py] w.heap.size 7 rfl rfl rfl Tryz.underlying32 rfl (by kernel_rfl) HRP.out ?_) | (refine ldW 36 _ [.int .i64 p.n.pl.x, .int .i64 p.n.pl.y, .int .i64 p.n.pl.rx, .int .i64 p.n.pl.ry, .int .i64 p.n.pl.ww, .int .i64 p.n.pl.hh, .int .i64 p.n.pl.qw, .int .i64 p.n.pl.qh, .int .i64 p.n.pl.an] w.heap.size 25 rfl rfl rfl Tryz.underlying36 rfl (by kernel_rfl) HRL.out ?_))
    with_reducible refine (validWish_w p.n.ww p.n.hh true _ h1).mono ?_
    rintro e wq ⟨rfl, rfl⟩
    go_wp2_with (first | (refine ldW 38 _ (valsNr p) w.heap.size 0 rfl rfl rfl Tryz.underlying38 rfl (by kernel_rfl) HR.out ?_) | (refine ldW 32 _ [.int .i64 p.n.pk.w, .int .i64 p.n.pk.h, .int .i64 p.n.pk.s, .bool p.n.pk.fx, .bool p.n.pk.fy, .bool p.n.pk.ex, .int .i64 p.n.pk.an, .int .i64 p.n.pk.px, .int .i64 p.n.pk.py] w.heap.size 7 rfl rfl rfl Tryz.underlying32 rfl (by kernel_rfl) HRP.out ?_) | (refine ldW 36 _ [.int .i64 p.n.pl.x, .int .i64 p.n.pl.y, .int .i64 p.n.pl.rx, .int .i64 p.n.pl.ry, .int .i64 p.n.pl.ww, .int .i64 p.n.pl.hh, .int .i64 p.n.pl.qw, .int .i64 p.n.pl.qh, .int .i64 p.n.pl.an] w.heap.size 25 rfl rfl rfl Tryz.underlying36 rfl (by kernel_rfl) HRL.out ?_))
    with_reducible refine (within_w _ 0 2 true _ h2).mono ?_
    rintro e wq ⟨rfl, rfl⟩
    go_wp2_with (first | (refine ldW 38 _ (valsNr p) w.heap.size 0 rfl rfl rfl Tryz.underlying38 rfl (by kernel_rfl) HR.out ?_) | (refine ldW 32 _ [.int .i64 p.n.pk.w, .int .i64 p.n.pk.h, .int .i64 p.n.pk.s, .bool p.n.pk.fx, .bool p.n.pk.fy, .bool p.n.pk.ex, .int .i64 p.n.pk.an, .int .i64 p.n.pk.px, .int .i64 p.n.pk.py] w.heap.size 7 rfl rfl rfl Tryz.underlying32 rfl (by kernel_rfl) HRP.out ?_) | (refine ldW 36 _ [.int .i64 p.n.pl.x, .int .i64 p.n.pl.y, .int .i64 p.n.pl.rx, .int .i64 p.n.pl.ry, .int .i64 p.n.pl.ww, .int .i64 p.n.pl.hh, .int .i64 p.n.pl.qw, .int .i64 p.n.pl.qh, .int .i64 p.n.pl.an] w.heap.size 25 rfl rfl rfl Tryz.underlying36 rfl (by kernel_rfl) HRL.out ?_))
    with_reducible refine (validOwnLines_v p true _ (HD.out.keep HB.out) k1 k2 h3).mono ?_
    rintro e w1 ⟨rfl, hb1⟩
    clear x1 x2 x4 x7 x8 x20 x21 HR HRP HRL
    replace HX := Lib.hid ((hb1.block _ (Array.getElem?_eq_some_iff.1 HX.out).1).trans HX.out)
    replace HB := Lib.hid (bkeep2 HB.out hb1)
    clear hb1
    have x1 : w1.cell? ⟨w.heap.size, 1, none⟩ = some (.int .i64 p.n.ww) := cellS HX.out 1
    have x2 : w1.cell? ⟨w.heap.size, 2, none⟩ = some (.int .i64 p.n.hh) := cellS HX.out 2
    have x4 : w1.cell? ⟨w.heap.size, 4, none⟩ = some (.int .i64 p.n.ki) := cellS HX.out 4
    have x7 : w1.cell? ⟨w.heap.size, 7, none⟩ = some (.int .i64 p.n.pk.w) := cellS HX.out 7
    have x8 : w1.cell? ⟨w.heap.size, 8, none⟩ = some (.int .i64 p.n.pk.h) := cellS HX.out 8
    have x20 : w1.cell? ⟨w.heap.size, 20, none⟩ = some (.int .i64 p.n.ce.cw) := cellS HX.out 20
    have x21 : w1.cell? ⟨w.heap.size, 21, none⟩ = some (.int .i64 p.n.ce.ch) := cellS HX.out 21
    have hr := nodeAt HX.out
    have hrp := node_pk hr
    have hrl := node_pl hr
    simp only [Nat.zero_add] at hrp hrl
    have HR := Lib.hid hr
    have HRP := Lib.hid hrp
    have HRL := Lib.hid hrl
    clear hr hrp hrl
    go_wp2_with (first | (refine ldW 38 _ (valsNr p) w.heap.size 0 rfl rfl rfl Tryz.underlying38 rfl (by kernel_rfl) HR.out ?_) | (refine ldW 32 _ [.int .i64 p.n.pk.w, .int .i64 p.n.pk.h, .int .i64 p.n.pk.s, .bool p.n.pk.fx, .bool p.n.pk.fy, .bool p.n.pk.ex, .int .i64 p.n.pk.an, .int .i64 p.n.pk.px, .int .i64 p.n.pk.py] w.heap.size 7 rfl rfl rfl Tryz.underlying32 rfl (by kernel_rfl) HRP.out ?_) | (refine ldW 36 _ [.int .i64 p.n.pl.x, .int .i64 p.n.pl.y, .int .i64 p.n.pl.rx, .int .i64 p.n.pl.ry, .int .i64 p.n.pl.ww, .int .i64 p.n.pl.hh, .int .i64 p.n.pl.qw, .int .i64 p.n.pl.qh, .int .i64 p.n.pl.an] w.heap.size 25 rfl rfl rfl Tryz.underlying36 rfl (by kernel_rfl) HRL.out ?_))
    with_reducible refine (vp_v p.n.pk true h4 _).mono ?_
    rintro e w2 ⟨rfl, hb1⟩
    clear x1 x2 x4 x7 x8 x20 x21 HR HRP HRL
    replace HX := Lib.hid ((hb1.block _ (Array.getElem?_eq_some_iff.1 HX.out).1).trans HX.out)
    replace HB := Lib.hid (bkeep2 HB.out hb1)
    clear hb1
    have x1 : w2.cell? ⟨w.heap.size, 1, none⟩ = some (.int .i64 p.n.ww) := cellS HX.out 1
    have x2 : w2.cell? ⟨w.heap.size, 2, none⟩ = some (.int .i64 p.n.hh) := cellS HX.out 2
    have x4 : w2.cell? ⟨w.heap.size, 4, none⟩ = some (.int .i64 p.n.ki) := cellS HX.out 4
    have x7 : w2.cell? ⟨w.heap.size, 7, none⟩ = some (.int .i64 p.n.pk.w) := cellS HX.out 7
    have x8 : w2.cell? ⟨w.heap.size, 8, none⟩ = some (.int .i64 p.n.pk.h) := cellS HX.out 8
    have x20 : w2.cell? ⟨w.heap.size, 20, none⟩ = some (.int .i64 p.n.ce.cw) := cellS HX.out 20
    have x21 : w2.cell? ⟨w.heap.size, 21, none⟩ = some (.int .i64 p.n.ce.ch) := cellS HX.out 21
    have hr := nodeAt HX.out
    have hrp := node_pk hr
    have hrl := node_pl hr
    simp only [Nat.zero_add] at hrp hrl
    have HR := Lib.hid hr
    have HRP := Lib.hid hrp
    have HRL := Lib.hid hrl
    clear hr hrp hrl
    go_wp2_with (first | (refine ldW 38 _ (valsNr p) w.heap.size 0 rfl rfl rfl Tryz.underlying38 rfl (by kernel_rfl) HR.out ?_) | (refine ldW 32 _ [.int .i64 p.n.pk.w, .int .i64 p.n.pk.h, .int .i64 p.n.pk.s, .bool p.n.pk.fx, .bool p.n.pk.fy, .bool p.n.pk.ex, .int .i64 p.n.pk.an, .int .i64 p.n.pk.px, .int .i64 p.n.pk.py] w.heap.size 7 rfl rfl rfl Tryz.underlying32 rfl (by kernel_rfl) HRP.out ?_) | (refine ldW 36 _ [.int .i64 p.n.pl.x, .int .i64 p.n.pl.y, .int .i64 p.n.pl.rx, .int .i64 p.n.pl.ry, .int .i64 p.n.pl.ww, .int .i64 p.n.pl.hh, .int .i64 p.n.pl.qw, .int .i64 p.n.pl.qh, .int .i64 p.n.pl.an] w.heap.size 25 rfl rfl rfl Tryz.underlying36 rfl (by kernel_rfl) HRL.out ?_))
    go_ret
    exact ⟨rfl, HB.out⟩
  have e7 := eqb_t h7
  cases h8 : decide (p.n.ce.ch = 0)
  · obtain rfl : false = b := by rw [← hb]; simp only [ndB, h1, h2, h3, h4, h5, h6, h7, h8, Bool.false_and, Bool.true_and]
    clear hb
    have e8 := eqb_f h8
    have x1 : (w.alloc (.cells (valsNr p).toArray 38 (0, 0))).cell? ⟨w.heap.size, 1, none⟩ = some (.int .i64 p.n.ww) := cellS HX.out 1
    have x2 : (w.alloc (.cells (valsNr p).toArray 38 (0, 0))).cell? ⟨w.heap.size, 2, none⟩ = some (.int .i64 p.n.hh) := cellS HX.out 2
    have x4 : (w.alloc (.cells (valsNr p).toArray 38 (0, 0))).cell? ⟨w.heap.size, 4, none⟩ = some (.int .i64 p.n.ki) := cellS HX.out 4
    have x7 : (w.alloc (.cells (valsNr p).toArray 38 (0, 0))).cell? ⟨w.heap.size, 7, none⟩ = some (.int .i64 p.n.pk.w) := cellS HX.out 7
    have x8 : (w.alloc (.cells (valsNr p).toArray 38 (0, 0))).cell? ⟨w.heap.size, 8, none⟩ = some (.int .i64 p.n.pk.h) := cellS HX.out 8
    have x20 : (w.alloc (.cells (valsNr p).toArray 38 (0, 0))).cell? ⟨w.heap.size, 20, none⟩ = some (.int .i64 p.n.ce.cw) := cellS HX.out 20
    have x21 : (w.alloc (.cells (valsNr p).toArray 38 (0, 0))).cell? ⟨w.heap.size, 21, none⟩ = some (.int .i64 p.n.ce.ch) := cellS HX.out 21
    have hr := nodeAt HX.out
    have hrp := node_pk hr
    have hrl := node_pl hr
    simp only [Nat.zero_add] at hrp hrl
    have HR := Lib.hid hr
    have HRP := Lib.hid hrp
    have HRL := Lib.hid hrl
    clear hr hrp hrl
    go_enter Tryz.func46, Tryz.ntmps46
    go_wp2_with (first | (refine ldW 38 _ (valsNr p) w.heap.size 0 rfl rfl rfl Tryz.underlying38 rfl (by kernel_rfl) HR.out ?_) | (refine ldW 32 _ [.int .i64 p.n.pk.w, .int .i64 p.n.pk.h, .int .i64 p.n.pk.s, .bool p.n.pk.fx, .bool p.n.pk.fy, .bool p.n.pk.ex, .int .i64 p.n.pk.an, .int .i64 p.n.pk.px, .int .i64 p.n.pk.py] w.heap.size 7 rfl rfl rfl Tryz.underlying32 rfl (by kernel_rfl) HRP.out ?_) | (refine ldW 36 _ [.int .i64 p.n.pl.x, .int .i64 p.n.pl.y, .int .i64 p.n.pl.rx, .int .i64 p.n.pl.ry, .int .i64 p.n.pl.ww, .int .i64 p.n.pl.hh, .int .i64 p.n.pl.qw, .int .i64 p.n.pl.qh, .int .i64 p.n.pl.an] w.heap.size 25 rfl rfl rfl Tryz.underlying36 rfl (by kernel_rfl) HRL.out ?_))
    with_reducible refine (validWish_w p.n.ww p.n.hh true _ h1).mono ?_
    rintro e wq ⟨rfl, rfl⟩
    go_wp2_with (first | (refine ldW 38 _ (valsNr p) w.heap.size 0 rfl rfl rfl Tryz.underlying38 rfl (by kernel_rfl) HR.out ?_) | (refine ldW 32 _ [.int .i64 p.n.pk.w, .int .i64 p.n.pk.h, .int .i64 p.n.pk.s, .bool p.n.pk.fx, .bool p.n.pk.fy, .bool p.n.pk.ex, .int .i64 p.n.pk.an, .int .i64 p.n.pk.px, .int .i64 p.n.pk.py] w.heap.size 7 rfl rfl rfl Tryz.underlying32 rfl (by kernel_rfl) HRP.out ?_) | (refine ldW 36 _ [.int .i64 p.n.pl.x, .int .i64 p.n.pl.y, .int .i64 p.n.pl.rx, .int .i64 p.n.pl.ry, .int .i64 p.n.pl.ww, .int .i64 p.n.pl.hh, .int .i64 p.n.pl.qw, .int .i64 p.n.pl.qh, .int .i64 p.n.pl.an] w.heap.size 25 rfl rfl rfl Tryz.underlying36 rfl (by kernel_rfl) HRL.out ?_))
    with_reducible refine (within_w _ 0 2 true _ h2).mono ?_
    rintro e wq ⟨rfl, rfl⟩
    go_wp2_with (first | (refine ldW 38 _ (valsNr p) w.heap.size 0 rfl rfl rfl Tryz.underlying38 rfl (by kernel_rfl) HR.out ?_) | (refine ldW 32 _ [.int .i64 p.n.pk.w, .int .i64 p.n.pk.h, .int .i64 p.n.pk.s, .bool p.n.pk.fx, .bool p.n.pk.fy, .bool p.n.pk.ex, .int .i64 p.n.pk.an, .int .i64 p.n.pk.px, .int .i64 p.n.pk.py] w.heap.size 7 rfl rfl rfl Tryz.underlying32 rfl (by kernel_rfl) HRP.out ?_) | (refine ldW 36 _ [.int .i64 p.n.pl.x, .int .i64 p.n.pl.y, .int .i64 p.n.pl.rx, .int .i64 p.n.pl.ry, .int .i64 p.n.pl.ww, .int .i64 p.n.pl.hh, .int .i64 p.n.pl.qw, .int .i64 p.n.pl.qh, .int .i64 p.n.pl.an] w.heap.size 25 rfl rfl rfl Tryz.underlying36 rfl (by kernel_rfl) HRL.out ?_))
    with_reducible refine (validOwnLines_v p true _ (HD.out.keep HB.out) k1 k2 h3).mono ?_
    rintro e w1 ⟨rfl, hb1⟩
    clear x1 x2 x4 x7 x8 x20 x21 HR HRP HRL
    replace HX := Lib.hid ((hb1.block _ (Array.getElem?_eq_some_iff.1 HX.out).1).trans HX.out)
    replace HB := Lib.hid (bkeep2 HB.out hb1)
    clear hb1
    have x1 : w1.cell? ⟨w.heap.size, 1, none⟩ = some (.int .i64 p.n.ww) := cellS HX.out 1
    have x2 : w1.cell? ⟨w.heap.size, 2, none⟩ = some (.int .i64 p.n.hh) := cellS HX.out 2
    have x4 : w1.cell? ⟨w.heap.size, 4, none⟩ = some (.int .i64 p.n.ki) := cellS HX.out 4
    have x7 : w1.cell? ⟨w.heap.size, 7, none⟩ = some (.int .i64 p.n.pk.w) := cellS HX.out 7
    have x8 : w1.cell? ⟨w.heap.size, 8, none⟩ = some (.int .i64 p.n.pk.h) := cellS HX.out 8
    have x20 : w1.cell? ⟨w.heap.size, 20, none⟩ = some (.int .i64 p.n.ce.cw) := cellS HX.out 20
    have x21 : w1.cell? ⟨w.heap.size, 21, none⟩ = some (.int .i64 p.n.ce.ch) := cellS HX.out 21
    have hr := nodeAt HX.out
    have hrp := node_pk hr
    have hrl := node_pl hr
    simp only [Nat.zero_add] at hrp hrl
    have HR := Lib.hid hr
    have HRP := Lib.hid hrp
    have HRL := Lib.hid hrl
    clear hr hrp hrl
    go_wp2_with (first | (refine ldW 38 _ (valsNr p) w.heap.size 0 rfl rfl rfl Tryz.underlying38 rfl (by kernel_rfl) HR.out ?_) | (refine ldW 32 _ [.int .i64 p.n.pk.w, .int .i64 p.n.pk.h, .int .i64 p.n.pk.s, .bool p.n.pk.fx, .bool p.n.pk.fy, .bool p.n.pk.ex, .int .i64 p.n.pk.an, .int .i64 p.n.pk.px, .int .i64 p.n.pk.py] w.heap.size 7 rfl rfl rfl Tryz.underlying32 rfl (by kernel_rfl) HRP.out ?_) | (refine ldW 36 _ [.int .i64 p.n.pl.x, .int .i64 p.n.pl.y, .int .i64 p.n.pl.rx, .int .i64 p.n.pl.ry, .int .i64 p.n.pl.ww, .int .i64 p.n.pl.hh, .int .i64 p.n.pl.qw, .int .i64 p.n.pl.qh, .int .i64 p.n.pl.an] w.heap.size 25 rfl rfl rfl Tryz.underlying36 rfl (by kernel_rfl) HRL.out ?_))
    with_reducible refine (vp_v p.n.pk true h4 _).mono ?_
    rintro e w2 ⟨rfl, hb1⟩
    clear x1 x2 x4 x7 x8 x20 x21 HR HRP HRL
    replace HX := Lib.hid ((hb1.block _ (Array.getElem?_eq_some_iff.1 HX.out).1).trans HX.out)
    replace HB := Lib.hid (bkeep2 HB.out hb1)
    clear hb1
    have x1 : w2.cell? ⟨w.heap.size, 1, none⟩ = some (.int .i64 p.n.ww) := cellS HX.out 1
    have x2 : w2.cell? ⟨w.heap.size, 2, none⟩ = some (.int .i64 p.n.hh) := cellS HX.out 2
    have x4 : w2.cell? ⟨w.heap.size, 4, none⟩ = some (.int .i64 p.n.ki) := cellS HX.out 4
    have x7 : w2.cell? ⟨w.heap.size, 7, none⟩ = some (.int .i64 p.n.pk.w) := cellS HX.out 7
    have x8 : w2.cell? ⟨w.heap.size, 8, none⟩ = some (.int .i64 p.n.pk.h) := cellS HX.out 8
    have x20 : w2.cell? ⟨w.heap.size, 20, none⟩ = some (.int .i64 p.n.ce.cw) := cellS HX.out 20
    have x21 : w2.cell? ⟨w.heap.size, 21, none⟩ = some (.int .i64 p.n.ce.ch) := cellS HX.out 21
    have hr := nodeAt HX.out
    have hrp := node_pk hr
    have hrl := node_pl hr
    simp only [Nat.zero_add] at hrp hrl
    have HR := Lib.hid hr
    have HRP := Lib.hid hrp
    have HRL := Lib.hid hrl
    clear hr hrp hrl
    go_wp2_with (first | (refine ldW 38 _ (valsNr p) w.heap.size 0 rfl rfl rfl Tryz.underlying38 rfl (by kernel_rfl) HR.out ?_) | (refine ldW 32 _ [.int .i64 p.n.pk.w, .int .i64 p.n.pk.h, .int .i64 p.n.pk.s, .bool p.n.pk.fx, .bool p.n.pk.fy, .bool p.n.pk.ex, .int .i64 p.n.pk.an, .int .i64 p.n.pk.px, .int .i64 p.n.pk.py] w.heap.size 7 rfl rfl rfl Tryz.underlying32 rfl (by kernel_rfl) HRP.out ?_) | (refine ldW 36 _ [.int .i64 p.n.pl.x, .int .i64 p.n.pl.y, .int .i64 p.n.pl.rx, .int .i64 p.n.pl.ry, .int .i64 p.n.pl.ww, .int .i64 p.n.pl.hh, .int .i64 p.n.pl.qw, .int .i64 p.n.pl.qh, .int .i64 p.n.pl.an] w.heap.size 25 rfl rfl rfl Tryz.underlying36 rfl (by kernel_rfl) HRL.out ?_))
    go_ret
    exact ⟨rfl, HB.out⟩
  have e8 := eqb_t h8
  have h9 : plB p.n.pl = b := by rw [← hb]; simp only [ndB, h1, h2, h3, h4, h5, h6, h7, h8, Bool.true_and]
  clear hb
  cases b
  all_goals
    have x1 : (w.alloc (.cells (valsNr p).toArray 38 (0, 0))).cell? ⟨w.heap.size, 1, none⟩ = some (.int .i64 p.n.ww) := cellS HX.out 1
    have x2 : (w.alloc (.cells (valsNr p).toArray 38 (0, 0))).cell? ⟨w.heap.size, 2, none⟩ = some (.int .i64 p.n.hh) := cellS HX.out 2
    have x4 : (w.alloc (.cells (valsNr p).toArray 38 (0, 0))).cell? ⟨w.heap.size, 4, none⟩ = some (.int .i64 p.n.ki) := cellS HX.out 4
    have x7 : (w.alloc (.cells (valsNr p).toArray 38 (0, 0))).cell? ⟨w.heap.size, 7, none⟩ = some (.int .i64 p.n.pk.w) := cellS HX.out 7
    have x8 : (w.alloc (.cells (valsNr p).toArray 38 (0, 0))).cell? ⟨w.heap.size, 8, none⟩ = some (.int .i64 p.n.pk.h) := cellS HX.out 8
    have x20 : (w.alloc (.cells (valsNr p).toArray 38 (0, 0))).cell? ⟨w.heap.size, 20, none⟩ = some (.int .i64 p.n.ce.cw) := cellS HX.out 20
    have x21 : (w.alloc (.cells (valsNr p).toArray 38 (0, 0))).cell? ⟨w.heap.size, 21, none⟩ = some (.int .i64 p.n.ce.ch) := cellS HX.out 21
    have hr := nodeAt HX.out
    have hrp := node_pk hr
    have hrl := node_pl hr
    simp only [Nat.zero_add] at hrp hrl
    have HR := Lib.hid hr
    have HRP := Lib.hid hrp
    have HRL := Lib.hid hrl
    clear hr hrp hrl
    go_enter Tryz.func46, Tryz.ntmps46
    go_wp2_with (first | (refine ldW 38 _ (valsNr p) w.heap.size 0 rfl rfl rfl Tryz.underlying38 rfl (by kernel_rfl) HR.out ?_) | (refine ldW 32 _ [.int .i64 p.n.pk.w, .int .i64 p.n.pk.h, .int .i64 p.n.pk.s, .bool p.n.pk.fx, .bool p.n.pk.fy, .bool p.n.pk.ex, .int .i64 p.n.pk.an, .int .i64 p.n.pk.px, .int .i64 p.n.pk.py] w.heap.size 7 rfl rfl rfl Tryz.underlying32 rfl (by kernel_rfl) HRP.out ?_) | (refine ldW 36 _ [.int .i64 p.n.pl.x, .int .i64 p.n.pl.y, .int .i64 p.n.pl.rx, .int .i64 p.n.pl.ry, .int .i64 p.n.pl.ww, .int .i64 p.n.pl.hh, .int .i64 p.n.pl.qw, .int .i64 p.n.pl.qh, .int .i64 p.n.pl.an] w.heap.size 25 rfl rfl rfl Tryz.underlying36 rfl (by kernel_rfl) HRL.out ?_))
    with_reducible refine (validWish_w p.n.ww p.n.hh true _ h1).mono ?_
    rintro e wq ⟨rfl, rfl⟩
    go_wp2_with (first | (refine ldW 38 _ (valsNr p) w.heap.size 0 rfl rfl rfl Tryz.underlying38 rfl (by kernel_rfl) HR.out ?_) | (refine ldW 32 _ [.int .i64 p.n.pk.w, .int .i64 p.n.pk.h, .int .i64 p.n.pk.s, .bool p.n.pk.fx, .bool p.n.pk.fy, .bool p.n.pk.ex, .int .i64 p.n.pk.an, .int .i64 p.n.pk.px, .int .i64 p.n.pk.py] w.heap.size 7 rfl rfl rfl Tryz.underlying32 rfl (by kernel_rfl) HRP.out ?_) | (refine ldW 36 _ [.int .i64 p.n.pl.x, .int .i64 p.n.pl.y, .int .i64 p.n.pl.rx, .int .i64 p.n.pl.ry, .int .i64 p.n.pl.ww, .int .i64 p.n.pl.hh, .int .i64 p.n.pl.qw, .int .i64 p.n.pl.qh, .int .i64 p.n.pl.an] w.heap.size 25 rfl rfl rfl Tryz.underlying36 rfl (by kernel_rfl) HRL.out ?_))
    with_reducible refine (within_w _ 0 2 true _ h2).mono ?_
    rintro e wq ⟨rfl, rfl⟩
    go_wp2_with (first | (refine ldW 38 _ (valsNr p) w.heap.size 0 rfl rfl rfl Tryz.underlying38 rfl (by kernel_rfl) HR.out ?_) | (refine ldW 32 _ [.int .i64 p.n.pk.w, .int .i64 p.n.pk.h, .int .i64 p.n.pk.s, .bool p.n.pk.fx, .bool p.n.pk.fy, .bool p.n.pk.ex, .int .i64 p.n.pk.an, .int .i64 p.n.pk.px, .int .i64 p.n.pk.py] w.heap.size 7 rfl rfl rfl Tryz.underlying32 rfl (by kernel_rfl) HRP.out ?_) | (refine ldW 36 _ [.int .i64 p.n.pl.x, .int .i64 p.n.pl.y, .int .i64 p.n.pl.rx, .int .i64 p.n.pl.ry, .int .i64 p.n.pl.ww, .int .i64 p.n.pl.hh, .int .i64 p.n.pl.qw, .int .i64 p.n.pl.qh, .int .i64 p.n.pl.an] w.heap.size 25 rfl rfl rfl Tryz.underlying36 rfl (by kernel_rfl) HRL.out ?_))
    with_reducible refine (validOwnLines_v p true _ (HD.out.keep HB.out) k1 k2 h3).mono ?_
    rintro e w1 ⟨rfl, hb1⟩
    clear x1 x2 x4 x7 x8 x20 x21 HR HRP HRL
    replace HX := Lib.hid ((hb1.block _ (Array.getElem?_eq_some_iff.1 HX.out).1).trans HX.out)
    replace HB := Lib.hid (bkeep2 HB.out hb1)
    clear hb1
    have x1 : w1.cell? ⟨w.heap.size, 1, none⟩ = some (.int .i64 p.n.ww) := cellS HX.out 1
    have x2 : w1.cell? ⟨w.heap.size, 2, none⟩ = some (.int .i64 p.n.hh) := cellS HX.out 2
    have x4 : w1.cell? ⟨w.heap.size, 4, none⟩ = some (.int .i64 p.n.ki) := cellS HX.out 4
    have x7 : w1.cell? ⟨w.heap.size, 7, none⟩ = some (.int .i64 p.n.pk.w) := cellS HX.out 7
    have x8 : w1.cell? ⟨w.heap.size, 8, none⟩ = some (.int .i64 p.n.pk.h) := cellS HX.out 8
    have x20 : w1.cell? ⟨w.heap.size, 20, none⟩ = some (.int .i64 p.n.ce.cw) := cellS HX.out 20
    have x21 : w1.cell? ⟨w.heap.size, 21, none⟩ = some (.int .i64 p.n.ce.ch) := cellS HX.out 21
    have hr := nodeAt HX.out
    have hrp := node_pk hr
    have hrl := node_pl hr
    simp only [Nat.zero_add] at hrp hrl
    have HR := Lib.hid hr
    have HRP := Lib.hid hrp
    have HRL := Lib.hid hrl
    clear hr hrp hrl
    go_wp2_with (first | (refine ldW 38 _ (valsNr p) w.heap.size 0 rfl rfl rfl Tryz.underlying38 rfl (by kernel_rfl) HR.out ?_) | (refine ldW 32 _ [.int .i64 p.n.pk.w, .int .i64 p.n.pk.h, .int .i64 p.n.pk.s, .bool p.n.pk.fx, .bool p.n.pk.fy, .bool p.n.pk.ex, .int .i64 p.n.pk.an, .int .i64 p.n.pk.px, .int .i64 p.n.pk.py] w.heap.size 7 rfl rfl rfl Tryz.underlying32 rfl (by kernel_rfl) HRP.out ?_) | (refine ldW 36 _ [.int .i64 p.n.pl.x, .int .i64 p.n.pl.y, .int .i64 p.n.pl.rx, .int .i64 p.n.pl.ry, .int .i64 p.n.pl.ww, .int .i64 p.n.pl.hh, .int .i64 p.n.pl.qw, .int .i64 p.n.pl.qh, .int .i64 p.n.pl.an] w.heap.size 25 rfl rfl rfl Tryz.underlying36 rfl (by kernel_rfl) HRL.out ?_))
    with_reducible refine (vp_v p.n.pk true h4 _).mono ?_
    rintro e w2 ⟨rfl, hb1⟩
    clear x1 x2 x4 x7 x8 x20 x21 HR HRP HRL
    replace HX := Lib.hid ((hb1.block _ (Array.getElem?_eq_some_iff.1 HX.out).1).trans HX.out)
    replace HB := Lib.hid (bkeep2 HB.out hb1)
    clear hb1
    have x1 : w2.cell? ⟨w.heap.size, 1, none⟩ = some (.int .i64 p.n.ww) := cellS HX.out 1
    have x2 : w2.cell? ⟨w.heap.size, 2, none⟩ = some (.int .i64 p.n.hh) := cellS HX.out 2
    have x4 : w2.cell? ⟨w.heap.size, 4, none⟩ = some (.int .i64 p.n.ki) := cellS HX.out 4
    have x7 : w2.cell? ⟨w.heap.size, 7, none⟩ = some (.int .i64 p.n.pk.w) := cellS HX.out 7
    have x8 : w2.cell? ⟨w.heap.size, 8, none⟩ = some (.int .i64 p.n.pk.h) := cellS HX.out 8
    have x20 : w2.cell? ⟨w.heap.size, 20, none⟩ = some (.int .i64 p.n.ce.cw) := cellS HX.out 20
    have x21 : w2.cell? ⟨w.heap.size, 21, none⟩ = some (.int .i64 p.n.ce.ch) := cellS HX.out 21
    have hr := nodeAt HX.out
    have hrp := node_pk hr
    have hrl := node_pl hr
    simp only [Nat.zero_add] at hrp hrl
    have HR := Lib.hid hr
    have HRP := Lib.hid hrp
    have HRL := Lib.hid hrl
    clear hr hrp hrl
    go_wp2_with (first | (refine ldW 38 _ (valsNr p) w.heap.size 0 rfl rfl rfl Tryz.underlying38 rfl (by kernel_rfl) HR.out ?_) | (refine ldW 32 _ [.int .i64 p.n.pk.w, .int .i64 p.n.pk.h, .int .i64 p.n.pk.s, .bool p.n.pk.fx, .bool p.n.pk.fy, .bool p.n.pk.ex, .int .i64 p.n.pk.an, .int .i64 p.n.pk.px, .int .i64 p.n.pk.py] w.heap.size 7 rfl rfl rfl Tryz.underlying32 rfl (by kernel_rfl) HRP.out ?_) | (refine ldW 36 _ [.int .i64 p.n.pl.x, .int .i64 p.n.pl.y, .int .i64 p.n.pl.rx, .int .i64 p.n.pl.ry, .int .i64 p.n.pl.ww, .int .i64 p.n.pl.hh, .int .i64 p.n.pl.qw, .int .i64 p.n.pl.qh, .int .i64 p.n.pl.an] w.heap.size 25 rfl rfl rfl Tryz.underlying36 rfl (by kernel_rfl) HRL.out ?_))
    with_reducible refine (validPlace_t p.n.pl _ _ h9).mono ?_
    rintro e w3 ⟨rfl, hb1⟩
    clear x1 x2 x4 x7 x8 x20 x21 HR HRP HRL
    replace HX := Lib.hid ((hb1.block _ (Array.getElem?_eq_some_iff.1 HX.out).1).trans HX.out)
    replace HB := Lib.hid (bkeep2 HB.out hb1)
    clear hb1
    have x1 : w3.cell? ⟨w.heap.size, 1, none⟩ = some (.int .i64 p.n.ww) := cellS HX.out 1
    have x2 : w3.cell? ⟨w.heap.size, 2, none⟩ = some (.int .i64 p.n.hh) := cellS HX.out 2
    have x4 : w3.cell? ⟨w.heap.size, 4, none⟩ = some (.int .i64 p.n.ki) := cellS HX.out 4
    have x7 : w3.cell? ⟨w.heap.size, 7, none⟩ = some (.int .i64 p.n.pk.w) := cellS HX.out 7
    have x8 : w3.cell? ⟨w.heap.size, 8, none⟩ = some (.int .i64 p.n.pk.h) := cellS HX.out 8
    have x20 : w3.cell? ⟨w.heap.size, 20, none⟩ = some (.int .i64 p.n.ce.cw) := cellS HX.out 20
    have x21 : w3.cell? ⟨w.heap.size, 21, none⟩ = some (.int .i64 p.n.ce.ch) := cellS HX.out 21
    have hr := nodeAt HX.out
    have hrp := node_pk hr
    have hrl := node_pl hr
    simp only [Nat.zero_add] at hrp hrl
    have HR := Lib.hid hr
    have HRP := Lib.hid hrp
    have HRL := Lib.hid hrl
    clear hr hrp hrl
    go_wp2_with (first | (refine ldW 38 _ (valsNr p) w.heap.size 0 rfl rfl rfl Tryz.underlying38 rfl (by kernel_rfl) HR.out ?_) | (refine ldW 32 _ [.int .i64 p.n.pk.w, .int .i64 p.n.pk.h, .int .i64 p.n.pk.s, .bool p.n.pk.fx, .bool p.n.pk.fy, .bool p.n.pk.ex, .int .i64 p.n.pk.an, .int .i64 p.n.pk.px, .int .i64 p.n.pk.py] w.heap.size 7 rfl rfl rfl Tryz.underlying32 rfl (by kernel_rfl) HRP.out ?_) | (refine ldW 36 _ [.int .i64 p.n.pl.x, .int .i64 p.n.pl.y, .int .i64 p.n.pl.rx, .int .i64 p.n.pl.ry, .int .i64 p.n.pl.ww, .int .i64 p.n.pl.hh, .int .i64 p.n.pl.qw, .int .i64 p.n.pl.qh, .int .i64 p.n.pl.an] w.heap.size 25 rfl rfl rfl Tryz.underlying36 rfl (by kernel_rfl) HRL.out ?_))
    go_ret
    exact ⟨rfl, HB.out⟩
end Go.Proofs.YtgdkionmeacalabGreat
end
