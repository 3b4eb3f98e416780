import Derived.Test.YtpbfbcdidkbjiadQ02
import Derived.Deep.Draws
section
namespace Go.Proofs.Ytpbfbcdidkbjiad
open Go.RowKit
set_option linter.unusedVariables false
set_option maxHeartbeats 2000000
attribute [local go_sem 5000] run_mx run_mn
theorem put3c {S : List Nat} {a w : World} {b : Nat} (h : Chg S a w) (hb : b ∈ S ∨ a.heap.size ≤ b) (x0 x1 x2 : Value) : Chg S a (((w.setCell ⟨b, 0, none⟩ x0).setCell ⟨b, 1, none⟩ x1).setCell ⟨b, 2, none⟩ x2) := ((h.setCell hb _).setCell hb _).setCell hb _
theorem put3r {B rb : Nat} {A : Option Addr} {l c m : Nat} {w : World} {b : Nat} (h : Rd B rb A l c m w) (h0 : B ≤ b) (h1 : b ≠ rb) (x0 x1 x2 : Value) : Rd B rb A l c m (((w.setCell ⟨b, 0, none⟩ x0).setCell ⟨b, 1, none⟩ x1).setCell ⟨b, 2, none⟩ x2) :=
  ((h.setCell (p := ⟨b, 0, none⟩) h0 h1 x0).setCell (p := ⟨b, 1, none⟩) h0 h1 x1).setCell (p := ⟨b, 2, none⟩) h0 h1 x2
theorem Bts.allocV {w : World} {A : Option Addr} {n : Nat} (h : Bts w A n) (o : Obj) : Bts (w.alloc o) A n := h.alloc o
set_option maxRecDepth 100000 in
theorem someView_any {B rb : Nat} {A : Option Addr} {l c m : Nat} (w : World) (h : Rd B rb A l c m w) (hm : m ≤ 800000) :
    Calls Try.prog 18 #[.pointer (some ⟨rb, 0, none⟩)] w fun e w' => (∃ a b d : Int, e = .returned (.agg #[.int .i64 (a), .int .i64 (b), .int .i64 (d)])) ∧ Rd B rb A l c (m + 6) w' ∧ Chg [rb] w w' := by
  have hlt := h.lt
  have hbase := h.base
  go_enter Try.func18, Try.ntmps18
  go_wp2_with fail
  with_reducible refine (pick_any _ _ (h.alloc _) (by omega)).mono ?_
  rintro e w1 ⟨⟨z1, rfl, -⟩, hr1, hc1⟩
  go_wp2_with fail
  with_reducible refine (one_lit _ hr1 (by omega) (by simp) (by omega) (by omega) (by simp [isI])).mono ?_
  rintro e w2 ⟨⟨z2, rfl⟩, hr2, hc2⟩
  go_wp2_with fail
  with_reducible refine (one_lit _ hr2 (by omega) (by simp) (by omega) (by omega) (by simp [isI])).mono ?_
  rintro e w3 ⟨⟨z3, rfl⟩, hr3, hc3⟩
  have hc : Chg [rb] (w.alloc _) w3 := (hc1.trans hc2).trans hc3
  clear hc1 hc2 hc3 hr1 hr2
  have hb0 := (hc.block w.heap.size (by simp) (by simp; omega)).trans (heap_alloc_new w _)
  have hs := hc.size
  simp only [World.size_alloc] at hs
  have HC := Lib.hid ((((Chg.refl [rb] w).alloc _).trans hc).alloc (.cells #[.int .i64 (z2), .int .i64 (z3), .int .i64 (0)] 24))
  have hl7 := hr3.lt
  have hx0 := Nat.lt_of_succ_le hs
  have hn0 : w.heap.size ≠ rb := by omega
  have hB0 : B ≤ w.heap.size := by omega
  have hn1 : w3.heap.size ≠ rb := by omega
  have hB1 : B ≤ w3.heap.size := by omega
  have hn01 : w.heap.size ≠ w3.heap.size := by omega
  have hn10 : ¬ w3.heap.size = w.heap.size := by omega
  have hw1 : w.heap.size ≤ w3.heap.size := by omega
  have HR := Lib.hid (hr3.alloc (.cells #[.int .i64 (z2), .int .i64 (z3), .int .i64 (0)] 24))
  have HB1 := Lib.hid (heap_alloc_new w3 (.cells #[.int .i64 (z2), .int .i64 (z3), .int .i64 (0)] 24))
  have HB0 := Lib.hid ((Below.heap_alloc w3 (.cells #[.int .i64 (z2), .int .i64 (z3), .int .i64 (0)] 24) w.heap.size hx0).trans hb0)
  clear hc hlt hbase hs hl7 hb0 hr3
  go_upto_region 2 with (fail)
  refine wp_V (fun W => W.heap[w.heap.size]? = some (.cells #[.int .i64 (0), .int .i64 (0), .int .i64 (0)] 24 (0, 0)) ∧ W.heap[w3.heap.size]? = some (.cells #[.int .i64 (z2), .int .i64 (z3), .int .i64 (0)] 24 (0, 0)) ∧ Rd B rb A l c (m + 3) W ∧ Chg [rb] w W ∧ w3.heap.size < W.heap.size) ⟨HB0.out, HB1.out, HR.out.mono (by omega), HC.out, by simp⟩ ?_
  clear HB0 HB1 HR HC
  rintro wa ⟨k0, k1, k2, k3, hza⟩
  obtain ⟨c0, c1, c2⟩ := c3V k1
  have HB0 := Lib.hid k0
  have HB1 := Lib.hid k1
  have HR := Lib.hid k2
  have HC := Lib.hid k3
  clear k0 k1 k2 k3
  go_wp2_with fail
  with_reducible refine (pick_any _ _ HR.out (by omega)).mono ?_
  rintro e wb ⟨⟨z4, rfl, -⟩, hr4, hc4⟩
  clear c0 c1 c2
  replace HB0 := Lib.hid ((hc4.block _ (by omega) (by simpa using hn0)).trans HB0.out)
  replace HB1 := Lib.hid ((hc4.block _ (by omega) (by simpa using hn1)).trans HB1.out)
  replace HC := Lib.hid (HC.out.trans hc4)
  replace HR := Lib.hid hr4
  have hzb : w3.heap.size < wb.heap.size := Nat.lt_of_lt_of_le hza hc4.size
  clear hr4 hc4 hza
  obtain ⟨c0, c1, c2⟩ := c3V HB1.out
  obtain ⟨f0, f1, f2⟩ := f3V HB1.out
  go_upto_region 3 with (fail)
  refine wp_V (fun W => W.heap[w.heap.size]? = some (.cells #[.int .i64 (0), .int .i64 (0), .int .i64 (0)] 24 (0, 0)) ∧ W.heap[w3.heap.size]? = some (.cells #[.int .i64 (z2), .int .i64 (z3), .int .i64 (z4)] 24 (0, 0)) ∧ Rd B rb A l c (m + 4) W ∧ Chg [rb] w W ∧ w3.heap.size < W.heap.size) ⟨(Below.heap_setCell _ ⟨w3.heap.size, 2, none⟩ _ _ hn01).trans HB0.out, (putV HB1.out _).trans rfl, (HR.out.setCell (p := ⟨w3.heap.size, 2, none⟩) hB1 hn1 _).mono (by omega), HC.out.setCell (p := ⟨w3.heap.size, 2, none⟩) (.inr hw1) _, by simpa [World.setCell] using hzb⟩ ?_
  clear HB0 HB1 HR HC c0 c1 c2 f0 f1 f2 hzb
  rintro wc ⟨k0, k1, k2, k3, hzc⟩
  have HB0 := Lib.hid k0
  have HB1 := Lib.hid k1
  have HR := Lib.hid k2
  have HC := Lib.hid k3
  clear k0 k1 k2 k3
  go_wp2_with fail
  with_reducible refine (pick_any _ _ HR.out (by omega)).mono ?_
  rintro e wd ⟨⟨q, rfl, -⟩, hr5, hc5⟩
  replace HB0 := Lib.hid ((hc5.block _ (by omega) (by simpa using hn0)).trans HB0.out)
  replace HB1 := Lib.hid ((hc5.block _ hzc (by simpa using hn1)).trans HB1.out)
  replace HC := Lib.hid (HC.out.trans hc5)
  replace HR := Lib.hid hr5
  have hzd : w3.heap.size < wd.heap.size := Nat.lt_of_lt_of_le hzc hc5.size
  clear hr5 hc5 hzc
  by_cases q0 : q = 0
  · subst q0
    go_wp2_with fail
    with_reducible refine (one_lit _ HR.out (by omega) (by simp) (by omega) (by omega) (by simp [isI])).mono ?_
    rintro e we ⟨⟨z, rfl⟩, hr6, hc6⟩
    replace HB0 := Lib.hid ((hc6.block _ (by omega) (by simpa using hn0)).trans HB0.out)
    replace HB1 := Lib.hid ((hc6.block _ hzd (by simpa using hn1)).trans HB1.out)
    replace HC := Lib.hid (HC.out.trans hc6)
    replace HR := Lib.hid hr6
    clear hr6 hc6
    obtain ⟨c0, c1, c2⟩ := c3V HB1.out
    obtain ⟨f0, f1, f2⟩ := f3V HB1.out
    obtain ⟨d0, d1, d2⟩ := c3V HB0.out
    obtain ⟨g0, g1, g2⟩ := f3V HB0.out
    go_wp2
    refine bpV (fun W => W.heap[w.heap.size]? = some (.cells #[.int .i64 (z2), .int .i64 (z3), .int .i64 (z)] 24 (0, 0)) ∧ Rd B rb A l c (m + 6) W ∧ Chg [rb] w W) ⟨put3V ((Below.heap_setCell we ⟨w3.heap.size, 2, none⟩ _ _ hn01).trans HB0.out) (.int .i64 (z2)) (.int .i64 (z3)) (.int .i64 (z)), put3r ((HR.out.setCell (p := ⟨w3.heap.size, 2, none⟩) hB1 hn1 (.int .i64 z)).mono (by omega)) hB0 hn0 (.int .i64 (z2)) (.int .i64 (z3)) (.int .i64 (z)), put3c (HC.out.setCell (p := ⟨w3.heap.size, 2, none⟩) (.inr hw1) (.int .i64 z)) (.inr (Nat.le_refl _)) (.int .i64 (z2)) (.int .i64 (z3)) (.int .i64 (z))⟩ ?_
    clear HB0 HB1 HC HR c0 c1 c2 d0 d1 d2 f0 f1 f2 g0 g1 g2
    rintro W ⟨h0, hR, hC⟩
    obtain ⟨d0, d1, d2⟩ := c3V h0
    exact bodyPost_ret (v := .agg #[.int .i64 (z2), .int .i64 (z3), .int .i64 (z)]) (by simp only [results, Try.results18]; go_simp) rfl ⟨⟨_, _, _, rfl⟩, hR, hC⟩
  by_cases q1 : q = 1
  · subst q1
    go_wp2_with fail
    with_reducible refine (one_lit _ HR.out (by omega) (by simp) (by omega) (by omega) (by simp [isI])).mono ?_
    rintro e we ⟨⟨z, rfl⟩, hr6, hc6⟩
    replace HB0 := Lib.hid ((hc6.block _ (by omega) (by simpa using hn0)).trans HB0.out)
    replace HB1 := Lib.hid ((hc6.block _ hzd (by simpa using hn1)).trans HB1.out)
    replace HC := Lib.hid (HC.out.trans hc6)
    replace HR := Lib.hid hr6
    clear hr6 hc6
    obtain ⟨c0, c1, c2⟩ := c3V HB1.out
    obtain ⟨f0, f1, f2⟩ := f3V HB1.out
    obtain ⟨d0, d1, d2⟩ := c3V HB0.out
    obtain ⟨g0, g1, g2⟩ := f3V HB0.out
    go_wp2
    refine bpV (fun W => W.heap[w.heap.size]? = some (.cells #[.int .i64 (z2), .int .i64 (z), .int .i64 (z4)] 24 (0, 0)) ∧ Rd B rb A l c (m + 6) W ∧ Chg [rb] w W) ⟨put3V ((Below.heap_setCell we ⟨w3.heap.size, 1, none⟩ _ _ hn01).trans HB0.out) (.int .i64 (z2)) (.int .i64 (z)) (.int .i64 (z4)), put3r ((HR.out.setCell (p := ⟨w3.heap.size, 1, none⟩) hB1 hn1 (.int .i64 z)).mono (by omega)) hB0 hn0 (.int .i64 (z2)) (.int .i64 (z)) (.int .i64 (z4)), put3c (HC.out.setCell (p := ⟨w3.heap.size, 1, none⟩) (.inr hw1) (.int .i64 z)) (.inr (Nat.le_refl _)) (.int .i64 (z2)) (.int .i64 (z)) (.int .i64 (z4))⟩ ?_
    clear HB0 HB1 HC HR c0 c1 c2 d0 d1 d2 f0 f1 f2 g0 g1 g2
    rintro W ⟨h0, hR, hC⟩
    obtain ⟨d0, d1, d2⟩ := c3V h0
    exact bodyPost_ret (v := .agg #[.int .i64 (z2), .int .i64 (z), .int .i64 (z4)]) (by simp only [results, Try.results18]; go_simp) rfl ⟨⟨_, _, _, rfl⟩, hR, hC⟩
  by_cases q2 : q = 2
  · subst q2
    go_wp2_with fail
    with_reducible refine (one_lit _ HR.out (by omega) (by simp) (by omega) (by omega) (by simp [isI])).mono ?_
    rintro e we ⟨⟨z, rfl⟩, hr6, hc6⟩
    replace HB0 := Lib.hid ((hc6.block _ (by omega) (by simpa using hn0)).trans HB0.out)
    replace HB1 := Lib.hid ((hc6.block _ hzd (by simpa using hn1)).trans HB1.out)
    replace HC := Lib.hid (HC.out.trans hc6)
    replace HR := Lib.hid hr6
    clear hr6 hc6
    obtain ⟨c0, c1, c2⟩ := c3V HB1.out
    obtain ⟨f0, f1, f2⟩ := f3V HB1.out
    obtain ⟨d0, d1, d2⟩ := c3V HB0.out
    obtain ⟨g0, g1, g2⟩ := f3V HB0.out
    go_wp2
    refine bpV (fun W => W.heap[w.heap.size]? = some (.cells #[.int .i64 (z), .int .i64 (z3), .int .i64 (z4)] 24 (0, 0)) ∧ Rd B rb A l c (m + 6) W ∧ Chg [rb] w W) ⟨put3V ((Below.heap_setCell we ⟨w3.heap.size, 0, none⟩ _ _ hn01).trans HB0.out) (.int .i64 (z)) (.int .i64 (z3)) (.int .i64 (z4)), put3r ((HR.out.setCell (p := ⟨w3.heap.size, 0, none⟩) hB1 hn1 (.int .i64 z)).mono (by omega)) hB0 hn0 (.int .i64 (z)) (.int .i64 (z3)) (.int .i64 (z4)), put3c (HC.out.setCell (p := ⟨w3.heap.size, 0, none⟩) (.inr hw1) (.int .i64 z)) (.inr (Nat.le_refl _)) (.int .i64 (z)) (.int .i64 (z3)) (.int .i64 (z4))⟩ ?_
    clear HB0 HB1 HC HR c0 c1 c2 d0 d1 d2 f0 f1 f2 g0 g1 g2
    rintro W ⟨h0, hR, hC⟩
    obtain ⟨d0, d1, d2⟩ := c3V h0
    exact bodyPost_ret (v := .agg #[.int .i64 (z), .int .i64 (z3), .int .i64 (z4)]) (by simp only [results, Try.results18]; go_simp) rfl ⟨⟨_, _, _, rfl⟩, hR, hC⟩
  have e0 : (q == 0) = false := by simpa using q0
  have e1 : (q == 1) = false := by simpa using q1
  have e2 : (q == 2) = false := by simpa using q2
  clear q0 q1 q2
  obtain ⟨c0, c1, c2⟩ := c3V HB1.out
  obtain ⟨f0, f1, f2⟩ := f3V HB1.out
  obtain ⟨d0, d1, d2⟩ := c3V HB0.out
  obtain ⟨g0, g1, g2⟩ := f3V HB0.out
  go_wp2
  refine bpV (fun W => W.heap[w.heap.size]? = some (.cells #[.int .i64 (z2), .int .i64 (z3), .int .i64 (z4)] 24 (0, 0)) ∧ Rd B rb A l c (m + 6) W ∧ Chg [rb] w W) ⟨put3V HB0.out (.int .i64 (z2)) (.int .i64 (z3)) (.int .i64 (z4)), put3r (HR.out.mono (by omega)) hB0 hn0 (.int .i64 (z2)) (.int .i64 (z3)) (.int .i64 (z4)), put3c HC.out (.inr (Nat.le_refl _)) (.int .i64 (z2)) (.int .i64 (z3)) (.int .i64 (z4))⟩ ?_
  clear HB0 HB1 HC HR c0 c1 c2 d0 d1 d2 f0 f1 f2 g0 g1 g2
  rintro W ⟨h0, hR, hC⟩
  obtain ⟨d0, d1, d2⟩ := c3V h0
  exact bodyPost_ret (v := .agg #[.int .i64 (z2), .int .i64 (z3), .int .i64 (z4)]) (by simp only [results, Try.results18]; go_simp) rfl ⟨⟨_, _, _, rfl⟩, hR, hC⟩
set_option maxRecDepth 100000 in
theorem DrawThumbOf_any (A : Option Addr) (n c : Nat) (w : World) (h : Bts w A n) (hn : n ≤ c) (hc : c ≤ maxLen) :
    Calls Try.prog 14 #[.slice A n c] w fun e w' => (∃ a b d : Int, e = .returned (.agg #[.int .i64 (a), .int .i64 (b), .int .i64 (d)])) ∧ Below w.heap.size w w' := by
  go_enter Try.func14, Try.ntmps14
  go_wp2_with fail
  with_reducible refine (newReader_any A n c _ (Bts.allocV h _) hn hc).mono ?_
  rintro e w1 ⟨n', rfl, hr1, hc1⟩
  simp only [World.size_alloc] at hr1
  go_wp2_with fail
  with_reducible refine (someView_any _ hr1 (by omega)).mono ?_
  rintro e w2 ⟨⟨a, b, d, rfl⟩, hr2, hc2⟩
  have hb := (hc1.block w.heap.size (by simp) (by simp)).trans (heap_alloc_new w _)
  have hs := hc1.size
  simp only [World.size_alloc] at hs
  replace hb := (hc2.block w.heap.size (by omega) (by simp)).trans hb
  have hB := Lib.hid (((Chg.refl [w.heap.size + 1] w).alloc _).trans ((hc1.mono (by simp)).trans hc2))
  have HB0 := Lib.hid hb
  obtain ⟨d0, d1, d2⟩ := c3V hb
  obtain ⟨f0, f1, f2⟩ := f3V hb
  clear hb hc1 hc2 hr1 hr2 hs
  go_wp2
  refine bpV (fun W => W.heap[w.heap.size]? = some (.cells #[.int .i64 (a), .int .i64 (b), .int .i64 (d)] 24 (0, 0)) ∧ Below w.heap.size w W) ⟨put3V HB0.out _ _ _, Chg.below (put3c hB.out (.inr (Nat.le_refl _)) _ _ _) (Nat.le_refl _) (by simp)⟩ ?_
  clear HB0 hB d0 d1 d2 f0 f1 f2
  rintro W ⟨h0, hBB⟩
  obtain ⟨d0, d1, d2⟩ := c3V h0
  exact bodyPost_ret (v := .agg #[.int .i64 (a), .int .i64 (b), .int .i64 (d)]) (by simp only [results, Try.results14]; go_simp) rfl ⟨⟨_, _, _, rfl⟩, hBB⟩
set_option maxRecDepth 100000 in
theorem DrawMoveTo_any (A : Option Addr) (n c : Nat) (w : World) (h : Bts w A n) (hn : n ≤ c) (hc : c ≤ maxLen) :
    Calls Try.prog 6 #[.slice A n c] w fun e w' => (∃ a b d r : Int, e = .returned (.tuple #[.agg #[.int .i64 (a), .int .i64 (b), .int .i64 (d)], .int .i64 r])) ∧ Below w.heap.size w w' := by
  go_enter Try.func6, Try.ntmps6
  go_wp2_with fail
  with_reducible refine (newReader_any A n c _ (Bts.allocV h _) hn hc).mono ?_
  rintro e w1 ⟨n', rfl, hr1, hc1⟩
  simp only [World.size_alloc] at hr1
  go_wp2_with fail
  with_reducible refine (someView_any _ hr1 (by omega)).mono ?_
  rintro e w2 ⟨⟨a, b, d, rfl⟩, hr2, hc2⟩
  have hb := (hc1.block w.heap.size (by simp) (by simp)).trans (heap_alloc_new w _)
  have hs := hc1.size
  simp only [World.size_alloc] at hs
  replace hb := (hc2.block w.heap.size (by omega) (by simp)).trans hb
  have hB := Lib.hid (((Chg.refl [w.heap.size + 1] w).alloc _).trans ((hc1.mono (by simp)).trans hc2))
  have hlt2 : w.heap.size < w2.heap.size := lt_of_heap hb
  go_wp2_with fail
  with_reducible refine (one_lit _ hr2 (by omega) (by simp) (by omega) (by omega) (by simp [isI])).mono ?_
  rintro e w3 ⟨⟨r, rfl⟩, hr3, hc3⟩
  replace hb := (hc3.block w.heap.size hlt2 (by simp)).trans hb
  replace hB := Lib.hid (hB.out.trans hc3)
  have HB0 := Lib.hid hb
  obtain ⟨d0, d1, d2⟩ := c3V hb
  obtain ⟨f0, f1, f2⟩ := f3V hb
  clear hb hc1 hc2 hr1 hr2 hs hr3 hc3
  go_wp2
  refine bpV (fun W => W.heap[w.heap.size]? = some (.cells #[.int .i64 (a), .int .i64 (b), .int .i64 (d)] 24 (0, 0)) ∧ Below w.heap.size w W) ⟨put3V HB0.out _ _ _, Chg.below (put3c hB.out (.inr (Nat.le_refl _)) _ _ _) (Nat.le_refl _) (by simp)⟩ ?_
  clear HB0 hB d0 d1 d2 f0 f1 f2
  rintro W ⟨h0, hBB⟩
  obtain ⟨d0, d1, d2⟩ := c3V h0
  exact bodyPost_ret (v := .tuple #[.agg #[.int .i64 (a), .int .i64 (b), .int .i64 (d)], .int .i64 r]) (by simp only [results, Try.results6]; go_simp) rfl ⟨⟨_, _, _, _, rfl⟩, hBB⟩
end Go.Proofs.Ytpbfbcdidkbjiad
end
section
namespace Go.Proofs.Ytpbfbcdidkbjiad
open Go Go.RowKit
set_option linter.unusedVariables false
section
variable {P : Program}
def rgC (l : List Oper) (size : Nat) : Bool :=
  Region.noSelect l.toArray &&
  ((List.range l.length).all fun i => match l[i]? with
    | none => true
    | some o => (o.after.toList.all fun e => !Region.binds .any e || decide (e.on < i)) &&
      (o.dst.all fun d => decide (d < size) && dstIdx d l 0 == some i) &&
      ((o.looksAt l.toArray).all fun t => match dstIdx t l 0 with
        | none => true
        | some j => o.after.toList.any fun e => e.on == j && Region.binds .any e))
theorem wp_region_rgc {id : Nat} {l : List Oper} {Q : Exit → Act → World → Prop} {a0 : Act} {w : World} (T : Nat → Value → World → Prop) (R : World → World → Prop) (I : Nat → World → Prop)
    (hm : P.follows .mixedOrders = true) (hB : rgC l a0.tmps.size = true) (hRr : ∀ a, R a a) (hRt : ∀ a b c, R a b → R b c → R a c) (hTs : ∀ k v a b, T k v a → R a b → T k v b) (hI0 : I 0 w.drew)
    (hops : opsOK P l T R I a0 w.drew l 0) (hfin : ∀ w', R w.drew w' → I l.length w' → finP T w' (fun a' => Q .normal a' w') l 0 a0) : (Code.region id l.toArray true).wp P Q a0 w := by
  simp only [rgC, Bool.and_eq_true] at hB
  obtain ⟨hns, hB⟩ := hB
  have hB' : ∀ (i : Nat) (o : Oper), l[i]? = some o → (∀ e ∈ o.after, Region.binds .any e = true → e.on < i) ∧ (∀ d, o.dst = some d → d < a0.tmps.size ∧ dstIdx d l 0 = some i) ∧ (∀ t ∈ o.looksAt l.toArray, ∀ j, dstIdx t l 0 = some j → ∃ e ∈ o.after, e.on = j ∧ Region.binds .any e = true) := by
    intro i o ho
    have hlt := (List.getElem?_eq_some_iff.1 ho).1
    have h1 := List.all_eq_true.1 hB i (List.mem_range.2 hlt)
    simp only [ho, Bool.and_eq_true] at h1
    obtain ⟨⟨h1, h2⟩, h3⟩ := h1
    refine ⟨fun e he hb => by have := List.all_eq_true.1 h1 e (by simpa using he); simpa [hb] using this, fun d hd => ?_, fun t ht j hj => ?_⟩
    · rw [hd] at h2
      simp only [Option.all_some, Bool.and_eq_true, decide_eq_true_eq, beq_iff_eq] at h2
      exact h2
    · have h4 := List.all_eq_true.1 h3 t ht
      rw [hj] at h4
      obtain ⟨e, he, h5⟩ := List.any_eq_true.1 h4
      simp only [Bool.and_eq_true, beq_iff_eq] at h5
      exact ⟨e, by simpa using he, h5⟩
  have hdist : ∀ (i : Nat) (o : Oper) (j : Nat) (p : Oper), l[i]? = some o → l[j]? = some p → i ≠ j → ∀ d, o.dst = some d → p.dst ≠ some d := by
    intro i o j p ho hp hij d hd hpd
    have h1 := ((hB' i o ho).2.1 d hd).2
    rw [((hB' j p hp).2.1 d hpd).2] at h1
    injection h1 with h1
    exact hij h1.symm
  have main : ∀ (fuel m : Nat) (listed : Array Bool) (a : Act) (w' : World), cntF (fun i => listed.getD i true) l.length = fuel → listed.size = l.length → fuel + m = l.length → RJ l T R I a0 w.drew m listed a w' →
      wpAny P .any l.toArray Q fuel listed a w' := by
    intro fuel
    have hdone : ∀ (m : Nat) (listed : Array Bool) (a : Act) (w' : World), m = l.length → (∀ i, i < l.length → listed.getD i false = true) → RJ l T R I a0 w.drew m listed a w' → Q .normal a w' := by
      rintro m listed a w' rfl hall ⟨hR, hI, hd, hs, ht, hT⟩
      refine finP_to (T := T) (w := w') (F := fun a' => Q .normal a' w') (l := l) (k := 0) (b := a0) hd.symm hs.symm (fun t h => ?_) (fun j o ho hn => ?_) (hfin w' hR hI)
      · exact (ht t fun j o ho _ => h o (List.mem_of_getElem? ho)).symm
      · rw [Nat.zero_add]; exact hT j o ho (hall j (List.getElem?_eq_some_iff.1 ho).1) hn
    have hnil : ∀ (listed : Array Bool), listed.size = l.length → Region.ready .any l.toArray listed = [] → ∀ i, i < l.length → listed.getD i false = true := by
      intro listed hls hr i
      induction i using Nat.strongRecOn with
      | ind i ih =>
        intro hi
        by_cases hl : listed.getD i false = true
        · exact hl
        · exfalso
          have ho : l[i]? = some l[i] := List.getElem?_eq_getElem hi
          have hmem : i ∈ Region.ready .any l.toArray listed := mem_ready.2 ⟨by
            rw [Array.getD_eq_getD_getElem?, Array.getElem?_eq_getElem (by omega)] at *
            simp only [Option.getD_some, Bool.not_eq_true] at *
            exact hl, l[i], by simp, fun e he hb => ih e.on ((hB' i _ ho).1 e he hb) (by have := (hB' i _ ho).1 e he hb; omega)⟩
          rw [hr] at hmem
          cases hmem
    induction fuel with
    | zero =>
      intro m listed a w' hc hls hm' hJ
      have hall : ∀ i, i < l.length → listed.getD i false = true := fun i hi => by
        have := cntF_zero hc i hi
        rw [Array.getD_eq_getD_getElem?, Array.getElem?_eq_getElem (by omega)] at *
        simpa using this
      refine ⟨?_, hdone m listed a w' (by omega) hall hJ⟩
      cases hr : Region.ready .any l.toArray listed with
      | nil => rfl
      | cons x xs =>
        exfalso
        obtain ⟨h0, o, ho, _⟩ := mem_ready.1 (show x ∈ Region.ready .any l.toArray listed by rw [hr]; exact List.mem_cons_self)
        have hlt : x < l.length := by have := (Array.getElem?_eq_some_iff.1 ho).1; simpa using this
        have := hall x hlt
        rw [Array.getD_eq_getD_getElem?, Array.getElem?_eq_getElem (by omega)] at *
        simp at h0 this
        rw [h0] at this
        cases this
    | succ fuel ih =>
      intro m listed a w' hc hls hm' hJ
      refine ⟨fun hr => ?_, fun i hi => ?_⟩
      · exfalso
        have hall := hnil listed hls hr
        have : cntF (fun i => listed.getD i true) l.length = 0 := by
          rw [cntF_same (g := fun _ => true) (fun i hi => by
            have := hall i hi
            rw [Array.getD_eq_getD_getElem?, Array.getElem?_eq_getElem (by omega)] at *
            simpa using this)]
          clear hc hm' hls
          induction l.length with
          | zero => rfl
          | succ n ihn => simp [cntF, ihn]
        omega
      · obtain ⟨h0, o, ho', hall⟩ := mem_ready.1 hi
        have ho : l[i]? = some o := by simpa using ho'
        have hlt : i < l.length := (List.getElem?_eq_some_iff.1 ho).1
        obtain ⟨hR, hI, hd, hs, ht, hT⟩ := hJ
        obtain ⟨b1, b2, b3⟩ := hB' i o ho
        have hlook : ∀ t ∈ o.looksAt l.toArray, match dstIdx t l 0 with | some j => T j (tv a t) w' | none => tv a t = tv a0 t := by
          intro t htm
          cases hj : dstIdx t l 0 with
          | none =>
            refine tv_of (ht t fun j p hp _ => dstIdx_none hj p (List.mem_of_getElem? hp))
          | some j =>
            obtain ⟨e, he, rfl, hb⟩ := b3 t htm j hj
            obtain ⟨_, p, hp, hpd⟩ := dstIdx_some hj
            have := hT e.on p (by simpa using hp) (hall e he hb) (by rw [hpd]; simp)
            rw [hpd] at this
            exact this
        have hop := look_of hlook (opsOK_at hops ho m a w' (by omega) hR hI)
        rw [Nat.zero_add] at hop
        have hget : ∀ d, (listed.setIfInBounds i true).getD i d = true := fun d => by
          rw [Array.getD_eq_getD_getElem?, Array.getElem?_setIfInBounds_self_of_lt (by omega)]; rfl
        have next : ∀ v w1, T i v w1 → R w' w1 → I (m + 1) w1 → wpAny P .any l.toArray Q fuel (listed.setIfInBounds i true) (a.put o.dst v) w1 := by
          intro v w1 hTv hR1 hI1
          refine ih (m + 1) _ _ _ ?_ (by simpa using hls) (by omega) ⟨hRt _ _ _ hR hR1, hI1, (put_defers' _ _ _).trans hd, (put_size _ _ _).trans hs, fun t h => ?_, fun j p hp hl hn => ?_⟩
          · have := cntF_set (f := fun i => listed.getD i true) (g := fun j => (listed.setIfInBounds i true).getD j true) (i := i) h0 (hget true) (fun j hj => getD_set_ne true (Ne.symm hj)) hlt
            omega
          · have hne : o.dst ≠ some t := h i o ho (hget false)
            rw [put_ne _ _ _ hne]
            exact ht t fun j p hp hl => h j p hp (getD_set_true hl)
          · by_cases e : i = j
            · subst e
              rw [ho] at hp
              obtain rfl := Option.some.inj hp
              cases hod : o.dst with
              | none => exact absurd hod hn
              | some d =>
                have : tv (a.put (some d) v) d = v := by
                  unfold tv
                  rw [Array.getD_eq_getD_getElem?, put_same _ _ _ (by rw [hs]; exact (b2 d hod).1)]
                  rfl
                simp only [vof]
                rw [this]
                exact hTv
            · rw [getD_set_ne false e] at hl
              have h2 := hTs j _ w' w1 (hT j p hp hl hn) hR1
              cases hpd : p.dst with
              | none => exact absurd hpd hn
              | some d =>
                rw [hpd] at h2
                simp only [vof] at h2 ⊢
                rw [show tv (a.put o.dst v) d = tv a d from tv_of (put_ne _ _ _ (fun hod => hdist i o j p ho hp e d hod hpd))]
                exact h2
        unfold wpOp
        simp only [ho']
        cases hg : o.guard with
        | none =>
          rw [hg] at hop
          rw [if_pos (by simp [Region.wanted, hg])]
          exact .inl (wp_of_gives hop fun v w1 ⟨h1, h2, h3⟩ => next v w1 h1 h2 h3)
        | some g =>
          rw [hg] at hop
          obtain ⟨g1, g2⟩ := hop
          split
          · rename_i hw
            exact .inl (wp_of_gives (g1 hw) fun v w1 ⟨h1, h2, h3⟩ => next v w1 h1 h2 h3)
          · rename_i hw
            obtain ⟨h1, h2⟩ := g2 (by simpa using hw)
            exact next undef w' h1 (hRr _) h2
  refine wp_region_any hm ?_
  refine main l.toArray.size 0 _ a0 w.drew ?_ (by simp) (by simp) ⟨hRr _, hI0, rfl, rfl, fun t _ => rfl, fun j o ho hl => ?_⟩
  · have : ∀ n, n ≤ l.length → cntF (fun i => (Array.replicate l.toArray.size false).getD i true) n = n := by
      intro n
      induction n with
      | zero => intro _; rfl
      | succ n ihn =>
        intro hn
        simp only [cntF]
        rw [ihn (by omega)]
        have : (Array.replicate l.toArray.size false).getD n true = false := by
          rw [Array.getD_eq_getD_getElem?, Array.getElem?_replicate, if_pos (by simp; omega)]; rfl
        rw [if_neg (by rw [this]; decide)]
    simpa using this l.length (Nat.le_refl _)
  · exfalso
    rw [Array.getD_eq_getD_getElem?, Array.getElem?_replicate] at hl
    split at hl <;> simp at hl
theorem wp_region_rglc {id : Nat} {l : List Oper} {Q : Exit → Act → World → Prop} {a0 : Act} {w : World} (T : Nat → Value → World → Prop) (R : World → World → Prop) (I : Nat → World → Prop)
    (hm : P.follows .mixedOrders = true) (hB : rgC l a0.tmps.size = true) (hRr : ∀ a, R a a) (hRt : ∀ a b c, R a b → R b c → R a c) (hTs : ∀ k v a b, T k v a → R a b → T k v b) (hI0 : I 0 w.drew)
    (hops : opsOK P l T R I a0 w.drew l 0) (hfin : ∀ w', R w.drew w' → I l.length w' → finP T w' (fun a' => Q .normal a' w') l 0 a0) : (Code.region id l.toArray true).wp P Q a0 w := wp_region_rgc T R I hm hB hRr hRt hTs hI0 hops hfin
end
end Go.Proofs.Ytpbfbcdidkbjiad
end
section
namespace Go.Proofs.Ytpbfbcdidkbjiad
open Go.RowKit
set_option linter.unusedVariables false
set_option maxHeartbeats 2000000
attribute [local go_sem] givesUpon_value givesUpon_skip givesUpon_enter
structure HVw (B rb bx b0 : Nat) (A : Option Addr) (n c : Nat) (a b d : Int) (m : Nat) (w : World) : Prop where
  rd : Rd B rb A n c m w
  hx : w.heap[bx]? = some (.cells #[.int .i64 a, .int .i64 b, .int .i64 d] 24 (0, 0))
  h0 : ∃ x y z : Int, w.heap[b0]? = some (.cells #[.int .i64 x, .int .i64 y, .int .i64 z] 24 (0, 0))
  n1 : bx ≠ rb
  n2 : b0 ≠ rb
  n3 : bx ≠ b0
  l1 : B ≤ b0
section
variable {B rb bx b0 : Nat} {A : Option Addr} {n c : Nat} {a b d : Int} {m : Nat} {w w' : World}
theorem HVw.base (h : HVw B rb bx b0 A n c a b d m w) : B ≤ w.heap.size := by have := h.rd.lt; have := h.rd.base; omega
theorem HVw.lts (h : HVw B rb bx b0 A n c a b d m w) : ∀ k ∈ [rb, b0], k < w.heap.size := by
  obtain ⟨x, y, z, ha⟩ := h.h0
  have h1 := h.rd.lt
  have h2 := lt_of_heap ha
  simp [h1, h2]
theorem HVw.next (h : HVw B rb bx b0 A n c a b d m w) : HVw B rb bx b0 A n c a b d (m + 1) w := ⟨h.rd.mono (by omega), h.hx, h.h0, h.n1, h.n2, h.n3, h.l1⟩
theorem HVw.drew (h : HVw B rb bx b0 A n c a b d m w) : HVw B rb bx b0 A n c a b d m w.drew := ⟨h.rd.drew, h.hx, h.h0, h.n1, h.n2, h.n3, h.l1⟩
theorem HVw.alloc (h : HVw B rb bx b0 A n c a b d m w) (o : Obj) : HVw B rb bx b0 A n c a b d (m + 1) (w.alloc o) :=
  ⟨(h.rd.alloc o).mono (by omega), (Below.heap_alloc _ _ _ (lt_of_heap h.hx)).trans h.hx, let ⟨x, y, z, ha⟩ := h.h0; ⟨x, y, z, (Below.heap_alloc _ _ _ (lt_of_heap ha)).trans ha⟩, h.n1, h.n2, h.n3, h.l1⟩
theorem HVw.call {m' : Nat} (h : HVw B rb bx b0 A n c a b d m w) (hr : Rd B rb A n c m' w') (hc : Chg [rb] w w') : HVw B rb bx b0 A n c a b d m' w' :=
  ⟨hr, (hc.block _ (lt_of_heap h.hx) (by simpa using h.n1)).trans h.hx, let ⟨x, y, z, ha⟩ := h.h0; ⟨x, y, z, (hc.block _ (lt_of_heap ha) (by simpa using h.n2)).trans ha⟩, h.n1, h.n2, h.n3, h.l1⟩
theorem HVw.store0 (h : HVw B rb bx b0 A n c a b d m w) : HVw B rb bx b0 A n c a b d (m + 1) (((w.setCell ⟨b0, 0, none⟩ (.int .i64 a)).setCell ⟨b0, 1, none⟩ (.int .i64 b)).setCell ⟨b0, 2, none⟩ (.int .i64 d)) := by
  obtain ⟨x, y, z, ha⟩ := h.h0
  have hc := put3c (b := b0) (Chg.refl [b0] w) (.inl (by simp)) (.int .i64 a) (.int .i64 b) (.int .i64 d)
  exact ⟨(put3r h.rd h.l1 h.n2 _ _ _).mono (by omega), (hc.block bx (lt_of_heap h.hx) (by simpa using h.n3)).trans h.hx, ⟨a, b, d, put3V ha _ _ _⟩, h.n1, h.n2, h.n3, h.l1⟩
end
set_option maxRecDepth 100000 in
theorem DrawSeeLine_any (A : Option Addr) (n c : Nat) (w : World) (h : Bts w A n) (hn : n ≤ c) (hc : c ≤ maxLen) :
    Calls Try.prog 11 #[.slice A n c] w fun e w' => (∃ x y z r : Int, e = .returned (.tuple #[.agg #[.int .i64 (x), .int .i64 (y), .int .i64 (z)], .int .i64 r])) ∧ Below w.heap.size w w' := by
  go_enter Try.func11, Try.ntmps11
  go_wp2_with fail
  with_reducible refine (newReader_low A n c _ h (by simp) (h.alloc _) hn hc).mono ?_
  rintro e w1 ⟨n', rfl, hr1, hc1⟩
  simp only [World.size_alloc] at hr1
  go_wp2_with fail
  with_reducible refine (someView_any _ hr1 (by omega)).mono ?_
  rintro e w2 ⟨⟨ia, ib, ic, rfl⟩, hr2, hc2⟩
  have hs := hc1.size
  have hs2 := hc2.size
  simp only [World.size_alloc] at hs
  have Hc : Chg [w.heap.size + 1] _ w2 := (hc1.mono (by simp)).trans hc2
  have hb := (Hc.block w.heap.size (by simp) (by simp)).trans (heap_alloc_new w _)
  have hB : Chg [w.heap.size + 1, w.heap.size] w w2 := (((Chg.refl [w.heap.size + 1] w).alloc _).trans Hc).mono (by simp)
  have hl := hr2.lt
  have hlt2 : w.heap.size < w2.heap.size := by omega
  have hlt3 : w2.heap.size ≠ w.heap.size + 1 := by omega
  have hlt4 : w2.heap.size ≠ w.heap.size := by omega
  go_upto_region 3 with (fail)
  generalize hW : w2.alloc (.cells #[.int .i64 ia, .int .i64 ib, .int .i64 ic] 24) = W at *
  have HI0 : HVw w.heap.size (w.heap.size + 1) w2.heap.size w.heap.size A n' c ia ib ic (20 + 0) W.drew := by
    subst hW
    exact HVw.drew ⟨(hr2.alloc _).mono (by omega), heap_alloc_new _ _, ⟨0, 0, 0, (Below.heap_alloc _ _ _ hlt2).trans hb⟩, hlt3, by omega, hlt4, Nat.le_refl _⟩
  have HB : Chg [w.heap.size + 1, w.heap.size] w W.drew := by
    subst hW
    exact (hB.alloc _).drew
  generalize hbx : w2.heap.size = bx at *
  generalize hrb : w.heap.size + 1 = rb at *
  generalize hb0 : w.heap.size = b0 at *
  have Hb0 := Lib.hid hb0
  have Hrb := Lib.hid hrb
  have Hn : bx ≠ b0 := hlt4
  clear hW hB hb Hc hc1 hc2 hr1 hr2 hs hs2 h hlt2 hlt3 hlt4 hl hbx hb0 hrb
  refine wp_region_rglc (fun k => (TV (.agg #[.int .i64 ia, .int .i64 ib, .int .i64 ic]) :: TV (.pointer (some ⟨rb, 0, none⟩)) :: TV (.pointer (some ⟨bx, 2, none⟩)) :: TV (.int .i64 ic) :: TV (.pointer (some ⟨bx, 2, none⟩)) :: TV (.int .i64 ic) :: TV (.pointer (some ⟨bx, 1, none⟩)) :: TV (.int .i64 ib) :: TI :: TV (.pointer (some ⟨bx, 0, none⟩)) :: TV (.int .i64 ia) :: TI :: TV (.pointer (some ⟨bx, 0, none⟩)) :: TV (.int .i64 ia) :: TV (.pointer (some ⟨rb, 0, none⟩)) :: TI :: TL b0 [rb, b0] 7 :: TI :: TT0 :: TI :: [] : List (Value → World → Prop)).getD k TT0) (Chg [rb, b0]) (fun m w => HVw b0 rb bx b0 A n' c ia ib ic (20 + m) w) (by kernel_rfl) (by kernel_rfl) (fun a => Chg.refl _ a) (fun _ _ _ h k => h.trans k) ?hTs ?hI0 ?hops ?hfin
  case hI0 => exact HI0
  case hops =>
    refine ⟨opOK_ds [(5, none)] (by kernel_rfl) rfl ?_, ?_⟩
    · intro m a w hm hR hI h1
      have hk : ∀ v, a.eval (.const v) = v := fun _ => rfl
      have hf : ∀ f, a.eval (.func f) = .func (.func f) #[] #[] := fun _ => rfl
      generalize a.eval = ρ at *
      have hm : m < 20 := hm
      obtain ⟨c0, c1, c2⟩ := c3V hI.hx
      replace h1 : ρ (.tmp 5) = .pointer (some ⟨bx, 0, none⟩) := h1
      refine gives_gen (fun K hK => ?_)
      go_simp
      exact hK _ _ ⟨rfl, Chg.refl _ _, hI.next⟩
    refine ⟨opOK_ds [(4, none)] (by kernel_rfl) rfl ?_, ?_⟩
    · intro m a w hm hR hI h1
      have hk : ∀ v, a.eval (.const v) = v := fun _ => rfl
      have hf : ∀ f, a.eval (.func f) = .func (.func f) #[] #[] := fun _ => rfl
      generalize a.eval = ρ at *
      have hm : m < 20 := hm
      replace h1 : ρ (.tmp 4) = .pointer (some ⟨rb, 0, none⟩) := h1
      refine gives_gen (fun K hK => ?_)
      go_simp
      exact hK _ _ ⟨rfl, Chg.refl _ _, hI.next⟩
    refine ⟨opOK_ds [(5, none)] (by kernel_rfl) rfl ?_, ?_⟩
    · intro m a w hm hR hI h1
      have hk : ∀ v, a.eval (.const v) = v := fun _ => rfl
      have hf : ∀ f, a.eval (.func f) = .func (.func f) #[] #[] := fun _ => rfl
      generalize a.eval = ρ at *
      have hm : m < 20 := hm
      replace h1 : ρ (.tmp 5) = .pointer (some ⟨bx, 0, none⟩) := h1
      refine gives_gen (fun K hK => ?_)
      go_simp
      exact hK _ _ ⟨rfl, Chg.refl _ _, hI.next⟩
    refine ⟨opOK_ds [(12, some 2)] (by kernel_rfl) rfl ?_, ?_⟩
    · intro m a w hm hR hI h1
      have hk : ∀ v, a.eval (.const v) = v := fun _ => rfl
      have hf : ∀ f, a.eval (.func f) = .func (.func f) #[] #[] := fun _ => rfl
      generalize a.eval = ρ at *
      have hm : m < 20 := hm
      obtain ⟨c0, c1, c2⟩ := c3V hI.hx
      replace h1 : ρ (.tmp 12) = .pointer (some ⟨bx, 2, none⟩) := h1
      refine gives_gen (fun K hK => ?_)
      go_simp
      exact hK _ _ ⟨rfl, Chg.refl _ _, hI.next⟩
    refine ⟨opOK_ds [(5, none)] (by kernel_rfl) rfl ?_, ?_⟩
    · intro m a w hm hR hI h1
      have hk : ∀ v, a.eval (.const v) = v := fun _ => rfl
      have hf : ∀ f, a.eval (.func f) = .func (.func f) #[] #[] := fun _ => rfl
      generalize a.eval = ρ at *
      have hm : m < 20 := hm
      replace h1 : ρ (.tmp 5) = .pointer (some ⟨bx, 0, none⟩) := h1
      refine gives_gen (fun K hK => ?_)
      go_simp
      exact hK _ _ ⟨rfl, Chg.refl _ _, hI.next⟩
    refine ⟨opOK_ds [(14, some 4)] (by kernel_rfl) rfl ?_, ?_⟩
    · intro m a w hm hR hI h1
      have hk : ∀ v, a.eval (.const v) = v := fun _ => rfl
      have hf : ∀ f, a.eval (.func f) = .func (.func f) #[] #[] := fun _ => rfl
      generalize a.eval = ρ at *
      have hm : m < 20 := hm
      obtain ⟨c0, c1, c2⟩ := c3V hI.hx
      replace h1 : ρ (.tmp 14) = .pointer (some ⟨bx, 2, none⟩) := h1
      refine gives_gen (fun K hK => ?_)
      go_simp
      exact hK _ _ ⟨rfl, Chg.refl _ _, hI.next⟩
    refine ⟨opOK_ds [(5, none)] (by kernel_rfl) rfl ?_, ?_⟩
    · intro m a w hm hR hI h1
      have hk : ∀ v, a.eval (.const v) = v := fun _ => rfl
      have hf : ∀ f, a.eval (.func f) = .func (.func f) #[] #[] := fun _ => rfl
      generalize a.eval = ρ at *
      have hm : m < 20 := hm
      replace h1 : ρ (.tmp 5) = .pointer (some ⟨bx, 0, none⟩) := h1
      refine gives_gen (fun K hK => ?_)
      go_simp
      exact hK _ _ ⟨rfl, Chg.refl _ _, hI.next⟩
    refine ⟨opOK_ds [(16, some 6)] (by kernel_rfl) rfl ?_, ?_⟩
    · intro m a w hm hR hI h1
      have hk : ∀ v, a.eval (.const v) = v := fun _ => rfl
      have hf : ∀ f, a.eval (.func f) = .func (.func f) #[] #[] := fun _ => rfl
      generalize a.eval = ρ at *
      have hm : m < 20 := hm
      obtain ⟨c0, c1, c2⟩ := c3V hI.hx
      replace h1 : ρ (.tmp 16) = .pointer (some ⟨bx, 1, none⟩) := h1
      refine gives_gen (fun K hK => ?_)
      go_simp
      exact hK _ _ ⟨rfl, Chg.refl _ _, hI.next⟩
    refine ⟨opOK_ds [(15, some 5), (17, some 7)] (by kernel_rfl) rfl ?_, ?_⟩
    · intro m a w hm hR hI h1 h2
      have hk : ∀ v, a.eval (.const v) = v := fun _ => rfl
      have hf : ∀ f, a.eval (.func f) = .func (.func f) #[] #[] := fun _ => rfl
      generalize a.eval = ρ at *
      have hm : m < 20 := hm
      replace h1 : ρ (.tmp 15) = .int .i64 ic := h1
      replace h2 : ρ (.tmp 17) = .int .i64 ib := h2
      refine gives_gen (fun K hK => ?_)
      go_simp
      exact hK _ _ ⟨⟨_, rfl⟩, Chg.refl _ _, hI.next⟩
    refine ⟨opOK_ds [(5, none)] (by kernel_rfl) rfl ?_, ?_⟩
    · intro m a w hm hR hI h1
      have hk : ∀ v, a.eval (.const v) = v := fun _ => rfl
      have hf : ∀ f, a.eval (.func f) = .func (.func f) #[] #[] := fun _ => rfl
      generalize a.eval = ρ at *
      have hm : m < 20 := hm
      replace h1 : ρ (.tmp 5) = .pointer (some ⟨bx, 0, none⟩) := h1
      refine gives_gen (fun K hK => ?_)
      go_simp
      exact hK _ _ ⟨rfl, Chg.refl _ _, hI.next⟩
    refine ⟨opOK_ds [(19, some 9)] (by kernel_rfl) rfl ?_, ?_⟩
    · intro m a w hm hR hI h1
      have hk : ∀ v, a.eval (.const v) = v := fun _ => rfl
      have hf : ∀ f, a.eval (.func f) = .func (.func f) #[] #[] := fun _ => rfl
      generalize a.eval = ρ at *
      have hm : m < 20 := hm
      obtain ⟨c0, c1, c2⟩ := c3V hI.hx
      replace h1 : ρ (.tmp 19) = .pointer (some ⟨bx, 0, none⟩) := h1
      refine gives_gen (fun K hK => ?_)
      go_simp
      exact hK _ _ ⟨rfl, Chg.refl _ _, hI.next⟩
    refine ⟨opOK_ds [(20, some 10)] (by kernel_rfl) rfl ?_, ?_⟩
    · intro m a w hm hR hI h1
      have hk : ∀ v, a.eval (.const v) = v := fun _ => rfl
      have hf : ∀ f, a.eval (.func f) = .func (.func f) #[] #[] := fun _ => rfl
      generalize a.eval = ρ at *
      have hm : m < 20 := hm
      replace h1 : ρ (.tmp 20) = .int .i64 ia := h1
      refine gives_gen (fun K hK => ?_)
      go_simp
      exact hK _ _ ⟨⟨_, rfl⟩, Chg.refl _ _, hI.next⟩
    refine ⟨opOK_ds [(5, none)] (by kernel_rfl) rfl ?_, ?_⟩
    · intro m a w hm hR hI h1
      have hk : ∀ v, a.eval (.const v) = v := fun _ => rfl
      have hf : ∀ f, a.eval (.func f) = .func (.func f) #[] #[] := fun _ => rfl
      generalize a.eval = ρ at *
      have hm : m < 20 := hm
      replace h1 : ρ (.tmp 5) = .pointer (some ⟨bx, 0, none⟩) := h1
      refine gives_gen (fun K hK => ?_)
      go_simp
      exact hK _ _ ⟨rfl, Chg.refl _ _, hI.next⟩
    refine ⟨opOK_ds [(22, some 12)] (by kernel_rfl) rfl ?_, ?_⟩
    · intro m a w hm hR hI h1
      have hk : ∀ v, a.eval (.const v) = v := fun _ => rfl
      have hf : ∀ f, a.eval (.func f) = .func (.func f) #[] #[] := fun _ => rfl
      generalize a.eval = ρ at *
      have hm : m < 20 := hm
      obtain ⟨c0, c1, c2⟩ := c3V hI.hx
      replace h1 : ρ (.tmp 22) = .pointer (some ⟨bx, 0, none⟩) := h1
      refine gives_gen (fun K hK => ?_)
      go_simp
      exact hK _ _ ⟨rfl, Chg.refl _ _, hI.next⟩
    refine ⟨opOK_ds [(4, none)] (by kernel_rfl) rfl ?_, ?_⟩
    · intro m a w hm hR hI h1
      have hk : ∀ v, a.eval (.const v) = v := fun _ => rfl
      have hf : ∀ f, a.eval (.func f) = .func (.func f) #[] #[] := fun _ => rfl
      generalize a.eval = ρ at *
      have hm : m < 20 := hm
      replace h1 : ρ (.tmp 4) = .pointer (some ⟨rb, 0, none⟩) := h1
      refine gives_gen (fun K hK => ?_)
      go_simp
      exact hK _ _ ⟨rfl, Chg.refl _ _, hI.next⟩
    refine ⟨opOK_ds [(24, some 14)] (by kernel_rfl) rfl ?_, ?_⟩
    · intro m a w hm hR hI h1
      have hk : ∀ v, a.eval (.const v) = v := fun _ => rfl
      have hf : ∀ f, a.eval (.func f) = .func (.func f) #[] #[] := fun _ => rfl
      generalize a.eval = ρ at *
      have hm : m < 20 := hm
      replace h1 : ρ (.tmp 24) = .pointer (some ⟨rb, 0, none⟩) := h1
      refine gives_gen (fun K hK => ?_)
      go_simp
      with_reducible refine (pick_any _ _ hI.rd (by omega)).mono ?_
      rintro e w1 ⟨⟨z, rfl, -⟩, hr, hc⟩
      exact ⟨_, rfl, hK _ _ ⟨⟨z, rfl⟩, hc.mono (by simp), hI.call hr hc⟩⟩
    refine ⟨opOK_ds [(13, some 3), (18, some 8), (21, some 11), (23, some 13), (25, some 15)] (by kernel_rfl) rfl ?_, ?_⟩
    · intro m a w hm hR hI h1 h2 h3 h4 h5
      have hk : ∀ v, a.eval (.const v) = v := fun _ => rfl
      have hf : ∀ f, a.eval (.func f) = .func (.func f) #[] #[] := fun _ => rfl
      generalize a.eval = ρ at *
      have hm : m < 20 := hm
      replace h1 : ρ (.tmp 13) = .int .i64 ic := h1
      obtain ⟨z2, h2⟩ : TI (ρ (.tmp 18)) w := h2
      obtain ⟨z3, h3⟩ : TI (ρ (.tmp 21)) w := h3
      replace h4 : ρ (.tmp 23) = .int .i64 ia := h4
      obtain ⟨z5, h5⟩ : TI (ρ (.tmp 25)) w := h5
      refine gives_gen (fun K hK => ?_)
      go_simp
      exact hK _ _ ⟨TL.lit hI.base hI.lts (by simp) (by simp [isI]), (Chg.refl _ _).alloc _, hI.alloc _⟩
    refine ⟨opOK_ds [(11, some 1), (26, some 16)] (by kernel_rfl) rfl ?_, ?_⟩
    · intro m a w hm hR hI h1 h2
      have hk : ∀ v, a.eval (.const v) = v := fun _ => rfl
      have hf : ∀ f, a.eval (.func f) = .func (.func f) #[] #[] := fun _ => rfl
      generalize a.eval = ρ at *
      have hm : m < 20 := hm
      replace h1 : ρ (.tmp 11) = .pointer (some ⟨rb, 0, none⟩) := h1
      replace h2 : TL b0 [rb, b0] 7 (ρ (.tmp 26)) w := h2
      refine gives_gen (fun K hK => ?_)
      go_simp
      with_reducible refine (one_any _ hI.rd (by omega) (h2.sub (by simp)) (by omega) (by omega)).mono ?_
      rintro e w1 ⟨⟨z, rfl⟩, hr, hc⟩
      exact ⟨_, rfl, hK _ _ ⟨⟨z, rfl⟩, hc.mono (by simp), hI.call hr hc⟩⟩
    refine ⟨opOK_ds [(2, none), (10, some 0)] (by kernel_rfl) rfl ?_, ?_⟩
    · intro m a w hm hR hI h1 h2
      have hk : ∀ v, a.eval (.const v) = v := fun _ => rfl
      have hf : ∀ f, a.eval (.func f) = .func (.func f) #[] #[] := fun _ => rfl
      generalize a.eval = ρ at *
      have hm : m < 20 := hm
      obtain ⟨x0, y0, z0, ha⟩ := hI.h0
      obtain ⟨c0, c1, c2⟩ := c3V ha
      obtain ⟨f0, f1, f2⟩ := f3V ha
      replace h1 : ρ (.tmp 2) = .pointer (some ⟨b0, 0, none⟩) := h1
      replace h2 : ρ (.tmp 10) = .agg #[.int .i64 ia, .int .i64 ib, .int .i64 ic] := h2
      refine gives_gen (fun K hK => ?_)
      go_simp
      exact hK _ _ ⟨trivial, put3c (Chg.refl _ _) (.inl (by simp)) _ _ _, hI.store0⟩
    refine ⟨opOK_ds [(27, some 17)] (by kernel_rfl) rfl ?_, ?_⟩
    · intro m a w hm hR hI h1
      have hk : ∀ v, a.eval (.const v) = v := fun _ => rfl
      have hf : ∀ f, a.eval (.func f) = .func (.func f) #[] #[] := fun _ => rfl
      generalize a.eval = ρ at *
      have hm : m < 20 := hm
      obtain ⟨z1, h1⟩ : TI (ρ (.tmp 27)) w := h1
      refine gives_gen (fun K hK => ?_)
      go_simp
      exact hK _ _ ⟨⟨_, rfl⟩, Chg.refl _ _, hI.next⟩
    exact trivial
  case hTs => exact st_list (by
    intro T hT
    simp only [List.mem_cons, List.not_mem_nil, or_false] at hT
    rcases hT with rfl | rfl | rfl | rfl | rfl | rfl | rfl | rfl | rfl | rfl | rfl | rfl | rfl | rfl | rfl | rfl | rfl | rfl | rfl | rfl <;> first | exact st_TI _ | exact st_TV _ _ | exact st_TL _ _ _ | exact st_TT0 _)
  case hfin =>
    intro w3 hR hI
    intro v10 t10 v11 t11 v12 t12 v13 t13 v14 t14 v15 t15 v16 t16 v17 t17 v18 t18 v19 t19 v20 t20 v21 t21 v22 t22 v23 t23 v24 t24 v25 t25 v26 t26 v27 t27 v3 t3
    obtain ⟨r, rfl⟩ : ∃ r, v3 = .int .i64 r := t3
    obtain ⟨x, y, z, ha⟩ := hI.h0
    have HBB := Lib.hid (HB.trans hR)
    obtain ⟨c0, c1, c2⟩ := c3V ha
    clear ha hI hR HB
    clear t10 t11 t12 t13 t14 t15 t16 t17 t18 t19 t20 t21 t22 t23 t24 t25 t26 t27
    simp only [finP, Act.put, List.setIfInBounds_toArray, List.set_cons_succ, List.set_cons_zero]
    go_wp2
    exact bodyPost_ret (v := .tuple #[.agg #[.int .i64 (x), .int .i64 (y), .int .i64 (z)], .int .i64 r]) (by simp only [results, Try.results11]; go_simp) rfl ⟨⟨x, y, z, r, rfl⟩, HBB.out.below (Nat.le_refl _) (by have := Hrb.out; have := Hb0.out; simp; omega)⟩
end Go.Proofs.Ytpbfbcdidkbjiad
end
