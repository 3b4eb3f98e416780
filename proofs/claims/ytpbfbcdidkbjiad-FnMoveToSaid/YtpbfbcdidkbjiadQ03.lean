import Derived.Test.YtpbfbcdidkbjiadQ02
section
namespace Go.Proofs.Ytpbfbcdidkbjiad
open Go.RowKit
set_option linter.unusedVariables false
set_option maxHeartbeats 2000000
attribute [local go_sem 5000] run_mx run_mn
theorem put3c {S : List Nat} {a w : World} {b : Nat} (h : Chg S a w) (hb : b ∈ S ∨ a.heap.size ≤ b) (x0 x1 x2 : Value) : Chg S a (((w.setCell ⟨b, 0, none⟩ x0).setCell ⟨b, 1, none⟩ x1).setCell ⟨b, 2, none⟩ x2) := ((h.setCell hb _).setCell hb _).setCell hb _
theorem put3r {B rb : Nat} {A : Option Addr} {l c m : Nat} {w : World} {b : Nat} (h : Rd B rb A l c m w) (h0 : B ≤ b) (h1 : b ≠ rb) (x0 x1 x2 : Value) : Rd B rb A l c m (((w.setCell ⟨b, 0, none⟩ x0).setCell ⟨b, 1, none⟩ x1).setCell ⟨b, 2, none⟩ x2) :=
  ((h.setCell (p := ⟨b, 0, none⟩) h0 h1 x0).setCell (p := ⟨b, 1, none⟩) h0 h1 x1).setCell (p := ⟨b, 2, none⟩) h0 h1 x2
theorem Bts.allocV {w : World} {A : Option Addr} {n : Nat} (h : Bts w A n) (o : Obj) : Bts (w.alloc o) A n := h.alloc o
set_option maxRecDepth 100000 in
theorem someView_any {B rb : Nat} {A : Option Addr} {l c m : Nat} (w : World) (h : Rd B rb A l c m w) (hm : m ≤ 800000) :
    Calls Try.prog 18 #[.pointer (some ⟨rb, 0, none⟩)] w fun e w' => (∃ a b d : Int, e = .returned (.agg #[.int .i64 (a), .int .i64 (b), .int .i64 (d)])) ∧ Rd B rb A l c (m + 6) w' ∧ Chg [rb] w w' := by
  have hlt := h.lt
  have hbase := h.base
  go_enter Try.func18, Try.ntmps18
  go_wp2_with fail
  with_reducible refine (pick_any _ _ (h.alloc _) (by omega)).mono ?_
  rintro e w1 ⟨⟨z1, rfl, -⟩, hr1, hc1⟩
  go_wp2_with fail
  with_reducible refine (one_lit _ hr1 (by omega) (by simp) (by omega) (by omega) (by simp [isI])).mono ?_
  rintro e w2 ⟨⟨z2, rfl⟩, hr2, hc2⟩
  go_wp2_with fail
  with_reducible refine (one_lit _ hr2 (by omega) (by simp) (by omega) (by omega) (by simp [isI])).mono ?_
  rintro e w3 ⟨⟨z3, rfl⟩, hr3, hc3⟩
  have hc : Chg [rb] (w.alloc _) w3 := (hc1.trans hc2).trans hc3
  clear hc1 hc2 hc3 hr1 hr2
  have hb0 := (hc.block w.heap.size (by simp) (by simp; omega)).trans (heap_alloc_new w _)
  have hs := hc.size
  simp only [World.size_alloc] at hs
  have HC := Lib.hid ((((Chg.refl [rb] w).alloc _).trans hc).alloc (.cells #[.int .i64 (z2), .int .i64 (z3), .int .i64 (0)] 24))
  have hl7 := hr3.lt
  have hx0 := Nat.lt_of_succ_le hs
  have hn0 : w.heap.size ≠ rb := by omega
  have hB0 : B ≤ w.heap.size := by omega
  have hn1 : w3.heap.size ≠ rb := by omega
  have hB1 : B ≤ w3.heap.size := by omega
  have hn01 : w.heap.size ≠ w3.heap.size := by omega
  have hn10 : ¬ w3.heap.size = w.heap.size := by omega
  have hw1 : w.heap.size ≤ w3.heap.size := by omega
  have HR := Lib.hid (hr3.alloc (.cells #[.int .i64 (z2), .int .i64 (z3), .int .i64 (0)] 24))
  have HB1 := Lib.hid (heap_alloc_new w3 (.cells #[.int .i64 (z2), .int .i64 (z3), .int .i64 (0)] 24))
  have HB0 := Lib.hid ((Below.heap_alloc w3 (.cells #[.int .i64 (z2), .int .i64 (z3), .int .i64 (0)] 24) w.heap.size hx0).trans hb0)
  clear hc hlt hbase hs hl7 hb0 hr3
  go_upto_region 2 with (fail)
  refine wp_V (fun W => W.heap[w.heap.size]? = some (.cells #[.int .i64 (0), .int .i64 (0), .int .i64 (0)] 24 (0, 0)) ∧ W.heap[w3.heap.size]? = some (.cells #[.int .i64 (z2), .int .i64 (z3), .int .i64 (0)] 24 (0, 0)) ∧ Rd B rb A l c (m + 3) W ∧ Chg [rb] w W ∧ w3.heap.size < W.heap.size) ⟨HB0.out, HB1.out, HR.out.mono (by omega), HC.out, by simp⟩ ?_
  clear HB0 HB1 HR HC
  rintro wa ⟨k0, k1, k2, k3, hza⟩
  obtain ⟨c0, c1, c2⟩ := c3V k1
  have HB0 := Lib.hid k0
  have HB1 := Lib.hid k1
  have HR := Lib.hid k2
  have HC := Lib.hid k3
  clear k0 k1 k2 k3
  go_wp2_with fail
  with_reducible refine (pick_any _ _ HR.out (by omega)).mono ?_
  rintro e wb ⟨⟨z4, rfl, -⟩, hr4, hc4⟩
  clear c0 c1 c2
  replace HB0 := Lib.hid ((hc4.block _ (by omega) (by simpa using hn0)).trans HB0.out)
  replace HB1 := Lib.hid ((hc4.block _ (by omega) (by simpa using hn1)).trans HB1.out)
  replace HC := Lib.hid (HC.out.trans hc4)
  replace HR := Lib.hid hr4
  have hzb : w3.heap.size < wb.heap.size := Nat.lt_of_lt_of_le hza hc4.size
  clear hr4 hc4 hza
  obtain ⟨c0, c1, c2⟩ := c3V HB1.out
  obtain ⟨f0, f1, f2⟩ := f3V HB1.out
  go_upto_region 3 with (fail)
  refine wp_V (fun W => W.heap[w.heap.size]? = some (.cells #[.int .i64 (0), .int .i64 (0), .int .i64 (0)] 24 (0, 0)) ∧ W.heap[w3.heap.size]? = some (.cells #[.int .i64 (z2), .int .i64 (z3), .int .i64 (z4)] 24 (0, 0)) ∧ Rd B rb A l c (m + 4) W ∧ Chg [rb] w W ∧ w3.heap.size < W.heap.size) ⟨(Below.heap_setCell _ ⟨w3.heap.size, 2, none⟩ _ _ hn01).trans HB0.out, (putV HB1.out _).trans rfl, (HR.out.setCell (p := ⟨w3.heap.size, 2, none⟩) hB1 hn1 _).mono (by omega), HC.out.setCell (p := ⟨w3.heap.size, 2, none⟩) (.inr hw1) _, by simpa [World.setCell] using hzb⟩ ?_
  clear HB0 HB1 HR HC c0 c1 c2 f0 f1 f2 hzb
  rintro wc ⟨k0, k1, k2, k3, hzc⟩
  have HB0 := Lib.hid k0
  have HB1 := Lib.hid k1
  have HR := Lib.hid k2
  have HC := Lib.hid k3
  clear k0 k1 k2 k3
  go_wp2_with fail
  with_reducible refine (pick_any _ _ HR.out (by omega)).mono ?_
  rintro e wd ⟨⟨q, rfl, -⟩, hr5, hc5⟩
  replace HB0 := Lib.hid ((hc5.block _ (by omega) (by simpa using hn0)).trans HB0.out)
  replace HB1 := Lib.hid ((hc5.block _ hzc (by simpa using hn1)).trans HB1.out)
  replace HC := Lib.hid (HC.out.trans hc5)
  replace HR := Lib.hid hr5
  have hzd : w3.heap.size < wd.heap.size := Nat.lt_of_lt_of_le hzc hc5.size
  clear hr5 hc5 hzc
  by_cases q0 : q = 0
  · subst q0
    go_wp2_with fail
    with_reducible refine (one_lit _ HR.out (by omega) (by simp) (by omega) (by omega) (by simp [isI])).mono ?_
    rintro e we ⟨⟨z, rfl⟩, hr6, hc6⟩
    replace HB0 := Lib.hid ((hc6.block _ (by omega) (by simpa using hn0)).trans HB0.out)
    replace HB1 := Lib.hid ((hc6.block _ hzd (by simpa using hn1)).trans HB1.out)
    replace HC := Lib.hid (HC.out.trans hc6)
    replace HR := Lib.hid hr6
    clear hr6 hc6
    obtain ⟨c0, c1, c2⟩ := c3V HB1.out
    obtain ⟨f0, f1, f2⟩ := f3V HB1.out
    obtain ⟨d0, d1, d2⟩ := c3V HB0.out
    obtain ⟨g0, g1, g2⟩ := f3V HB0.out
    go_wp2
    refine bpV (fun W => W.heap[w.heap.size]? = some (.cells #[.int .i64 (z2), .int .i64 (z3), .int .i64 (z)] 24 (0, 0)) ∧ Rd B rb A l c (m + 6) W ∧ Chg [rb] w W) ⟨put3V ((Below.heap_setCell we ⟨w3.heap.size, 2, none⟩ _ _ hn01).trans HB0.out) (.int .i64 (z2)) (.int .i64 (z3)) (.int .i64 (z)), put3r ((HR.out.setCell (p := ⟨w3.heap.size, 2, none⟩) hB1 hn1 (.int .i64 z)).mono (by omega)) hB0 hn0 (.int .i64 (z2)) (.int .i64 (z3)) (.int .i64 (z)), put3c (HC.out.setCell (p := ⟨w3.heap.size, 2, none⟩) (.inr hw1) (.int .i64 z)) (.inr (Nat.le_refl _)) (.int .i64 (z2)) (.int .i64 (z3)) (.int .i64 (z))⟩ ?_
    clear HB0 HB1 HC HR c0 c1 c2 d0 d1 d2 f0 f1 f2 g0 g1 g2
    rintro W ⟨h0, hR, hC⟩
    obtain ⟨d0, d1, d2⟩ := c3V h0
    exact bodyPost_ret (v := .agg #[.int .i64 (z2), .int .i64 (z3), .int .i64 (z)]) (by simp only [results, Try.results18]; go_simp) rfl ⟨⟨_, _, _, rfl⟩, hR, hC⟩
  by_cases q1 : q = 1
  · subst q1
    go_wp2_with fail
    with_reducible refine (one_lit _ HR.out (by omega) (by simp) (by omega) (by omega) (by simp [isI])).mono ?_
    rintro e we ⟨⟨z, rfl⟩, hr6, hc6⟩
    replace HB0 := Lib.hid ((hc6.block _ (by omega) (by simpa using hn0)).trans HB0.out)
    replace HB1 := Lib.hid ((hc6.block _ hzd (by simpa using hn1)).trans HB1.out)
    replace HC := Lib.hid (HC.out.trans hc6)
    replace HR := Lib.hid hr6
    clear hr6 hc6
    obtain ⟨c0, c1, c2⟩ := c3V HB1.out
    obtain ⟨f0, f1, f2⟩ := f3V HB1.out
    obtain ⟨d0, d1, d2⟩ := c3V HB0.out
    obtain ⟨g0, g1, g2⟩ := f3V HB0.out
    go_wp2
    refine bpV (fun W => W.heap[w.heap.size]? = some (.cells #[.int .i64 (z2), .int .i64 (z), .int .i64 (z4)] 24 (0, 0)) ∧ Rd B rb A l c (m + 6) W ∧ Chg [rb] w W) ⟨put3V ((Below.heap_setCell we ⟨w3.heap.size, 1, none⟩ _ _ hn01).trans HB0.out) (.int .i64 (z2)) (.int .i64 (z)) (.int .i64 (z4)), put3r ((HR.out.setCell (p := ⟨w3.heap.size, 1, none⟩) hB1 hn1 (.int .i64 z)).mono (by omega)) hB0 hn0 (.int .i64 (z2)) (.int .i64 (z)) (.int .i64 (z4)), put3c (HC.out.setCell (p := ⟨w3.heap.size, 1, none⟩) (.inr hw1) (.int .i64 z)) (.inr (Nat.le_refl _)) (.int .i64 (z2)) (.int .i64 (z)) (.int .i64 (z4))⟩ ?_
    clear HB0 HB1 HC HR c0 c1 c2 d0 d1 d2 f0 f1 f2 g0 g1 g2
    rintro W ⟨h0, hR, hC⟩
    obtain ⟨d0, d1, d2⟩ := c3V h0
    exact bodyPost_ret (v := .agg #[.int .i64 (z2), .int .i64 (z), .int .i64 (z4)]) (by simp only [results, Try.results18]; go_simp) rfl ⟨⟨_, _, _, rfl⟩, hR, hC⟩
  by_cases q2 : q = 2
  · subst q2
    go_wp2_with fail
    with_reducible refine (one_lit _ HR.out (by omega) (by simp) (by omega) (by omega) (by simp [isI])).mono ?_
    rintro e we ⟨⟨z, rfl⟩, hr6, hc6⟩
    replace HB0 := Lib.hid ((hc6.block _ (by omega) (by simpa using hn0)).trans HB0.out)
    replace HB1 := Lib.hid ((hc6.block _ hzd (by simpa using hn1)).trans HB1.out)
    replace HC := Lib.hid (HC.out.trans hc6)
    replace HR := Lib.hid hr6
    clear hr6 hc6
    obtain ⟨c0, c1, c2⟩ := c3V HB1.out
    obtain ⟨f0, f1, f2⟩ := f3V HB1.out
    obtain ⟨d0, d1, d2⟩ := c3V HB0.out
    obtain ⟨g0, g1, g2⟩ := f3V HB0.out
    go_wp2
    refine bpV (fun W => W.heap[w.heap.size]? = some (.cells #[.int .i64 (z), .int .i64 (z3), .int .i64 (z4)] 24 (0, 0)) ∧ Rd B rb A l c (m + 6) W ∧ Chg [rb] w W) ⟨put3V ((Below.heap_setCell we ⟨w3.heap.size, 0, none⟩ _ _ hn01).trans HB0.out) (.int .i64 (z)) (.int .i64 (z3)) (.int .i64 (z4)), put3r ((HR.out.setCell (p := ⟨w3.heap.size, 0, none⟩) hB1 hn1 (.int .i64 z)).mono (by omega)) hB0 hn0 (.int .i64 (z)) (.int .i64 (z3)) (.int .i64 (z4)), put3c (HC.out.setCell (p := ⟨w3.heap.size, 0, none⟩) (.inr hw1) (.int .i64 z)) (.inr (Nat.le_refl _)) (.int .i64 (z)) (.int .i64 (z3)) (.int .i64 (z4))⟩ ?_
    clear HB0 HB1 HC HR c0 c1 c2 d0 d1 d2 f0 f1 f2 g0 g1 g2
    rintro W ⟨h0, hR, hC⟩
    obtain ⟨d0, d1, d2⟩ := c3V h0
    exact bodyPost_ret (v := .agg #[.int .i64 (z), .int .i64 (z3), .int .i64 (z4)]) (by simp only [results, Try.results18]; go_simp) rfl ⟨⟨_, _, _, rfl⟩, hR, hC⟩
  have e0 : (q == 0) = false := by simpa using q0
  have e1 : (q == 1) = false := by simpa using q1
  have e2 : (q == 2) = false := by simpa using q2
  clear q0 q1 q2
  obtain ⟨c0, c1, c2⟩ := c3V HB1.out
  obtain ⟨f0, f1, f2⟩ := f3V HB1.out
  obtain ⟨d0, d1, d2⟩ := c3V HB0.out
  obtain ⟨g0, g1, g2⟩ := f3V HB0.out
  go_wp2
  refine bpV (fun W => W.heap[w.heap.size]? = some (.cells #[.int .i64 (z2), .int .i64 (z3), .int .i64 (z4)] 24 (0, 0)) ∧ Rd B rb A l c (m + 6) W ∧ Chg [rb] w W) ⟨put3V HB0.out (.int .i64 (z2)) (.int .i64 (z3)) (.int .i64 (z4)), put3r (HR.out.mono (by omega)) hB0 hn0 (.int .i64 (z2)) (.int .i64 (z3)) (.int .i64 (z4)), put3c HC.out (.inr (Nat.le_refl _)) (.int .i64 (z2)) (.int .i64 (z3)) (.int .i64 (z4))⟩ ?_
  clear HB0 HB1 HC HR c0 c1 c2 d0 d1 d2 f0 f1 f2 g0 g1 g2
  rintro W ⟨h0, hR, hC⟩
  obtain ⟨d0, d1, d2⟩ := c3V h0
  exact bodyPost_ret (v := .agg #[.int .i64 (z2), .int .i64 (z3), .int .i64 (z4)]) (by simp only [results, Try.results18]; go_simp) rfl ⟨⟨_, _, _, rfl⟩, hR, hC⟩
set_option maxRecDepth 100000 in
theorem DrawThumbOf_any (A : Option Addr) (n c : Nat) (w : World) (h : Bts w A n) (hn : n ≤ c) (hc : c ≤ maxLen) :
    Calls Try.prog 14 #[.slice A n c] w fun e w' => (∃ a b d : Int, e = .returned (.agg #[.int .i64 (a), .int .i64 (b), .int .i64 (d)])) ∧ Below w.heap.size w w' := by
  go_enter Try.func14, Try.ntmps14
  go_wp2_with fail
  with_reducible refine (newReader_any A n c _ (Bts.allocV h _) hn hc).mono ?_
  rintro e w1 ⟨n', rfl, hr1, hc1⟩
  simp only [World.size_alloc] at hr1
  go_wp2_with fail
  with_reducible refine (someView_any _ hr1 (by omega)).mono ?_
  rintro e w2 ⟨⟨a, b, d, rfl⟩, hr2, hc2⟩
  have hb := (hc1.block w.heap.size (by simp) (by simp)).trans (heap_alloc_new w _)
  have hs := hc1.size
  simp only [World.size_alloc] at hs
  replace hb := (hc2.block w.heap.size (by omega) (by simp)).trans hb
  have hB := Lib.hid (((Chg.refl [w.heap.size + 1] w).alloc _).trans ((hc1.mono (by simp)).trans hc2))
  have HB0 := Lib.hid hb
  obtain ⟨d0, d1, d2⟩ := c3V hb
  obtain ⟨f0, f1, f2⟩ := f3V hb
  clear hb hc1 hc2 hr1 hr2 hs
  go_wp2
  refine bpV (fun W => W.heap[w.heap.size]? = some (.cells #[.int .i64 (a), .int .i64 (b), .int .i64 (d)] 24 (0, 0)) ∧ Below w.heap.size w W) ⟨put3V HB0.out _ _ _, Chg.below (put3c hB.out (.inr (Nat.le_refl _)) _ _ _) (Nat.le_refl _) (by simp)⟩ ?_
  clear HB0 hB d0 d1 d2 f0 f1 f2
  rintro W ⟨h0, hBB⟩
  obtain ⟨d0, d1, d2⟩ := c3V h0
  exact bodyPost_ret (v := .agg #[.int .i64 (a), .int .i64 (b), .int .i64 (d)]) (by simp only [results, Try.results14]; go_simp) rfl ⟨⟨_, _, _, rfl⟩, hBB⟩
set_option maxRecDepth 100000 in
theorem DrawMoveTo_any (A : Option Addr) (n c : Nat) (w : World) (h : Bts w A n) (hn : n ≤ c) (hc : c ≤ maxLen) :
    Calls Try.prog 6 #[.slice A n c] w fun e w' => (∃ a b d r : Int, e = .returned (.tuple #[.agg #[.int .i64 (a), .int .i64 (b), .int .i64 (d)], .int .i64 r])) ∧ Below w.heap.size w w' := by
  go_enter Try.func6, Try.ntmps6
  go_wp2_with fail
  with_reducible refine (newReader_any A n c _ (Bts.allocV h _) hn hc).mono ?_
  rintro e w1 ⟨n', rfl, hr1, hc1⟩
  simp only [World.size_alloc] at hr1
  go_wp2_with fail
  with_reducible refine (someView_any _ hr1 (by omega)).mono ?_
  rintro e w2 ⟨⟨a, b, d, rfl⟩, hr2, hc2⟩
  have hb := (hc1.block w.heap.size (by simp) (by simp)).trans (heap_alloc_new w _)
  have hs := hc1.size
  simp only [World.size_alloc] at hs
  replace hb := (hc2.block w.heap.size (by omega) (by simp)).trans hb
  have hB := Lib.hid (((Chg.refl [w.heap.size + 1] w).alloc _).trans ((hc1.mono (by simp)).trans hc2))
  have hlt2 : w.heap.size < w2.heap.size := lt_of_heap hb
  go_wp2_with fail
  with_reducible refine (one_lit _ hr2 (by omega) (by simp) (by omega) (by omega) (by simp [isI])).mono ?_
  rintro e w3 ⟨⟨r, rfl⟩, hr3, hc3⟩
  replace hb := (hc3.block w.heap.size hlt2 (by simp)).trans hb
  replace hB := Lib.hid (hB.out.trans hc3)
  have HB0 := Lib.hid hb
  obtain ⟨d0, d1, d2⟩ := c3V hb
  obtain ⟨f0, f1, f2⟩ := f3V hb
  clear hb hc1 hc2 hr1 hr2 hs hr3 hc3
  go_wp2
  refine bpV (fun W => W.heap[w.heap.size]? = some (.cells #[.int .i64 (a), .int .i64 (b), .int .i64 (d)] 24 (0, 0)) ∧ Below w.heap.size w W) ⟨put3V HB0.out _ _ _, Chg.below (put3c hB.out (.inr (Nat.le_refl _)) _ _ _) (Nat.le_refl _) (by simp)⟩ ?_
  clear HB0 hB d0 d1 d2 f0 f1 f2
  rintro W ⟨h0, hBB⟩
  obtain ⟨d0, d1, d2⟩ := c3V h0
  exact bodyPost_ret (v := .tuple #[.agg #[.int .i64 (a), .int .i64 (b), .int .i64 (d)], .int .i64 r]) (by simp only [results, Try.results6]; go_simp) rfl ⟨⟨_, _, _, _, rfl⟩, hBB⟩
end Go.Proofs.Ytpbfbcdidkbjiad
end
section
namespace Go.Proofs.Ytpbfbcdidkbjiad
open Go.RowKit
set_option linter.unusedVariables false
set_option maxHeartbeats 1000000
attribute [local go_sem 5000] run_mx run_mn
attribute [local go_sem] growUpon_value growUpon_skip growUpon_enter
theorem th_prodV {m s : Int} (h1 : 0 ≤ m) (h2 : m ≤ 1000) (h3 : 0 ≤ s) (h4 : s ≤ 1000) : 0 ≤ m * s ∧ m * s ≤ 1000000 :=
  ⟨Int.mul_nonneg h1 h3, Int.le_trans (Int.mul_le_mul_of_nonneg_right h2 h3) (by omega)⟩
/-- thousandths -/
def thV (m s : Int) : Int := m * s / 1000
theorem thou_V (m s : Int) (w : World) (h1 : 0 ≤ m) (h2 : m ≤ 1000) (h3 : 0 ≤ s) (h4 : s ≤ 1000) : Calls Try.prog 22 #[.int .i64 m, .int .i64 s] w fun e w' => e = .returned (.int .i64 (thV m s)) ∧ Below w.heap.size w w' := by
  obtain ⟨q1, q2⟩ := th_prodV h1 h2 h3 h4
  go_enter Try.func22, Try.ntmps22
  go_wp2
  go_ret
  exact ⟨ret_int rfl, (by repeat (first | with_reducible exact Below.refl _ _ | with_reducible assumption | with_reducible refine balloc ?_ | (with_reducible refine bset ?_ ?_; rotate_left; ((try dsimp only); omega)) | refine bkeep2 ?_ (by assumption) | with_reducible refine Below.drew ?_))⟩
theorem part_V (n m : Int) (w : World) (h1 : 0 ≤ m) (h2 : m ≤ 1000) (h3 : 0 ≤ n) (h4 : n ≤ 1000) : Calls Try.prog 26 #[.int .i64 n, .int .i64 m] w fun e w' => e = .returned (.int .i64 (thV m n)) ∧ Below w.heap.size w w' := by
  obtain ⟨q1, q2⟩ := th_prodV h1 h2 h3 h4
  rw [Int.mul_comm] at q1 q2
  go_enter Try.func26, Try.ntmps26
  go_wp2
  go_ret
  exact ⟨ret_int (by rw [thV, Int.mul_comm]), (by repeat (first | with_reducible exact Below.refl _ _ | with_reducible assumption | with_reducible refine balloc ?_ | (with_reducible refine bset ?_ ?_; rotate_left; ((try dsimp only); omega)) | refine bkeep2 ?_ (by assumption) | with_reducible refine Below.drew ?_))⟩
theorem validRel_V (n : Int) (t : Bool) (w : World) (h : rng n 0 1000 = t) : Calls Try.prog 20 #[.int .i64 n] w fun e w' => e = .returned (.bool t) ∧ Below w.heap.size w w' := by
  go_enter Try.func20, Try.ntmps20
  go_wp2_with fail
  with_reducible refine (within_V _ _ _ t _ h).mono ?_
  rintro e w1 ⟨rfl, hb⟩
  go_wp2
  go_ret
  exact ⟨rfl, hb⟩
set_option maxRecDepth 100000 in
theorem MoveTo_no (t p f n : Int) (w : World) (h : vwB t p f = false ∨ (vwB t p f = true ∧ rng n 0 1000 = false)) : Calls Try.prog 7 #[.agg #[.int .i64 (t), .int .i64 (p), .int .i64 (f)], .int .i64 n] w fun e w' => e = .returned (.agg #[.int .i64 (0), .int .i64 (0), .int .i64 (0)]) ∧ Below w.heap.size w w' := by
  rcases h with h | ⟨h, h2⟩
  · go_enter Try.func7, Try.ntmps7
    go_upto_region 1 with (fail)
    refine wp_V (fun W => W.heap[w.heap.size]? = some (.cells #[.int .i64 (t), .int .i64 (p), .int .i64 (f)] 24 (0, 0)) ∧ W.heap[w.heap.size + 1]? = some (.cells #[.int .i64 (0), .int .i64 (0), .int .i64 (0)] 24 (0, 0)) ∧ Below w.heap.size w W) ⟨oldV _ _ _, newV1 _ _ _, balloc (balloc (Below.refl _ _))⟩ ?_
    rintro w0 ⟨hx, hy, hB⟩
    have HX := Lib.hid hx
    have HY := Lib.hid hy
    have HB := Lib.hid hB
    have hl0 := ltV hy
    clear hx hy hB
    obtain ⟨c0, c1, c2⟩ := c3V HX.out
    obtain ⟨d0, d1, d2⟩ := c3V HY.out
    obtain ⟨f0, f1, f2⟩ := f3V HX.out
    obtain ⟨g0, g1, g2⟩ := f3V HY.out
    go_wp2_with fail
    with_reducible refine (ValidView_v _ _ _ false _ h).mono ?_
    rintro e w1 ⟨rfl, hb⟩
    clear c0 c1 c2 d0 d1 d2 f0 f1 f2 g0 g1 g2
    replace HX := Lib.hid ((hb.block _ (ltV HX.out)).trans HX.out)
    replace HY := Lib.hid ((hb.block _ (ltV HY.out)).trans HY.out)
    replace HB := Lib.hid (bkeep2 HB.out hb)
    have hl1 := 0
    clear hb hl0 hl1
    have hl0 := ltV HY.out
    obtain ⟨c0, c1, c2⟩ := c3V HX.out
    obtain ⟨d0, d1, d2⟩ := c3V HY.out
    obtain ⟨f0, f1, f2⟩ := f3V HX.out
    obtain ⟨g0, g1, g2⟩ := f3V HY.out
    go_wp2
    refine bpV (fun W => W.heap[w.heap.size + 1]? = some (.cells #[.int .i64 (0), .int .i64 (0), .int .i64 (0)] 24 (0, 0)) ∧ Below w.heap.size w W) ⟨put3V HY.out (.int .i64 (0)) (.int .i64 (0)) (.int .i64 (0)), put3b HB.out (by omega) (.int .i64 (0)) (.int .i64 (0)) (.int .i64 (0))⟩ ?_
    clear HX HY HB
    clear c0 c1 c2 d0 d1 d2 f0 f1 f2 g0 g1 g2
    rintro W ⟨hy, hB⟩
    obtain ⟨d0, d1, d2⟩ := c3V hy
    exact bodyPost_ret (v := .agg #[.int .i64 (0), .int .i64 (0), .int .i64 (0)]) (by simp only [results, Try.results7]; go_simp) rfl ⟨rfl, hB⟩

  · go_enter Try.func7, Try.ntmps7
    go_upto_region 1 with (fail)
    refine wp_V (fun W => W.heap[w.heap.size]? = some (.cells #[.int .i64 (t), .int .i64 (p), .int .i64 (f)] 24 (0, 0)) ∧ W.heap[w.heap.size + 1]? = some (.cells #[.int .i64 (0), .int .i64 (0), .int .i64 (0)] 24 (0, 0)) ∧ Below w.heap.size w W) ⟨oldV _ _ _, newV1 _ _ _, balloc (balloc (Below.refl _ _))⟩ ?_
    rintro w0 ⟨hx, hy, hB⟩
    have HX := Lib.hid hx
    have HY := Lib.hid hy
    have HB := Lib.hid hB
    have hl0 := ltV hy
    clear hx hy hB
    obtain ⟨c0, c1, c2⟩ := c3V HX.out
    obtain ⟨d0, d1, d2⟩ := c3V HY.out
    obtain ⟨f0, f1, f2⟩ := f3V HX.out
    obtain ⟨g0, g1, g2⟩ := f3V HY.out
    go_wp2_with fail
    with_reducible refine (ValidView_v _ _ _ true _ h).mono ?_
    rintro e w1 ⟨rfl, hb⟩
    clear c0 c1 c2 d0 d1 d2 f0 f1 f2 g0 g1 g2
    replace HX := Lib.hid ((hb.block _ (ltV HX.out)).trans HX.out)
    replace HY := Lib.hid ((hb.block _ (ltV HY.out)).trans HY.out)
    replace HB := Lib.hid (bkeep2 HB.out hb)
    have hl1 := 0
    clear hb hl0 hl1
    have hl0 := ltV HY.out
    obtain ⟨c0, c1, c2⟩ := c3V HX.out
    obtain ⟨d0, d1, d2⟩ := c3V HY.out
    obtain ⟨f0, f1, f2⟩ := f3V HX.out
    obtain ⟨g0, g1, g2⟩ := f3V HY.out
    go_wp2_with fail
    with_reducible refine (validRel_V _ false _ h2).mono ?_
    rintro e w1 ⟨rfl, hb⟩
    clear c0 c1 c2 d0 d1 d2 f0 f1 f2 g0 g1 g2
    replace HX := Lib.hid ((hb.block _ (ltV HX.out)).trans HX.out)
    replace HY := Lib.hid ((hb.block _ (ltV HY.out)).trans HY.out)
    replace HB := Lib.hid (bkeep2 HB.out hb)
    have hl1 := 0
    clear hb hl0 hl1
    have hl0 := ltV HY.out
    obtain ⟨c0, c1, c2⟩ := c3V HX.out
    obtain ⟨d0, d1, d2⟩ := c3V HY.out
    obtain ⟨f0, f1, f2⟩ := f3V HX.out
    obtain ⟨g0, g1, g2⟩ := f3V HY.out
    go_wp2
    refine bpV (fun W => W.heap[w.heap.size + 1]? = some (.cells #[.int .i64 (0), .int .i64 (0), .int .i64 (0)] 24 (0, 0)) ∧ Below w.heap.size w W) ⟨put3V HY.out (.int .i64 (0)) (.int .i64 (0)) (.int .i64 (0)), put3b HB.out (by omega) (.int .i64 (0)) (.int .i64 (0)) (.int .i64 (0))⟩ ?_
    clear HX HY HB
    clear c0 c1 c2 d0 d1 d2 f0 f1 f2 g0 g1 g2
    rintro W ⟨hy, hB⟩
    obtain ⟨d0, d1, d2⟩ := c3V hy
    exact bodyPost_ret (v := .agg #[.int .i64 (0), .int .i64 (0), .int .i64 (0)]) (by simp only [results, Try.results7]; go_simp) rfl ⟨rfl, hB⟩

set_option maxRecDepth 100000 in
theorem MoveTo_yes (t p f n : Int) (w : World) (h : vwB t p f = true) (h2 : rng n 0 1000 = true) : Calls Try.prog 7 #[.agg #[.int .i64 (t), .int .i64 (p), .int .i64 (f)], .int .i64 n] w fun e w' => e = .returned (.agg #[.int .i64 (t), .int .i64 (p), .int .i64 (frV t p (thV n t))]) ∧ Below w.heap.size w w' := by
  have g1 := vwB_iff.1 h
  have k1 : -1000 ≤ t ∧ t ≤ 1000 := by omega
  have k2 : -1000 ≤ p ∧ p ≤ 1000 := by omega
  have g2 := rng_iff.1 h2
  obtain ⟨g21, g22⟩ := g2
  have g4 : 0 ≤ t := by omega
  have g5 : t ≤ 1000 := by omega
  clear g1
  go_enter Try.func7, Try.ntmps7
  go_upto_region 1 with (fail)
  refine wp_V (fun W => W.heap[w.heap.size]? = some (.cells #[.int .i64 (t), .int .i64 (p), .int .i64 (f)] 24 (0, 0)) ∧ W.heap[w.heap.size + 1]? = some (.cells #[.int .i64 (0), .int .i64 (0), .int .i64 (0)] 24 (0, 0)) ∧ Below w.heap.size w W) ⟨oldV _ _ _, newV1 _ _ _, balloc (balloc (Below.refl _ _))⟩ ?_
  rintro w0 ⟨hx, hy, hB⟩
  have HX := Lib.hid hx
  have HY := Lib.hid hy
  have HB := Lib.hid hB
  have hl0 := ltV hy
  clear hx hy hB
  obtain ⟨c0, c1, c2⟩ := c3V HX.out
  obtain ⟨d0, d1, d2⟩ := c3V HY.out
  obtain ⟨f0, f1, f2⟩ := f3V HX.out
  obtain ⟨g0, g1, g2⟩ := f3V HY.out
  go_wp2_with fail
  with_reducible refine (ValidView_v _ _ _ true _ h).mono ?_
  rintro e w1 ⟨rfl, hb⟩
  clear c0 c1 c2 d0 d1 d2 f0 f1 f2 g0 g1 g2
  replace HX := Lib.hid ((hb.block _ (ltV HX.out)).trans HX.out)
  replace HY := Lib.hid ((hb.block _ (ltV HY.out)).trans HY.out)
  replace HB := Lib.hid (bkeep2 HB.out hb)
  have hl1 := 0
  clear hb hl0 hl1
  have hl0 := ltV HY.out
  obtain ⟨c0, c1, c2⟩ := c3V HX.out
  obtain ⟨d0, d1, d2⟩ := c3V HY.out
  obtain ⟨f0, f1, f2⟩ := f3V HX.out
  obtain ⟨g0, g1, g2⟩ := f3V HY.out
  go_wp2_with fail
  with_reducible refine (validRel_V _ true _ h2).mono ?_
  rintro e w1 ⟨rfl, hb⟩
  clear c0 c1 c2 d0 d1 d2 f0 f1 f2 g0 g1 g2
  replace HX := Lib.hid ((hb.block _ (ltV HX.out)).trans HX.out)
  replace HY := Lib.hid ((hb.block _ (ltV HY.out)).trans HY.out)
  replace HB := Lib.hid (bkeep2 HB.out hb)
  have hl1 := 0
  clear hb hl0 hl1
  have hl0 := ltV HY.out
  obtain ⟨c0, c1, c2⟩ := c3V HX.out
  obtain ⟨d0, d1, d2⟩ := c3V HY.out
  obtain ⟨f0, f1, f2⟩ := f3V HX.out
  obtain ⟨g0, g1, g2⟩ := f3V HY.out
  go_wp2_with fail
  refine wp_region_grow 6 1 (· < 6) (by kernel_rfl) (by kernel_rfl) rfl ?_
  iterate 6 (refine wpG_step (fun K hK => ?_); first | (refine grow_skip rfl ?_; go_simp; refine hK _ ?_; clear hK K) | (apply Exists.intro; refine ⟨.inl ⟨rfl, fun w' hw' => ?_⟩, ?_⟩; (focus ((obtain ⟨hc, hf⟩ := bcell hw'.out); (have hcS := bcellS hw'.out); go_simp <;> first | rfl | (go_at_call 22; exact thou_V _ _ _ g21 g22 g4 g5) | (go_at_call 21; exact from_v _ _ _ _ _ k1 k2))); (go_simp; refine hK _ ?_; clear hK K)))
  refine wpG_nil ?_
  refine wpK_tail (by kernel_rfl) (fun w9 hg9 => ?_)
  have hb9 := bdrewn hg9.out
  obtain ⟨hc9, hf9⟩ := bcell hb9
  refine wpAny_one (i := 6) (by kernel_rfl) rfl rfl ?_
  go_simp
  refine wpAny_end (by kernel_rfl) ?_
  refine NoPan.thn ?_
  clear hc9 hf9
  clear hg9
  go_wp2
  refine bpV (fun W => W.heap[w.heap.size + 1]? = some (.cells #[.int .i64 (t), .int .i64 (p), .int .i64 (frV t p (thV n t))] 24 (0, 0)) ∧ Below w.heap.size w W) ⟨put3V ((hb9.block _ (ltV HY.out)).trans HY.out) (.int .i64 (t)) (.int .i64 (p)) (.int .i64 (frV t p (thV n t))), put3b (bkeep2 HB.out hb9) (by omega) (.int .i64 (t)) (.int .i64 (p)) (.int .i64 (frV t p (thV n t)))⟩ ?_
  clear HX HY HB hb9
  clear c0 c1 c2 d0 d1 d2 f0 f1 f2 g0 g1 g2
  rintro W ⟨hy, hB⟩
  obtain ⟨d0, d1, d2⟩ := c3V hy
  exact bodyPost_ret (v := .agg #[.int .i64 (t), .int .i64 (p), .int .i64 (frV t p (thV n t))]) (by simp only [results, Try.results7]; go_simp) rfl ⟨rfl, hB⟩
set_option maxRecDepth 100000 in
theorem sMoveTo_no (t p f n : Int) (w : World) (h : vwB t p f = false ∨ (vwB t p f = true ∧ rng n 0 1000 = false)) : Calls Try.prog 9 #[.agg #[.int .i64 (t), .int .i64 (p), .int .i64 (f)], .int .i64 n] w fun e w' => e = .returned (.agg #[.int .i64 (0), .int .i64 (0), .int .i64 (0)]) ∧ Below w.heap.size w w' := by
  rcases h with h | ⟨h, h2⟩
  · go_enter Try.func9, Try.ntmps9
    go_upto_region 1 with (fail)
    refine wp_V (fun W => W.heap[w.heap.size]? = some (.cells #[.int .i64 (t), .int .i64 (p), .int .i64 (f)] 24 (0, 0)) ∧ W.heap[w.heap.size + 1]? = some (.cells #[.int .i64 (0), .int .i64 (0), .int .i64 (0)] 24 (0, 0)) ∧ Below w.heap.size w W) ⟨oldV _ _ _, newV1 _ _ _, balloc (balloc (Below.refl _ _))⟩ ?_
    rintro w0 ⟨hx, hy, hB⟩
    have HX := Lib.hid hx
    have HY := Lib.hid hy
    have HB := Lib.hid hB
    have hl0 := ltV hy
    clear hx hy hB
    obtain ⟨c0, c1, c2⟩ := c3V HX.out
    obtain ⟨d0, d1, d2⟩ := c3V HY.out
    obtain ⟨f0, f1, f2⟩ := f3V HX.out
    obtain ⟨g0, g1, g2⟩ := f3V HY.out
    go_wp2_with fail
    with_reducible refine (svalidView_v _ _ _ false _ h).mono ?_
    rintro e w1 ⟨rfl, hb⟩
    clear c0 c1 c2 d0 d1 d2 f0 f1 f2 g0 g1 g2
    replace HX := Lib.hid ((hb.block _ (ltV HX.out)).trans HX.out)
    replace HY := Lib.hid ((hb.block _ (ltV HY.out)).trans HY.out)
    replace HB := Lib.hid (bkeep2 HB.out hb)
    have hl1 := 0
    clear hb hl0 hl1
    have hl0 := ltV HY.out
    obtain ⟨c0, c1, c2⟩ := c3V HX.out
    obtain ⟨d0, d1, d2⟩ := c3V HY.out
    obtain ⟨f0, f1, f2⟩ := f3V HX.out
    obtain ⟨g0, g1, g2⟩ := f3V HY.out
    go_wp2
    refine bpV (fun W => W.heap[w.heap.size + 1]? = some (.cells #[.int .i64 (0), .int .i64 (0), .int .i64 (0)] 24 (0, 0)) ∧ Below w.heap.size w W) ⟨put3V HY.out (.int .i64 (0)) (.int .i64 (0)) (.int .i64 (0)), put3b HB.out (by omega) (.int .i64 (0)) (.int .i64 (0)) (.int .i64 (0))⟩ ?_
    clear HX HY HB
    clear c0 c1 c2 d0 d1 d2 f0 f1 f2 g0 g1 g2
    rintro W ⟨hy, hB⟩
    obtain ⟨d0, d1, d2⟩ := c3V hy
    exact bodyPost_ret (v := .agg #[.int .i64 (0), .int .i64 (0), .int .i64 (0)]) (by simp only [results, Try.results9]; go_simp) rfl ⟨rfl, hB⟩

  · go_enter Try.func9, Try.ntmps9
    go_upto_region 1 with (fail)
    refine wp_V (fun W => W.heap[w.heap.size]? = some (.cells #[.int .i64 (t), .int .i64 (p), .int .i64 (f)] 24 (0, 0)) ∧ W.heap[w.heap.size + 1]? = some (.cells #[.int .i64 (0), .int .i64 (0), .int .i64 (0)] 24 (0, 0)) ∧ Below w.heap.size w W) ⟨oldV _ _ _, newV1 _ _ _, balloc (balloc (Below.refl _ _))⟩ ?_
    rintro w0 ⟨hx, hy, hB⟩
    have HX := Lib.hid hx
    have HY := Lib.hid hy
    have HB := Lib.hid hB
    have hl0 := ltV hy
    clear hx hy hB
    obtain ⟨c0, c1, c2⟩ := c3V HX.out
    obtain ⟨d0, d1, d2⟩ := c3V HY.out
    obtain ⟨f0, f1, f2⟩ := f3V HX.out
    obtain ⟨g0, g1, g2⟩ := f3V HY.out
    go_wp2_with fail
    with_reducible refine (svalidView_v _ _ _ true _ h).mono ?_
    rintro e w1 ⟨rfl, hb⟩
    clear c0 c1 c2 d0 d1 d2 f0 f1 f2 g0 g1 g2
    replace HX := Lib.hid ((hb.block _ (ltV HX.out)).trans HX.out)
    replace HY := Lib.hid ((hb.block _ (ltV HY.out)).trans HY.out)
    replace HB := Lib.hid (bkeep2 HB.out hb)
    have hl1 := 0
    clear hb hl0 hl1
    have hl0 := ltV HY.out
    obtain ⟨c0, c1, c2⟩ := c3V HX.out
    obtain ⟨d0, d1, d2⟩ := c3V HY.out
    obtain ⟨f0, f1, f2⟩ := f3V HX.out
    obtain ⟨g0, g1, g2⟩ := f3V HY.out
    go_wp2_with fail
    with_reducible refine (inRange_V _ _ _ false _ h2).mono ?_
    rintro e w1 ⟨rfl, hb⟩
    clear c0 c1 c2 d0 d1 d2 f0 f1 f2 g0 g1 g2
    replace HX := Lib.hid ((hb.block _ (ltV HX.out)).trans HX.out)
    replace HY := Lib.hid ((hb.block _ (ltV HY.out)).trans HY.out)
    replace HB := Lib.hid (bkeep2 HB.out hb)
    have hl1 := 0
    clear hb hl0 hl1
    have hl0 := ltV HY.out
    obtain ⟨c0, c1, c2⟩ := c3V HX.out
    obtain ⟨d0, d1, d2⟩ := c3V HY.out
    obtain ⟨f0, f1, f2⟩ := f3V HX.out
    obtain ⟨g0, g1, g2⟩ := f3V HY.out
    go_wp2
    refine bpV (fun W => W.heap[w.heap.size + 1]? = some (.cells #[.int .i64 (0), .int .i64 (0), .int .i64 (0)] 24 (0, 0)) ∧ Below w.heap.size w W) ⟨put3V HY.out (.int .i64 (0)) (.int .i64 (0)) (.int .i64 (0)), put3b HB.out (by omega) (.int .i64 (0)) (.int .i64 (0)) (.int .i64 (0))⟩ ?_
    clear HX HY HB
    clear c0 c1 c2 d0 d1 d2 f0 f1 f2 g0 g1 g2
    rintro W ⟨hy, hB⟩
    obtain ⟨d0, d1, d2⟩ := c3V hy
    exact bodyPost_ret (v := .agg #[.int .i64 (0), .int .i64 (0), .int .i64 (0)]) (by simp only [results, Try.results9]; go_simp) rfl ⟨rfl, hB⟩

set_option maxRecDepth 100000 in
theorem sMoveTo_yes (t p f n : Int) (w : World) (h : vwB t p f = true) (h2 : rng n 0 1000 = true) : Calls Try.prog 9 #[.agg #[.int .i64 (t), .int .i64 (p), .int .i64 (f)], .int .i64 n] w fun e w' => e = .returned (.agg #[.int .i64 (t), .int .i64 (p), .int .i64 (frV t p (thV n t))]) ∧ Below w.heap.size w w' := by
  have g1 := vwB_iff.1 h
  have k1 : -1000 ≤ t ∧ t ≤ 1000 := by omega
  have k2 : -1000 ≤ p ∧ p ≤ 1000 := by omega
  have g2 := rng_iff.1 h2
  obtain ⟨g21, g22⟩ := g2
  have g4 : 0 ≤ t := by omega
  have g5 : t ≤ 1000 := by omega
  clear g1
  go_enter Try.func9, Try.ntmps9
  go_upto_region 1 with (fail)
  refine wp_V (fun W => W.heap[w.heap.size]? = some (.cells #[.int .i64 (t), .int .i64 (p), .int .i64 (f)] 24 (0, 0)) ∧ W.heap[w.heap.size + 1]? = some (.cells #[.int .i64 (0), .int .i64 (0), .int .i64 (0)] 24 (0, 0)) ∧ Below w.heap.size w W) ⟨oldV _ _ _, newV1 _ _ _, balloc (balloc (Below.refl _ _))⟩ ?_
  rintro w0 ⟨hx, hy, hB⟩
  have HX := Lib.hid hx
  have HY := Lib.hid hy
  have HB := Lib.hid hB
  have hl0 := ltV hy
  clear hx hy hB
  obtain ⟨c0, c1, c2⟩ := c3V HX.out
  obtain ⟨d0, d1, d2⟩ := c3V HY.out
  obtain ⟨f0, f1, f2⟩ := f3V HX.out
  obtain ⟨g0, g1, g2⟩ := f3V HY.out
  go_wp2_with fail
  with_reducible refine (svalidView_v _ _ _ true _ h).mono ?_
  rintro e w1 ⟨rfl, hb⟩
  clear c0 c1 c2 d0 d1 d2 f0 f1 f2 g0 g1 g2
  replace HX := Lib.hid ((hb.block _ (ltV HX.out)).trans HX.out)
  replace HY := Lib.hid ((hb.block _ (ltV HY.out)).trans HY.out)
  replace HB := Lib.hid (bkeep2 HB.out hb)
  have hl1 := 0
  clear hb hl0 hl1
  have hl0 := ltV HY.out
  obtain ⟨c0, c1, c2⟩ := c3V HX.out
  obtain ⟨d0, d1, d2⟩ := c3V HY.out
  obtain ⟨f0, f1, f2⟩ := f3V HX.out
  obtain ⟨g0, g1, g2⟩ := f3V HY.out
  go_wp2_with fail
  with_reducible refine (inRange_V _ _ _ true _ h2).mono ?_
  rintro e w1 ⟨rfl, hb⟩
  clear c0 c1 c2 d0 d1 d2 f0 f1 f2 g0 g1 g2
  replace HX := Lib.hid ((hb.block _ (ltV HX.out)).trans HX.out)
  replace HY := Lib.hid ((hb.block _ (ltV HY.out)).trans HY.out)
  replace HB := Lib.hid (bkeep2 HB.out hb)
  have hl1 := 0
  clear hb hl0 hl1
  have hl0 := ltV HY.out
  obtain ⟨c0, c1, c2⟩ := c3V HX.out
  obtain ⟨d0, d1, d2⟩ := c3V HY.out
  obtain ⟨f0, f1, f2⟩ := f3V HX.out
  obtain ⟨g0, g1, g2⟩ := f3V HY.out
  go_wp2_with fail
  refine wp_region_grow 6 1 (· < 6) (by kernel_rfl) (by kernel_rfl) rfl ?_
  iterate 6 (refine wpG_step (fun K hK => ?_); first | (refine grow_skip rfl ?_; go_simp; refine hK _ ?_; clear hK K) | (apply Exists.intro; refine ⟨.inl ⟨rfl, fun w' hw' => ?_⟩, ?_⟩; (focus ((obtain ⟨hc, hf⟩ := bcell hw'.out); (have hcS := bcellS hw'.out); go_simp <;> first | rfl | (go_at_call 26; exact part_V _ _ _ g21 g22 g4 g5) | (go_at_call 25; exact clamped_v _ _ _ _ _ k1 k2))); (go_simp; refine hK _ ?_; clear hK K)))
  refine wpG_nil ?_
  refine wpK_tail (by kernel_rfl) (fun w9 hg9 => ?_)
  have hb9 := bdrewn hg9.out
  obtain ⟨hc9, hf9⟩ := bcell hb9
  refine wpAny_one (i := 6) (by kernel_rfl) rfl rfl ?_
  go_simp
  refine wpAny_end (by kernel_rfl) ?_
  refine NoPan.thn ?_
  clear hc9 hf9
  clear hg9
  go_wp2
  refine bpV (fun W => W.heap[w.heap.size + 1]? = some (.cells #[.int .i64 (t), .int .i64 (p), .int .i64 (frV t p (thV n t))] 24 (0, 0)) ∧ Below w.heap.size w W) ⟨put3V ((hb9.block _ (ltV HY.out)).trans HY.out) (.int .i64 (t)) (.int .i64 (p)) (.int .i64 (frV t p (thV n t))), put3b (bkeep2 HB.out hb9) (by omega) (.int .i64 (t)) (.int .i64 (p)) (.int .i64 (frV t p (thV n t)))⟩ ?_
  clear HX HY HB hb9
  clear c0 c1 c2 d0 d1 d2 f0 f1 f2 g0 g1 g2
  rintro W ⟨hy, hB⟩
  obtain ⟨d0, d1, d2⟩ := c3V hy
  exact bodyPost_ret (v := .agg #[.int .i64 (t), .int .i64 (p), .int .i64 (frV t p (thV n t))]) (by simp only [results, Try.results9]; go_simp) rfl ⟨rfl, hB⟩
end Go.Proofs.Ytpbfbcdidkbjiad
end
section
namespace Go.Proofs.Ytpbfbcdidkbjiad
open Go.RowKit
set_option linter.unusedVariables false
set_option maxHeartbeats 1000000
attribute [local go_sem 5000] run_mx run_mn
attribute [local go_sem] growUpon_value growUpon_skip growUpon_enter
set_option maxRecDepth 100000 in
theorem SeeLine_no (t p f n : Int) (w : World) (h : vwB t p f = false ∨ (vwB t p f = true ∧ rng n 0 (t - 1) = false)) : Calls Try.prog 12 #[.agg #[.int .i64 (t), .int .i64 (p), .int .i64 (f)], .int .i64 n] w fun e w' => e = .returned (.agg #[.int .i64 (0), .int .i64 (0), .int .i64 (0)]) ∧ Below w.heap.size w w' := by
  rcases h with h | ⟨h, h2⟩
  · go_enter Try.func12, Try.ntmps12
    go_upto_region 1 with (fail)
    refine wp_V (fun W => W.heap[w.heap.size]? = some (.cells #[.int .i64 (t), .int .i64 (p), .int .i64 (f)] 24 (0, 0)) ∧ W.heap[w.heap.size + 1]? = some (.cells #[.int .i64 (0), .int .i64 (0), .int .i64 (0)] 24 (0, 0)) ∧ Below w.heap.size w W) ⟨oldV _ _ _, newV1 _ _ _, balloc (balloc (Below.refl _ _))⟩ ?_
    rintro w0 ⟨hx, hy, hB⟩
    have HX := Lib.hid hx
    have HY := Lib.hid hy
    have HB := Lib.hid hB
    have hl0 := ltV hy
    clear hx hy hB
    obtain ⟨c0, c1, c2⟩ := c3V HX.out
    obtain ⟨d0, d1, d2⟩ := c3V HY.out
    obtain ⟨f0, f1, f2⟩ := f3V HX.out
    obtain ⟨g0, g1, g2⟩ := f3V HY.out
    go_wp2_with fail
    with_reducible refine (ValidView_v _ _ _ false _ h).mono ?_
    rintro e w1 ⟨rfl, hb⟩
    clear c0 c1 c2 d0 d1 d2 f0 f1 f2 g0 g1 g2
    replace HX := Lib.hid ((hb.block _ (ltV HX.out)).trans HX.out)
    replace HY := Lib.hid ((hb.block _ (ltV HY.out)).trans HY.out)
    replace HB := Lib.hid (bkeep2 HB.out hb)
    have hl1 := 0
    clear hb hl0 hl1
    have hl0 := ltV HY.out
    obtain ⟨c0, c1, c2⟩ := c3V HX.out
    obtain ⟨d0, d1, d2⟩ := c3V HY.out
    obtain ⟨f0, f1, f2⟩ := f3V HX.out
    obtain ⟨g0, g1, g2⟩ := f3V HY.out
    go_wp2
    refine bpV (fun W => W.heap[w.heap.size + 1]? = some (.cells #[.int .i64 (0), .int .i64 (0), .int .i64 (0)] 24 (0, 0)) ∧ Below w.heap.size w W) ⟨put3V HY.out (.int .i64 (0)) (.int .i64 (0)) (.int .i64 (0)), put3b HB.out (by omega) (.int .i64 (0)) (.int .i64 (0)) (.int .i64 (0))⟩ ?_
    clear HX HY HB
    clear c0 c1 c2 d0 d1 d2 f0 f1 f2 g0 g1 g2
    rintro W ⟨hy, hB⟩
    obtain ⟨d0, d1, d2⟩ := c3V hy
    exact bodyPost_ret (v := .agg #[.int .i64 (0), .int .i64 (0), .int .i64 (0)]) (by simp only [results, Try.results12]; go_simp) rfl ⟨rfl, hB⟩

  · have g1 := vwB_iff.1 h
    obtain ⟨⟨g11, g12⟩, ⟨g13, g14⟩, g15⟩ := g1
    go_enter Try.func12, Try.ntmps12
    go_upto_region 1 with (fail)
    refine wp_V (fun W => W.heap[w.heap.size]? = some (.cells #[.int .i64 (t), .int .i64 (p), .int .i64 (f)] 24 (0, 0)) ∧ W.heap[w.heap.size + 1]? = some (.cells #[.int .i64 (0), .int .i64 (0), .int .i64 (0)] 24 (0, 0)) ∧ Below w.heap.size w W) ⟨oldV _ _ _, newV1 _ _ _, balloc (balloc (Below.refl _ _))⟩ ?_
    rintro w0 ⟨hx, hy, hB⟩
    have HX := Lib.hid hx
    have HY := Lib.hid hy
    have HB := Lib.hid hB
    have hl0 := ltV hy
    clear hx hy hB
    obtain ⟨c0, c1, c2⟩ := c3V HX.out
    obtain ⟨d0, d1, d2⟩ := c3V HY.out
    obtain ⟨f0, f1, f2⟩ := f3V HX.out
    obtain ⟨g0, g1, g2⟩ := f3V HY.out
    go_wp2_with fail
    with_reducible refine (ValidView_v _ _ _ true _ h).mono ?_
    rintro e w1 ⟨rfl, hb⟩
    clear c0 c1 c2 d0 d1 d2 f0 f1 f2 g0 g1 g2
    replace HX := Lib.hid ((hb.block _ (ltV HX.out)).trans HX.out)
    replace HY := Lib.hid ((hb.block _ (ltV HY.out)).trans HY.out)
    replace HB := Lib.hid (bkeep2 HB.out hb)
    have hl1 := 0
    clear hb hl0 hl1
    have hl0 := ltV HY.out
    obtain ⟨c0, c1, c2⟩ := c3V HX.out
    obtain ⟨d0, d1, d2⟩ := c3V HY.out
    obtain ⟨f0, f1, f2⟩ := f3V HX.out
    obtain ⟨g0, g1, g2⟩ := f3V HY.out
    go_wp2_with fail
    with_reducible refine (within_V _ _ _ false _ h2).mono ?_
    rintro e w1 ⟨rfl, hb⟩
    clear c0 c1 c2 d0 d1 d2 f0 f1 f2 g0 g1 g2
    replace HX := Lib.hid ((hb.block _ (ltV HX.out)).trans HX.out)
    replace HY := Lib.hid ((hb.block _ (ltV HY.out)).trans HY.out)
    replace HB := Lib.hid (bkeep2 HB.out hb)
    have hl1 := 0
    clear hb hl0 hl1
    have hl0 := ltV HY.out
    obtain ⟨c0, c1, c2⟩ := c3V HX.out
    obtain ⟨d0, d1, d2⟩ := c3V HY.out
    obtain ⟨f0, f1, f2⟩ := f3V HX.out
    obtain ⟨g0, g1, g2⟩ := f3V HY.out
    go_wp2
    refine bpV (fun W => W.heap[w.heap.size + 1]? = some (.cells #[.int .i64 (0), .int .i64 (0), .int .i64 (0)] 24 (0, 0)) ∧ Below w.heap.size w W) ⟨put3V HY.out (.int .i64 (0)) (.int .i64 (0)) (.int .i64 (0)), put3b HB.out (by omega) (.int .i64 (0)) (.int .i64 (0)) (.int .i64 (0))⟩ ?_
    clear HX HY HB
    clear c0 c1 c2 d0 d1 d2 f0 f1 f2 g0 g1 g2
    rintro W ⟨hy, hB⟩
    obtain ⟨d0, d1, d2⟩ := c3V hy
    exact bodyPost_ret (v := .agg #[.int .i64 (0), .int .i64 (0), .int .i64 (0)]) (by simp only [results, Try.results12]; go_simp) rfl ⟨rfl, hB⟩

set_option maxRecDepth 100000 in
theorem SeeLine_yes (t p f n : Int) (w : World) (h : vwB t p f = true) (h2 : rng n 0 (t - 1) = true) : Calls Try.prog 12 #[.agg #[.int .i64 (t), .int .i64 (p), .int .i64 (f)], .int .i64 n] w fun e w' => e = .returned (.agg #[.int .i64 (t), .int .i64 (p), .int .i64 (seV t p f n)]) ∧ Below w.heap.size w w' := by
  have g1 := vwB_iff.1 h
  have k1 : -1000 ≤ t ∧ t ≤ 1000 := by omega
  have k2 : -1000 ≤ p ∧ p ≤ 1000 := by omega
  have g2 := rng_iff.1 h2
  obtain ⟨g21, g22⟩ := g2
  have g3 := enV_spec t p
  have g4 : 0 ≤ f := by omega
  have g5 : f ≤ 500 := by omega
  have g6 : n ≤ 500 := by omega
  obtain ⟨⟨g11, g12⟩, ⟨g13, g14⟩, g15⟩ := g1
  have wp1 : IntKind.i64.wrap (n - p) = n - p := IntWalk.i64_in _ (by omega)
  have wp2 : IntKind.i64.wrap (n - p + 1) = n - p + 1 := IntWalk.i64_in _ (by omega)
  clear g3 g15
  go_enter Try.func12, Try.ntmps12
  go_upto_region 1 with (fail)
  refine wp_V (fun W => W.heap[w.heap.size]? = some (.cells #[.int .i64 (t), .int .i64 (p), .int .i64 (f)] 24 (0, 0)) ∧ W.heap[w.heap.size + 1]? = some (.cells #[.int .i64 (0), .int .i64 (0), .int .i64 (0)] 24 (0, 0)) ∧ Below w.heap.size w W) ⟨oldV _ _ _, newV1 _ _ _, balloc (balloc (Below.refl _ _))⟩ ?_
  rintro w0 ⟨hx, hy, hB⟩
  have HX := Lib.hid hx
  have HY := Lib.hid hy
  have HB := Lib.hid hB
  have hl0 := ltV hy
  clear hx hy hB
  obtain ⟨c0, c1, c2⟩ := c3V HX.out
  obtain ⟨d0, d1, d2⟩ := c3V HY.out
  obtain ⟨f0, f1, f2⟩ := f3V HX.out
  obtain ⟨g0, g1, g2⟩ := f3V HY.out
  go_wp2_with fail
  with_reducible refine (ValidView_v _ _ _ true _ h).mono ?_
  rintro e w1 ⟨rfl, hb⟩
  clear c0 c1 c2 d0 d1 d2 f0 f1 f2 g0 g1 g2
  replace HX := Lib.hid ((hb.block _ (ltV HX.out)).trans HX.out)
  replace HY := Lib.hid ((hb.block _ (ltV HY.out)).trans HY.out)
  replace HB := Lib.hid (bkeep2 HB.out hb)
  have hl1 := 0
  clear hb hl0 hl1
  have hl0 := ltV HY.out
  obtain ⟨c0, c1, c2⟩ := c3V HX.out
  obtain ⟨d0, d1, d2⟩ := c3V HY.out
  obtain ⟨f0, f1, f2⟩ := f3V HX.out
  obtain ⟨g0, g1, g2⟩ := f3V HY.out
  go_wp2_with fail
  with_reducible refine (within_V _ _ _ true _ h2).mono ?_
  rintro e w1 ⟨rfl, hb⟩
  clear c0 c1 c2 d0 d1 d2 f0 f1 f2 g0 g1 g2
  replace HX := Lib.hid ((hb.block _ (ltV HX.out)).trans HX.out)
  replace HY := Lib.hid ((hb.block _ (ltV HY.out)).trans HY.out)
  replace HB := Lib.hid (bkeep2 HB.out hb)
  have hl1 := 0
  clear hb hl0 hl1
  have hl0 := ltV HY.out
  obtain ⟨c0, c1, c2⟩ := c3V HX.out
  obtain ⟨d0, d1, d2⟩ := c3V HY.out
  obtain ⟨f0, f1, f2⟩ := f3V HX.out
  obtain ⟨g0, g1, g2⟩ := f3V HY.out
  go_wp2_with fail
  refine wp_region_grow 11 1 (· < 11) (by kernel_rfl) (by kernel_rfl) rfl ?_
  iterate 11 (refine wpG_step (fun K hK => ?_); first | (refine grow_skip rfl ?_; go_simp; refine hK _ ?_; clear hK K) | (apply Exists.intro; refine ⟨.inl ⟨rfl, fun w' hw' => ?_⟩, ?_⟩; (focus ((obtain ⟨hc, hf⟩ := bcell hw'.out); (have hcS := bcellS hw'.out); go_simp <;> first | rfl | (go_at_call 30; exact nearest_v _ _ _ _) | (go_at_call 21; exact from_v _ _ _ _ _ k1 k2))); (go_simp; refine hK _ ?_; clear hK K)))
  refine wpG_nil ?_
  refine wpK_tail (by kernel_rfl) (fun w9 hg9 => ?_)
  have hb9 := bdrewn hg9.out
  obtain ⟨hc9, hf9⟩ := bcell hb9
  refine wpAny_one (i := 11) (by kernel_rfl) rfl rfl ?_
  go_simp
  refine wpAny_end (by kernel_rfl) ?_
  refine NoPan.thn ?_
  clear hc9 hf9
  clear hg9
  go_wp2
  refine bpV (fun W => W.heap[w.heap.size + 1]? = some (.cells #[.int .i64 (t), .int .i64 (p), .int .i64 (seV t p f n)] 24 (0, 0)) ∧ Below w.heap.size w W) ⟨put3V ((hb9.block _ (ltV HY.out)).trans HY.out) (.int .i64 (t)) (.int .i64 (p)) (.int .i64 (seV t p f n)), put3b (bkeep2 HB.out hb9) (by omega) (.int .i64 (t)) (.int .i64 (p)) (.int .i64 (seV t p f n))⟩ ?_
  clear HX HY HB hb9
  clear c0 c1 c2 d0 d1 d2 f0 f1 f2 g0 g1 g2
  rintro W ⟨hy, hB⟩
  obtain ⟨d0, d1, d2⟩ := c3V hy
  exact bodyPost_ret (v := .agg #[.int .i64 (t), .int .i64 (p), .int .i64 (seV t p f n)]) (by simp only [results, Try.results12]; go_simp) rfl ⟨rfl, hB⟩
set_option maxRecDepth 100000 in
theorem sSeeLine_no (t p f n : Int) (w : World) (h : vwB t p f = false ∨ (vwB t p f = true ∧ rng n 0 (t - 1) = false)) : Calls Try.prog 13 #[.agg #[.int .i64 (t), .int .i64 (p), .int .i64 (f)], .int .i64 n] w fun e w' => e = .returned (.agg #[.int .i64 (0), .int .i64 (0), .int .i64 (0)]) ∧ Below w.heap.size w w' := by
  rcases h with h | ⟨h, h2⟩
  · go_enter Try.func13, Try.ntmps13
    go_upto_region 1 with (fail)
    refine wp_V (fun W => W.heap[w.heap.size]? = some (.cells #[.int .i64 (t), .int .i64 (p), .int .i64 (f)] 24 (0, 0)) ∧ W.heap[w.heap.size + 1]? = some (.cells #[.int .i64 (0), .int .i64 (0), .int .i64 (0)] 24 (0, 0)) ∧ Below w.heap.size w W) ⟨oldV _ _ _, newV1 _ _ _, balloc (balloc (Below.refl _ _))⟩ ?_
    rintro w0 ⟨hx, hy, hB⟩
    have HX := Lib.hid hx
    have HY := Lib.hid hy
    have HB := Lib.hid hB
    have hl0 := ltV hy
    clear hx hy hB
    obtain ⟨c0, c1, c2⟩ := c3V HX.out
    obtain ⟨d0, d1, d2⟩ := c3V HY.out
    obtain ⟨f0, f1, f2⟩ := f3V HX.out
    obtain ⟨g0, g1, g2⟩ := f3V HY.out
    go_wp2_with fail
    with_reducible refine (svalidView_v _ _ _ false _ h).mono ?_
    rintro e w1 ⟨rfl, hb⟩
    clear c0 c1 c2 d0 d1 d2 f0 f1 f2 g0 g1 g2
    replace HX := Lib.hid ((hb.block _ (ltV HX.out)).trans HX.out)
    replace HY := Lib.hid ((hb.block _ (ltV HY.out)).trans HY.out)
    replace HB := Lib.hid (bkeep2 HB.out hb)
    have hl1 := 0
    clear hb hl0 hl1
    have hl0 := ltV HY.out
    obtain ⟨c0, c1, c2⟩ := c3V HX.out
    obtain ⟨d0, d1, d2⟩ := c3V HY.out
    obtain ⟨f0, f1, f2⟩ := f3V HX.out
    obtain ⟨g0, g1, g2⟩ := f3V HY.out
    go_wp2
    refine bpV (fun W => W.heap[w.heap.size + 1]? = some (.cells #[.int .i64 (0), .int .i64 (0), .int .i64 (0)] 24 (0, 0)) ∧ Below w.heap.size w W) ⟨put3V HY.out (.int .i64 (0)) (.int .i64 (0)) (.int .i64 (0)), put3b HB.out (by omega) (.int .i64 (0)) (.int .i64 (0)) (.int .i64 (0))⟩ ?_
    clear HX HY HB
    clear c0 c1 c2 d0 d1 d2 f0 f1 f2 g0 g1 g2
    rintro W ⟨hy, hB⟩
    obtain ⟨d0, d1, d2⟩ := c3V hy
    exact bodyPost_ret (v := .agg #[.int .i64 (0), .int .i64 (0), .int .i64 (0)]) (by simp only [results, Try.results13]; go_simp) rfl ⟨rfl, hB⟩

  · have g1 := vwB_iff.1 h
    obtain ⟨⟨g11, g12⟩, ⟨g13, g14⟩, g15⟩ := g1
    go_enter Try.func13, Try.ntmps13
    go_upto_region 1 with (fail)
    refine wp_V (fun W => W.heap[w.heap.size]? = some (.cells #[.int .i64 (t), .int .i64 (p), .int .i64 (f)] 24 (0, 0)) ∧ W.heap[w.heap.size + 1]? = some (.cells #[.int .i64 (0), .int .i64 (0), .int .i64 (0)] 24 (0, 0)) ∧ Below w.heap.size w W) ⟨oldV _ _ _, newV1 _ _ _, balloc (balloc (Below.refl _ _))⟩ ?_
    rintro w0 ⟨hx, hy, hB⟩
    have HX := Lib.hid hx
    have HY := Lib.hid hy
    have HB := Lib.hid hB
    have hl0 := ltV hy
    clear hx hy hB
    obtain ⟨c0, c1, c2⟩ := c3V HX.out
    obtain ⟨d0, d1, d2⟩ := c3V HY.out
    obtain ⟨f0, f1, f2⟩ := f3V HX.out
    obtain ⟨g0, g1, g2⟩ := f3V HY.out
    go_wp2_with fail
    with_reducible refine (svalidView_v _ _ _ true _ h).mono ?_
    rintro e w1 ⟨rfl, hb⟩
    clear c0 c1 c2 d0 d1 d2 f0 f1 f2 g0 g1 g2
    replace HX := Lib.hid ((hb.block _ (ltV HX.out)).trans HX.out)
    replace HY := Lib.hid ((hb.block _ (ltV HY.out)).trans HY.out)
    replace HB := Lib.hid (bkeep2 HB.out hb)
    have hl1 := 0
    clear hb hl0 hl1
    have hl0 := ltV HY.out
    obtain ⟨c0, c1, c2⟩ := c3V HX.out
    obtain ⟨d0, d1, d2⟩ := c3V HY.out
    obtain ⟨f0, f1, f2⟩ := f3V HX.out
    obtain ⟨g0, g1, g2⟩ := f3V HY.out
    go_wp2_with fail
    with_reducible refine (inRange_V _ _ _ false _ h2).mono ?_
    rintro e w1 ⟨rfl, hb⟩
    clear c0 c1 c2 d0 d1 d2 f0 f1 f2 g0 g1 g2
    replace HX := Lib.hid ((hb.block _ (ltV HX.out)).trans HX.out)
    replace HY := Lib.hid ((hb.block _ (ltV HY.out)).trans HY.out)
    replace HB := Lib.hid (bkeep2 HB.out hb)
    have hl1 := 0
    clear hb hl0 hl1
    have hl0 := ltV HY.out
    obtain ⟨c0, c1, c2⟩ := c3V HX.out
    obtain ⟨d0, d1, d2⟩ := c3V HY.out
    obtain ⟨f0, f1, f2⟩ := f3V HX.out
    obtain ⟨g0, g1, g2⟩ := f3V HY.out
    go_wp2
    refine bpV (fun W => W.heap[w.heap.size + 1]? = some (.cells #[.int .i64 (0), .int .i64 (0), .int .i64 (0)] 24 (0, 0)) ∧ Below w.heap.size w W) ⟨put3V HY.out (.int .i64 (0)) (.int .i64 (0)) (.int .i64 (0)), put3b HB.out (by omega) (.int .i64 (0)) (.int .i64 (0)) (.int .i64 (0))⟩ ?_
    clear HX HY HB
    clear c0 c1 c2 d0 d1 d2 f0 f1 f2 g0 g1 g2
    rintro W ⟨hy, hB⟩
    obtain ⟨d0, d1, d2⟩ := c3V hy
    exact bodyPost_ret (v := .agg #[.int .i64 (0), .int .i64 (0), .int .i64 (0)]) (by simp only [results, Try.results13]; go_simp) rfl ⟨rfl, hB⟩

set_option maxRecDepth 100000 in
theorem sSeeLine_yes (t p f n : Int) (w : World) (h : vwB t p f = true) (h2 : rng n 0 (t - 1) = true) : Calls Try.prog 13 #[.agg #[.int .i64 (t), .int .i64 (p), .int .i64 (f)], .int .i64 n] w fun e w' => e = .returned (.agg #[.int .i64 (t), .int .i64 (p), .int .i64 (seV t p f n)]) ∧ Below w.heap.size w w' := by
  have g1 := vwB_iff.1 h
  have k1 : -1000 ≤ t ∧ t ≤ 1000 := by omega
  have k2 : -1000 ≤ p ∧ p ≤ 1000 := by omega
  have g2 := rng_iff.1 h2
  obtain ⟨g21, g22⟩ := g2
  have g3 := enV_spec t p
  have g4 : 0 ≤ f := by omega
  have g5 : f ≤ 500 := by omega
  have g6 : n ≤ 500 := by omega
  obtain ⟨⟨g11, g12⟩, ⟨g13, g14⟩, g15⟩ := g1
  have wp1 : IntKind.i64.wrap (n - p) = n - p := IntWalk.i64_in _ (by omega)
  have wp2 : IntKind.i64.wrap (n - p + 1) = n - p + 1 := IntWalk.i64_in _ (by omega)
  have HF := Lib.hid g15.2
  clear g3 g15
  go_enter Try.func13, Try.ntmps13
  go_upto_region 1 with (fail)
  refine wp_V (fun W => W.heap[w.heap.size]? = some (.cells #[.int .i64 (t), .int .i64 (p), .int .i64 (f)] 24 (0, 0)) ∧ W.heap[w.heap.size + 1]? = some (.cells #[.int .i64 (0), .int .i64 (0), .int .i64 (0)] 24 (0, 0)) ∧ Below w.heap.size w W) ⟨oldV _ _ _, newV1 _ _ _, balloc (balloc (Below.refl _ _))⟩ ?_
  rintro w0 ⟨hx, hy, hB⟩
  have HX := Lib.hid hx
  have HY := Lib.hid hy
  have HB := Lib.hid hB
  have hl0 := ltV hy
  clear hx hy hB
  obtain ⟨c0, c1, c2⟩ := c3V HX.out
  obtain ⟨d0, d1, d2⟩ := c3V HY.out
  obtain ⟨f0, f1, f2⟩ := f3V HX.out
  obtain ⟨g0, g1, g2⟩ := f3V HY.out
  go_wp2_with fail
  with_reducible refine (svalidView_v _ _ _ true _ h).mono ?_
  rintro e w1 ⟨rfl, hb⟩
  clear c0 c1 c2 d0 d1 d2 f0 f1 f2 g0 g1 g2
  replace HX := Lib.hid ((hb.block _ (ltV HX.out)).trans HX.out)
  replace HY := Lib.hid ((hb.block _ (ltV HY.out)).trans HY.out)
  replace HB := Lib.hid (bkeep2 HB.out hb)
  have hl1 := 0
  clear hb hl0 hl1
  have hl0 := ltV HY.out
  obtain ⟨c0, c1, c2⟩ := c3V HX.out
  obtain ⟨d0, d1, d2⟩ := c3V HY.out
  obtain ⟨f0, f1, f2⟩ := f3V HX.out
  obtain ⟨g0, g1, g2⟩ := f3V HY.out
  go_wp2_with fail
  with_reducible refine (inRange_V _ _ _ true _ h2).mono ?_
  rintro e w1 ⟨rfl, hb⟩
  clear c0 c1 c2 d0 d1 d2 f0 f1 f2 g0 g1 g2
  replace HX := Lib.hid ((hb.block _ (ltV HX.out)).trans HX.out)
  replace HY := Lib.hid ((hb.block _ (ltV HY.out)).trans HY.out)
  replace HB := Lib.hid (bkeep2 HB.out hb)
  have hl1 := 0
  clear hb hl0 hl1
  have hl0 := ltV HY.out
  obtain ⟨c0, c1, c2⟩ := c3V HX.out
  obtain ⟨d0, d1, d2⟩ := c3V HY.out
  obtain ⟨f0, f1, f2⟩ := f3V HX.out
  obtain ⟨g0, g1, g2⟩ := f3V HY.out
  by_cases q1 : n < f
  · have HS := Lib.hid (show seV t p f n = frV t p n by rw [seV, (neV_spec (n := f) (a := n - p + 1) (b := n) (by omega)).2.1 q1])
    go_wp2_with fail
    with_reducible refine (clamped_v _ _ _ _ _ k1 k2).mono ?_
    rintro e w1 ⟨rfl, hb⟩
    clear c0 c1 c2 d0 d1 d2 f0 f1 f2 g0 g1 g2
    replace HX := Lib.hid ((hb.block _ (ltV HX.out)).trans HX.out)
    replace HY := Lib.hid ((hb.block _ (ltV HY.out)).trans HY.out)
    replace HB := Lib.hid (bkeep2 HB.out hb)
    have hl1 := 0
    clear hb hl0 hl1
    have hl0 := ltV HY.out
    obtain ⟨c0, c1, c2⟩ := c3V HX.out
    obtain ⟨d0, d1, d2⟩ := c3V HY.out
    obtain ⟨f0, f1, f2⟩ := f3V HX.out
    obtain ⟨g0, g1, g2⟩ := f3V HY.out
    go_wp2
    refine bpV (fun W => W.heap[w.heap.size + 1]? = some (.cells #[.int .i64 (t), .int .i64 (p), .int .i64 (frV t p n)] 24 (0, 0)) ∧ Below w.heap.size w W) ⟨put3V HY.out (.int .i64 (t)) (.int .i64 (p)) (.int .i64 (frV t p n)), put3b HB.out (by omega) (.int .i64 (t)) (.int .i64 (p)) (.int .i64 (frV t p n))⟩ ?_
    clear HX HY HB
    clear c0 c1 c2 d0 d1 d2 f0 f1 f2 g0 g1 g2
    rintro W ⟨hy, hB⟩
    obtain ⟨d0, d1, d2⟩ := c3V hy
    exact bodyPost_ret (v := .agg #[.int .i64 (t), .int .i64 (p), .int .i64 (frV t p n)]) (by simp only [results, Try.results13]; go_simp) rfl ⟨by rw [HS.out], hB⟩
  by_cases q2 : f + p ≤ n
  · have HS := Lib.hid (show seV t p f n = frV t p (n - p + 1) by rw [seV, (neV_spec (n := f) (a := n - p + 1) (b := n) (by omega)).1 (by omega)])
    have q3 : ¬ n < f := q1
    have q4 : n ≥ f + p := q2
    go_wp2_with fail
    with_reducible refine (clamped_v _ _ _ _ _ k1 k2).mono ?_
    rintro e w1 ⟨rfl, hb⟩
    clear c0 c1 c2 d0 d1 d2 f0 f1 f2 g0 g1 g2
    replace HX := Lib.hid ((hb.block _ (ltV HX.out)).trans HX.out)
    replace HY := Lib.hid ((hb.block _ (ltV HY.out)).trans HY.out)
    replace HB := Lib.hid (bkeep2 HB.out hb)
    have hl1 := 0
    clear hb hl0 hl1
    have hl0 := ltV HY.out
    obtain ⟨c0, c1, c2⟩ := c3V HX.out
    obtain ⟨d0, d1, d2⟩ := c3V HY.out
    obtain ⟨f0, f1, f2⟩ := f3V HX.out
    obtain ⟨g0, g1, g2⟩ := f3V HY.out
    go_wp2
    refine bpV (fun W => W.heap[w.heap.size + 1]? = some (.cells #[.int .i64 (t), .int .i64 (p), .int .i64 (frV t p (n - p + 1))] 24 (0, 0)) ∧ Below w.heap.size w W) ⟨put3V HY.out (.int .i64 (t)) (.int .i64 (p)) (.int .i64 (frV t p (n - p + 1))), put3b HB.out (by omega) (.int .i64 (t)) (.int .i64 (p)) (.int .i64 (frV t p (n - p + 1)))⟩ ?_
    clear HX HY HB
    clear c0 c1 c2 d0 d1 d2 f0 f1 f2 g0 g1 g2
    rintro W ⟨hy, hB⟩
    obtain ⟨d0, d1, d2⟩ := c3V hy
    exact bodyPost_ret (v := .agg #[.int .i64 (t), .int .i64 (p), .int .i64 (frV t p (n - p + 1))]) (by simp only [results, Try.results13]; go_simp) rfl ⟨by rw [HS.out], hB⟩
  have HS := Lib.hid (show seV t p f n = f by rw [seV, (neV_spec (n := f) (a := n - p + 1) (b := n) (by omega)).2.2 (by omega) (by omega), frV_self g4 HF.out])
  clear HF
  have q4 : ¬ n ≥ f + p := q2
  go_wp2
  refine bpV (fun W => W.heap[w.heap.size + 1]? = some (.cells #[.int .i64 (t), .int .i64 (p), .int .i64 (f)] 24 (0, 0)) ∧ Below w.heap.size w W) ⟨put3V HY.out (.int .i64 (t)) (.int .i64 (p)) (.int .i64 (f)), put3b HB.out (by omega) (.int .i64 (t)) (.int .i64 (p)) (.int .i64 (f))⟩ ?_
  clear HX HY HB
  clear c0 c1 c2 d0 d1 d2 f0 f1 f2 g0 g1 g2
  rintro W ⟨hy, hB⟩
  obtain ⟨d0, d1, d2⟩ := c3V hy
  exact bodyPost_ret (v := .agg #[.int .i64 (t), .int .i64 (p), .int .i64 (f)]) (by simp only [results, Try.results13]; go_simp) rfl ⟨by rw [HS.out], hB⟩
end Go.Proofs.Ytpbfbcdidkbjiad
end
