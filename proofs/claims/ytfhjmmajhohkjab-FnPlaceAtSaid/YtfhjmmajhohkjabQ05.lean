import Derived.Test.YtfhjmmajhohkjabQ04
import Derived.Deep.Cut
section
namespace Go.Proofs.Ytfhjmmajhohkjab
open Go.RowKit
set_option linter.unusedVariables false
set_option maxHeartbeats 2000000
theorem one_lit1 {B rb : Nat} {A : Option Addr} {l c m k : Nat} {cs : Array Value} {T : TypeId} (w : World) (o : Obj) (h : Rd B rb A l c m w) (hm : m ≤ 1000000) (hk : cs.size = k) (h1 : 1 ≤ k) (h2 : k ≤ 100) (ha : cs.toList.all isI = true) :
    Calls Try.prog 45 #[.pointer (some ⟨rb, 0, none⟩), .slice (some ⟨w.heap.size + 1, 0, none⟩) k k] ((w.alloc o).alloc (.cells cs T)) fun e w' => (∃ z, e = .returned (.int .i64 z)) ∧ Rd B rb A l c (m + 1) w' ∧ Chg [rb] (w.alloc o) w' := by
  have := one_lit (cs := cs) (T := T) (w.alloc o) (h.alloc o) hm hk h1 h2 ha
  rwa [World.size_alloc] at this
set_option maxRecDepth 100000 in
theorem goodPlace_any {B rb : Nat} {A : Option Addr} {l c m : Nat} (w : World) (h : Rd B rb A l c m w) (hm : m ≤ 900000) :
    Calls Try.prog 51 #[.pointer (some ⟨rb, 0, none⟩)] w fun e w' => (∃ (v0 v1 v2 v3 v4 v5 v6 v7 v8 : Int), e = .returned (.agg #[.int .i64 v0, .int .i64 v1, .int .i64 v2, .int .i64 v3, .int .i64 v4, .int .i64 v5, .int .i64 v6, .int .i64 v7, .int .i64 v8])) ∧ Rd B rb A l c (m + 10) w' ∧ Chg [rb] w w' := by
  have hlt := h.lt
  have hbase := h.base
  go_enter Try.func51, Try.ntmps51
  go_wp2_with fail
  with_reducible refine (one_lit1 _ _ h (by omega) (by simp) (by omega) (by omega) (by simp [isI])).mono ?_
  rintro e w1 ⟨⟨z1, rfl⟩, hr1, hc1⟩
  go_wp2_with fail
  with_reducible refine (one_lit _ hr1 (by omega) (by simp) (by omega) (by omega) (by simp [isI])).mono ?_
  rintro e w2 ⟨⟨z2, rfl⟩, hr2, hc2⟩
  go_wp2_with fail
  with_reducible refine (one_lit _ hr2 (by omega) (by simp) (by omega) (by omega) (by simp [isI])).mono ?_
  rintro e w3 ⟨⟨z3, rfl⟩, hr3, hc3⟩
  go_wp2_with fail
  with_reducible refine (one_lit _ hr3 (by omega) (by simp) (by omega) (by omega) (by simp [isI])).mono ?_
  rintro e w4 ⟨⟨z4, rfl⟩, hr4, hc4⟩
  go_wp2_with fail
  with_reducible refine (one_lit _ hr4 (by omega) (by simp) (by omega) (by omega) (by simp [isI])).mono ?_
  rintro e w5 ⟨⟨z5, rfl⟩, hr5, hc5⟩
  go_wp2_with fail
  with_reducible refine (one_lit _ hr5 (by omega) (by simp) (by omega) (by omega) (by simp [isI])).mono ?_
  rintro e w6 ⟨⟨z6, rfl⟩, hr6, hc6⟩
  go_wp2_with fail
  with_reducible refine (one_lit _ hr6 (by omega) (by simp) (by omega) (by omega) (by simp [isI])).mono ?_
  rintro e w7 ⟨⟨z7, rfl⟩, hr7, hc7⟩
  go_wp2_with fail
  with_reducible refine (one_lit _ hr7 (by omega) (by simp) (by omega) (by omega) (by simp [isI])).mono ?_
  rintro e w8 ⟨⟨z8, rfl⟩, hr8, hc8⟩
  go_wp2_with fail
  with_reducible refine (pick_any _ _ hr8 (by omega)).mono ?_
  rintro e w9 ⟨⟨z9, rfl, -⟩, hr9, hc9⟩
  go_wp2_with fail
  with_reducible refine (one_lit _ hr9 (by omega) (by simp) (by omega) (by omega) (by simp [isI])).mono ?_
  rintro e w10 ⟨⟨z10, rfl⟩, hr10, hc10⟩
  have hc : Chg [rb] (w.alloc _) w10 := (((((((((hc1).trans hc2).trans hc3).trans hc4).trans hc5).trans hc6).trans hc7).trans hc8).trans hc9).trans hc10
  clear hc1 hc2 hc3 hc4 hc5 hc6 hc7 hc8 hc9 hc10 hr1 hr2 hr3 hr4 hr5 hr6 hr7 hr8 hr9
  have hb0 := (hc.block w.heap.size (by simp) (by simp; omega)).trans (heap_alloc_new w _)
  have hs := hc.size
  simp only [World.size_alloc] at hs
  have HC := Lib.hid ((((Chg.refl [rb] w).alloc _).trans hc).alloc (.cells #[.int .i64 z1, .int .i64 z2, .int .i64 z3, .int .i64 z4, .int .i64 z5, .int .i64 z6, .int .i64 z7, .int .i64 z8, .int .i64 z10] 24))
  have hl7 := hr10.lt
  have hx0 := Nat.lt_of_succ_le hs
  have hn0 : w.heap.size ≠ rb := by omega
  have hB0 : B ≤ w.heap.size := by omega
  have hn1 : w10.heap.size ≠ rb := by omega
  have hB1 : B ≤ w10.heap.size := by omega
  have hn01 : w.heap.size ≠ w10.heap.size := by omega
  have hn10 : ¬ w10.heap.size = w.heap.size := by omega
  have hw1 : w.heap.size ≤ w10.heap.size := by omega
  have HR := Lib.hid (hr10.alloc (.cells #[.int .i64 z1, .int .i64 z2, .int .i64 z3, .int .i64 z4, .int .i64 z5, .int .i64 z6, .int .i64 z7, .int .i64 z8, .int .i64 z10] 24))
  have HB1 := Lib.hid (heap_alloc_new w10 (.cells #[.int .i64 z1, .int .i64 z2, .int .i64 z3, .int .i64 z4, .int .i64 z5, .int .i64 z6, .int .i64 z7, .int .i64 z8, .int .i64 z10] 24))
  have HB0 := Lib.hid ((Below.heap_alloc w10 (.cells #[.int .i64 z1, .int .i64 z2, .int .i64 z3, .int .i64 z4, .int .i64 z5, .int .i64 z6, .int .i64 z7, .int .i64 z8, .int .i64 z10] 24) w.heap.size hx0).trans hb0)
  clear hc hlt hbase hs hl7 hb0 hr10
  go_upto_region 2 with (fail)
  refine wp_genG (fun W => W.heap[w.heap.size]? = some (.cells #[.int .i64 0, .int .i64 0, .int .i64 0, .int .i64 0, .int .i64 0, .int .i64 0, .int .i64 0, .int .i64 0, .int .i64 0] 24) ∧ W.heap[w10.heap.size]? = some (.cells #[.int .i64 z1, .int .i64 z2, .int .i64 z3, .int .i64 z4, .int .i64 z5, .int .i64 z6, .int .i64 z7, .int .i64 z8, .int .i64 z10] 24) ∧ Rd B rb A l c (m + 10) W ∧ Chg [rb] w W) ⟨HB0.out, HB1.out, HR.out.mono (by omega), HC.out⟩ (fun wz hwz => ?_)
  clear HB0 HB1 HR HC
  obtain ⟨k0, k1, k2, k3⟩ := hwz
  have HB0 := Lib.hid k0
  have HB1 := Lib.hid k1
  have HR := Lib.hid k2
  have HC := Lib.hid k3
  clear k0 k1 k2 k3
  have h0 := HB0.out
  have h1 := HB1.out
  obtain ⟨c0, c1, c2, c3, c4, c5, c6, c7, c8⟩ := c9_q h1
  obtain ⟨d0, d1, d2, d3, d4, d5, d6, d7, d8⟩ := c9_q h0
  obtain ⟨f0, f1, f2, f3, f4, f5, f6, f7, f8⟩ := f9_q h0
  clear h0 h1
  go_wp2
  refine bp_gen (fun W => W.heap[w.heap.size]? = some (.cells #[.int .i64 z1, .int .i64 z2, .int .i64 z3, .int .i64 z4, .int .i64 z5, .int .i64 z6, .int .i64 z7, .int .i64 z8, .int .i64 z10] 24) ∧ Rd B rb A l c (m + 10) W ∧ Chg [rb] w W) ⟨put9h HB0.out (.int .i64 z1) (.int .i64 z2) (.int .i64 z3) (.int .i64 z4) (.int .i64 z5) (.int .i64 z6) (.int .i64 z7) (.int .i64 z8) (.int .i64 z10), put9r (HR.out.mono (by omega)) hB0 hn0 (.int .i64 z1) (.int .i64 z2) (.int .i64 z3) (.int .i64 z4) (.int .i64 z5) (.int .i64 z6) (.int .i64 z7) (.int .i64 z8) (.int .i64 z10), put9c HC.out (.inr (Nat.le_refl _)) (.int .i64 z1) (.int .i64 z2) (.int .i64 z3) (.int .i64 z4) (.int .i64 z5) (.int .i64 z6) (.int .i64 z7) (.int .i64 z8) (.int .i64 z10)⟩ ?_
  clear HB0 HB1 HC HR c0 c1 c2 c3 c4 c5 c6 c7 c8 d0 d1 d2 d3 d4 d5 d6 d7 d8 f0 f1 f2 f3 f4 f5 f6 f7 f8
  rintro W ⟨h0, hR, hC⟩
  obtain ⟨d0, d1, d2, d3, d4, d5, d6, d7, d8⟩ := c9_q h0
  exact bodyPost_ret (v := .agg #[.int .i64 z1, .int .i64 z2, .int .i64 z3, .int .i64 z4, .int .i64 z5, .int .i64 z6, .int .i64 z7, .int .i64 z8, .int .i64 z10]) (by simp only [results, Try.results51]; go_simp) rfl ⟨⟨_, _, _, _, _, _, _, _, _, rfl⟩, hR, hC⟩
set_option maxRecDepth 100000 in
theorem somePlace_any {B rb : Nat} {A : Option Addr} {l c m : Nat} (w : World) (h : Rd B rb A l c m w) (hm : m ≤ 800000) :
    Calls Try.prog 31 #[.pointer (some ⟨rb, 0, none⟩)] w fun e w' => (∃ (v0 v1 v2 v3 v4 v5 v6 v7 v8 : Int), e = .returned (.agg #[.int .i64 v0, .int .i64 v1, .int .i64 v2, .int .i64 v3, .int .i64 v4, .int .i64 v5, .int .i64 v6, .int .i64 v7, .int .i64 v8])) ∧ Rd B rb A l c (m + 12) w' ∧ Chg [rb] w w' := by
  have hlt := h.lt
  have hbase := h.base
  go_enter Try.func31, Try.ntmps31
  go_wp2_with fail
  with_reducible refine (goodPlace_any _ (h.alloc _) (by omega)).mono ?_
  rintro e w1 ⟨⟨v0, v1, v2, v3, v4, v5, v6, v7, v8, rfl⟩, hr1, hc⟩
  have hb0 := (hc.block w.heap.size (by simp) (by simp; omega)).trans (heap_alloc_new w _)
  have hs := hc.size
  simp only [World.size_alloc] at hs
  have HC := Lib.hid (((Chg.refl [rb] w).alloc _).trans hc)
  have hl7 := hr1.lt
  have hx0 := Nat.lt_of_succ_le hs
  have hn0 : w.heap.size ≠ rb := by omega
  have hB0 : B ≤ w.heap.size := by omega
  have hn1 : w1.heap.size ≠ rb := by omega
  have hB1 : B ≤ w1.heap.size := by omega
  have hn01 : w.heap.size ≠ w1.heap.size := by omega
  have hn10 : ¬ w1.heap.size = w.heap.size := by omega
  have hw1 : w.heap.size ≤ w1.heap.size := by omega
  clear hc hlt hbase hs hl7
  have hb1 := heap_alloc_new w1 (.cells #[.int .i64 v0, .int .i64 v1, .int .i64 v2, .int .i64 v3, .int .i64 v4, .int .i64 v5, .int .i64 v6, .int .i64 v7, .int .i64 v8] 24)
  replace hb0 := (Below.heap_alloc w1 (.cells #[.int .i64 v0, .int .i64 v1, .int .i64 v2, .int .i64 v3, .int .i64 v4, .int .i64 v5, .int .i64 v6, .int .i64 v7, .int .i64 v8] 24) w.heap.size hx0).trans hb0
  replace HC := Lib.hid (HC.out.alloc (.cells #[.int .i64 v0, .int .i64 v1, .int .i64 v2, .int .i64 v3, .int .i64 v4, .int .i64 v5, .int .i64 v6, .int .i64 v7, .int .i64 v8] 24))
  have HR := Lib.hid (hr1.alloc (.cells #[.int .i64 v0, .int .i64 v1, .int .i64 v2, .int .i64 v3, .int .i64 v4, .int .i64 v5, .int .i64 v6, .int .i64 v7, .int .i64 v8] 24))
  clear hr1
  have HB0 := Lib.hid hb0
  have HB1 := Lib.hid hb1
  clear hb0 hb1
  have hz0 : w.heap.size < (w1.alloc (.cells #[.int .i64 v0, .int .i64 v1, .int .i64 v2, .int .i64 v3, .int .i64 v4, .int .i64 v5, .int .i64 v6, .int .i64 v7, .int .i64 v8] 24)).heap.size := by simp; omega
  have hz1 : w1.heap.size < (w1.alloc (.cells #[.int .i64 v0, .int .i64 v1, .int .i64 v2, .int .i64 v3, .int .i64 v4, .int .i64 v5, .int .i64 v6, .int .i64 v7, .int .i64 v8] 24)).heap.size := by simp
  have HZ0 := Lib.hid hz0
  have HZ1 := Lib.hid hz1
  clear hz0 hz1
  go_wp2_with fail
  with_reducible refine (pick_any _ _ HR.out (by omega)).mono ?_
  rintro e w2 ⟨⟨q, rfl, -⟩, hr2, hc2⟩
  replace HB0 := Lib.hid ((hc2.block _ HZ0.out (by simpa using hn0)).trans HB0.out)
  replace HB1 := Lib.hid ((hc2.block _ HZ1.out (by simpa using hn1)).trans HB1.out)
  replace HC := Lib.hid (HC.out.trans hc2)
  replace HR := Lib.hid hr2
  replace HZ0 := Lib.hid (Nat.lt_of_lt_of_le HZ0.out hc2.size)
  replace HZ1 := Lib.hid (Nat.lt_of_lt_of_le HZ1.out hc2.size)
  clear hr2 hc2
  by_cases q0 : q = 0
  · subst q0
    go_wp2_with fail
    with_reducible refine (one_lit _ HR.out (by omega) (by simp) (by omega) (by omega) (by simp [isI])).mono ?_
    rintro e w3 ⟨⟨z, rfl⟩, hr3, hc3⟩
    replace HB0 := Lib.hid ((hc3.block _ HZ0.out (by simpa using hn0)).trans HB0.out)
    replace HB1 := Lib.hid ((hc3.block _ HZ1.out (by simpa using hn1)).trans HB1.out)
    replace HC := Lib.hid (HC.out.trans hc3)
    replace HR := Lib.hid hr3
    replace HZ0 := Lib.hid (Nat.lt_of_lt_of_le HZ0.out hc3.size)
    replace HZ1 := Lib.hid (Nat.lt_of_lt_of_le HZ1.out hc3.size)
    clear hr3 hc3
    have h0 := HB0.out
    have h1 := HB1.out
    obtain ⟨c0, c1, c2, c3, c4, c5, c6, c7, c8⟩ := c9_q h1
    obtain ⟨d0, d1, d2, d3, d4, d5, d6, d7, d8⟩ := c9_q h0
    obtain ⟨f0, f1, f2, f3, f4, f5, f6, f7, f8⟩ := f9_q h0
    have g0 := frozen_of_heap h1 0
    clear h0 h1
    go_wp2
    refine bp_gen (fun W => W.heap[w.heap.size]? = some (.cells #[.int .i64 z, .int .i64 v1, .int .i64 v2, .int .i64 v3, .int .i64 v4, .int .i64 v5, .int .i64 v6, .int .i64 v7, .int .i64 v8] 24) ∧ Rd B rb A l c (m + 12) W ∧ Chg [rb] w W) ⟨put9h ((Below.heap_setCell w3 ⟨w1.heap.size, 0, none⟩ (.int .i64 z) _ hn01).trans HB0.out) (.int .i64 z) (.int .i64 v1) (.int .i64 v2) (.int .i64 v3) (.int .i64 v4) (.int .i64 v5) (.int .i64 v6) (.int .i64 v7) (.int .i64 v8), put9r ((HR.out.setCell (p := ⟨w1.heap.size, 0, none⟩) hB1 hn1 (.int .i64 z)).mono (by omega)) hB0 hn0 (.int .i64 z) (.int .i64 v1) (.int .i64 v2) (.int .i64 v3) (.int .i64 v4) (.int .i64 v5) (.int .i64 v6) (.int .i64 v7) (.int .i64 v8), put9c (HC.out.setCell (p := ⟨w1.heap.size, 0, none⟩) (.inr hw1) (.int .i64 z)) (.inr (Nat.le_refl _)) (.int .i64 z) (.int .i64 v1) (.int .i64 v2) (.int .i64 v3) (.int .i64 v4) (.int .i64 v5) (.int .i64 v6) (.int .i64 v7) (.int .i64 v8)⟩ ?_
    clear HB0 HB1 HC HR c0 c1 c2 c3 c4 c5 c6 c7 c8 d0 d1 d2 d3 d4 d5 d6 d7 d8 f0 f1 f2 f3 f4 f5 f6 f7 f8
    rintro W ⟨h0, hR, hC⟩
    obtain ⟨d0, d1, d2, d3, d4, d5, d6, d7, d8⟩ := c9_q h0
    exact bodyPost_ret (v := .agg #[.int .i64 z, .int .i64 v1, .int .i64 v2, .int .i64 v3, .int .i64 v4, .int .i64 v5, .int .i64 v6, .int .i64 v7, .int .i64 v8]) (by simp only [results, Try.results31]; go_simp) rfl ⟨⟨_, _, _, _, _, _, _, _, _, rfl⟩, hR, hC⟩
  by_cases q1 : q = 1
  · subst q1
    go_wp2_with fail
    with_reducible refine (one_lit _ HR.out (by omega) (by simp) (by omega) (by omega) (by simp [isI])).mono ?_
    rintro e w3 ⟨⟨z, rfl⟩, hr3, hc3⟩
    replace HB0 := Lib.hid ((hc3.block _ HZ0.out (by simpa using hn0)).trans HB0.out)
    replace HB1 := Lib.hid ((hc3.block _ HZ1.out (by simpa using hn1)).trans HB1.out)
    replace HC := Lib.hid (HC.out.trans hc3)
    replace HR := Lib.hid hr3
    replace HZ0 := Lib.hid (Nat.lt_of_lt_of_le HZ0.out hc3.size)
    replace HZ1 := Lib.hid (Nat.lt_of_lt_of_le HZ1.out hc3.size)
    clear hr3 hc3
    have h0 := HB0.out
    have h1 := HB1.out
    obtain ⟨c0, c1, c2, c3, c4, c5, c6, c7, c8⟩ := c9_q h1
    obtain ⟨d0, d1, d2, d3, d4, d5, d6, d7, d8⟩ := c9_q h0
    obtain ⟨f0, f1, f2, f3, f4, f5, f6, f7, f8⟩ := f9_q h0
    have g0 := frozen_of_heap h1 6
    clear h0 h1
    go_wp2
    refine bp_gen (fun W => W.heap[w.heap.size]? = some (.cells #[.int .i64 v0, .int .i64 v1, .int .i64 v2, .int .i64 v3, .int .i64 v4, .int .i64 v5, .int .i64 z, .int .i64 v7, .int .i64 v8] 24) ∧ Rd B rb A l c (m + 12) W ∧ Chg [rb] w W) ⟨put9h ((Below.heap_setCell w3 ⟨w1.heap.size, 6, none⟩ (.int .i64 z) _ hn01).trans HB0.out) (.int .i64 v0) (.int .i64 v1) (.int .i64 v2) (.int .i64 v3) (.int .i64 v4) (.int .i64 v5) (.int .i64 z) (.int .i64 v7) (.int .i64 v8), put9r ((HR.out.setCell (p := ⟨w1.heap.size, 6, none⟩) hB1 hn1 (.int .i64 z)).mono (by omega)) hB0 hn0 (.int .i64 v0) (.int .i64 v1) (.int .i64 v2) (.int .i64 v3) (.int .i64 v4) (.int .i64 v5) (.int .i64 z) (.int .i64 v7) (.int .i64 v8), put9c (HC.out.setCell (p := ⟨w1.heap.size, 6, none⟩) (.inr hw1) (.int .i64 z)) (.inr (Nat.le_refl _)) (.int .i64 v0) (.int .i64 v1) (.int .i64 v2) (.int .i64 v3) (.int .i64 v4) (.int .i64 v5) (.int .i64 z) (.int .i64 v7) (.int .i64 v8)⟩ ?_
    clear HB0 HB1 HC HR c0 c1 c2 c3 c4 c5 c6 c7 c8 d0 d1 d2 d3 d4 d5 d6 d7 d8 f0 f1 f2 f3 f4 f5 f6 f7 f8
    rintro W ⟨h0, hR, hC⟩
    obtain ⟨d0, d1, d2, d3, d4, d5, d6, d7, d8⟩ := c9_q h0
    exact bodyPost_ret (v := .agg #[.int .i64 v0, .int .i64 v1, .int .i64 v2, .int .i64 v3, .int .i64 v4, .int .i64 v5, .int .i64 z, .int .i64 v7, .int .i64 v8]) (by simp only [results, Try.results31]; go_simp) rfl ⟨⟨_, _, _, _, _, _, _, _, _, rfl⟩, hR, hC⟩
  by_cases q2 : q = 2
  · subst q2
    go_wp2_with fail
    with_reducible refine (one_lit _ HR.out (by omega) (by simp) (by omega) (by omega) (by simp [isI])).mono ?_
    rintro e w3 ⟨⟨z, rfl⟩, hr3, hc3⟩
    replace HB0 := Lib.hid ((hc3.block _ HZ0.out (by simpa using hn0)).trans HB0.out)
    replace HB1 := Lib.hid ((hc3.block _ HZ1.out (by simpa using hn1)).trans HB1.out)
    replace HC := Lib.hid (HC.out.trans hc3)
    replace HR := Lib.hid hr3
    replace HZ0 := Lib.hid (Nat.lt_of_lt_of_le HZ0.out hc3.size)
    replace HZ1 := Lib.hid (Nat.lt_of_lt_of_le HZ1.out hc3.size)
    clear hr3 hc3
    have h0 := HB0.out
    have h1 := HB1.out
    obtain ⟨c0, c1, c2, c3, c4, c5, c6, c7, c8⟩ := c9_q h1
    obtain ⟨d0, d1, d2, d3, d4, d5, d6, d7, d8⟩ := c9_q h0
    obtain ⟨f0, f1, f2, f3, f4, f5, f6, f7, f8⟩ := f9_q h0
    have g0 := frozen_of_heap h1 8
    clear h0 h1
    go_wp2
    refine bp_gen (fun W => W.heap[w.heap.size]? = some (.cells #[.int .i64 v0, .int .i64 v1, .int .i64 v2, .int .i64 v3, .int .i64 v4, .int .i64 v5, .int .i64 v6, .int .i64 v7, .int .i64 z] 24) ∧ Rd B rb A l c (m + 12) W ∧ Chg [rb] w W) ⟨put9h ((Below.heap_setCell w3 ⟨w1.heap.size, 8, none⟩ (.int .i64 z) _ hn01).trans HB0.out) (.int .i64 v0) (.int .i64 v1) (.int .i64 v2) (.int .i64 v3) (.int .i64 v4) (.int .i64 v5) (.int .i64 v6) (.int .i64 v7) (.int .i64 z), put9r ((HR.out.setCell (p := ⟨w1.heap.size, 8, none⟩) hB1 hn1 (.int .i64 z)).mono (by omega)) hB0 hn0 (.int .i64 v0) (.int .i64 v1) (.int .i64 v2) (.int .i64 v3) (.int .i64 v4) (.int .i64 v5) (.int .i64 v6) (.int .i64 v7) (.int .i64 z), put9c (HC.out.setCell (p := ⟨w1.heap.size, 8, none⟩) (.inr hw1) (.int .i64 z)) (.inr (Nat.le_refl _)) (.int .i64 v0) (.int .i64 v1) (.int .i64 v2) (.int .i64 v3) (.int .i64 v4) (.int .i64 v5) (.int .i64 v6) (.int .i64 v7) (.int .i64 z)⟩ ?_
    clear HB0 HB1 HC HR c0 c1 c2 c3 c4 c5 c6 c7 c8 d0 d1 d2 d3 d4 d5 d6 d7 d8 f0 f1 f2 f3 f4 f5 f6 f7 f8
    rintro W ⟨h0, hR, hC⟩
    obtain ⟨d0, d1, d2, d3, d4, d5, d6, d7, d8⟩ := c9_q h0
    exact bodyPost_ret (v := .agg #[.int .i64 v0, .int .i64 v1, .int .i64 v2, .int .i64 v3, .int .i64 v4, .int .i64 v5, .int .i64 v6, .int .i64 v7, .int .i64 z]) (by simp only [results, Try.results31]; go_simp) rfl ⟨⟨_, _, _, _, _, _, _, _, _, rfl⟩, hR, hC⟩
  have e0 : (q == 0) = false := by simpa using q0
  have e1 : (q == 1) = false := by simpa using q1
  have e2 : (q == 2) = false := by simpa using q2
  clear q0 q1 q2
  have h0 := HB0.out
  have h1 := HB1.out
  obtain ⟨c0, c1, c2, c3, c4, c5, c6, c7, c8⟩ := c9_q h1
  obtain ⟨d0, d1, d2, d3, d4, d5, d6, d7, d8⟩ := c9_q h0
  obtain ⟨f0, f1, f2, f3, f4, f5, f6, f7, f8⟩ := f9_q h0
  clear h0 h1
  go_wp2
  refine bp_gen (fun W => W.heap[w.heap.size]? = some (.cells #[.int .i64 v0, .int .i64 v1, .int .i64 v2, .int .i64 v3, .int .i64 v4, .int .i64 v5, .int .i64 v6, .int .i64 v7, .int .i64 v8] 24) ∧ Rd B rb A l c (m + 12) W ∧ Chg [rb] w W) ⟨put9h HB0.out (.int .i64 v0) (.int .i64 v1) (.int .i64 v2) (.int .i64 v3) (.int .i64 v4) (.int .i64 v5) (.int .i64 v6) (.int .i64 v7) (.int .i64 v8), put9r (HR.out.mono (by omega)) hB0 hn0 (.int .i64 v0) (.int .i64 v1) (.int .i64 v2) (.int .i64 v3) (.int .i64 v4) (.int .i64 v5) (.int .i64 v6) (.int .i64 v7) (.int .i64 v8), put9c HC.out (.inr (Nat.le_refl _)) (.int .i64 v0) (.int .i64 v1) (.int .i64 v2) (.int .i64 v3) (.int .i64 v4) (.int .i64 v5) (.int .i64 v6) (.int .i64 v7) (.int .i64 v8)⟩ ?_
  clear HB0 HB1 HC HR c0 c1 c2 c3 c4 c5 c6 c7 c8 d0 d1 d2 d3 d4 d5 d6 d7 d8 f0 f1 f2 f3 f4 f5 f6 f7 f8
  rintro W ⟨h0, hR, hC⟩
  obtain ⟨d0, d1, d2, d3, d4, d5, d6, d7, d8⟩ := c9_q h0
  exact bodyPost_ret (v := .agg #[.int .i64 v0, .int .i64 v1, .int .i64 v2, .int .i64 v3, .int .i64 v4, .int .i64 v5, .int .i64 v6, .int .i64 v7, .int .i64 v8]) (by simp only [results, Try.results31]; go_simp) rfl ⟨⟨_, _, _, _, _, _, _, _, _, rfl⟩, hR, hC⟩
set_option maxRecDepth 100000 in
theorem DrawValidPlace_any (A : Option Addr) (n c : Nat) (w : World) (h : Bts w A n) (hn : n ≤ c) (hc : c ≤ maxLen) :
    Calls Try.prog 9 #[.slice A n c] w fun e w' => (∃ p : Plc, e = .returned (.agg #[.int .i64 p.x, .int .i64 p.y, .int .i64 p.rx, .int .i64 p.ry, .int .i64 p.ww, .int .i64 p.hh, .int .i64 p.qw, .int .i64 p.qh, .int .i64 p.an])) ∧ Below w.heap.size w w' := by
  go_enter Try.func9, Try.ntmps9
  go_wp2_with fail
  with_reducible refine (newReader_any A n c _ (Bts.alloc' h _) hn hc).mono ?_
  rintro e w1 ⟨n', rfl, hr1, hc1⟩
  simp only [World.size_alloc] at hr1
  go_wp2_with fail
  with_reducible refine (somePlace_any _ hr1 (by omega)).mono ?_
  rintro e w2 ⟨⟨v0, v1, v2, v3, v4, v5, v6, v7, v8, rfl⟩, hr2, hc2⟩
  have hb := (hc1.block w.heap.size (by simp) (by simp)).trans (heap_alloc_new w _)
  have hs := hc1.size
  simp only [World.size_alloc] at hs
  replace hb := (hc2.block w.heap.size (by omega) (by simp)).trans hb
  have hB := Lib.hid (((Chg.refl [w.heap.size + 1] w).alloc _).trans ((hc1.mono (by simp)).trans hc2))
  have HB0 := Lib.hid hb
  obtain ⟨d0, d1, d2, d3, d4, d5, d6, d7, d8⟩ := c9_q hb
  obtain ⟨f0, f1, f2, f3, f4, f5, f6, f7, f8⟩ := f9_q hb
  clear hb hc1 hc2 hr1 hr2 hs
  go_wp2
  refine bp_gen (fun W => W.heap[w.heap.size]? = some (.cells #[.int .i64 v0, .int .i64 v1, .int .i64 v2, .int .i64 v3, .int .i64 v4, .int .i64 v5, .int .i64 v6, .int .i64 v7, .int .i64 v8] 24) ∧ Below w.heap.size w W) ⟨put9h HB0.out (.int .i64 v0) (.int .i64 v1) (.int .i64 v2) (.int .i64 v3) (.int .i64 v4) (.int .i64 v5) (.int .i64 v6) (.int .i64 v7) (.int .i64 v8), Chg.below (put9c hB.out (.inr (Nat.le_refl _)) _ _ _ _ _ _ _ _ _) (Nat.le_refl _) (by simp)⟩ ?_
  clear HB0 hB d0 d1 d2 d3 d4 d5 d6 d7 d8 f0 f1 f2 f3 f4 f5 f6 f7 f8
  rintro W ⟨h0, hBB⟩
  obtain ⟨d0, d1, d2, d3, d4, d5, d6, d7, d8⟩ := c9_q h0
  exact bodyPost_ret (v := .agg #[.int .i64 v0, .int .i64 v1, .int .i64 v2, .int .i64 v3, .int .i64 v4, .int .i64 v5, .int .i64 v6, .int .i64 v7, .int .i64 v8]) (by simp only [results, Try.results9]; go_simp) rfl ⟨⟨⟨v0, v1, v2, v3, v4, v5, v6, v7, v8⟩, rfl⟩, hBB⟩
set_option maxRecDepth 100000 in
theorem DrawLeastInside_any (A : Option Addr) (n c : Nat) (w : World) (h : Bts w A n) (hn : n ≤ c) (hc : c ≤ maxLen) :
    Calls Try.prog 21 #[.slice A n c] w fun e w' => (∃ p : Plc, e = .returned (.agg #[.int .i64 p.x, .int .i64 p.y, .int .i64 p.rx, .int .i64 p.ry, .int .i64 p.ww, .int .i64 p.hh, .int .i64 p.qw, .int .i64 p.qh, .int .i64 p.an])) ∧ Below w.heap.size w w' := by
  go_enter Try.func21, Try.ntmps21
  go_wp2_with fail
  with_reducible refine (newReader_any A n c _ (Bts.alloc' h _) hn hc).mono ?_
  rintro e w1 ⟨n', rfl, hr1, hc1⟩
  simp only [World.size_alloc] at hr1
  go_wp2_with fail
  with_reducible refine (somePlace_any _ hr1 (by omega)).mono ?_
  rintro e w2 ⟨⟨v0, v1, v2, v3, v4, v5, v6, v7, v8, rfl⟩, hr2, hc2⟩
  have hb := (hc1.block w.heap.size (by simp) (by simp)).trans (heap_alloc_new w _)
  have hs := hc1.size
  simp only [World.size_alloc] at hs
  replace hb := (hc2.block w.heap.size (by omega) (by simp)).trans hb
  have hB := Lib.hid (((Chg.refl [w.heap.size + 1] w).alloc _).trans ((hc1.mono (by simp)).trans hc2))
  have HB0 := Lib.hid hb
  obtain ⟨d0, d1, d2, d3, d4, d5, d6, d7, d8⟩ := c9_q hb
  obtain ⟨f0, f1, f2, f3, f4, f5, f6, f7, f8⟩ := f9_q hb
  clear hb hc1 hc2 hr1 hr2 hs
  go_wp2
  refine bp_gen (fun W => W.heap[w.heap.size]? = some (.cells #[.int .i64 v0, .int .i64 v1, .int .i64 v2, .int .i64 v3, .int .i64 v4, .int .i64 v5, .int .i64 v6, .int .i64 v7, .int .i64 v8] 24) ∧ Below w.heap.size w W) ⟨put9h HB0.out (.int .i64 v0) (.int .i64 v1) (.int .i64 v2) (.int .i64 v3) (.int .i64 v4) (.int .i64 v5) (.int .i64 v6) (.int .i64 v7) (.int .i64 v8), Chg.below (put9c hB.out (.inr (Nat.le_refl _)) _ _ _ _ _ _ _ _ _) (Nat.le_refl _) (by simp)⟩ ?_
  clear HB0 hB d0 d1 d2 d3 d4 d5 d6 d7 d8 f0 f1 f2 f3 f4 f5 f6 f7 f8
  rintro W ⟨h0, hBB⟩
  obtain ⟨d0, d1, d2, d3, d4, d5, d6, d7, d8⟩ := c9_q h0
  exact bodyPost_ret (v := .agg #[.int .i64 v0, .int .i64 v1, .int .i64 v2, .int .i64 v3, .int .i64 v4, .int .i64 v5, .int .i64 v6, .int .i64 v7, .int .i64 v8]) (by simp only [results, Try.results21]; go_simp) rfl ⟨⟨⟨v0, v1, v2, v3, v4, v5, v6, v7, v8⟩, rfl⟩, hBB⟩
end Go.Proofs.Ytfhjmmajhohkjab
end
section
namespace Go.Proofs.Ytfhjmmajhohkjab
open Go.RowKit
set_option linter.unusedVariables false
set_option maxHeartbeats 1000000
def isIn (lo hi : Int) : Value → Bool | .int .i64 z => decide (lo ≤ z ∧ z ≤ hi) | _ => false
theorem isIn_ex {lo hi : Int} {v : Value} (h : isIn lo hi v = true) : ∃ z, v = .int .i64 z ∧ lo ≤ z ∧ z ≤ hi := by
  unfold isIn at h
  split at h
  · exact ⟨_, rfl, by simpa using h⟩
  · cases h
/-- one of a literal's numbers, with their bounds -/
theorem one_lit_in (lo hi : Int) {B rb : Nat} {A : Option Addr} {l c m k : Nat} {cs : Array Value} {T : TypeId} (w : World) (h : Rd B rb A l c m w) (hm : m ≤ 1000000) (hk : cs.size = k) (h1 : 1 ≤ k) (h2 : k ≤ 100) (ha : cs.toList.all (isIn lo hi) = true) :
    Calls Try.prog 45 #[.pointer (some ⟨rb, 0, none⟩), .slice (some ⟨w.heap.size, 0, none⟩) k k] (w.alloc (.cells cs T)) fun e w' => (∃ z, e = .returned (.int .i64 z) ∧ lo ≤ z ∧ z ≤ hi) ∧ Rd B rb A l c (m + 1) w' ∧ Chg [rb] w w' := by
  have hlt := h.lt
  have hg4 : ∀ j, j < k → ∃ z, (w.alloc (.cells cs T)).cell? ⟨w.heap.size, j, none⟩ = some (.int .i64 z) ∧ lo ≤ z ∧ z ≤ hi := fun j hj => by
    have hc : cs[j]? = some cs[j] := by simp [hk, hj]
    obtain ⟨z, hz, hb⟩ := isIn_ex (List.all_eq_true.1 ha cs[j] (by simp))
    refine ⟨z, ?_, hb⟩
    rw [← hz, ← hc]
    exact cell_of_heap (heap_alloc_new w (.cells cs T)) j
  go_enter Try.func45, Try.ntmps45
  go_wp2_with fail
  refine (pick_any _ _ (h.alloc _) hm).mono ?_
  rintro e w1 ⟨⟨v, rfl, hv⟩, hr, hc⟩
  obtain ⟨v0, v1⟩ := hv (by omega)
  obtain ⟨j, rfl⟩ := Int.eq_ofNat_of_zero_le v0
  obtain ⟨z, hz, hb⟩ := hg4 j (by omega)
  have hz' := (hc.cell (p := ⟨w.heap.size, j, none⟩) (by simp) (by simp; omega)).trans hz
  have hjk : j < k := by omega
  have Hr := Lib.hid hr
  have Hc := Lib.hid (((Chg.refl [rb] w).alloc (.cells cs T)).trans hc)
  clear hr hc hv hz hg4 h
  go_wp2
  go_ret
  exact ⟨⟨_, rfl, hb⟩, Hr.out, Hc.out⟩
end Go.Proofs.Ytfhjmmajhohkjab
end
section
namespace Go.Proofs.Ytfhjmmajhohkjab
open Go.RowKit
set_option linter.unusedVariables false
set_option maxHeartbeats 2000000
set_option maxRecDepth 100000 in
theorem placeRoom_any {B rb : Nat} {A : Option Addr} {l c m : Nat} (w : World) (h : Rd B rb A l c m w) (hm : m ≤ 700000) :
    Calls Try.prog 38 #[.pointer (some ⟨rb, 0, none⟩)] w fun e w' => (∃ (p : Plc) (a b : Int), e = .returned (.tuple #[.agg #[.int .i64 p.x, .int .i64 p.y, .int .i64 p.rx, .int .i64 p.ry, .int .i64 p.ww, .int .i64 p.hh, .int .i64 p.qw, .int .i64 p.qh, .int .i64 p.an], .int .i64 a, .int .i64 b]) ∧ (-2000 ≤ a ∧ a ≤ 2000) ∧ (-2000 ≤ b ∧ b ≤ 2000)) ∧ Rd B rb A l c (m + 20) w' ∧ Chg [rb] w w' := by
  have hlt := h.lt
  have hbase := h.base
  go_enter Try.func38, Try.ntmps38
  go_wp2_with fail
  with_reducible refine (somePlace_any _ (h.alloc _) (by omega)).mono ?_
  rintro e w1 ⟨⟨v0, v1, v2, v3, v4, v5, v6, v7, v8, rfl⟩, hr1, hc1⟩
  obtain ⟨p, hp⟩ : ∃ p : Plc, p = ⟨v0, v1, v2, v3, v4, v5, v6, v7, v8⟩ := ⟨_, rfl⟩
  have hb0 := (hc1.block w.heap.size (by simp) (by simp; omega)).trans (heap_alloc_new w _)
  have hs := hc1.size
  simp only [World.size_alloc] at hs
  go_wp2_with fail
  with_reducible refine (one_lit_in (-2000) 2000 _ hr1 (by omega) (by simp) (by omega) (by omega) (by simp [isIn])).mono ?_
  rintro e w2 ⟨⟨z1, rfl, z1a, z1b⟩, hr2, hc2⟩
  go_wp2_with fail
  with_reducible refine (one_lit_in (-2000) 2000 _ hr2 (by omega) (by simp) (by omega) (by omega) (by simp [isIn])).mono ?_
  rintro e w3 ⟨⟨z2, rfl, z2a, z2b⟩, hr3, hc3⟩
  have HB0 := Lib.hid (((hc2.trans hc3).block w.heap.size (by omega) (by simp; omega)).trans hb0)
  have HR := Lib.hid (hr3.mono (m' := m + 20) (by omega))
  have HC := Lib.hid ((((Chg.refl [rb] w).alloc _).trans hc1).trans (hc2.trans hc3))
  have hn0 : w.heap.size ≠ rb := by omega
  have hB0 : B ≤ w.heap.size := by omega
  clear hr1 hr2 hr3 hc1 hc2 hc3 h hs hb0 hlt hbase
  obtain ⟨rfl, rfl, rfl, rfl, rfl, rfl, rfl, rfl, rfl⟩ : v0 = p.x ∧ v1 = p.y ∧ v2 = p.rx ∧ v3 = p.ry ∧ v4 = p.ww ∧ v5 = p.hh ∧ v6 = p.qw ∧ v7 = p.qh ∧ v8 = p.an := by rw [hp]; simp
  clear hp
  have h0 := HB0.out
  obtain ⟨d0, d1, d2, d3, d4, d5, d6, d7, d8⟩ := c9_q h0
  obtain ⟨f0, f1, f2, f3, f4, f5, f6, f7, f8⟩ := f9_q h0
  clear h0
  go_wp2
  refine bp_gen (fun W => W.heap[w.heap.size]? = some (.cells #[.int .i64 p.x, .int .i64 p.y, .int .i64 p.rx, .int .i64 p.ry, .int .i64 p.ww, .int .i64 p.hh, .int .i64 p.qw, .int .i64 p.qh, .int .i64 p.an] 24) ∧ Rd B rb A l c (m + 20) W ∧ Chg [rb] w W) ⟨put9h HB0.out (.int .i64 p.x) (.int .i64 p.y) (.int .i64 p.rx) (.int .i64 p.ry) (.int .i64 p.ww) (.int .i64 p.hh) (.int .i64 p.qw) (.int .i64 p.qh) (.int .i64 p.an), put9r HR.out hB0 hn0 (.int .i64 p.x) (.int .i64 p.y) (.int .i64 p.rx) (.int .i64 p.ry) (.int .i64 p.ww) (.int .i64 p.hh) (.int .i64 p.qw) (.int .i64 p.qh) (.int .i64 p.an), put9c HC.out (.inr (Nat.le_refl _)) (.int .i64 p.x) (.int .i64 p.y) (.int .i64 p.rx) (.int .i64 p.ry) (.int .i64 p.ww) (.int .i64 p.hh) (.int .i64 p.qw) (.int .i64 p.qh) (.int .i64 p.an)⟩ ?_
  clear HB0 d0 d1 d2 d3 d4 d5 d6 d7 d8 f0 f1 f2 f3 f4 f5 f6 f7 f8
  rintro W ⟨h0, hR⟩
  obtain ⟨d0, d1, d2, d3, d4, d5, d6, d7, d8⟩ := c9_q h0
  exact bodyPost_ret (v := .tuple #[.agg #[.int .i64 p.x, .int .i64 p.y, .int .i64 p.rx, .int .i64 p.ry, .int .i64 p.ww, .int .i64 p.hh, .int .i64 p.qw, .int .i64 p.qh, .int .i64 p.an], .int .i64 z1, .int .i64 z2]) (by simp only [results, Try.results38]; go_simp) rfl ⟨⟨p, z1, z2, rfl, ⟨z1a, z1b⟩, ⟨z2a, z2b⟩⟩, hR⟩
set_option maxRecDepth 100000 in
theorem DrawPlaceRect_any (A : Option Addr) (n c : Nat) (w : World) (h : Bts w A n) (hn : n ≤ c) (hc : c ≤ maxLen) :
    Calls Try.prog 12 #[.slice A n c] w fun e w' => (∃ (p : Plc) (a b : Int), e = .returned (.tuple #[.agg #[.int .i64 p.x, .int .i64 p.y, .int .i64 p.rx, .int .i64 p.ry, .int .i64 p.ww, .int .i64 p.hh, .int .i64 p.qw, .int .i64 p.qh, .int .i64 p.an], .int .i64 a, .int .i64 b]) ∧ (-2000 ≤ a ∧ a ≤ 2000) ∧ (-2000 ≤ b ∧ b ≤ 2000)) ∧ Below w.heap.size w w' := by
  go_enter Try.func12, Try.ntmps12
  go_wp2_with fail
  with_reducible refine (newReader_any A n c _ (Bts.alloc' h _) hn hc).mono ?_
  rintro e w1 ⟨n', rfl, hr1, hc1⟩
  simp only [World.size_alloc] at hr1
  go_wp2_with fail
  with_reducible refine (placeRoom_any _ hr1 (by omega)).mono ?_
  rintro e w2 ⟨⟨p, a, b, rfl, ha, hb⟩, hr2, hc2⟩
  have hb0 := (hc1.block w.heap.size (by simp) (by simp)).trans (heap_alloc_new w _)
  have hs := hc1.size
  simp only [World.size_alloc] at hs
  have HB0 := Lib.hid ((hc2.block w.heap.size (by omega) (by simp)).trans hb0)
  have HC := Lib.hid (((Chg.refl [w.heap.size + 1] w).alloc _).trans ((hc1.mono (by simp)).trans hc2))
  clear hr2 hc2 hr1 hc1 hb0 hs
  have h0 := HB0.out
  obtain ⟨d0, d1, d2, d3, d4, d5, d6, d7, d8⟩ := c9_q h0
  obtain ⟨f0, f1, f2, f3, f4, f5, f6, f7, f8⟩ := f9_q h0
  clear h0
  go_wp2
  refine bp_gen (fun W => W.heap[w.heap.size]? = some (.cells #[.int .i64 p.x, .int .i64 p.y, .int .i64 p.rx, .int .i64 p.ry, .int .i64 p.ww, .int .i64 p.hh, .int .i64 p.qw, .int .i64 p.qh, .int .i64 p.an] 24) ∧ Below w.heap.size w W) ⟨put9h HB0.out (.int .i64 p.x) (.int .i64 p.y) (.int .i64 p.rx) (.int .i64 p.ry) (.int .i64 p.ww) (.int .i64 p.hh) (.int .i64 p.qw) (.int .i64 p.qh) (.int .i64 p.an), Chg.below (put9c HC.out (.inr (Nat.le_refl _)) (.int .i64 p.x) (.int .i64 p.y) (.int .i64 p.rx) (.int .i64 p.ry) (.int .i64 p.ww) (.int .i64 p.hh) (.int .i64 p.qw) (.int .i64 p.qh) (.int .i64 p.an)) (Nat.le_refl _) (by simp)⟩ ?_
  clear HB0 d0 d1 d2 d3 d4 d5 d6 d7 d8 f0 f1 f2 f3 f4 f5 f6 f7 f8
  rintro W ⟨h0, hR⟩
  obtain ⟨d0, d1, d2, d3, d4, d5, d6, d7, d8⟩ := c9_q h0
  exact bodyPost_ret (v := .tuple #[.agg #[.int .i64 p.x, .int .i64 p.y, .int .i64 p.rx, .int .i64 p.ry, .int .i64 p.ww, .int .i64 p.hh, .int .i64 p.qw, .int .i64 p.qh, .int .i64 p.an], .int .i64 a, .int .i64 b]) (by simp only [results, Try.results12]; go_simp) rfl ⟨⟨p, a, b, rfl, ha, hb⟩, hR⟩
set_option maxRecDepth 100000 in
theorem DrawPlaceInside_any (A : Option Addr) (n c : Nat) (w : World) (h : Bts w A n) (hn : n ≤ c) (hc : c ≤ maxLen) :
    Calls Try.prog 16 #[.slice A n c] w fun e w' => (∃ (p : Plc) (a b : Int), e = .returned (.tuple #[.agg #[.int .i64 p.x, .int .i64 p.y, .int .i64 p.rx, .int .i64 p.ry, .int .i64 p.ww, .int .i64 p.hh, .int .i64 p.qw, .int .i64 p.qh, .int .i64 p.an], .int .i64 a, .int .i64 b]) ∧ (-2000 ≤ a ∧ a ≤ 2000) ∧ (-2000 ≤ b ∧ b ≤ 2000)) ∧ Below w.heap.size w w' := by
  go_enter Try.func16, Try.ntmps16
  go_wp2_with fail
  with_reducible refine (newReader_any A n c _ (Bts.alloc' h _) hn hc).mono ?_
  rintro e w1 ⟨n', rfl, hr1, hc1⟩
  simp only [World.size_alloc] at hr1
  go_wp2_with fail
  with_reducible refine (placeRoom_any _ hr1 (by omega)).mono ?_
  rintro e w2 ⟨⟨p, a, b, rfl, ha, hb⟩, hr2, hc2⟩
  have hb0 := (hc1.block w.heap.size (by simp) (by simp)).trans (heap_alloc_new w _)
  have hs := hc1.size
  simp only [World.size_alloc] at hs
  have HB0 := Lib.hid ((hc2.block w.heap.size (by omega) (by simp)).trans hb0)
  have HC := Lib.hid (((Chg.refl [w.heap.size + 1] w).alloc _).trans ((hc1.mono (by simp)).trans hc2))
  clear hr2 hc2 hr1 hc1 hb0 hs
  have h0 := HB0.out
  obtain ⟨d0, d1, d2, d3, d4, d5, d6, d7, d8⟩ := c9_q h0
  obtain ⟨f0, f1, f2, f3, f4, f5, f6, f7, f8⟩ := f9_q h0
  clear h0
  go_wp2
  refine bp_gen (fun W => W.heap[w.heap.size]? = some (.cells #[.int .i64 p.x, .int .i64 p.y, .int .i64 p.rx, .int .i64 p.ry, .int .i64 p.ww, .int .i64 p.hh, .int .i64 p.qw, .int .i64 p.qh, .int .i64 p.an] 24) ∧ Below w.heap.size w W) ⟨put9h HB0.out (.int .i64 p.x) (.int .i64 p.y) (.int .i64 p.rx) (.int .i64 p.ry) (.int .i64 p.ww) (.int .i64 p.hh) (.int .i64 p.qw) (.int .i64 p.qh) (.int .i64 p.an), Chg.below (put9c HC.out (.inr (Nat.le_refl _)) (.int .i64 p.x) (.int .i64 p.y) (.int .i64 p.rx) (.int .i64 p.ry) (.int .i64 p.ww) (.int .i64 p.hh) (.int .i64 p.qw) (.int .i64 p.qh) (.int .i64 p.an)) (Nat.le_refl _) (by simp)⟩ ?_
  clear HB0 d0 d1 d2 d3 d4 d5 d6 d7 d8 f0 f1 f2 f3 f4 f5 f6 f7 f8
  rintro W ⟨h0, hR⟩
  obtain ⟨d0, d1, d2, d3, d4, d5, d6, d7, d8⟩ := c9_q h0
  exact bodyPost_ret (v := .tuple #[.agg #[.int .i64 p.x, .int .i64 p.y, .int .i64 p.rx, .int .i64 p.ry, .int .i64 p.ww, .int .i64 p.hh, .int .i64 p.qw, .int .i64 p.qh, .int .i64 p.an], .int .i64 a, .int .i64 b]) (by simp only [results, Try.results16]; go_simp) rfl ⟨⟨p, a, b, rfl, ha, hb⟩, hR⟩
set_option maxRecDepth 100000 in
theorem DrawFixPlace_any (A : Option Addr) (n c : Nat) (w : World) (h : Bts w A n) (hn : n ≤ c) (hc : c ≤ maxLen) :
    Calls Try.prog 28 #[.slice A n c] w fun e w' => (∃ (p : Plc) (a b : Int), e = .returned (.tuple #[.agg #[.int .i64 p.x, .int .i64 p.y, .int .i64 p.rx, .int .i64 p.ry, .int .i64 p.ww, .int .i64 p.hh, .int .i64 p.qw, .int .i64 p.qh, .int .i64 p.an], .int .i64 a, .int .i64 b]) ∧ (-2000 ≤ a ∧ a ≤ 2000) ∧ (-2000 ≤ b ∧ b ≤ 2000)) ∧ Below w.heap.size w w' := by
  go_enter Try.func28, Try.ntmps28
  go_wp2_with fail
  with_reducible refine (newReader_any A n c _ (Bts.alloc' h _) hn hc).mono ?_
  rintro e w1 ⟨n', rfl, hr1, hc1⟩
  simp only [World.size_alloc] at hr1
  go_wp2_with fail
  with_reducible refine (placeRoom_any _ hr1 (by omega)).mono ?_
  rintro e w2 ⟨⟨p, a, b, rfl, ha, hb⟩, hr2, hc2⟩
  have hb0 := (hc1.block w.heap.size (by simp) (by simp)).trans (heap_alloc_new w _)
  have hs := hc1.size
  simp only [World.size_alloc] at hs
  have HB0 := Lib.hid ((hc2.block w.heap.size (by omega) (by simp)).trans hb0)
  have HC := Lib.hid (((Chg.refl [w.heap.size + 1] w).alloc _).trans ((hc1.mono (by simp)).trans hc2))
  clear hr2 hc2 hr1 hc1 hb0 hs
  have h0 := HB0.out
  obtain ⟨d0, d1, d2, d3, d4, d5, d6, d7, d8⟩ := c9_q h0
  obtain ⟨f0, f1, f2, f3, f4, f5, f6, f7, f8⟩ := f9_q h0
  clear h0
  go_wp2
  refine bp_gen (fun W => W.heap[w.heap.size]? = some (.cells #[.int .i64 p.x, .int .i64 p.y, .int .i64 p.rx, .int .i64 p.ry, .int .i64 p.ww, .int .i64 p.hh, .int .i64 p.qw, .int .i64 p.qh, .int .i64 p.an] 24) ∧ Below w.heap.size w W) ⟨put9h HB0.out (.int .i64 p.x) (.int .i64 p.y) (.int .i64 p.rx) (.int .i64 p.ry) (.int .i64 p.ww) (.int .i64 p.hh) (.int .i64 p.qw) (.int .i64 p.qh) (.int .i64 p.an), Chg.below (put9c HC.out (.inr (Nat.le_refl _)) (.int .i64 p.x) (.int .i64 p.y) (.int .i64 p.rx) (.int .i64 p.ry) (.int .i64 p.ww) (.int .i64 p.hh) (.int .i64 p.qw) (.int .i64 p.qh) (.int .i64 p.an)) (Nat.le_refl _) (by simp)⟩ ?_
  clear HB0 d0 d1 d2 d3 d4 d5 d6 d7 d8 f0 f1 f2 f3 f4 f5 f6 f7 f8
  rintro W ⟨h0, hR⟩
  obtain ⟨d0, d1, d2, d3, d4, d5, d6, d7, d8⟩ := c9_q h0
  exact bodyPost_ret (v := .tuple #[.agg #[.int .i64 p.x, .int .i64 p.y, .int .i64 p.rx, .int .i64 p.ry, .int .i64 p.ww, .int .i64 p.hh, .int .i64 p.qw, .int .i64 p.qh, .int .i64 p.an], .int .i64 a, .int .i64 b]) (by simp only [results, Try.results28]; go_simp) rfl ⟨⟨p, a, b, rfl, ha, hb⟩, hR⟩
end Go.Proofs.Ytfhjmmajhohkjab
end
section
namespace Go.Proofs.Ytfhjmmajhohkjab
open Go.RowKit
set_option linter.unusedVariables false
set_option maxHeartbeats 1000000
attribute [local go_sem 5000] run_mx run_mn run_eqlR run_neqR
attribute [local go_sem] growUpon_value growUpon_skip growUpon_enter
theorem room_s (u v : Int) (w : World) : Calls Try.prog 20 #[.int .i64 u, .int .i64 v] w fun e w' => e = .returned (.agg #[.int .i64 (0), .int .i64 (0), .int .i64 (u), .int .i64 (v)]) ∧ Below w.heap.size w w' := by
  go_enter Try.func20, Try.ntmps20
  go_wp2
  exact bodyPost_ret (v := .agg #[.int .i64 (0), .int .i64 (0), .int .i64 (u), .int .i64 (v)]) (by simp only [results, Try.results20]; go_simp) rfl ⟨rfl, (by repeat (first | with_reducible exact Below.refl _ _ | with_reducible assumption | with_reducible refine balloc ?_ | (with_reducible refine bset ?_ ?_; rotate_left; ((try dsimp only); omega)) | refine bkeep2 ?_ (by assumption) | with_reducible refine Below.drew ?_))⟩
set_option maxRecDepth 100000 in
theorem within2_s (x y u v x' y' u' v' : Int) (t : Bool) (w : World) (h1 : Sq x y u v) (h2 : Sq x' y' u' v') (ht : insB x y u v x' y' u' v' = t) : Calls Try.prog 19 #[.agg #[.int .i64 (x), .int .i64 (y), .int .i64 (u), .int .i64 (v)], .agg #[.int .i64 (x'), .int .i64 (y'), .int .i64 (u'), .int .i64 (v')]] w fun e w' => e = .returned (.bool t) ∧ Below w.heap.size w w' := by
  subst ht
  obtain ⟨⟨a1, a2⟩, ⟨a3, a4⟩, ⟨a5, a6⟩, ⟨a7, a8⟩⟩ := h1
  obtain ⟨⟨b1, b2⟩, ⟨b3, b4⟩, ⟨b5, b6⟩, ⟨b7, b8⟩⟩ := h2
  by_cases g1 : x ≤ x' <;> by_cases g2 : y ≤ y' <;> by_cases g3 : x' + u' ≤ x + u <;> by_cases g4 : y' + v' ≤ y + v
  all_goals
    go_enter Try.func19, Try.ntmps19
    go_wp2_with fail
    all_goals try go_quiet (fail)
    all_goals try go_wp2
    go_ret
    exact ⟨ret_bool (by (first | (refine Eq.symm (insB_not.2 ?_); omega) | (refine Eq.symm (insB_iff.2 ?_); omega) | (rw [Bool.eq_iff_iff, insB_iff]; simp only [decide_eq_true_eq]; omega))), (by repeat (first | with_reducible exact Below.refl _ _ | with_reducible assumption | with_reducible refine balloc ?_ | (with_reducible refine bset ?_ ?_; rotate_left; ((try dsimp only); omega)) | refine bkeep2 ?_ (by assumption) | with_reducible refine Below.drew ?_))⟩
theorem equalRect_q (x y u v : Int) (w : World) : Calls Try.prog 14 #[.agg #[.int .i64 (x), .int .i64 (y), .int .i64 (u), .int .i64 (v)], .agg #[.int .i64 (x), .int .i64 (y), .int .i64 (u), .int .i64 (v)]] w fun e w' => e = .returned (.bool true) ∧ Below w.heap.size w w' := by
  have h := eqR_self (x := x) (y := y) (u := u) (v := v)
  go_enter Try.func14, Try.ntmps14
  go_wp2_with fail
  all_goals try go_quiet (fail)
  all_goals try go_wp2
  go_ret
  exact ⟨ret_bool (by simp), (by repeat (first | with_reducible exact Below.refl _ _ | with_reducible assumption | with_reducible refine balloc ?_ | (with_reducible refine bset ?_ ?_; rotate_left; ((try dsimp only); omega)) | refine bkeep2 ?_ (by assumption) | with_reducible refine Below.drew ?_))⟩
theorem equalPlace_q (p : Plc) (w : World) : Calls Try.prog 27 #[.agg #[.int .i64 p.x, .int .i64 p.y, .int .i64 p.rx, .int .i64 p.ry, .int .i64 p.ww, .int .i64 p.hh, .int .i64 p.qw, .int .i64 p.qh, .int .i64 p.an], .agg #[.int .i64 p.x, .int .i64 p.y, .int .i64 p.rx, .int .i64 p.ry, .int .i64 p.ww, .int .i64 p.hh, .int .i64 p.qw, .int .i64 p.qh, .int .i64 p.an]] w fun e w' => e = .returned (.bool true) ∧ Below w.heap.size w w' := by
  go_enter Try.func27, Try.ntmps27
  go_wp2_with fail
  all_goals try go_quiet (fail)
  all_goals try go_wp2
  go_ret
  exact ⟨rfl, (by repeat (first | with_reducible exact Below.refl _ _ | with_reducible assumption | with_reducible refine balloc ?_ | (with_reducible refine bset ?_ ?_; rotate_left; ((try dsimp only); omega)) | refine bkeep2 ?_ (by assumption) | with_reducible refine Below.drew ?_))⟩
def qA (p : Plc) (k : Int) : Plc := ⟨p.x, p.y, p.rx, p.ry, p.ww, p.hh, p.qw, p.qh, k⟩
theorem qA_ok {p : Plc} {k : Int} (h : plB p = true) (h0 : 0 ≤ k) (h8 : k ≤ 8) : plB (qA p k) = true := plB_iff.2 (by have := plB_iff.1 h; unfold qA; dsimp only; omega)
theorem PlaceRect_c (q : Plc) (a b X Y U V : Int) (w : World) (h : prB q a b = true) (hx : xM q a = X) (hy : yM q b = Y) (hu : wM q a = U) (hv : hM q b = V) : Calls Try.prog 13 #[.agg #[.int .i64 q.x, .int .i64 q.y, .int .i64 q.rx, .int .i64 q.ry, .int .i64 q.ww, .int .i64 q.hh, .int .i64 q.qw, .int .i64 q.qh, .int .i64 q.an], .int .i64 a, .int .i64 b] w fun e w' => e = .returned (.agg #[.int .i64 (X), .int .i64 (Y), .int .i64 (U), .int .i64 (V)]) ∧ Below w.heap.size w w' := by
  subst hx hy hu hv
  exact PlaceRect_yes q a b w h
theorem sPlaceRect_c (q : Plc) (a b X Y U V : Int) (w : World) (h : prB q a b = true) (hx : xM q a = X) (hy : yM q b = Y) (hu : wM q a = U) (hv : hM q b = V) : Calls Try.prog 15 #[.agg #[.int .i64 q.x, .int .i64 q.y, .int .i64 q.rx, .int .i64 q.ry, .int .i64 q.ww, .int .i64 q.hh, .int .i64 q.qw, .int .i64 q.qh, .int .i64 q.an], .int .i64 a, .int .i64 b] w fun e w' => e = .returned (.agg #[.int .i64 (X), .int .i64 (Y), .int .i64 (U), .int .i64 (V)]) ∧ Below w.heap.size w w' := by
  subst hx hy hu hv
  exact sPlaceRect_yes q a b w h
/-- the rectangles at three anchors, by numbers -/
theorem anch3 {p : Plc} {a b : Int} (hp : plB p = true) (hr : rqB a b = true) : ∃ X Y U V X0 Y0 X8 Y8 : Int, (xM p a = X ∧ yM p b = Y ∧ wM p a = U ∧ hM p b = V) ∧ (xM (qA p 0) a = X0 ∧ yM (qA p 0) b = Y0 ∧ wM (qA p 0) a = U ∧ hM (qA p 0) b = V) ∧ (xM (qA p 8) a = X8 ∧ yM (qA p 8) b = Y8 ∧ wM (qA p 8) a = U ∧ hM (qA p 8) b = V) ∧
    (-2000 ≤ X8 ∧ X8 ≤ 2000) ∧ (-2000 ≤ Y8 ∧ Y8 ≤ 2000) ∧ (0 ≤ U ∧ U ≤ 700) ∧ (0 ≤ V ∧ V ≤ 700) ∧ X8 + U = X0 ∧ Y8 + V = Y0 ∧ X ≤ X0 ∧ X8 ≤ X := by
  have B := pl_bd hp hr
  have B8 := pl_bd (qA_ok (k := 8) hp (by omega) (by omega)) hr
  have hx := B8.x1 (qA_ok (k := 8) hp (by omega) (by omega))
  have hy := B8.y1 (qA_ok (k := 8) hp (by omega) (by omega))
  have e0 : xM (qA p 0) a = p.x + thM p.rx a := by simp [xM, qA]
  have e1 : yM (qA p 0) b = p.y + thM p.ry b := by simp [yM, qA]
  have e8 : xM (qA p 8) a = p.x + thM p.rx a - wM p a := by
    have h1 : wM (qA p 8) a = wM p a := rfl
    simp only [xM, h1]
    show p.x + thM p.rx a - wM p a * ((8 : Int) % 3) / 2 = _
    omega
  have e9 : yM (qA p 8) b = p.y + thM p.ry b - hM p b := by
    have h1 : hM (qA p 8) b = hM p b := rfl
    simp only [yM, h1]
    show p.y + thM p.ry b - hM p b * ((8 : Int) / 3) / 2 = _
    omega
  have ex : xM p a = p.x + thM p.rx a - wM p a * (p.an % 3) / 2 := rfl
  have hw := B.w1
  have hh := B.h1
  have k1 : wM p a * (p.an % 3) ≤ wM p a * 2 := Int.mul_le_mul_of_nonneg_left B.a1.2 hw.1
  have p1 := B.p1
  refine ⟨xM p a, yM p b, wM p a, hM p b, xM (qA p 0) a, yM (qA p 0) b, xM (qA p 8) a, yM (qA p 8) b, ⟨rfl, rfl, rfl, rfl⟩, ⟨rfl, rfl, rfl, rfl⟩, ⟨rfl, rfl, rfl, rfl⟩, by omega, by omega, hw, hh, by omega, by omega, by omega, by omega⟩
theorem fix_same {p : Plc} {a b : Int} (hp : plB p = true) (hr : rqB a b = true) (A B : Int) : xM (fixM p a b) A = xM p a ∧ yM (fixM p a b) B = yM p b ∧ wM (fixM p a b) A = wM p a ∧ hM (fixM p a b) B = hM p b := by
  have D := pl_bd hp hr
  have hw := D.w1
  have hh := D.h1
  have w1 : wM (fixM p a b) A = wM p a := by
    show mx (wM p a + thM 0 A) 0 = wM p a
    rw [th_zero]
    have := mx_spec (wM p a + 0) 0
    omega
  have h1 : hM (fixM p a b) B = hM p b := by
    show mx (hM p b + thM 0 B) 0 = hM p b
    rw [th_zero]
    have := mx_spec (hM p b + 0) 0
    omega
  refine ⟨?_, ?_, w1, h1⟩
  · simp only [xM, w1]
    show p.x + thM p.rx a + thM 0 A - wM p a * (p.an % 3) / 2 = _
    rw [th_zero]; omega
  · simp only [yM, h1]
    show p.y + thM p.ry b + thM 0 B - hM p b * (p.an / 3) / 2 = _
    rw [th_zero]; omega
theorem prB_cases {p : Plc} {w h : Int} (e : prB p w h = false) : plB p = false ∨ (plB p = true ∧ (w < 0 ∨ (0 ≤ w ∧ 400 < w) ∨ (0 ≤ w ∧ w ≤ 400 ∧ h < 0) ∨ (0 ≤ w ∧ w ≤ 400 ∧ 0 ≤ h ∧ 400 < h))) := by
  cases h1 : plB p
  · exact .inl rfl
  · refine .inr ⟨rfl, ?_⟩
    have h2 : rqB w h = false := by simpa [prB, h1] using e
    have h3 : ¬ ((0 ≤ w ∧ w ≤ 400) ∧ (0 ≤ h ∧ h ≤ 400)) := fun h => by rw [rqB_iff.2 h] at h2; cases h2
    omega
end Go.Proofs.Ytfhjmmajhohkjab
end
section
namespace Go.Proofs.Ytfhjmmajhohkjab
open Go.RowKit
set_option linter.unusedVariables false
set_option maxHeartbeats 1000000
attribute [local go_sem] growUpon_value growUpon_skip growUpon_enter
theorem put9_q {w : World} {b : Nat} {a0 a1 a2 a3 a4 a5 a6 a7 a8 : Value} {T : TypeId} {fz : Nat × Nat} (h : w.heap[b]? = some (.cells #[a0, a1, a2, a3, a4, a5, a6, a7, a8] T fz)) (x0 x1 x2 x3 x4 x5 x6 x7 x8 : Value) :
    (((((((((w.setCell ⟨b, 0, none⟩ x0).setCell ⟨b, 1, none⟩ x1).setCell ⟨b, 2, none⟩ x2).setCell ⟨b, 3, none⟩ x3).setCell ⟨b, 4, none⟩ x4).setCell ⟨b, 5, none⟩ x5).setCell ⟨b, 6, none⟩ x6).setCell ⟨b, 7, none⟩ x7).setCell ⟨b, 8, none⟩ x8).heap[b]? = some (.cells #[x0, x1, x2, x3, x4, x5, x6, x7, x8] T fz) := by
  replace h := put_q (i := 0) h x0
  simp only [List.setIfInBounds_toArray, List.set_cons_zero] at h
  replace h := put_q (i := 1) h x1
  simp only [List.setIfInBounds_toArray, List.set_cons_succ, List.set_cons_zero] at h
  replace h := put_q (i := 2) h x2
  simp only [List.setIfInBounds_toArray, List.set_cons_succ, List.set_cons_zero] at h
  replace h := put_q (i := 3) h x3
  simp only [List.setIfInBounds_toArray, List.set_cons_succ, List.set_cons_zero] at h
  replace h := put_q (i := 4) h x4
  simp only [List.setIfInBounds_toArray, List.set_cons_succ, List.set_cons_zero] at h
  replace h := put_q (i := 5) h x5
  simp only [List.setIfInBounds_toArray, List.set_cons_succ, List.set_cons_zero] at h
  replace h := put_q (i := 6) h x6
  simp only [List.setIfInBounds_toArray, List.set_cons_succ, List.set_cons_zero] at h
  replace h := put_q (i := 7) h x7
  simp only [List.setIfInBounds_toArray, List.set_cons_succ, List.set_cons_zero] at h
  replace h := put_q (i := 8) h x8
  simp only [List.setIfInBounds_toArray, List.set_cons_succ, List.set_cons_zero] at h
  exact h
theorem oth9_q {w : World} {b k : Nat} (h : k ≠ b) (x0 x1 x2 x3 x4 x5 x6 x7 x8 : Value) : (((((((((w.setCell ⟨b, 0, none⟩ x0).setCell ⟨b, 1, none⟩ x1).setCell ⟨b, 2, none⟩ x2).setCell ⟨b, 3, none⟩ x3).setCell ⟨b, 4, none⟩ x4).setCell ⟨b, 5, none⟩ x5).setCell ⟨b, 6, none⟩ x6).setCell ⟨b, 7, none⟩ x7).setCell ⟨b, 8, none⟩ x8).heap[k]? = w.heap[k]? :=
  ((((((((Below.heap_setCell _ _ _ k h).trans (Below.heap_setCell _ _ _ k h)).trans (Below.heap_setCell _ _ _ k h)).trans (Below.heap_setCell _ _ _ k h)).trans (Below.heap_setCell _ _ _ k h)).trans (Below.heap_setCell _ _ _ k h)).trans (Below.heap_setCell _ _ _ k h)).trans (Below.heap_setCell _ _ _ k h)).trans (Below.heap_setCell _ _ _ k h)
theorem bset9_q {W0 w : World} {b : Nat} (h : Below W0.heap.size W0 w) (hb : W0.heap.size ≤ b) (x0 x1 x2 x3 x4 x5 x6 x7 x8 : Value) : Below W0.heap.size W0 (((((((((w.setCell ⟨b, 0, none⟩ x0).setCell ⟨b, 1, none⟩ x1).setCell ⟨b, 2, none⟩ x2).setCell ⟨b, 3, none⟩ x3).setCell ⟨b, 4, none⟩ x4).setCell ⟨b, 5, none⟩ x5).setCell ⟨b, 6, none⟩ x6).setCell ⟨b, 7, none⟩ x7).setCell ⟨b, 8, none⟩ x8) :=
  bset (bset (bset (bset (bset (bset (bset (bset (bset h hb) hb) hb) hb) hb) hb) hb) hb) hb
set_option maxRecDepth 100000 in
theorem ifPlace_true (p : Plc) (w : World) (h : plB p = true) : Calls Try.prog 47 #[.agg #[.int .i64 p.x, .int .i64 p.y, .int .i64 p.rx, .int .i64 p.ry, .int .i64 p.ww, .int .i64 p.hh, .int .i64 p.qw, .int .i64 p.qh, .int .i64 p.an], .func (.func 10) #[] #[]] w fun e w' => e = .returned (.tuple #[.agg #[.int .i64 p.x, .int .i64 p.y, .int .i64 p.rx, .int .i64 p.ry, .int .i64 p.ww, .int .i64 p.hh, .int .i64 p.qw, .int .i64 p.qh, .int .i64 p.an], .bool true]) ∧ Below w.heap.size w w' := by
  have HX := Lib.hid (oldq1 w (.cells #[.int .i64 p.x, .int .i64 p.y, .int .i64 p.rx, .int .i64 p.ry, .int .i64 p.ww, .int .i64 p.hh, .int .i64 p.qw, .int .i64 p.qh, .int .i64 p.an] 24) (.cells #[.int .i64 0, .int .i64 0, .int .i64 0, .int .i64 0, .int .i64 0, .int .i64 0, .int .i64 0, .int .i64 0, .int .i64 0] 24))
  have HY := Lib.hid (newq1 w (.cells #[.int .i64 p.x, .int .i64 p.y, .int .i64 p.rx, .int .i64 p.ry, .int .i64 p.ww, .int .i64 p.hh, .int .i64 p.qw, .int .i64 p.qh, .int .i64 p.an] 24) (.cells #[.int .i64 0, .int .i64 0, .int .i64 0, .int .i64 0, .int .i64 0, .int .i64 0, .int .i64 0, .int .i64 0, .int .i64 0] 24))
  have HB := Lib.hid (balloc (o := .cells #[.int .i64 0, .int .i64 0, .int .i64 0, .int .i64 0, .int .i64 0, .int .i64 0, .int .i64 0, .int .i64 0, .int .i64 0] 24) (balloc (o := .cells #[.int .i64 p.x, .int .i64 p.y, .int .i64 p.rx, .int .i64 p.ry, .int .i64 p.ww, .int .i64 p.hh, .int .i64 p.qw, .int .i64 p.qh, .int .i64 p.an] 24) (Below.refl w.heap.size w)))
  go_enter Try.func47, Try.ntmps47
  go_wp2_with fail
  refine (validPlace_t p true _ h).mono ?_
  rintro e w1 ⟨rfl, hb⟩
  replace HX := Lib.hid ((hb.block _ (Array.getElem?_eq_some_iff.1 HX.out).1).trans HX.out)
  replace HY := Lib.hid ((hb.block _ (Array.getElem?_eq_some_iff.1 HY.out).1).trans HY.out)
  replace HB := Lib.hid (bkeep2 HB.out hb)
  clear hb
  obtain ⟨c0, c1, c2, c3, c4, c5, c6, c7, c8⟩ := c9_q HX.out
  obtain ⟨d0, d1, d2, d3, d4, d5, d6, d7, d8⟩ := c9_q HY.out
  obtain ⟨f0, f1, f2, f3, f4, f5, f6, f7, f8⟩ := f9_q HY.out
  have ly := lt_q HY.out
  have ln := Nat.ne_of_lt ly
  go_wp2_with fail
  refine bp_genQ (fun W => W.heap[w.heap.size + 1]? = some (.cells #[.int .i64 p.x, .int .i64 p.y, .int .i64 p.rx, .int .i64 p.ry, .int .i64 p.ww, .int .i64 p.hh, .int .i64 p.qw, .int .i64 p.qh, .int .i64 p.an] 24 (0, 0)) ∧ Below w.heap.size w W) ⟨put9_q HY.out (.int .i64 p.x) (.int .i64 p.y) (.int .i64 p.rx) (.int .i64 p.ry) (.int .i64 p.ww) (.int .i64 p.hh) (.int .i64 p.qw) (.int .i64 p.qh) (.int .i64 p.an), bset9_q HB.out (by simp) (.int .i64 p.x) (.int .i64 p.y) (.int .i64 p.rx) (.int .i64 p.ry) (.int .i64 p.ww) (.int .i64 p.hh) (.int .i64 p.qw) (.int .i64 p.qh) (.int .i64 p.an)⟩ ?_
  clear HX HY HB c0 c1 c2 c3 c4 c5 c6 c7 c8 d0 d1 d2 d3 d4 d5 d6 d7 d8 f0 f1 f2 f3 f4 f5 f6 f7 f8
  rintro W ⟨hq, hb⟩
  obtain ⟨d0, d1, d2, d3, d4, d5, d6, d7, d8⟩ := c9_q hq
  exact bodyPost_ret (v := .tuple #[.agg #[.int .i64 p.x, .int .i64 p.y, .int .i64 p.rx, .int .i64 p.ry, .int .i64 p.ww, .int .i64 p.hh, .int .i64 p.qw, .int .i64 p.qh, .int .i64 p.an], .bool true]) (by simp only [results, Try.results47]; go_simp) rfl ⟨rfl, hb⟩
set_option maxRecDepth 100000 in
theorem ifPlace_false (p : Plc) (w : World) (h : plB p = false) : Calls Try.prog 47 #[.agg #[.int .i64 p.x, .int .i64 p.y, .int .i64 p.rx, .int .i64 p.ry, .int .i64 p.ww, .int .i64 p.hh, .int .i64 p.qw, .int .i64 p.qh, .int .i64 p.an], .func (.func 10) #[] #[]] w fun e w' => e = .returned (.tuple #[.agg #[.int .i64 0, .int .i64 0, .int .i64 0, .int .i64 0, .int .i64 0, .int .i64 0, .int .i64 0, .int .i64 0, .int .i64 0], .bool false]) ∧ Below w.heap.size w w' := by
  have HX := Lib.hid (oldq1 w (.cells #[.int .i64 p.x, .int .i64 p.y, .int .i64 p.rx, .int .i64 p.ry, .int .i64 p.ww, .int .i64 p.hh, .int .i64 p.qw, .int .i64 p.qh, .int .i64 p.an] 24) (.cells #[.int .i64 0, .int .i64 0, .int .i64 0, .int .i64 0, .int .i64 0, .int .i64 0, .int .i64 0, .int .i64 0, .int .i64 0] 24))
  have HY := Lib.hid (newq1 w (.cells #[.int .i64 p.x, .int .i64 p.y, .int .i64 p.rx, .int .i64 p.ry, .int .i64 p.ww, .int .i64 p.hh, .int .i64 p.qw, .int .i64 p.qh, .int .i64 p.an] 24) (.cells #[.int .i64 0, .int .i64 0, .int .i64 0, .int .i64 0, .int .i64 0, .int .i64 0, .int .i64 0, .int .i64 0, .int .i64 0] 24))
  have HB := Lib.hid (balloc (o := .cells #[.int .i64 0, .int .i64 0, .int .i64 0, .int .i64 0, .int .i64 0, .int .i64 0, .int .i64 0, .int .i64 0, .int .i64 0] 24) (balloc (o := .cells #[.int .i64 p.x, .int .i64 p.y, .int .i64 p.rx, .int .i64 p.ry, .int .i64 p.ww, .int .i64 p.hh, .int .i64 p.qw, .int .i64 p.qh, .int .i64 p.an] 24) (Below.refl w.heap.size w)))
  go_enter Try.func47, Try.ntmps47
  go_wp2_with fail
  refine (validPlace_t p false _ h).mono ?_
  rintro e w1 ⟨rfl, hb⟩
  replace HX := Lib.hid ((hb.block _ (Array.getElem?_eq_some_iff.1 HX.out).1).trans HX.out)
  replace HY := Lib.hid ((hb.block _ (Array.getElem?_eq_some_iff.1 HY.out).1).trans HY.out)
  replace HB := Lib.hid (bkeep2 HB.out hb)
  clear hb
  go_upto_region 3 with (fail)
  refine wp_genG3 (fun W => W.heap[w1.heap.size]? = some (.cells #[.int .i64 0, .int .i64 0, .int .i64 0, .int .i64 0, .int .i64 0, .int .i64 0, .int .i64 0, .int .i64 0, .int .i64 0] 24 (0, 0)) ∧ W.heap[w.heap.size + 1]? = some (.cells #[.int .i64 0, .int .i64 0, .int .i64 0, .int .i64 0, .int .i64 0, .int .i64 0, .int .i64 0, .int .i64 0, .int .i64 0] 24 (0, 0)) ∧ Below w.heap.size w W) ⟨new_q _ _, (Below.heap_alloc _ _ _ (lt_q HY.out)).trans HY.out, balloc HB.out⟩ (fun w2 h2 => ?_)
  clear HX HY HB
  obtain ⟨hx, hy, hb⟩ := h2
  have HX := Lib.hid hx
  have HY := Lib.hid hy
  have HB := Lib.hid hb
  clear hx hy hb
  obtain ⟨c0, c1, c2, c3, c4, c5, c6, c7, c8⟩ := c9_q HX.out
  obtain ⟨d0, d1, d2, d3, d4, d5, d6, d7, d8⟩ := c9_q HY.out
  obtain ⟨f0, f1, f2, f3, f4, f5, f6, f7, f8⟩ := f9_q HY.out
  have ly := lt_q HY.out
  have ln := Nat.ne_of_lt ly
  go_wp2_with fail
  refine bp_genQ (fun W => W.heap[w.heap.size + 1]? = some (.cells #[.int .i64 0, .int .i64 0, .int .i64 0, .int .i64 0, .int .i64 0, .int .i64 0, .int .i64 0, .int .i64 0, .int .i64 0] 24 (0, 0)) ∧ Below w.heap.size w W) ⟨put9_q HY.out (.int .i64 0) (.int .i64 0) (.int .i64 0) (.int .i64 0) (.int .i64 0) (.int .i64 0) (.int .i64 0) (.int .i64 0) (.int .i64 0), bset9_q HB.out (by simp) (.int .i64 0) (.int .i64 0) (.int .i64 0) (.int .i64 0) (.int .i64 0) (.int .i64 0) (.int .i64 0) (.int .i64 0) (.int .i64 0)⟩ ?_
  clear HX HY HB c0 c1 c2 c3 c4 c5 c6 c7 c8 d0 d1 d2 d3 d4 d5 d6 d7 d8 f0 f1 f2 f3 f4 f5 f6 f7 f8
  rintro W ⟨hq, hb⟩
  obtain ⟨d0, d1, d2, d3, d4, d5, d6, d7, d8⟩ := c9_q hq
  exact bodyPost_ret (v := .tuple #[.agg #[.int .i64 0, .int .i64 0, .int .i64 0, .int .i64 0, .int .i64 0, .int .i64 0, .int .i64 0, .int .i64 0, .int .i64 0], .bool false]) (by simp only [results, Try.results47]; go_simp) rfl ⟨rfl, hb⟩
end Go.Proofs.Ytfhjmmajhohkjab
end
