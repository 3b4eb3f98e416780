import Derived.Test.YtjfdmdmlgdgchaaDoorQ08
section
namespace Go.Proofs.YtjfdmdmlgdgchaaDoor
open Go.RowKit
set_option linter.unusedVariables false
set_option maxHeartbeats 2000000
theorem Bts.alloc' {w : World} {A : Option Addr} {n : Nat} (h : Bts w A n) (o : Obj) : Bts (w.alloc o) A n := h.alloc o
theorem put9h {w : World} {b : Nat} {a0 a1 a2 a3 a4 a5 a6 a7 a8 : Value} {T : TypeId} {fz : Nat × Nat} (h : w.heap[b]? = some (.cells #[a0, a1, a2, a3, a4, a5, a6, a7, a8] T fz)) (x0 x1 x2 x3 x4 x5 x6 x7 x8 : Value) :
    (((((((((w.setCell ⟨b, 0, none⟩ x0).setCell ⟨b, 1, none⟩ x1).setCell ⟨b, 2, none⟩ x2).setCell ⟨b, 3, none⟩ x3).setCell ⟨b, 4, none⟩ x4).setCell ⟨b, 5, none⟩ x5).setCell ⟨b, 6, none⟩ x6).setCell ⟨b, 7, none⟩ x7).setCell ⟨b, 8, none⟩ x8).heap[b]? = some (.cells #[x0, x1, x2, x3, x4, x5, x6, x7, x8] T fz) := by
  replace h := put1h (i := 0) h x0
  simp only [List.setIfInBounds_toArray, List.set_cons_zero] at h
  replace h := put1h (i := 1) h x1
  simp only [List.setIfInBounds_toArray, List.set_cons_succ, List.set_cons_zero] at h
  replace h := put1h (i := 2) h x2
  simp only [List.setIfInBounds_toArray, List.set_cons_succ, List.set_cons_zero] at h
  replace h := put1h (i := 3) h x3
  simp only [List.setIfInBounds_toArray, List.set_cons_succ, List.set_cons_zero] at h
  replace h := put1h (i := 4) h x4
  simp only [List.setIfInBounds_toArray, List.set_cons_succ, List.set_cons_zero] at h
  replace h := put1h (i := 5) h x5
  simp only [List.setIfInBounds_toArray, List.set_cons_succ, List.set_cons_zero] at h
  replace h := put1h (i := 6) h x6
  simp only [List.setIfInBounds_toArray, List.set_cons_succ, List.set_cons_zero] at h
  replace h := put1h (i := 7) h x7
  simp only [List.setIfInBounds_toArray, List.set_cons_succ, List.set_cons_zero] at h
  replace h := put1h (i := 8) h x8
  simp only [List.setIfInBounds_toArray, List.set_cons_succ, List.set_cons_zero] at h
  exact h
theorem put9c {S : List Nat} {a w : World} {b : Nat} (h : Chg S a w) (hb : b ∈ S ∨ a.heap.size ≤ b) (x0 x1 x2 x3 x4 x5 x6 x7 x8 : Value) : Chg S a (((((((((w.setCell ⟨b, 0, none⟩ x0).setCell ⟨b, 1, none⟩ x1).setCell ⟨b, 2, none⟩ x2).setCell ⟨b, 3, none⟩ x3).setCell ⟨b, 4, none⟩ x4).setCell ⟨b, 5, none⟩ x5).setCell ⟨b, 6, none⟩ x6).setCell ⟨b, 7, none⟩ x7).setCell ⟨b, 8, none⟩ x8) :=
  ((((((((h.setCell hb _).setCell hb _).setCell hb _).setCell hb _).setCell hb _).setCell hb _).setCell hb _).setCell hb _).setCell hb _
theorem put9r {B rb b : Nat} {A : Option Addr} {n c m : Nat} {w : World} (h : Rd B rb A n c m w) (h1 : B ≤ b) (h2 : b ≠ rb) (x0 x1 x2 x3 x4 x5 x6 x7 x8 : Value) : Rd B rb A n c m (((((((((w.setCell ⟨b, 0, none⟩ x0).setCell ⟨b, 1, none⟩ x1).setCell ⟨b, 2, none⟩ x2).setCell ⟨b, 3, none⟩ x3).setCell ⟨b, 4, none⟩ x4).setCell ⟨b, 5, none⟩ x5).setCell ⟨b, 6, none⟩ x6).setCell ⟨b, 7, none⟩ x7).setCell ⟨b, 8, none⟩ x8) :=
  ((((((((h.setCell h1 h2 _).setCell h1 h2 _).setCell h1 h2 _).setCell h1 h2 _).setCell h1 h2 _).setCell h1 h2 _).setCell h1 h2 _).setCell h1 h2 _).setCell h1 h2 _
theorem b9f {w : World} {b : Nat} {cs : Array Value} {T : TypeId} (h : w.heap[b]? = some (.cells cs T (0, 0))) : w.frozen? ⟨b, 0, none⟩ = false ∧ w.frozen? ⟨b, 1, none⟩ = false ∧ w.frozen? ⟨b, 2, none⟩ = false ∧ w.frozen? ⟨b, 3, none⟩ = false ∧ w.frozen? ⟨b, 4, none⟩ = false ∧ w.frozen? ⟨b, 5, none⟩ = false ∧ w.frozen? ⟨b, 6, none⟩ = false ∧ w.frozen? ⟨b, 7, none⟩ = false ∧ w.frozen? ⟨b, 8, none⟩ = false :=
  ⟨frozen_of_heap h 0, frozen_of_heap h 1, frozen_of_heap h 2, frozen_of_heap h 3, frozen_of_heap h 4, frozen_of_heap h 5, frozen_of_heap h 6, frozen_of_heap h 7, frozen_of_heap h 8⟩
set_option maxRecDepth 100000 in
theorem goodPack_any {B rb : Nat} {A : Option Addr} {l c m : Nat} (w : World) (h : Rd B rb A l c m w) (hm : m ≤ 900000) :
    Calls Tryd.prog 35 #[.pointer (some ⟨rb, 0, none⟩)] w fun e w' => (∃ (w0 h0 s : Int) (fx fy ex : Bool) (an px py : Int), e = .returned (.agg #[.int .i64 w0, .int .i64 h0, .int .i64 s, .bool fx, .bool fy, .bool ex, .int .i64 an, .int .i64 px, .int .i64 py])) ∧ Rd B rb A l c (m + 20) w' ∧ Chg [rb] w w' := by
  have hlt := h.lt
  have hbase := h.base
  go_enter Tryd.func35, Tryd.ntmps35
  go_wp2_with fail
  with_reducible refine (pick_any _ _ (h.alloc _) (by omega)).mono ?_
  rintro e w1 ⟨⟨z1, rfl, -⟩, hr1, hc1⟩
  go_wp2_with fail
  with_reducible refine (one_lit _ hr1 (by omega) (by simp) (by omega) (by omega) (by simp [isI])).mono ?_
  rintro e w2 ⟨⟨z2, rfl⟩, hr2, hc2⟩
  go_wp2_with fail
  with_reducible refine (pick_any _ _ hr2 (by omega)).mono ?_
  rintro e w3 ⟨⟨z3, rfl, -⟩, hr3, hc3⟩
  go_wp2_with fail
  with_reducible refine (one_lit _ hr3 (by omega) (by simp) (by omega) (by omega) (by simp [isI])).mono ?_
  rintro e w4 ⟨⟨z4, rfl⟩, hr4, hc4⟩
  go_wp2_with fail
  with_reducible refine (pick_any _ _ hr4 (by omega)).mono ?_
  rintro e w5 ⟨⟨z5, rfl, -⟩, hr5, hc5⟩
  go_wp2_with fail
  with_reducible refine (pick_any _ _ hr5 (by omega)).mono ?_
  rintro e w6 ⟨⟨z6, rfl, -⟩, hr6, hc6⟩
  go_wp2_with fail
  with_reducible refine (one_lit _ hr6 (by omega) (by simp) (by omega) (by omega) (by simp [isI])).mono ?_
  rintro e w7 ⟨⟨z7, rfl⟩, hr7, hc7⟩
  have hc : Chg [rb] (w.alloc _) w7 := ((((((hc1).trans hc2).trans hc3).trans hc4).trans hc5).trans hc6).trans hc7
  clear hc1 hc2 hc3 hc4 hc5 hc6 hc7 hr1 hr2 hr3 hr4 hr5 hr6
  have hb0 := (hc.block w.heap.size (by simp) (by simp; omega)).trans (heap_alloc_new w _)
  have hs := hc.size
  simp only [World.size_alloc] at hs
  have HC := Lib.hid (((Chg.refl [rb] w).alloc _).trans hc)
  have hl7 := hr7.lt
  have hx0 := Nat.lt_of_succ_le hs
  have hn0 : w.heap.size ≠ rb := by omega
  have hB0 : B ≤ w.heap.size := by omega
  have hn1 : w7.heap.size ≠ rb := by omega
  have hB1 : B ≤ w7.heap.size := by omega
  have hn01 : w.heap.size ≠ w7.heap.size := by omega
  have hn10 : ¬ w7.heap.size = w.heap.size := by omega
  have hw1 : w.heap.size ≤ w7.heap.size := by omega
  clear hc hlt hbase hs hl7
  have hb1 := heap_alloc_new w7 (.cells #[.int .i64 z2, .int .i64 z4, .int .i64 z5, .bool false, .bool false, .bool false, .int .i64 z7, .int .i64 0, .int .i64 0] 23)
  replace hb0 := (Below.heap_alloc w7 (.cells #[.int .i64 z2, .int .i64 z4, .int .i64 z5, .bool false, .bool false, .bool false, .int .i64 z7, .int .i64 0, .int .i64 0] 23) w.heap.size hx0).trans hb0
  have HB0 := Lib.hid hb0
  have HB1 := Lib.hid hb1
  replace HC := Lib.hid (HC.out.alloc (.cells #[.int .i64 z2, .int .i64 z4, .int .i64 z5, .bool false, .bool false, .bool false, .int .i64 z7, .int .i64 0, .int .i64 0] 23))
  have HR := Lib.hid (hr7.alloc (.cells #[.int .i64 z2, .int .i64 z4, .int .i64 z5, .bool false, .bool false, .bool false, .int .i64 z7, .int .i64 0, .int .i64 0] 23))
  clear hb0 hb1 hr7
  have hz0 : w.heap.size < (w7.alloc (.cells #[.int .i64 z2, .int .i64 z4, .int .i64 z5, .bool false, .bool false, .bool false, .int .i64 z7, .int .i64 0, .int .i64 0] 23)).heap.size := by simp; omega
  have hz1 : w7.heap.size < (w7.alloc (.cells #[.int .i64 z2, .int .i64 z4, .int .i64 z5, .bool false, .bool false, .bool false, .int .i64 z7, .int .i64 0, .int .i64 0] 23)).heap.size := by simp
  have HZ0 := Lib.hid hz0
  have HZ1 := Lib.hid hz1
  clear hz0 hz1
  go_wp2_with fail
  with_reducible refine (pick_any _ _ HR.out (by omega)).mono ?_
  rintro e w8 ⟨⟨z8, rfl, -⟩, hr8, hc8⟩
  have h0 := (hc8.block _ HZ0.out (by simpa using hn0)).trans HB0.out
  have h1 := (hc8.block _ HZ1.out (by simpa using hn1)).trans HB1.out
  have c3 := cellH h1 3
  have f3 := frozen_of_heap h1 3
  simp at c3
  replace HB0 := Lib.hid ((Below.heap_setCell w8 ⟨w7.heap.size, 3, none⟩ (.bool (z8 == 0)) _ hn01).trans h0)
  have hp1 := put1h (i := 3) h1 (.bool (z8 == 0))
  simp only [List.setIfInBounds_toArray, List.set_cons_succ, List.set_cons_zero] at hp1
  replace HB1 := Lib.hid hp1
  replace HC := Lib.hid ((HC.out.trans hc8).setCell (p := ⟨w7.heap.size, 3, none⟩) (.inr hw1) (.bool (z8 == 0)))
  replace HR := Lib.hid (hr8.setCell (p := ⟨w7.heap.size, 3, none⟩) hB1 hn1 (.bool (z8 == 0)))
  replace HZ0 := Lib.hid (show w.heap.size < (w8.setCell ⟨w7.heap.size, 3, none⟩ (.bool (z8 == 0))).heap.size from by simpa [World.setCell] using Nat.lt_of_lt_of_le HZ0.out hc8.size)
  replace HZ1 := Lib.hid (show w7.heap.size < (w8.setCell ⟨w7.heap.size, 3, none⟩ (.bool (z8 == 0))).heap.size from by simpa [World.setCell] using Nat.lt_of_lt_of_le HZ1.out hc8.size)
  clear h0 h1 hr8 hc8 hp1
  go_wp2_with fail
  with_reducible refine (pick_any _ _ HR.out (by omega)).mono ?_
  rintro e w9 ⟨⟨z9, rfl, -⟩, hr9, hc9⟩
  clear c3 f3
  have h0 := (hc9.block _ HZ0.out (by simpa using hn0)).trans HB0.out
  have h1 := (hc9.block _ HZ1.out (by simpa using hn1)).trans HB1.out
  have c4 := cellH h1 4
  have f4 := frozen_of_heap h1 4
  simp at c4
  replace HB0 := Lib.hid ((Below.heap_setCell w9 ⟨w7.heap.size, 4, none⟩ (.bool (z9 == 0)) _ hn01).trans h0)
  have hp1 := put1h (i := 4) h1 (.bool (z9 == 0))
  simp only [List.setIfInBounds_toArray, List.set_cons_succ, List.set_cons_zero] at hp1
  replace HB1 := Lib.hid hp1
  replace HC := Lib.hid ((HC.out.trans hc9).setCell (p := ⟨w7.heap.size, 4, none⟩) (.inr hw1) (.bool (z9 == 0)))
  replace HR := Lib.hid (hr9.setCell (p := ⟨w7.heap.size, 4, none⟩) hB1 hn1 (.bool (z9 == 0)))
  replace HZ0 := Lib.hid (show w.heap.size < (w9.setCell ⟨w7.heap.size, 4, none⟩ (.bool (z9 == 0))).heap.size from by simpa [World.setCell] using Nat.lt_of_lt_of_le HZ0.out hc9.size)
  replace HZ1 := Lib.hid (show w7.heap.size < (w9.setCell ⟨w7.heap.size, 4, none⟩ (.bool (z9 == 0))).heap.size from by simpa [World.setCell] using Nat.lt_of_lt_of_le HZ1.out hc9.size)
  clear h0 h1 hr9 hc9 hp1
  go_wp2_with fail
  with_reducible refine (pick_any _ _ HR.out (by omega)).mono ?_
  rintro e w10 ⟨⟨z10, rfl, -⟩, hr10, hc10⟩
  clear c4 f4
  have h0 := (hc10.block _ HZ0.out (by simpa using hn0)).trans HB0.out
  have h1 := (hc10.block _ HZ1.out (by simpa using hn1)).trans HB1.out
  have c5 := cellH h1 5
  have f5 := frozen_of_heap h1 5
  simp at c5
  replace HB0 := Lib.hid ((Below.heap_setCell w10 ⟨w7.heap.size, 5, none⟩ (.bool (z10 == 0)) _ hn01).trans h0)
  have hp1 := put1h (i := 5) h1 (.bool (z10 == 0))
  simp only [List.setIfInBounds_toArray, List.set_cons_succ, List.set_cons_zero] at hp1
  replace HB1 := Lib.hid hp1
  replace HC := Lib.hid ((HC.out.trans hc10).setCell (p := ⟨w7.heap.size, 5, none⟩) (.inr hw1) (.bool (z10 == 0)))
  replace HR := Lib.hid (hr10.setCell (p := ⟨w7.heap.size, 5, none⟩) hB1 hn1 (.bool (z10 == 0)))
  replace HZ0 := Lib.hid (show w.heap.size < (w10.setCell ⟨w7.heap.size, 5, none⟩ (.bool (z10 == 0))).heap.size from by simpa [World.setCell] using Nat.lt_of_lt_of_le HZ0.out hc10.size)
  replace HZ1 := Lib.hid (show w7.heap.size < (w10.setCell ⟨w7.heap.size, 5, none⟩ (.bool (z10 == 0))).heap.size from by simpa [World.setCell] using Nat.lt_of_lt_of_le HZ1.out hc10.size)
  clear h0 h1 hr10 hc10 hp1
  go_wp2_with fail
  with_reducible refine (pick_any _ _ HR.out (by omega)).mono ?_
  rintro e w11 ⟨⟨q, rfl, -⟩, hr11, hc11⟩
  clear c5 f5
  replace HB0 := Lib.hid ((hc11.block _ HZ0.out (by simpa using hn0)).trans HB0.out)
  replace HB1 := Lib.hid ((hc11.block _ HZ1.out (by simpa using hn1)).trans HB1.out)
  replace HC := Lib.hid (HC.out.trans hc11)
  replace HR := Lib.hid hr11
  replace HZ0 := Lib.hid (Nat.lt_of_lt_of_le HZ0.out hc11.size)
  replace HZ1 := Lib.hid (Nat.lt_of_lt_of_le HZ1.out hc11.size)
  clear hr11 hc11
  by_cases hq : q = 0
  · subst hq
    go_wp2_with fail
    with_reducible refine (pick_any _ _ HR.out (by omega)).mono ?_
    rintro e w12 ⟨⟨z12, rfl, -⟩, hr12, hc12⟩
    have h0 := (hc12.block _ HZ0.out (by simpa using hn0)).trans HB0.out
    have h1 := (hc12.block _ HZ1.out (by simpa using hn1)).trans HB1.out
    have c7 := cellH h1 7
    have f7 := frozen_of_heap h1 7
    simp at c7
    replace HB0 := Lib.hid ((Below.heap_setCell w12 ⟨w7.heap.size, 7, none⟩ (.int .i64 z12) _ hn01).trans h0)
    have hp1 := put1h (i := 7) h1 (.int .i64 z12)
    simp only [List.setIfInBounds_toArray, List.set_cons_succ, List.set_cons_zero] at hp1
    replace HB1 := Lib.hid hp1
    replace HC := Lib.hid ((HC.out.trans hc12).setCell (p := ⟨w7.heap.size, 7, none⟩) (.inr hw1) (.int .i64 z12))
    replace HR := Lib.hid (hr12.setCell (p := ⟨w7.heap.size, 7, none⟩) hB1 hn1 (.int .i64 z12))
    replace HZ0 := Lib.hid (show w.heap.size < (w12.setCell ⟨w7.heap.size, 7, none⟩ (.int .i64 z12)).heap.size from by simpa [World.setCell] using Nat.lt_of_lt_of_le HZ0.out hc12.size)
    replace HZ1 := Lib.hid (show w7.heap.size < (w12.setCell ⟨w7.heap.size, 7, none⟩ (.int .i64 z12)).heap.size from by simpa [World.setCell] using Nat.lt_of_lt_of_le HZ1.out hc12.size)
    clear h0 h1 hr12 hc12 hp1
    go_wp2_with fail
    with_reducible refine (pick_any _ _ HR.out (by omega)).mono ?_
    rintro e w13 ⟨⟨z13, rfl, -⟩, hr13, hc13⟩
    clear c7 f7
    have h0 := (hc13.block _ HZ0.out (by simpa using hn0)).trans HB0.out
    have h1 := (hc13.block _ HZ1.out (by simpa using hn1)).trans HB1.out
    have c8 := cellH h1 8
    have f8 := frozen_of_heap h1 8
    simp at c8
    replace HB0 := Lib.hid ((Below.heap_setCell w13 ⟨w7.heap.size, 8, none⟩ (.int .i64 z13) _ hn01).trans h0)
    have hp1 := put1h (i := 8) h1 (.int .i64 z13)
    simp only [List.setIfInBounds_toArray, List.set_cons_succ, List.set_cons_zero] at hp1
    replace HB1 := Lib.hid hp1
    replace HC := Lib.hid ((HC.out.trans hc13).setCell (p := ⟨w7.heap.size, 8, none⟩) (.inr hw1) (.int .i64 z13))
    replace HR := Lib.hid (hr13.setCell (p := ⟨w7.heap.size, 8, none⟩) hB1 hn1 (.int .i64 z13))
    replace HZ0 := Lib.hid (show w.heap.size < (w13.setCell ⟨w7.heap.size, 8, none⟩ (.int .i64 z13)).heap.size from by simpa [World.setCell] using Nat.lt_of_lt_of_le HZ0.out hc13.size)
    replace HZ1 := Lib.hid (show w7.heap.size < (w13.setCell ⟨w7.heap.size, 8, none⟩ (.int .i64 z13)).heap.size from by simpa [World.setCell] using Nat.lt_of_lt_of_le HZ1.out hc13.size)
    clear h0 h1 hr13 hc13 hp1
    have h0 := HB0.out
    have h1 := HB1.out
    obtain ⟨c0, c1, c2, c3, c4, c5, c6, c7, c8⟩ := b9c h1
    obtain ⟨d0, d1, d2, d3, d4, d5, d6, d7, d8⟩ := b9c h0
    obtain ⟨f0, f1, f2, f3, f4, f5, f6, f7, f8⟩ := b9f h0
    clear h0 h1
    go_wp2
    refine bp_gen (fun W => W.heap[w.heap.size]? = some (.cells #[.int .i64 z2, .int .i64 z4, .int .i64 z5, .bool (z8 == 0), .bool (z9 == 0), .bool (z10 == 0), .int .i64 z7, .int .i64 z12, .int .i64 z13] 23) ∧ Rd B rb A l c (m + 20) W ∧ Chg [rb] w W) ⟨put9h HB0.out (.int .i64 z2) (.int .i64 z4) (.int .i64 z5) (.bool (z8 == 0)) (.bool (z9 == 0)) (.bool (z10 == 0)) (.int .i64 z7) (.int .i64 z12) (.int .i64 z13), put9r (HR.out.mono (by omega)) hB0 hn0 (.int .i64 z2) (.int .i64 z4) (.int .i64 z5) (.bool (z8 == 0)) (.bool (z9 == 0)) (.bool (z10 == 0)) (.int .i64 z7) (.int .i64 z12) (.int .i64 z13), put9c HC.out (.inr (Nat.le_refl _)) (.int .i64 z2) (.int .i64 z4) (.int .i64 z5) (.bool (z8 == 0)) (.bool (z9 == 0)) (.bool (z10 == 0)) (.int .i64 z7) (.int .i64 z12) (.int .i64 z13)⟩ ?_
    clear HB0 HB1 HC HR c0 c1 c2 c3 c4 c5 c6 c7 c8 d0 d1 d2 d3 d4 d5 d6 d7 d8 f0 f1 f2 f3 f4 f5 f6 f7 f8
    rintro W ⟨h0, hR, hC⟩
    obtain ⟨d0, d1, d2, d3, d4, d5, d6, d7, d8⟩ := b9c h0
    exact bodyPost_ret (v := .agg #[.int .i64 z2, .int .i64 z4, .int .i64 z5, .bool (z8 == 0), .bool (z9 == 0), .bool (z10 == 0), .int .i64 z7, .int .i64 z12, .int .i64 z13]) (by simp only [results, Tryd.results35]; go_simp) rfl ⟨⟨_, _, _, _, _, _, _, _, _, rfl⟩, hR, hC⟩
  · have hq1 : (q == 0) = false := by simpa using hq
    have h0 := HB0.out
    have h1 := HB1.out
    obtain ⟨c0, c1, c2, c3, c4, c5, c6, c7, c8⟩ := b9c h1
    obtain ⟨d0, d1, d2, d3, d4, d5, d6, d7, d8⟩ := b9c h0
    obtain ⟨f0, f1, f2, f3, f4, f5, f6, f7, f8⟩ := b9f h0
    clear h0 h1
    go_wp2
    refine bp_gen (fun W => W.heap[w.heap.size]? = some (.cells #[.int .i64 z2, .int .i64 z4, .int .i64 z5, .bool (z8 == 0), .bool (z9 == 0), .bool (z10 == 0), .int .i64 z7, .int .i64 0, .int .i64 0] 23) ∧ Rd B rb A l c (m + 20) W ∧ Chg [rb] w W) ⟨put9h HB0.out (.int .i64 z2) (.int .i64 z4) (.int .i64 z5) (.bool (z8 == 0)) (.bool (z9 == 0)) (.bool (z10 == 0)) (.int .i64 z7) (.int .i64 0) (.int .i64 0), put9r (HR.out.mono (by omega)) hB0 hn0 (.int .i64 z2) (.int .i64 z4) (.int .i64 z5) (.bool (z8 == 0)) (.bool (z9 == 0)) (.bool (z10 == 0)) (.int .i64 z7) (.int .i64 0) (.int .i64 0), put9c HC.out (.inr (Nat.le_refl _)) (.int .i64 z2) (.int .i64 z4) (.int .i64 z5) (.bool (z8 == 0)) (.bool (z9 == 0)) (.bool (z10 == 0)) (.int .i64 z7) (.int .i64 0) (.int .i64 0)⟩ ?_
    clear HB0 HB1 HC HR c0 c1 c2 c3 c4 c5 c6 c7 c8 d0 d1 d2 d3 d4 d5 d6 d7 d8 f0 f1 f2 f3 f4 f5 f6 f7 f8
    rintro W ⟨h0, hR, hC⟩
    obtain ⟨d0, d1, d2, d3, d4, d5, d6, d7, d8⟩ := b9c h0
    exact bodyPost_ret (v := .agg #[.int .i64 z2, .int .i64 z4, .int .i64 z5, .bool (z8 == 0), .bool (z9 == 0), .bool (z10 == 0), .int .i64 z7, .int .i64 0, .int .i64 0]) (by simp only [results, Tryd.results35]; go_simp) rfl ⟨⟨_, _, _, _, _, _, _, _, _, rfl⟩, hR, hC⟩
set_option maxRecDepth 100000 in
theorem somePack_any {B rb : Nat} {A : Option Addr} {l c m : Nat} (w : World) (h : Rd B rb A l c m w) (hm : m ≤ 800000) :
    Calls Tryd.prog 29 #[.pointer (some ⟨rb, 0, none⟩)] w fun e w' => (∃ (w0 h0 s : Int) (fx fy ex : Bool) (an px py : Int), e = .returned (.agg #[.int .i64 w0, .int .i64 h0, .int .i64 s, .bool fx, .bool fy, .bool ex, .int .i64 an, .int .i64 px, .int .i64 py])) ∧ Rd B rb A l c (m + 22) w' ∧ Chg [rb] w w' := by
  have hlt := h.lt
  have hbase := h.base
  go_enter Tryd.func29, Tryd.ntmps29
  go_wp2_with fail
  with_reducible refine (goodPack_any _ (h.alloc _) (by omega)).mono ?_
  rintro e w1 ⟨⟨v0, v1, v2, v3, v4, v5, v6, v7, v8, rfl⟩, hr1, hc⟩
  have hb0 := (hc.block w.heap.size (by simp) (by simp; omega)).trans (heap_alloc_new w _)
  have hs := hc.size
  simp only [World.size_alloc] at hs
  have HC := Lib.hid (((Chg.refl [rb] w).alloc _).trans hc)
  have hl7 := hr1.lt
  have hx0 := Nat.lt_of_succ_le hs
  have hn0 : w.heap.size ≠ rb := by omega
  have hB0 : B ≤ w.heap.size := by omega
  have hn1 : w1.heap.size ≠ rb := by omega
  have hB1 : B ≤ w1.heap.size := by omega
  have hn01 : w.heap.size ≠ w1.heap.size := by omega
  have hn10 : ¬ w1.heap.size = w.heap.size := by omega
  have hw1 : w.heap.size ≤ w1.heap.size := by omega
  clear hc hlt hbase hs hl7
  have hb1 := heap_alloc_new w1 (.cells #[.int .i64 v0, .int .i64 v1, .int .i64 v2, .bool v3, .bool v4, .bool v5, .int .i64 v6, .int .i64 v7, .int .i64 v8] 23)
  replace hb0 := (Below.heap_alloc w1 (.cells #[.int .i64 v0, .int .i64 v1, .int .i64 v2, .bool v3, .bool v4, .bool v5, .int .i64 v6, .int .i64 v7, .int .i64 v8] 23) w.heap.size hx0).trans hb0
  replace HC := Lib.hid (HC.out.alloc (.cells #[.int .i64 v0, .int .i64 v1, .int .i64 v2, .bool v3, .bool v4, .bool v5, .int .i64 v6, .int .i64 v7, .int .i64 v8] 23))
  have HR := Lib.hid (hr1.alloc (.cells #[.int .i64 v0, .int .i64 v1, .int .i64 v2, .bool v3, .bool v4, .bool v5, .int .i64 v6, .int .i64 v7, .int .i64 v8] 23))
  clear hr1
  have HB0 := Lib.hid hb0
  have HB1 := Lib.hid hb1
  clear hb0 hb1
  have hz0 : w.heap.size < (w1.alloc (.cells #[.int .i64 v0, .int .i64 v1, .int .i64 v2, .bool v3, .bool v4, .bool v5, .int .i64 v6, .int .i64 v7, .int .i64 v8] 23)).heap.size := by simp; omega
  have hz1 : w1.heap.size < (w1.alloc (.cells #[.int .i64 v0, .int .i64 v1, .int .i64 v2, .bool v3, .bool v4, .bool v5, .int .i64 v6, .int .i64 v7, .int .i64 v8] 23)).heap.size := by simp
  have HZ0 := Lib.hid hz0
  have HZ1 := Lib.hid hz1
  clear hz0 hz1
  go_wp2_with fail
  with_reducible refine (pick_any _ _ HR.out (by omega)).mono ?_
  rintro e w2 ⟨⟨q, rfl, -⟩, hr2, hc2⟩
  replace HB0 := Lib.hid ((hc2.block _ HZ0.out (by simpa using hn0)).trans HB0.out)
  replace HB1 := Lib.hid ((hc2.block _ HZ1.out (by simpa using hn1)).trans HB1.out)
  replace HC := Lib.hid (HC.out.trans hc2)
  replace HR := Lib.hid hr2
  replace HZ0 := Lib.hid (Nat.lt_of_lt_of_le HZ0.out hc2.size)
  replace HZ1 := Lib.hid (Nat.lt_of_lt_of_le HZ1.out hc2.size)
  clear hr2 hc2
  by_cases q0 : q = 0
  · subst q0
    go_wp2_with fail
    with_reducible refine (one_lit _ HR.out (by omega) (by simp) (by omega) (by omega) (by simp [isI])).mono ?_
    rintro e w3 ⟨⟨z, rfl⟩, hr3, hc3⟩
    replace HB0 := Lib.hid ((hc3.block _ HZ0.out (by simpa using hn0)).trans HB0.out)
    replace HB1 := Lib.hid ((hc3.block _ HZ1.out (by simpa using hn1)).trans HB1.out)
    replace HC := Lib.hid (HC.out.trans hc3)
    replace HR := Lib.hid hr3
    replace HZ0 := Lib.hid (Nat.lt_of_lt_of_le HZ0.out hc3.size)
    replace HZ1 := Lib.hid (Nat.lt_of_lt_of_le HZ1.out hc3.size)
    clear hr3 hc3
    have h0 := HB0.out
    have h1 := HB1.out
    obtain ⟨c0, c1, c2, c3, c4, c5, c6, c7, c8⟩ := b9c h1
    obtain ⟨d0, d1, d2, d3, d4, d5, d6, d7, d8⟩ := b9c h0
    obtain ⟨f0, f1, f2, f3, f4, f5, f6, f7, f8⟩ := b9f h0
    have g0 := frozen_of_heap h1 0
    clear h0 h1
    go_wp2
    refine bp_gen (fun W => W.heap[w.heap.size]? = some (.cells #[.int .i64 z, .int .i64 v1, .int .i64 v2, .bool v3, .bool v4, .bool v5, .int .i64 v6, .int .i64 v7, .int .i64 v8] 23) ∧ Rd B rb A l c (m + 22) W ∧ Chg [rb] w W) ⟨put9h ((Below.heap_setCell w3 ⟨w1.heap.size, 0, none⟩ (.int .i64 z) _ hn01).trans HB0.out) (.int .i64 z) (.int .i64 v1) (.int .i64 v2) (.bool v3) (.bool v4) (.bool v5) (.int .i64 v6) (.int .i64 v7) (.int .i64 v8), put9r ((HR.out.setCell (p := ⟨w1.heap.size, 0, none⟩) hB1 hn1 (.int .i64 z)).mono (by omega)) hB0 hn0 (.int .i64 z) (.int .i64 v1) (.int .i64 v2) (.bool v3) (.bool v4) (.bool v5) (.int .i64 v6) (.int .i64 v7) (.int .i64 v8), put9c (HC.out.setCell (p := ⟨w1.heap.size, 0, none⟩) (.inr hw1) (.int .i64 z)) (.inr (Nat.le_refl _)) (.int .i64 z) (.int .i64 v1) (.int .i64 v2) (.bool v3) (.bool v4) (.bool v5) (.int .i64 v6) (.int .i64 v7) (.int .i64 v8)⟩ ?_
    clear HB0 HB1 HC HR c0 c1 c2 c3 c4 c5 c6 c7 c8 d0 d1 d2 d3 d4 d5 d6 d7 d8 f0 f1 f2 f3 f4 f5 f6 f7 f8
    rintro W ⟨h0, hR, hC⟩
    obtain ⟨d0, d1, d2, d3, d4, d5, d6, d7, d8⟩ := b9c h0
    exact bodyPost_ret (v := .agg #[.int .i64 z, .int .i64 v1, .int .i64 v2, .bool v3, .bool v4, .bool v5, .int .i64 v6, .int .i64 v7, .int .i64 v8]) (by simp only [results, Tryd.results29]; go_simp) rfl ⟨⟨_, _, _, _, _, _, _, _, _, rfl⟩, hR, hC⟩
  by_cases q1 : q = 1
  · subst q1
    go_wp2_with fail
    with_reducible refine (one_lit _ HR.out (by omega) (by simp) (by omega) (by omega) (by simp [isI])).mono ?_
    rintro e w3 ⟨⟨z, rfl⟩, hr3, hc3⟩
    replace HB0 := Lib.hid ((hc3.block _ HZ0.out (by simpa using hn0)).trans HB0.out)
    replace HB1 := Lib.hid ((hc3.block _ HZ1.out (by simpa using hn1)).trans HB1.out)
    replace HC := Lib.hid (HC.out.trans hc3)
    replace HR := Lib.hid hr3
    replace HZ0 := Lib.hid (Nat.lt_of_lt_of_le HZ0.out hc3.size)
    replace HZ1 := Lib.hid (Nat.lt_of_lt_of_le HZ1.out hc3.size)
    clear hr3 hc3
    have h0 := HB0.out
    have h1 := HB1.out
    obtain ⟨c0, c1, c2, c3, c4, c5, c6, c7, c8⟩ := b9c h1
    obtain ⟨d0, d1, d2, d3, d4, d5, d6, d7, d8⟩ := b9c h0
    obtain ⟨f0, f1, f2, f3, f4, f5, f6, f7, f8⟩ := b9f h0
    have g0 := frozen_of_heap h1 2
    clear h0 h1
    go_wp2
    refine bp_gen (fun W => W.heap[w.heap.size]? = some (.cells #[.int .i64 v0, .int .i64 v1, .int .i64 z, .bool v3, .bool v4, .bool v5, .int .i64 v6, .int .i64 v7, .int .i64 v8] 23) ∧ Rd B rb A l c (m + 22) W ∧ Chg [rb] w W) ⟨put9h ((Below.heap_setCell w3 ⟨w1.heap.size, 2, none⟩ (.int .i64 z) _ hn01).trans HB0.out) (.int .i64 v0) (.int .i64 v1) (.int .i64 z) (.bool v3) (.bool v4) (.bool v5) (.int .i64 v6) (.int .i64 v7) (.int .i64 v8), put9r ((HR.out.setCell (p := ⟨w1.heap.size, 2, none⟩) hB1 hn1 (.int .i64 z)).mono (by omega)) hB0 hn0 (.int .i64 v0) (.int .i64 v1) (.int .i64 z) (.bool v3) (.bool v4) (.bool v5) (.int .i64 v6) (.int .i64 v7) (.int .i64 v8), put9c (HC.out.setCell (p := ⟨w1.heap.size, 2, none⟩) (.inr hw1) (.int .i64 z)) (.inr (Nat.le_refl _)) (.int .i64 v0) (.int .i64 v1) (.int .i64 z) (.bool v3) (.bool v4) (.bool v5) (.int .i64 v6) (.int .i64 v7) (.int .i64 v8)⟩ ?_
    clear HB0 HB1 HC HR c0 c1 c2 c3 c4 c5 c6 c7 c8 d0 d1 d2 d3 d4 d5 d6 d7 d8 f0 f1 f2 f3 f4 f5 f6 f7 f8
    rintro W ⟨h0, hR, hC⟩
    obtain ⟨d0, d1, d2, d3, d4, d5, d6, d7, d8⟩ := b9c h0
    exact bodyPost_ret (v := .agg #[.int .i64 v0, .int .i64 v1, .int .i64 z, .bool v3, .bool v4, .bool v5, .int .i64 v6, .int .i64 v7, .int .i64 v8]) (by simp only [results, Tryd.results29]; go_simp) rfl ⟨⟨_, _, _, _, _, _, _, _, _, rfl⟩, hR, hC⟩
  by_cases q2 : q = 2
  · subst q2
    go_wp2_with fail
    with_reducible refine (one_lit _ HR.out (by omega) (by simp) (by omega) (by omega) (by simp [isI])).mono ?_
    rintro e w3 ⟨⟨z, rfl⟩, hr3, hc3⟩
    replace HB0 := Lib.hid ((hc3.block _ HZ0.out (by simpa using hn0)).trans HB0.out)
    replace HB1 := Lib.hid ((hc3.block _ HZ1.out (by simpa using hn1)).trans HB1.out)
    replace HC := Lib.hid (HC.out.trans hc3)
    replace HR := Lib.hid hr3
    replace HZ0 := Lib.hid (Nat.lt_of_lt_of_le HZ0.out hc3.size)
    replace HZ1 := Lib.hid (Nat.lt_of_lt_of_le HZ1.out hc3.size)
    clear hr3 hc3
    have h0 := HB0.out
    have h1 := HB1.out
    obtain ⟨c0, c1, c2, c3, c4, c5, c6, c7, c8⟩ := b9c h1
    obtain ⟨d0, d1, d2, d3, d4, d5, d6, d7, d8⟩ := b9c h0
    obtain ⟨f0, f1, f2, f3, f4, f5, f6, f7, f8⟩ := b9f h0
    have g0 := frozen_of_heap h1 7
    clear h0 h1
    go_wp2
    refine bp_gen (fun W => W.heap[w.heap.size]? = some (.cells #[.int .i64 v0, .int .i64 v1, .int .i64 v2, .bool v3, .bool v4, .bool v5, .int .i64 v6, .int .i64 z, .int .i64 v8] 23) ∧ Rd B rb A l c (m + 22) W ∧ Chg [rb] w W) ⟨put9h ((Below.heap_setCell w3 ⟨w1.heap.size, 7, none⟩ (.int .i64 z) _ hn01).trans HB0.out) (.int .i64 v0) (.int .i64 v1) (.int .i64 v2) (.bool v3) (.bool v4) (.bool v5) (.int .i64 v6) (.int .i64 z) (.int .i64 v8), put9r ((HR.out.setCell (p := ⟨w1.heap.size, 7, none⟩) hB1 hn1 (.int .i64 z)).mono (by omega)) hB0 hn0 (.int .i64 v0) (.int .i64 v1) (.int .i64 v2) (.bool v3) (.bool v4) (.bool v5) (.int .i64 v6) (.int .i64 z) (.int .i64 v8), put9c (HC.out.setCell (p := ⟨w1.heap.size, 7, none⟩) (.inr hw1) (.int .i64 z)) (.inr (Nat.le_refl _)) (.int .i64 v0) (.int .i64 v1) (.int .i64 v2) (.bool v3) (.bool v4) (.bool v5) (.int .i64 v6) (.int .i64 z) (.int .i64 v8)⟩ ?_
    clear HB0 HB1 HC HR c0 c1 c2 c3 c4 c5 c6 c7 c8 d0 d1 d2 d3 d4 d5 d6 d7 d8 f0 f1 f2 f3 f4 f5 f6 f7 f8
    rintro W ⟨h0, hR, hC⟩
    obtain ⟨d0, d1, d2, d3, d4, d5, d6, d7, d8⟩ := b9c h0
    exact bodyPost_ret (v := .agg #[.int .i64 v0, .int .i64 v1, .int .i64 v2, .bool v3, .bool v4, .bool v5, .int .i64 v6, .int .i64 z, .int .i64 v8]) (by simp only [results, Tryd.results29]; go_simp) rfl ⟨⟨_, _, _, _, _, _, _, _, _, rfl⟩, hR, hC⟩
  by_cases q3 : q = 3
  · subst q3
    go_wp2_with fail
    with_reducible refine (one_lit _ HR.out (by omega) (by simp) (by omega) (by omega) (by simp [isI])).mono ?_
    rintro e w3 ⟨⟨z, rfl⟩, hr3, hc3⟩
    replace HB0 := Lib.hid ((hc3.block _ HZ0.out (by simpa using hn0)).trans HB0.out)
    replace HB1 := Lib.hid ((hc3.block _ HZ1.out (by simpa using hn1)).trans HB1.out)
    replace HC := Lib.hid (HC.out.trans hc3)
    replace HR := Lib.hid hr3
    replace HZ0 := Lib.hid (Nat.lt_of_lt_of_le HZ0.out hc3.size)
    replace HZ1 := Lib.hid (Nat.lt_of_lt_of_le HZ1.out hc3.size)
    clear hr3 hc3
    have h0 := HB0.out
    have h1 := HB1.out
    obtain ⟨c0, c1, c2, c3, c4, c5, c6, c7, c8⟩ := b9c h1
    obtain ⟨d0, d1, d2, d3, d4, d5, d6, d7, d8⟩ := b9c h0
    obtain ⟨f0, f1, f2, f3, f4, f5, f6, f7, f8⟩ := b9f h0
    have g0 := frozen_of_heap h1 6
    clear h0 h1
    go_wp2
    refine bp_gen (fun W => W.heap[w.heap.size]? = some (.cells #[.int .i64 v0, .int .i64 v1, .int .i64 v2, .bool v3, .bool v4, .bool v5, .int .i64 z, .int .i64 v7, .int .i64 v8] 23) ∧ Rd B rb A l c (m + 22) W ∧ Chg [rb] w W) ⟨put9h ((Below.heap_setCell w3 ⟨w1.heap.size, 6, none⟩ (.int .i64 z) _ hn01).trans HB0.out) (.int .i64 v0) (.int .i64 v1) (.int .i64 v2) (.bool v3) (.bool v4) (.bool v5) (.int .i64 z) (.int .i64 v7) (.int .i64 v8), put9r ((HR.out.setCell (p := ⟨w1.heap.size, 6, none⟩) hB1 hn1 (.int .i64 z)).mono (by omega)) hB0 hn0 (.int .i64 v0) (.int .i64 v1) (.int .i64 v2) (.bool v3) (.bool v4) (.bool v5) (.int .i64 z) (.int .i64 v7) (.int .i64 v8), put9c (HC.out.setCell (p := ⟨w1.heap.size, 6, none⟩) (.inr hw1) (.int .i64 z)) (.inr (Nat.le_refl _)) (.int .i64 v0) (.int .i64 v1) (.int .i64 v2) (.bool v3) (.bool v4) (.bool v5) (.int .i64 z) (.int .i64 v7) (.int .i64 v8)⟩ ?_
    clear HB0 HB1 HC HR c0 c1 c2 c3 c4 c5 c6 c7 c8 d0 d1 d2 d3 d4 d5 d6 d7 d8 f0 f1 f2 f3 f4 f5 f6 f7 f8
    rintro W ⟨h0, hR, hC⟩
    obtain ⟨d0, d1, d2, d3, d4, d5, d6, d7, d8⟩ := b9c h0
    exact bodyPost_ret (v := .agg #[.int .i64 v0, .int .i64 v1, .int .i64 v2, .bool v3, .bool v4, .bool v5, .int .i64 z, .int .i64 v7, .int .i64 v8]) (by simp only [results, Tryd.results29]; go_simp) rfl ⟨⟨_, _, _, _, _, _, _, _, _, rfl⟩, hR, hC⟩
  have e0 : (q == 0) = false := by simpa using q0
  have e1 : (q == 1) = false := by simpa using q1
  have e2 : (q == 2) = false := by simpa using q2
  have e3 : (q == 3) = false := by simpa using q3
  clear q0 q1 q2 q3
  have h0 := HB0.out
  have h1 := HB1.out
  obtain ⟨c0, c1, c2, c3, c4, c5, c6, c7, c8⟩ := b9c h1
  obtain ⟨d0, d1, d2, d3, d4, d5, d6, d7, d8⟩ := b9c h0
  obtain ⟨f0, f1, f2, f3, f4, f5, f6, f7, f8⟩ := b9f h0
  clear h0 h1
  go_wp2
  refine bp_gen (fun W => W.heap[w.heap.size]? = some (.cells #[.int .i64 v0, .int .i64 v1, .int .i64 v2, .bool v3, .bool v4, .bool v5, .int .i64 v6, .int .i64 v7, .int .i64 v8] 23) ∧ Rd B rb A l c (m + 22) W ∧ Chg [rb] w W) ⟨put9h HB0.out (.int .i64 v0) (.int .i64 v1) (.int .i64 v2) (.bool v3) (.bool v4) (.bool v5) (.int .i64 v6) (.int .i64 v7) (.int .i64 v8), put9r (HR.out.mono (by omega)) hB0 hn0 (.int .i64 v0) (.int .i64 v1) (.int .i64 v2) (.bool v3) (.bool v4) (.bool v5) (.int .i64 v6) (.int .i64 v7) (.int .i64 v8), put9c HC.out (.inr (Nat.le_refl _)) (.int .i64 v0) (.int .i64 v1) (.int .i64 v2) (.bool v3) (.bool v4) (.bool v5) (.int .i64 v6) (.int .i64 v7) (.int .i64 v8)⟩ ?_
  clear HB0 HB1 HC HR c0 c1 c2 c3 c4 c5 c6 c7 c8 d0 d1 d2 d3 d4 d5 d6 d7 d8 f0 f1 f2 f3 f4 f5 f6 f7 f8
  rintro W ⟨h0, hR, hC⟩
  obtain ⟨d0, d1, d2, d3, d4, d5, d6, d7, d8⟩ := b9c h0
  exact bodyPost_ret (v := .agg #[.int .i64 v0, .int .i64 v1, .int .i64 v2, .bool v3, .bool v4, .bool v5, .int .i64 v6, .int .i64 v7, .int .i64 v8]) (by simp only [results, Tryd.results29]; go_simp) rfl ⟨⟨_, _, _, _, _, _, _, _, _, rfl⟩, hR, hC⟩
end Go.Proofs.YtjfdmdmlgdgchaaDoor
end
section
namespace Go.Proofs.YtjfdmdmlgdgchaaDoor
open Go.RowKit
set_option linter.unusedVariables false
set_option maxHeartbeats 1000000
def isIn (lo hi : Int) : Value → Bool | .int .i64 z => decide (lo ≤ z ∧ z ≤ hi) | _ => false
theorem isIn_ex {lo hi : Int} {v : Value} (h : isIn lo hi v = true) : ∃ z, v = .int .i64 z ∧ lo ≤ z ∧ z ≤ hi := by
  unfold isIn at h
  split at h
  · exact ⟨_, rfl, by simpa using h⟩
  · cases h
/-- one of a literal's numbers, with their bounds -/
theorem one_lit_in (lo hi : Int) {B rb : Nat} {A : Option Addr} {l c m k : Nat} {cs : Array Value} {T : TypeId} (w : World) (h : Rd B rb A l c m w) (hm : m ≤ 1000000) (hk : cs.size = k) (h1 : 1 ≤ k) (h2 : k ≤ 100) (ha : cs.toList.all (isIn lo hi) = true) :
    Calls Tryd.prog 55 #[.pointer (some ⟨rb, 0, none⟩), .slice (some ⟨w.heap.size, 0, none⟩) k k] (w.alloc (.cells cs T)) fun e w' => (∃ z, e = .returned (.int .i64 z) ∧ lo ≤ z ∧ z ≤ hi) ∧ Rd B rb A l c (m + 1) w' ∧ Chg [rb] w w' := by
  have hlt := h.lt
  have hg4 : ∀ j, j < k → ∃ z, (w.alloc (.cells cs T)).cell? ⟨w.heap.size, j, none⟩ = some (.int .i64 z) ∧ lo ≤ z ∧ z ≤ hi := fun j hj => by
    have hc : cs[j]? = some cs[j] := by simp [hk, hj]
    obtain ⟨z, hz, hb⟩ := isIn_ex (List.all_eq_true.1 ha cs[j] (by simp))
    refine ⟨z, ?_, hb⟩
    rw [← hz, ← hc]
    exact cell_of_heap (heap_alloc_new w (.cells cs T)) j
  go_enter Tryd.func55, Tryd.ntmps55
  go_wp2_with fail
  refine (pick_any _ _ (h.alloc _) hm).mono ?_
  rintro e w1 ⟨⟨v, rfl, hv⟩, hr, hc⟩
  obtain ⟨v0, v1⟩ := hv (by omega)
  obtain ⟨j, rfl⟩ := Int.eq_ofNat_of_zero_le v0
  obtain ⟨z, hz, hb⟩ := hg4 j (by omega)
  have hz' := (hc.cell (p := ⟨w.heap.size, j, none⟩) (by simp) (by simp; omega)).trans hz
  have hjk : j < k := by omega
  have Hr := Lib.hid hr
  have Hc := Lib.hid (((Chg.refl [rb] w).alloc (.cells cs T)).trans hc)
  clear hr hc hv hz hg4 h
  go_wp2
  go_ret
  exact ⟨⟨_, rfl, hb⟩, Hr.out, Hc.out⟩
end Go.Proofs.YtjfdmdmlgdgchaaDoor
end
section
namespace Go.Proofs.YtjfdmdmlgdgchaaDoor
open Go.RowKit
set_option linter.unusedVariables false
set_option maxHeartbeats 1000000
def pvals : List Pk → List Value
  | [] => []
  | p :: t => [.int .i64 p.w, .int .i64 p.h, .int .i64 p.s, .bool p.fx, .bool p.fy, .bool p.ex, .int .i64 p.an, .int .i64 p.px, .int .i64 p.py] ++ pvals t
theorem pvals_append (A B : List Pk) : pvals (A ++ B) = pvals A ++ pvals B := by
  induction A with
  | nil => rfl
  | cons r t ih => simp [pvals, ih]
theorem own_chg {w w' : World} {base rb : Nat} {e : TypeId} {size : Nat} {v : Value} {n : Nat} {xs : List Value} (h : w.ownsRow base e size v n xs) (hc : Chg [rb] w w') (hr : rb < base) : w'.ownsRow base e size v n xs :=
  h.kept (row := some rb) ⟨hc.os, hc.tape, hc.output, hc.size, fun k hk hne => hc.block k hk (by simp; exact fun e => hne (by rw [e]))⟩ (by
    cases hv : v.ownBlock with
    | none => exact .inl rfl
    | some g => exact .inr (fun e => by have := h.lt g hv; cases e; omega))
theorem pack_info : ∃ (i : TypeInfo) (z : Value), Tryd.prog.info? 23 = some i ∧ i.zero = some z ∧ i.size = 9 ∧ i.bytes = 56 ∧ z.cells.size = 9 := by
  have hinfo : (Tryd.prog.info? 23).map (fun i => (i.zero, i.size, i.bytes)) = some (some (.agg #[.int .i64 0, .int .i64 0, .int .i64 0, .bool false, .bool false, .bool false, .int .i64 0, .int .i64 0, .int .i64 0]), 9, 56) := by kernel_rfl
  obtain ⟨i, hi, h1, h2, h3⟩ := info_parts hinfo
  exact ⟨i, _, hi, h1, h2, h3, rfl⟩
def vals9 (p : Pk) : List Value := [.int .i64 p.w, .int .i64 p.h, .int .i64 p.s, .bool p.fx, .bool p.fy, .bool p.ex, .int .i64 p.an, .int .i64 p.px, .int .i64 p.py]
theorem pvals_snoc (L : List Pk) (p : Pk) : pvals L ++ vals9 p = pvals (L ++ [p]) := by rw [pvals_append]; simp [pvals, vals9]
theorem new9 (W : World) (p : Pk) (T : TypeId) : ∀ (j : Nat) (u : Value), (vals9 p)[j]? = some u → (W.alloc (.cells #[.int .i64 p.w, .int .i64 p.h, .int .i64 p.s, .bool p.fx, .bool p.fy, .bool p.ex, .int .i64 p.an, .int .i64 p.px, .int .i64 p.py] T)).cell? ((⟨W.heap.size, 0, none⟩ : Addr).add j) = some u := fun j u h => by
  have hadd : (⟨W.heap.size, 0, none⟩ : Addr).add j = ⟨W.heap.size, j, none⟩ := by unfold Addr.add; split <;> simp_all
  rw [hadd]
  exact (cell_of_heap (heap_alloc_new W _) j).trans (by simpa [vals9] using h)
theorem vals9_one (p : Pk) : ∀ u ∈ vals9 p, u.oneCell' = true := by intro u hu; simp [vals9] at hu; rcases hu with rfl | rfl | rfl | rfl | rfl | rfl | rfl | rfl | rfl <;> rfl
theorem chg_grown {S : List Nat} {a W w5 : World} {v : Value} {o : Obj} {lo hi : Nat} (h : Chg S a W) (hg : (W.alloc o).grownBy w5 v.ownBlock) (hob : ∀ k, v.ownBlock = some k → lo ≤ k ∧ k < hi) (hlo : a.heap.size ≤ lo) : Chg S a w5 :=
  ⟨hg.os.trans (h.alloc o).os, hg.tape.trans (h.alloc o).tape, hg.output.trans (h.alloc o).output, Nat.le_trans (h.alloc o).size hg.size, fun k hk hs => (hg.block k (Nat.lt_of_lt_of_le hk (h.alloc o).size) (fun e => by have := hob k e.symm; omega)).trans ((h.alloc o).block k hk hs)⟩
theorem rd_grown {B rb : Nat} {A : Option Addr} {n c m : Nat} {W w5 : World} {v : Value} {o : Obj} {lo hi : Nat} (h : Rd B rb A n c m W) (hg : (W.alloc o).grownBy w5 v.ownBlock) (hob : ∀ k, v.ownBlock = some k → lo ≤ k ∧ k < hi) (hlo : rb < lo) : Rd B rb A n c m w5 := by
  have hb := h.base
  cases hv : v.ownBlock with
  | none =>
    rw [hv] at hg
    exact h.keep (S := []) ⟨hg.os, hg.tape, hg.output, Nat.le_trans (by simp) hg.size, fun k hk _ => (hg.block k (by simp; omega) (fun e => by cases e)).trans (Below.heap_alloc _ _ _ hk)⟩ (by simp)
  | some g =>
    have := hob g hv
    rw [hv] at hg
    exact h.keep (S := [g]) (Chg.of_grown ((Chg.refl [g] W).alloc o) hg (.inl (by simp))) (by simp; omega)
end Go.Proofs.YtjfdmdmlgdgchaaDoor
end
