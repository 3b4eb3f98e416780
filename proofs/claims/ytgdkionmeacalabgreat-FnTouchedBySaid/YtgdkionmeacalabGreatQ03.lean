import Derived.Test.YtgdkionmeacalabGreatQ02
import Derived.LoopTactic
import Derived.OwnWalk
import Derived.Lib.SmallJoins
section
namespace Go.Proofs.YtgdkionmeacalabGreat
open Go.RowKit
set_option linter.unusedVariables false
set_option maxHeartbeats 2000000
theorem Bts.alloc' {w : World} {A : Option Addr} {n : Nat} (h : Bts w A n) (o : Obj) : Bts (w.alloc o) A n := h.alloc o
theorem put9h {w : World} {b : Nat} {a0 a1 a2 a3 a4 a5 a6 a7 a8 : Value} {T : TypeId} {fz : Nat × Nat} (h : w.heap[b]? = some (.cells #[a0, a1, a2, a3, a4, a5, a6, a7, a8] T fz)) (x0 x1 x2 x3 x4 x5 x6 x7 x8 : Value) :
    (((((((((w.setCell ⟨b, 0, none⟩ x0).setCell ⟨b, 1, none⟩ x1).setCell ⟨b, 2, none⟩ x2).setCell ⟨b, 3, none⟩ x3).setCell ⟨b, 4, none⟩ x4).setCell ⟨b, 5, none⟩ x5).setCell ⟨b, 6, none⟩ x6).setCell ⟨b, 7, none⟩ x7).setCell ⟨b, 8, none⟩ x8).heap[b]? = some (.cells #[x0, x1, x2, x3, x4, x5, x6, x7, x8] T fz) := by
  replace h := put1h (i := 0) h x0
  simp only [List.setIfInBounds_toArray, List.set_cons_zero] at h
  replace h := put1h (i := 1) h x1
  simp only [List.setIfInBounds_toArray, List.set_cons_succ, List.set_cons_zero] at h
  replace h := put1h (i := 2) h x2
  simp only [List.setIfInBounds_toArray, List.set_cons_succ, List.set_cons_zero] at h
  replace h := put1h (i := 3) h x3
  simp only [List.setIfInBounds_toArray, List.set_cons_succ, List.set_cons_zero] at h
  replace h := put1h (i := 4) h x4
  simp only [List.setIfInBounds_toArray, List.set_cons_succ, List.set_cons_zero] at h
  replace h := put1h (i := 5) h x5
  simp only [List.setIfInBounds_toArray, List.set_cons_succ, List.set_cons_zero] at h
  replace h := put1h (i := 6) h x6
  simp only [List.setIfInBounds_toArray, List.set_cons_succ, List.set_cons_zero] at h
  replace h := put1h (i := 7) h x7
  simp only [List.setIfInBounds_toArray, List.set_cons_succ, List.set_cons_zero] at h
  replace h := put1h (i := 8) h x8
  simp only [List.setIfInBounds_toArray, List.set_cons_succ, List.set_cons_zero] at h
  exact h
theorem put9c {S : List Nat} {a w : World} {b : Nat} (h : Chg S a w) (hb : b ∈ S ∨ a.heap.size ≤ b) (x0 x1 x2 x3 x4 x5 x6 x7 x8 : Value) : Chg S a (((((((((w.setCell ⟨b, 0, none⟩ x0).setCell ⟨b, 1, none⟩ x1).setCell ⟨b, 2, none⟩ x2).setCell ⟨b, 3, none⟩ x3).setCell ⟨b, 4, none⟩ x4).setCell ⟨b, 5, none⟩ x5).setCell ⟨b, 6, none⟩ x6).setCell ⟨b, 7, none⟩ x7).setCell ⟨b, 8, none⟩ x8) :=
  ((((((((h.setCell hb _).setCell hb _).setCell hb _).setCell hb _).setCell hb _).setCell hb _).setCell hb _).setCell hb _).setCell hb _
theorem put9r {B rb b : Nat} {A : Option Addr} {n c m : Nat} {w : World} (h : Rd B rb A n c m w) (h1 : B ≤ b) (h2 : b ≠ rb) (x0 x1 x2 x3 x4 x5 x6 x7 x8 : Value) : Rd B rb A n c m (((((((((w.setCell ⟨b, 0, none⟩ x0).setCell ⟨b, 1, none⟩ x1).setCell ⟨b, 2, none⟩ x2).setCell ⟨b, 3, none⟩ x3).setCell ⟨b, 4, none⟩ x4).setCell ⟨b, 5, none⟩ x5).setCell ⟨b, 6, none⟩ x6).setCell ⟨b, 7, none⟩ x7).setCell ⟨b, 8, none⟩ x8) :=
  ((((((((h.setCell h1 h2 _).setCell h1 h2 _).setCell h1 h2 _).setCell h1 h2 _).setCell h1 h2 _).setCell h1 h2 _).setCell h1 h2 _).setCell h1 h2 _).setCell h1 h2 _
theorem b9f {w : World} {b : Nat} {cs : Array Value} {T : TypeId} (h : w.heap[b]? = some (.cells cs T (0, 0))) : w.frozen? ⟨b, 0, none⟩ = false ∧ w.frozen? ⟨b, 1, none⟩ = false ∧ w.frozen? ⟨b, 2, none⟩ = false ∧ w.frozen? ⟨b, 3, none⟩ = false ∧ w.frozen? ⟨b, 4, none⟩ = false ∧ w.frozen? ⟨b, 5, none⟩ = false ∧ w.frozen? ⟨b, 6, none⟩ = false ∧ w.frozen? ⟨b, 7, none⟩ = false ∧ w.frozen? ⟨b, 8, none⟩ = false :=
  ⟨frozen_of_heap h 0, frozen_of_heap h 1, frozen_of_heap h 2, frozen_of_heap h 3, frozen_of_heap h 4, frozen_of_heap h 5, frozen_of_heap h 6, frozen_of_heap h 7, frozen_of_heap h 8⟩
set_option maxRecDepth 100000 in
theorem goodPack_any {B rb : Nat} {A : Option Addr} {l c m : Nat} (w : World) (h : Rd B rb A l c m w) (hm : m ≤ 900000) :
    Calls Tryz.prog 99 #[.pointer (some ⟨rb, 0, none⟩)] w fun e w' => (∃ (w0 h0 s : Int) (fx fy ex : Bool) (an px py : Int), e = .returned (.agg #[.int .i64 w0, .int .i64 h0, .int .i64 s, .bool fx, .bool fy, .bool ex, .int .i64 an, .int .i64 px, .int .i64 py])) ∧ Rd B rb A l c (m + 20) w' ∧ Chg [rb] w w' := by
  have hlt := h.lt
  have hbase := h.base
  go_enter Tryz.func99, Tryz.ntmps99
  go_wp2_with fail
  with_reducible refine (pick_any _ _ (h.alloc _) (by omega)).mono ?_
  rintro e w1 ⟨⟨z1, rfl, -⟩, hr1, hc1⟩
  go_wp2_with fail
  with_reducible refine (one_lit _ hr1 (by omega) (by simp) (by omega) (by omega) (by simp [isI])).mono ?_
  rintro e w2 ⟨⟨z2, rfl⟩, hr2, hc2⟩
  go_wp2_with fail
  with_reducible refine (pick_any _ _ hr2 (by omega)).mono ?_
  rintro e w3 ⟨⟨z3, rfl, -⟩, hr3, hc3⟩
  go_wp2_with fail
  with_reducible refine (one_lit _ hr3 (by omega) (by simp) (by omega) (by omega) (by simp [isI])).mono ?_
  rintro e w4 ⟨⟨z4, rfl⟩, hr4, hc4⟩
  go_wp2_with fail
  with_reducible refine (pick_any _ _ hr4 (by omega)).mono ?_
  rintro e w5 ⟨⟨z5, rfl, -⟩, hr5, hc5⟩
  go_wp2_with fail
  with_reducible refine (pick_any _ _ hr5 (by omega)).mono ?_
  rintro e w6 ⟨⟨z6, rfl, -⟩, hr6, hc6⟩
  go_wp2_with fail
  with_reducible refine (one_lit _ hr6 (by omega) (by simp) (by omega) (by omega) (by simp [isI])).mono ?_
  rintro e w7 ⟨⟨z7, rfl⟩, hr7, hc7⟩
  have hc : Chg [rb] (w.alloc _) w7 := ((((((hc1).trans hc2).trans hc3).trans hc4).trans hc5).trans hc6).trans hc7
  clear hc1 hc2 hc3 hc4 hc5 hc6 hc7 hr1 hr2 hr3 hr4 hr5 hr6
  have hb0 := (hc.block w.heap.size (by simp) (by simp; omega)).trans (heap_alloc_new w _)
  have hs := hc.size
  simp only [World.size_alloc] at hs
  have HC := Lib.hid (((Chg.refl [rb] w).alloc _).trans hc)
  have hl7 := hr7.lt
  have hx0 := Nat.lt_of_succ_le hs
  have hn0 : w.heap.size ≠ rb := by omega
  have hB0 : B ≤ w.heap.size := by omega
  have hn1 : w7.heap.size ≠ rb := by omega
  have hB1 : B ≤ w7.heap.size := by omega
  have hn01 : w.heap.size ≠ w7.heap.size := by omega
  have hn10 : ¬ w7.heap.size = w.heap.size := by omega
  have hw1 : w.heap.size ≤ w7.heap.size := by omega
  clear hc hlt hbase hs hl7
  have hb1 := heap_alloc_new w7 (.cells #[.int .i64 z2, .int .i64 z4, .int .i64 z5, .bool false, .bool false, .bool false, .int .i64 z7, .int .i64 0, .int .i64 0] 32)
  replace hb0 := (Below.heap_alloc w7 (.cells #[.int .i64 z2, .int .i64 z4, .int .i64 z5, .bool false, .bool false, .bool false, .int .i64 z7, .int .i64 0, .int .i64 0] 32) w.heap.size hx0).trans hb0
  have HB0 := Lib.hid hb0
  have HB1 := Lib.hid hb1
  replace HC := Lib.hid (HC.out.alloc (.cells #[.int .i64 z2, .int .i64 z4, .int .i64 z5, .bool false, .bool false, .bool false, .int .i64 z7, .int .i64 0, .int .i64 0] 32))
  have HR := Lib.hid (hr7.alloc (.cells #[.int .i64 z2, .int .i64 z4, .int .i64 z5, .bool false, .bool false, .bool false, .int .i64 z7, .int .i64 0, .int .i64 0] 32))
  clear hb0 hb1 hr7
  have hz0 : w.heap.size < (w7.alloc (.cells #[.int .i64 z2, .int .i64 z4, .int .i64 z5, .bool false, .bool false, .bool false, .int .i64 z7, .int .i64 0, .int .i64 0] 32)).heap.size := by simp; omega
  have hz1 : w7.heap.size < (w7.alloc (.cells #[.int .i64 z2, .int .i64 z4, .int .i64 z5, .bool false, .bool false, .bool false, .int .i64 z7, .int .i64 0, .int .i64 0] 32)).heap.size := by simp
  have HZ0 := Lib.hid hz0
  have HZ1 := Lib.hid hz1
  clear hz0 hz1
  go_wp2_with fail
  with_reducible refine (pick_any _ _ HR.out (by omega)).mono ?_
  rintro e w8 ⟨⟨z8, rfl, -⟩, hr8, hc8⟩
  have h0 := (hc8.block _ HZ0.out (by simpa using hn0)).trans HB0.out
  have h1 := (hc8.block _ HZ1.out (by simpa using hn1)).trans HB1.out
  have c3 := cellH h1 3
  have f3 := frozen_of_heap h1 3
  simp at c3
  replace HB0 := Lib.hid ((Below.heap_setCell w8 ⟨w7.heap.size, 3, none⟩ (.bool (z8 == 0)) _ hn01).trans h0)
  have hp1 := put1h (i := 3) h1 (.bool (z8 == 0))
  simp only [List.setIfInBounds_toArray, List.set_cons_succ, List.set_cons_zero] at hp1
  replace HB1 := Lib.hid hp1
  replace HC := Lib.hid ((HC.out.trans hc8).setCell (p := ⟨w7.heap.size, 3, none⟩) (.inr hw1) (.bool (z8 == 0)))
  replace HR := Lib.hid (hr8.setCell (p := ⟨w7.heap.size, 3, none⟩) hB1 hn1 (.bool (z8 == 0)))
  replace HZ0 := Lib.hid (show w.heap.size < (w8.setCell ⟨w7.heap.size, 3, none⟩ (.bool (z8 == 0))).heap.size from by simpa [World.setCell] using Nat.lt_of_lt_of_le HZ0.out hc8.size)
  replace HZ1 := Lib.hid (show w7.heap.size < (w8.setCell ⟨w7.heap.size, 3, none⟩ (.bool (z8 == 0))).heap.size from by simpa [World.setCell] using Nat.lt_of_lt_of_le HZ1.out hc8.size)
  clear h0 h1 hr8 hc8 hp1
  go_wp2_with fail
  with_reducible refine (pick_any _ _ HR.out (by omega)).mono ?_
  rintro e w9 ⟨⟨z9, rfl, -⟩, hr9, hc9⟩
  clear c3 f3
  have h0 := (hc9.block _ HZ0.out (by simpa using hn0)).trans HB0.out
  have h1 := (hc9.block _ HZ1.out (by simpa using hn1)).trans HB1.out
  have c4 := cellH h1 4
  have f4 := frozen_of_heap h1 4
  simp at c4
  replace HB0 := Lib.hid ((Below.heap_setCell w9 ⟨w7.heap.size, 4, none⟩ (.bool (z9 == 0)) _ hn01).trans h0)
  have hp1 := put1h (i := 4) h1 (.bool (z9 == 0))
  simp only [List.setIfInBounds_toArray, List.set_cons_succ, List.set_cons_zero] at hp1
  replace HB1 := Lib.hid hp1
  replace HC := Lib.hid ((HC.out.trans hc9).setCell (p := ⟨w7.heap.size, 4, none⟩) (.inr hw1) (.bool (z9 == 0)))
  replace HR := Lib.hid (hr9.setCell (p := ⟨w7.heap.size, 4, none⟩) hB1 hn1 (.bool (z9 == 0)))
  replace HZ0 := Lib.hid (show w.heap.size < (w9.setCell ⟨w7.heap.size, 4, none⟩ (.bool (z9 == 0))).heap.size from by simpa [World.setCell] using Nat.lt_of_lt_of_le HZ0.out hc9.size)
  replace HZ1 := Lib.hid (show w7.heap.size < (w9.setCell ⟨w7.heap.size, 4, none⟩ (.bool (z9 == 0))).heap.size from by simpa [World.setCell] using Nat.lt_of_lt_of_le HZ1.out hc9.size)
  clear h0 h1 hr9 hc9 hp1
  go_wp2_with fail
  with_reducible refine (pick_any _ _ HR.out (by omega)).mono ?_
  rintro e w10 ⟨⟨z10, rfl, -⟩, hr10, hc10⟩
  clear c4 f4
  have h0 := (hc10.block _ HZ0.out (by simpa using hn0)).trans HB0.out
  have h1 := (hc10.block _ HZ1.out (by simpa using hn1)).trans HB1.out
  have c5 := cellH h1 5
  have f5 := frozen_of_heap h1 5
  simp at c5
  replace HB0 := Lib.hid ((Below.heap_setCell w10 ⟨w7.heap.size, 5, none⟩ (.bool (z10 == 0)) _ hn01).trans h0)
  have hp1 := put1h (i := 5) h1 (.bool (z10 == 0))
  simp only [List.setIfInBounds_toArray, List.set_cons_succ, List.set_cons_zero] at hp1
  replace HB1 := Lib.hid hp1
  replace HC := Lib.hid ((HC.out.trans hc10).setCell (p := ⟨w7.heap.size, 5, none⟩) (.inr hw1) (.bool (z10 == 0)))
  replace HR := Lib.hid (hr10.setCell (p := ⟨w7.heap.size, 5, none⟩) hB1 hn1 (.bool (z10 == 0)))
  replace HZ0 := Lib.hid (show w.heap.size < (w10.setCell ⟨w7.heap.size, 5, none⟩ (.bool (z10 == 0))).heap.size from by simpa [World.setCell] using Nat.lt_of_lt_of_le HZ0.out hc10.size)
  replace HZ1 := Lib.hid (show w7.heap.size < (w10.setCell ⟨w7.heap.size, 5, none⟩ (.bool (z10 == 0))).heap.size from by simpa [World.setCell] using Nat.lt_of_lt_of_le HZ1.out hc10.size)
  clear h0 h1 hr10 hc10 hp1
  go_wp2_with fail
  with_reducible refine (pick_any _ _ HR.out (by omega)).mono ?_
  rintro e w11 ⟨⟨q, rfl, -⟩, hr11, hc11⟩
  clear c5 f5
  replace HB0 := Lib.hid ((hc11.block _ HZ0.out (by simpa using hn0)).trans HB0.out)
  replace HB1 := Lib.hid ((hc11.block _ HZ1.out (by simpa using hn1)).trans HB1.out)
  replace HC := Lib.hid (HC.out.trans hc11)
  replace HR := Lib.hid hr11
  replace HZ0 := Lib.hid (Nat.lt_of_lt_of_le HZ0.out hc11.size)
  replace HZ1 := Lib.hid (Nat.lt_of_lt_of_le HZ1.out hc11.size)
  clear hr11 hc11
  by_cases hq : q = 0
  · subst hq
    go_wp2_with fail
    with_reducible refine (pick_any _ _ HR.out (by omega)).mono ?_
    rintro e w12 ⟨⟨z12, rfl, -⟩, hr12, hc12⟩
    have h0 := (hc12.block _ HZ0.out (by simpa using hn0)).trans HB0.out
    have h1 := (hc12.block _ HZ1.out (by simpa using hn1)).trans HB1.out
    have c7 := cellH h1 7
    have f7 := frozen_of_heap h1 7
    simp at c7
    replace HB0 := Lib.hid ((Below.heap_setCell w12 ⟨w7.heap.size, 7, none⟩ (.int .i64 z12) _ hn01).trans h0)
    have hp1 := put1h (i := 7) h1 (.int .i64 z12)
    simp only [List.setIfInBounds_toArray, List.set_cons_succ, List.set_cons_zero] at hp1
    replace HB1 := Lib.hid hp1
    replace HC := Lib.hid ((HC.out.trans hc12).setCell (p := ⟨w7.heap.size, 7, none⟩) (.inr hw1) (.int .i64 z12))
    replace HR := Lib.hid (hr12.setCell (p := ⟨w7.heap.size, 7, none⟩) hB1 hn1 (.int .i64 z12))
    replace HZ0 := Lib.hid (show w.heap.size < (w12.setCell ⟨w7.heap.size, 7, none⟩ (.int .i64 z12)).heap.size from by simpa [World.setCell] using Nat.lt_of_lt_of_le HZ0.out hc12.size)
    replace HZ1 := Lib.hid (show w7.heap.size < (w12.setCell ⟨w7.heap.size, 7, none⟩ (.int .i64 z12)).heap.size from by simpa [World.setCell] using Nat.lt_of_lt_of_le HZ1.out hc12.size)
    clear h0 h1 hr12 hc12 hp1
    go_wp2_with fail
    with_reducible refine (pick_any _ _ HR.out (by omega)).mono ?_
    rintro e w13 ⟨⟨z13, rfl, -⟩, hr13, hc13⟩
    clear c7 f7
    have h0 := (hc13.block _ HZ0.out (by simpa using hn0)).trans HB0.out
    have h1 := (hc13.block _ HZ1.out (by simpa using hn1)).trans HB1.out
    have c8 := cellH h1 8
    have f8 := frozen_of_heap h1 8
    simp at c8
    replace HB0 := Lib.hid ((Below.heap_setCell w13 ⟨w7.heap.size, 8, none⟩ (.int .i64 z13) _ hn01).trans h0)
    have hp1 := put1h (i := 8) h1 (.int .i64 z13)
    simp only [List.setIfInBounds_toArray, List.set_cons_succ, List.set_cons_zero] at hp1
    replace HB1 := Lib.hid hp1
    replace HC := Lib.hid ((HC.out.trans hc13).setCell (p := ⟨w7.heap.size, 8, none⟩) (.inr hw1) (.int .i64 z13))
    replace HR := Lib.hid (hr13.setCell (p := ⟨w7.heap.size, 8, none⟩) hB1 hn1 (.int .i64 z13))
    replace HZ0 := Lib.hid (show w.heap.size < (w13.setCell ⟨w7.heap.size, 8, none⟩ (.int .i64 z13)).heap.size from by simpa [World.setCell] using Nat.lt_of_lt_of_le HZ0.out hc13.size)
    replace HZ1 := Lib.hid (show w7.heap.size < (w13.setCell ⟨w7.heap.size, 8, none⟩ (.int .i64 z13)).heap.size from by simpa [World.setCell] using Nat.lt_of_lt_of_le HZ1.out hc13.size)
    clear h0 h1 hr13 hc13 hp1
    have h0 := HB0.out
    have h1 := HB1.out
    obtain ⟨c0, c1, c2, c3, c4, c5, c6, c7, c8⟩ := b9c h1
    obtain ⟨d0, d1, d2, d3, d4, d5, d6, d7, d8⟩ := b9c h0
    obtain ⟨f0, f1, f2, f3, f4, f5, f6, f7, f8⟩ := b9f h0
    clear h0 h1
    go_wp2
    refine bp_gen (fun W => W.heap[w.heap.size]? = some (.cells #[.int .i64 z2, .int .i64 z4, .int .i64 z5, .bool (z8 == 0), .bool (z9 == 0), .bool (z10 == 0), .int .i64 z7, .int .i64 z12, .int .i64 z13] 32) ∧ Rd B rb A l c (m + 20) W ∧ Chg [rb] w W) ⟨put9h HB0.out (.int .i64 z2) (.int .i64 z4) (.int .i64 z5) (.bool (z8 == 0)) (.bool (z9 == 0)) (.bool (z10 == 0)) (.int .i64 z7) (.int .i64 z12) (.int .i64 z13), put9r (HR.out.mono (by omega)) hB0 hn0 (.int .i64 z2) (.int .i64 z4) (.int .i64 z5) (.bool (z8 == 0)) (.bool (z9 == 0)) (.bool (z10 == 0)) (.int .i64 z7) (.int .i64 z12) (.int .i64 z13), put9c HC.out (.inr (Nat.le_refl _)) (.int .i64 z2) (.int .i64 z4) (.int .i64 z5) (.bool (z8 == 0)) (.bool (z9 == 0)) (.bool (z10 == 0)) (.int .i64 z7) (.int .i64 z12) (.int .i64 z13)⟩ ?_
    clear HB0 HB1 HC HR c0 c1 c2 c3 c4 c5 c6 c7 c8 d0 d1 d2 d3 d4 d5 d6 d7 d8 f0 f1 f2 f3 f4 f5 f6 f7 f8
    rintro W ⟨h0, hR, hC⟩
    obtain ⟨d0, d1, d2, d3, d4, d5, d6, d7, d8⟩ := b9c h0
    exact bodyPost_ret (v := .agg #[.int .i64 z2, .int .i64 z4, .int .i64 z5, .bool (z8 == 0), .bool (z9 == 0), .bool (z10 == 0), .int .i64 z7, .int .i64 z12, .int .i64 z13]) (by simp only [results, Tryz.results99]; go_simp) rfl ⟨⟨_, _, _, _, _, _, _, _, _, rfl⟩, hR, hC⟩
  · have hq1 : (q == 0) = false := by simpa using hq
    have h0 := HB0.out
    have h1 := HB1.out
    obtain ⟨c0, c1, c2, c3, c4, c5, c6, c7, c8⟩ := b9c h1
    obtain ⟨d0, d1, d2, d3, d4, d5, d6, d7, d8⟩ := b9c h0
    obtain ⟨f0, f1, f2, f3, f4, f5, f6, f7, f8⟩ := b9f h0
    clear h0 h1
    go_wp2
    refine bp_gen (fun W => W.heap[w.heap.size]? = some (.cells #[.int .i64 z2, .int .i64 z4, .int .i64 z5, .bool (z8 == 0), .bool (z9 == 0), .bool (z10 == 0), .int .i64 z7, .int .i64 0, .int .i64 0] 32) ∧ Rd B rb A l c (m + 20) W ∧ Chg [rb] w W) ⟨put9h HB0.out (.int .i64 z2) (.int .i64 z4) (.int .i64 z5) (.bool (z8 == 0)) (.bool (z9 == 0)) (.bool (z10 == 0)) (.int .i64 z7) (.int .i64 0) (.int .i64 0), put9r (HR.out.mono (by omega)) hB0 hn0 (.int .i64 z2) (.int .i64 z4) (.int .i64 z5) (.bool (z8 == 0)) (.bool (z9 == 0)) (.bool (z10 == 0)) (.int .i64 z7) (.int .i64 0) (.int .i64 0), put9c HC.out (.inr (Nat.le_refl _)) (.int .i64 z2) (.int .i64 z4) (.int .i64 z5) (.bool (z8 == 0)) (.bool (z9 == 0)) (.bool (z10 == 0)) (.int .i64 z7) (.int .i64 0) (.int .i64 0)⟩ ?_
    clear HB0 HB1 HC HR c0 c1 c2 c3 c4 c5 c6 c7 c8 d0 d1 d2 d3 d4 d5 d6 d7 d8 f0 f1 f2 f3 f4 f5 f6 f7 f8
    rintro W ⟨h0, hR, hC⟩
    obtain ⟨d0, d1, d2, d3, d4, d5, d6, d7, d8⟩ := b9c h0
    exact bodyPost_ret (v := .agg #[.int .i64 z2, .int .i64 z4, .int .i64 z5, .bool (z8 == 0), .bool (z9 == 0), .bool (z10 == 0), .int .i64 z7, .int .i64 0, .int .i64 0]) (by simp only [results, Tryz.results99]; go_simp) rfl ⟨⟨_, _, _, _, _, _, _, _, _, rfl⟩, hR, hC⟩
end Go.Proofs.YtgdkionmeacalabGreat
end
section
namespace Go.Proofs.YtgdkionmeacalabGreat
open Go.RowKit
set_option linter.unusedVariables false
set_option maxHeartbeats 1000000
def isIn (lo hi : Int) : Value → Bool | .int .i64 z => decide (lo ≤ z ∧ z ≤ hi) | _ => false
theorem isIn_ex {lo hi : Int} {v : Value} (h : isIn lo hi v = true) : ∃ z, v = .int .i64 z ∧ lo ≤ z ∧ z ≤ hi := by
  unfold isIn at h
  split at h
  · exact ⟨_, rfl, by simpa using h⟩
  · cases h
/-- one of a literal's numbers, with their bounds -/
theorem one_lit_in (lo hi : Int) {B rb : Nat} {A : Option Addr} {l c m k : Nat} {cs : Array Value} {T : TypeId} (w : World) (h : Rd B rb A l c m w) (hm : m ≤ 1000000) (hk : cs.size = k) (h1 : 1 ≤ k) (h2 : k ≤ 100) (ha : cs.toList.all (isIn lo hi) = true) :
    Calls Tryz.prog 43 #[.pointer (some ⟨rb, 0, none⟩), .slice (some ⟨w.heap.size, 0, none⟩) k k] (w.alloc (.cells cs T)) fun e w' => (∃ z, e = .returned (.int .i64 z) ∧ lo ≤ z ∧ z ≤ hi) ∧ Rd B rb A l c (m + 1) w' ∧ Chg [rb] w w' := by
  have hlt := h.lt
  have hg4 : ∀ j, j < k → ∃ z, (w.alloc (.cells cs T)).cell? ⟨w.heap.size, j, none⟩ = some (.int .i64 z) ∧ lo ≤ z ∧ z ≤ hi := fun j hj => by
    have hc : cs[j]? = some cs[j] := by simp [hk, hj]
    obtain ⟨z, hz, hb⟩ := isIn_ex (List.all_eq_true.1 ha cs[j] (by simp))
    refine ⟨z, ?_, hb⟩
    rw [← hz, ← hc]
    exact cell_of_heap (heap_alloc_new w (.cells cs T)) j
  go_enter Tryz.func43, Tryz.ntmps43
  go_wp2_with fail
  refine (pick_any _ _ (h.alloc _) hm).mono ?_
  rintro e w1 ⟨⟨v, rfl, hv⟩, hr, hc⟩
  obtain ⟨v0, v1⟩ := hv (by omega)
  obtain ⟨j, rfl⟩ := Int.eq_ofNat_of_zero_le v0
  obtain ⟨z, hz, hb⟩ := hg4 j (by omega)
  have hz' := (hc.cell (p := ⟨w.heap.size, j, none⟩) (by simp) (by simp; omega)).trans hz
  have hjk : j < k := by omega
  have Hr := Lib.hid hr
  have Hc := Lib.hid (((Chg.refl [rb] w).alloc (.cells cs T)).trans hc)
  clear hr hc hv hz hg4 h
  go_wp2
  go_ret
  exact ⟨⟨_, rfl, hb⟩, Hr.out, Hc.out⟩
end Go.Proofs.YtgdkionmeacalabGreat
end
section
set_option linter.unusedVariables false
namespace Go.Proofs.YtgdkionmeacalabGreat
def hpB (x y u v p q : Int) : Bool := decide (x ≤ p ∧ p < x + u ∧ y ≤ q ∧ q < y + v)
end Go.Proofs.YtgdkionmeacalabGreat
namespace Go.Proofs.YtgdkionmeacalabGreat
def meetB (x y u v x' y' u' v' : Int) : Bool := vr x y u v && vr x' y' u' v' && hitB x y u v x' y' u' v'
def covB (x y u v x' y' u' v' : Int) : Bool := vr (mn x x') (mn y y') (mx (x + u) (x' + u') - mn x x') (mx (y + v) (y' + v') - mn y y')
def coverB (x y u v x' y' u' v' : Int) : Bool := vr x y u v && vr x' y' u' v' && covB x y u v x' y' u' v'
def insB (x y u v x' y' u' v' : Int) : Bool := decide (x ≤ x' ∧ y ≤ y' ∧ x' + u' ≤ x + u ∧ y' + v' ≤ y + v)
end Go.Proofs.YtgdkionmeacalabGreat
end
section
set_option linter.unusedVariables false
namespace Go.Proofs.YtgdkionmeacalabGreat
def mvB (x y u v p q : Int) : Bool := vr x y u v && rng p (-1000) 1000 && rng q (-1000) 1000 && vr (x + p) (y + q) u v
def inB (x y u v p q : Int) : Bool := vr x y u v && rng p 0 10 && rng q 0 10
def anB (x y u v p q k : Int) : Bool := vr x y u v && rng p 0 400 && rng q 0 400 && rng k 0 8
def ctB (x y u v s n : Int) : Bool := vr x y u v && rng s 0 3 && rng n 0 400
end Go.Proofs.YtgdkionmeacalabGreat
namespace Go.Proofs.YtgdkionmeacalabGreat
end Go.Proofs.YtgdkionmeacalabGreat
namespace Go.Proofs.YtgdkionmeacalabGreat
end Go.Proofs.YtgdkionmeacalabGreat
end
section
namespace Go.Proofs.YtgdkionmeacalabGreat
open Go.RowKit
set_option linter.unusedVariables false
set_option maxHeartbeats 1000000
/-- the sum of a list -/
def sumI : List Int → Int
  | [] => 0
  | x :: t => x + sumI t
theorem sumI_append : ∀ (A B : List Int), sumI (A ++ B) = sumI A + sumI B
  | [], B => by simp [sumI]
  | x :: t, B => by simp [sumI, sumI_append t B]; omega
theorem sumI_snoc {L : List Int} {k : Nat} {x : Int} (h : L[k]? = some x) : sumI (L.take (k + 1)) = sumI (L.take k) + x := by
  obtain ⟨hk, e⟩ := List.getElem?_eq_some_iff.1 h
  rw [List.take_succ_eq_append_getElem hk, sumI_append, e]
  simp [sumI]
theorem sumI_bd {lo hi : Int} : ∀ {L : List Int}, (∀ x ∈ L, lo ≤ x ∧ x ≤ hi) → lo * L.length ≤ sumI L ∧ sumI L ≤ hi * L.length
  | [], _ => by simp [sumI]
  | x :: t, h => by
    have h1 := sumI_bd (L := t) (fun q hq => h q (List.mem_cons_of_mem _ hq))
    have h2 := h x List.mem_cons_self
    simp only [sumI, List.length_cons]
    have e1 : lo * ((t.length + 1 : Nat) : Int) = lo * t.length + lo := by rw [Int.natCast_succ, Int.mul_add, Int.mul_one]
    have e2 : hi * ((t.length + 1 : Nat) : Int) = hi * t.length + hi := by rw [Int.natCast_succ, Int.mul_add, Int.mul_one]
    rw [e1, e2]; omega
/-- all numbers are small -/
def Smal (M : Int) (L : List Int) : Prop := ∀ k, -M ≤ sumI (L.take k) ∧ sumI (L.take k) ≤ M
theorem smal_of {b M : Int} {L : List Int} (h : ∀ x ∈ L, -b ≤ x ∧ x ≤ b) (hb : 0 ≤ b) (hl : b * L.length ≤ M) : Smal M L := fun k => by
  have := sumI_bd (L := L.take k) (fun x hx => h x (List.mem_of_mem_take hx))
  have hk : ((L.take k).length : Int) ≤ L.length := by rw [List.length_take]; omega
  have h1 : b * ((L.take k).length : Int) ≤ b * L.length := Int.mul_le_mul_of_nonneg_left hk hb
  have h2 : -b * ((L.take k).length : Int) = -(b * ((L.take k).length : Int)) := by rw [Int.neg_mul]
  rw [h2] at this
  omega
/-- a slice that reads as this list of numbers -/
structure NV (w : World) (A : Option Addr) (L : List Int) : Prop where
  cells : 0 < L.length → ∃ b off, A = some ⟨b, off, none⟩ ∧ b < w.heap.size ∧ ∀ i x, L[i]? = some x → w.cell? ⟨b, off + i, none⟩ = some (.int .i64 x)
theorem NV.keep {w w' : World} {A : Option Addr} {L : List Int} (h : NV w A L) (hb : Below w.heap.size w w') : NV w' A L :=
  ⟨fun h0 => let ⟨b, off, e, hl, hp⟩ := h.cells h0; ⟨b, off, e, Nat.lt_of_lt_of_le hl hb.size, fun i x hx => (hb.cell (p := ⟨b, off + i, none⟩) hl).trans (hp i x hx)⟩⟩
theorem NV.nil (w : World) (A : Option Addr) : NV w A [] := ⟨fun h => absurd h (by simp)⟩
/-- a part of it, from one index up to another -/
theorem NV.sub {w : World} {b off : Nat} {L : List Int} (hb : b < w.heap.size) (h : ∀ i x, L[i]? = some x → w.cell? ⟨b, off + i, none⟩ = some (.int .i64 x)) (i j : Nat) : NV w (some ⟨b, off + i, none⟩) ((L.drop i).take j) :=
  ⟨fun _ => ⟨b, off + i, rfl, hb, fun k x hx => by
    rw [List.getElem?_take] at hx
    split at hx
    · rw [List.getElem?_drop] at hx
      have := h (i + k) x hx
      rwa [← Nat.add_assoc] at this
    · cases hx⟩⟩
def ivals (L : List Int) : Array Value := (L.map (Value.int .i64)).toArray
/-- a block of numbers -/
def IB (w : World) (g : Nat) (L : List Int) : Prop := w.heap[g]? = some (.cells (ivals L) 3 (0, 0))
theorem IB.lt {w : World} {g : Nat} {L : List Int} (h : IB w g L) : g < w.heap.size := (Array.getElem?_eq_some_iff.1 h).1
theorem IB.cell {w : World} {g i : Nat} {L : List Int} {x : Int} (h : IB w g L) (hx : L[i]? = some x) : w.cell? ⟨g, i, none⟩ = some (.int .i64 x) := by
  have h' : w.heap[g]? = some (.cells (ivals L) 3 (0, 0)) := h
  simp [World.cell?, h', ivals, hx]
theorem IB.frozen {w : World} {g : Nat} {L : List Int} (h : IB w g L) (i : Nat) : w.frozen? ⟨g, i, none⟩ = false := by
  have h' : w.heap[g]? = some (.cells (ivals L) 3 (0, 0)) := h
  simp [World.frozen?, h']
theorem IB.keep {w w' : World} {g : Nat} {L : List Int} (h : IB w g L) (hb : Below w.heap.size w w') : IB w' g L := (hb.block g h.lt).trans h
theorem IB.set {w : World} {g : Nat} {L : List Int} (h : IB w g L) (i : Nat) (x : Int) : IB (w.setCell ⟨g, i, none⟩ (.int .i64 x)) g (L.set i x) := by
  have h' : w.heap[g]? = some (.cells (ivals L) 3 (0, 0)) := h
  show _ = _
  simp [World.setCell, Array.getElem?_modify, h', ivals, List.map_set]
theorem IB.nv {w : World} {g : Nat} {L : List Int} (h : IB w g L) : NV w (some ⟨g, 0, none⟩) L :=
  ⟨fun _ => ⟨g, 0, rfl, h.lt, fun i x hx => by rw [Nat.zero_add]; exact h.cell hx⟩⟩
theorem madeI : ∀ (n : Nat) (w : World), n ≤ 1048576 → (Instr.makeSlice 42 (.int .i64 (n : Int)) (.int .i64 (n : Int))).run Tryz.prog w = .ok (.slice (some ⟨w.heap.size, 0, none⟩) n n) (w.alloc (.cells (ivals (List.replicate n 0)) 3)) := by
  intro n w hn
  have hinfo : (Tryz.prog.info? 3).map (fun i => (i.zero, i.size, i.bytes)) = some (some (.int .i64 0), 1, 8) := by kernel_rfl
  obtain ⟨i, hi, h1, h2, h3⟩ := info_parts hinfo
  have hr := run_make (P := Tryz.prog) w 42 3 i _ Tryz.underlying42 hi h1 .i64 .i64 n n (by omega) (Int.le_refl _) (by rw [h3]; omega) (by omega)
  rw [h2] at hr
  have e : madeCells (Value.int .i64 0).cells (n * 1) = ivals (List.replicate n 0) := by
    apply Array.ext
    · rw [size_madeCells]; simp [ivals]
    · intro i h1 h2
      simp [madeCells, ivals, Value.cells, Nat.mod_one]
  rw [Int.toNat_natCast, e] at hr
  simpa using hr
theorem makeI_b (n : Nat) (w : World) : IB (w.alloc (.cells (ivals (List.replicate n 0)) 3)) w.heap.size (List.replicate n 0) := by
  show (w.heap.push _)[w.heap.size]? = _
  simp
set_option maxRecDepth 100000 in
theorem sum_v (A : Option Addr) (c : Nat) (L : List Int) (w : World) (h : NV w A L) (hL : L.length ≤ 1048576) (hM : Smal 1000000000000000 L) :
    Calls Tryz.prog 164 #[.slice A L.length c] w fun e w' => e = .returned (.int .i64 (sumI L)) ∧ w = w' := by
  have HM := Lib.hid hM
  clear hM
  go_enter Tryz.func164, Tryz.ntmps164
  go_wp2_with fail
  go_loop [3, 8] (fun s i => ∃ k : Nat, k ≤ L.length ∧ i = .int .i64 k ∧ s = .int .i64 (sumI (L.take k))) (fun _ i => L.length - (intOf i).toNat)
  case atStart => exact ⟨0, by omega, rfl, rfl⟩
  case round =>
    obtain ⟨k, hk, rfl, rfl⟩ := hrel
    by_cases hlt : k < L.length
    · have hd : decide ((k : Int) < (L.length : Int)) = true := by simpa using hlt
      obtain ⟨b, off, rfl, hb, hp⟩ := h.cells (by omega)
      have hget : L[k]? = some L[k] := List.getElem?_eq_getElem hlt
      have c0 := hp k _ hget
      generalize hx : L[k] = x at *
      have hs := sumI_snoc hget
      have b1 := HM.out k
      have b2 := HM.out (k + 1)
      rw [hs] at b2
      obtain ⟨S, hS⟩ : ∃ S, sumI (L.take k) = S := ⟨_, rfl⟩
      rw [hS] at b1 b2 hs
      rw [hS]
      have HS := Lib.hid hs
      clear hs hS hget hx hp
      go_wp2
      go_round
      case rel => exact ⟨k + 1, by omega, by go_num, by rw [HS.out]⟩
      case measure => simp [intOf]; omega
    · have hd : decide ((k : Int) < (L.length : Int)) = false := by simp; omega
      have he : L.take k = L := List.take_of_length_le (by omega)
      rw [he]
      clear he
      go_wp2
      go_ret
      exact ⟨rfl, rfl⟩
set_option maxRecDepth 100000 in
theorem total_v (A : Option Addr) (c : Nat) (L : List Int) (w : World) (h : NV w A L) (hL : L.length ≤ 1048576) (hM : Smal 1000000000000000 L) :
    Calls Tryz.prog 77 #[.slice A L.length c] w fun e w' => e = .returned (.int .i64 (sumI L)) ∧ w = w' := by
  have HM := Lib.hid hM
  clear hM
  go_enter Tryz.func77, Tryz.ntmps77
  go_wp2_with fail
  go_loop [3, 4] (fun s i => ∃ k : Nat, k ≤ L.length ∧ i = .int .i64 k ∧ s = .int .i64 (sumI (L.take k))) (fun _ i => L.length - (intOf i).toNat)
  case atStart => exact ⟨0, by omega, rfl, rfl⟩
  case round =>
    obtain ⟨k, hk, rfl, rfl⟩ := hrel
    by_cases hlt : k < L.length
    · have hd : decide ((k : Int) < (L.length : Int)) = true := by simpa using hlt
      obtain ⟨b, off, rfl, hb, hp⟩ := h.cells (by omega)
      have hget : L[k]? = some L[k] := List.getElem?_eq_getElem hlt
      have c0 := hp k _ hget
      generalize hx : L[k] = x at *
      have hs := sumI_snoc hget
      have b1 := HM.out k
      have b2 := HM.out (k + 1)
      rw [hs] at b2
      obtain ⟨S, hS⟩ : ∃ S, sumI (L.take k) = S := ⟨_, rfl⟩
      rw [hS] at b1 b2 hs
      rw [hS]
      have HS := Lib.hid hs
      clear hs hS hget hx hp
      go_wp2
      go_round
      case rel => exact ⟨k + 1, by omega, by go_num, by rw [HS.out]⟩
      case measure => simp [intOf]; omega
    · have hd : decide ((k : Int) < (L.length : Int)) = false := by simp; omega
      have he : L.take k = L := List.take_of_length_le (by omega)
      rw [he]
      clear he
      go_wp2
      go_ret
      exact ⟨rfl, rfl⟩
end Go.Proofs.YtgdkionmeacalabGreat
end
section
namespace Go.Proofs.YtgdkionmeacalabGreat
open Go.RowKit
set_option linter.unusedVariables false
set_option maxHeartbeats 1000000
def nvals (L : List Int) : List Value := L.map (Value.int .i64)
theorem own_chgN {w w' : World} {base rb : Nat} {e : TypeId} {size : Nat} {v : Value} {n : Nat} {xs : List Value} (h : w.ownsRow base e size v n xs) (hc : Chg [rb] w w') (hr : rb < base) : w'.ownsRow base e size v n xs :=
  h.kept (row := some rb) ⟨hc.os, hc.tape, hc.output, hc.size, fun k hk hne => hc.block k hk (by simp; exact fun e => hne (by rw [e]))⟩ (by
    cases hv : v.ownBlock with
    | none => exact .inl rfl
    | some g => exact .inr (fun e => by have := h.lt g hv; cases e; omega))
theorem chg_grownN {S : List Nat} {a W w5 : World} {v : Value} {o : Obj} {lo hi : Nat} (h : Chg S a W) (hg : (W.alloc o).grownBy w5 v.ownBlock) (hob : ∀ k, v.ownBlock = some k → lo ≤ k ∧ k < hi) (hlo : a.heap.size ≤ lo) : Chg S a w5 :=
  ⟨hg.os.trans (h.alloc o).os, hg.tape.trans (h.alloc o).tape, hg.output.trans (h.alloc o).output, Nat.le_trans (h.alloc o).size hg.size, fun k hk hs => (hg.block k (Nat.lt_of_lt_of_le hk (h.alloc o).size) (fun e => by have := hob k e.symm; omega)).trans ((h.alloc o).block k hk hs)⟩
theorem rd_grownN {B rb : Nat} {A : Option Addr} {n c m : Nat} {W w5 : World} {v : Value} {o : Obj} {lo hi : Nat} (h : Rd B rb A n c m W) (hg : (W.alloc o).grownBy w5 v.ownBlock) (hob : ∀ k, v.ownBlock = some k → lo ≤ k ∧ k < hi) (hlo : rb < lo) : Rd B rb A n c m w5 := by
  have hb := h.base
  cases hv : v.ownBlock with
  | none =>
    rw [hv] at hg
    exact h.keep (S := []) ⟨hg.os, hg.tape, hg.output, Nat.le_trans (by simp) hg.size, fun k hk _ => (hg.block k (by simp; omega) (fun e => by cases e)).trans (Below.heap_alloc _ _ _ hk)⟩ (by simp)
  | some g =>
    have := hob g hv
    rw [hv] at hg
    exact h.keep (S := [g]) (Chg.of_grown ((Chg.refl [g] W).alloc o) hg (.inl (by simp))) (by simp; omega)
theorem NV.chg {w w' : World} {A : Option Addr} {L : List Int} {rb : Nat} (h : NV w A L) (hc : Chg [rb] w w') (hne : ∀ a, A = some a → a.block ≠ rb) : NV w' A L :=
  ⟨fun h0 => let ⟨b, off, e, hl, hp⟩ := h.cells h0; ⟨b, off, e, Nat.lt_of_lt_of_le hl hc.size, fun i x hx => (hc.cell (p := ⟨b, off + i, none⟩) hl (by simp; exact hne _ e)).trans (hp i x hx)⟩⟩
end Go.Proofs.YtgdkionmeacalabGreat
end
section
namespace Go.Proofs.YtgdkionmeacalabGreat
open Go.RowKit
/-- behind a region that draws its order -/
theorem bdrewn {W w' : World} (h : Below W.drew.heap.size W.drew w') : Below W.heap.size W w' := (Below.refl _ _).drew.trans h
end Go.Proofs.YtgdkionmeacalabGreat
end
section
namespace Go.Proofs.YtgdkionmeacalabGreat
open Go.RowKit
set_option linter.unusedVariables false
set_option maxHeartbeats 1000000
/-- values written side by side -/
def wrAt (cs : Array Value) (o : Nat) : List Value → Array Value
  | [] => cs
  | v :: r => wrAt (cs.setIfInBounds o v) (o + 1) r
theorem wrAt_size : ∀ (vs : List Value) (cs : Array Value) (o : Nat), (wrAt cs o vs).size = cs.size
  | [], cs, o => rfl
  | v :: r, cs, o => by unfold wrAt; rw [wrAt_size r]; simp
theorem wrAt_lo : ∀ (vs : List Value) (cs : Array Value) (o i : Nat), i < o → (wrAt cs o vs)[i]? = cs[i]?
  | [], cs, o, i, _ => rfl
  | v :: r, cs, o, i, h => by unfold wrAt; rw [wrAt_lo r _ _ _ (by omega), Array.getElem?_setIfInBounds_ne (by omega)]
theorem wrAt_hi : ∀ (vs : List Value) (cs : Array Value) (o i : Nat), o + vs.length ≤ i → (wrAt cs o vs)[i]? = cs[i]?
  | [], cs, o, i, _ => rfl
  | v :: r, cs, o, i, h => by
    simp only [List.length_cons] at h
    unfold wrAt; rw [wrAt_hi r _ _ _ (by omega), Array.getElem?_setIfInBounds_ne (by omega)]
theorem wrAt_in : ∀ (vs : List Value) (cs : Array Value) (o j : Nat), o + vs.length ≤ cs.size → j < vs.length → (wrAt cs o vs)[o + j]? = vs[j]?
  | [], cs, o, j, _, h => by simp at h
  | v :: r, cs, o, 0, h, _ => by
    simp only [List.length_cons] at h
    unfold wrAt; rw [wrAt_lo r _ _ _ (by omega), Nat.add_zero, Array.getElem?_setIfInBounds_self_of_lt (by omega)]
    rfl
  | v :: r, cs, o, j + 1, h, hj => by
    simp only [List.length_cons] at h hj
    unfold wrAt
    rw [show o + (j + 1) = o + 1 + j from by omega, wrAt_in r _ _ _ (by simp; omega) (by omega)]
    simp
theorem putS {w : World} {b i : Nat} {cs : Array Value} {T : TypeId} {fz : Nat × Nat} (h : w.heap[b]? = some (.cells cs T fz)) (u : Value) : (w.setCell ⟨b, i, none⟩ u).heap[b]? = some (.cells (cs.setIfInBounds i u) T fz) := by
  simp [World.setCell, Array.getElem?_modify, h]
theorem cellS {w : World} {b : Nat} {cs : Array Value} {T : TypeId} {fz : Nat × Nat} (h : w.heap[b]? = some (.cells cs T fz)) (i : Nat) : w.cell? ⟨b, i, none⟩ = cs[i]? := by simp [World.cell?, h]
theorem frozenS {w : World} {b : Nat} {cs : Array Value} {T : TypeId} (h : w.heap[b]? = some (.cells cs T (0, 0))) (i : Nat) : w.frozen? ⟨b, i, none⟩ = false := by simp [World.frozen?, h]
theorem thereS {w : World} {b : Nat} {cs : Array Value} {T : TypeId} {fz : Nat × Nat} (h : w.heap[b]? = some (.cells cs T fz)) {i : Nat} (hi : i < cs.size) : ∃ v, w.cell? ⟨b, i, none⟩ = some v := ⟨cs[i], (cellS h i).trans (by simp [hi])⟩
theorem newS (w : World) (o : Obj) : (w.alloc o).heap[w.heap.size]? = some o := by
  show (w.heap.push _)[w.heap.size]? = _
  simp
theorem ltS {w : World} {g : Nat} {o : Obj} (h : w.heap[g]? = some o) : g < w.heap.size := (Array.getElem?_eq_some_iff.1 h).1
theorem gsetS {w w' : World} {g : Nat} (h : w.grownBy w' (some g)) (o : Nat) (v : Value) : w.grownBy (w'.setCell ⟨g, o, none⟩ v) (some g) :=
  ⟨h.os, h.tape, h.output, by simpa [World.setCell] using h.size, fun k hk hne => (Below.heap_setCell w' ⟨g, o, none⟩ v k (by rintro rfl; exact hne rfl)).trans (h.block k hk hne)⟩
theorem greflS (w : World) (g : Nat) : w.grownBy w (some g) := ⟨rfl, rfl, rfl, Nat.le_refl _, fun _ _ _ => rfl⟩
/-- the values lie in the cells from o on -/
def InS (cs : Array Value) (o : Nat) (l : List Value) : Prop := ∀ j u, l[j]? = some u → cs[o + j]? = some u
theorem InS.write {cs : Array Value} {o : Nat} {l : List Value} (h : o + l.length ≤ cs.size) : InS (wrAt cs o l) o l := fun j u hu => by
  have hj := (List.getElem?_eq_some_iff.1 hu).1
  rw [wrAt_in _ _ _ _ h hj, hu]
theorem InS.keepS {cs : Array Value} {o o' : Nat} {l m : List Value} (h : InS cs o' m) (hd : o' + m.length ≤ o ∨ o + l.length ≤ o') : InS (wrAt cs o l) o' m := fun j u hu => by
  have hj := (List.getElem?_eq_some_iff.1 hu).1
  rcases hd with hd | hd
  · rw [wrAt_lo _ _ _ _ (by omega)]; exact h j u hu
  · rw [wrAt_hi _ _ _ _ (by omega)]; exact h j u hu
end Go.Proofs.YtgdkionmeacalabGreat
end
section
namespace Go.Proofs.YtgdkionmeacalabGreat
open Go.RowKit
set_option linter.unusedVariables false
set_option maxHeartbeats 1000000
attribute [local go_sem] growUpon_value growUpon_skip growUpon_enter
structure Ln where
  wt : Int
  mi : Int
def valsLn (p : Ln) : List Value := [.int .i64 p.wt, .int .i64 p.mi]
/-- a slice that reads as this list -/
structure LnV (w : World) (A : Option Addr) (L : List Ln) : Prop where
  cells : 0 < L.length → ∃ b off, A = some ⟨b, off, none⟩ ∧ b < w.heap.size ∧ ∀ i p, L[i]? = some p → w.cell? ⟨b, off + i * 2, none⟩ = some (.int .i64 p.wt) ∧ w.cell? ⟨b, off + i * 2 + 1, none⟩ = some (.int .i64 p.mi)
theorem LnV.keep {w w' : World} {A : Option Addr} {L : List Ln} (h : LnV w A L) (hb : Below w.heap.size w w') : LnV w' A L :=
  ⟨fun h0 => let ⟨b, off, e, hl, hp⟩ := h.cells h0; ⟨b, off, e, Nat.lt_of_lt_of_le hl hb.size, fun i p hi => by
    obtain ⟨c0, c1⟩ := hp i p hi
    exact ⟨(hb.cell (p := ⟨b, off + i * 2, none⟩) hl).trans c0, (hb.cell (p := ⟨b, off + i * 2 + 1, none⟩) hl).trans c1⟩⟩⟩
theorem LnV.nil (w : World) (A : Option Addr) : LnV w A [] := ⟨fun h => absurd h (by simp)⟩
/-- what a new block holds -/
def LnB (w : World) (g : Nat) (L : List Ln) : Prop := ∃ cs : Array Value, w.heap[g]? = some (.cells cs 150 (0, 0)) ∧ cs.size = L.length * 2 ∧ ∀ i p, L[i]? = some p → InS cs (i * 2) (valsLn p)
theorem LnB.v {w : World} {g : Nat} {L : List Ln} (h : LnB w g L) : LnV w (some ⟨g, 0, none⟩) L := by
  obtain ⟨cs, hh, hs, hc⟩ := h
  refine ⟨fun _ => ⟨g, 0, rfl, ltS hh, fun i p hp => ?_⟩⟩
  have hi := hc i p hp
  simp only [Nat.zero_add]
  exact ⟨(cellS hh _).trans (hi 0 _ rfl), (cellS hh _).trans (hi 1 _ rfl)⟩
theorem LnB.lt {w : World} {g : Nat} {L : List Ln} (h : LnB w g L) : g < w.heap.size := by obtain ⟨cs, hh, _⟩ := h; exact ltS hh
theorem LnB.keep {w w' : World} {g : Nat} {L : List Ln} (h : LnB w g L) (hb : Below w.heap.size w w') : LnB w' g L := by
  obtain ⟨cs, hh, hs, hc⟩ := h
  exact ⟨cs, (hb.block g (ltS hh)).trans hh, hs, hc⟩
theorem LnB.but {w w' : World} {g h : Nat} {L : List Ln} (hi : LnB w h L) (hg : w.grownBy w' (some g)) (hne : h ≠ g) : LnB w' h L := by
  obtain ⟨cs, hh, hs, hc⟩ := hi
  exact ⟨cs, (hg.block h (ltS hh) (fun e => hne (Option.some.inj e))).trans hh, hs, hc⟩
end Go.Proofs.YtgdkionmeacalabGreat
end
section
namespace Go.Proofs.YtgdkionmeacalabGreat
open Go.RowKit
set_option linter.unusedVariables false
set_option maxHeartbeats 1000000
attribute [local go_sem] growUpon_value growUpon_skip growUpon_enter
structure Sp where
  sa : Int
  many : Int
  need : Int
def valsSp (p : Sp) : List Value := [.int .i64 p.sa, .int .i64 p.many, .int .i64 p.need]
/-- a slice that reads as this list -/
structure SpV (w : World) (A : Option Addr) (L : List Sp) : Prop where
  cells : 0 < L.length → ∃ b off, A = some ⟨b, off, none⟩ ∧ b < w.heap.size ∧ ∀ i p, L[i]? = some p → w.cell? ⟨b, off + i * 3, none⟩ = some (.int .i64 p.sa) ∧ w.cell? ⟨b, off + i * 3 + 1, none⟩ = some (.int .i64 p.many) ∧ w.cell? ⟨b, off + i * 3 + 2, none⟩ = some (.int .i64 p.need)
theorem SpV.keep {w w' : World} {A : Option Addr} {L : List Sp} (h : SpV w A L) (hb : Below w.heap.size w w') : SpV w' A L :=
  ⟨fun h0 => let ⟨b, off, e, hl, hp⟩ := h.cells h0; ⟨b, off, e, Nat.lt_of_lt_of_le hl hb.size, fun i p hi => by
    obtain ⟨c0, c1, c2⟩ := hp i p hi
    exact ⟨(hb.cell (p := ⟨b, off + i * 3, none⟩) hl).trans c0, (hb.cell (p := ⟨b, off + i * 3 + 1, none⟩) hl).trans c1, (hb.cell (p := ⟨b, off + i * 3 + 2, none⟩) hl).trans c2⟩⟩⟩
theorem SpV.nil (w : World) (A : Option Addr) : SpV w A [] := ⟨fun h => absurd h (by simp)⟩
/-- what a new block holds -/
def SpB (w : World) (g : Nat) (L : List Sp) : Prop := ∃ cs : Array Value, w.heap[g]? = some (.cells cs 152 (0, 0)) ∧ cs.size = L.length * 3 ∧ ∀ i p, L[i]? = some p → InS cs (i * 3) (valsSp p)
theorem SpB.v {w : World} {g : Nat} {L : List Sp} (h : SpB w g L) : SpV w (some ⟨g, 0, none⟩) L := by
  obtain ⟨cs, hh, hs, hc⟩ := h
  refine ⟨fun _ => ⟨g, 0, rfl, ltS hh, fun i p hp => ?_⟩⟩
  have hi := hc i p hp
  simp only [Nat.zero_add]
  exact ⟨(cellS hh _).trans (hi 0 _ rfl), (cellS hh _).trans (hi 1 _ rfl), (cellS hh _).trans (hi 2 _ rfl)⟩
theorem SpB.lt {w : World} {g : Nat} {L : List Sp} (h : SpB w g L) : g < w.heap.size := by obtain ⟨cs, hh, _⟩ := h; exact ltS hh
theorem SpB.keep {w w' : World} {g : Nat} {L : List Sp} (h : SpB w g L) (hb : Below w.heap.size w w') : SpB w' g L := by
  obtain ⟨cs, hh, hs, hc⟩ := h
  exact ⟨cs, (hb.block g (ltS hh)).trans hh, hs, hc⟩
theorem SpB.but {w w' : World} {g h : Nat} {L : List Sp} (hi : SpB w h L) (hg : w.grownBy w' (some g)) (hne : h ≠ g) : SpB w' h L := by
  obtain ⟨cs, hh, hs, hc⟩ := hi
  exact ⟨cs, (hg.block h (ltS hh) (fun e => hne (Option.some.inj e))).trans hh, hs, hc⟩
theorem madeSp : ∃ f : Nat → Array Value, (∀ n, (f n).size = n * 3) ∧ ∀ (n : Nat) (w : World), n ≤ 1048576 → (Instr.makeSlice 118 (.int .i64 (n : Int)) (.int .i64 (n : Int))).run Tryz.prog w = .ok (.slice (some ⟨w.heap.size, 0, none⟩) n n) (w.alloc (.cells (f n) 152)) := by
  have hinfo : (Tryz.prog.info? 152).map (fun i => (i.zero, i.size, i.bytes)) = some (some (.agg #[.int .i64 0, .int .i64 0, .int .i64 0]), 3, 24) := by kernel_rfl
  obtain ⟨i, hi, h1, h2, h3⟩ := info_parts hinfo
  refine ⟨fun n => madeCells (Value.agg #[.int .i64 0, .int .i64 0, .int .i64 0]).cells (n * 3), fun n => size_madeCells _ _, fun n w hn => ?_⟩
  have hr := run_make (P := Tryz.prog) w 118 152 i _ Tryz.underlying118 hi h1 .i64 .i64 n n (by omega) (Int.le_refl _) (by rw [h3]; omega) (by omega)
  rw [h2] at hr
  simpa using hr
theorem putSp {w : World} {b : Nat} {cs : Array Value} {T : TypeId} {fz : Nat × Nat} (h : w.heap[b]? = some (.cells cs T fz)) (o : Nat) (p : Sp) :
    ((((w.setCell ⟨b, o, none⟩ (.int .i64 p.sa)).setCell ⟨b, o + 1, none⟩ (.int .i64 p.many)).setCell ⟨b, o + 2, none⟩ (.int .i64 p.need))).heap[b]? = some (.cells (wrAt cs o (valsSp p)) T fz) :=
  putS (putS (putS h _) _) _
theorem putSpb {B b : Nat} {a w : World} (h : Below B a w) (hb : B ≤ b) (o : Nat) (p : Sp) : Below B a ((((w.setCell ⟨b, o, none⟩ (.int .i64 p.sa)).setCell ⟨b, o + 1, none⟩ (.int .i64 p.many)).setCell ⟨b, o + 2, none⟩ (.int .i64 p.need))) :=
  (((h).setCell hb _).setCell hb _).setCell hb _
end Go.Proofs.YtgdkionmeacalabGreat
end
section
namespace Go.Proofs.YtgdkionmeacalabGreat
open Go.RowKit
set_option linter.unusedVariables false
set_option maxHeartbeats 1000000
attribute [local go_sem] growUpon_value growUpon_skip growUpon_enter
theorem pick_any2 {B rb : Nat} {A : Option Addr} {l c m : Nat} (n : Int) (w : World) (h : Rd B rb A l c m w) (hm : m ≤ 1000000) :
    Calls Tryz.prog 44 #[.pointer (some ⟨rb, 0, none⟩), .int .i64 n] w fun e w' => (∃ v, e = .returned (.int .i64 v) ∧ (1 ≤ n → 0 ≤ v ∧ v < n) ∧ (n < 1 → v = 0)) ∧ Rd B rb A l c (m + 1) w' ∧ Chg [rb] w w' := by
  by_cases hn : 1 ≤ n
  · exact (pick_any n w h hm).mono fun e w' ⟨⟨v, he, h3⟩, h1, h2⟩ => ⟨⟨v, he, h3, fun h => by omega⟩, h1, h2⟩
  · exact (pick_lo n w h hm (by omega)).mono fun e w' ⟨he, h1, h2⟩ => ⟨⟨0, he, fun h => absurd h hn, fun _ => rfl⟩, h1, h2⟩
def lnvals : List Ln → List Value
  | [] => []
  | r :: t => valsLn r ++ lnvals t
theorem lnvals_append (A B : List Ln) : lnvals (A ++ B) = lnvals A ++ lnvals B := by
  induction A with
  | nil => rfl
  | cons r t ih => simp [lnvals, ih]
theorem lnvals_snoc (L : List Ln) (r : Ln) : lnvals L ++ valsLn r = lnvals (L ++ [r]) := by rw [lnvals_append]; simp [lnvals]
theorem lnvals_get : ∀ {M : List Ln} {i : Nat} {r : Ln}, M[i]? = some r → ∀ j, j < 2 → (lnvals M)[i * 2 + j]? = (valsLn r)[j]?
  | [], i, r, h, _, _ => by simp at h
  | q :: t, 0, r, h, j, hj => by
    simp at h; subst h
    show (valsLn q ++ lnvals t)[0 * 2 + j]? = _
    rw [List.getElem?_append_left (by simp [valsLn]; omega)]; simp
  | q :: t, i + 1, r, h, j, hj => by
    show (valsLn q ++ lnvals t)[(i + 1) * 2 + j]? = _
    rw [List.getElem?_append_right (by simp [valsLn]; omega)]
    have := lnvals_get (M := t) (i := i) (r := r) (by simpa using h) j hj
    rw [← this]; congr 1; simp [valsLn]; omega
theorem ln_infoG : ∃ (i : TypeInfo) (z : Value), Tryz.prog.info? 150 = some i ∧ i.zero = some z ∧ i.size = 2 ∧ i.bytes = 16 ∧ z.cells.size = 2 := by
  have hinfo : (Tryz.prog.info? 150).map (fun i => (i.zero, i.size, i.bytes)) = some (some (.agg #[.int .i64 0, .int .i64 0]), 2, 16) := by kernel_rfl
  obtain ⟨i, hi, h1, h2, h3⟩ := info_parts hinfo
  exact ⟨i, _, hi, h1, h2, h3, rfl⟩
theorem ln_newG (W : World) (r : Ln) (T : TypeId) : ∀ (j : Nat) (u : Value), (valsLn r)[j]? = some u → (W.alloc (.cells #[.int .i64 r.wt, .int .i64 r.mi] T)).cell? ((⟨W.heap.size, 0, none⟩ : Addr).add j) = some u := fun j u h => by
  have hadd : (⟨W.heap.size, 0, none⟩ : Addr).add j = ⟨W.heap.size, j, none⟩ := by unfold Addr.add; split <;> simp_all
  rw [hadd]
  exact (cellS (newS W _) j).trans (by simpa [valsLn] using h)
theorem valsLn_oneG (r : Ln) : ∀ u ∈ valsLn r, u.oneCell' = true := by intro u hu; simp [valsLn] at hu; rcases hu with rfl | rfl <;> rfl
theorem ln_inG {w : World} {base n : Nat} {v : Value} {M : List Ln} {T : TypeId} (h : w.ownsRow base T 2 v n (lnvals M)) (hn : n = M.length) :
    (v = .slice none 0 0 ∧ M = []) ∨ ∃ g cap, ∃ cs : Array Value, v = .slice (some ⟨g, 0, none⟩) n cap ∧ base ≤ g ∧ n ≤ cap ∧ w.heap[g]? = some (.cells cs T (0, 0)) ∧ cs.size = cap * 2 ∧ ∀ (i : Nat) (x : Ln), M[i]? = some x → InS cs (i * 2) (valsLn x) := by
  rcases h.2 with ⟨rfl, h0⟩ | ⟨g, cap, cur, rfl, hb, hg, hc, _, hs, ht⟩
  · exact .inl ⟨rfl, List.length_eq_zero_iff.1 (by omega)⟩
  · refine .inr ⟨g, cap, cur, rfl, hb, hc, hg, hs, fun i r hr j u hu => ?_⟩
    have hj : j < 2 := by have := (List.getElem?_eq_some_iff.1 hu).1; simpa [valsLn] using this
    have e := (lnvals_get hr j hj).trans hu
    rw [← ht, List.getElem?_take] at e
    have : i < M.length := (List.getElem?_eq_some_iff.1 hr).1
    rw [if_pos (by omega)] at e
    simpa using e
theorem LnV.inG {w : World} {g : Nat} {cs : Array Value} {T : TypeId} {M : List Ln} (hh : w.heap[g]? = some (.cells cs T (0, 0))) (hc : ∀ (i : Nat) (x : Ln), M[i]? = some x → InS cs (i * 2) (valsLn x)) : LnV w (some ⟨g, 0, none⟩) M :=
  ⟨fun _ => ⟨g, 0, rfl, ltS hh, fun i r hr => by
    have e : ∀ j u, (valsLn r)[j]? = some u → w.cell? ⟨g, 0 + i * 2 + j, none⟩ = some u := fun j u hu => by rw [Nat.zero_add]; exact (cellS hh _).trans (hc i r hr j u hu)
    exact ⟨e 0 _ rfl, e 1 _ rfl⟩⟩⟩
theorem LnV.chgG {w w' : World} {A : Option Addr} {L : List Ln} {rb : Nat} (h : LnV w A L) (hc : Chg [rb] w w') (hne : ∀ a, A = some a → a.block ≠ rb) : LnV w' A L :=
  ⟨fun h0 => let ⟨b, off, e, hl, hp⟩ := h.cells h0; ⟨b, off, e, Nat.lt_of_lt_of_le hl hc.size, fun i x hx => by
    have k : ∀ j, w'.cell? ⟨b, j, none⟩ = w.cell? ⟨b, j, none⟩ := fun j => hc.cell (p := ⟨b, j, none⟩) hl (by simp; exact hne _ e)
    have := hp i x hx
    exact ⟨(k _).trans this.1, (k _).trans this.2⟩⟩⟩
/-- a list that was drawn, in memory from a block on -/
def LnO (base : Nat) (w : World) (v : Value) (L : List Ln) : Prop := ∃ A c, v = .slice A L.length c ∧ L.length ≤ c ∧ LnV w A L ∧ ∀ a : Addr, A = some a → base ≤ a.block
theorem LnO.chg {base rb : Nat} {w w' : World} {v : Value} {L : List Ln} (h : LnO base w v L) (hc : Chg [rb] w w') (hr : rb < base) : LnO base w' v L := by
  obtain ⟨A, c, e, h1, h2, h3⟩ := h
  exact ⟨A, c, e, h1, h2.chgG hc (fun a ha => by have := h3 a ha; omega), h3⟩
theorem LnO.of {base : Nat} {w : World} {v : Value} {L : List Ln} {T : TypeId} (h : w.ownsRow base T 2 v L.length (lnvals L)) : LnO base w v L := by
  rcases ln_inG h rfl with ⟨rfl, rfl⟩ | ⟨g, cap, cs, rfl, hg, hc, hh, hs, hin⟩
  · exact ⟨none, 0, rfl, Nat.le_refl _, LnV.nil _ _, fun a e => by cases e⟩
  · exact ⟨_, cap, rfl, hc, LnV.inG hh hin, fun a e => by cases e; exact hg⟩
def spvals : List Sp → List Value
  | [] => []
  | r :: t => valsSp r ++ spvals t
theorem spvals_get : ∀ {M : List Sp} {i : Nat} {r : Sp}, M[i]? = some r → ∀ j, j < 3 → (spvals M)[i * 3 + j]? = (valsSp r)[j]?
  | [], i, r, h, _, _ => by simp at h
  | q :: t, 0, r, h, j, hj => by
    simp at h; subst h
    show (valsSp q ++ spvals t)[0 * 3 + j]? = _
    rw [List.getElem?_append_left (by simp [valsSp]; omega)]; simp
  | q :: t, i + 1, r, h, j, hj => by
    show (valsSp q ++ spvals t)[(i + 1) * 3 + j]? = _
    rw [List.getElem?_append_right (by simp [valsSp]; omega)]
    have := spvals_get (M := t) (i := i) (r := r) (by simpa using h) j hj
    rw [← this]; congr 1; simp [valsSp]; omega
theorem sp_inG {w : World} {base n : Nat} {v : Value} {M : List Sp} {T : TypeId} (h : w.ownsRow base T 3 v n (spvals M)) (hn : n = M.length) :
    (v = .slice none 0 0 ∧ M = []) ∨ ∃ g cap, ∃ cs : Array Value, v = .slice (some ⟨g, 0, none⟩) n cap ∧ base ≤ g ∧ n ≤ cap ∧ w.heap[g]? = some (.cells cs T (0, 0)) ∧ cs.size = cap * 3 ∧ ∀ (i : Nat) (x : Sp), M[i]? = some x → InS cs (i * 3) (valsSp x) := by
  rcases h.2 with ⟨rfl, h0⟩ | ⟨g, cap, cur, rfl, hb, hg, hc, _, hs, ht⟩
  · exact .inl ⟨rfl, List.length_eq_zero_iff.1 (by omega)⟩
  · refine .inr ⟨g, cap, cur, rfl, hb, hc, hg, hs, fun i r hr j u hu => ?_⟩
    have hj : j < 3 := by have := (List.getElem?_eq_some_iff.1 hu).1; simpa [valsSp] using this
    have e := (spvals_get hr j hj).trans hu
    rw [← ht, List.getElem?_take] at e
    have : i < M.length := (List.getElem?_eq_some_iff.1 hr).1
    rw [if_pos (by omega)] at e
    simpa using e
theorem SpV.inG {w : World} {g : Nat} {cs : Array Value} {T : TypeId} {M : List Sp} (hh : w.heap[g]? = some (.cells cs T (0, 0))) (hc : ∀ (i : Nat) (x : Sp), M[i]? = some x → InS cs (i * 3) (valsSp x)) : SpV w (some ⟨g, 0, none⟩) M :=
  ⟨fun _ => ⟨g, 0, rfl, ltS hh, fun i r hr => by
    have e : ∀ j u, (valsSp r)[j]? = some u → w.cell? ⟨g, 0 + i * 3 + j, none⟩ = some u := fun j u hu => by rw [Nat.zero_add]; exact (cellS hh _).trans (hc i r hr j u hu)
    exact ⟨e 0 _ rfl, e 1 _ rfl, e 2 _ rfl⟩⟩⟩
theorem SpV.chgG {w w' : World} {A : Option Addr} {L : List Sp} {rb : Nat} (h : SpV w A L) (hc : Chg [rb] w w') (hne : ∀ a, A = some a → a.block ≠ rb) : SpV w' A L :=
  ⟨fun h0 => let ⟨b, off, e, hl, hp⟩ := h.cells h0; ⟨b, off, e, Nat.lt_of_lt_of_le hl hc.size, fun i x hx => by
    have k : ∀ j, w'.cell? ⟨b, j, none⟩ = w.cell? ⟨b, j, none⟩ := fun j => hc.cell (p := ⟨b, j, none⟩) hl (by simp; exact hne _ e)
    have := hp i x hx
    exact ⟨(k _).trans this.1, (k _).trans this.2.1, (k _).trans this.2.2⟩⟩⟩
/-- a list that was drawn, in memory from a block on -/
def SpO (base : Nat) (w : World) (v : Value) (L : List Sp) : Prop := ∃ A c, v = .slice A L.length c ∧ L.length ≤ c ∧ SpV w A L ∧ ∀ a : Addr, A = some a → base ≤ a.block
theorem SpO.chg {base rb : Nat} {w w' : World} {v : Value} {L : List Sp} (h : SpO base w v L) (hc : Chg [rb] w w') (hr : rb < base) : SpO base w' v L := by
  obtain ⟨A, c, e, h1, h2, h3⟩ := h
  exact ⟨A, c, e, h1, h2.chgG hc (fun a ha => by have := h3 a ha; omega), h3⟩
theorem SpO.of {base : Nat} {w : World} {v : Value} {L : List Sp} {T : TypeId} (h : w.ownsRow base T 3 v L.length (spvals L)) : SpO base w v L := by
  rcases sp_inG h rfl with ⟨rfl, rfl⟩ | ⟨g, cap, cs, rfl, hg, hc, hh, hs, hin⟩
  · exact ⟨none, 0, rfl, Nat.le_refl _, SpV.nil _ _, fun a e => by cases e⟩
  · exact ⟨_, cap, rfl, hc, SpV.inG hh hin, fun a e => by cases e; exact hg⟩
set_option maxRecDepth 100000 in
theorem goodLines_any {B rb : Nat} {A : Option Addr} {l c m : Nat} (w : World) (h : Rd B rb A l c m w) (hm : m ≤ 700000) :
    Calls Tryz.prog 98 #[.pointer (some ⟨rb, 0, none⟩)] w fun e w' => (∃ v, ∃ L : List Ln, e = .returned v ∧ w'.ownsRow w.heap.size 150 2 v L.length (lnvals L) ∧ 1 ≤ L.length ∧ L.length ≤ 5) ∧ Rd B rb A l c (m + 20) w' ∧ Chg [rb] w w' := by
  obtain ⟨ti, tz, ti1, ti2, ti3, ti4, ti5⟩ := ln_infoG
  go_enter Tryz.func98, Tryz.ntmps98
  go_wp2_with fail
  have hlt := h.lt
  obtain ⟨W0, hW0⟩ : ∃ W0, w.alloc (.cells #[] 150 (0, 0)) = W0 := ⟨_, rfl⟩
  have hs0 : w.heap.size + 1 = W0.heap.size := by rw [← hW0]; simp
  have hr0 : Rd B rb A l c m W0 := by rw [← hW0]; exact h.alloc _
  have ho0 : W0.ownsRow w.heap.size 150 2 (.slice (some ⟨w.heap.size, 0, none⟩) 0 0) 0 [] := by rw [← hW0]; exact World.ownsRow_lit (base := w.heap.size) (e := 150) (size := 2) w #[] 0 (Nat.le_refl _) (by decide) rfl
  have hc0 : Chg [rb] w W0 := by rw [← hW0]; exact (Chg.refl [rb] w).alloc _
  rw [hW0, hs0]
  clear hW0
  with_reducible refine (one_lit_in 1 5 W0 hr0 (by omega) (by simp) (by omega) (by omega) (by simp [isIn])).mono ?_
  rintro e w1 ⟨⟨z, rfl, z0, z1⟩, hr1, hc1⟩
  obtain ⟨n, rfl⟩ := Int.eq_ofNat_of_zero_le (show 0 ≤ z by omega)
  have ho1 := own_chgN ho0 hc1 hlt
  have HO1 := Lib.hid ho1
  have HR1 := Lib.hid hr1
  have HC1 := Lib.hid (hc0.trans hc1)
  clear ho1 hr1 hc1 ho0 hr0 hc0
  go_wp2_with fail
  go_loopw [3, 4] (fun out i wr => ∃ k : Nat, i = .int .i64 k ∧ ∃ L : List Ln, k + L.length = n ∧ wr.ownsRow w.heap.size 150 2 out L.length (lnvals L) ∧ Rd B rb A l c (m + 1 + 2 * L.length) wr ∧ Chg [rb] w wr) (fun _ i _ => (intOf i).toNat)
  case atStart => exact ⟨n, rfl, [], by simp, HO1.out, HR1.out, HC1.out⟩
  case round =>
    obtain ⟨k, rfl, L, hk, ho, hr, hc⟩ := hrel
    clear HO1 HR1 HC1
    rcases k with _ | k
    · have hd : decide (((0 : Nat) : Int) > 0) = false := by simp
      have HO := Lib.hid ho
      have HR := Lib.hid hr
      have HC := Lib.hid hc
      clear ho hr hc
      go_wp2
      go_ret
      exact ⟨⟨_, L, rfl, HO.out, by omega, by omega⟩, HR.out.mono (by omega), HC.out⟩
    · have hd : decide (((k + 1 : Nat) : Int) > 0) = true := by simp
      have hlt0 := h.lt
      go_wp2_with fail
      with_reducible refine (one_lit_in 0 5 _ hr (by omega) (by simp) (by omega) (by omega) (by simp [isIn])).mono ?_
      rintro e w2 ⟨⟨y1, rfl, y1a, y1b⟩, hr2, hc2⟩
      have ho2 := own_chgN ho hc2 hlt0
      have HO := Lib.hid ho2
      have HC := Lib.hid (hc.trans hc2)
      clear ho hr hc hc2 ho2
      go_wp2_with fail
      with_reducible refine (one_lit_in 0 10 _ hr2 (by omega) (by simp) (by omega) (by omega) (by simp [isIn])).mono ?_
      rintro e w3 ⟨⟨y2, rfl, y2a, y2b⟩, hr3, hc3⟩
      have ho3 := own_chgN HO.out hc3 hlt0
      have hw3 : w.heap.size ≤ w3.heap.size := Nat.le_trans HC.out.size hc3.size
      have hob := ho3.lt
      have HR := Lib.hid hr3
      replace HC := Lib.hid (HC.out.trans hc3)
      replace HO := Lib.hid ho3
      clear hr2 hr3 hc3 ho3
      go_wp2_with (at_builtin; refine wpList_append_own _ rfl _ _ 30 rfl w.heap.size 150 ti tz 2 16 Tryz.underlying30 ti1 ti2 ti3 ti4 ti5 (by decide) _ _ _ rfl (HO.out.alloc _) ⟨w3.heap.size, 0, none⟩ 1 1 (valsLn ⟨y1, y2⟩) rfl rfl (ln_newG _ ⟨y1, y2⟩ _) (valsLn_oneG _) (by simp only [maxLen]; omega) (by omega) (by simp; omega) ?_)
      intro v5 w5 how5 hgr5 _
      rw [lnvals_snoc] at how5
      replace HC := Lib.hid (chg_grownN HC.out hgr5 hob (Nat.le_refl _))
      replace HR := Lib.hid (rd_grownN HR.out hgr5 hob hlt0)
      replace HO := Lib.hid how5
      clear how5 hgr5 hob
      go_wp2
      go_roundw
      case rel => exact ⟨k, by go_num, L ++ [⟨y1, y2⟩], by simp; omega, by simpa using HO.out, HR.out.mono (by simp; omega), HC.out⟩
      case measure => simp [intOf]
end Go.Proofs.YtgdkionmeacalabGreat
end
